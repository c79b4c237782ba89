/- Several texts in one: PairA, Place, PairB, PairC, PairD, PairE, PairF, PairM, PairN, IeA, IeB. -/
import Derived.Deep.RegionHeld
import Derived.Deep.DeepCutAuto
import Derived.OwnWalk
import Derived.Laws.OwnMore
import Derived.Test.YtjdehbpgdplolaaGreatDoorQLookOwn6
import Derived.Test.YtjdehbpgdplolaaGreatDoorQLookOwn3
import Derived.Test.YtjdehbpgdplolaaGreatDoorQLookOwn2
import Derived.Test.YtjdehbpgdplolaaGreatDoorQLookOwn5
import Derived.Test.YtjdehbpgdplolaaGreatDoorQLookOwn11
import Derived.Test.YtjdehbpgdplolaaGreatDoorQLookOwn9
namespace Go.Proofs.YtjdehbpgdplolaaGreatDoor
open Go.RowKit Go.Sort
set_option linter.unusedVariables false

abbrev V3 := Int × Int × Int
/-- what the specification's cosine comparison answers -/
def cosP (a b c d : V3) : Int := cosS (dotW a.1 a.2.1 a.2.2 b.1 b.2.1 b.2.2) (dotW c.1 c.2.1 c.2.2 d.1 d.2.1 d.2.2) (wrap64 (wrap64 (dotW a.1 a.2.1 a.2.2 b.1 b.2.1 b.2.2 * dotW a.1 a.2.1 a.2.2 b.1 b.2.1 b.2.2) * wrap64 (dotW c.1 c.2.1 c.2.2 c.1 c.2.1 c.2.2 * dotW d.1 d.2.1 d.2.2 d.1 d.2.1 d.2.2))) (wrap64 (wrap64 (dotW c.1 c.2.1 c.2.2 d.1 d.2.1 d.2.2 * dotW c.1 c.2.1 c.2.2 d.1 d.2.1 d.2.2) * wrap64 (dotW a.1 a.2.1 a.2.2 a.1 a.2.1 a.2.2 * dotW b.1 b.2.1 b.2.2 b.1 b.2.1 b.2.2)))
theorem cosP_any (a b c d : V3) (w : World) : Calls Tryz.prog 100 #[vecV a, vecV b, vecV c, vecV d] w fun e w' => e = .returned (.int .i64 (cosP a b c d)) ∧ Below w.heap.size w w' :=
  l02Cos_any a.1 a.2.1 a.2.2 b.1 b.2.1 b.2.2 c.1 c.2.1 c.2.2 d.1 d.2.1 d.2.2 w
def lessC (c : Int) (p1 p2 q1 q2 : Int) : Bool := if c = 0 then (decide (p1 < q1) || (decide (p1 = q1) && decide (p2 < q2))) else decide (c < 0)
def lessB (L : List St) (n : Nat) (p1 p2 q1 q2 : Int) : Bool := lessC (cosP (atV L n p1) (atV L n p2) (atV L n q1) (atV L n q2)) p1 p2 q1 q2
def PairAt (w : World) (b : Nat) (x y : Int) : Prop := w.cell? ⟨b, 0, none⟩ = some (.int .i64 x) ∧ w.cell? ⟨b, 1, none⟩ = some (.int .i64 y)
theorem PairAt.kept {w w' : World} {b : Nat} {x y : Int} (h : PairAt w b x y) (hB : Below w.heap.size w w') : PairAt w' b x y := by
  have hb := World.block_lt_of_cell? w _ h.1
  exact ⟨by rw [hB.cell (p := ⟨b, 0, none⟩) hb]; exact h.1, by rw [hB.cell (p := ⟨b, 1, none⟩) hb]; exact h.2⟩
theorem pairAt_new (w : World) (x y : Int) (t : TypeId) : PairAt (w.alloc (.cells #[.int .i64 x, .int .i64 y] t)) w.heap.size x y := by
  constructor <;> simp

end Go.Proofs.YtjdehbpgdplolaaGreatDoor

namespace Go.Proofs.YtjdehbpgdplolaaGreatDoor
open Go.RowKit
set_option linter.unusedVariables false
theorem VecAt.lt' {w : World} {b : Nat} {x y z : Int} (h : VecAt w b x y z) : b < w.heap.size := World.block_lt_of_cell? w _ h.1
theorem stepCall {w1 wx wn : World} {X : Prop} (hx : Below wx.heap.size wx wn) (h : X ∧ Below w1.heap.size w1 wx) : Below w1.heap.size w1 wn := below_call h.2 hx
def Resv (w : World) (b : Nat) : Prop := VecAt w b 0 0 0 ∧ FreeAt w b
theorem newVec {wy wn : World} {t : TypeId} (hx : Below (wy.alloc (.cells #[.int .i64 0, .int .i64 0, .int .i64 0] t)).heap.size (wy.alloc (.cells #[.int .i64 0, .int .i64 0, .int .i64 0] t)) wn) : Resv wn wy.heap.size :=
  ⟨(vecAt_new wy 0 0 0 t).kept (by simp) hx, (freeAt_new wy 0 0 0 t).kept (by simp) hx⟩
theorem newVecD {wy wn : World} {t : TypeId} (hx : Below ((wy.alloc (.cells #[.int .i64 0, .int .i64 0, .int .i64 0] t)).drew).heap.size ((wy.alloc (.cells #[.int .i64 0, .int .i64 0, .int .i64 0] t)).drew) wn) : Resv wn wy.heap.size :=
  ⟨(show VecAt (wy.alloc (.cells #[.int .i64 0, .int .i64 0, .int .i64 0] t)).drew wy.heap.size 0 0 0 from vecAt_new wy 0 0 0 t).kept (by simp) hx, (show FreeAt (wy.alloc (.cells #[.int .i64 0, .int .i64 0, .int .i64 0] t)).drew wy.heap.size from freeAt_new wy 0 0 0 t).kept (by simp) hx⟩
theorem keptVec {wx wn : World} {b : Nat} (h : Resv wx b) (hx : Below wx.heap.size wx wn) : Resv wn b := ⟨h.1.kept (VecAt.lt' h.1) hx, h.2.kept (VecAt.lt' h.1) hx⟩
theorem stepAlloc2 {w1 wx : World} (h : Below w1.heap.size w1 wx) (o : Obj) : Below w1.heap.size w1 (wx.alloc o) := h.alloc h.size _
theorem vecAt_set3 {w : World} {b : Nat} (h : Resv w b) (x y z : Int) : VecAt (((w.setCell ⟨b, 0, none⟩ (.int .i64 x)).setCell ⟨b, 1, none⟩ (.int .i64 y)).setCell ⟨b, 2, none⟩ (.int .i64 z)) b x y z := by
  obtain ⟨⟨h0, h1, h2⟩, _⟩ := h
  refine ⟨?_, ?_, ?_⟩ <;> simp [go_sem, h0, h1, h2]
theorem below_set3' {w1 wx : World} {b : Nat} (h : Below w1.heap.size w1 wx) (hb : w1.heap.size ≤ b) (x y z : Value) : Below w1.heap.size w1 (((wx.setCell ⟨b, 0, none⟩ x).setCell ⟨b, 1, none⟩ y).setCell ⟨b, 2, none⟩ z) := ((h.setCell hb _).setCell hb _).setCell hb _
theorem stepAlloc {w1 wx : World} {X : Prop} (h : X ∧ Below w1.heap.size w1 wx) (o : Obj) : Below w1.heap.size w1 (wx.alloc o) := h.2.alloc h.2.size _
theorem stepSet3 {w1 wx : World} {X : Prop} {b : Nat} (h : X ∧ Below w1.heap.size w1 wx) (hb : w1.heap.size ≤ b) (x y z : Value) : Below w1.heap.size w1 (((wx.setCell ⟨b, 0, none⟩ x).setCell ⟨b, 1, none⟩ y).setCell ⟨b, 2, none⟩ z) := ((h.2.setCell hb _).setCell hb _).setCell hb _

end Go.Proofs.YtjdehbpgdplolaaGreatDoor

namespace Go.Proofs.YtjdehbpgdplolaaGreatDoor
open Go.RowKit Go.Sort
set_option linter.unusedVariables false

abbrev P2 := Int × Int
def prA (O : List P2) (i : Nat) : P2 := O.getD i (0, 0)
/-- from k down, past all that p is ahead of -/
def backK (f : P2 → P2 → Bool) (p : P2) (O : List P2) : Nat → Nat
  | 0 => 0
  | k + 1 => if f p (prA O k) = true then backK f p O k else k + 1
theorem backK_le (f : P2 → P2 → Bool) (p : P2) (O : List P2) : ∀ k, backK f p O k ≤ k
  | 0 => Nat.le_refl _
  | k + 1 => by unfold backK; split <;> have := backK_le f p O k <;> omega
def insP (f : P2 → P2 → Bool) (p : P2) (O : List P2) : List P2 := O.take (backK f p O O.length) ++ [p] ++ O.drop (backK f p O O.length)
theorem insP_len (f : P2 → P2 → Bool) (p : P2) (O : List P2) : (insP f p O).length = O.length + 1 := by
  have := backK_le f p O O.length
  unfold insP
  simp
  omega
def lessP (L : List St) (p q : P2) : Bool := lessB L L.length p.1 p.2 q.1 q.2
def rowP (L : List St) (O : List P2) (i : Nat) : Nat → List P2
  | 0 => O
  | m + 1 => insP (lessP L) ((stA L i).1, (stA L (i + 1 + m)).1) (rowP L O i m)
def allP (L : List St) : Nat → List P2
  | 0 => []
  | i + 1 => rowP L (allP L i) i (L.length - (i + 1))
theorem rowP_len (L : List St) (O : List P2) (i : Nat) : ∀ m, (rowP L O i m).length = O.length + m
  | 0 => rfl
  | m + 1 => by rw [rowP, insP_len, rowP_len L O i m]; omega
theorem allP_len (L : List St) (h : L.length ≤ 12) : ∀ i, i ≤ L.length → (allP L i).length ≤ 12 * i
  | 0, _ => Nat.le_refl _
  | i + 1, hi => by rw [allP, rowP_len]; have := allP_len L h i (by omega); omega
def prC (p : P2) : List Value := [.int .i64 p.1, .int .i64 p.2]
def flatP (O : List P2) : List Value := O.flatMap prC
theorem flatP_len (O : List P2) : (flatP O).length = O.length * 2 := by
  unfold flatP
  induction O with
  | nil => rfl
  | cons x l ih => simp [List.flatMap_cons, prC] at *; omega
theorem flatP_app (A B : List P2) : flatP (A ++ B) = flatP A ++ flatP B := by unfold flatP; rw [List.flatMap_append]
theorem flatP_at (O : List P2) : ∀ (i : Nat), i < O.length → (flatP O)[i * 2]? = some (.int .i64 (prA O i).1) ∧ (flatP O)[i * 2 + 1]? = some (.int .i64 (prA O i).2) := by
  induction O with
  | nil => intro i hi; simp at hi
  | cons x l ih =>
    intro i hi
    match i with
    | 0 => exact ⟨rfl, rfl⟩
    | i + 1 =>
      have h := ih i (by simpa using hi)
      have e : ∀ r, (flatP (x :: l))[(i + 1) * 2 + r]? = (flatP l)[i * 2 + r]? := fun r => by
        rw [show (i + 1) * 2 + r = (i * 2 + r) + 2 by omega]
        rfl
      exact ⟨by have := e 0; simp only [Nat.add_zero] at this; rw [this]; exact h.1, by rw [e 1]; exact h.2⟩
theorem flatP_take (O : List P2) (k : Nat) : flatP (O.take k) = (flatP O).take (k * 2) := by
  induction O generalizing k with
  | nil => simp [flatP]
  | cons x l ih =>
    match k with
    | 0 => simp [flatP]
    | k + 1 =>
      rw [List.take_succ_cons]
      show prC x ++ flatP (l.take k) = _
      rw [ih, show (k + 1) * 2 = k * 2 + 2 by omega]
      rfl
theorem flatP_drop (O : List P2) (k : Nat) : flatP (O.drop k) = (flatP O).drop (k * 2) := by
  induction O generalizing k with
  | nil => simp [flatP]
  | cons x l ih =>
    match k with
    | 0 => simp [flatP]
    | k + 1 =>
      rw [List.drop_succ_cons, ih, show (k + 1) * 2 = k * 2 + 2 by omega]
      rfl
theorem prC_cell {O : List P2} {v : Value} (h : v ∈ flatP O) : v.oneCell' = true := by
  unfold flatP at h
  rw [List.mem_flatMap] at h
  obtain ⟨p, _, hp⟩ := h
  simp [prC] at hp
  rcases hp with rfl | rfl <;> rfl
end Go.Proofs.YtjdehbpgdplolaaGreatDoor

namespace Go.Proofs.YtjdehbpgdplolaaGreatDoor
open Go.RowKit Go.Sort
set_option linter.unusedVariables false

theorem belowNew {w5 W6 V6 : World} {g : Nat} (h : Below w5.heap.size w5 W6) (hg : W6.grownBy V6 (some g)) (hge : w5.heap.size ≤ g) : Below w5.heap.size w5 V6 :=
  h.trans ⟨hg.os, hg.tape, hg.output, hg.size, fun k hk => hg.block k (Nat.lt_of_lt_of_le hk h.size) (fun e => by have := Option.some.inj e; omega)⟩
theorem pair_cells (w : World) (x y : Int) (t : TypeId) : ∀ (j : Nat) (u : Value), (flatP [(x, y)])[j]? = some u → (w.alloc (.cells #[.int .i64 x, .int .i64 y] t)).cell? ((⟨w.heap.size, 0, none⟩ : Addr).add j) = some u := by
  intro j u hj
  have e : flatP [(x, y)] = [.int .i64 x, .int .i64 y] := rfl
  rw [e] at hj
  match j, hj with
  | 0, hj => simp at hj; subst hj; simp [Addr.add]
  | 1, hj => simp at hj; subst hj; simp [Addr.add]
  | j + 2, hj => simp at hj
theorem holdP {wr wx : World} {p q : Addr} {x y : Value} (hp : wr.cell? p = some x) (hq : wr.cell? q = some y) (h : Below wr.heap.size wr wx) : (wx.cell? p = some x ∧ wx.cell? q = some y) ∧ Below wr.heap.size wr wx :=
  ⟨⟨by rw [h.cell (World.block_lt_of_cell? _ _ hp)]; exact hp, by rw [h.cell (World.block_lt_of_cell? _ _ hq)]; exact hq⟩, h⟩
def ResvP (w : World) (b : Nat) : Prop := PairAt w b 0 0 ∧ w.frozen? ⟨b, 0, none⟩ = false ∧ w.frozen? ⟨b, 1, none⟩ = false
theorem stepSetP {w1 wx : World} {X : Prop} {b : Nat} (h : X ∧ Below w1.heap.size w1 wx) (hb : w1.heap.size ≤ b) (x y : Value) : Below w1.heap.size w1 ((wx.setCell ⟨b, 0, none⟩ x).setCell ⟨b, 1, none⟩ y) := (h.2.setCell hb _).setCell hb _

end Go.Proofs.YtjdehbpgdplolaaGreatDoor

namespace Go.Proofs.YtjdehbpgdplolaaGreatDoor
open Go.RowKit Go.Sort
set_option linter.unusedVariables false

def pairsR (L : List St) : List P2 := if skyB L = true then allP L L.length else []

end Go.Proofs.YtjdehbpgdplolaaGreatDoor

namespace Go.Proofs.YtjdehbpgdplolaaGreatDoor
open Go.RowKit Go.Sort
set_option linter.unusedVariables false

/-- a span: the pair, and the two directions -/
abbrev Sp := P2 × V3 × V3
def spL (s : Sp) : List Value := [.int .i64 s.1.1, .int .i64 s.1.2, .int .i64 s.2.1.1, .int .i64 s.2.1.2.1, .int .i64 s.2.1.2.2, .int .i64 s.2.2.1, .int .i64 s.2.2.2.1, .int .i64 s.2.2.2.2]
def cosQ (p q : Sp) : Int := cosI p.2.1.1 p.2.1.2.1 p.2.1.2.2 p.2.2.1 p.2.2.2.1 p.2.2.2.2 q.2.1.1 q.2.1.2.1 q.2.1.2.2 q.2.2.1 q.2.2.2.1 q.2.2.2.2
def spanI (p q : Sp) : Int := if cosQ p q = 0 then (if ordI p.1.1 q.1.1 = 0 then ordI p.1.2 q.1.2 else ordI p.1.1 q.1.1) else cosQ p q
def SpanAt (w : World) (b : Nat) (x y a1 a2 a3 b1 b2 b3 : Int) : Prop := w.cell? ⟨b, 0, none⟩ = some (.int .i64 x) ∧ w.cell? ⟨b, 1, none⟩ = some (.int .i64 y) ∧ w.cell? ⟨b, 2, none⟩ = some (.int .i64 a1) ∧ w.cell? ⟨b, 3, none⟩ = some (.int .i64 a2) ∧ w.cell? ⟨b, 4, none⟩ = some (.int .i64 a3) ∧ w.cell? ⟨b, 5, none⟩ = some (.int .i64 b1) ∧ w.cell? ⟨b, 6, none⟩ = some (.int .i64 b2) ∧ w.cell? ⟨b, 7, none⟩ = some (.int .i64 b3)
theorem SpanAt.kept {w w' : World} {b : Nat} {x y a1 a2 a3 b1 b2 b3 : Int} (h : SpanAt w b x y a1 a2 a3 b1 b2 b3) (hB : Below w.heap.size w w') : SpanAt w' b x y a1 a2 a3 b1 b2 b3 := by
  have hb := World.block_lt_of_cell? w _ h.1
  obtain ⟨h0, h1, h2, h3, h4, h5, h6, h7⟩ := h
  exact ⟨by rw [hB.cell (p := ⟨b, 0, none⟩) hb]; exact h0, by rw [hB.cell (p := ⟨b, 1, none⟩) hb]; exact h1, by rw [hB.cell (p := ⟨b, 2, none⟩) hb]; exact h2, by rw [hB.cell (p := ⟨b, 3, none⟩) hb]; exact h3, by rw [hB.cell (p := ⟨b, 4, none⟩) hb]; exact h4, by rw [hB.cell (p := ⟨b, 5, none⟩) hb]; exact h5, by rw [hB.cell (p := ⟨b, 6, none⟩) hb]; exact h6, by rw [hB.cell (p := ⟨b, 7, none⟩) hb]; exact h7⟩
theorem spanAt_new (w : World) (x y a1 a2 a3 b1 b2 b3 : Int) (t : TypeId) : SpanAt (w.alloc (.cells #[.int .i64 x, .int .i64 y, .int .i64 a1, .int .i64 a2, .int .i64 a3, .int .i64 b1, .int .i64 b2, .int .i64 b3] t)) w.heap.size x y a1 a2 a3 b1 b2 b3 := by
  refine ⟨?_, ?_, ?_, ?_, ?_, ?_, ?_, ?_⟩ <;> simp

end Go.Proofs.YtjdehbpgdplolaaGreatDoor

namespace Go.Proofs.YtjdehbpgdplolaaGreatDoor
open Go.RowKit Go.Sort
set_option linter.unusedVariables false

def spA (S : List Sp) (i : Nat) : Sp := S.getD i ((0, 0), (0, 0, 0), (0, 0, 0))
/-- the span s lies at b, from o on -/
def SpOff (w : World) (b o : Nat) (s : Sp) : Prop := w.cell? ⟨b, o, none⟩ = some (.int .i64 s.1.1) ∧ w.cell? ⟨b, o + 1, none⟩ = some (.int .i64 s.1.2) ∧ w.cell? ⟨b, o + 2, none⟩ = some (.int .i64 s.2.1.1) ∧ w.cell? ⟨b, o + 3, none⟩ = some (.int .i64 s.2.1.2.1) ∧ w.cell? ⟨b, o + 4, none⟩ = some (.int .i64 s.2.1.2.2) ∧ w.cell? ⟨b, o + 5, none⟩ = some (.int .i64 s.2.2.1) ∧ w.cell? ⟨b, o + 6, none⟩ = some (.int .i64 s.2.2.2.1) ∧ w.cell? ⟨b, o + 7, none⟩ = some (.int .i64 s.2.2.2.2)
theorem SpOff.kept {w w' : World} {b o : Nat} {s : Sp} (h : SpOff w b o s) (hB : Below w.heap.size w w') : SpOff w' b o s := by
  have hb : b < w.heap.size := World.block_lt_of_cell? w _ h.1
  obtain ⟨h0, h1, h2, h3, h4, h5, h6, h7⟩ := h
  exact ⟨by rw [hB.cell (p := ⟨b, o, none⟩) hb]; exact h0, by rw [hB.cell (p := ⟨b, o + 1, none⟩) hb]; exact h1, by rw [hB.cell (p := ⟨b, o + 2, none⟩) hb]; exact h2, by rw [hB.cell (p := ⟨b, o + 3, none⟩) hb]; exact h3, by rw [hB.cell (p := ⟨b, o + 4, none⟩) hb]; exact h4, by rw [hB.cell (p := ⟨b, o + 5, none⟩) hb]; exact h5, by rw [hB.cell (p := ⟨b, o + 6, none⟩) hb]; exact h6, by rw [hB.cell (p := ⟨b, o + 7, none⟩) hb]; exact h7⟩
theorem fst_snoc (S : List Sp) (k : Nat) (h : k < S.length) : (S.take (k + 1)).map Prod.fst = (S.take k).map Prod.fst ++ [(spA S k).1] := by
  rw [List.take_succ_eq_append_getElem h, List.map_append]
  congr 2
  unfold spA
  rw [List.getD, List.getElem?_eq_getElem h]
  rfl
theorem ownKeptP {w w' : World} {B : Nat} {t : TypeId} {v : Value} {n m : Nat} {xs : List Value} (h : w.ownsRow B t m v n xs) (hB : Below w.heap.size w w') : w'.ownsRow B t m v n xs :=
  h.kept (row := none) ⟨hB.os, hB.tape, hB.output, hB.size, fun k hk _ => hB.block k hk⟩ (by cases hv : v.ownBlock <;> simp)
theorem grownOwnP {B : Nat} {w w1 w2 : World} {v : Value} {t : TypeId} {n m : Nat} {xs : List Value} (h : Below B w w1) (ho : w1.ownsRow B t m v n xs) (hg : w1.grownBy w2 v.ownBlock) (hB : B ≤ w1.heap.size) : Below B w w2 :=
  h.trans ⟨hg.os, hg.tape, hg.output, hg.size, fun k hk => hg.block k (by omega) (fun e => by have := (ho.lt k e.symm).1; omega)⟩

end Go.Proofs.YtjdehbpgdplolaaGreatDoor

namespace Go.Proofs.YtjdehbpgdplolaaGreatDoor
open Go.RowKit Go.Sort
set_option linter.unusedVariables false

theorem ordI_flip (a b : Int) : ordI b a = -ordI a b := by
  unfold ordI
  repeat' split
  all_goals omega
theorem wide_small {x y z : Int} (h : smallB x y z = true) : wideB x y z = true := by
  obtain ⟨h1, h2⟩ := small_iff h
  have hw := withinB_iff.1 h2
  unfold wideB
  rw [h1, Bool.true_and]
  exact withinB_iff.2 (by omega)
def smallV (v : V3) : Bool := smallB v.1 v.2.1 v.2.2
theorem cosQ_flip {p q : Sp} (h1 : smallV p.2.1 = true) (h2 : smallV p.2.2 = true) (h3 : smallV q.2.1 = true) (h4 : smallV q.2.2 = true) : cosQ q p = -cosQ p q := by
  unfold cosQ cosI smallV at *
  rw [wide_small h1, wide_small h2, wide_small h3, wide_small h4, h1, h2, h3, h4, if_pos (by rfl), if_pos (by rfl)]
  exact ordI_flip _ _
theorem cosQ_spec {p q : Sp} (h1 : smallV p.2.1 = true) (h2 : smallV p.2.2 = true) (h3 : smallV q.2.1 = true) (h4 : smallV q.2.2 = true) : cosQ p q = cosP p.2.1 p.2.2 q.2.1 q.2.2 :=
  cos_eq2 (wide_small h1) (wide_small h2) h3 h4
/-- q stands behind p in the program's order, iff p is ahead of q in the specification's -/
theorem span_less {p q : Sp} (h1 : smallV p.2.1 = true) (h2 : smallV p.2.2 = true) (h3 : smallV q.2.1 = true) (h4 : smallV q.2.2 = true) :
    decide (0 < spanI q p) = lessC (cosP p.2.1 p.2.2 q.2.1 q.2.2) p.1.1 p.1.2 q.1.1 q.1.2 := by
  unfold spanI lessC
  rw [cosQ_flip h1 h2 h3 h4, cosQ_spec h1 h2 h3 h4]
  generalize cosP p.2.1 p.2.2 q.2.1 q.2.2 = c
  by_cases hc : c = 0
  · subst hc
    rw [if_pos (by rfl), if_pos rfl]
    unfold ordI
    by_cases ha : p.1.1 < q.1.1
    · have e : ¬ q.1.1 < p.1.1 := by omega
      simp [ha, e]
    · by_cases hb : p.1.1 = q.1.1
      · by_cases hd : p.1.2 < q.1.2
        · have e : ¬ q.1.2 < p.1.2 := by omega
          simp [hb, hd, e]
        · by_cases he : q.1.2 < p.1.2
          · simp [hb, hd, he]
          · simp [hb, hd, he]
      · have e : q.1.1 < p.1.1 := by omega
        have hb' : ¬ q.1.1 = p.1.1 := fun h => hb h.symm
        simp [ha, hb, e]
  · rw [if_neg (by omega), if_neg hc]
    apply Bool.eq_iff_iff.2
    simp only [decide_eq_true_eq]
    omega
end Go.Proofs.YtjdehbpgdplolaaGreatDoor

namespace Go.Proofs.YtjdehbpgdplolaaGreatDoor
open Go.RowKit Go.Sort
set_option linter.unusedVariables false

theorem ok_up {L : List St} {i : Nat} (h : okAt L i = true) (hi : 0 < i) : (stA L (i - 1)).1 < (stA L i).1 := by
  unfold okAt upB at h
  simp only [Bool.and_eq_true, Bool.or_eq_true, decide_eq_true_eq] at h
  omega
theorem ids_rise {L : List St} (h : skyB L = true) : ∀ i, i < L.length → ∀ j, j < i → (stA L j).1 < (stA L i).1
  | 0, _, j, hj => absurd hj (Nat.not_lt_zero _)
  | i + 1, hi, j, hj => by
    have hu := ok_up ((sky_ok h).2 (i + 1) hi) (by omega)
    rw [Nat.add_sub_cancel] at hu
    by_cases e : j = i
    · subst e; exact hu
    · have := ids_rise h i (by omega) j (by omega)
      omega
theorem at_own {L : List St} (h : skyB L = true) {i : Nat} (hi : i < L.length) : atV L L.length (stA L i).1 = (stA L i).2 :=
  at_hit hi (fun j hj e => by have := ids_rise h i hi j hj; omega) rfl
/-- the span of stars i and j -/
def spanOf (L : List St) (i j : Nat) : Sp := (((stA L i).1, (stA L j).1), (stA L i).2, (stA L j).2)
theorem span_order {L : List St} (h : skyB L = true) {i j k m : Nat} (hi : i < L.length) (hj : j < L.length) (hk : k < L.length) (hm : m < L.length) :
    decide (0 < spanI (spanOf L k m) (spanOf L i j)) = lessP L (spanOf L i j).1 (spanOf L k m).1 := by
  have hs : ∀ i, i < L.length → smallV (stA L i).2 = true := fun i hi => ok_small ((sky_ok h).2 i hi)
  rw [span_less (p := spanOf L i j) (q := spanOf L k m) (hs i hi) (hs j hj) (hs k hk) (hs m hm)]
  unfold lessP lessB spanOf
  simp only
  rw [at_own h hi, at_own h hj, at_own h hk, at_own h hm]
end Go.Proofs.YtjdehbpgdplolaaGreatDoor

namespace Go.Proofs.YtjdehbpgdplolaaGreatDoor
open Go.RowKit Go.Sort
set_option linter.unusedVariables false

def SeAt (w : World) (b : Nat) (v0 v1 v2 : Value) (c m : Int) : Prop := w.cell? ⟨b, 0, none⟩ = some v0 ∧ w.cell? ⟨b, 1, none⟩ = some v1 ∧ w.cell? ⟨b, 2, none⟩ = some v2 ∧ w.cell? ⟨b, 3, none⟩ = some (.int .i64 c) ∧ w.cell? ⟨b, 4, none⟩ = some (.int .i64 m)
theorem cellK5 {w w' : World} {a : Addr} {v : Value} (h : w.cell? a = some v) (hB : Below w.heap.size w w') : w'.cell? a = some v := (hB.cell (World.block_lt_of_cell? w a h)).trans h
theorem cellG5 {w w' : World} {a : Addr} {v : Value} {row : Option Nat} (h : w.cell? a = some v) (hg : w.grownBy w' row) (hne : some a.block ≠ row) : w'.cell? a = some v := (World.cell?_of_block (hg.block a.block (World.block_lt_of_cell? w a h) hne)).trans h
theorem SeAt.kept {w w' : World} {b : Nat} {v0 v1 v2 : Value} {c m : Int} (h : SeAt w b v0 v1 v2 c m) (hB : Below w.heap.size w w') : SeAt w' b v0 v1 v2 c m := ⟨cellK5 h.1 hB, cellK5 h.2.1 hB, cellK5 h.2.2.1 hB, cellK5 h.2.2.2.1 hB, cellK5 h.2.2.2.2 hB⟩
theorem SeAt.lt {w : World} {b : Nat} {v0 v1 v2 : Value} {c m : Int} (h : SeAt w b v0 v1 v2 c m) : b < w.heap.size := World.block_lt_of_cell? w _ h.1
def FreeX (w : World) (b : Nat) : Prop := ∀ i, w.frozen? ⟨b, i, none⟩ = false
theorem FreeX.kept {w w' : World} {b : Nat} (h : FreeX w b) (hb : b < w.heap.size) (hB : Below w.heap.size w w') : FreeX w' b := fun i => (hB.frozen (p := ⟨b, i, none⟩) hb).trans (h i)
theorem FreeX.set {w : World} {b : Nat} (h : FreeX w b) (p : Addr) (v : Value) : FreeX (w.setCell p v) b := fun i => by rw [World.frozen?_setCell]; exact h i
/-- the numbers named so far, in memory apart from block x -/
def IdsAt (w : World) (x : Nat) (ir : Option Addr) (ids : List Int) : Prop := (ids = [] ∧ ir = none) ∨ ∃ g, ir = some ⟨g, 0, none⟩ ∧ g ≠ x ∧ g < w.heap.size ∧ ∀ i, i < ids.length → w.cell? ⟨g, i, none⟩ = some (.int .i64 (ids.getD i 0))
theorem IdsAt.nums {w : World} {x : Nat} {ir : Option Addr} {ids : List Int} (h : IdsAt w x ir ids) : Nums w ir ids ids.length := by
  rcases h with ⟨rfl, _⟩ | ⟨g, rfl, _, hl, hc⟩
  · exact .inl rfl
  · exact .inr ⟨g, 0, rfl, hl, fun i hi => by rw [Nat.zero_add]; exact hc i hi⟩
theorem IdsAt.grown {w w' : World} {x : Nat} {ir : Option Addr} {ids : List Int} (h : IdsAt w x ir ids) (hg : w.grownBy w' (some x)) : IdsAt w' x ir ids := by
  rcases h with h | ⟨g, hi, hn, hl, hc⟩
  · exact .inl h
  · exact .inr ⟨g, hi, hn, Nat.lt_of_lt_of_le hl hg.size, fun i hi => cellG5 (hc i hi) hg (fun e => hn (Option.some.inj e))⟩
/-- a list that lies apart from block x -/
def Apart1 (a : Option Addr) (x : Nat) : Prop := ∀ y, a = some y → y.block ≠ x
theorem starsG {w w' : World} {a : Option Addr} {L : List St} {n x : Nat} (h : Stars w a L n) (hg : w.grownBy w' (some x)) (hne : Apart1 a x) : Stars w' a L n := by
  rcases h with h | ⟨b, o, rfl, hb, hc⟩
  · exact .inl h
  · refine .inr ⟨b, o, rfl, Nat.lt_of_lt_of_le hb hg.size, fun i hi => ?_⟩
    have hn : ∀ k, some (⟨b, k, none⟩ : Addr).block ≠ some x := fun k e => hne _ rfl (Option.some.inj e)
    obtain ⟨c0, c1, c2, c3⟩ := hc i hi
    exact ⟨cellG5 c0 hg (hn _), cellG5 c1 hg (hn _), cellG5 c2 hg (hn _), cellG5 c3 hg (hn _)⟩
theorem dirsG {w w' : World} {a : Option Addr} {L : List D3} {n x : Nat} (h : Dirs w a L n) (hg : w.grownBy w' (some x)) (hne : Apart1 a x) : Dirs w' a L n := by
  rcases h with h | ⟨b, o, rfl, hb, hc⟩
  · exact .inl h
  · refine .inr ⟨b, o, rfl, Nat.lt_of_lt_of_le hb hg.size, fun i hi => ?_⟩
    have hn : ∀ k, some (⟨b, k, none⟩ : Addr).block ≠ some x := fun k e => hne _ rfl (Option.some.inj e)
    obtain ⟨c0, c1, c2⟩ := hc i hi
    exact ⟨cellG5 c0 hg (hn _), cellG5 c1 hg (hn _), cellG5 c2 hg (hn _)⟩
/-- the search's state at block x: the lists, what it found -/
structure SeSt (w : World) (x : Nat) (L : List St) (S : List D3) (ar br : Option Addr) (cr dr : Nat) (s : SeN) : Prop where
  cells : ∃ v, SeAt w x (.slice ar L.length cr) (.slice br S.length dr) v (s.count : Int) (s.many : Int) ∧ w.ownsRow (x + 1) 2 1 v s.best.length (intL s.best)
  free : FreeX w x
  stars : Stars w ar L L.length
  dirs : Dirs w br S S.length
  apS : Apart1 ar x
  apD : Apart1 br x
theorem ownK {w w' : World} {B n m : Nat} {t : TypeId} {v : Value} {xs : List Value} (h : w.ownsRow B t m v n xs) (hB : Below w.heap.size w w') : w'.ownsRow B t m v n xs := by
  obtain ⟨h1, h2⟩ := h
  refine ⟨h1, ?_⟩
  rcases h2 with h2 | ⟨g, c', cur, e, hg, hh, r⟩
  · exact .inl h2
  · exact .inr ⟨g, c', cur, e, hg, by rw [hB.block g (Array.getElem?_eq_some_iff.1 hh).1]; exact hh, r⟩
theorem ownSetX {w : World} {x n m : Nat} {t : TypeId} {v : Value} {xs : List Value} (h : w.ownsRow (x + 1) t m v n xs) (o : Nat) (y : Value) : (w.setCell ⟨x, o, none⟩ y).ownsRow (x + 1) t m v n xs := by
  obtain ⟨h1, h2⟩ := h
  refine ⟨h1, ?_⟩
  rcases h2 with h2 | ⟨g, c', cur, e, hg, hh, r⟩
  · exact .inl h2
  · exact .inr ⟨g, c', cur, e, hg, by rw [Below.heap_setCell w ⟨x, o, none⟩ y g (by show g ≠ x; omega)]; exact hh, r⟩
theorem grownB1 {w w' : World} {x : Nat} (h : Below w.heap.size w w') : w.grownBy w' (some x) := ⟨h.os, h.tape, h.output, h.size, fun k hk _ => h.block k hk⟩
theorem SeSt.kept {w w' : World} {x : Nat} {L : List St} {S : List D3} {ar br : Option Addr} {cr dr : Nat} {s : SeN} (h : SeSt w x L S ar br cr dr s) (hB : Below w.heap.size w w') : SeSt w' x L S ar br cr dr s := by
  obtain ⟨⟨v, h1, h2⟩, hf, hs, hd, a1, a2⟩ := h
  exact ⟨⟨v, h1.kept hB, ownK h2 hB⟩, hf.kept h1.lt hB, hs.kept hB, hd.kept hB, a1, a2⟩
/-- which star may go on -/
def fitF (L : List St) (S : List D3) (ids : List Int) (a : Int) : Bool := fitsI L S ids (vA S ids.length, (a, atV L L.length a)) ids.length
def smallI (L : List St) (ids : List Int) : Prop := ∀ i, i < ids.length → ids.getD i 0 ≠ 0 → smallB (atV L L.length (ids.getD i 0)).1 (atV L L.length (ids.getD i 0)).2.1 (atV L L.length (ids.getD i 0)).2.2 = true
def FromOk (L : List St) (S : List D3) (ar br : Option Addr) (cr dr x r : Nat) : Prop := ∀ (ids : List Int) (s : SeN) (ir : Option Addr) (er : Nat) (w : World), ids.length + r = S.length → smallI L ids → s.many + 13 ^ r ≤ 100000000 → s.count ≤ 6 → (ir = none → er = 0) → IdsAt w x ir ids → SeSt w x L S ar br cr dr s →
    Calls Tryz.prog 67 #[.pointer (some ⟨x, 0, none⟩), .slice ir ids.length er, .int .i64 (cntN ids : Int)] w fun e w' => (∃ v, e = .returned v) ∧ SeSt w' x L S ar br cr dr (fromN (fitF L S) (L.map (·.1)) r ids s) ∧ w.grownBy w' (some x)

set_option maxHeartbeats 4000000 in
set_option maxRecDepth 100000 in
theorem from_prune (L : List St) (S : List D3) (ar br : Option Addr) (cr dr x r : Nat) (hm6 : S.length ≤ 6) (ids : List Int) (s : SeN) (ir : Option Addr) (er : Nat) (w : World) (hl : ids.length + r = S.length) (hc6 : s.count ≤ 6) (hst : SeSt w x L S ar br cr dr s) (hp : cntN ids + r < s.count) :
    Calls Tryz.prog 67 #[.pointer (some ⟨x, 0, none⟩), .slice ir ids.length er, .int .i64 (cntN ids : Int)] w fun e w' => (∃ v, e = .returned v) ∧ SeSt w' x L S ar br cr dr (fromN (fitF L S) (L.map (·.1)) r ids s) ∧ w.grownBy w' (some x) := by
  have HS := hide hst
  have HF := hide (fromN_prune (F := fitF L S) (A := L.map (·.1)) hp)
  obtain ⟨⟨v, h1, h2⟩, hf, hs, hd, a1, a2⟩ := hst
  obtain ⟨c0, c1, c2, c3, c4⟩ := h1
  have r1 := cell_regrown c1
  have r3 := cell_regrown c3
  have hc := cntN_le ids
  generalize cntN ids = cn at *
  generalize ids.length = k at *
  generalize S.length = m at *
  clear h2 hf hs hd a1 a2 c0 c1 c2 c3 c4
  have hq : (cn : Int) + (m : Int) - (k : Int) < (s.count : Int) := by omega
  go_enter Tryz.func67, Tryz.ntmps67
  go_wp2_with fail
  refine wp_region_quiet_below (by kernel_rfl) (by kernel_rfl) ?_
  repeat (go_big_quiet_step (fail))
  refine wpQuiet_nil ?_
  intro _ hw'
  obtain ⟨⟨dq, osq⟩, hw''⟩ := hw'
  subst hw''
  have hx := below_regrown w dq osq
  go_wp2_with fail
  refine bodyPost_ret (results_none rfl _ _ _) rfl ?_
  exact ⟨⟨_, rfl⟩, by rw [unhide HF]; exact (unhide HS).kept hx, grownB1 hx⟩
end Go.Proofs.YtjdehbpgdplolaaGreatDoor

namespace Go.Proofs.YtjdehbpgdplolaaGreatDoor
open Go.RowKit Go.Sort
set_option linter.unusedVariables false

theorem run_append_nilR {P : Program} (w : World) (t ty e : TypeId) (i : TypeInfo) (ht : P.underlying t = some (.slice e)) (hi : P.info? e = some i) (g : Nat) :
    (Builtin.append_ #[t, t] ty #[.slice (some ⟨g, 0, none⟩) 0 0, .slice none 0 0]).run P w = .ok (.slice (some ⟨g, 0, none⟩) 0 0) w := by
  simp [Builtin.append_, run_underlying ht, sizeOf, typeInfo, hi, Builtin.lenOf, Builtin.firstCells, loadCells, loadCellsFrom, storeCells]
theorem intL_at {w : World} {g : Nat} {ids : List Int} (hc : ∀ i, i < ids.length → w.cell? ⟨g, i, none⟩ = some (.int .i64 (ids.getD i 0))) (j : Nat) (u : Value) (hj : (intL ids)[j]? = some u) : w.cell? ((⟨g, 0, none⟩ : Addr).add j) = some u := by
  have hA : (⟨g, 0, none⟩ : Addr).add j = ⟨g, 0 + j, none⟩ := by unfold Addr.add; split <;> simp_all
  unfold intL at hj
  rw [List.getElem?_map] at hj
  have hlt : j < ids.length := by
    rcases Nat.lt_or_ge j ids.length with h | h
    · exact h
    · rw [List.getElem?_eq_none h] at hj; cases hj
  rw [hA, Nat.zero_add, hc j hlt]
  rw [List.getElem?_eq_getElem hlt] at hj
  rw [List.getD_eq_getElem?_getD, List.getElem?_eq_getElem hlt]
  exact hj
theorem intL_len (ids : List Int) : (intL ids).length = ids.length := by unfold intL; rw [List.length_map]
theorem wpList_copyIds (w : World) {ops : Array Oper} {rest : List Oper} {o : Oper} {a : Act} {Q : Exit → Act → World → Prop} (hgd : o.guard = none) (s x : Operand)
    (ho : o.op = .call { callee := .builtin .append, args := #[s, x], argTypes := #[74, 74] })
    (base g : Nat) (hs : a.eval s = .slice (some ⟨g, 0, none⟩) 0 0) (hown : w.ownsRow base 2 1 (.slice (some ⟨g, 0, none⟩) 0 0) 0 []) (y : Nat) (ir : Option Addr) (er : Nat) (ids : List Int) (hx : a.eval x = .slice ir ids.length er) (he : ir = none → er = 0) (hI : IdsAt w y ir ids) (hk : ids.length ≤ 6) (hbase : base ≤ w.heap.size)
    (h : ∀ v' w', w'.ownsRow base 2 1 v' ids.length (intL ids) → w.grownBy w' (some g) → wpList Tryz.prog ops Q rest (a.put o.dst v') w') : wpList Tryz.prog ops Q (o :: rest) a w := by
  obtain ⟨i0, hinf, hz0, hz1, hz2⟩ := info_parts info_i64
  rcases hI with ⟨rfl, rfl⟩ | ⟨b, rfl, _, hl, hc⟩
  · obtain rfl := he rfl
    have hr := run_append_nilR (P := Tryz.prog) w 74 o.type 2 i0 Tryz.underlying74 hinf g
    refine wpList_plain hgd fun _ hK => ?_
    unfold Oper.wp execOp
    simp only [List.length_nil] at hx
    simp only [ho, resolve, invoke, builtin, Sem.run_bind, Sem.run_pure, Result.andThen_ok, List.map_toArray, List.map_cons, List.map_nil, hs, hx, hr]
    exact hK _ _ (h _ _ hown ⟨rfl, rfl, rfl, Nat.le_refl _, fun _ _ _ => rfl⟩)
  · have hm : 6 ≤ maxLen := by decide +kernel
    refine wpList_append_own w hgd s x 74 ho base 2 i0 (.int .i64 0) 1 8 Tryz.underlying74 hinf hz0 hz1 hz2 rfl (by decide) _ 0 [] hs hown ⟨b, 0, none⟩ ids.length er (intL ids) hx (by rw [intL_len, Nat.mul_one]) (intL_at hc) (fun u hu => intL_cell hu) (by omega) (by omega) hbase ?_
    intro v' w' h2 h3 _
    rw [Nat.zero_add, List.nil_append] at h2
    exact h v' w' h2 h3

theorem own_form {w : World} {B n m : Nat} {t : TypeId} {v : Value} {xs : List Value} (h : w.ownsRow B t m v n xs) : ∃ a cap, v = .slice a n cap := by
  rcases h.2 with ⟨h1, h0⟩ | ⟨g, c', cur, e, _⟩
  · exact ⟨none, 0, by rw [h1, h0]⟩
  · exact ⟨_, _, e⟩
theorem gxSet {w w1 : World} {x : Nat} (h : w.grownBy w1 (some x)) (o : Nat) (y : Value) : w.grownBy (w1.setCell ⟨x, o, none⟩ y) (some x) := grownSet h o y
theorem gxAlloc {w w1 : World} {x : Nat} (h : w.grownBy w1 (some x)) (o : Obj) : w.grownBy (w1.alloc o) (some x) := ⟨h.os, h.tape, h.output, Nat.le_trans h.size (by simp), fun k hk hn => (Below.heap_alloc w1 o k (Nat.lt_of_lt_of_le hk h.size)).trans (h.block k hk hn)⟩
theorem gxNew {w w1 w2 : World} {x g : Nat} (h : w.grownBy w1 (some x)) (hg : w1.grownBy w2 (some g)) (hb : w.heap.size ≤ g) : w.grownBy w2 (some x) := ⟨hg.os.trans h.os, hg.tape.trans h.tape, hg.output.trans h.output, Nat.le_trans h.size hg.size, fun k hk hn => (hg.block k (Nat.lt_of_lt_of_le hk h.size) (fun e => by have := Option.some.inj e; omega)).trans (h.block k hk hn)⟩
theorem gxTrans {w w1 w2 : World} {x : Nat} (h : w.grownBy w1 (some x)) (hg : w1.grownBy w2 (some x)) : w.grownBy w2 (some x) := ⟨hg.os.trans h.os, hg.tape.trans h.tape, hg.output.trans h.output, Nat.le_trans h.size hg.size, fun k hk hn => (hg.block k (Nat.lt_of_lt_of_le hk h.size) hn).trans (h.block k hk hn)⟩
theorem SeAt.grown {w w' : World} {b : Nat} {v0 v1 v2 : Value} {c m : Int} {row : Option Nat} (h : SeAt w b v0 v1 v2 c m) (hg : w.grownBy w' row) (hne : some b ≠ row) : SeAt w' b v0 v1 v2 c m := ⟨cellG5 h.1 hg hne, cellG5 h.2.1 hg hne, cellG5 h.2.2.1 hg hne, cellG5 h.2.2.2.1 hg hne, cellG5 h.2.2.2.2 hg hne⟩
theorem FreeX.grown {w w' : World} {b : Nat} {row : Option Nat} (h : FreeX w b) (hb : b < w.heap.size) (hg : w.grownBy w' row) (hne : some b ≠ row) : FreeX w' b := fun i => by
  have h1 := h i
  unfold World.frozen? at h1 ⊢
  rw [hg.block b hb hne]
  exact h1
theorem seAt_34 {w : World} {b : Nat} {v0 v1 v2 : Value} {c m : Int} (h : SeAt w b v0 v1 v2 c m) (c' m' : Int) : SeAt ((w.setCell ⟨b, 3, none⟩ (.int .i64 c')).setCell ⟨b, 4, none⟩ (.int .i64 m')) b v0 v1 v2 c' m' := by
  obtain ⟨h0, h1, h2, h3, h4⟩ := h
  refine ⟨?_, ?_, ?_, ?_, ?_⟩ <;> simp [go_sem, h0, h1, h2, h3, h4]
theorem seAt_24 {w : World} {b : Nat} {v0 v1 v2 : Value} {c m : Int} (h : SeAt w b v0 v1 v2 c m) (v' : Value) (m' : Int) : SeAt ((w.setCell ⟨b, 2, none⟩ v').setCell ⟨b, 4, none⟩ (.int .i64 m')) b v0 v1 v' c m' := by
  obtain ⟨h0, h1, h2, h3, h4⟩ := h
  refine ⟨?_, ?_, ?_, ?_, ?_⟩ <;> simp [go_sem, h0, h1, h2, h3, h4]
theorem seSt_mk {w w' : World} {x : Nat} {L : List St} {S : List D3} {ar br : Option Addr} {cr dr : Nat} {s s' : SeN} {v' : Value} (h : SeSt w x L S ar br cr dr s) (hg : w.grownBy w' (some x)) (hc : SeAt w' x (.slice ar L.length cr) (.slice br S.length dr) v' (s'.count : Int) (s'.many : Int)) (ho : w'.ownsRow (x + 1) 2 1 v' s'.best.length (intL s'.best)) (hf : FreeX w' x) : SeSt w' x L S ar br cr dr s' :=
  ⟨⟨v', hc, ho⟩, hf, starsG h.stars hg h.apS, dirsG h.dirs hg h.apD, h.apS, h.apD⟩

set_option maxHeartbeats 4000000 in
set_option maxRecDepth 100000 in
theorem from_leaf (L : List St) (S : List D3) (ar br : Option Addr) (cr dr x : Nat) (hm6 : S.length ≤ 6) (ids : List Int) (s : SeN) (ir : Option Addr) (er : Nat) (w : World) (hl : ids.length + 0 = S.length) (hmany : s.many + 1 ≤ 100000000) (hc6 : s.count ≤ 6) (he : ir = none → er = 0) (hI : IdsAt w x ir ids) (hst : SeSt w x L S ar br cr dr s) (hp : ¬ cntN ids + 0 < s.count) :
    Calls Tryz.prog 67 #[.pointer (some ⟨x, 0, none⟩), .slice ir ids.length er, .int .i64 (cntN ids : Int)] w fun e w' => (∃ v, e = .returned v) ∧ SeSt w' x L S ar br cr dr (fromN (fitF L S) (L.map (·.1)) 0 ids s) ∧ w.grownBy w' (some x) := by
  obtain ⟨bst, ct, mn⟩ := s
  dsimp only at hmany hc6 hp
  have HS := hide hst
  have HI := hide hI
  have HF := hide (fromN_leaf (F := fitF L S) (A := L.map (·.1)) (s := ⟨bst, ct, mn⟩) hp)
  obtain ⟨⟨v, h1, h2⟩, hf, hs, hd, a1, a2⟩ := hst
  dsimp only at h1
  obtain ⟨c0, c1, c2, c3, c4⟩ := h1
  have r1 := cell_regrown c1
  have r3 := cell_regrown c3
  have hc := cntN_le ids
  obtain ⟨cn, hcn⟩ : ∃ cn, cntN ids = cn := ⟨_, rfl⟩
  have HCN := hide hcn
  rw [hcn] at hp hc ⊢
  clear hcn
  by_cases hgt : ct < cn
  · have hk6 : ids.length ≤ 6 := by omega
    have HE := hide he
    have HKM : Hid (S.length = ids.length) := hide (by omega)
    clear h2 hf hs hd a1 a2 c0 c1 c2 c3 c4 hI he
    rw [unhide HKM] at r1
    have hq : ¬ (cn : Int) < (ct : Int) := by omega
    go_enter Tryz.func67, Tryz.ntmps67
    go_wp2_with fail
    refine wp_region_quiet_below (by kernel_rfl) (by kernel_rfl) ?_
    repeat (go_big_quiet_step (fail))
    refine wpQuiet_nil ?_
    intro _ hw'
    obtain ⟨⟨dq, osq⟩, hw''⟩ := hw'
    subst hw''
    have hx := below_regrown w dq osq
    generalize grow (redrawn w dq) osq = w1 at hx ⊢
    have S1 := hide ((unhide HS).kept hx)
    have I1 := hide ((unhide HI).grown (grownB1 hx))
    have B1 := hide hx
    clear hx r1 r3 HS HI hq
    obtain ⟨⟨v, h1, h2⟩, hf, hs, hd, a1, a2⟩ := unhide S1
    dsimp only at h1
    have H1 := hide h1
    have HFr := hide hf
    have hxl := h1.lt
    obtain ⟨c0, c1, c2, c3, c4⟩ := h1
    rw [unhide HKM] at c1
    have f2 := hf 2
    have f3 := hf 3
    have f4 := hf 4
    clear hf hs hd a1 a2 h2
    have hgt' : (ct : Int) < (cn : Int) := by omega
    have HO : Hid (stepSe ⟨bst, ct, mn⟩ ids = ⟨ids, cn, 1⟩) := hide (by unfold stepSe; rw [unhide HCN, if_pos hgt])
    have hz : ((w1.setCell ⟨x, 3, none⟩ (.int .i64 (cn : Int))).setCell ⟨x, 4, none⟩ (.int .i64 0)).heap.size = w1.heap.size := by simp
    have HN : Hid ((((w1.setCell ⟨x, 3, none⟩ (.int .i64 (cn : Int))).setCell ⟨x, 4, none⟩ (.int .i64 0)).alloc (.cells #[] 2)).ownsRow (x + 1) 2 1 (.slice (some ⟨w1.heap.size, 0, none⟩) 0 0) 0 []) := hide (by have := ownI_none ((w1.setCell ⟨x, 3, none⟩ (.int .i64 (cn : Int))).setCell ⟨x, 4, none⟩ (.int .i64 0)) (x + 1) (by omega); rw [hz] at this; exact this)
    have HG2 : Hid (w1.grownBy (((w1.setCell ⟨x, 3, none⟩ (.int .i64 (cn : Int))).setCell ⟨x, 4, none⟩ (.int .i64 0)).alloc (.cells #[] 2)) (some x)) := hide (gxAlloc (gxSet (gxSet (grownRefl w1 (some x)) _ _) _ _) _)
    have I2 := hide ((unhide I1).grown (unhide HG2))
    have A2 := hide ((seAt_34 (unhide H1) (cn : Int) 0).kept (below1 _ (.cells #[] 2)))
    have F2 := hide ((((unhide HFr).set ⟨x, 3, none⟩ (.int .i64 (cn : Int))).set ⟨x, 4, none⟩ (.int .i64 0)).kept (by omega) (below1 _ (.cells #[] 2)))
    go_wp2_with (at_builtin; refine wpList_copyIds _ rfl _ _ rfl (x + 1) w1.heap.size rfl (unhide HN) x ir er ids rfl (unhide HE) (unhide I2) hk6 ?d1 ?_)
    case d1 => simp; omega
    intro v' w3 ho hg
    obtain ⟨av, cv, rfl⟩ := own_form ho
    have A3 := hide ((unhide A2).grown hg (fun e => by have := Option.some.inj e; omega))
    have F3 := hide ((unhide F2).grown (unhide A2).lt hg (fun e => by have := Option.some.inj e; omega))
    have G3 := hide (gxNew (unhide HG2) hg (Nat.le_refl _))
    have O3 := hide ho
    clear ho hg c0 c1 c2 c3 c4 f2 f3 f4 HN HG2 I2 A2 F2 hz
    obtain ⟨c0, c1, c2, c3, c4⟩ := unhide A3
    have f2 := unhide F3 2
    have f4 := unhide F3 4
    go_wp2_with fail
    refine bodyPost_ret (results_none rfl _ _ _) rfl ?_
    have G4 := gxSet (gxSet (unhide G3) 2 (.slice av ids.length cv)) 4 (.int .i64 1)
    refine ⟨⟨_, rfl⟩, ?_, gxTrans (grownB1 (unhide B1)) G4⟩
    rw [unhide HF, unhide HO]
    exact seSt_mk (unhide S1) G4 (seAt_24 (unhide A3) (.slice av ids.length cv) 1) (ownSetX (ownSetX (unhide O3) _ _) _ _) (((unhide F3).set _ _).set _ _)
  · obtain rfl : cn = ct := by omega
    have HO : Hid (stepSe ⟨bst, cn, mn⟩ ids = ⟨ids, cn, mn + 1⟩) := hide (by unfold stepSe; dsimp only; rw [unhide HCN, if_neg hgt, if_pos rfl])
    have HMN := hide (show (mn : Int) + 1 ≤ 100000000 by omega)
    clear hgt hp hmany
    have hk6 : ids.length ≤ 6 := by omega
    have HE := hide he
    have HKM : Hid (S.length = ids.length) := hide (by omega)
    clear h2 hf hs hd a1 a2 c0 c1 c2 c3 c4 hI he
    rw [unhide HKM] at r1
    go_enter Tryz.func67, Tryz.ntmps67
    go_wp2_with fail
    refine wp_region_quiet_below (by kernel_rfl) (by kernel_rfl) ?_
    repeat (go_big_quiet_step (fail))
    refine wpQuiet_nil ?_
    intro _ hw'
    obtain ⟨⟨dq, osq⟩, hw''⟩ := hw'
    subst hw''
    have hx := below_regrown w dq osq
    generalize grow (redrawn w dq) osq = w1 at hx ⊢
    have S1 := hide ((unhide HS).kept hx)
    have I1 := hide ((unhide HI).grown (grownB1 hx))
    have B1 := hide hx
    clear hx r1 r3 HS HI
    obtain ⟨⟨v, h1, h2⟩, hf, hs, hd, a1, a2⟩ := unhide S1
    dsimp only at h1
    have H1 := hide h1
    have HFr := hide hf
    have hxl := h1.lt
    obtain ⟨c0, c1, c2, c3, c4⟩ := h1
    rw [unhide HKM] at c1
    have f2 := hf 2
    have f3 := hf 3
    have f4 := hf 4
    clear hf hs hd a1 a2 h2
    have HN : Hid ((w1.alloc (.cells #[] 2)).ownsRow (x + 1) 2 1 (.slice (some ⟨w1.heap.size, 0, none⟩) 0 0) 0 []) := hide (ownI_none w1 (x + 1) (by omega))
    have HG2 : Hid (w1.grownBy (w1.alloc (.cells #[] 2)) (some x)) := hide (gxAlloc (grownRefl w1 (some x)) _)
    have I2 := hide ((unhide I1).grown (unhide HG2))
    have A2 := hide ((unhide H1).kept (below1 _ (.cells #[] 2)))
    have F2 := hide ((unhide HFr).kept hxl (below1 _ (.cells #[] 2)))
    go_wp2_with (at_builtin; refine wpList_copyIds _ rfl _ _ rfl (x + 1) w1.heap.size rfl (unhide HN) x ir er ids rfl (unhide HE) (unhide I2) hk6 ?d1 ?_)
    case d1 => simp; omega
    intro v' w3 ho hg
    obtain ⟨av, cv, rfl⟩ := own_form ho
    have A3 := hide ((unhide A2).grown hg (fun e => by have := Option.some.inj e; omega))
    have F3 := hide ((unhide F2).grown (unhide A2).lt hg (fun e => by have := Option.some.inj e; omega))
    have G3 := hide (gxNew (unhide HG2) hg (Nat.le_refl _))
    have O3 := hide ho
    clear ho hg c0 c1 c2 c3 c4 f2 f3 f4 HN HG2 I2 A2 F2
    obtain ⟨c0, c1, c2, c3, c4⟩ := unhide A3
    have hmn := unhide HMN
    have hmn0 : (0 : Int) ≤ (mn : Int) := by omega
    generalize hmi : (mn : Int) = mi at *
    have f2 := unhide F3 2
    have f4 := unhide F3 4
    go_wp2_with fail
    subst hmi
    refine bodyPost_ret (results_none rfl _ _ _) rfl ?_
    have G4 := gxSet (gxSet (unhide G3) 2 (.slice av ids.length cv)) 4 (.int .i64 ((mn : Int) + 1))
    refine ⟨⟨_, rfl⟩, ?_, gxTrans (grownB1 (unhide B1)) G4⟩
    rw [unhide HF, unhide HO]
    exact seSt_mk (unhide S1) G4 (seAt_24 (unhide A3) (.slice av ids.length cv) ((mn : Int) + 1)) (ownSetX (ownSetX (unhide O3) _ _) _ _) (((unhide F3).set _ _).set _ _)
end Go.Proofs.YtjdehbpgdplolaaGreatDoor
