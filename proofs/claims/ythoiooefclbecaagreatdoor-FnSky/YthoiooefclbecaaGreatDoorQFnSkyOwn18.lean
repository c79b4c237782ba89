/- Several texts in one: L7A, NaB, NaC, NaD, NaE, IdW, L7B, PairA, PairB, PairC, PairD, PairE, PairF, PairM, PairN, IeA, IeB, IeC, IeD, IeE, IeF, IeG, IeH, IeI, IeJ. -/
import Derived.Deep.RegionHeld
import Derived.WalkMore
import Derived.Test.YthoiooefclbecaaGreatDoorRows
import Derived.Deep.Slices
import Derived.Deep.Strs
import Derived.LaidHandle
import Derived.LaidMore
import Derived.ProofKit
import Derived.WideShapes
import Derived.OwnWalk
import Derived.Laws.OwnMore
import Derived.Deep.DeepCutAuto
import Derived.Maps.OwnSet
import Derived.Maps.Views
import Derived.Test.YthoiooefclbecaaGreatDoorQFnSkyOwn17
import Derived.Test.YthoiooefclbecaaGreatDoorQFnSkyOwn3
import Derived.Test.YthoiooefclbecaaGreatDoorQFnSkyOwn2
namespace Go.Proofs.YthoiooefclbecaaGreatDoor
set_option linter.unusedVariables false
set_option linter.unusedSimpArgs false
set_option maxRecDepth 100000
set_option maxHeartbeats 8000000
section
open Go.RowKit Go.Sort
def ii (w : World) (a : Option Addr) (ids : List Int) (n : Nat) : Prop := n = 0 ∨ ∃ b o, a = some ⟨b, o, none⟩ ∧ b < w.heap.size ∧ ∀ i, i < n → w.cell? ⟨b, o + i, none⟩ = some (.int .i64 (ids.getD i 0))
theorem ii.kept {w w' : World} {a : Option Addr} {L : List Int} {n : Nat} (h : ii w a L n) (hB : Below w.heap.size w w') : ii w' a L n := by
 rcases h with h | ⟨b, o, ha, hb, hc⟩
 ·exact .inl h
 ·exact .inr ⟨b, o, ha, Nat.lt_of_lt_of_le hb hB.size, fun i hi => by rw [hB.cell (p := ⟨b, o + i, none⟩) hb]; exact hc i hi⟩
def numV (ids : List Int) (j : Nat) : Value := .int .i64 (ids.getD j 0)
end
section
open Go.RowKit Go.Sort
end
section
open Go.RowKit Go.Sort
theorem ii.less {w : World} {a : Option Addr} {L : List Int} {n m : Nat} (h : ii w a L n) (hm : m ≤ n) : ii w a L m := by
 rcases h with h | ⟨b, o, ha, hb, hc⟩
 ·exact .inl (by omega)
 ·exact .inr ⟨b, o, ha, hb, fun i hi => hc i (by omega)⟩
end
section
open Go.RowKit Go.Deep Go.ChangeShapes
end
section
open Go.RowKit Go.Sort
abbrev V3 := Int × Int × Int
def jS (a b c d : V3) : Int := jm (aR a.1 a.2.1 a.2.2 b.1 b.2.1 b.2.2) (aR c.1 c.2.1 c.2.2 d.1 d.2.1 d.2.2) (wrap64 (wrap64 (aR a.1 a.2.1 a.2.2 b.1 b.2.1 b.2.2 * aR a.1 a.2.1 a.2.2 b.1 b.2.1 b.2.2) * wrap64 (aR c.1 c.2.1 c.2.2 c.1 c.2.1 c.2.2 * aR d.1 d.2.1 d.2.2 d.1 d.2.1 d.2.2))) (wrap64 (wrap64 (aR c.1 c.2.1 c.2.2 d.1 d.2.1 d.2.2 * aR c.1 c.2.1 c.2.2 d.1 d.2.1 d.2.2) * wrap64 (aR a.1 a.2.1 a.2.2 a.1 a.2.1 a.2.2 * aR b.1 b.2.1 b.2.2 b.1 b.2.1 b.2.2)))
theorem mP (a b c d : V3) (w : World) : Calls Tryz.prog 62 #[dP a, dP b, dP c, dP d] w fun e w' => e = .returned (.int .i64 (jS a b c d)) ∧ Below w.heap.size w w' :=
 oL a.1 a.2.1 a.2.2 b.1 b.2.1 b.2.2 c.1 c.2.1 c.2.2 d.1 d.2.1 d.2.2 w
def lA (c : Int) (p1 p2 q1 q2 : Int) : Bool := if c = 0 then (decide (p1 < q1) || (decide (p1 = q1) && decide (p2 < q2))) else decide (c < 0)
def nB (L : List St) (n : Nat) (p1 p2 q1 q2 : Int) : Bool := lA (jS (atV L n p1) (atV L n p2) (atV L n q1) (atV L n q2)) p1 p2 q1 q2
def fi (w : World) (b : Nat) (x y : Int) : Prop := w.cell? ⟨b, 0, none⟩ = some (.int .i64 x) ∧ w.cell? ⟨b, 1, none⟩ = some (.int .i64 y)
theorem fi.kept {w w' : World} {b : Nat} {x y : Int} (h : fi w b x y) (hB : Below w.heap.size w w') : fi w' b x y := by
 have hb := World.block_lt_of_cell? w _ h.1
 exact ⟨by rw [hB.cell (p := ⟨b, 0, none⟩) hb]; exact h.1, by rw [hB.cell (p := ⟨b, 1, none⟩) hb]; exact h.2⟩
theorem gv (w : World) (x y : Int) (t : TypeId) : fi (w.alloc (.cells #[.int .i64 x, .int .i64 y] t)) w.heap.size x y := by
 constructor <;> simp
theorem nz (L : List St) (n : Nat) (a : Option Addr) (c : Nat) (p1 p2 q1 q2 : Int) (w : World) (hn : n ≤ 1048576) (hS : aA w a L n) :
  Calls Tryz.prog 100 #[.slice a n c, .agg #[.int .i64 p1, .int .i64 p2], .agg #[.int .i64 q1, .int .i64 q2]] w fun e w' => e = .returned (.bool (nB L n p1 p2 q1 q2)) ∧ Below w.heap.size w w' := by
 have HL : Hid (nB L n p1 p2 q1 q2 = lA (jS (atV L n p1) (atV L n p2) (atV L n q1) (atV L n q2)) p1 p2 q1 q2) := yz rfl
 have HC := yz (fun W => mP (atV L n p1) (atV L n p2) (atV L n q1) (atV L n q2) W)
 have cA : Hid (∀ (id : Int) (W : World), aA W a L n → Calls Tryz.prog 63 #[.slice a n c, .int .i64 id] W fun e w' => e = .returned (dP (atV L n id)) ∧ Below W.heap.size W w') := yz (fun id W h => iB L n id a c W hn h)
 generalize nB L n p1 p2 q1 q2 = res at *
 generalize jS (atV L n p1) (atV L n p2) (atV L n q1) (atV L n q2) = cc at *
 have c1 : Hid (∀ W : World, aA W a L n → Calls Tryz.prog 63 #[.slice a n c, .int .i64 p1] W fun e w' => e = .returned (dP (atV L n p1)) ∧ Below W.heap.size W w') := yz (yy cA p1)
 have c2 : Hid (∀ W : World, aA W a L n → Calls Tryz.prog 63 #[.slice a n c, .int .i64 p2] W fun e w' => e = .returned (dP (atV L n p2)) ∧ Below W.heap.size W w') := yz (yy cA p2)
 have c3 : Hid (∀ W : World, aA W a L n → Calls Tryz.prog 63 #[.slice a n c, .int .i64 q1] W fun e w' => e = .returned (dP (atV L n q1)) ∧ Below W.heap.size W w') := yz (yy cA q1)
 have c4 : Hid (∀ W : World, aA W a L n → Calls Tryz.prog 63 #[.slice a n c, .int .i64 q2] W fun e w' => e = .returned (dP (atV L n q2)) ∧ Below W.heap.size W w') := yz (yy cA q2)
 generalize dP (atV L n p1) = x1 at *
 generalize dP (atV L n p2) = x2 at *
 generalize dP (atV L n q1) = x3 at *
 generalize dP (atV L n q2) = x4 at *
 have B1 := yz (be w (.cells #[.int .i64 p1, .int .i64 p2] 52) (.cells #[.int .i64 q1, .int .i64 q2] 52))
 have P1 : Hid (fi ((w.alloc (.cells #[.int .i64 p1, .int .i64 p2] 52)).alloc (.cells #[.int .i64 q1, .int .i64 q2] 52)) w.heap.size p1 p2) := yz ((gv w _ _ _).kept (am _ _))
 have Q1 : Hid (fi ((w.alloc (.cells #[.int .i64 p1, .int .i64 p2] 52)).alloc (.cells #[.int .i64 q1, .int .i64 q2] 52)) (w.heap.size + 1) q1 q2) := yz (by simpa using gv (w.alloc (.cells #[.int .i64 p1, .int .i64 p2] 52)) q1 q2 52)
 have HS := yz (hS.kept (yy B1))
 clear hS cA
 go_enter Tryz.func100, Tryz.ntmps100
 go_wp2_with fail
 generalize (w.alloc (.cells #[.int .i64 p1, .int .i64 p2] 52)).alloc (.cells #[.int .i64 q1, .int .i64 q2] 52) = W1 at *
 have c1' : Hid (∀ d os, Calls Tryz.prog 63 #[.slice a n c, .int .i64 p1] (grow (redrawn W1 d) os) fun e w' => e = .returned x1 ∧ Below (grow (redrawn W1 d) os).heap.size (grow (redrawn W1 d) os) w') := yz (fun d os => yy c1 _ ((yy HS).kept (below_regrown W1 d os)))
 have c2' : Hid (∀ d os, Calls Tryz.prog 63 #[.slice a n c, .int .i64 p2] (grow (redrawn W1 d) os) fun e w' => e = .returned x2 ∧ Below (grow (redrawn W1 d) os).heap.size (grow (redrawn W1 d) os) w') := yz (fun d os => yy c2 _ ((yy HS).kept (below_regrown W1 d os)))
 have c3' : Hid (∀ d os, Calls Tryz.prog 63 #[.slice a n c, .int .i64 q1] (grow (redrawn W1 d) os) fun e w' => e = .returned x3 ∧ Below (grow (redrawn W1 d) os).heap.size (grow (redrawn W1 d) os) w') := yz (fun d os => yy c3 _ ((yy HS).kept (below_regrown W1 d os)))
 have c4' : Hid (∀ d os, Calls Tryz.prog 63 #[.slice a n c, .int .i64 q2] (grow (redrawn W1 d) os) fun e w' => e = .returned x4 ∧ Below (grow (redrawn W1 d) os).heap.size (grow (redrawn W1 d) os) w') := yz (fun d os => yy c4 _ ((yy HS).kept (below_regrown W1 d os)))
 obtain ⟨v0, v1⟩ := yy P1
 obtain ⟨u0, u1⟩ := yy Q1
 have r0 := cell_regrown v0
 have r1 := cell_regrown v1
 have r2 := cell_regrown u0
 have r3 := cell_regrown u1
 clear c1 c2 c3 c4 v0 v1 u0 u1
 refine wp_region_quiet_below (by kernel_rfl) (by kernel_rfl) ?_
 repeat (go_big_quiet_step (first | (with_reducible exact Calls.regrown_of (yy c1' _ _)) | (with_reducible exact Calls.regrown_of (yy c2' _ _)) | (with_reducible exact Calls.regrown_of (yy c3' _ _)) | (with_reducible exact Calls.regrown_of (yy c4' _ _)) | (with_reducible exact Calls.regrown_of (yy HC _))))
 refine wpQuiet_nil ?_
 intro _ hw'
 obtain ⟨⟨dq, osq⟩, hw''⟩ := hw'
 subst hw''
 have hx := yz (ak (yy B1) (below_regrown W1 dq osq))
 have s0 := r0 dq osq
 have s1 := r1 dq osq
 have s2 := r2 dq osq
 have s3 := r3 dq osq
 clear r0 r1 r2 r3 c1' c2' c3' c4' HC P1 Q1 HS B1
 by_cases hc : cc = 0
 ·subst hc
  unfold lA at HL
  rw [if_pos rfl] at HL
  by_cases h1 : p1 < q1
  ·have HO : Hid (res = true) := yz (by rw [yy HL]; simp [h1])
   go_wp2_with fail
   go_ret
   exact ⟨by rw [yy HO]; rfl, yy hx⟩
  ·have h1' : decide (p1 < q1) = false := by simpa using h1
   by_cases h2 : p1 = q1
   ·have h2' : (p1 == q1) = true := by simp [h2]
    by_cases h3 : p2 < q2
    ·have HO : Hid (res = true) := yz (by rw [yy HL]; simp [h2, h3])
     clear h2 h1
     go_wp2_with fail
     go_ret
     exact ⟨by rw [yy HO]; rfl, yy hx⟩
    ·have h3' : decide (p2 < q2) = false := by simpa using h3
     have HO : Hid (res = false) := yz (by rw [yy HL]; simp [h2, h3])
     clear h2 h1
     go_wp2_with fail
     go_ret
     exact ⟨by rw [yy HO]; rfl, yy hx⟩
   ·have h2' : (p1 == q1) = false := by simp [h2]
    have HO : Hid (res = false) := yz (by rw [yy HL]; simp [h1, h2])
    clear h2 h1
    go_wp2_with fail
    go_ret
    exact ⟨by rw [yy HO]; rfl, yy hx⟩
 ·have hc' : (cc == 0) = false := by simp [hc]
  unfold lA at HL
  rw [if_neg hc] at HL
  go_wp2_with fail
  go_ret
  exact ⟨by rw [yy HL]; rfl, yy hx⟩
abbrev P2 := Int × Int
def prA (O : List P2) (i : Nat) : P2 := O.getD i (0, 0)
def fe (f : P2 → P2 → Bool) (p : P2) (O : List P2) : Nat → Nat
 | 0 => 0
 | k + 1 => if f p (prA O k) = true then fe f p O k else k + 1
theorem mL (f : P2 → P2 → Bool) (p : P2) (O : List P2) : ∀ k, fe f p O k ≤ k
 | 0 => Nat.le_refl _
 | k + 1 => by unfold fe; split <;> have := mL f p O k <;> omega
def me (f : P2 → P2 → Bool) (p : P2) (O : List P2) : List P2 := O.take (fe f p O O.length) ++ [p] ++ O.drop (fe f p O O.length)
theorem ro (f : P2 → P2 → Bool) (p : P2) (O : List P2) : (me f p O).length = O.length + 1 := by
 have := mL f p O O.length
 unfold me
 simp
 omega
def eD (L : List St) (p q : P2) : Bool := nB L L.length p.1 p.2 q.1 q.2
def iI (L : List St) (O : List P2) (i : Nat) : Nat → List P2
 | 0 => O
 | m + 1 => me (eD L) ((stA L i).1, (stA L (i + 1 + m)).1) (iI L O i m)
def dG (L : List St) : Nat → List P2
 | 0 => []
 | i + 1 => iI L (dG L i) i (L.length - (i + 1))
theorem hU (L : List St) (O : List P2) (i : Nat) : ∀ m, (iI L O i m).length = O.length + m
 | 0 => rfl
 | m + 1 => by rw [iI, ro, hU L O i m]; omega
theorem gF (L : List St) (h : L.length ≤ 12) : ∀ i, i ≤ L.length → (dG L i).length ≤ 12 * i
 | 0, _ => Nat.le_refl _
 | i + 1, hi => by rw [dG, hU]; have := gF L h i (by omega); omega
def prC (p : P2) : List Value := [.int .i64 p.1, .int .i64 p.2]
def aD (O : List P2) : List Value := O.flatMap prC
theorem dZ (O : List P2) : (aD O).length = O.length * 2 := by
 unfold aD
 induction O with
 | nil => rfl
 | cons x l ih => simp [List.flatMap_cons, prC] at *; omega
theorem dY (A B : List P2) : aD (A ++ B) = aD A ++ aD B := by unfold aD; rw [List.flatMap_append]
theorem gL (O : List P2) : ∀ (i : Nat), i < O.length → (aD O)[i * 2]? = some (.int .i64 (prA O i).1) ∧ (aD O)[i * 2 + 1]? = some (.int .i64 (prA O i).2) := by
 induction O with
 | nil => intro i hi; simp at hi
 | cons x l ih =>
  intro i hi
  match i with
  | 0 => exact ⟨rfl, rfl⟩
  | i + 1 =>
   have h := ih i (by simpa using hi)
   have e : ∀ r, (aD (x :: l))[(i + 1) * 2 + r]? = (aD l)[i * 2 + r]? := fun r => by
    rw [show (i + 1) * 2 + r = (i * 2 + r) + 2 by omega]
    rfl
   exact ⟨by have := e 0; simp only [Nat.add_zero] at this; rw [this]; exact h.1, by rw [e 1]; exact h.2⟩
theorem oD (O : List P2) (k : Nat) : aD (O.take k) = (aD O).take (k * 2) := by
 induction O generalizing k with
 | nil => simp [aD]
 | cons x l ih =>
  match k with
  | 0 => simp [aD]
  | k + 1 =>
   rw [List.take_succ_cons]
   show prC x ++ aD (l.take k) = _
   rw [ih, show (k + 1) * 2 = k * 2 + 2 by omega]
   rfl
theorem oC (O : List P2) (k : Nat) : aD (O.drop k) = (aD O).drop (k * 2) := by
 induction O generalizing k with
 | nil => simp [aD]
 | cons x l ih =>
  match k with
  | 0 => simp [aD]
  | k + 1 =>
   rw [List.drop_succ_cons, ih, show (k + 1) * 2 = k * 2 + 2 by omega]
   rfl
theorem dK {O : List P2} {v : Value} (h : v ∈ aD O) : v.oneCell' = true := by
 unfold aD at h
 rw [List.mem_flatMap] at h
 obtain ⟨p, _, hp⟩ := h
 simp [prC] at hp
 rcases hp with rfl | rfl <;> rfl
def dm (w : World) (B g cap : Nat) (O : List P2) : Prop := w.ownsRow B 52 2 (.slice (some ⟨g, 0, none⟩) O.length cap) O.length (aD O)
theorem dm.block {w : World} {B g cap : Nat} {O : List P2} (h : dm w B g cap O) : B ≤ g ∧ g < w.heap.size := h.lt g rfl
theorem dm.cells {w : World} {B g cap : Nat} {O : List P2} (h : dm w B g cap O) : ∀ j u, (aD O)[j]? = some u → w.cell? ⟨g, j, none⟩ = some u := by
 intro j u hj
 rcases h.2 with ⟨h1, h0⟩ | ⟨g', cap', cur, hv, hb, hg, hnc, hcm, hcs, htake⟩
 ·cases h1
 ·injection hv with e1 e2 e3
  injection e1 with e1
  injection e1 with e1
  subst e1
  have hjl : j < O.length * 2 := by rw [← dZ]; exact (List.getElem?_eq_some_iff.1 hj).1
  rw [cell_of_row w g j cur _ _ hg]
  rw [← htake, List.getElem?_take, if_pos hjl] at hj
  simpa using hj
theorem dm.caps {w : World} {B g cap : Nat} {O : List P2} (h : dm w B g cap O) : O.length ≤ cap ∧ cap ≤ maxLen := by
 rcases h.2 with ⟨h1, h0⟩ | ⟨g', cap', cur, hv, hb, hg, hnc, hcm, hcs, htake⟩
 ·cases h1
 ·injection hv with e1 e2 e3
  subst e3
  exact ⟨hnc, hcm⟩
theorem dm.kept {w w' : World} {B g cap : Nat} {O : List P2} (h : dm w B g cap O) (hB : Below w.heap.size w w') : dm w' B g cap O :=
 World.ownsRow.kept (row := none) h ⟨hB.os, hB.tape, hB.output, hB.size, fun k hk _ => hB.block k hk⟩ (.inr (by simp [Value.ownBlock]))
theorem eO (w : World) (B : Nat) (h : B ≤ w.heap.size) : dm (w.alloc (.cells #[] 52)) B w.heap.size 0 [] :=
 ⟨rfl, .inr ⟨_, 0, #[], rfl, h, Array.getElem?_push_size, Nat.le_refl _, Nat.zero_le _, rfl, rfl⟩⟩
theorem iz : (Tryz.prog.info? 52).map (fun i => (i.zero, i.size, i.bytes)) = some (some (.agg #[.int .i64 0, .int .i64 0]), 2, 16) := by kernel_rfl
theorem gC {w : World} {B n : Nat} {v : Value} {xs : List Value} {O : List P2} (h : w.ownsRow B 52 2 v n xs) (hne : v ≠ .slice none 0 0) (hn : n = O.length) (hx : xs = aD O) : ∃ g cap, v = .slice (some ⟨g, 0, none⟩) O.length cap ∧ dm w B g cap O := by
 subst hn hx
 rcases h.2 with ⟨h1, h0⟩ | ⟨g, cap, cur, hv, r⟩
 ·exact absurd h1 hne
 ·exact ⟨g, cap, hv, by unfold dm; rw [← hv]; exact h⟩
theorem ee {w5 W6 V6 : World} {g : Nat} (h : Below w5.heap.size w5 W6) (hg : W6.grownBy V6 (some g)) (hge : w5.heap.size ≤ g) : Below w5.heap.size w5 V6 :=
 h.trans ⟨hg.os, hg.tape, hg.output, hg.size, fun k hk => hg.block k (Nat.lt_of_lt_of_le hk h.size) (fun e => by have := Option.some.inj e; omega)⟩
theorem dm.less {w : World} {B B' g cap : Nat} {O : List P2} (h : dm w B g cap O) (hb : B' ≤ B) : dm w B' g cap O := by
 obtain ⟨h1, h2⟩ := h
 refine ⟨h1, ?_⟩
 rcases h2 with h2 | ⟨g, cap, cur, e, hg, r⟩
 ·exact .inl h2
 ·exact .inr ⟨g, cap, cur, e, by omega, r⟩
theorem dm.part {w : World} {B g cap : Nat} {O : List P2} (h : dm w B g cap O) (k : Nat) : ∀ j u, (aD (O.take k))[j]? = some u → w.cell? ((⟨g, 0, none⟩ : Addr).add j) = some u := by
 intro j u hj
 rw [oD, List.getElem?_take] at hj
 split at hj
 ·have e : (⟨g, 0, none⟩ : Addr).add j = ⟨g, j, none⟩ := by cases j <;> simp [Addr.add]
  rw [e]
  exact h.cells j u hj
 ·cases hj
theorem dm.tail {w : World} {B g cap : Nat} {O : List P2} (h : dm w B g cap O) (k : Nat) : ∀ j u, (aD (O.drop k))[j]? = some u → w.cell? ((⟨g, k * 2, none⟩ : Addr).add j) = some u := by
 intro j u hj
 rw [oC, List.getElem?_drop] at hj
 have e : (⟨g, k * 2, none⟩ : Addr).add j = ⟨g, k * 2 + j, none⟩ := by cases j <;> simp [Addr.add]
 rw [e]
 exact h.cells _ u hj
theorem kn (w : World) (x y : Int) (t : TypeId) : ∀ (j : Nat) (u : Value), (aD [(x, y)])[j]? = some u → (w.alloc (.cells #[.int .i64 x, .int .i64 y] t)).cell? ((⟨w.heap.size, 0, none⟩ : Addr).add j) = some u := by
 intro j u hj
 have e : aD [(x, y)] = [.int .i64 x, .int .i64 y] := rfl
 rw [e] at hj
 match j, hj with
 | 0, hj => simp at hj; subst hj; simp [Addr.add]
 | 1, hj => simp at hj; subst hj; simp [Addr.add]
 | j + 2, hj => simp at hj
theorem ke {wr wx : World} {p q : Addr} {x y : Value} (hp : wr.cell? p = some x) (hq : wr.cell? q = some y) (h : Below wr.heap.size wr wx) : (wx.cell? p = some x ∧ wx.cell? q = some y) ∧ Below wr.heap.size wr wx :=
 ⟨⟨by rw [h.cell (World.block_lt_of_cell? _ _ hp)]; exact hp, by rw [h.cell (World.block_lt_of_cell? _ _ hq)]; exact hq⟩, h⟩
theorem rT {w1 wx : World} {X : Prop} {b : Nat} (h : X ∧ Below w1.heap.size w1 wx) (hb : w1.heap.size ≤ b) (x y : Value) : Below w1.heap.size w1 ((wx.setCell ⟨b, 0, none⟩ x).setCell ⟨b, 1, none⟩ y) := (h.2.setCell hb _).setCell hb _
theorem gU (L : List St) (a : Option Addr) (c : Nat) (w : World) (hn : L.length ≤ 12) (hS : aA w a L L.length) :
  Calls Tryz.prog 59 #[.slice a L.length c] w fun e w' => (∃ g cap, e = .returned (.slice (some ⟨g, 0, none⟩) (dG L L.length).length cap) ∧ dm w' w.heap.size g cap (dG L L.length)) ∧ Below w.heap.size w w' := by
 have cL := yz (fun W p1 p2 q1 q2 hW => nz L L.length a c p1 p2 q1 q2 W (by omega) hW)
 obtain ⟨i0, hi, hz0, hz1, hz2⟩ := info_parts iz
 have HAL := yz (gF L hn)
 have HS := yz hS
 clear hS
 have O0 := yz (eO w w.heap.size (Nat.le_refl _))
 have B0 := yz (am w (.cells #[] 52))
 go_enter Tryz.func59, Tryz.ntmps59
 go_wp2_with fail
 go_loopw [3, 4] (fun v i wr => ∃ (k g cap : Nat), k ≤ L.length ∧ i = .int .i64 k ∧ v = .slice (some ⟨g, 0, none⟩) (dG L k).length cap ∧ Hid (dm wr w.heap.size g cap (dG L k)) ∧ Hid (Below w.heap.size w wr)) (fun _ i _ => L.length - (intOf i).toNat)
 case atStart => exact ⟨0, w.heap.size, 0, by omega, rfl, rfl, O0, B0⟩
 case round =>
  obtain ⟨k, g, cap, hk, rfl, rfl, HO, HB⟩ := hrel
  by_cases hkn : k < L.length
  ·have hkn2 : (k : Int) < (L.length : Int) := by omega
   go_wp2_with fail
   go_loopw [3, 5] (fun v i wr => ∃ (j g cap : Nat), k + 1 ≤ j ∧ j ≤ L.length ∧ i = .int .i64 j ∧ v = .slice (some ⟨g, 0, none⟩) (iI L (dG L k) k (j - (k + 1))).length cap ∧ Hid (dm wr w.heap.size g cap (iI L (dG L k) k (j - (k + 1)))) ∧ Hid (Below w.heap.size w wr)) (fun _ i _ => L.length - (intOf i).toNat)
   case atStart => exact ⟨k + 1, g, cap, Nat.le_refl _, by omega, by go_num, by rw [Nat.sub_self]; rfl, by rw [Nat.sub_self]; exact HO, HB⟩
   case round =>
    clear HO HB
    obtain ⟨j, g, cap, hj1, hj, rfl, rfl, HO, HB⟩ := hrel
    by_cases hjn : j < L.length
    ·have hjn2 : (j : Int) < (L.length : Int) := by omega
     rcases (yy HS).kept (yy HB) with h0 | ⟨b, o, ha, hb, hc⟩
     ·omega
     subst ha
     have e1 := (hc k hkn).1
     have e2 := (hc j hjn).1
     have E1 := yz e1
     have E2 := yz e2
     go_wp2_with fail
     go_cut [6] (fun s wx => ∃ bb, s = .pointer (some ⟨bb, 0, none⟩) ∧ fi wx bb (stA L k).1 (stA L j).1 ∧ Below wr.heap.size wr wx)
     case first =>
      go_region_held (fun w' => (w'.cell? ⟨b, o + k * 4, none⟩ = some (.int .i64 (stA L k).1) ∧ w'.cell? ⟨b, o + j * 4, none⟩ = some (.int .i64 (stA L j).1)) ∧ Below wr.heap.size wr w') (first | exact ke (yy E1) (yy E2) (Below.refl _ _).drew | exact ke (yy E1) (yy E2) (am _ _).drew | exact ke (yy E1) (yy E2) (am _ _) | exact ke (yy E1) (yy E2) (iM (by assumption) _) | exact ke (yy E1) (yy E2) (by assumption) | exact ke (yy E1) (yy E2) (ey (by assumption) _) | exact ke (yy E1) (yy E2) (rT (by assumption) (by first | exact Nat.le_refl _ | exact Below.size (by assumption)) _ _)) (fail)
      go_wp2_with fail
      go_meet
      case rel => exact ⟨_, rfl, show fi (wr.alloc (.cells #[.int .i64 (stA L k).1, .int .i64 (stA L j).1] 52)).drew wr.heap.size _ _ from gv wr _ _ _, (am _ _).drew⟩
     case rest =>
      obtain ⟨bb, rfl, hp, hx⟩ := hcut
      clear e1 e2 E1 E2 hb hc
      have hOl : (iI L (dG L k) k (j - (k + 1))).length ≤ 160 := by
       rw [hU]
       have := yy HAL k hk
       omega
      have HNX : Hid (iI L (dG L k) k (j + 1 - (k + 1)) = me (eD L) ((stA L k).1, (stA L j).1) (iI L (dG L k) k (j - (k + 1)))) := yz (by
       rw [show j + 1 - (k + 1) = (j - (k + 1)) + 1 by omega]
       show me _ ((stA L k).1, (stA L (k + 1 + (j - (k + 1)))).1) _ = _
       rw [show k + 1 + (j - (k + 1)) = j by omega])
      have S1 := yz (((yy HS).kept (yy HB)).kept hx)
      have O1 := yz ((yy HO).kept hx)
      have B1 := yz (ak (yy HB) hx)
      have P1 := yz hp
      clear hp hx HO HB
      generalize hON0 : iI L (dG L k) k (j + 1 - (k + 1)) = ON at HNX ⊢
      have HON := yz hON0
      clear hON0
      generalize iI L (dG L k) k (j - (k + 1)) = O at *
      generalize (stA L k).1 = x at *
      generalize (stA L j).1 = y at *
      have HCL : Hid (∀ (q1 q2 : Int) (W : World), aA W (some ⟨b, o, none⟩) L L.length → Calls Tryz.prog 100 #[.slice (some ⟨b, o, none⟩) L.length c, .agg #[.int .i64 x, .int .i64 y], .agg #[.int .i64 q1, .int .i64 q2]] W fun e w' => e = .returned (.bool (eD L (x, y) (q1, q2))) ∧ Below W.heap.size W w') := yz (fun q1 q2 W h => yy cL W x y q1 q2 h)
      go_wp2_with fail
      go_loopw [7] (fun i wz => ∃ q : Nat, q ≤ O.length ∧ i = .int .i64 q ∧ Hid (fe (eD L) (x, y) O q = fe (eD L) (x, y) O O.length) ∧ Hid (Below wc.heap.size wc wz)) (fun i _ => (intOf i).toNat)
      case atStart => exact ⟨O.length, Nat.le_refl _, rfl, yz rfl, yz (Below.refl _ _)⟩
      case round =>
       obtain ⟨q, hq, rfl, HK, HZ⟩ := hrel
       have O2 := yz ((yy O1).kept (yy HZ))
       have P2 := yz ((yy P1).kept (yy HZ))
       have S2 := yz ((yy S1).kept (yy HZ))
       have B2 := yz (ak (yy B1) (yy HZ))
       match q, hq, HK with
       | 0, hq, HK =>
        have HQ : Hid (ON = O.take 0 ++ [(x, y)] ++ O.drop 0) := yz (by rw [yy HNX]; unfold me; rw [← yy HK]; rfl)
        clear HK HNX
        go_wp2_with fail
        refine wp_region_quiet_below (by kernel_rfl) (by kernel_rfl) ?_
        repeat (go_big_quiet_step (fail))
        refine wpQuiet_nil ?_
        intro _ hw'
        obtain ⟨⟨dq, osq⟩, hw''⟩ := hw'
        subst hw''
        have hx := below_regrown wr dq osq
        have O3 := yz ((yy O2).kept hx)
        have P3 := yz ((yy P2).kept hx)
        have B3 := yz (ak (yy B2) hx)
        dsimp only
        generalize grow (redrawn wr dq) osq = w5 at *
        have hcaps := (yy O3).caps
        have hgl := (yy O3).block
        have hs5 := (yy B3).size
        have hm9 : maxLen ≤ 9223372036854775807 := by decide +kernel
        have hm8 : 400 ≤ maxLen := by decide +kernel
        clear hx O2 P2 B2 S2 HZ
        have N5 := eO w5 w5.heap.size (Nat.le_refl _)
        have O5 := (yy O3).kept (am w5 (.cells #[] 52))
        go_wp2_with (at_builtin; refine wpList_append_own _ rfl _ _ 30 rfl w5.heap.size 52 i0 (.agg #[.int .i64 0, .int .i64 0]) 2 16 Tryz.underlying30 hi hz0 hz1 hz2 rfl (by decide) _ _ _ rfl N5 ⟨g, 0, none⟩ 0 cap (aD (O.take 0)) rfl ?c0 (O5.part 0) (fun u hu => dK hu) ?c3 ?c4 ?c5 ?_)
        case c0 => rw [dZ, List.length_take, Nat.min_eq_left (by omega)]
        case c3 => simp only [List.length_nil]; omega
        case c4 => simp only [List.length_nil]; omega
        case c5 => simp
        intro v6 V6 hown6 hgrow6 hnone6
        have hne6 : v6 ≠ .slice none 0 0 := hnone6
        obtain ⟨A, hA⟩ : ∃ A, A = O.take 0 := ⟨_, rfl⟩
        have hAl : A.length = 0 := by rw [hA, List.length_take, Nat.min_eq_left (by omega)]
        obtain ⟨g6, cap6, rfl, own6⟩ := gC (O := A) hown6 hne6 (by first | (rw [hAl]; done) | (rw [hAl]; simp)) (by rw [hA]; rfl)
        have HA := yz hA
        have hlt6 : A.length ≤ 160 := by omega
        have HAl := yz hAl
        clear hA hAl
        have Z6 := ee (am w5 _) hgrow6 (Nat.le_refl _)
        have hb6 := own6.block
        have P6 := yz ((yy P3).kept Z6)
        have U6 := yz ((yy O3).kept Z6)
        have HZ6 := yz Z6
        have W6 := yz own6
        clear hown6 hgrow6 hnone6 hne6 Z6 N5 O5 P3 own6
        obtain ⟨p0, p1⟩ := yy P6
        have N6 := (yy W6).kept (am V6 (.cells #[.int .i64 x, .int .i64 y] 52))
        go_wp2_with (at_builtin; refine wpList_append_own _ rfl _ _ 30 rfl w5.heap.size 52 i0 (.agg #[.int .i64 0, .int .i64 0]) 2 16 Tryz.underlying30 hi hz0 hz1 hz2 rfl (by decide) _ _ _ rfl N6 ⟨V6.heap.size, 0, none⟩ 1 1 (aD [(x, y)]) rfl rfl (kn V6 x y 52) (fun u hu => dK hu) ?d3 ?d4 ?d5 ?_)
        case d3 => omega
        case d4 => omega
        case d5 => have := (yy HZ6).size; simp; omega
        intro v7 V7 hown7 hgrow7 hnone7
        obtain ⟨A7, hA7⟩ : ∃ A7, A7 = A ++ [(x, y)] := ⟨_, rfl⟩
        have hAl7 : A7.length = A.length + 1 := by rw [hA7, List.length_append]; rfl
        obtain ⟨g7, cap7, rfl, own7⟩ := gC (O := A7) hown7 hnone7 hAl7.symm (by rw [hA7, dY])
        have Z7 := ee (ak (yy HZ6) (am V6 _)) hgrow7 hb6.1
        have HA7 := yz hA7
        have hlt7 : A7.length ≤ 161 := by omega
        clear hA7 hAl7
        have hb7 := own7.block
        have U7 := yz ((yy O3).kept Z7)
        have HZ7 := yz Z7
        have W7 := yz own7
        clear hown7 hgrow7 hnone7 Z7 N6 P6 own7 p0 p1 hb6 W6 U6
        have T7 := yy U7
        have N7 := yy W7
        have hON : ON = A7 ++ O.drop 0 := by rw [yy HQ, yy HA7, yy HA]
        have HX := yz (show aD A7 ++ aD (O.drop 0) = aD ON by rw [hON, dY])
        have HXl := yz (show A7.length + (O.length - 0) = ON.length by rw [hON, List.length_append, List.length_drop])
        have hs7 := (yy HZ7).size
        clear hON
        go_wp2_with (at_builtin; refine wpList_append_own _ rfl _ _ 30 rfl w5.heap.size 52 i0 (.agg #[.int .i64 0, .int .i64 0]) 2 16 Tryz.underlying30 hi hz0 hz1 hz2 rfl (by decide) _ _ _ rfl N7 ⟨g, 0 * 2, none⟩ (O.length - 0) (cap - 0) (aD (O.drop 0)) ?e9 ?e0 (T7.tail 0) (fun u hu => dK hu) ?e3 ?e4 ?e5 ?_)
        case e9 => first | rfl | simp [go_sem]
        case e0 => first | rfl | rw [dZ, List.length_drop]
        case e3 => omega
        case e4 => omega
        case e5 => omega
        intro v8 V8 hown8 hgrow8 hnone8
        obtain ⟨g8, cap8, rfl, own8⟩ := gC (O := ON) hown8 hnone8 (by first | exact yy HXl | (rw [← yy HXl]; omega)) (by first | exact yy HX | (rw [← yy HX, List.drop_eq_nil_of_le (by omega)]; simp [aD]))
        have Z8 := ee (yy HZ7) hgrow8 hb7.1
        have B8 := yz (ak (yy B3) Z8)
        have W8 := yz (own8.less (show w.heap.size ≤ w5.heap.size by omega))
        clear hown8 hgrow8 hnone8 Z8 own8 N7 T7 U7 W7
        go_wp2_with fail
        go_roundw
        case rel => exact ⟨j + 1, g8, cap8, by omega, by omega, by go_num, by rw [yy HON], by rw [yy HON]; exact W8, B8⟩
        case measure => simp [intOf]; omega
       | q + 1, hq, HK =>
        have hq0 : (0 : Int) < ((q + 1 : Nat) : Int) := by omega
        obtain ⟨v0, v1⟩ := yy P2
        have r0 := cell_regrown v0
        have r1 := cell_regrown v1
        obtain ⟨t0, t1⟩ := gL O q (by omega)
        have r2 := cell_regrown ((yy O2).cells _ _ t0)
        have r3 := cell_regrown ((yy O2).cells _ _ t1)
        have cL' : Hid (∀ d os, Calls Tryz.prog 100 #[.slice (some ⟨b, o, none⟩) L.length c, .agg #[.int .i64 x, .int .i64 y], .agg #[.int .i64 (prA O q).1, .int .i64 (prA O q).2]] (grow (redrawn wr d) os) fun e w' => e = .returned (.bool (eD L (x, y) (prA O q))) ∧ Below (grow (redrawn wr d) os).heap.size (grow (redrawn wr d) os) w') := yz (fun d os => yy HCL _ _ _ ((yy S2).kept (below_regrown wr d os)))
        generalize (prA O q).1 = e1 at *
        generalize (prA O q).2 = e2 at *
        clear v0 v1 t0 t1
        cases hls : eD L (x, y) (prA O q)
        ·rw [hls] at cL'
         have HQ : Hid (ON = O.take (q + 1) ++ [(x, y)] ++ O.drop (q + 1)) := yz (by rw [yy HNX]; unfold me; rw [← yy HK]; unfold fe; rw [hls]; rfl)
         clear HK HNX hls
         go_wp2_with fail
         refine wp_region_quiet_below (by kernel_rfl) (by kernel_rfl) ?_
         repeat (go_big_quiet_step (first | (with_reducible exact Calls.regrown_of (yy cL' _ _))))
         refine wpQuiet_nil ?_
         intro _ hw'
         obtain ⟨⟨dq, osq⟩, hw''⟩ := hw'
         subst hw''
         have hx := below_regrown wr dq osq
         clear r0 r1 r2 r3
         have O3 := yz ((yy O2).kept hx)
         have P3 := yz ((yy P2).kept hx)
         have B3 := yz (ak (yy B2) hx)
         dsimp only
         generalize grow (redrawn wr dq) osq = w5 at *
         have hcaps := (yy O3).caps
         have hgl := (yy O3).block
         have hs5 := (yy B3).size
         have hm9 : maxLen ≤ 9223372036854775807 := by decide +kernel
         have hm8 : 400 ≤ maxLen := by decide +kernel
         clear hx O2 P2 B2 S2 HZ
         have N5 := eO w5 w5.heap.size (Nat.le_refl _)
         have O5 := (yy O3).kept (am w5 (.cells #[] 52))
         go_wp2_with (at_builtin; refine wpList_append_own _ rfl _ _ 30 rfl w5.heap.size 52 i0 (.agg #[.int .i64 0, .int .i64 0]) 2 16 Tryz.underlying30 hi hz0 hz1 hz2 rfl (by decide) _ _ _ rfl N5 ⟨g, 0, none⟩ (q + 1) cap (aD (O.take (q + 1))) rfl ?c0 (O5.part (q + 1)) (fun u hu => dK hu) ?c3 ?c4 ?c5 ?_)
         case c0 => rw [dZ, List.length_take, Nat.min_eq_left (by omega)]
         case c3 => simp only [List.length_nil]; omega
         case c4 => simp only [List.length_nil]; omega
         case c5 => simp
         intro v6 V6 hown6 hgrow6 hnone6
         have hne6 : v6 ≠ .slice none 0 0 := hnone6
         obtain ⟨A, hA⟩ : ∃ A, A = O.take (q + 1) := ⟨_, rfl⟩
         have hAl : A.length = (q + 1) := by rw [hA, List.length_take, Nat.min_eq_left (by omega)]
         obtain ⟨g6, cap6, rfl, own6⟩ := gC (O := A) hown6 hne6 (by first | (rw [hAl]; done) | (rw [hAl]; simp)) (by rw [hA]; rfl)
         have HA := yz hA
         have hlt6 : A.length ≤ 160 := by omega
         have HAl := yz hAl
         clear hA hAl
         have Z6 := ee (am w5 _) hgrow6 (Nat.le_refl _)
         have hb6 := own6.block
         have P6 := yz ((yy P3).kept Z6)
         have U6 := yz ((yy O3).kept Z6)
         have HZ6 := yz Z6
         have W6 := yz own6
         clear hown6 hgrow6 hnone6 hne6 Z6 N5 O5 P3 own6
         obtain ⟨p0, p1⟩ := yy P6
         have N6 := (yy W6).kept (am V6 (.cells #[.int .i64 x, .int .i64 y] 52))
         go_wp2_with (at_builtin; refine wpList_append_own _ rfl _ _ 30 rfl w5.heap.size 52 i0 (.agg #[.int .i64 0, .int .i64 0]) 2 16 Tryz.underlying30 hi hz0 hz1 hz2 rfl (by decide) _ _ _ rfl N6 ⟨V6.heap.size, 0, none⟩ 1 1 (aD [(x, y)]) rfl rfl (kn V6 x y 52) (fun u hu => dK hu) ?d3 ?d4 ?d5 ?_)
         case d3 => omega
         case d4 => omega
         case d5 => have := (yy HZ6).size; simp; omega
         intro v7 V7 hown7 hgrow7 hnone7
         obtain ⟨A7, hA7⟩ : ∃ A7, A7 = A ++ [(x, y)] := ⟨_, rfl⟩
         have hAl7 : A7.length = A.length + 1 := by rw [hA7, List.length_append]; rfl
         obtain ⟨g7, cap7, rfl, own7⟩ := gC (O := A7) hown7 hnone7 hAl7.symm (by rw [hA7, dY])
         have Z7 := ee (ak (yy HZ6) (am V6 _)) hgrow7 hb6.1
         have HA7 := yz hA7
         have hlt7 : A7.length ≤ 161 := by omega
         clear hA7 hAl7
         have hb7 := own7.block
         have U7 := yz ((yy O3).kept Z7)
         have HZ7 := yz Z7
         have W7 := yz own7
         clear hown7 hgrow7 hnone7 Z7 N6 P6 own7 p0 p1 hb6 W6 U6
         have T7 := yy U7
         have N7 := yy W7
         have hON : ON = A7 ++ O.drop (q + 1) := by rw [yy HQ, yy HA7, yy HA]
         have HX := yz (show aD A7 ++ aD (O.drop (q + 1)) = aD ON by rw [hON, dY])
         have HXl := yz (show A7.length + (O.length - (q + 1)) = ON.length by rw [hON, List.length_append, List.length_drop])
         have hs7 := (yy HZ7).size
         clear hON
         by_cases hce : cap = (q + 1)
         ·subst hce
          go_wp2_with (at_builtin; refine wpList_append_own _ rfl _ _ 30 rfl w5.heap.size 52 i0 (.agg #[.int .i64 0, .int .i64 0]) 2 16 Tryz.underlying30 hi hz0 hz1 hz2 rfl (by decide) _ _ _ rfl N7 ⟨g, 0, none⟩ 0 0 [] ?e9 ?e0 (fun j u h => by simp at h) (fun u hu => by cases hu) ?e3 ?e4 ?e5 ?_)
          case e9 => first | rfl | simp [go_sem]
          case e0 => first | rfl | rw [dZ, List.length_drop]
          case e3 => omega
          case e4 => omega
          case e5 => omega
          intro v8 V8 hown8 hgrow8 hnone8
          obtain ⟨g8, cap8, rfl, own8⟩ := gC (O := ON) hown8 hnone8 (by first | exact yy HXl | (rw [← yy HXl]; omega)) (by first | exact yy HX | (rw [← yy HX, List.drop_eq_nil_of_le (by omega)]; simp [aD]))
          have Z8 := ee (yy HZ7) hgrow8 hb7.1
          have B8 := yz (ak (yy B3) Z8)
          have W8 := yz (own8.less (show w.heap.size ≤ w5.heap.size by omega))
          clear hown8 hgrow8 hnone8 Z8 own8 N7 T7 U7 W7
          go_wp2_with fail
          go_roundw
          case rel => exact ⟨j + 1, g8, cap8, by omega, by omega, by go_num, by rw [yy HON], by rw [yy HON]; exact W8, B8⟩
          case measure => simp [intOf]; omega
         ·go_wp2_with (at_builtin; refine wpList_append_own _ rfl _ _ 30 rfl w5.heap.size 52 i0 (.agg #[.int .i64 0, .int .i64 0]) 2 16 Tryz.underlying30 hi hz0 hz1 hz2 rfl (by decide) _ _ _ rfl N7 ⟨g, (q + 1) * 2, none⟩ (O.length - (q + 1)) (cap - (q + 1)) (aD (O.drop (q + 1))) ?e9 ?e0 (T7.tail (q + 1)) (fun u hu => dK hu) ?e3 ?e4 ?e5 ?_)
          case e9 => first | rfl | simp [go_sem]
          case e0 => first | rfl | rw [dZ, List.length_drop]
          case e3 => omega
          case e4 => omega
          case e5 => omega
          intro v8 V8 hown8 hgrow8 hnone8
          obtain ⟨g8, cap8, rfl, own8⟩ := gC (O := ON) hown8 hnone8 (by first | exact yy HXl | (rw [← yy HXl]; omega)) (by first | exact yy HX | (rw [← yy HX, List.drop_eq_nil_of_le (by omega)]; simp [aD]))
          have Z8 := ee (yy HZ7) hgrow8 hb7.1
          have B8 := yz (ak (yy B3) Z8)
          have W8 := yz (own8.less (show w.heap.size ≤ w5.heap.size by omega))
          clear hown8 hgrow8 hnone8 Z8 own8 N7 T7 U7 W7
          go_wp2_with fail
          go_roundw
          case rel => exact ⟨j + 1, g8, cap8, by omega, by omega, by go_num, by rw [yy HON], by rw [yy HON]; exact W8, B8⟩
          case measure => simp [intOf]; omega
        ·rw [hls] at cL'
         have HK2 : Hid (fe (eD L) (x, y) O q = fe (eD L) (x, y) O O.length) := yz (by rw [← yy HK]; show _ = if _ then _ else _; rw [if_pos hls])
         clear HK hls
         go_wp2_with fail
         refine wp_region_quiet_below (by kernel_rfl) (by kernel_rfl) ?_
         repeat (go_big_quiet_step (first | (with_reducible exact Calls.regrown_of (yy cL' _ _))))
         refine wpQuiet_nil ?_
         intro _ hw'
         obtain ⟨⟨dq, osq⟩, hw''⟩ := hw'
         subst hw''
         have hx := below_regrown wr dq osq
         clear r0 r1 r2 r3
         go_wp2_with fail
         go_roundw
         case rel => exact ⟨q, by omega, by go_num, HK2, yz (ak (yy HZ) hx)⟩
         case measure => simp [intOf]
    ·obtain rfl : j = L.length := by omega
     go_wp2_with fail
     go_roundw
     case rel => exact ⟨k + 1, g, cap, by omega, by go_num, rfl, HO, HB⟩
     case measure => simp [intOf]; omega
  ·obtain rfl : k = L.length := by omega
   go_wp2_with fail
   go_ret
   exact ⟨⟨g, cap, rfl, yy HO⟩, yy HB⟩
def aC (L : List St) : List P2 := if aB L = true then dG L L.length else []
theorem ju (L : List St) (a : Option Addr) (c : Nat) (w : World) (hn : L.length ≤ 1048576) (hS : aA w a L L.length) :
  Calls Tryz.prog 18 #[.slice a L.length c] w fun e w' => (∃ g cap, e = .returned (.slice (some ⟨g, 0, none⟩) (aC L).length cap) ∧ dm w' w.heap.size g cap (aC L)) ∧ Below w.heap.size w w' := by
 have cS := yz (fun (W : World) hW => bL L a c W hn hW)
 have H12 : Hid (aB L = true → L.length ≤ 12) := yz (fun h => (aQ h).1)
 have cP : Hid (aB L = true → ∀ W : World, aA W a L L.length → Calls Tryz.prog 59 #[.slice a L.length c] W fun e w' => (∃ g cap, e = .returned (.slice (some ⟨g, 0, none⟩) (aC L).length cap) ∧ dm w' W.heap.size g cap (aC L)) ∧ Below W.heap.size W w') := yz (fun hk W hW => by
  have e : aC L = dG L L.length := by unfold aC; rw [if_pos hk]
  rw [e]
  exact gU L a c W (yy H12 hk) hW)
 have HN : Hid (aB L = false → aC L = []) := yz (fun h => by unfold aC; rw [h]; rfl)
 have HS := yz hS
 clear hS
 generalize aC L = R at *
 generalize L.length = n at *
 by_cases hbig : (400 : Int) < (n : Int)
 ·have hk : aB L = false := by
   cases h : aB L
   ·rfl
   ·have := yy H12 h; omega
  obtain rfl := yy HN hk
  clear hk cP
  have W1 := yz (eO w w.heap.size (Nat.le_refl _))
  have B1 := yz (am w (.cells #[] 52))
  go_enter Tryz.func18, Tryz.ntmps18
  go_wp2_with fail
  go_ret
  exact ⟨⟨_, 0, rfl, yy W1⟩, yy B1⟩
 have hbig' : decide ((400 : Int) < (n : Int)) = false := by simpa using hbig
 go_enter Tryz.func18, Tryz.ntmps18
 go_wp2_with fail
 refine (yy cS _ (yy HS)).mono ?_
 rintro e w1 ⟨rfl, hx⟩
 have HB := yz hx
 clear hx
 cases hk : aB L
 ·obtain rfl := yy HN hk
  clear hk cP
  have W1 := yz (eO w1 w.heap.size (yy HB).size)
  have B1 := yz (ak (yy HB) (am w1 (.cells #[] 52)))
  go_wp2_with fail
  go_ret
  exact ⟨⟨_, 0, rfl, yy W1⟩, yy B1⟩
 ·have cP' := yz (yy cP hk)
  clear hk cP
  go_wp2_with fail
  refine (yy cP' _ ((yy HS).kept (yy HB))).mono ?_
  rintro e w2 ⟨⟨g, cap, rfl, ho⟩, hx⟩
  have B2 := yz (ak (yy HB) hx)
  have W2 := yz (ho.less (yy HB).size)
  clear hx ho
  go_wp2_with fail
  go_ret
  exact ⟨⟨g, cap, rfl, yy W2⟩, yy B2⟩
abbrev Sp := P2 × V3 × V3
def spL (s : Sp) : List Value := [.int .i64 s.1.1, .int .i64 s.1.2, .int .i64 s.2.1.1, .int .i64 s.2.1.2.1, .int .i64 s.2.1.2.2, .int .i64 s.2.2.1, .int .i64 s.2.2.2.1, .int .i64 s.2.2.2.2]
def ip (p q : Sp) : Int := dH p.2.1.1 p.2.1.2.1 p.2.1.2.2 p.2.2.1 p.2.2.2.1 p.2.2.2.2 q.2.1.1 q.2.1.2.1 q.2.1.2.2 q.2.2.1 q.2.2.2.1 q.2.2.2.2
def fy (p q : Sp) : Int := if ip p q = 0 then (if bS p.1.1 q.1.1 = 0 then bS p.1.2 q.1.2 else bS p.1.1 q.1.1) else ip p q
def lS (w : World) (b : Nat) (x y a1 a2 a3 b1 b2 b3 : Int) : Prop := w.cell? ⟨b, 0, none⟩ = some (.int .i64 x) ∧ w.cell? ⟨b, 1, none⟩ = some (.int .i64 y) ∧ w.cell? ⟨b, 2, none⟩ = some (.int .i64 a1) ∧ w.cell? ⟨b, 3, none⟩ = some (.int .i64 a2) ∧ w.cell? ⟨b, 4, none⟩ = some (.int .i64 a3) ∧ w.cell? ⟨b, 5, none⟩ = some (.int .i64 b1) ∧ w.cell? ⟨b, 6, none⟩ = some (.int .i64 b2) ∧ w.cell? ⟨b, 7, none⟩ = some (.int .i64 b3)
theorem lS.kept {w w' : World} {b : Nat} {x y a1 a2 a3 b1 b2 b3 : Int} (h : lS w b x y a1 a2 a3 b1 b2 b3) (hB : Below w.heap.size w w') : lS w' b x y a1 a2 a3 b1 b2 b3 := by
 have hb := World.block_lt_of_cell? w _ h.1
 obtain ⟨h0, h1, h2, h3, h4, h5, h6, h7⟩ := h
 exact ⟨by rw [hB.cell (p := ⟨b, 0, none⟩) hb]; exact h0, by rw [hB.cell (p := ⟨b, 1, none⟩) hb]; exact h1, by rw [hB.cell (p := ⟨b, 2, none⟩) hb]; exact h2, by rw [hB.cell (p := ⟨b, 3, none⟩) hb]; exact h3, by rw [hB.cell (p := ⟨b, 4, none⟩) hb]; exact h4, by rw [hB.cell (p := ⟨b, 5, none⟩) hb]; exact h5, by rw [hB.cell (p := ⟨b, 6, none⟩) hb]; exact h6, by rw [hB.cell (p := ⟨b, 7, none⟩) hb]; exact h7⟩
theorem kB (w : World) (x y a1 a2 a3 b1 b2 b3 : Int) (t : TypeId) : lS (w.alloc (.cells #[.int .i64 x, .int .i64 y, .int .i64 a1, .int .i64 a2, .int .i64 a3, .int .i64 b1, .int .i64 b2, .int .i64 b3] t)) w.heap.size x y a1 a2 a3 b1 b2 b3 := by
 refine ⟨?_, ?_, ?_, ?_, ?_, ?_, ?_, ?_⟩ <;> simp
theorem la (x y a1 a2 a3 b1 b2 b3 u v c1 c2 c3 d1 d2 d3 : Int) (w : World) :
  Calls Tryz.prog 90 #[.agg #[.int .i64 x, .int .i64 y, .int .i64 a1, .int .i64 a2, .int .i64 a3, .int .i64 b1, .int .i64 b2, .int .i64 b3], .agg #[.int .i64 u, .int .i64 v, .int .i64 c1, .int .i64 c2, .int .i64 c3, .int .i64 d1, .int .i64 d2, .int .i64 d3]] w fun e w' => e = .returned (.int .i64 (fy ((x, y), (a1, a2, a3), (b1, b2, b3)) ((u, v), (c1, c2, c3), (d1, d2, d3)))) ∧ Below w.heap.size w w' := by
 have HI : Hid (fy ((x, y), (a1, a2, a3), (b1, b2, b3)) ((u, v), (c1, c2, c3), (d1, d2, d3)) = if dH a1 a2 a3 b1 b2 b3 c1 c2 c3 d1 d2 d3 = 0 then (if bS x u = 0 then bS y v else bS x u) else dH a1 a2 a3 b1 b2 b3 c1 c2 c3 d1 d2 d3) := yz rfl
 have cC := yz (fun W => eT a1 a2 a3 b1 b2 b3 c1 c2 c3 d1 d2 d3 W)
 have c1' := yz (fun W => iF x u W)
 have c2' := yz (fun W => iF y v W)
 generalize fy ((x, y), (a1, a2, a3), (b1, b2, b3)) ((u, v), (c1, c2, c3), (d1, d2, d3)) = res at *
 generalize dH a1 a2 a3 b1 b2 b3 c1 c2 c3 d1 d2 d3 = cc at *
 generalize bS x u = o1 at *
 generalize bS y v = o2 at *
 have P0 := yz (kB w x y a1 a2 a3 b1 b2 b3 92)
 have hP := fun o => (yy P0).kept (am _ o)
 have Q0 := fun W => kB W u v c1 c2 c3 d1 d2 d3 92
 have p1 := hP (.cells #[.int .i64 u, .int .i64 v, .int .i64 c1, .int .i64 c2, .int .i64 c3, .int .i64 d1, .int .i64 d2, .int .i64 d3] 92)
 have q1 := Q0 (w.alloc (.cells #[.int .i64 x, .int .i64 y, .int .i64 a1, .int .i64 a2, .int .i64 a3, .int .i64 b1, .int .i64 b2, .int .i64 b3] 92))
 have hz : (w.alloc (.cells #[.int .i64 x, .int .i64 y, .int .i64 a1, .int .i64 a2, .int .i64 a3, .int .i64 b1, .int .i64 b2, .int .i64 b3] 92)).heap.size = w.heap.size + 1 := by simp
 rw [hz] at q1
 have P1 := yz p1
 have Q1 := yz q1
 have B1 := yz (be w (.cells #[.int .i64 x, .int .i64 y, .int .i64 a1, .int .i64 a2, .int .i64 a3, .int .i64 b1, .int .i64 b2, .int .i64 b3] 92) (.cells #[.int .i64 u, .int .i64 v, .int .i64 c1, .int .i64 c2, .int .i64 c3, .int .i64 d1, .int .i64 d2, .int .i64 d3] 92))
 clear hz hP Q0 p1 q1 P0
 go_enter Tryz.func90, Tryz.ntmps90
 go_wp2_with fail
 refine (yy cC _).mono ?_
 rintro e w1 ⟨rfl, hx⟩
 have B2 := yz (ak (yy B1) hx)
 obtain ⟨e0, e1, _⟩ := (yy P1).kept hx
 obtain ⟨f0, f1, _⟩ := (yy Q1).kept hx
 clear hx B1 P1 Q1
 by_cases hc : cc = 0
 ·subst hc
  rw [if_pos rfl] at HI
  go_wp2_with fail
  refine (yy c1' _).mono ?_
  rintro e w2 ⟨rfl, hw⟩
  rw [hw]
  clear hw w2
  by_cases ho : o1 = 0
  ·subst ho
   rw [if_pos rfl] at HI
   go_wp2_with fail
   refine (yy c2' _).mono ?_
   rintro e w2 ⟨rfl, hw⟩
   rw [hw]
   clear hw w2
   go_wp2_with fail
   go_ret
   exact ⟨by rw [yy HI]; rfl, yy B2⟩
  ·rw [if_neg ho] at HI
   have ho' : (o1 == 0) = false := by simp [ho]
   go_wp2_with fail
   go_ret
   exact ⟨by rw [yy HI]; rfl, yy B2⟩
 ·rw [if_neg hc] at HI
  have hc' : (cc == 0) = false := by simp [hc]
  go_wp2_with fail
  go_ret
  exact ⟨by rw [yy HI]; rfl, yy B2⟩
def spA (S : List Sp) (i : Nat) : Sp := S.getD i ((0, 0), (0, 0, 0), (0, 0, 0))
def jM (w : World) (b o : Nat) (s : Sp) : Prop := w.cell? ⟨b, o, none⟩ = some (.int .i64 s.1.1) ∧ w.cell? ⟨b, o + 1, none⟩ = some (.int .i64 s.1.2) ∧ w.cell? ⟨b, o + 2, none⟩ = some (.int .i64 s.2.1.1) ∧ w.cell? ⟨b, o + 3, none⟩ = some (.int .i64 s.2.1.2.1) ∧ w.cell? ⟨b, o + 4, none⟩ = some (.int .i64 s.2.1.2.2) ∧ w.cell? ⟨b, o + 5, none⟩ = some (.int .i64 s.2.2.1) ∧ w.cell? ⟨b, o + 6, none⟩ = some (.int .i64 s.2.2.2.1) ∧ w.cell? ⟨b, o + 7, none⟩ = some (.int .i64 s.2.2.2.2)
theorem jM.kept {w w' : World} {b o : Nat} {s : Sp} (h : jM w b o s) (hB : Below w.heap.size w w') : jM w' b o s := by
 have hb : b < w.heap.size := World.block_lt_of_cell? w _ h.1
 obtain ⟨h0, h1, h2, h3, h4, h5, h6, h7⟩ := h
 exact ⟨by rw [hB.cell (p := ⟨b, o, none⟩) hb]; exact h0, by rw [hB.cell (p := ⟨b, o + 1, none⟩) hb]; exact h1, by rw [hB.cell (p := ⟨b, o + 2, none⟩) hb]; exact h2, by rw [hB.cell (p := ⟨b, o + 3, none⟩) hb]; exact h3, by rw [hB.cell (p := ⟨b, o + 4, none⟩) hb]; exact h4, by rw [hB.cell (p := ⟨b, o + 5, none⟩) hb]; exact h5, by rw [hB.cell (p := ⟨b, o + 6, none⟩) hb]; exact h6, by rw [hB.cell (p := ⟨b, o + 7, none⟩) hb]; exact h7⟩
theorem rh (S : List Sp) (k : Nat) (h : k < S.length) : (S.take (k + 1)).map Prod.fst = (S.take k).map Prod.fst ++ [(spA S k).1] := by
 rw [List.take_succ_eq_append_getElem h, List.map_append]
 congr 2
 unfold spA
 rw [List.getD, List.getElem?_eq_getElem h]
 rfl
theorem dt {w w' : World} {B : Nat} {t : TypeId} {v : Value} {n m : Nat} {xs : List Value} (h : w.ownsRow B t m v n xs) (hB : Below w.heap.size w w') : w'.ownsRow B t m v n xs :=
 h.kept (row := none) ⟨hB.os, hB.tape, hB.output, hB.size, fun k hk _ => hB.block k hk⟩ (by cases hv : v.ownBlock <;> simp)
theorem lz {B : Nat} {w w1 w2 : World} {v : Value} {t : TypeId} {n m : Nat} {xs : List Value} (h : Below B w w1) (ho : w1.ownsRow B t m v n xs) (hg : w1.grownBy w2 v.ownBlock) (hB : B ≤ w1.heap.size) : Below B w w2 :=
 h.trans ⟨hg.os, hg.tape, hg.output, hg.size, fun k hk => hg.block k (by omega) (fun e => by have := (ho.lt k e.symm).1; omega)⟩
theorem eF (S : List Sp) (b o c : Nat) (w : World) (hn : S.length ≤ 200) (hS : ∀ i, i < S.length → jM w b (o + i * 8) (spA S i)) :
  Calls Tryz.prog 43 #[.slice (some ⟨b, o, none⟩) S.length c] w fun e w' => (∃ v, e = .returned v ∧ w'.ownsRow w.heap.size 52 2 v S.length (aD (S.map Prod.fst))) ∧ Below w.heap.size w w' := by
 obtain ⟨i0, hi, hz0, hz1, hz2⟩ := info_parts iz
 have HS := yz hS
 clear hS
 have hm8 : 400 ≤ maxLen := by decide +kernel
 go_enter Tryz.func43, Tryz.ntmps43
 go_wp2_with fail
 go_loopw [3, 8] (fun v i wr => ∃ k : Nat, k ≤ S.length ∧ i = .int .i64 k ∧ Hid (wr.ownsRow w.heap.size 52 2 v k (aD ((S.take k).map Prod.fst))) ∧ Hid (Below w.heap.size w wr)) (fun _ i _ => S.length - (intOf i).toNat)
 case atStart => exact ⟨0, by omega, rfl, yz (World.ownsRow_nil _ _ _ _), yz (Below.refl _ _)⟩
 case round =>
  obtain ⟨k, hk, rfl, HW, HB⟩ := hrel
  by_cases hkn : k < S.length
  ·have hkn2 : (k : Int) < (S.length : Int) := by omega
   have hsp := (yy HS k hkn).kept (yy HB)
   have HF := yz (rh S k hkn)
   generalize spA S k = sp at hsp HF
   obtain ⟨⟨x, y⟩, ⟨a1, a2, a3⟩, b1, b2, b3⟩ := sp
   obtain ⟨e0, e1, e2, e3, e4, e5, e6, e7⟩ := hsp
   have hsz := (yy HB).size
   have Z1 := am wr (.cells #[.int .i64 x, .int .i64 y, .int .i64 a1, .int .i64 a2, .int .i64 a3, .int .i64 b1, .int .i64 b2, .int .i64 b3] 92)
   have hown := dt (yy HW) Z1
   have B1 := yz (ak (yy HB) Z1)
   clear Z1
   go_wp2_with (at_builtin; refine wpList_append_own _ rfl _ _ 30 rfl w.heap.size 52 i0 (.agg #[.int .i64 0, .int .i64 0]) 2 16 Tryz.underlying30 hi hz0 hz1 hz2 rfl (by decide) _ _ _ rfl (hown.alloc _) ⟨wr.heap.size + 1, 0, none⟩ 1 1 (aD [(x, y)]) rfl rfl ?d2 (fun u hu => dK hu) ?d3 ?d4 ?d5 ?_)
   case d2 => exact fun j u h => h
   case d3 => omega
   case d4 => omega
   case d5 => omega
   intro v7 V7 hown7 hgrow7 _
   have hz : w.heap.size ≤ ((wr.alloc (.cells #[.int .i64 x, .int .i64 y, .int .i64 a1, .int .i64 a2, .int .i64 a3, .int .i64 b1, .int .i64 b2, .int .i64 b3] 92)).alloc (.cells #[.int .i64 x, .int .i64 y] 52)).heap.size := by simp; omega
   have B7 := yz (lz (ak (yy B1) (am _ (.cells #[.int .i64 x, .int .i64 y] 52))) (hown.alloc (.cells #[.int .i64 x, .int .i64 y] 52)) hgrow7 hz)
   have W7 : Hid (V7.ownsRow w.heap.size 52 2 v7 (k + 1) (aD ((S.take (k + 1)).map Prod.fst))) := yz (by rw [yy HF, dY, List.map_take]; exact hown7)
   clear hown7 hgrow7 hz hown B1 HF
   go_wp2_with fail
   go_roundw
   case rel => exact ⟨k + 1, by omega, by go_num, W7, B7⟩
   case measure => simp [intOf]; omega
  ·obtain rfl : k = S.length := by omega
   rw [List.take_length] at HW
   go_wp2_with fail
   go_ret
   exact ⟨⟨_, rfl, yy HW⟩, yy HB⟩
theorem qu (a b : Int) : bS b a = -bS a b := by
 unfold bS
 repeat' split
 all_goals omega
theorem bw {x y z : Int} (h : aF x y z = true) : aO x y z = true := by
 obtain ⟨h1, h2⟩ := bt h
 have hw := aH.1 h2
 unfold aO
 rw [h1, Bool.true_and]
 exact aH.2 (by omega)
def bU (v : V3) : Bool := aF v.1 v.2.1 v.2.2
theorem pZ {p q : Sp} (h1 : bU p.2.1 = true) (h2 : bU p.2.2 = true) (h3 : bU q.2.1 = true) (h4 : bU q.2.2 = true) : ip q p = -ip p q := by
 unfold ip dH bU at *
 rw [bw h1, bw h2, bw h3, bw h4, h1, h2, h3, h4, if_pos (by rfl), if_pos (by rfl)]
 exact qu _ _
theorem qd {p q : Sp} (h1 : bU p.2.1 = true) (h2 : bU p.2.2 = true) (h3 : bU q.2.1 = true) (h4 : bU q.2.2 = true) : ip p q = jS p.2.1 p.2.2 q.2.1 q.2.2 :=
 pw (bw h1) (bw h2) h3 h4
theorem qG {p q : Sp} (h1 : bU p.2.1 = true) (h2 : bU p.2.2 = true) (h3 : bU q.2.1 = true) (h4 : bU q.2.2 = true) :
  decide (0 < fy q p) = lA (jS p.2.1 p.2.2 q.2.1 q.2.2) p.1.1 p.1.2 q.1.1 q.1.2 := by
 unfold fy lA
 rw [pZ h1 h2 h3 h4, qd h1 h2 h3 h4]
 generalize jS p.2.1 p.2.2 q.2.1 q.2.2 = c
 by_cases hc : c = 0
 ·subst hc
  rw [if_pos (by rfl), if_pos rfl]
  unfold bS
  by_cases ha : p.1.1 < q.1.1
  ·have e : ¬ q.1.1 < p.1.1 := by omega
   simp [ha, e]
  ·by_cases hb : p.1.1 = q.1.1
   ·by_cases hd : p.1.2 < q.1.2
    ·have e : ¬ q.1.2 < p.1.2 := by omega
     simp [hb, hd, e]
    ·by_cases he : q.1.2 < p.1.2
     ·simp [hb, hd, he]
     ·simp [hb, hd, he]
   ·have e : q.1.1 < p.1.1 := by omega
    have hb' : ¬ q.1.1 = p.1.1 := fun h => hb h.symm
    simp [ha, hb, e]
 ·rw [if_neg (by omega), if_neg hc]
  apply Bool.eq_iff_iff.2
  simp only [decide_eq_true_eq]
  omega
theorem tw {L : List St} {i : Nat} (h : cx L i = true) (hi : 0 < i) : (stA L (i - 1)).1 < (stA L i).1 := by
 unfold cx upB at h
 simp only [Bool.and_eq_true, Bool.or_eq_true, decide_eq_true_eq] at h
 omega
theorem nh {L : List St} (h : aB L = true) : ∀ i, i < L.length → ∀ j, j < i → (stA L j).1 < (stA L i).1
 | 0, _, j, hj => absurd hj (Nat.not_lt_zero _)
 | i + 1, hi, j, hj => by
  have hu := tw ((aQ h).2 (i + 1) hi) (by omega)
  rw [Nat.add_sub_cancel] at hu
  by_cases e : j = i
  ·subst e; exact hu
  ·have := nh h i (by omega) j (by omega)
   omega
theorem gm {L : List St} (h : aB L = true) {i : Nat} (hi : i < L.length) : atV L L.length (stA L i).1 = (stA L i).2 :=
 ov hi (fun j hj e => by have := nh h i hi j hj; omega) rfl
def bP (L : List St) (i j : Nat) : Sp := (((stA L i).1, (stA L j).1), (stA L i).2, (stA L j).2)
theorem pg {L : List St} (h : aB L = true) {i j k m : Nat} (hi : i < L.length) (hj : j < L.length) (hk : k < L.length) (hm : m < L.length) :
  decide (0 < fy (bP L k m) (bP L i j)) = eD L (bP L i j).1 (bP L k m).1 := by
 have hs : ∀ i, i < L.length → bU (stA L i).2 = true := fun i hi => ck ((aQ h).2 i hi)
 rw [qG (p := bP L i j) (q := bP L k m) (hs i hi) (hs j hj) (hs k hk) (hs m hm)]
 unfold eD nB bP
 simp only
 rw [gm h hi, gm h hj, gm h hk, gm h hm]
def lR (w : World) (b : Nat) (v0 v1 v2 : Value) (c m : Int) : Prop := w.cell? ⟨b, 0, none⟩ = some v0 ∧ w.cell? ⟨b, 1, none⟩ = some v1 ∧ w.cell? ⟨b, 2, none⟩ = some v2 ∧ w.cell? ⟨b, 3, none⟩ = some (.int .i64 c) ∧ w.cell? ⟨b, 4, none⟩ = some (.int .i64 m)
theorem eg {w w' : World} {a : Addr} {v : Value} (h : w.cell? a = some v) (hB : Below w.heap.size w w') : w'.cell? a = some v := (hB.cell (World.block_lt_of_cell? w a h)).trans h
theorem eS {w w' : World} {a : Addr} {v : Value} {row : Option Nat} (h : w.cell? a = some v) (hg : w.grownBy w' row) (hne : some a.block ≠ row) : w'.cell? a = some v := (World.cell?_of_block (hg.block a.block (World.block_lt_of_cell? w a h) hne)).trans h
theorem lR.kept {w w' : World} {b : Nat} {v0 v1 v2 : Value} {c m : Int} (h : lR w b v0 v1 v2 c m) (hB : Below w.heap.size w w') : lR w' b v0 v1 v2 c m := ⟨eg h.1 hB, eg h.2.1 hB, eg h.2.2.1 hB, eg h.2.2.2.1 hB, eg h.2.2.2.2 hB⟩
theorem lR.lt {w : World} {b : Nat} {v0 v1 v2 : Value} {c m : Int} (h : lR w b v0 v1 v2 c m) : b < w.heap.size := World.block_lt_of_cell? w _ h.1
def fY (w : World) (b : Nat) : Prop := ∀ i, w.frozen? ⟨b, i, none⟩ = false
theorem fY.kept {w w' : World} {b : Nat} (h : fY w b) (hb : b < w.heap.size) (hB : Below w.heap.size w w') : fY w' b := fun i => (hB.frozen (p := ⟨b, i, none⟩) hb).trans (h i)
theorem fY.set {w : World} {b : Nat} (h : fY w b) (p : Addr) (v : Value) : fY (w.setCell p v) b := fun i => by rw [World.frozen?_setCell]; exact h i
def qM (w : World) (x : Nat) (ir : Option Addr) (ids : List Int) : Prop := (ids = [] ∧ ir = none) ∨ ∃ g, ir = some ⟨g, 0, none⟩ ∧ g ≠ x ∧ g < w.heap.size ∧ ∀ i, i < ids.length → w.cell? ⟨g, i, none⟩ = some (.int .i64 (ids.getD i 0))
theorem qM.grown {w w' : World} {x : Nat} {ir : Option Addr} {ids : List Int} (h : qM w x ir ids) (hg : w.grownBy w' (some x)) : qM w' x ir ids := by
 rcases h with h | ⟨g, hi, hn, hl, hc⟩
 ·exact .inl h
 ·exact .inr ⟨g, hi, hn, Nat.lt_of_lt_of_le hl hg.size, fun i hi => eS (hc i hi) hg (fun e => hn (Option.some.inj e))⟩
def qL (a : Option Addr) (x : Nat) : Prop := ∀ y, a = some y → y.block ≠ x
structure sW (w : World) (x : Nat) (L : List St) (S : List D3) (ar br : Option Addr) (cr dr : Nat) (s : SeN) : Prop where
 cells : ∃ v, lR w x (.slice ar L.length cr) (.slice br S.length dr) v (s.count : Int) (s.many : Int) ∧ w.ownsRow (x + 1) 2 1 v s.best.length (fg s.best)
 free : fY w x
 stars : aA w ar L L.length
 dirs : mH w br S S.length
 apS : qL ar x
 apD : qL br x
theorem ownK {w w' : World} {B n m : Nat} {t : TypeId} {v : Value} {xs : List Value} (h : w.ownsRow B t m v n xs) (hB : Below w.heap.size w w') : w'.ownsRow B t m v n xs := by
 obtain ⟨h1, h2⟩ := h
 refine ⟨h1, ?_⟩
 rcases h2 with h2 | ⟨g, c', cur, e, hg, hh, r⟩
 ·exact .inl h2
 ·exact .inr ⟨g, c', cur, e, hg, by rw [hB.block g (Array.getElem?_eq_some_iff.1 hh).1]; exact hh, r⟩
theorem sW.kept {w w' : World} {x : Nat} {L : List St} {S : List D3} {ar br : Option Addr} {cr dr : Nat} {s : SeN} (h : sW w x L S ar br cr dr s) (hB : Below w.heap.size w w') : sW w' x L S ar br cr dr s := by
 obtain ⟨⟨v, h1, h2⟩, hf, hs, hd, a1, a2⟩ := h
 exact ⟨⟨v, h1.kept hB, ownK h2 hB⟩, hf.kept h1.lt hB, hs.kept hB, hd.kept hB, a1, a2⟩
theorem lR.grown {w w' : World} {b : Nat} {v0 v1 v2 : Value} {c m : Int} {row : Option Nat} (h : lR w b v0 v1 v2 c m) (hg : w.grownBy w' row) (hne : some b ≠ row) : lR w' b v0 v1 v2 c m := ⟨eS h.1 hg hne, eS h.2.1 hg hne, eS h.2.2.1 hg hne, eS h.2.2.2.1 hg hne, eS h.2.2.2.2 hg hne⟩
theorem fY.grown {w w' : World} {b : Nat} {row : Option Nat} (h : fY w b) (hb : b < w.heap.size) (hg : w.grownBy w' row) (hne : some b ≠ row) : fY w' b := fun i => by
 have h1 := h i
 unfold World.frozen? at h1 ⊢
 rw [hg.block b hb hne]
 exact h1
end
section
open Go.RowKit Go.Sort
def IdO (w : World) (b : Nat) (v : Value) (c k : Int) : Prop := w.cell? ⟨b, 0, none⟩ = some v ∧ w.cell? ⟨b, 1, none⟩ = some (.int .i64 c) ∧ w.cell? ⟨b, 2, none⟩ = some (.int .i64 k)
theorem IdO.grown {w w' : World} {b : Nat} {v : Value} {c k : Int} {row : Option Nat} (h : IdO w b v c k) (hg : w.grownBy w' row) (hne : some b ≠ row) : IdO w' b v c k := ⟨eS h.1 hg hne, eS h.2.1 hg hne, eS h.2.2 hg hne⟩
theorem IdO.kept {w w' : World} {b : Nat} {v : Value} {c k : Int} (h : IdO w b v c k) (hB : Below w.heap.size w w') : IdO w' b v c k := ⟨eg h.1 hB, eg h.2.1 hB, eg h.2.2 hB⟩
end
section
open Go.RowKit Go.Sort
def pQ (s : St) : DataW Unit := .agg [.lit (.int .i64 s.1), .lit (.int .i64 s.2.1), .lit (.int .i64 s.2.2.1), .lit (.int .i64 s.2.2.2)]
def tC (v : Value) : Option (DataW Unit × List MemPlace) := match v with
 | .agg ⟨[.int .i64 a, .int .i64 b, .int .i64 c, .int .i64 d]⟩ => some (pQ (a, b, c, d), [])
 | _ => none
def sf : St := (0, 0, 0, 0)
def oO (L : List St) (ids : List Int) (i : Nat) : St := if ids.getD i 0 ≠ 0 then (ids.getD i 0, atV L L.length (ids.getD i 0)) else sf
def ps (D : DataW Unit) (L : List St) (ids : List Int) : Prop := ∀ i : Nat, i < 7 → Maps.has D (.int .i64 (i : Int)) = decide (ids.getD i 0 ≠ 0) ∧ D.atKey (.int .i64 (i : Int)) (pQ sf) = pQ (oO L ids i)
def fC (w : World) (b n : Nat) (L : List St) (ids : List Int) : Prop := ∃ D, w.ownsMap Tryz.prog 3 tC b n D ∧ ps D L ids
theorem fC.kept {w w' : World} {b n : Nat} {L : List St} {ids : List Int} {row : Option Nat} (h : fC w b n L ids) (hg : w.grownBy w' row) (hne : some b ≠ row) : fC w' b n L ids := by
 obtain ⟨D, hD, hM⟩ := h
 exact ⟨D, hD.kept hg hne, hM⟩
theorem fC.below {w w' : World} {b n : Nat} {L : List St} {ids : List Int} (h : fC w b n L ids) (hB : Below w.heap.size w w') : fC w' b n L ids := h.kept (row := none) ⟨hB.os, hB.tape, hB.output, hB.size, fun k hk _ => hB.block k hk⟩ (by simp)
def sX (w : World) (b : Nat) (v0 v1 v2 : Value) : Prop := w.cell? ⟨b, 0, none⟩ = some v0 ∧ w.cell? ⟨b, 1, none⟩ = some v1 ∧ w.cell? ⟨b, 2, none⟩ = some v2
theorem sX.kept {w w' : World} {b : Nat} {v0 v1 v2 : Value} (h : sX w b v0 v1 v2) (hB : Below w.heap.size w w') : sX w' b v0 v1 v2 := ⟨eg h.1 hB, eg h.2.1 hB, eg h.2.2 hB⟩
end
section
open Go.RowKit Go.Sort
end
section
open Go.RowKit Go.Sort
end
end Go.Proofs.YthoiooefclbecaaGreatDoor
