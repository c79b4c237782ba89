/- Several texts in one: IeK, IeL, IeN, IeO, IeQ, IeR, IeS, IeT, IeU, IeV, TsD, TfM, LkM, SeenA, SceM, ModA, ModC, RowR, ModD, ModE, ModG, AppO, Src, Src2, Src3, Draw3. -/
import Derived.RangeFuncNested
import Derived.RangeFuncBound
import Derived.RangeFuncCalls
import Derived.RangeFuncLeaves
import Derived.Shelf.Abstract
import Derived.Shelf.RegionOpen
import Derived.WalkKit
import Derived.OwnWalkIn
import Derived.TacticsInMore
import Derived.LoopNIn
import Derived.LoopIn
import Derived.Maps.OwnIn
import Derived.BigRegionIn
import Derived.Deep.RegionHeld
import Derived.Deep.DeepCutAuto
import Derived.Test.YthoiooefclbecaaGreatDoorRows
import Derived.WalkSpells
import Derived.WalkLawsBesides
import Derived.RegionTactic
import Derived.BigRegion
import Derived.Deep.QuietTactic
import Derived.BigQuiet
import Derived.OpenShut
import Derived.Test.YthoiooefclbecaaGreatDoorQFnSkyOwn18
import Derived.Test.YthoiooefclbecaaGreatDoorQFnSkyOwn3
import Derived.Test.YthoiooefclbecaaGreatDoorQFnSkyOwn17
import Derived.Test.YthoiooefclbecaaGreatDoorQFnSkyOwn1
import Derived.Test.YthoiooefclbecaaGreatDoorQFnSkyOwn2
namespace Go.Proofs.YthoiooefclbecaaGreatDoor
set_option linter.unusedVariables false
set_option linter.unusedSimpArgs false
set_option maxRecDepth 100000
set_option maxHeartbeats 8000000
section
open Go.RowKit Go.Sort Go.Shelf
attribute [local go_sem] Oper.semAt_some
structure KpX (p q : Nat) (W W' : World) : Prop where
 size : W.heap.size ≤ W'.heap.size
 os : W'.os = W.os
 tape : W'.tape = W.tape
 output : W'.output = W.output
 same : ∀ k o, W.heap[k]? = some o → (o.isCells = true ∨ o.isWalk = true) → k ≠ p → k ≠ q → W'.heap[k]? = some o
theorem KpX.trans {p q : Nat} {A B C : World} (h : KpX p q A B) (k : KpX p q B C) : KpX p q A C := ⟨Nat.le_trans h.size k.size, k.os.trans h.os, k.tape.trans h.tape, k.output.trans h.output, fun i o hi ho h1 h2 => k.same i o (h.same i o hi ho h1 h2) ho h1 h2⟩
end
section
open Go.RowKit Go.Sort
theorem rv {i j : Nat} (h : i ≠ j) : (Lit.int .i64 (i : Int)) ≠ Lit.int .i64 (j : Int) := fun e => h (by injection e with _ e; omega)
theorem mb (ids : List Int) (a : Int) {i : Nat} (h : i < ids.length) : (ids ++ [a]).getD i 0 = ids.getD i 0 := by rw [List.getD_eq_getElem?_getD, List.getD_eq_getElem?_getD, List.getElem?_append_left h]
theorem lZ (ids : List Int) (a : Int) : (ids ++ [a]).getD ids.length 0 = a := by rw [List.getD_eq_getElem?_getD, List.getElem?_append_right (Nat.le_refl _), Nat.sub_self]; rfl
theorem ma (ids : List Int) (a : Int) {i : Nat} (h : ids.length < i) : (ids ++ [a]).getD i 0 = 0 := by
 rw [List.getD_eq_getElem?_getD, List.getElem?_append_right (by omega), List.getElem?_eq_none (by simp; omega)]
 rfl
theorem rk (ids : List Int) {i : Nat} (h : ids.length ≤ i) : ids.getD i 0 = 0 := by rw [List.getD_eq_getElem?_getD, List.getElem?_eq_none h]; rfl
theorem ps.put {D : DataW Unit} {L : List St} {ids : List Int} {a : Int} (h : ps D L ids) (hm : Maps.IsMap D) (ha : a ≠ 0) : ps (D.put (.int .i64 (ids.length : Int)) (pQ (a, atV L L.length a))) L (ids ++ [a]) := fun i hi => by
 by_cases e : i = ids.length
 ·subst e
  rw [Maps.has_put_same hm (by trivial), Maps.atKey_put_same hm (by trivial)]
  unfold oO
  rw [lZ, if_pos ha]
  exact ⟨by simp [ha], rfl⟩
 ·rw [Maps.has_put_other (rv e), Maps.atKey_put_other (rv e)]
  have h1 := h i hi
  unfold oO at h1 ⊢
  have e2 : (ids ++ [a]).getD i 0 = ids.getD i 0 := by
   rcases Nat.lt_or_gt_of_ne e with h2 | h2
   ·exact mb ids a h2
   ·rw [ma ids a h2, rk ids (by omega)]
  rw [e2]
  exact h1
end
section
open Go.RowKit Go.Sort Go.Shelf
attribute [local go_sem] Oper.semAt_some
structure KpM (b p q : Nat) (W W' : World) : Prop where
 size : W.heap.size ≤ W'.heap.size
 os : W'.os = W.os
 tape : W'.tape = W.tape
 output : W'.output = W.output
 same : ∀ k o, W.heap[k]? = some o → (o.isCells = true ∨ o.isWalk = true) → k ≠ b → k ≠ p → k ≠ q → W'.heap[k]? = some o
theorem KpM.trans {b p q : Nat} {A B C : World} (h : KpM b p q A B) (k : KpM b p q B C) : KpM b p q A C := ⟨Nat.le_trans h.size k.size, k.os.trans h.os, k.tape.trans h.tape, k.output.trans h.output, fun i o hi ho h0 h1 h2 => k.same i o (h.same i o hi ho h0 h1 h2) ho h0 h1 h2⟩
theorem KpM.cell {b p q : Nat} {A B : World} (h : KpM b p q A B) {a : Addr} {v : Value} (hc : A.cell? a = some v) (h0 : a.block ≠ b) (h1 : a.block ≠ p) (h2 : a.block ≠ q) : B.cell? a = some v := by
 obtain ⟨o, ho, hi⟩ := cells_of_cell hc
 have e := h.same a.block o ho (.inl hi) h0 h1 h2
 rw [← hc]
 exact World.cell?_of_block (e.trans ho.symm)
attribute [local go_sem] Oper.semAt_some
attribute [local go_sem] Oper.semAt_some
attribute [local go_sem] Oper.semAt_some
structure pq (W : World) (p q : Nat) (G : List Int × Nat) : Prop where
 most : ∃ v, W.heap[p]? = some (.cells #[v] 47 (0, 0)) ∧ ((G.1 = [] ∧ v = .slice none 0 0) ∨ ∃ g, v = .slice (some ⟨g, 0, none⟩) G.1.length G.1.length ∧ p ≤ g ∧ g ≠ p ∧ g ≠ q ∧ eb W 2 g (G.1.length * 1) (numV G.1))
 alike : W.heap[q]? = some (.cells #[.int .i64 (wrap64 (G.2 : Int))] 2 (0, 0))
 len : G.1.length ≤ 6
structure GrJ (p q l d : Nat) (rec : Loop) (w0 : World) (pre : List (List Int)) (W : World) : Prop where
 box : pq W p q (pre.foldl tE ([], 0))
 rc : W.heap[l]? = some (.loop rec)
 df : W.heap[d]? = some (.deferred (some []))
 bel : Below w0.heap.size w0 W
theorem eM {W W' : World} {k : Nat} {o : Obj} {row : Option Nat} (h : W.heap[k]? = some o) (hg : W.grownBy W' row) (hne : some k ≠ row) : W'.heap[k]? = some o := (hg.block k (Array.getElem?_eq_some_iff.1 h).1 hne).trans h
theorem pq.grown {W W' : World} {p q : Nat} {G : List Int × Nat} {row : Option Nat} (h : pq W p q G) (hg : W.grownBy W' row) (hne : ∀ k cs t f, W.heap[k]? = some (.cells cs t f) → some k ≠ row) : pq W' p q G := by
 obtain ⟨⟨v, h1, h2⟩, h3, h4⟩ := h
 refine ⟨⟨v, eM h1 hg (hne _ _ _ _ h1), ?_⟩, eM h3 hg (hne _ _ _ _ h3), h4⟩
 rcases h2 with h2 | ⟨g, e, n0, n1, n2, cur, hc, hr⟩
 ·exact .inl h2
 ·exact .inr ⟨g, e, n0, n1, n2, cur, eM hc hg (hne _ _ _ _ hc), hr⟩
theorem GrJ.below {p q l d : Nat} {rec : Loop} {w0 : World} (pre : List (List Int)) (W W' : World) (h : GrJ p q l d rec w0 pre W) (hB : Below W.heap.size W W') : GrJ p q l d rec w0 pre W' := by
 have hg : W.grownBy W' none := ⟨hB.os, hB.tape, hB.output, hB.size, fun k hk _ => hB.block k hk⟩
 exact ⟨h.box.grown hg (fun k cs t f hk e => by cases e), eM h.rc hg (by simp), eM h.df hg (by simp), ak h.bel hB⟩
attribute [local go_sem] Oper.semAt_some
end
section
open Go.RowKit Go.Sort
def tA (L : List T4) (i : Nat) : T4 := L.getD i (0, 0, 0, 0)
def ot (w : World) (g : Nat) (L : List T4) : Prop := g < w.heap.size ∧ ∀ k, k < L.length → w.cell? ⟨g, k * 4, none⟩ = some (.int .i64 (tA L k).1) ∧ w.cell? ⟨g, k * 4 + 1, none⟩ = some (.int .i64 (tA L k).2.1) ∧ w.cell? ⟨g, k * 4 + 2, none⟩ = some (.int .i64 (tA L k).2.2.1) ∧ w.cell? ⟨g, k * 4 + 3, none⟩ = some (.int .i64 (tA L k).2.2.2)
theorem ot.kept {w w' : World} {g : Nat} {L : List T4} (h : ot w g L) (hB : Below w.heap.size w w') : ot w' g L := by
 refine ⟨Nat.lt_of_lt_of_le h.1 hB.size, fun k hk => ?_⟩
 obtain ⟨h0, h1, h2, h3⟩ := h.2 k hk
 exact ⟨by rw [hB.cell (p := ⟨g, k * 4, none⟩) h.1]; exact h0, by rw [hB.cell (p := ⟨g, k * 4 + 1, none⟩) h.1]; exact h1, by rw [hB.cell (p := ⟨g, k * 4 + 2, none⟩) h.1]; exact h2, by rw [hB.cell (p := ⟨g, k * 4 + 3, none⟩) h.1]; exact h3⟩
end
section
open Go.RowKit
end
section
open Go.RowKit Go.Sort
def gd (x y z cone : Int) : Bool := decide (0 < z) && decide (wrap64 (wrap64 (cone * cone) * aR x y z x y z) ≤ wrap64 (wrap64 (10000 * z) * z))
def lp (s : St) (a b c d cone : Int) : Bool := gd (apX a b c d s.2.1 s.2.2.1 s.2.2.2) (apY a b c d s.2.1 s.2.2.1 s.2.2.2) (apZ a b c d s.2.1 s.2.2.1 s.2.2.2) cone
def aW (L : List St) (a b c d cone : Int) : Nat → List Int
 | 0 => []
 | k + 1 => if lp (stA L k) a b c d cone = true then aW L a b c d cone k ++ [(stA L k).1] else aW L a b c d cone k
def dM (L : List St) (a b c d cone : Int) : List Int := if (aB L && aM a b c d && (decide (0 ≤ cone) && decide (cone ≤ 100))) = true then aW L a b c d cone L.length else []
theorem gy (L : List St) (a b c d cone : Int) (k : Nat) : (aW L a b c d cone k).length ≤ k := by
 induction k with
 | zero => exact Nat.le_refl _
 | succ k ih =>
  unfold aW
  split
  ·simp; exact ih
  ·omega
abbrev jq (xs : List Int) : List Value := xs.map (Value.int .i64)
theorem nk : (Tryz.prog.info? 2).map (fun i => (i.zero, i.size, i.bytes)) = some (some (.int .i64 0), 1, 8) := by kernel_rfl
theorem World.ownsRow_weak {w : World} {B : Nat} {t : TypeId} {v : Value} {n m : Nat} {xs : List Value} (h : w.ownsRow (B + 1) t m v n xs) : w.ownsRow B t m v n xs := by
 obtain ⟨h1, h2⟩ := h
 refine ⟨h1, ?_⟩
 rcases h2 with h2 | ⟨g, cap, cur, e, hb, r⟩
 ·exact .inl h2
 ·exact .inr ⟨g, cap, cur, e, by omega, r⟩
theorem World.ownsRow_less {w : World} {B B' : Nat} {t : TypeId} {v : Value} {n m : Nat} {xs : List Value} (h : w.ownsRow B t m v n xs) (hb : B' ≤ B) : w.ownsRow B' t m v n xs := by
 obtain ⟨h1, h2⟩ := h
 refine ⟨h1, ?_⟩
 rcases h2 with h2 | ⟨g, cap, cur, e, hg, r⟩
 ·exact .inl h2
 ·exact .inr ⟨g, cap, cur, e, by omega, r⟩
theorem gP {B : Nat} {w w1 w2 : World} {v : Value} {t : TypeId} {n m : Nat} {xs : List Value} (h : Below B w w1) (hB : B ≤ w1.heap.size) (ho : w1.ownsRow B t m v n xs) (hg : w1.grownBy w2 v.ownBlock) : Below B w w2 :=
 h.trans ⟨hg.os, hg.tape, hg.output, hg.size, fun k hk => hg.block k (by omega) (fun e => by have := (ho.lt k e.symm).1; omega)⟩
theorem oJ (x y z cone : Int) (w : World) :
  Calls Tryz.prog 65 #[.agg #[.int .i64 x, .int .i64 y, .int .i64 z], .int .i64 cone] w fun e w' => e = .returned (.bool (gd x y z cone)) ∧ Below w.heap.size w w' := by
 have cQ := yz (fun W => gA x y z W)
 have HC : Hid (gd x y z cone = (decide (0 < z) && decide (wrap64 (wrap64 (cone * cone) * aR x y z x y z) ≤ wrap64 (wrap64 (10000 * z) * z)))) := yz rfl
 generalize aR x y z x y z = dd at cQ HC
 obtain ⟨m1, hm1⟩ : ∃ m, wrap64 (10000 * z) = m := ⟨_, rfl⟩
 obtain ⟨m2, hm2⟩ : ∃ m, wrap64 (m1 * z) = m := ⟨_, rfl⟩
 obtain ⟨m3, hm3⟩ : ∃ m, wrap64 (cone * cone) = m := ⟨_, rfl⟩
 obtain ⟨m4, hm4⟩ : ∃ m, wrap64 (m3 * dd) = m := ⟨_, rfl⟩
 rw [hm1, hm2, hm3, hm4] at HC
 have hB := am w (.cells #[.int .i64 x, .int .i64 y, .int .i64 z] 33)
 have hV := aw w x y z 33
 go_enter Tryz.func65, Tryz.ntmps65
 go_wp2_with fail
 generalize w.alloc (.cells #[.int .i64 x, .int .i64 y, .int .i64 z] 33) = W at hB hV ⊢
 have HB := yz hB
 obtain ⟨v0, v1, v2⟩ := hV
 have r0 := cell_regrown v0
 have r1 := cell_regrown v1
 have r2 := cell_regrown v2
 clear hB v0 v1 v2
 by_cases hz : 0 < z
 ·have HC2 : Hid (gd x y z cone = decide (m4 ≤ m2)) := yz (by rw [yy HC]; simp [hz])
  clear HC
  refine wp_region_quiet_below (by kernel_rfl) (by kernel_rfl) ?_
  repeat (go_big_quiet_step (first | (with_reducible exact Calls.regrown_of (yy cQ _))))
  refine wpQuiet_nil ?_
  intro _ hw'
  obtain ⟨⟨dq, osq⟩, hw''⟩ := hw'
  subst hw''
  have hx := ak (yy HB) (below_regrown W dq osq)
  go_wp2_with fail
  go_ret
  exact ⟨by rw [yy HC2]; rfl, hx⟩
 ·have hz' : decide (0 < z) = false := by simpa using hz
  have HC2 : Hid (gd x y z cone = false) := yz (by rw [yy HC, hz']; rfl)
  clear HC
  refine wp_region_quiet_below (by kernel_rfl) (by kernel_rfl) ?_
  repeat (go_big_quiet_step (first | (with_reducible exact Calls.regrown_of (yy cQ _))))
  refine wpQuiet_nil ?_
  intro _ hw'
  obtain ⟨⟨dq, osq⟩, hw''⟩ := hw'
  subst hw''
  have hx := ak (yy HB) (below_regrown W dq osq)
  go_wp2_with fail
  go_ret
  exact ⟨by rw [yy HC2]; rfl, hx⟩
end
section
open Go.RowKit
def apV (a b c d : Int) (v : D3) : D3 := (apI (apR a b c d v.1 v.2.1 v.2.2) (apX a b c d v.1 v.2.1 v.2.2), apI (apR a b c d v.1 v.2.1 v.2.2) (apY a b c d v.1 v.2.1 v.2.2), apI (apR a b c d v.1 v.2.1 v.2.2) (apZ a b c d v.1 v.2.1 v.2.2))
theorem ll {a b c d x y z : Int} (ht : aM a b c d = true) (hs : aF x y z = true) : apV a b c d (x, y, z) = apD a b c d (x, y, z) := by
 have hr : apR a b c d x y z = true := by unfold apR; rw [ht, nX hs]; rfl
 unfold apV apD apI
 simp only [hr, if_true]
end
section
open Go.RowKit Go.Sort
def jl (w : World) (b : Nat) (v : Value) (lim mode A B C D coast fr : Int) : Prop := w.cell? ⟨b, 0, none⟩ = some v ∧ w.cell? ⟨b, 1, none⟩ = some (.int .i64 lim) ∧ w.cell? ⟨b, 2, none⟩ = some (.int .i64 mode) ∧ w.cell? ⟨b, 3, none⟩ = some (.int .i64 A) ∧ w.cell? ⟨b, 4, none⟩ = some (.int .i64 B) ∧ w.cell? ⟨b, 5, none⟩ = some (.int .i64 C) ∧ w.cell? ⟨b, 6, none⟩ = some (.int .i64 D) ∧ w.cell? ⟨b, 7, none⟩ = some (.int .i64 coast) ∧ w.cell? ⟨b, 8, none⟩ = some (.int .i64 fr)
theorem gc {w w' : World} {a : Addr} {v : Value} (h : w.cell? a = some v) (hB : Below w.heap.size w w') : w'.cell? a = some v := (hB.cell (World.block_lt_of_cell? w a h)).trans h
theorem jl.kept {w w' : World} {b : Nat} {v : Value} {lim mode A B C D coast fr : Int} (h : jl w b v lim mode A B C D coast fr) (hB : Below w.heap.size w w') : jl w' b v lim mode A B C D coast fr := by
 obtain ⟨h0, h1, h2, h3, h4, h5, h6, h7, h8⟩ := h
 exact ⟨gc h0 hB, gc h1 hB, gc h2 hB, gc h3 hB, gc h4 hB, gc h5 hB, gc h6 hB, gc h7 hB, gc h8 hB⟩
theorem jl.lt {w : World} {b : Nat} {v : Value} {lim mode A B C D coast fr : Int} (h : jl w b v lim mode A B C D coast fr) : b < w.heap.size := World.block_lt_of_cell? w _ h.1
def oo (w : World) (a : Option Addr) (n : Nat) (row : Option Nat) : Prop := (n = 0 ∧ row = none) ∨ ∃ g f, a = some ⟨g, 0, none⟩ ∧ row = some g ∧ aZ w 62 g (n * 4) f
def Mkd (w : World) (a : Option Addr) (n : Nat) (row : Option Nat) : Prop := (n = 0 ∧ row = none) ∨ ∃ g, a = some ⟨g, 0, none⟩ ∧ row = some g ∧ aZ w 62 g (n * 4) (fun j => 1 + (j : Int))
theorem oo.kept {w w' : World} {a : Option Addr} {n : Nat} {row : Option Nat} (h : oo w a n row) (hB : Below w.heap.size w w') : oo w' a n row := by
 rcases h with h | ⟨g, f, h1, h2, h3⟩
 ·exact .inl h
 ·exact .inr ⟨g, f, h1, h2, h3.kept hB⟩
theorem Mkd.kept {w w' : World} {a : Option Addr} {n : Nat} {row : Option Nat} (h : Mkd w a n row) (hB : Below w.heap.size w w') : Mkd w' a n row := by
 rcases h with h | ⟨g, h1, h2, h3⟩
 ·exact .inl h
 ·exact .inr ⟨g, h1, h2, h3.kept hB⟩
theorem oo.lt {w : World} {a : Option Addr} {n : Nat} {row : Option Nat} (h : oo w a n row) {g : Nat} (e : row = some g) : g < w.heap.size := by
 rcases h with ⟨_, h⟩ | ⟨g', f, h1, h2, h3⟩
 ·rw [h] at e; cases e
 ·rw [h2] at e; obtain rfl := Option.some.inj e; exact h3.lt
theorem aK {B : Nat} {w w1 w2 : World} {row : Option Nat} (h : Below B w w1) (hg : w1.grownBy w2 row) (hB : B ≤ w1.heap.size) (hr : ∀ g, row = some g → B ≤ g) : Below B w w2 :=
 h.trans ⟨hg.os, hg.tape, hg.output, hg.size, fun k hk => hg.block k (by omega) (fun e => by have := hr k e.symm; omega)⟩
def aE (L : List St) : List Value := L.flatMap stC
theorem eh (L : List St) : (aE L).length = L.length * 4 := by
 unfold aE
 induction L with
 | nil => rfl
 | cons x l ih => simp [List.flatMap_cons, stC] at *; omega
theorem iu (L : List St) : ∀ (i : Nat), i < L.length → (aE L)[i * 4]? = some (.int .i64 (stA L i).1) ∧ (aE L)[i * 4 + 1]? = some (.int .i64 (stA L i).2.1) ∧ (aE L)[i * 4 + 2]? = some (.int .i64 (stA L i).2.2.1) ∧ (aE L)[i * 4 + 3]? = some (.int .i64 (stA L i).2.2.2) := by
 induction L with
 | nil => intro i hi; simp at hi
 | cons x l ih =>
  intro i hi
  match i with
  | 0 => exact ⟨rfl, rfl, rfl, rfl⟩
  | i + 1 =>
   have h := ih i (by simpa using hi)
   have e : ∀ r, (aE (x :: l))[(i + 1) * 4 + r]? = (aE l)[i * 4 + r]? := fun r => by
    rw [show (i + 1) * 4 + r = (i * 4 + r) + 4 by omega]
    rfl
   have e2 : stA (x :: l) (i + 1) = stA l i := rfl
   rw [e2]
   exact ⟨by have := e 0; simp only [Nat.add_zero] at this; rw [this]; exact h.1, by rw [e 1]; exact h.2.1, by rw [e 2]; exact h.2.2.1, by rw [e 3]; exact h.2.2.2⟩
theorem eP {w : World} {B : Nat} {v : Value} {L : List St} (h : w.ownsRow B 62 4 v L.length (aE L)) : ∃ a cap, v = .slice a L.length cap ∧ L.length ≤ cap ∧ cap ≤ maxLen ∧ aA w a L L.length := by
 rcases h.2 with ⟨h1, h0⟩ | ⟨g, cap, cur, hv, hb, hg, hnc, hcm, hcs, htake⟩
 ·exact ⟨none, 0, by rw [h1, h0], by omega, Nat.zero_le _, .inl h0⟩
 ·refine ⟨_, cap, hv, hnc, hcm, .inr ⟨g, 0, rfl, (Array.getElem?_eq_some_iff.1 hg).1, fun i hi => ?_⟩⟩
  have hc : ∀ j, j < L.length * 4 → w.cell? ⟨g, j, none⟩ = (aE L)[j]? := fun j hj => by
   rw [cell_of_row w g j cur _ _ hg, ← htake, List.getElem?_take, if_pos hj]
   simp
  obtain ⟨e0, e1, e2, e3⟩ := iu L i hi
  rw [Nat.zero_add]
  exact ⟨by rw [hc _ (by omega)]; exact e0, by rw [hc _ (by omega)]; exact e1, by rw [hc _ (by omega)]; exact e2, by rw [hc _ (by omega)]; exact e3⟩
theorem ka (L : List St) (j : Nat) (hj : j < L.length * 4) : ∃ z, (aE L)[j]? = some (.int .i64 z) := by
 obtain ⟨e0, e1, e2, e3⟩ := iu L (j / 4) (by omega)
 have h : j = j / 4 * 4 ∨ j = j / 4 * 4 + 1 ∨ j = j / 4 * 4 + 2 ∨ j = j / 4 * 4 + 3 := by omega
 rcases h with h | h | h | h
 ·rw [h]; exact ⟨_, e0⟩
 ·rw [h]; exact ⟨_, e1⟩
 ·rw [h]; exact ⟨_, e2⟩
 ·rw [h]; exact ⟨_, e3⟩
theorem sz {w : World} {B : Nat} {v : Value} {L : List St} {a : Option Addr} {cap : Nat} (h : w.ownsRow B 62 4 v L.length (aE L)) (hv : v = .slice a L.length cap) : ∃ row, oo w a L.length row ∧ ∀ g, row = some g → B ≤ g := by
 rcases h.2 with ⟨h1, h0⟩ | ⟨g, cap', cur, hv', hb, hg, hnc, hcm, hcs, htake⟩
 ·exact ⟨none, .inl ⟨h0, rfl⟩, fun g e => by cases e⟩
 ·rw [hv] at hv'
  injection hv' with e1 e2 e3
  refine ⟨some g, .inr ⟨g, fun j => if h : j < L.length * 4 then Classical.choose (ka L j h) else 0, e1, rfl, cur, hg, fun j hj => ?_⟩, fun g' e => by obtain rfl := Option.some.inj e; exact hb⟩
  have e4 : cur[j]? = (aE L)[j]? := by
   rw [← htake, List.getElem?_take, if_pos hj]
   simp
  rw [e4]
  simp only [hj, dif_pos]
  exact Classical.choose_spec (ka L j hj)
def gE (w : World) (b : Nat) : Prop := ∀ i, w.frozen? ⟨b, i, none⟩ = false
theorem gE.kept {w w' : World} {b : Nat} (h : gE w b) (hb : b < w.heap.size) (hB : Below w.heap.size w w') : gE w' b := fun i => (hB.frozen (p := ⟨b, i, none⟩) hb).trans (h i)
theorem gE.set {w : World} {b : Nat} (h : gE w b) (p : Addr) (v : Value) : gE (w.setCell p v) b := fun i => by rw [World.frozen?_setCell]; exact h i
theorem gk.far {w : World} {b n k : Nat} {L : List St} (h : gk w b n L k) {b' : Nat} (hne : b ≠ b') (o : Nat) (x : Value) : gk (w.setCell ⟨b', o, none⟩ x) b n L k := by
 obtain ⟨cur, hc, r⟩ := h
 exact ⟨cur, by rw [Below.heap_setCell w ⟨b', o, none⟩ x b hne]; exact hc, r⟩
theorem jl.far {w : World} {b : Nat} {v : Value} {lim mode A B C D coast fr : Int} (h : jl w b v lim mode A B C D coast fr) {b' : Nat} (hne : b ≠ b') (o : Nat) (x : Value) : jl (w.setCell ⟨b', o, none⟩ x) b v lim mode A B C D coast fr := by
 obtain ⟨h0, h1, h2, h3, h4, h5, h6, h7, h8⟩ := h
 refine ⟨?_, ?_, ?_, ?_, ?_, ?_, ?_, ?_, ?_⟩ <;> (rw [World.cell?_setCell_far _ _ _ _ (Ne.symm hne)]; assumption)
def TkO (w : World) (b : Nat) (v : Value) (lim mode A B C D coast fr code : Int) : Prop := jl w b v lim mode A B C D coast fr ∧ w.cell? ⟨b, 9, none⟩ = some (.int .i64 code)
theorem TkO.kept {w w' : World} {b : Nat} {v : Value} {lim mode A B C D coast fr code : Int} (h : TkO w b v lim mode A B C D coast fr code) (hB : Below w.heap.size w w') : TkO w' b v lim mode A B C D coast fr code := ⟨h.1.kept hB, gc h.2 hB⟩
theorem gb {w w' : World} {a : Addr} {v : Value} {row : Option Nat} (h : w.cell? a = some v) (hg : w.grownBy w' row) (hne : some a.block ≠ row) : w'.cell? a = some v := (World.cell?_of_block (hg.block a.block (World.block_lt_of_cell? w a h) hne)).trans h
theorem jl.grown {w w' : World} {b : Nat} {v : Value} {lim mode A B C D coast fr : Int} {row : Option Nat} (h : jl w b v lim mode A B C D coast fr) (hg : w.grownBy w' row) (hne : some b ≠ row) : jl w' b v lim mode A B C D coast fr := by
 obtain ⟨h0, h1, h2, h3, h4, h5, h6, h7, h8⟩ := h
 exact ⟨gb h0 hg hne, gb h1 hg hne, gb h2 hg hne, gb h3 hg hne, gb h4 hg hne, gb h5 hg hne, gb h6 hg hne, gb h7 hg hne, gb h8 hg hne⟩
theorem TkO.grown {w w' : World} {b : Nat} {v : Value} {lim mode A B C D coast fr code : Int} {row : Option Nat} (h : TkO w b v lim mode A B C D coast fr code) (hg : w.grownBy w' row) (hne : some b ≠ row) : TkO w' b v lim mode A B C D coast fr code := ⟨h.1.grown hg hne, gb h.2 hg hne⟩
theorem iG (w : World) (B : Nat) (h : B ≤ w.heap.size) : (w.alloc (.cells #[] 62)).ownsRow B 62 4 (.slice (some ⟨w.heap.size, 0, none⟩) 0 0) 0 [] :=
 ⟨rfl, .inr ⟨_, 0, #[], rfl, h, Array.getElem?_push_size, Nat.le_refl _, Nat.zero_le _, rfl, rfl⟩⟩
theorem eU {L : List St} {u : Value} (h : u ∈ aE L) : u.oneCell' = true := by
 unfold aE at h
 rw [List.mem_flatMap] at h
 obtain ⟨s, _, hs⟩ := h
 simp [stC] at hs
 rcases hs with rfl | rfl | rfl | rfl <;> rfl
theorem nZ {w : World} {b o : Nat} {L : List St} (h : aA w (some ⟨b, o, none⟩) L L.length) (j : Nat) (u : Value) (hj : (aE L)[j]? = some u) : w.cell? ((⟨b, o, none⟩ : Addr).add j) = some u := by
 have hlt : j < L.length * 4 := by
  have := (List.getElem?_eq_some_iff.1 hj).1
  rw [eh] at this
  exact this
 have hA : (⟨b, o, none⟩ : Addr).add j = ⟨b, o + j, none⟩ := by unfold Addr.add; split <;> simp_all
 rw [hA]
 rcases h with h | ⟨b', o', e, _, hc⟩
 ·omega
 ·simp only [Option.some.injEq, Addr.mk.injEq, and_true] at e
  obtain ⟨rfl, rfl⟩ := e
  obtain ⟨e0, e1, e2, e3⟩ := iu L (j / 4) (by omega)
  obtain ⟨c0, c1, c2, c3⟩ := hc (j / 4) (by omega)
  have h4 : j = j / 4 * 4 ∨ j = j / 4 * 4 + 1 ∨ j = j / 4 * 4 + 2 ∨ j = j / 4 * 4 + 3 := by omega
  rcases h4 with h4 | h4 | h4 | h4
  ·rw [h4, e0] at hj; rw [h4, c0]; exact hj
  ·rw [h4, e1] at hj; rw [h4, ← Nat.add_assoc, c1]; exact hj
  ·rw [h4, e2] at hj; rw [h4, ← Nat.add_assoc, c2]; exact hj
  ·rw [h4, e3] at hj; rw [h4, ← Nat.add_assoc, c3]; exact hj
def ap (w : World) (B : Nat) (L : List St) (a : Option Addr) (cap : Nat) : Prop := w.ownsRow B 62 4 (.slice a L.length cap) L.length (aE L)
theorem ap.stars {w : World} {B : Nat} {L : List St} {a : Option Addr} {cap : Nat} (h : ap w B L a cap) : aA w a L L.length := by
 obtain ⟨a', c', e, _, _, hs⟩ := eP h
 injection e with e1 e2 e3
 subst e1
 exact hs
theorem ap.row {w : World} {B : Nat} {L : List St} {a : Option Addr} {cap : Nat} (h : ap w B L a cap) : ∃ row, oo w a L.length row ∧ ∀ g, row = some g → B ≤ g := sz h rfl
theorem ap.capMax {w : World} {B : Nat} {L : List St} {a : Option Addr} {cap : Nat} (h : ap w B L a cap) : L.length ≤ cap ∧ cap ≤ maxLen := by
 obtain ⟨a', c', e, h1, h2, _⟩ := eP h
 injection e with e1 e2 e3
 subst e3
 exact ⟨h1, h2⟩
theorem ap.kept {w w' : World} {B : Nat} {L : List St} {a : Option Addr} {cap : Nat} (h : ap w B L a cap) (hB : Below w.heap.size w w') : ap w' B L a cap := by
 obtain ⟨h1, h2⟩ := h
 refine ⟨h1, ?_⟩
 rcases h2 with h2 | ⟨g, c', cur, e, hg, hh, r⟩
 ·exact .inl h2
 ·exact .inr ⟨g, c', cur, e, hg, by rw [hB.block g (Array.getElem?_eq_some_iff.1 hh).1]; exact hh, r⟩
theorem gE.grown {w w' : World} {b : Nat} {row : Option Nat} (h : gE w b) (hb : b < w.heap.size) (hg : w.grownBy w' row) (hne : some b ≠ row) : gE w' b := fun i => by
 have h1 := h i
 unfold World.frozen? at h1 ⊢
 rw [hg.block b hb hne]
 exact h1
theorem ap.far {w : World} {B : Nat} {L : List St} {a : Option Addr} {cap : Nat} (h : ap w B L a cap) {b : Nat} (hne : b < B) (o : Nat) (x : Value) : ap (w.setCell ⟨b, o, none⟩ x) B L a cap := by
 obtain ⟨h1, h2⟩ := h
 refine ⟨h1, ?_⟩
 rcases h2 with h2 | ⟨g, c', cur, e, hg, hh, r⟩
 ·exact .inl h2
 ·exact .inr ⟨g, c', cur, e, hg, by rw [Below.heap_setCell w ⟨b, o, none⟩ x g (by show g ≠ b; omega)]; exact hh, r⟩
end
section
open Go.RowKit Go.Sort
theorem js {P : Program} (w : World) (t ty e : TypeId) (i : TypeInfo) (ht : P.underlying t = some (.slice e)) (hi : P.info? e = some i) (a : Option Addr) (n cap c : Nat) (hc : n ≤ cap) :
  (Builtin.append_ #[t, t] ty #[.slice a n cap, .slice none 0 c]).run P w = .ok (.slice a n cap) w := by
 cases a <;> simp [Builtin.append_, run_underlying ht, sizeOf, typeInfo, hi, Builtin.lenOf, Builtin.firstCells, loadCells, storeCells, hc]
theorem em {w : World} {B n m : Nat} {t : TypeId} {v : Value} {xs : List Value} (h : w.ownsRow B t m v n xs) : ∃ a cap, v = .slice a n cap ∧ n ≤ cap := by
 rcases h.2 with ⟨h1, h0⟩ | ⟨g, c', cur, e, _, _, h3, _⟩
 ·exact ⟨none, 0, by rw [h1, h0], by omega⟩
 ·exact ⟨_, _, e, h3⟩
theorem bH {P : Program} (w : World) {o : Oper} {a : Act} {K : Act → World → Prop} {Q : Exit → Act → World → Prop} (s x : Operand) (t : TypeId)
  (ho : o.op = .call { callee := .builtin .append, args := #[s, x], argTypes := #[t, t] })
  (base : Nat) (e : TypeId) (i : TypeInfo) (z : Value) (size bytes : Nat) (ht : P.underlying t = some (.slice e)) (hi : P.info? e = some i) (hz : i.zero = some z)
  (hsize : i.size = size) (hby : i.bytes = bytes) (hzs : z.cells.size = size) (hsz : 0 < size)
  (v : Value) (n : Nat) (xs : List Value) (hs : a.eval s = v) (hown : w.ownsRow base e size v n xs)
  (ao : Option Addr) (m c : Nat) (news : List Value) (hx : a.eval x = .slice ao m c) (hl : news.length = m * size) (h0 : ao = none → m = 0) (hnews : ∀ ad, ao = some ad → ∀ j u, news[j]? = some u → w.cell? (ad.add j) = some u) (h1 : ∀ u ∈ news, u.oneCell' = true)
  (h63 : n + m ≤ maxLen) (hbytes : (n + m) * bytes ≤ 140737488355328) (hbase : base ≤ w.heap.size)
  (h : ∀ v' w', w'.ownsRow base e size v' (n + m) (xs ++ news) → w.grownBy w' v.ownBlock → K (a.put o.dst v') w') : o.wp P a w K Q := by
 cases ao with
 | some ad => exact wp_append_own w s x t ho base e i z size bytes ht hi hz hsize hby hzs hsz v n xs hs hown ad m c news hx hl (hnews ad rfl) h1 h63 hbytes hbase fun v' w' h2 h3 _ => h v' w' h2 h3
 | none =>
  obtain rfl := h0 rfl
  obtain rfl : news = [] := List.eq_nil_of_length_eq_zero (by rw [hl]; omega)
  obtain ⟨a', cap, rfl, hc⟩ := em hown
  have hr := js (P := P) w t o.type e i ht hi a' n cap c hc
  unfold Oper.wp execOp
  simp only [ho, resolve, invoke, builtin, Sem.run_bind, Sem.run_pure, Result.andThen_ok, List.map_toArray, List.map_cons, List.map_nil, hs, hx, hr]
  exact h _ _ (by rw [List.append_nil]; exact hown) ⟨rfl, rfl, rfl, Nat.le_refl _, fun _ _ _ => rfl⟩
theorem fc {w : World} {ao : Option Addr} {L : List St} (h : aA w ao L L.length) (ad : Addr) (he : ao = some ad) (j : Nat) (u : Value) (hj : (aE L)[j]? = some u) : w.cell? (ad.add j) = some u := by
 subst he
 rcases h with h0 | ⟨b, o, e, hb, hc⟩
 ·have := (List.getElem?_eq_some_iff.1 hj).1
  rw [eh] at this
  omega
 ·cases e
  exact nZ (.inr ⟨b, o, rfl, hb, hc⟩) j u hj
theorem gB {w : World} {ao : Option Addr} {L : List St} (h : aA w ao L L.length) (he : ao = none) : L.length = 0 := by
 subst he
 rcases h with h0 | ⟨b, o, e, hb, hc⟩
 ·exact h0
 ·cases e
end
section
open Go.RowKit
def Row (w : World) (a : Option Addr) (len : Nat) (B : Nat) : Prop :=
 len = 0 ∨ ∃ bx ox, a = some ⟨bx, ox, none⟩ ∧ bx < B ∧ ∀ i, i < len → ∃ z : Int, w.cell? ⟨bx, ox + i, none⟩ = some (.int .u8 z) ∧ 0 ≤ z ∧ z ≤ 255
theorem Row.kept {w w' : World} {a : Option Addr} {len B : Nat} (h : Row w a len B) (hk : ∀ k, k < B → w'.heap[k]? = w.heap[k]?) : Row w' a len B := by
 rcases h with h | ⟨bx, ox, ha, hb, hc⟩
 ·exact .inl h
 ·refine .inr ⟨bx, ox, ha, hb, fun i hi => ?_⟩
  obtain ⟨z, hz, h0, h1⟩ := hc i hi
  exact ⟨z, by rw [World.cell?_of_block (w := w) (hk bx hb)]; exact hz, h0, h1⟩
def aI (b : Nat) (w : World) : Prop := ∃ (a : Option Addr) (len cap : Nat) (at_ mix size : Int),
 w.cell? ⟨b, 0, none⟩ = some (.slice a len cap) ∧ w.cell? ⟨b, 1, none⟩ = some (.int .i64 at_) ∧ w.cell? ⟨b, 2, none⟩ = some (.int .u64 mix) ∧ w.cell? ⟨b, 3, none⟩ = some (.int .i64 size) ∧
 w.frozen? ⟨b, 0, none⟩ = false ∧ w.frozen? ⟨b, 1, none⟩ = false ∧ w.frozen? ⟨b, 2, none⟩ = false ∧ w.frozen? ⟨b, 3, none⟩ = false ∧
 0 ≤ at_ ∧ at_ ≤ len ∧ len ≤ 1048576 ∧ 0 ≤ mix ∧ mix ≤ 18446744073709551615 ∧ 0 ≤ size ∧ size ≤ 12 ∧ Row w a len b
theorem jg (a b : Int) : 0 ≤ bits .xor .u64 a b ∧ bits .xor .u64 a b ≤ 18446744073709551615 := by
 have h := wf_bits .xor .u64 a b
 simpa [Lit.wf, IntKind.min, IntKind.max, IntKind.signed, IntKind.bits] using h
theorem tu (b : Nat) (most : Int) (w : World) (h : most ≤ 1) :
  Calls Tryz.prog 36 #[.pointer (some ⟨b, 0, none⟩), .int .i64 most] w fun e w' => e = .returned (.int .i64 0) ∧ w' = w := by
 go_enter Tryz.func36, Tryz.ntmps36
 go_wp2
 go_ret
 exact ⟨rfl, rfl⟩
theorem my (w : World) (b o : Nat) (v v' : Value) : (w.setCell ⟨b, o, none⟩ v).setCell ⟨b, o, none⟩ v' = w.setCell ⟨b, o, none⟩ v' := by
 unfold World.setCell
 congr 1
 apply Array.ext
 ·simp
 ·intro i h1 h2
  simp only [Array.getElem_modify]
  by_cases e : b = i
  ·simp only [e, if_true]
   split <;> rename_i h <;> revert h <;> split <;> intro h <;> simp_all
   obtain ⟨rfl, rfl, rfl⟩ := h
   simp
  ·simp [e]
def drawn (v m most : Int) : Int := (v + m / 1048576) % most
theorem tg (b : Nat) (most : Int) (w : World) (a : Option Addr) (len cap : Nat) (at_ mix : Int) (h : 1 < most) (hm : most ≤ 9223372036854775807)
  (c0 : w.cell? ⟨b, 0, none⟩ = some (.slice a len cap)) (c1 : w.cell? ⟨b, 1, none⟩ = some (.int .i64 at_)) (c2 : w.cell? ⟨b, 2, none⟩ = some (.int .u64 mix))
  (f2 : w.frozen? ⟨b, 2, none⟩ = false) (hlen : len ≤ 1048576) (hat : (len : Int) ≤ at_) (hm0 : 0 ≤ mix) (hm1 : mix ≤ 18446744073709551615) :
  Calls Tryz.prog 36 #[.pointer (some ⟨b, 0, none⟩), .int .i64 most] w fun e w' => ∃ k m : Int, e = .returned (.int .i64 k) ∧ 0 ≤ k ∧ k < most ∧ 0 ≤ m ∧ m ≤ 18446744073709551615 ∧ w'.heap = (w.setCell ⟨b, 2, none⟩ (.int .u64 m)).heap ∧ w'.os = w.os ∧ w'.tape = w.tape ∧ w'.output = w.output := by
 have hss := fun v v' => my w b 2 v v'
 have hx := jg
 obtain ⟨m1, hm1e⟩ : ∃ m, bits .xor .u64 mix (IntKind.u64.wrap (mix * 8192)) = m := ⟨_, rfl⟩
 obtain ⟨m2, hm2e⟩ : ∃ m, bits .xor .u64 m1 (m1 / 128) = m := ⟨_, rfl⟩
 obtain ⟨m3, hm3e⟩ : ∃ m, bits .xor .u64 m2 (IntKind.u64.wrap (m2 * 131072)) = m := ⟨_, rfl⟩
 have r1 : 0 ≤ m1 ∧ m1 ≤ 18446744073709551615 := by rw [← hm1e]; exact hx _ _
 have r2 : 0 ≤ m2 ∧ m2 ≤ 18446744073709551615 := by rw [← hm2e]; exact hx _ _
 have r3 : 0 ≤ m3 ∧ m3 ≤ 18446744073709551615 := by rw [← hm3e]; exact hx _ _
 clear hx
 go_enter Tryz.func36, Tryz.ntmps36
 go_wp2
 go_region
 go_wp2
 go_region
 go_wp2
 go_region
 go_wp2
 go_region
 go_wp2
 go_ret
 have hk0 : 0 ≤ m3 / 1048576 % most := Int.emod_nonneg _ (by omega)
 have hk1 : m3 / 1048576 % most < most := Int.emod_lt_of_pos _ (by omega)
 have hkw : wrap64 (m3 / 1048576 % most) = m3 / 1048576 % most := by unfold wrap64; omega
 exact ⟨_, m3, rfl, by rw [hkw]; exact hk0, by rw [hkw]; exact hk1, r3.1, r3.2, rfl, rfl, rfl, rfl⟩
theorem n_in (b : Nat) (most : Int) (w : World) (bx ox : Nat) (len cap at_ : Nat) (mix z : Int) (h : 1 < most) (hm : most ≤ 9223372036854775807)
  (c0 : w.cell? ⟨b, 0, none⟩ = some (.slice (some ⟨bx, ox, none⟩) len cap)) (c1 : w.cell? ⟨b, 1, none⟩ = some (.int .i64 (at_ : Int))) (c2 : w.cell? ⟨b, 2, none⟩ = some (.int .u64 mix))
  (f1 : w.frozen? ⟨b, 1, none⟩ = false) (f2 : w.frozen? ⟨b, 2, none⟩ = false) (hlen : len ≤ 1048576) (hat : (at_ : Int) < (len : Int)) (hm0 : 0 ≤ mix) (hm1 : mix ≤ 18446744073709551615)
  (cz : w.cell? ⟨bx, ox + at_, none⟩ = some (.int .u8 z)) (z0 : 0 ≤ z) (z1 : z ≤ 255) :
  Calls Tryz.prog 36 #[.pointer (some ⟨b, 0, none⟩), .int .i64 most] w fun e w' => ∃ k m : Int, e = .returned (.int .i64 k) ∧ 0 ≤ k ∧ k < most ∧ 0 ≤ m ∧ m ≤ 18446744073709551615 ∧ w'.heap = ((w.setCell ⟨b, 1, none⟩ (.int .i64 ((at_ : Int) + 1))).setCell ⟨b, 2, none⟩ (.int .u64 m)).heap ∧ w'.os = w.os ∧ w'.tape = w.tape ∧ w'.output = w.output := by
 have hss := fun v v' => my (w.setCell ⟨b, 1, none⟩ (.int .i64 ((at_ : Int) + 1))) b 2 v v'
 have hx := jg
 obtain ⟨m1, hm1e⟩ : ∃ m, bits .xor .u64 mix (IntKind.u64.wrap (mix * 8192)) = m := ⟨_, rfl⟩
 obtain ⟨m2, hm2e⟩ : ∃ m, bits .xor .u64 m1 (m1 / 128) = m := ⟨_, rfl⟩
 obtain ⟨m3, hm3e⟩ : ∃ m, bits .xor .u64 m2 (IntKind.u64.wrap (m2 * 131072)) = m := ⟨_, rfl⟩
 have r1 : 0 ≤ m1 ∧ m1 ≤ 18446744073709551615 := by rw [← hm1e]; exact hx _ _
 have r2 : 0 ≤ m2 ∧ m2 ≤ 18446744073709551615 := by rw [← hm2e]; exact hx _ _
 have r3 : 0 ≤ m3 ∧ m3 ≤ 18446744073709551615 := by rw [← hm3e]; exact hx _ _
 clear hx
 go_enter Tryz.func36, Tryz.ntmps36
 go_wp2
 go_region
 go_wp2
 go_region
 go_wp2
 go_region
 go_wp2
 go_region
 go_wp2
 go_region
 go_wp2
 go_ret
 have hk0 : 0 ≤ (z + m3 / 1048576) % most := Int.emod_nonneg _ (by omega)
 have hk1 : (z + m3 / 1048576) % most < most := Int.emod_lt_of_pos _ (by omega)
 have hkw : wrap64 ((z + m3 / 1048576) % most) = (z + m3 / 1048576) % most := by unfold wrap64; omega
 exact ⟨_, m3, rfl, by rw [hkw]; exact hk0, by rw [hkw]; exact hk1, r3.1, r3.2, rfl, rfl, rfl, rfl⟩
theorem di {w w' : World} (h : w'.heap = w.heap) (a : Addr) : w'.cell? a = w.cell? a := World.cell?_of_block (by rw [h])
theorem bJ {w w' : World} (h : w'.heap = w.heap) (a : Addr) : w'.frozen? a = w.frozen? a := World.frozen?_of_block (by rw [h])
theorem aT (b : Nat) (most : Int) (w : World) (hS : aI b w) (hm : most ≤ 9223372036854775807) :
  Calls Tryz.prog 36 #[.pointer (some ⟨b, 0, none⟩), .int .i64 most] w fun e w' => ∃ k : Int, e = .returned (.int .i64 k) ∧ 0 ≤ k ∧ (1 < most → k < most) ∧ (most ≤ 1 → k = 0) ∧ aI b w' ∧ w.grownBy w' (some b) := by
 by_cases h : most ≤ 1
 ·refine (tu b most w h).mono ?_
  rintro e w' ⟨rfl, rfl⟩
  exact ⟨0, rfl, Int.le_refl _, by omega, fun _ => rfl, hS, ⟨rfl, rfl, rfl, Nat.le_refl _, fun _ _ _ => rfl⟩⟩
 obtain ⟨a, len, cap, at_, mix, size, c0, c1, c2, c3, f0, f1, f2, f3, a0, a1, hl, m0, m1, s0, s1, hR⟩ := hS
 by_cases hat : at_ < len
 ·obtain ⟨n, rfl⟩ : ∃ n : Nat, at_ = (n : Int) := ⟨at_.toNat, by omega⟩
  rcases hR with h0 | ⟨bx, ox, rfl, hb, hz⟩
  ·omega
  obtain ⟨z, cz, z0, z1⟩ := hz n (by omega)
  refine (n_in b most w bx ox len cap n mix z (by omega) hm c0 c1 c2 f1 f2 hl hat m0 m1 cz z0 z1).mono ?_
  rintro e w' ⟨k, m, rfl, k0, k1, hm0, hm1, hh, ho, ht, hu⟩
  have hne : ∀ k, k ≠ b → w'.heap[k]? = w.heap[k]? := fun k hk => by rw [hh, Below.heap_setCell _ _ _ _ hk, Below.heap_setCell _ _ _ _ hk]
  refine ⟨k, rfl, k0, fun _ => k1, fun h' => absurd h' h, ⟨some ⟨bx, ox, none⟩, len, cap, (n : Int) + 1, m, size, ?_, ?_, ?_, ?_, ?_, ?_, ?_, ?_, by omega, by omega, hl, hm0, hm1, s0, s1, Row.kept (.inr ⟨bx, ox, rfl, hb, hz⟩) (fun k hk => hne k (by omega))⟩,
   ⟨ho, ht, hu, by rw [hh]; simp [World.setCell], fun k _ hk => hne k (fun e => hk (by rw [e]))⟩⟩
  ·rw [di hh]; go_simp
  ·rw [di hh]; go_simp
  ·rw [di hh]; go_simp
  ·rw [di hh]; go_simp
  ·rw [bJ hh]; simp only [World.frozen?_setCell]; exact f0
  ·rw [bJ hh]; simp only [World.frozen?_setCell]; exact f1
  ·rw [bJ hh]; simp only [World.frozen?_setCell]; exact f2
  ·rw [bJ hh]; simp only [World.frozen?_setCell]; exact f3
 ·refine (tg b most w a len cap at_ mix (by omega) hm c0 c1 c2 f2 hl (by omega) m0 m1).mono ?_
  rintro e w' ⟨k, m, rfl, k0, k1, hm0, hm1, hh, ho, ht, hu⟩
  have hne : ∀ k, k ≠ b → w'.heap[k]? = w.heap[k]? := fun k hk => by rw [hh, Below.heap_setCell _ _ _ _ hk]
  refine ⟨k, rfl, k0, fun _ => k1, fun h' => absurd h' h, ⟨a, len, cap, at_, m, size, ?_, ?_, ?_, ?_, ?_, ?_, ?_, ?_, by omega, by omega, hl, hm0, hm1, s0, s1, Row.kept hR (fun k hk => hne k (by omega))⟩,
   ⟨ho, ht, hu, by rw [hh]; simp [World.setCell], fun k _ hk => hne k (fun e => hk (by rw [e]))⟩⟩
  ·rw [di hh]; go_simp
  ·rw [di hh]; go_simp
  ·rw [di hh]; go_simp
  ·rw [di hh]; go_simp
  ·rw [bJ hh]; simp only [World.frozen?_setCell]; exact f0
  ·rw [bJ hh]; simp only [World.frozen?_setCell]; exact f1
  ·rw [bJ hh]; simp only [World.frozen?_setCell]; exact f2
  ·rw [bJ hh]; simp only [World.frozen?_setCell]; exact f3
theorem aI.kept {b : Nat} {w w' : World} {row : Option Nat} (h : aI b w) (hg : w.grownBy w' row) (hr : ∀ k, row = some k → b < k) : aI b w' := by
 obtain ⟨a, len, cap, at_, mix, size, c0, c1, c2, c3, f0, f1, f2, f3, a0, a1, hl, m0, m1, s0, s1, hR⟩ := h
 have hlt : b < w.heap.size := World.block_lt_of_cell? w ⟨b, 0, none⟩ c0
 have hk : ∀ k, k ≤ b → w'.heap[k]? = w.heap[k]? := fun k hk => hg.block k (by omega) (fun e => by have := hr k e.symm; omega)
 have hc : ∀ o, w'.cell? ⟨b, o, none⟩ = w.cell? ⟨b, o, none⟩ := fun o => World.cell?_of_block (hk b (Nat.le_refl _))
 have hf : ∀ o, w'.frozen? ⟨b, o, none⟩ = w.frozen? ⟨b, o, none⟩ := fun o => World.frozen?_of_block (hk b (Nat.le_refl _))
 exact ⟨a, len, cap, at_, mix, size, by rw [hc]; exact c0, by rw [hc]; exact c1, by rw [hc]; exact c2, by rw [hc]; exact c3, by rw [hf]; exact f0, by rw [hf]; exact f1, by rw [hf]; exact f2, by rw [hf]; exact f3, a0, a1, hl, m0, m1, s0, s1, hR.kept (fun k h => hk k (by omega))⟩
theorem al {a b c : World} {row : Option Nat} (h : a.grownBy b row) (k : b.grownBy c row) : a.grownBy c row :=
 ⟨k.os.trans h.os, k.tape.trans h.tape, k.output.trans h.output, Nat.le_trans h.size k.size, fun i hi hn => (k.block i (Nat.lt_of_lt_of_le hi h.size) hn).trans (h.block i hi hn)⟩
theorem aI.lt {b : Nat} {w : World} (h : aI b w) : b < w.heap.size := by
 obtain ⟨a, len, cap, at_, mix, size, c0, _⟩ := h
 exact World.block_lt_of_cell? w ⟨b, 0, none⟩ c0
theorem bO (b : Nat) (of : Int) (w : World) (hS : aI b w) (hm : of ≤ 9223372036854775807) :
  Calls Tryz.prog 46 #[.pointer (some ⟨b, 0, none⟩), .int .i64 of] w fun e w' => ∃ y : Bool, e = .returned (.bool y) ∧ aI b w' ∧ w.grownBy w' (some b) := by
 have HS := yz hS
 clear hS
 go_enter Tryz.func46, Tryz.ntmps46
 go_wp2_with fail
 refine (aT b of w (yy HS) hm).mono ?_
 rintro e w1 ⟨k, rfl, k0, k1, k2, hS1, hg⟩
 have HS1 := yz hS1
 clear hS1
 go_wp2
 go_ret
 exact ⟨_, rfl, yy HS1, hg⟩
theorem oH {a b c : World} {row r : Option Nat} (h : a.grownBy b row) (k : b.grownBy c r) (hr : ∀ i, r = some i → a.heap.size ≤ i) : a.grownBy c row :=
 ⟨k.os.trans h.os, k.tape.trans h.tape, k.output.trans h.output, Nat.le_trans h.size k.size, fun i hi hn => (k.block i (Nat.lt_of_lt_of_le hi h.size) (fun e => by have := hr i e.symm; omega)).trans (h.block i hi hn)⟩
theorem nc {a b : World} {row : Option Nat} (h : a.grownBy b row) (o : Obj) : a.grownBy (b.alloc o) row := oH h (World.grownBy_alloc b o none) (fun i e => by cases e)
theorem dp (w w1 : World) (b : Nat) (T : TypeId) (cs : Array Value) (hg : (w.alloc (.cells cs T)).grownBy w1 (some b)) (hb : b < w.heap.size) (k : Nat) (v : Value) (hv : cs[k]? = some v) :
  w1.cell? ⟨w.heap.size, k, none⟩ = some v := by
 refine hg.cell ?_ (by intro e; have := Option.some.inj e; simp at this; omega)
 simp [hv]
theorem lg (a : Int) : 0 ≤ IntKind.u64.wrap a ∧ IntKind.u64.wrap a ≤ 18446744073709551615 := by
 have h := wf_wrap .u64 a
 simpa [Lit.wf, IntKind.min, IntKind.max, IntKind.signed, IntKind.bits] using h
theorem ex (a : Option Addr) (len cap : Nat) (w : World) (hl : len ≤ 1048576) (hR : Row w a len w.heap.size) :
  Calls Tryz.prog 30 #[.slice a len cap] w fun e w' => e = .returned (.pointer (some ⟨w.heap.size, 0, none⟩)) ∧ aI w.heap.size w' ∧ Below w.heap.size w w' := by
 have HR := yz hR
 clear hR
 go_enter Tryz.func30, Tryz.ntmps30
 go_wp2
 go_loopw [4] (fun i wr => ∃ (k : Nat) (mix : Int), k ≤ len ∧ k ≤ 64 ∧ i = .int .i64 k ∧ 0 ≤ mix ∧ mix ≤ 18446744073709551615 ∧
   wr.cell? ⟨w.heap.size, 0, none⟩ = some (.slice a len cap) ∧ wr.cell? ⟨w.heap.size, 1, none⟩ = some (.int .i64 0) ∧ wr.cell? ⟨w.heap.size, 2, none⟩ = some (.int .u64 mix) ∧ wr.cell? ⟨w.heap.size, 3, none⟩ = some (.int .i64 0) ∧
   wr.frozen? ⟨w.heap.size, 0, none⟩ = false ∧ wr.frozen? ⟨w.heap.size, 1, none⟩ = false ∧ wr.frozen? ⟨w.heap.size, 2, none⟩ = false ∧ wr.frozen? ⟨w.heap.size, 3, none⟩ = false ∧ Below w.heap.size w wr) (fun i _ => 64 - (intOf i).toNat)
 case atStart => exact ⟨0, 88172645463325252, by omega, by omega, rfl, by omega, by omega, by simp, by simp, by simp, by simp, by simp, by simp, by simp, by simp, (Below.refl _ _).alloc (Nat.le_refl _) _⟩
 case round =>
  obtain ⟨k, mix, hk, hk64, rfl, m0, m1, c0, c1, c2, c3, f0, f1, f2, f3, hB⟩ := hrel
  by_cases hlt : k < len ∧ k < 64
  ·obtain ⟨h1, h2⟩ := hlt
   rcases yy HR with h0 | ⟨bx, ox, rfl, hbx, hz⟩
   ·omega
   obtain ⟨z, cz, z0, z1⟩ := hz k h1
   have cz' : wr.cell? ⟨bx, ox + k, none⟩ = some (.int .u8 z) := by rw [hB.cell (p := ⟨bx, ox + k, none⟩) hbx]; exact cz
   obtain ⟨m, hme⟩ : ∃ m, IntKind.u64.wrap (bits .xor .u64 mix z * 1099511628211) = m := ⟨_, rfl⟩
   have hmr : 0 ≤ m ∧ m ≤ 18446744073709551615 := by rw [← hme]; exact lg _
   have hk1 : (k : Int) < (len : Int) := by omega
   have hk2 : (k : Int) < 64 := by omega
   clear hz cz
   go_wp2
   go_region
   go_wp2
   go_roundw
   case rel => exact ⟨k + 1, m, by omega, by omega, by go_num, hmr.1, hmr.2, by go_simp, by go_simp, by go_simp, by go_simp, by go_simp, by go_simp, by go_simp, by go_simp, (hB.setCell (Nat.le_refl _) _).drew⟩
   case measure => simp [intOf]; omega
  ·have hRr := (yy HR).kept hB.block
   have HRr := yz hRr
   have hss := fun v v' => my wr w.heap.size 3 v v'
   have hex : ((len : Int) ≤ (k : Int) ∧ (len : Int) / 20 ≤ 12) ∨ (((k : Int) < (len : Int) ∧ (64 : Int) ≤ (k : Int)) ∧ (len : Int) / 20 ≤ 12) ∨ (((k : Int) < (len : Int) ∧ (64 : Int) ≤ (k : Int)) ∧ 12 < (len : Int) / 20) := by omega
   clear hRr hlt
   rcases hex with ⟨hex, hq⟩ | ⟨hex, hq⟩ | ⟨hex, hq⟩
   ·go_wp2
    go_ret
    exact ⟨rfl, ⟨a, len, cap, 0, mix, (len : Int) / 20, by go_simp, by go_simp, by go_simp, by go_simp, by go_simp, by go_simp, by go_simp, by go_simp, by omega, by omega, hl, m0, m1, by omega, by omega, (yy HRr).kept (fun j hj => Below.heap_setCell _ _ _ _ (by simp; omega))⟩, hB.setCell (Nat.le_refl _) _⟩
   ·go_wp2
    go_ret
    exact ⟨rfl, ⟨a, len, cap, 0, mix, (len : Int) / 20, by go_simp, by go_simp, by go_simp, by go_simp, by go_simp, by go_simp, by go_simp, by go_simp, by omega, by omega, hl, m0, m1, by omega, by omega, (yy HRr).kept (fun j hj => Below.heap_setCell _ _ _ _ (by simp; omega))⟩, hB.setCell (Nat.le_refl _) _⟩
   ·go_wp2
    go_ret
    exact ⟨rfl, ⟨a, len, cap, 0, mix, 12, by go_simp, by go_simp, by go_simp, by go_simp, by go_simp, by go_simp, by go_simp, by go_simp, by omega, by omega, hl, m0, m1, by omega, by omega, (yy HRr).kept (fun j hj => Below.heap_setCell _ _ _ _ (by simp; omega))⟩, hB.setCell (Nat.le_refl _) _⟩
theorem ko (b : Nat) (w : World) (hS : aI b w) :
  Calls Tryz.prog 93 #[.pointer (some ⟨b, 0, none⟩)] w fun e w' => ∃ v : Int, e = .returned (.int .i64 v) ∧ aI b w' ∧ w.grownBy w' (some b) := by
 have HS := yz hS
 clear hS
 go_enter Tryz.func93, Tryz.ntmps93
 go_wp2_with fail
 refine (bO b 15 _ (yy HS) (by omega)).mono ?_
 rintro e w1 ⟨y, rfl, hS1, hg1⟩
 have HS1 := yz hS1
 have HL := yz hS1.lt
 clear hS1
 cases y
 ·go_wp2_with fail
  refine (bO b 4 _ (yy HS1) (by omega)).mono ?_
  rintro e w2 ⟨y, rfl, hS2, hg2⟩
  have HS2 := yz hS2
  have hg := al hg1 hg2
  clear hS2 hg1 hg2
  cases y
  ·go_wp2_with fail
   refine (aT b 9 _ (yy HS2) (by omega)).mono ?_
   rintro e w3 ⟨z, rfl, z0, z1, z2, hS3, hg3⟩
   have hg' := al hg hg3
   have HS3 := yz hS3
   clear hS3 hg3 hg z1 z2
   go_wp2_with fail
   go_ret
   exact ⟨_, rfl, yy HS3, hg'⟩
  ·go_wp2_with fail
   refine (aT b 400 _ (yy HS2) (by omega)).mono ?_
   rintro e w3 ⟨z, rfl, z0, z1, z2, hS3, hg3⟩
   have hg' := al hg hg3
   have HS3 := yz hS3
   clear hS3 hg3 hg z1 z2
   go_wp2_with fail
   go_ret
   exact ⟨_, rfl, yy HS3, hg'⟩
 ·go_wp2_with fail
  refine (aT b 6 _ ((yy HS1).kept (World.grownBy_alloc w1 _ none) (fun _ e => by cases e)) (by omega)).mono ?_
  rintro e w2 ⟨z, rfl, z0, z1, z2, hS2, hg2⟩
  have hz6 : z < 6 := z1 (by omega)
  have HS2 := yz hS2
  obtain ⟨k, rfl⟩ : ∃ k : Nat, z = (k : Int) := ⟨z.toNat, by omega⟩
  have hc : ∃ v : Int, w2.cell? ⟨w1.heap.size, k, none⟩ = some (.int .i64 v) := by
   have hk : k < 6 := by omega
   match k, hk with
   | 0, _ => exact ⟨_, dp w1 w2 b _ _ hg2 (yy HL) 0 _ rfl⟩
   | 1, _ => exact ⟨_, dp w1 w2 b _ _ hg2 (yy HL) 1 _ rfl⟩
   | 2, _ => exact ⟨_, dp w1 w2 b _ _ hg2 (yy HL) 2 _ rfl⟩
   | 3, _ => exact ⟨_, dp w1 w2 b _ _ hg2 (yy HL) 3 _ rfl⟩
   | 4, _ => exact ⟨_, dp w1 w2 b _ _ hg2 (yy HL) 4 _ rfl⟩
   | 5, _ => exact ⟨_, dp w1 w2 b _ _ hg2 (yy HL) 5 _ rfl⟩
  obtain ⟨v, hv⟩ := hc
  have hgw : w1.grownBy w2 (some b) := al (World.grownBy_alloc w1 _ (some b)) hg2
  have hg' := al hg1 hgw
  clear z1 z2 hS2 hg2 hgw hg1
  go_wp2
  go_ret
  exact ⟨v, rfl, yy HS2, hg'⟩
theorem aq {a w : World} {row : Option Nat} (h : a.grownBy w row) {p : Addr} (hp : a.heap.size ≤ p.block) (v : Value) : a.grownBy (w.setCell p v) row :=
 ⟨h.os, h.tape, h.output, by have := h.size; simpa [World.setCell] using this, fun i hi hn => (Below.heap_setCell w p v i (by omega)).trans (h.block i hi hn)⟩
theorem aI.set {b : Nat} {w : World} (h : aI b w) {p : Addr} (hp : b < p.block) (v : Value) : aI b (w.setCell p v) :=
 h.kept (row := some p.block) ⟨rfl, rfl, rfl, by simp [World.setCell], fun i hi hn => Below.heap_setCell w p v i (fun e => hn (by rw [e]))⟩ (fun k e => by have := Option.some.inj e; omega)
theorem av.grown {w w' : World} {b c : Nat} {x y z : Int} (h : av w b x y z) (hg : w.grownBy w' (some c)) (hne : b ≠ c) : av w' b x y z := by
 obtain ⟨h0, h1, h2⟩ := h
 have hn : ∀ i, some (⟨b, i, none⟩ : Addr).block ≠ some c := fun i e => hne (Option.some.inj e)
 exact ⟨hg.cell h0 (hn 0), hg.cell h1 (hn 1), hg.cell h2 (hn 2)⟩
theorem bd.grown {w w' : World} {b c : Nat} (h : bd w b) (hb : b < w.heap.size) (hg : w.grownBy w' (some c)) (hne : b ≠ c) : bd w' b := by
 obtain ⟨h0, h1, h2⟩ := h
 have hf : ∀ i, w'.frozen? ⟨b, i, none⟩ = w.frozen? ⟨b, i, none⟩ := fun i => World.frozen?_of_block (hg.block b hb (fun e => hne (Option.some.inj e)))
 exact ⟨by rw [hf]; exact h0, by rw [hf]; exact h1, by rw [hf]; exact h2⟩
theorem aI.allocs {b : Nat} {w : World} (h : aI b w) (o : Obj) : aI b (w.alloc o) := h.kept (World.grownBy_alloc w o none) (fun _ e => by cases e)
theorem jI (b : Nat) (w : World) (hS : aI b w) :
  Calls Tryz.prog 48 #[.pointer (some ⟨b, 0, none⟩)] w fun e w' => ∃ x y z : Int, e = .returned (.agg #[.int .i64 x, .int .i64 y, .int .i64 z]) ∧ aI b w' ∧ w.grownBy w' (some b) := by
 have hlt := hS.lt
 have HS := yz hS
 clear hS
 go_enter Tryz.func48, Tryz.ntmps48
 go_wp2_with fail
 refine (ko b _ ((yy HS).allocs _)).mono ?_
 rintro e w1 ⟨x, rfl, hS1, hg1⟩
 have vr := (aw w 0 0 0 33).grown hg1 (by omega)
 have fr := (aV w 0 0 0 33).grown (by simp) hg1 (by omega)
 have hs : w.heap.size < w1.heap.size := by have := hg1.size; simp at this; omega
 have hg := al (World.grownBy_alloc w _ (some b)) hg1
 have HS1 := yz hS1
 clear hS1 hg1
 go_wp2_with fail
 refine (ko b _ (yy HS1)).mono ?_
 rintro e w2 ⟨y, rfl, hS2, hg2⟩
 replace vr := vr.grown hg2 (by omega)
 replace fr := fr.grown hs hg2 (by omega)
 replace hs : w.heap.size < w2.heap.size := by have := hg2.size; omega
 replace hg := al hg hg2
 have HS2 := yz hS2
 clear hS2 hg2 HS1
 go_wp2_with fail
 refine (ko b _ (yy HS2)).mono ?_
 rintro e w3 ⟨z, rfl, hS3, hg3⟩
 replace vr := vr.grown hg3 (by omega)
 replace fr := fr.grown hs hg3 (by omega)
 replace hg := al hg hg3
 have HS3 := yz hS3
 have HG := yz hg
 clear hS3 hg3 HS2 hg
 obtain ⟨r0, r1, r2⟩ := vr
 obtain ⟨f0, f1, f2⟩ := fr
 go_wp2_with fail
 exact bodyPost_ret (v := .agg #[.int .i64 x, .int .i64 y, .int .i64 z]) (by simp [results, Tryz.results48, go_sem, r0, r1, r2]) rfl ⟨x, y, z, rfl, (((yy HS3).set (by simpa using hlt) _).set (by simpa using hlt) _).set (by simpa using hlt) _, aq (aq (aq (yy HG) (Nat.le_refl _) _) (Nat.le_refl _) _) (Nat.le_refl _) _⟩
end
end Go.Proofs.YthoiooefclbecaaGreatDoor
