/- Several texts in one: RowV, ListI, TurnA, TurnB, TurnC, TurnF, Place, TurnO, TurnD, TurnE, TurnG. -/
import Derived.OwnWalk
import Derived.Laws.OwnMore
import Derived.Lib.QuietBelow
import Derived.Deep.QuietTactic
import Derived.BigQuiet
import Derived.BigRegion
import Derived.Deep.RegionHeld
import Derived.Deep.DeepCutAuto
import Derived.Test.YthoiooefclbecaaGreatDoorQFnSkyOwn1
import Derived.Test.YthoiooefclbecaaGreatDoorQFnSkyOwn2
namespace Go.Proofs.YthoiooefclbecaaGreatDoor
set_option linter.unusedVariables false
set_option linter.unusedSimpArgs false
set_option maxRecDepth 100000
set_option maxHeartbeats 8000000
section
open Go.RowKit
def eb (w : World) (t : TypeId) (g m : Nat) (f : Nat → Value) : Prop := ∃ cur : Array Value, w.heap[g]? = some (.cells cur t (0, 0)) ∧ ∀ j, j < m → cur[j]? = some (f j)
theorem eb.lt {w : World} {t : TypeId} {g m : Nat} {f : Nat → Value} (h : eb w t g m f) : g < w.heap.size := by
 obtain ⟨cur, hc, _⟩ := h
 exact (Array.getElem?_eq_some_iff.1 hc).1
theorem eb.same {w w' : World} {t : TypeId} {g m : Nat} {f : Nat → Value} (h : eb w t g m f) (e : w'.heap[g]? = w.heap[g]?) : eb w' t g m f := by
 obtain ⟨cur, hc, hs⟩ := h
 exact ⟨cur, by rw [e]; exact hc, hs⟩
theorem eb.kept {w w' : World} {t : TypeId} {g m : Nat} {f : Nat → Value} (h : eb w t g m f) (hB : Below w.heap.size w w') : eb w' t g m f := h.same (hB.block g h.lt)
theorem eb.congr {w : World} {t : TypeId} {g m : Nat} {f f' : Nat → Value} (h : eb w t g m f) (e : ∀ j, j < m → f j = f' j) : eb w t g m f' := by
 obtain ⟨cur, hc, hs⟩ := h
 exact ⟨cur, hc, fun j hj => by rw [hs j hj, e j hj]⟩
theorem eb.cell {w : World} {t : TypeId} {g m j : Nat} {f : Nat → Value} (h : eb w t g m f) (hj : j < m) : w.cell? ⟨g, j, none⟩ = some (f j) := by
 obtain ⟨cur, hc, hs⟩ := h
 rw [cell_of_row w g j cur t _ hc]
 exact hs j hj
theorem eb.free {w : World} {t : TypeId} {g m : Nat} {f : Nat → Value} (h : eb w t g m f) (j : Nat) : w.frozen? ⟨g, j, none⟩ = false := by
 obtain ⟨cur, hc, _⟩ := h
 exact frozen_of_row w g j cur t hc
theorem eb.set {w : World} {t : TypeId} {g m : Nat} {f : Nat → Value} (h : eb w t g m f) (i : Nat) (v : Value) : eb (w.setCell ⟨g, i, none⟩ v) t g m (fun j => if j = i then v else f j) := by
 obtain ⟨cur, hc, hs⟩ := h
 refine ⟨_, heap_setCell_same w g i cur t v hc, fun j hj => ?_⟩
 have := hs j hj
 rw [Array.getElem?_setIfInBounds]
 by_cases e : i = j
 ·subst e
  simp [(Array.getElem?_eq_some_iff.1 this).1]
 ·have e' : ¬ j = i := fun h => e (Eq.symm h)
  simp [e, e', this]
structure jJ (lo hi : Nat) (w w' : World) : Prop where
 os : w'.os = w.os
 tape : w'.tape = w.tape
 output : w'.output = w.output
 size : w.heap.size ≤ w'.heap.size
 block : ∀ k, k < w.heap.size → (k < lo ∨ hi ≤ k) → w'.heap[k]? = w.heap[k]?
theorem jJ.refl (lo hi : Nat) (w : World) : jJ lo hi w w := ⟨rfl, rfl, rfl, Nat.le_refl _, fun _ _ _ => rfl⟩
theorem jJ.of {lo hi g : Nat} {w w' : World} (h : w.grownBy w' (some g)) (h1 : lo ≤ g) (h2 : g < hi) : jJ lo hi w w' := ⟨h.os, h.tape, h.output, h.size, fun k hk hne => h.block k hk (fun e => by have := Option.some.inj e; omega)⟩
theorem jJ.below {B lo hi : Nat} {w w1 w2 : World} (h : Below B w w1) (ha : jJ lo hi w1 w2) (h1 : B ≤ lo) (h2 : B ≤ w1.heap.size) : Below B w w2 :=
 h.trans ⟨ha.os, ha.tape, ha.output, ha.size, fun k hk => ha.block k (by omega) (.inl (by omega))⟩
def jL (w : World) (t : TypeId) (c lo hi n : Nat) (v : Value) (f : Nat → Value) : Prop := (n = 0 ∧ ∃ a cap, v = .slice a 0 cap) ∨ ∃ g cap, v = .slice (some ⟨g, 0, none⟩) n cap ∧ lo ≤ g ∧ g < hi ∧ eb w t g (n * c) f
theorem jL.kept {w w' : World} {t : TypeId} {c lo hi n : Nat} {v : Value} {f : Nat → Value} (h : jL w t c lo hi n v f) (hB : Below w.heap.size w w') : jL w' t c lo hi n v f := by
 rcases h with h | ⟨g, cap, hv, h1, h2, hr⟩
 ·exact .inl h
 ·exact .inr ⟨g, cap, hv, h1, h2, hr.kept hB⟩
theorem jL.apart {w w' : World} {t : TypeId} {c lo hi l h n : Nat} {v : Value} {f : Nat → Value} (hp : jL w t c lo hi n v f) (ha : jJ l h w w') (hd : hi ≤ l ∨ h ≤ lo) : jL w' t c lo hi n v f := by
 rcases hp with hp | ⟨g, cap, hv, h1, h2, hr⟩
 ·exact .inl hp
 ·exact .inr ⟨g, cap, hv, h1, h2, hr.same (ha.block g hr.lt (by omega))⟩
theorem jL.wide {w : World} {t : TypeId} {c lo hi lo' hi' n : Nat} {v : Value} {f : Nat → Value} (h : jL w t c lo hi n v f) (h1 : lo' ≤ lo) (h2 : hi ≤ hi') : jL w t c lo' hi' n v f := by
 rcases h with h | ⟨g, cap, hv, g1, g2, hr⟩
 ·exact .inl h
 ·exact .inr ⟨g, cap, hv, by omega, by omega, hr⟩
theorem jL.of {w : World} {t : TypeId} {c B n : Nat} {v : Value} {xs : List Value} {f : Nat → Value} (h : w.ownsRow B t c v n xs) (hf : ∀ j, j < n * c → xs[j]? = some (f j)) : jL w t c B w.heap.size n v f := by
 rcases h.2 with ⟨h1, h0⟩ | ⟨g, cap, cur, hv, hb, hg, hnc, hcm, hcs, htake⟩
 ·exact .inl ⟨h0, _, _, h1⟩
 ·refine .inr ⟨g, cap, hv, hb, (Array.getElem?_eq_some_iff.1 hg).1, cur, hg, fun j hj => ?_⟩
  have e := hf j hj
  rw [← htake, List.getElem?_take, if_pos hj] at e
  simpa using e
end
section
open Go.RowKit Go.Sort
end
section
open Go.RowKit
def aG (w : World) (b : Nat) (p q r s : Int) : Prop := w.cell? ⟨b, 0, none⟩ = some (.int .i64 p) ∧ w.cell? ⟨b, 1, none⟩ = some (.int .i64 q) ∧ w.cell? ⟨b, 2, none⟩ = some (.int .i64 r) ∧ w.cell? ⟨b, 3, none⟩ = some (.int .i64 s)
def dx (w : World) (b : Nat) : Prop := w.frozen? ⟨b, 0, none⟩ = false ∧ w.frozen? ⟨b, 1, none⟩ = false ∧ w.frozen? ⟨b, 2, none⟩ = false ∧ w.frozen? ⟨b, 3, none⟩ = false
theorem aG.kept {w w' : World} {b : Nat} {p q r s : Int} (h : aG w b p q r s) (hb : b < w.heap.size) (hB : Below w.heap.size w w') : aG w' b p q r s := by
 obtain ⟨h0, h1, h2, h3⟩ := h
 exact ⟨by rw [hB.cell (p := ⟨b, 0, none⟩) hb]; exact h0, by rw [hB.cell (p := ⟨b, 1, none⟩) hb]; exact h1, by rw [hB.cell (p := ⟨b, 2, none⟩) hb]; exact h2, by rw [hB.cell (p := ⟨b, 3, none⟩) hb]; exact h3⟩
theorem dx.kept {w w' : World} {b : Nat} (h : dx w b) (hb : b < w.heap.size) (hB : Below w.heap.size w w') : dx w' b := by
 obtain ⟨h0, h1, h2, h3⟩ := h
 exact ⟨by rw [hB.frozen (p := ⟨b, 0, none⟩) hb]; exact h0, by rw [hB.frozen (p := ⟨b, 1, none⟩) hb]; exact h1, by rw [hB.frozen (p := ⟨b, 2, none⟩) hb]; exact h2, by rw [hB.frozen (p := ⟨b, 3, none⟩) hb]; exact h3⟩
theorem bc (w : World) (p q r s : Int) (t : TypeId) : aG (w.alloc (.cells #[.int .i64 p, .int .i64 q, .int .i64 r, .int .i64 s] t)) w.heap.size p q r s := by
 refine ⟨?_, ?_, ?_, ?_⟩ <;> simp
theorem lw (w : World) (p q r s : Int) (t : TypeId) : dx (w.alloc (.cells #[.int .i64 p, .int .i64 q, .int .i64 r, .int .i64 s] t)) w.heap.size := by
 refine ⟨?_, ?_, ?_, ?_⟩ <;> simp
theorem aG.lt {w : World} {b : Nat} {p q r s : Int} (h : aG w b p q r s) : b < w.heap.size := World.block_lt_of_cell? w _ h.1
theorem aG.alloc {w : World} {b : Nat} {p q r s : Int} (h : aG w b p q r s) (o : Obj) : aG (w.alloc o) b p q r s := h.kept h.lt (am _ _)
theorem jQ {w w1 : World} {b : Nat} (h : Below w.heap.size w w1) (hb : w.heap.size ≤ b) (x y z u : Value) : Below w.heap.size w ((((w1.setCell ⟨b, 0, none⟩ x).setCell ⟨b, 1, none⟩ y).setCell ⟨b, 2, none⟩ z).setCell ⟨b, 3, none⟩ u) := (((h.setCell hb _).setCell hb _).setCell hb _).setCell hb _
theorem db {w w1 : World} {b : Nat} (h : Below w.heap.size w w1) (hb : w.heap.size ≤ b) (x y z u v : Value) : Below w.heap.size w (((((w1.setCell ⟨b, 0, none⟩ x).setCell ⟨b, 1, none⟩ y).setCell ⟨b, 2, none⟩ z).setCell ⟨b, 3, none⟩ u).setCell ⟨b, 4, none⟩ v) := ((((h.setCell hb _).setCell hb _).setCell hb _).setCell hb _).setCell hb _
theorem kK (p q r s : Int) (w : World) :
  Calls Tryz.prog 113 #[.agg #[.int .i64 p, .int .i64 q, .int .i64 r, .int .i64 s]] w fun e w' => e = .returned (.agg #[.int .i64 p, .int .i64 q, .int .i64 r, .int .i64 s]) ∧ Below w.heap.size w w' := by
 go_enter Tryz.func113, Tryz.ntmps113
 go_wp2
 exact bodyPost_ret (v := .agg #[.int .i64 p, .int .i64 q, .int .i64 r, .int .i64 s]) (by simp [results, Tryz.results113, go_sem]) rfl ⟨rfl, be _ _ _⟩
theorem jW (a1 a2 a3 a4 b1 b2 b3 b4 : Int) (w : World) : (Op.equalIn 10000 37 (.agg #[.int .i64 a1, .int .i64 a2, .int .i64 a3, .int .i64 a4]) (.agg #[.int .i64 b1, .int .i64 b2, .int .i64 b3, .int .i64 b4])).run Tryz.prog w = .ok (eqT a1 a2 a3 a4 b1 b2 b3 b4) w := by
 have h := run_equalIn_struct (P := Tryz.prog) w 9999 37 #[.int .i64 a1, .int .i64 a2, .int .i64 a3, .int .i64 a4] #[.int .i64 b1, .int .i64 b2, .int .i64 b3, .int .i64 b4] (by kernel_rfl) (by kernel_rfl)
 refine h.trans ?_
 by_cases h1 : a1 = b1
 ·by_cases h2 : a2 = b2
  ·by_cases h3 : a3 = b3
   ·by_cases h4 : a4 = b4
    ·simp [go_sem, eqT, h1, h2, h3, h4]
    ·simp [go_sem, eqT, h1, h2, h3, h4]
   ·simp [go_sem, eqT, h1, h2, h3]
  ·simp [go_sem, eqT, h1, h2]
 ·simp [go_sem, eqT, h1]
theorem rB (a1 a2 a3 a4 b1 b2 b3 b4 : Int) (w : World) : (binOp .neq 37 (.agg #[.int .i64 a1, .int .i64 a2, .int .i64 a3, .int .i64 a4]) (.agg #[.int .i64 b1, .int .i64 b2, .int .i64 b3, .int .i64 b4])).run Tryz.prog w = .ok (.bool (!eqT a1 a2 a3 a4 b1 b2 b3 b4)) w := by
 rw [run_neq_struct, jW]; rfl
theorem rd (a1 a2 a3 a4 b1 b2 b3 b4 : Int) (w : World) : (binOp .eql 37 (.agg #[.int .i64 a1, .int .i64 a2, .int .i64 a3, .int .i64 a4]) (.agg #[.int .i64 b1, .int .i64 b2, .int .i64 b3, .int .i64 b4])).run Tryz.prog w = .ok (.bool (eqT a1 a2 a3 a4 b1 b2 b3 b4)) w := by
 rw [run_eql_struct, jW]; rfl
theorem jf (m p q r s : Int) (w : World) (hm0 : 0 ≤ m) (hm : m ≤ 1000000) :
  Calls Tryz.prog 104 #[.agg #[.int .i64 p, .int .i64 q, .int .i64 r, .int .i64 s], .int .i64 m] w fun e w' => e = .returned (.bool (inT m p q r s)) ∧ Below w.heap.size w w' := by
 have i0 : ∀ w : World, (Instr.index 137 (.agg #[.int .i64 p, .int .i64 q, .int .i64 r, .int .i64 s]) (.int .i64 0)).run Tryz.prog w = .ok (.int .i64 p) w := fun _ => by kernel_rfl
 have i1 : ∀ w : World, (Instr.index 137 (.agg #[.int .i64 p, .int .i64 q, .int .i64 r, .int .i64 s]) (.int .i64 1)).run Tryz.prog w = .ok (.int .i64 q) w := fun _ => by kernel_rfl
 have i2 : ∀ w : World, (Instr.index 137 (.agg #[.int .i64 p, .int .i64 q, .int .i64 r, .int .i64 s]) (.int .i64 2)).run Tryz.prog w = .ok (.int .i64 r) w := fun _ => by kernel_rfl
 have i3 : ∀ w : World, (Instr.index 137 (.agg #[.int .i64 p, .int .i64 q, .int .i64 r, .int .i64 s]) (.int .i64 3)).run Tryz.prog w = .ok (.int .i64 s) w := fun _ => by kernel_rfl
 have hwr : wrap64 (-m) = -m := au (by omega) (by omega)
 go_enter Tryz.func104, Tryz.ntmps104
 go_wp2_with fail
 refine (kK p q r s _).mono ?_
 rintro e w1 ⟨rfl, hB1⟩
 have hB : Below w.heap.size w w1 := ak (am _ _) hB1
 clear hB1
 go_wp2_with fail
 go_loop [9] (fun i => ∃ k : Nat, k ≤ 4 ∧ i = .int .i64 k ∧ Hid (0 < k → inB m p = true) ∧ Hid (1 < k → inB m q = true) ∧ Hid (2 < k → inB m r = true) ∧ Hid (3 < k → inB m s = true)) (fun i => 4 - (intOf i).toNat)
 case atStart => exact ⟨0, Nat.zero_le _, rfl, yz (by omega), yz (by omega), yz (by omega), yz (by omega)⟩
 case round =>
  obtain ⟨k, hk, rfl, hx, hy, hz, hu⟩ := hrel
  have hk5 : k = 0 ∨ k = 1 ∨ k = 2 ∨ k = 3 ∨ k = 4 := by omega
  rcases hk5 with rfl | rfl | rfl | rfl | rfl
  ·by_cases q1 : -m ≤ p
   ·by_cases q2 : p ≤ m
    ·have HI := yz (dS.2 ⟨q1, q2⟩)
     go_wp2
     go_round
     case rel => exact ⟨1, by omega, rfl, yz (fun _ => yy HI), yz (by omega), yz (by omega), yz (by omega)⟩
     case measure => simp [intOf]
    ·have HO := yz (hG (m := m) (x := p) (fun h => q2 h.2))
     go_wp2
     go_ret
     exact ⟨by simp [inT, yy HO], hB⟩
   ·have HO := yz (hG (m := m) (x := p) (fun h => q1 h.1))
    go_wp2
    go_ret
    exact ⟨by simp [inT, yy HO], hB⟩
  ·by_cases q1 : -m ≤ q
   ·by_cases q2 : q ≤ m
    ·have HI := yz (dS.2 ⟨q1, q2⟩)
     go_wp2
     go_round
     case rel => exact ⟨2, by omega, rfl, yz (fun _ => yy hx (by omega)), yz (fun _ => yy HI), yz (by omega), yz (by omega)⟩
     case measure => simp [intOf]
    ·have HO := yz (hG (m := m) (x := q) (fun h => q2 h.2))
     go_wp2
     go_ret
     exact ⟨by simp [inT, yy HO], hB⟩
   ·have HO := yz (hG (m := m) (x := q) (fun h => q1 h.1))
    go_wp2
    go_ret
    exact ⟨by simp [inT, yy HO], hB⟩
  ·by_cases q1 : -m ≤ r
   ·by_cases q2 : r ≤ m
    ·have HI := yz (dS.2 ⟨q1, q2⟩)
     go_wp2
     go_round
     case rel => exact ⟨3, by omega, rfl, yz (fun _ => yy hx (by omega)), yz (fun _ => yy hy (by omega)), yz (fun _ => yy HI), yz (by omega)⟩
     case measure => simp [intOf]
    ·have HO := yz (hG (m := m) (x := r) (fun h => q2 h.2))
     go_wp2
     go_ret
     exact ⟨by simp [inT, yy HO], hB⟩
   ·have HO := yz (hG (m := m) (x := r) (fun h => q1 h.1))
    go_wp2
    go_ret
    exact ⟨by simp [inT, yy HO], hB⟩
  ·by_cases q1 : -m ≤ s
   ·by_cases q2 : s ≤ m
    ·have HI := yz (dS.2 ⟨q1, q2⟩)
     go_wp2
     go_round
     case rel => exact ⟨4, by omega, rfl, yz (fun _ => yy hx (by omega)), yz (fun _ => yy hy (by omega)), yz (fun _ => yy hz (by omega)), yz (fun _ => yy HI)⟩
     case measure => simp [intOf]
    ·have HO := yz (hG (m := m) (x := s) (fun h => q2 h.2))
     go_wp2
     go_ret
     exact ⟨by simp [inT, yy HO], hB⟩
   ·have HO := yz (hG (m := m) (x := s) (fun h => q1 h.1))
    go_wp2
    go_ret
    exact ⟨by simp [inT, yy HO], hB⟩
  ·go_wp2
   go_ret
   exact ⟨by simp [inT, yy hx (by omega), yy hy (by omega), yy hz (by omega), yy hu (by omega)], hB⟩
theorem gf (m a b c d : Int) (w : World) (hm0 : 0 ≤ m) (hm : m ≤ 1000000) :
  Calls Tryz.prog 73 #[.agg #[.int .i64 a, .int .i64 b, .int .i64 c, .int .i64 d], .int .i64 m] w fun e w' => e = .returned (.bool (inT m a b c d)) ∧ Below w.heap.size w w' := by
 have hwr : wrap64 (-m) = -m := au (by omega) (by omega)
 go_enter Tryz.func73, Tryz.ntmps73
 go_wp2_with fail
 refine (bF a (-m) m _).mono ?_
 rintro e w1 ⟨rfl, rfl⟩
 rw [isB]
 cases ha : inB m a
 ·go_wp2_with fail
  go_ret
  exact ⟨by simp [inT, ha], am _ _⟩
 ·go_wp2_with fail
  refine (bF b (-m) m _).mono ?_
  rintro e w1 ⟨rfl, rfl⟩
  rw [isB]
  cases hb : inB m b
  ·go_wp2_with fail
   go_ret
   exact ⟨by simp [inT, hb], am _ _⟩
  ·go_wp2_with fail
   refine (bF c (-m) m _).mono ?_
   rintro e w1 ⟨rfl, rfl⟩
   rw [isB]
   cases hc : inB m c
   ·go_wp2_with fail
    go_ret
    exact ⟨by simp [inT, hc], am _ _⟩
   ·go_wp2_with fail
    refine (bF d (-m) m _).mono ?_
    rintro e w1 ⟨rfl, rfl⟩
    rw [isB]
    go_wp2_with fail
    go_ret
    exact ⟨by simp [inT, ha, hb, hc], am _ _⟩
theorem fT_0 {a b c d : Int} (h : a ≠ 0) : fT a b c d = a := by unfold fT; rw [if_pos h]
theorem fT_1 {b c d : Int} (h : b ≠ 0) : fT 0 b c d = b := by unfold fT; rw [if_neg (by simp), if_pos h]
theorem fT_2 {c d : Int} (h : c ≠ 0) : fT 0 0 c d = c := by unfold fT; rw [if_neg (by simp), if_neg (by simp), if_pos h]
theorem fT_3 {d : Int} : fT 0 0 0 d = d := by unfold fT; rw [if_neg (by simp), if_neg (by simp), if_neg (by simp)]
theorem eZ (a b c d : Int) (w : World) :
  Calls Tryz.prog 74 #[.agg #[.int .i64 a, .int .i64 b, .int .i64 c, .int .i64 d]] w fun e w' => e = .returned (.int .i64 (fT a b c d)) ∧ Below w.heap.size w w' := by
 go_enter Tryz.func74, Tryz.ntmps74
 go_wp2_with fail
 go_loop [4] (fun i => ∃ k : Nat, k ≤ 4 ∧ i = .int .i64 k ∧ Hid (0 < k → a = 0) ∧ Hid (1 < k → b = 0) ∧ Hid (2 < k → c = 0) ∧ Hid (3 < k → d = 0)) (fun i => 4 - (intOf i).toNat)
 case atStart => exact ⟨0, Nat.zero_le _, rfl, yz (by omega), yz (by omega), yz (by omega), yz (by omega)⟩
 case round =>
  obtain ⟨k, hk, rfl, hx, hy, hz, hu⟩ := hrel
  have hk5 : k = 0 ∨ k = 1 ∨ k = 2 ∨ k = 3 ∨ k = 4 := by omega
  rcases hk5 with rfl | rfl | rfl | rfl | rfl
  ·have _u := hk
   by_cases h : a = 0
   ·subst h
    clear hx hy hz hu
    go_wp2
    go_round
    case rel => exact ⟨1, by omega, rfl, yz (by simp), yz (by omega), yz (by omega), yz (by omega)⟩
    case measure => simp [intOf]
   ·have HF : Hid (fT a b c d = a) := yz (fT_0 h)
    clear hx hy hz hu
    go_wp2
    go_ret
    exact ⟨by rw [yy HF]; rfl, be _ _ _⟩
  ·have e0 := yy hx (by omega)
   subst e0
   by_cases h : b = 0
   ·subst h
    clear hx hy hz hu
    go_wp2
    go_round
    case rel => exact ⟨2, by omega, rfl, yz (by simp), yz (by simp), yz (by omega), yz (by omega)⟩
    case measure => simp [intOf]
   ·have HF : Hid (fT 0 b c d = b) := yz (fT_1 h)
    clear hx hy hz hu
    go_wp2
    go_ret
    exact ⟨by rw [yy HF]; rfl, be _ _ _⟩
  ·have e0 := yy hx (by omega)
   have e1 := yy hy (by omega)
   subst e0 e1
   by_cases h : c = 0
   ·subst h
    clear hx hy hz hu
    go_wp2
    go_round
    case rel => exact ⟨3, by omega, rfl, yz (by simp), yz (by simp), yz (by simp), yz (by omega)⟩
    case measure => simp [intOf]
   ·have HF : Hid (fT 0 0 c d = c) := yz (fT_2 h)
    clear hx hy hz hu
    go_wp2
    go_ret
    exact ⟨by rw [yy HF]; rfl, be _ _ _⟩
  ·have e0 := yy hx (by omega)
   have e1 := yy hy (by omega)
   have e2 := yy hz (by omega)
   subst e0 e1 e2
   by_cases h : d = 0
   ·subst h
    clear hx hy hz hu
    go_wp2
    go_round
    case rel => exact ⟨4, by omega, rfl, yz (by simp), yz (by simp), yz (by simp), yz (by simp)⟩
    case measure => simp [intOf]
   ·have HF : Hid (fT 0 0 0 d = d) := yz fT_3
    clear hx hy hz hu
    go_wp2
    go_ret
    exact ⟨by rw [yy HF]; rfl, be _ _ _⟩
  ·have e0 := yy hx (by omega)
   have e1 := yy hy (by omega)
   have e2 := yy hz (by omega)
   have e3 := yy hu (by omega)
   subst e0 e1 e2 e3
   clear hx hy hz hu
   go_wp2
   go_ret
   exact ⟨by rw [fT_3]; rfl, be _ _ _⟩
theorem ki (a b c d : Int) (w : World) (h : inT 1000 a b c d = true) :
  Calls Tryz.prog 75 #[.agg #[.int .i64 a, .int .i64 b, .int .i64 c, .int .i64 d]] w fun e w' => e = .returned (.int .i64 (gT a b c d)) ∧ Below w.heap.size w w' := by
 obtain ⟨ha, hb, hc, hd⟩ := dT.1 h
 have hg1 := gn ha hb
 have hg2 := gn hc hd
 go_enter Tryz.func75, Tryz.ntmps75
 go_wp2_with fail
 go_quiet (first | (go_at_call_of 96 (Value.int IntKind.i64 a); refine Calls.quiet_of (ek a b _ (by omega) (by omega))) | (go_at_call_of 96 (Value.int IntKind.i64 c); refine Calls.quiet_of (ek c d _ (by omega) (by omega))) | (go_at_call 96; refine Calls.quiet_of (ek _ _ _ ?_ ?_) <;> omega))
 go_wp2
 go_ret
 exact ⟨rfl, ak (am _ _) (bk _ _)⟩
theorem bn (a b c d : Int) (w : World) :
  Calls Tryz.prog 27 #[.agg #[.int .i64 a, .int .i64 b, .int .i64 c, .int .i64 d]] w fun e w' => e = .returned (.bool (aM a b c d)) ∧ Below w.heap.size w w' := by
 go_enter Tryz.func27, Tryz.ntmps27
 go_wp2_with fail
 refine (gf 5 a b c d _ (by omega) (by omega)).mono ?_
 rintro e w1 ⟨rfl, hB1⟩
 have va : aG w1 w.heap.size a b c d := (bc w a b c d _).kept (by simp) hB1
 have hB : Below w.heap.size w w1 := ak (am _ _) hB1
 clear hB1
 have hva := va
 obtain ⟨c0, c1, c2, c3⟩ := va
 cases h5 : inT 5 a b c d
 ·go_wp2_with fail
  go_ret
  exact ⟨by simp [aM, h5], hB⟩
 ·go_wp2_with fail
  refine (eZ a b c d _).mono ?_
  rintro e w2 ⟨rfl, hB2⟩
  have va := hva.kept hva.lt hB2
  replace hB := ak hB hB2
  clear hB2 hva c0 c1 c2 c3
  have hva := va
  obtain ⟨c0, c1, c2, c3⟩ := va
  by_cases hf : 0 < fT a b c d
  ·go_wp2_with fail
   refine (ki a b c d _ (nj h5 (by omega))).mono ?_
   rintro e w3 ⟨rfl, hB3⟩
   replace hB := ak hB hB3
   go_wp2_with fail
   go_ret
   exact ⟨by rw [aM, h5, decide_eq_true hf]; rfl, hB⟩
  ·have HN := yz (decide_eq_false hf)
   go_wp2_with fail
   go_ret
   exact ⟨by rw [aM, h5, yy HN]; rfl, hB⟩
end
section
open Go.RowKit Go.Sort
def ptT (a b c d : Int) : Nat → Int
 | 0 => a
 | 1 => b
 | 2 => c
 | _ => d
def gS4 (a b c d : Int) : Nat → Int
 | 0 => 0
 | k + 1 => ((Int.gcd (gS4 a b c d k) (ptT a b c d k) : Nat) : Int)
def fS4 (a b c d : Int) : Nat → Int
 | 0 => 0
 | k + 1 => if fS4 a b c d k = 0 then ptT a b c d k else fS4 a b c d k
theorem kp {m a b c d : Int} (h : inT m a b c d = true) (k : Nat) : -m ≤ ptT a b c d k ∧ ptT a b c d k ≤ m := by
 obtain ⟨h1, h2, h3, h4⟩ := dT.1 h
 match k with
 | 0 => exact h1
 | 1 => exact h2
 | 2 => exact h3
 | _ + 3 => exact h4
theorem iw {a b c d : Int} (h : inT 1000 a b c d = true) (k : Nat) : -1000000 ≤ gS4 a b c d k ∧ gS4 a b c d k ≤ 1000000 := by
 have : 0 ≤ gS4 a b c d k ∧ gS4 a b c d k ≤ 1000 := by
  induction k with
  | zero => exact ⟨by show (0 : Int) ≤ 0; omega, by show (0 : Int) ≤ 1000; omega⟩
  | succ k ih => exact gn (m := 1000) (by omega) (kp h k)
 omega
theorem sm (a b c d : Int) : fS4 a b c d 4 = fT a b c d := by
 unfold fT
 by_cases h1 : a = 0
 ·by_cases h2 : b = 0
  ·by_cases h3 : c = 0
   ·simp [fS4, ptT, h1, h2, h3]
   ·simp [fS4, ptT, h1, h2, h3]
  ·simp [fS4, ptT, h1, h2]
 ·simp [fS4, ptT, h1]
theorem pB {a b c d : Int} {k : Nat} (h : fS4 a b c d k = 0) : fS4 a b c d (k + 1) = ptT a b c d k := by
 show (if fS4 a b c d k = 0 then ptT a b c d k else fS4 a b c d k) = _
 rw [if_pos h]
theorem pA {a b c d : Int} {k : Nat} (h : fS4 a b c d k ≠ 0) : fS4 a b c d (k + 1) = fS4 a b c d k := by
 show (if fS4 a b c d k = 0 then ptT a b c d k else fS4 a b c d k) = _
 rw [if_neg h]
theorem nK (a b c d : Int) (w : World) (h : inT 1000 a b c d = true) (hz : ¬ (a = 0 ∧ b = 0 ∧ c = 0 ∧ d = 0)) :
  Calls Tryz.prog 105 #[.agg #[.int .i64 a, .int .i64 b, .int .i64 c, .int .i64 d]] w fun e w' => e = .returned (.agg #[.int .i64 (a.tdiv (sT a b c d)), .int .i64 (b.tdiv (sT a b c d)), .int .i64 (c.tdiv (sT a b c d)), .int .i64 (d.tdiv (sT a b c d))]) ∧ Below w.heap.size w w' := by
 have i0 : ∀ w : World, (Instr.index 137 (.agg #[.int .i64 a, .int .i64 b, .int .i64 c, .int .i64 d]) (.int .i64 0)).run Tryz.prog w = .ok (.int .i64 a) w := fun _ => by kernel_rfl
 have i1 : ∀ w : World, (Instr.index 137 (.agg #[.int .i64 a, .int .i64 b, .int .i64 c, .int .i64 d]) (.int .i64 1)).run Tryz.prog w = .ok (.int .i64 b) w := fun _ => by kernel_rfl
 have i2 : ∀ w : World, (Instr.index 137 (.agg #[.int .i64 a, .int .i64 b, .int .i64 c, .int .i64 d]) (.int .i64 2)).run Tryz.prog w = .ok (.int .i64 c) w := fun _ => by kernel_rfl
 have i3 : ∀ w : World, (Instr.index 137 (.agg #[.int .i64 a, .int .i64 b, .int .i64 c, .int .i64 d]) (.int .i64 3)).run Tryz.prog w = .ok (.int .i64 d) w := fun _ => by kernel_rfl
 have HI := yz h
 have HZ := yz hz
 have HW : Hid (∀ (x s : Int), -1000 ≤ x ∧ x ≤ 1000 → wrap64 (x.tdiv s) = x.tdiv s) := yz (fun x s hx => by have := pR (s := s) hx; exact au (by omega) (by omega))
 clear h hz
 go_enter Tryz.func105, Tryz.ntmps105
 go_wp2_with fail
 refine (kK a b c d _).mono ?_
 rintro e w1 ⟨rfl, hB1⟩
 have va : aG w1 w.heap.size a b c d := ((bc w a b c d _).alloc _).kept (by simp; omega) hB1
 have vr : aG w1 (w.heap.size + 1) 0 0 0 0 := (by simpa using bc (w.alloc _) 0 0 0 0 _ : aG _ (w.heap.size + 1) 0 0 0 0).kept (by simp) hB1
 have fr : dx w1 (w.heap.size + 1) := (by simpa using lw (w.alloc _) 0 0 0 0 _ : dx _ (w.heap.size + 1)).kept (by simp) hB1
 have hB : Below w.heap.size w w1 := ak (be _ _ _) hB1
 clear hB1
 have Va := yz va
 have Vr := yz vr
 have Fr := yz fr
 have HB := yz hB
 clear va vr fr hB
 go_wp2_with fail
 go_loopw [3, 4, 9] (fun u f i wr => ∃ (k n : Nat), k ≤ 4 ∧ i = .int .i64 k ∧ u = .int .i64 (gS4 a b c d k) ∧ f = .int .i64 (fS4 a b c d k) ∧ wr = w1.drewN n) (fun _ _ i _ => 4 - (intOf i).toNat)
 case atStart => exact ⟨0, 0, by omega, rfl, rfl, rfl, rfl⟩
 case round =>
  obtain ⟨k, n, hk, rfl, rfl, rfl, rfl⟩ := hrel
  have hk5 : k = 0 ∨ k = 1 ∨ k = 2 ∨ k = 3 ∨ k = 4 := by omega
  rcases hk5 with rfl | rfl | rfl | rfl | rfl
  ·go_wp2_with fail
   refine (dg _ a _ (iw (yy HI) 0) (by have := kp (yy HI) 0; simp only [ptT] at this; omega)).mono ?_
   rintro e w3 ⟨rfl, m, rfl⟩
   have hg : ((Int.gcd (gS4 a b c d 0) a : Nat) : Int) = gS4 a b c d 1 := rfl
   rw [hg]
   clear hg
   by_cases hf : fS4 a b c d 0 = 0
   ·have HF := yz (pB hf)
    rw [hf]
    clear hf
    go_wp2_with fail
    go_roundw
    case rel => exact ⟨1, n + m, by omega, rfl, rfl, by rw [yy HF]; rfl, by simp⟩
    case measure => simp [intOf]
   ·have HF := yz (pA hf)
    have hb : (fS4 a b c d 0 == 0) = false := by simpa using hf
    clear hf
    go_wp2_with fail
    go_roundw
    case rel => exact ⟨1, n + m, by omega, rfl, rfl, by rw [yy HF], by simp⟩
    case measure => simp [intOf]
  ·go_wp2_with fail
   refine (dg _ b _ (iw (yy HI) 1) (by have := kp (yy HI) 1; simp only [ptT] at this; omega)).mono ?_
   rintro e w3 ⟨rfl, m, rfl⟩
   have hg : ((Int.gcd (gS4 a b c d 1) b : Nat) : Int) = gS4 a b c d 2 := rfl
   rw [hg]
   clear hg
   by_cases hf : fS4 a b c d 1 = 0
   ·have HF := yz (pB hf)
    rw [hf]
    clear hf
    go_wp2_with fail
    go_roundw
    case rel => exact ⟨2, n + m, by omega, rfl, rfl, by rw [yy HF]; rfl, by simp⟩
    case measure => simp [intOf]
   ·have HF := yz (pA hf)
    have hb : (fS4 a b c d 1 == 0) = false := by simpa using hf
    clear hf
    go_wp2_with fail
    go_roundw
    case rel => exact ⟨2, n + m, by omega, rfl, rfl, by rw [yy HF], by simp⟩
    case measure => simp [intOf]
  ·go_wp2_with fail
   refine (dg _ c _ (iw (yy HI) 2) (by have := kp (yy HI) 2; simp only [ptT] at this; omega)).mono ?_
   rintro e w3 ⟨rfl, m, rfl⟩
   have hg : ((Int.gcd (gS4 a b c d 2) c : Nat) : Int) = gS4 a b c d 3 := rfl
   rw [hg]
   clear hg
   by_cases hf : fS4 a b c d 2 = 0
   ·have HF := yz (pB hf)
    rw [hf]
    clear hf
    go_wp2_with fail
    go_roundw
    case rel => exact ⟨3, n + m, by omega, rfl, rfl, by rw [yy HF]; rfl, by simp⟩
    case measure => simp [intOf]
   ·have HF := yz (pA hf)
    have hb : (fS4 a b c d 2 == 0) = false := by simpa using hf
    clear hf
    go_wp2_with fail
    go_roundw
    case rel => exact ⟨3, n + m, by omega, rfl, rfl, by rw [yy HF], by simp⟩
    case measure => simp [intOf]
  ·go_wp2_with fail
   refine (dg _ d _ (iw (yy HI) 3) (by have := kp (yy HI) 3; simp only [ptT] at this; omega)).mono ?_
   rintro e w3 ⟨rfl, m, rfl⟩
   have hg : ((Int.gcd (gS4 a b c d 3) d : Nat) : Int) = gS4 a b c d 4 := rfl
   rw [hg]
   clear hg
   by_cases hf : fS4 a b c d 3 = 0
   ·have HF := yz (pB hf)
    rw [hf]
    clear hf
    go_wp2_with fail
    go_roundw
    case rel => exact ⟨4, n + m, by omega, rfl, rfl, by rw [yy HF]; rfl, by simp⟩
    case measure => simp [intOf]
   ·have HF := yz (pA hf)
    have hb : (fS4 a b c d 3 == 0) = false := by simpa using hf
    clear hf
    go_wp2_with fail
    go_roundw
    case rel => exact ⟨4, n + m, by omega, rfl, rfl, by rw [yy HF], by simp⟩
    case measure => simp [intOf]
  ·have hg : gS4 a b c d 4 = gT a b c d := kd a b c d
   rw [hg, sm]
   clear hg i0 i1 i2 i3
   have hw : wrap64 (-gT a b c d) = -gT a b c d := by have := iw (yy HI) 4; rw [show gS4 a b c d 4 = gT a b c d from kd a b c d] at this; exact au (by omega) (by omega)
   have HE : Hid (∀ g, g = sT a b c d → Value.agg #[.int .i64 (wrap64 (a.tdiv g)), .int .i64 (wrap64 (b.tdiv g)), .int .i64 (wrap64 (c.tdiv g)), .int .i64 (wrap64 (d.tdiv g))] = .agg #[.int .i64 (a.tdiv (sT a b c d)), .int .i64 (b.tdiv (sT a b c d)), .int .i64 (c.tdiv (sT a b c d)), .int .i64 (d.tdiv (sT a b c d))]) := yz (by
    rintro g rfl
    obtain ⟨x1, x2, x3, x4⟩ := dT.1 (yy HI)
    rw [yy HW _ _ x1, yy HW _ _ x2, yy HW _ _ x3, yy HW _ _ x4])
   have HN : Hid (sT a b c d ≠ 0) := yz (sU (yy HZ))
   have va : aG (w1.drewN n) w.heap.size a b c d := yy Va
   have vr : aG (w1.drewN n) (w.heap.size + 1) 0 0 0 0 := yy Vr
   have fr : dx (w1.drewN n) (w.heap.size + 1) := yy Fr
   have hB : Below w.heap.size w (w1.drewN n) := ak (yy HB) (bk _ _)
   clear Va Vr Fr HB HW HI HZ
   by_cases hf : fT a b c d < 0
   ·have hs : sT a b c d = -gT a b c d := by unfold sT; rw [if_pos hf]
    have HG := yz hs.symm
    rw [hs] at HN
    go_wp2_with fail
    rw [hw]
    generalize -gT a b c d = g at HN HG ⊢
    clear hw hs hf
    have hne : g ≠ 0 := yy HN
    have hz0 : (g == 0) = false := by simpa using hne
    generalize w1.drewN n = w3 at va vr fr hB ⊢
    obtain ⟨ca0, ca1, ca2, ca3⟩ := va
    obtain ⟨cr0, cr1, cr2, cr3⟩ := vr
    obtain ⟨fr0, fr1, fr2, fr3⟩ := fr
    go_region
    go_wp2
    exact bodyPost_ret (v := _) (by simp [results, Tryz.results105, go_sem, cr0, cr1, cr2, cr3]) rfl ⟨congrArg _ (yy HE g (yy HG)), (jQ hB (by omega) _ _ _ _).drew⟩
   ·have hs : sT a b c d = gT a b c d := by unfold sT; rw [if_neg hf]
    have HG := yz hs.symm
    rw [hs] at HN
    go_wp2_with fail
    generalize gT a b c d = g at HN HG ⊢
    clear hw hs hf
    have hne : g ≠ 0 := yy HN
    have hz0 : (g == 0) = false := by simpa using hne
    generalize w1.drewN n = w3 at va vr fr hB ⊢
    obtain ⟨ca0, ca1, ca2, ca3⟩ := va
    obtain ⟨cr0, cr1, cr2, cr3⟩ := vr
    obtain ⟨fr0, fr1, fr2, fr3⟩ := fr
    go_region
    go_wp2
    exact bodyPost_ret (v := _) (by simp [results, Tryz.results105, go_sem, cr0, cr1, cr2, cr3]) rfl ⟨congrArg _ (yy HE g (yy HG)), (jQ hB (by omega) _ _ _ _).drew⟩
theorem jh {a b c d : Int} (h : eR a b c d = false) : ¬ (a = 0 ∧ b = 0 ∧ c = 0 ∧ d = 0) := fun e => by rw [fX.2 e] at h; exact absurd h (by decide)
theorem nM {a b c d : Int} (h : eR a b c d = true) : aM a b c d = false := by
 cases hr : aM a b c d
 ·rfl
 ·exact absurd (fX.1 h) (fN hr)
theorem gi (a b c d : Int) (w : World) :
  Calls Tryz.prog 64 #[.agg #[.int .i64 a, .int .i64 b, .int .i64 c, .int .i64 d]] w fun e w' => e = .returned (.bool (aM a b c d)) ∧ Below w.heap.size w w' := by
 have hn := fun w => rB a b c d 0 0 0 0 w
 have va0 := bc w a b c d 37
 have hB0 := am w (.cells #[.int .i64 a, .int .i64 b, .int .i64 c, .int .i64 d] 37)
 cases hz : eqT a b c d 0 0 0 0
 ·rw [hz] at hn
  have HZ := yz (jh (show eR a b c d = false from hz))
  cases h5 : inT 5 a b c d
  ·have HR : Hid (aM a b c d = false) := yz (by rw [aM, h5]; rfl)
   have cW := yz (fun W => (jf 5 a b c d W (by omega) (by omega)).mono (fun e w' h => (⟨by rw [h.1, h5], h.2⟩ : e = .returned (.bool false) ∧ Below W.heap.size W w')))
   clear h5 hz
   go_enter Tryz.func64, Tryz.ntmps64
   go_wp2_with fail
   generalize w.alloc (.cells #[.int .i64 a, .int .i64 b, .int .i64 c, .int .i64 d] 37) = w1 at va0 hB0 ⊢
   obtain ⟨c0, c1, c2, c3⟩ := va0
   have k0 := cell_regrown c0
   have k1 := cell_regrown c1
   have k2 := cell_regrown c2
   have k3 := cell_regrown c3
   refine wp_region_quiet_below (by kernel_rfl) (by kernel_rfl) ?_
   repeat (quiet_step (exact Calls.regrown_of (yy cW _)))
   refine wpQuiet_nil ?_
   intro _ hw'
   obtain ⟨⟨dq, osq⟩, hw''⟩ := hw'
   subst hw''
   clear c0 c1 c2 c3 k0 k1 k2 k3 hn
   go_wp2
   go_ret
   exact ⟨by rw [yy HR]; rfl, ak hB0 (below_regrown w1 dq osq)⟩
  ·have HR := yz (kZ (yy HZ))
   have HT : Hid (aM a b c d = (decide (0 < fT a b c d) && decide (gT a b c d = 1))) := yz (by rw [aM, h5, Bool.true_and])
   have cW := yz (fun W => (jf 5 a b c d W (by omega) (by omega)).mono (fun e w' h => (⟨by rw [h.1, h5], h.2⟩ : e = .returned (.bool true) ∧ Below W.heap.size W w')))
   have cR := yz (fun W => nK a b c d W (nj h5 (by omega)) (yy HZ))
   have he := fun w => rd a b c d (a.tdiv (sT a b c d)) (b.tdiv (sT a b c d)) (c.tdiv (sT a b c d)) (d.tdiv (sT a b c d)) w
   rw [yy HR] at he
   clear h5 hz HZ HR
   go_enter Tryz.func64, Tryz.ntmps64
   go_wp2_with fail
   generalize w.alloc (.cells #[.int .i64 a, .int .i64 b, .int .i64 c, .int .i64 d] 37) = w1 at va0 hB0 ⊢
   obtain ⟨c0, c1, c2, c3⟩ := va0
   have k0 := cell_regrown c0
   have k1 := cell_regrown c1
   have k2 := cell_regrown c2
   have k3 := cell_regrown c3
   refine wp_region_quiet_below (by kernel_rfl) (by kernel_rfl) ?_
   repeat (quiet_step (first | (with_reducible exact Calls.regrown_of (yy cW _)) | (with_reducible exact Calls.regrown_of (yy cR _))))
   refine wpQuiet_nil ?_
   intro _ hw'
   obtain ⟨⟨dq, osq⟩, hw''⟩ := hw'
   subst hw''
   clear c0 c1 c2 c3 k0 k1 k2 k3 hn he
   go_wp2
   go_ret
   exact ⟨by rw [yy HT]; rfl, ak hB0 (below_regrown w1 dq osq)⟩
 ·rw [hz] at hn
  have HR := yz (nM (show eR a b c d = true from hz))
  clear hz
  go_enter Tryz.func64, Tryz.ntmps64
  go_wp2_with fail
  generalize w.alloc (.cells #[.int .i64 a, .int .i64 b, .int .i64 c, .int .i64 d] 37) = w1 at va0 hB0 ⊢
  obtain ⟨c0, c1, c2, c3⟩ := va0
  have k0 := cell_regrown c0
  have k1 := cell_regrown c1
  have k2 := cell_regrown c2
  have k3 := cell_regrown c3
  refine wp_region_quiet_below (by kernel_rfl) (by kernel_rfl) ?_
  repeat (quiet_step (fail))
  refine wpQuiet_nil ?_
  intro _ hw'
  obtain ⟨⟨dq, osq⟩, hw''⟩ := hw'
  subst hw''
  clear c0 c1 c2 c3 k0 k1 k2 k3 hn
  go_wp2
  go_ret
  exact ⟨by rw [yy HR]; rfl, ak hB0 (below_regrown w1 dq osq)⟩
theorem gG {a b c d x y z : Int} (h : apR a b c d x y z = false) : Value.agg #[.int .i64 (apI (apR a b c d x y z) (apX a b c d x y z)), .int .i64 (apI (apR a b c d x y z) (apY a b c d x y z)), .int .i64 (apI (apR a b c d x y z) (apZ a b c d x y z))] = Value.agg #[.int .i64 0, .int .i64 0, .int .i64 0] := by
 rw [h]; rfl
theorem pt {a b c d x y z : Int} (h : apR a b c d x y z = true) : Value.agg #[.int .i64 (apI (apR a b c d x y z) (apX a b c d x y z)), .int .i64 (apI (apR a b c d x y z) (apY a b c d x y z)), .int .i64 (apI (apR a b c d x y z) (apZ a b c d x y z))] = Value.agg #[.int .i64 (apX a b c d x y z), .int .i64 (apY a b c d x y z), .int .i64 (apZ a b c d x y z)] := by
 rw [h]; rfl
theorem mG {x y z : Int} (h : aO x y z = true) : az 1800 x y z = true := by unfold aO at h; rw [Bool.and_eq_true] at h; exact h.2
theorem gR (a b c d x y z : Int) (w : World) (ht : inT 5 a b c d = true) (hv : az 1800 x y z = true) :
  Calls Tryz.prog 92 #[.agg #[.int .i64 a, .int .i64 b, .int .i64 c, .int .i64 d], .agg #[.int .i64 x, .int .i64 y, .int .i64 z]] w fun e w' => e = .returned (.agg #[.int .i64 (apX a b c d x y z), .int .i64 (apY a b c d x y z), .int .i64 (apZ a b c d x y z)]) ∧ Below w.heap.size w w' := by
 have HX := yz (sM ht hv)
 have HY := yz (sN ht hv)
 have HZ := yz (sO ht hv)
 clear ht hv
 go_enter Tryz.func92, Tryz.ntmps92
 go_wp2
 rw [yy HX, yy HY, yy HZ]
 exact bodyPost_ret (v := .agg #[.int .i64 (apX a b c d x y z), .int .i64 (apY a b c d x y z), .int .i64 (apZ a b c d x y z)]) (by simp [results, Tryz.results92, go_sem]) rfl ⟨rfl, fk _ _ _ _⟩
theorem il (a b c d x y z : Int) (w : World) :
  Calls Tryz.prog 29 #[.agg #[.int .i64 a, .int .i64 b, .int .i64 c, .int .i64 d], .agg #[.int .i64 x, .int .i64 y, .int .i64 z]] w fun e w' => e = .returned (.agg #[.int .i64 (apI (apR a b c d x y z) (apX a b c d x y z)), .int .i64 (apI (apR a b c d x y z) (apY a b c d x y z)), .int .i64 (apI (apR a b c d x y z) (apZ a b c d x y z))]) ∧ Below w.heap.size w w' := by
 go_enter Tryz.func29, Tryz.ntmps29
 go_wp2_with fail
 refine (gi a b c d _).mono ?_
 rintro e w1 ⟨rfl, hx⟩
 have va : aG w1 w.heap.size a b c d := (((bc w a b c d _).alloc _).alloc _).kept (by simp; omega) hx
 have vv : av w1 (w.heap.size + 1) x y z := ((by simpa using aw (w.alloc _) x y z _ : av _ (w.heap.size + 1) x y z).alloc (by simp) _).kept (by simp) hx
 have vr : av w1 (w.heap.size + 1 + 1) 0 0 0 := (by simpa using aw ((w.alloc _).alloc _) 0 0 0 _ : av _ (w.heap.size + 1 + 1) 0 0 0).kept (by simp) hx
 have fr : bd w1 (w.heap.size + 1 + 1) := (by simpa using aV ((w.alloc _).alloc _) 0 0 0 _ : bd _ (w.heap.size + 1 + 1)).kept (by simp) hx
 have hs : w.heap.size + 2 < w1.heap.size := by have := hx.size; simp at this; omega
 have hB : Below w.heap.size w w1 := ak (fk _ _ _ _) hx
 clear hx
 cases h1 : aM a b c d
 ·have HR := yz (gG (a := a) (b := b) (c := c) (d := d) (x := x) (y := y) (z := z) (by rw [apR, h1]; rfl))
  obtain ⟨cr0, cr1, cr2⟩ := vr
  obtain ⟨fr0, fr1, fr2⟩ := fr
  go_wp2_with fail
  exact bodyPost_ret (v := .agg #[.int .i64 0, .int .i64 0, .int .i64 0]) (by simp [results, Tryz.results29, go_sem, cr0, cr1, cr2]) rfl ⟨by rw [yy HR], aJ hB (by omega) _ _ _⟩
 ·have wa := va
  have wv := vv
  obtain ⟨ca0, ca1, ca2, ca3⟩ := wa
  obtain ⟨cv0, cv1, cv2⟩ := wv
  go_wp2_with fail
  clear ca0 ca1 ca2 ca3 cv0 cv1 cv2
  refine (ei x y z _).mono ?_
  rintro e w2 ⟨rfl, hx⟩
  replace va := va.kept (by omega) hx
  replace vv := vv.kept (by omega) hx
  replace vr := vr.kept (by omega) hx
  replace fr := fr.kept (by omega) hx
  replace hB := ak hB hx
  replace hs : w.heap.size + 2 < w2.heap.size := by have := hx.size; omega
  clear hx
  cases h2 : aO x y z
  ·have HR := yz (gG (a := a) (b := b) (c := c) (d := d) (x := x) (y := y) (z := z) (by rw [apR, h1, h2]; rfl))
   obtain ⟨cr0, cr1, cr2⟩ := vr
   obtain ⟨fr0, fr1, fr2⟩ := fr
   go_wp2_with fail
   exact bodyPost_ret (v := .agg #[.int .i64 0, .int .i64 0, .int .i64 0]) (by simp [results, Tryz.results29, go_sem, cr0, cr1, cr2]) rfl ⟨by rw [yy HR], aJ hB (by omega) _ _ _⟩
  ·have wa := va
   have wv := vv
   obtain ⟨ca0, ca1, ca2, ca3⟩ := wa
   obtain ⟨cv0, cv1, cv2⟩ := wv
   have HR := yz (pt (a := a) (b := b) (c := c) (d := d) (x := x) (y := y) (z := z) (by rw [apR, h1, h2]; rfl))
   have HX := yz (sM (de.1 h1).1 (mG h2))
   have HY := yz (sN (de.1 h1).1 (mG h2))
   have HZ := yz (sO (de.1 h1).1 (mG h2))
   obtain ⟨cr0, cr1, cr2⟩ := vr
   obtain ⟨fr0, fr1, fr2⟩ := fr
   clear va vv h1 h2
   go_wp2
   go_quiet (fail)
   go_wp2
   go_quiet (fail)
   go_wp2
   go_quiet (fail)
   go_wp2
   rw [yy HX, yy HY, yy HZ]
   exact bodyPost_ret (v := .agg #[.int .i64 (apX a b c d x y z), .int .i64 (apY a b c d x y z), .int .i64 (apZ a b c d x y z)]) (by simp [results, Tryz.results29, go_sem, cr0, cr1, cr2]) rfl ⟨by rw [yy HR], aJ (ak hB (bk _ _)) (by omega) _ _ _⟩
theorem gh (a b c d x y z : Int) (w : World) :
  Calls Tryz.prog 47 #[.agg #[.int .i64 a, .int .i64 b, .int .i64 c, .int .i64 d], .agg #[.int .i64 x, .int .i64 y, .int .i64 z]] w fun e w' => e = .returned (.agg #[.int .i64 (apI (apR a b c d x y z) (apX a b c d x y z)), .int .i64 (apI (apR a b c d x y z) (apY a b c d x y z)), .int .i64 (apI (apR a b c d x y z) (apZ a b c d x y z))]) ∧ Below w.heap.size w w' := by
 go_enter Tryz.func47, Tryz.ntmps47
 go_wp2_with fail
 refine (bn a b c d _).mono ?_
 rintro e w1 ⟨rfl, hx⟩
 have va : aG w1 w.heap.size a b c d := (((bc w a b c d _).alloc _).alloc _).kept (by simp; omega) hx
 have vv : av w1 (w.heap.size + 1) x y z := ((by simpa using aw (w.alloc _) x y z _ : av _ (w.heap.size + 1) x y z).alloc (by simp) _).kept (by simp) hx
 have vr : av w1 (w.heap.size + 1 + 1) 0 0 0 := (by simpa using aw ((w.alloc _).alloc _) 0 0 0 _ : av _ (w.heap.size + 1 + 1) 0 0 0).kept (by simp) hx
 have fr : bd w1 (w.heap.size + 1 + 1) := (by simpa using aV ((w.alloc _).alloc _) 0 0 0 _ : bd _ (w.heap.size + 1 + 1)).kept (by simp) hx
 have hs : w.heap.size + 2 < w1.heap.size := by have := hx.size; simp at this; omega
 have hB : Below w.heap.size w w1 := ak (fk _ _ _ _) hx
 clear hx
 cases h1 : aM a b c d
 ·have HR := yz (gG (a := a) (b := b) (c := c) (d := d) (x := x) (y := y) (z := z) (by rw [apR, h1]; rfl))
  obtain ⟨cr0, cr1, cr2⟩ := vr
  obtain ⟨fr0, fr1, fr2⟩ := fr
  go_wp2_with fail
  exact bodyPost_ret (v := .agg #[.int .i64 0, .int .i64 0, .int .i64 0]) (by simp [results, Tryz.results47, go_sem, cr0, cr1, cr2]) rfl ⟨by rw [yy HR], aJ hB (by omega) _ _ _⟩
 ·have wa := va
  have wv := vv
  obtain ⟨ca0, ca1, ca2, ca3⟩ := wa
  obtain ⟨cv0, cv1, cv2⟩ := wv
  go_wp2_with fail
  clear ca0 ca1 ca2 ca3 cv0 cv1 cv2
  refine (cY x y z _).mono ?_
  rintro e w2 ⟨rfl, hx⟩
  replace va := va.kept (by omega) hx
  replace vv := vv.kept (by omega) hx
  replace vr := vr.kept (by omega) hx
  replace fr := fr.kept (by omega) hx
  replace hB := ak hB hx
  replace hs : w.heap.size + 2 < w2.heap.size := by have := hx.size; omega
  clear hx
  cases h2 : ax x y z
  ·have HR := yz (gG (a := a) (b := b) (c := c) (d := d) (x := x) (y := y) (z := z) (by rw [apR, h1, aO, h2]; rfl))
   obtain ⟨cr0, cr1, cr2⟩ := vr
   obtain ⟨fr0, fr1, fr2⟩ := fr
   go_wp2_with fail
   exact bodyPost_ret (v := .agg #[.int .i64 0, .int .i64 0, .int .i64 0]) (by simp [results, Tryz.results47, go_sem, cr0, cr1, cr2]) rfl ⟨by rw [yy HR], aJ hB (by omega) _ _ _⟩
  ·have wa := va
   have wv := vv
   obtain ⟨ca0, ca1, ca2, ca3⟩ := wa
   obtain ⟨cv0, cv1, cv2⟩ := wv
   go_wp2_with fail
   clear ca0 ca1 ca2 ca3 cv0 cv1 cv2
   refine (cJ 1800 x y z _ (by omega) (by omega)).mono ?_
   rintro e w3 ⟨rfl, hx⟩
   replace va := va.kept (by omega) hx
   replace vv := vv.kept (by omega) hx
   replace vr := vr.kept (by omega) hx
   replace fr := fr.kept (by omega) hx
   replace hB := ak hB hx
   replace hs : w.heap.size + 2 < w3.heap.size := by have := hx.size; omega
   clear hx
   cases h3 : az 1800 x y z
   ·have HR := yz (gG (a := a) (b := b) (c := c) (d := d) (x := x) (y := y) (z := z) (by rw [apR, h1, aO, h2, h3]; rfl))
    obtain ⟨cr0, cr1, cr2⟩ := vr
    obtain ⟨fr0, fr1, fr2⟩ := fr
    go_wp2_with fail
    exact bodyPost_ret (v := .agg #[.int .i64 0, .int .i64 0, .int .i64 0]) (by simp [results, Tryz.results47, go_sem, cr0, cr1, cr2]) rfl ⟨by rw [yy HR], aJ hB (by omega) _ _ _⟩
   ·have wa := va
    have wv := vv
    obtain ⟨ca0, ca1, ca2, ca3⟩ := wa
    obtain ⟨cv0, cv1, cv2⟩ := wv
    have HR := yz (pt (a := a) (b := b) (c := c) (d := d) (x := x) (y := y) (z := z) (by rw [apR, h1, aO, h2, h3]; rfl))
    go_wp2_with fail
    refine (gR a b c d x y z _ (de.1 h1).1 h3).mono ?_
    rintro e w4 ⟨rfl, hx⟩
    replace vr := vr.kept (by omega) hx
    replace fr := fr.kept (by omega) hx
    replace hB := ak hB hx
    clear hx ca0 ca1 ca2 ca3 cv0 cv1 cv2 va vv
    obtain ⟨cr0, cr1, cr2⟩ := vr
    obtain ⟨fr0, fr1, fr2⟩ := fr
    go_wp2_with fail
    exact bodyPost_ret (v := .agg #[.int .i64 (apX a b c d x y z), .int .i64 (apY a b c d x y z), .int .i64 (apZ a b c d x y z)]) (by simp [results, Tryz.results47, go_sem, cr0, cr1, cr2]) rfl ⟨by rw [yy HR], aJ hB (by omega) _ _ _⟩
end
section
open Go.RowKit
theorem av.lt' {w : World} {b : Nat} {x y z : Int} (h : av w b x y z) : b < w.heap.size := World.block_lt_of_cell? w _ h.1
theorem oa {w1 wx wn : World} {X : Prop} (hx : Below wx.heap.size wx wn) (h : X ∧ Below w1.heap.size w1 wx) : Below w1.heap.size w1 wn := ak h.2 hx
def oq (w : World) (b : Nat) : Prop := av w b 0 0 0 ∧ bd w b
theorem rD {wy wn : World} {t : TypeId} (hx : Below (wy.alloc (.cells #[.int .i64 0, .int .i64 0, .int .i64 0] t)).heap.size (wy.alloc (.cells #[.int .i64 0, .int .i64 0, .int .i64 0] t)) wn) : oq wn wy.heap.size :=
 ⟨(aw wy 0 0 0 t).kept (by simp) hx, (aV wy 0 0 0 t).kept (by simp) hx⟩
theorem pG {wy wn : World} {t : TypeId} (hx : Below ((wy.alloc (.cells #[.int .i64 0, .int .i64 0, .int .i64 0] t)).drew).heap.size ((wy.alloc (.cells #[.int .i64 0, .int .i64 0, .int .i64 0] t)).drew) wn) : oq wn wy.heap.size :=
 ⟨(show av (wy.alloc (.cells #[.int .i64 0, .int .i64 0, .int .i64 0] t)).drew wy.heap.size 0 0 0 from aw wy 0 0 0 t).kept (by simp) hx, (show bd (wy.alloc (.cells #[.int .i64 0, .int .i64 0, .int .i64 0] t)).drew wy.heap.size from aV wy 0 0 0 t).kept (by simp) hx⟩
theorem pE {wx wn : World} {b : Nat} (h : oq wx b) (hx : Below wx.heap.size wx wn) : oq wn b := ⟨h.1.kept (av.lt' h.1) hx, h.2.kept (av.lt' h.1) hx⟩
theorem ey {w1 wx : World} (h : Below w1.heap.size w1 wx) (o : Obj) : Below w1.heap.size w1 (wx.alloc o) := h.alloc h.size _
theorem kM {w : World} {b : Nat} (h : oq w b) (x y z : Int) : av (((w.setCell ⟨b, 0, none⟩ (.int .i64 x)).setCell ⟨b, 1, none⟩ (.int .i64 y)).setCell ⟨b, 2, none⟩ (.int .i64 z)) b x y z := by
 obtain ⟨⟨h0, h1, h2⟩, _⟩ := h
 refine ⟨?_, ?_, ?_⟩ <;> simp [go_sem, h0, h1, h2]
theorem iR {w1 wx : World} {b : Nat} (h : Below w1.heap.size w1 wx) (hb : w1.heap.size ≤ b) (x y z : Value) : Below w1.heap.size w1 (((wx.setCell ⟨b, 0, none⟩ x).setCell ⟨b, 1, none⟩ y).setCell ⟨b, 2, none⟩ z) := ((h.setCell hb _).setCell hb _).setCell hb _
theorem iM {w1 wx : World} {X : Prop} (h : X ∧ Below w1.heap.size w1 wx) (o : Obj) : Below w1.heap.size w1 (wx.alloc o) := h.2.alloc h.2.size _
theorem oe {w1 wx : World} {X : Prop} {b : Nat} (h : X ∧ Below w1.heap.size w1 wx) (hb : w1.heap.size ≤ b) (x y z : Value) : Below w1.heap.size w1 (((wx.setCell ⟨b, 0, none⟩ x).setCell ⟨b, 1, none⟩ y).setCell ⟨b, 2, none⟩ z) := ((h.2.setCell hb _).setCell hb _).setCell hb _
def bX (w : World) (b : Nat) (p q r s k : Int) : Prop := w.cell? ⟨b, 0, none⟩ = some (.int .i64 p) ∧ w.cell? ⟨b, 1, none⟩ = some (.int .i64 q) ∧ w.cell? ⟨b, 2, none⟩ = some (.int .i64 r) ∧ w.cell? ⟨b, 3, none⟩ = some (.int .i64 s) ∧ w.cell? ⟨b, 4, none⟩ = some (.int .i64 k)
def jK (w : World) (b : Nat) : Prop := w.frozen? ⟨b, 0, none⟩ = false ∧ w.frozen? ⟨b, 1, none⟩ = false ∧ w.frozen? ⟨b, 2, none⟩ = false ∧ w.frozen? ⟨b, 3, none⟩ = false ∧ w.frozen? ⟨b, 4, none⟩ = false
theorem bX.lt {w : World} {b : Nat} {p q r s k : Int} (h : bX w b p q r s k) : b < w.heap.size := World.block_lt_of_cell? w _ h.1
theorem bX.kept {w w' : World} {b : Nat} {p q r s k : Int} (h : bX w b p q r s k) (hB : Below w.heap.size w w') : bX w' b p q r s k := by
 have hb := h.lt
 obtain ⟨h0, h1, h2, h3, h4⟩ := h
 exact ⟨by rw [hB.cell (p := ⟨b, 0, none⟩) hb]; exact h0, by rw [hB.cell (p := ⟨b, 1, none⟩) hb]; exact h1, by rw [hB.cell (p := ⟨b, 2, none⟩) hb]; exact h2, by rw [hB.cell (p := ⟨b, 3, none⟩) hb]; exact h3, by rw [hB.cell (p := ⟨b, 4, none⟩) hb]; exact h4⟩
theorem jK.kept {w w' : World} {b : Nat} (h : jK w b) (hb : b < w.heap.size) (hB : Below w.heap.size w w') : jK w' b := by
 obtain ⟨h0, h1, h2, h3, h4⟩ := h
 exact ⟨by rw [hB.frozen (p := ⟨b, 0, none⟩) hb]; exact h0, by rw [hB.frozen (p := ⟨b, 1, none⟩) hb]; exact h1, by rw [hB.frozen (p := ⟨b, 2, none⟩) hb]; exact h2, by rw [hB.frozen (p := ⟨b, 3, none⟩) hb]; exact h3, by rw [hB.frozen (p := ⟨b, 4, none⟩) hb]; exact h4⟩
theorem ea (w : World) (p q r s k : Int) (t : TypeId) : bX (w.alloc (.cells #[.int .i64 p, .int .i64 q, .int .i64 r, .int .i64 s, .int .i64 k] t)) w.heap.size p q r s k := by
 refine ⟨?_, ?_, ?_, ?_, ?_⟩ <;> simp
theorem lu (w : World) (p q r s k : Int) (t : TypeId) : jK (w.alloc (.cells #[.int .i64 p, .int .i64 q, .int .i64 r, .int .i64 s, .int .i64 k] t)) w.heap.size := by
 refine ⟨?_, ?_, ?_, ?_, ?_⟩ <;> simp
theorem bX.alloc {w : World} {b : Nat} {p q r s k : Int} (h : bX w b p q r s k) (o : Obj) : bX (w.alloc o) b p q r s k := h.kept (am _ _)
end
section
open Go.RowKit Go.Sort
theorem pH {a b c d : Int} (h : (inT 1000 a b c d && !eR a b c d) = false) : Value.agg #[.int .i64 (ofP a b c d a), .int .i64 (ofP a b c d b), .int .i64 (ofP a b c d c), .int .i64 (ofP a b c d d), .int .i64 (ofC a b c d)] = Value.agg #[.int .i64 0, .int .i64 0, .int .i64 0, .int .i64 0, .int .i64 1] := by
 unfold ofP
 rw [rE h]
 rfl
theorem pI {a b c d : Int} (h1 : inT 1000 a b c d = true) (h2 : eR a b c d = false) (h : aM (a.tdiv (sT a b c d)) (b.tdiv (sT a b c d)) (c.tdiv (sT a b c d)) (d.tdiv (sT a b c d)) = false) : Value.agg #[.int .i64 (ofP a b c d a), .int .i64 (ofP a b c d b), .int .i64 (ofP a b c d c), .int .i64 (ofP a b c d d), .int .i64 (ofC a b c d)] = Value.agg #[.int .i64 0, .int .i64 0, .int .i64 0, .int .i64 0, .int .i64 9] := by
 have e : ofC a b c d = 9 := by unfold ofC; rw [h1, h2, h]; rfl
 unfold ofP
 rw [e]
 rfl
theorem sR {a b c d : Int} (h1 : inT 1000 a b c d = true) (h2 : eR a b c d = false) (h : aM (a.tdiv (sT a b c d)) (b.tdiv (sT a b c d)) (c.tdiv (sT a b c d)) (d.tdiv (sT a b c d)) = true) : Value.agg #[.int .i64 (ofP a b c d a), .int .i64 (ofP a b c d b), .int .i64 (ofP a b c d c), .int .i64 (ofP a b c d d), .int .i64 (ofC a b c d)] = Value.agg #[.int .i64 (a.tdiv (sT a b c d)), .int .i64 (b.tdiv (sT a b c d)), .int .i64 (c.tdiv (sT a b c d)), .int .i64 (d.tdiv (sT a b c d)), .int .i64 0] := by
 have e : ofC a b c d = 0 := by unfold ofC; rw [h1, h2, h]; rfl
 unfold ofP
 rw [e]
 rfl
theorem tF {a b c d : Int} (h : inT 1000 a b c d = true) (g : Int) (hg : g = sT a b c d) : wrap64 (a.tdiv g) = a.tdiv (sT a b c d) ∧ wrap64 (b.tdiv g) = b.tdiv (sT a b c d) ∧ wrap64 (c.tdiv g) = c.tdiv (sT a b c d) ∧ wrap64 (d.tdiv g) = d.tdiv (sT a b c d) := by
 subst hg
 obtain ⟨x1, x2, x3, x4⟩ := dT.1 h
 have key : ∀ (x s : Int), -1000 ≤ x ∧ x ≤ 1000 → wrap64 (x.tdiv s) = x.tdiv s := fun x s hx => by have := pR (s := s) hx; exact au (by omega) (by omega)
 exact ⟨key _ _ x1, key _ _ x2, key _ _ x3, key _ _ x4⟩
theorem qr (a b c d : Int) (w : World) (h : inT 1000 a b c d = true) (hz : eR a b c d = false) :
  Calls Tryz.prog 109 #[.agg #[.int .i64 a, .int .i64 b, .int .i64 c, .int .i64 d]] w fun e w' => e = .returned (.agg #[.int .i64 (ofP a b c d a), .int .i64 (ofP a b c d b), .int .i64 (ofP a b c d c), .int .i64 (ofP a b c d d), .int .i64 (ofC a b c d)]) ∧ Below w.heap.size w w' := by
 have HI := yz h
 have HZ := yz hz
 have HN : Hid (sT a b c d ≠ 0) := yz (sU (jh hz))
 have HW := yz (tF h)
 have hw : wrap64 (-gT a b c d) = -gT a b c d := by have := iw h 4; rw [show gS4 a b c d 4 = gT a b c d from kd a b c d] at this; exact au (by omega) (by omega)
 clear h hz
 go_enter Tryz.func109, Tryz.ntmps109
 go_wp2_with fail
 refine (ki a b c d _ (yy HI)).mono ?_
 rintro e w1 ⟨rfl, hB1⟩
 have va : aG w1 w.heap.size a b c d := ((bc w a b c d _).alloc _).kept (by simp; omega) hB1
 have vr : bX w1 (w.heap.size + 1) 0 0 0 0 0 := (by simpa using ea (w.alloc _) 0 0 0 0 0 _ : bX _ (w.heap.size + 1) 0 0 0 0 0).kept hB1
 have fr : jK w1 (w.heap.size + 1) := (by simpa using lu (w.alloc _) 0 0 0 0 0 _ : jK _ (w.heap.size + 1)).kept (by simp) hB1
 have hB : Below w.heap.size w w1 := ak (be _ _ _) hB1
 clear hB1
 have hva := va
 obtain ⟨ca0, ca1, ca2, ca3⟩ := va
 go_wp2_with fail
 refine (eZ a b c d _).mono ?_
 rintro e w2 ⟨rfl, hB2⟩
 have hlt := vr.lt
 have va := hva.kept hva.lt hB2
 replace vr := vr.kept hB2
 replace fr := fr.kept hlt hB2
 replace hB := ak hB hB2
 clear hB2 hva ca0 ca1 ca2 ca3 hlt
 by_cases hf : fT a b c d < 0
 ·have hs : sT a b c d = -gT a b c d := by unfold sT; rw [if_pos hf]
  have HG := yz hs.symm
  rw [hs] at HN
  have va2 := va.alloc (.cells #[.int .i64 0, .int .i64 0, .int .i64 0, .int .i64 0] 37)
  obtain ⟨ca0, ca1, ca2, ca3⟩ := va
  obtain ⟨cb0, cb1, cb2, cb3⟩ := va2
  go_wp2_with fail
  rw [hw]
  generalize -gT a b c d = g at HN HG ⊢
  clear hw hs hf
  have hne : g ≠ 0 := yy HN
  have hz0 : (g == 0) = false := by simpa using hne
  go_region
  go_wp2_with fail
  obtain ⟨e1, e2, e3, e4⟩ := yy HW g (yy HG)
  rw [e1, e2, e3, e4]
  clear e1 e2 e3 e4 HW cb0 cb1 cb2 cb3 ca0 ca1 ca2 ca3
  cases hr : aM (a.tdiv (sT a b c d)) (b.tdiv (sT a b c d)) (c.tdiv (sT a b c d)) (d.tdiv (sT a b c d))
  ·have HR := yz (pI (yy HI) (yy HZ) hr)
   generalize a.tdiv (sT a b c d) = p at hr ⊢
   generalize b.tdiv (sT a b c d) = q at hr ⊢
   generalize c.tdiv (sT a b c d) = r at hr ⊢
   generalize d.tdiv (sT a b c d) = s at hr ⊢
   have hx := (am w2 (.cells #[.int .i64 p, .int .i64 q, .int .i64 r, .int .i64 s] 37)).drew
   have hlt := vr.lt
   replace vr := vr.kept hx
   replace fr := fr.kept hlt hx
   replace hB := ak hB hx
   clear hx hlt
   refine (bn p q r s _).mono ?_
   rintro e w3 ⟨rfl, hB3⟩
   rw [hr]
   have hlt := vr.lt
   replace vr := vr.kept hB3
   replace fr := fr.kept hlt hB3
   replace hB := ak hB hB3
   clear hB3 hlt
   obtain ⟨cr0, cr1, cr2, cr3, cr4⟩ := vr
   obtain ⟨fr0, fr1, fr2, fr3, fr4⟩ := fr
   go_wp2_with fail
   exact bodyPost_ret (v := .agg #[.int .i64 0, .int .i64 0, .int .i64 0, .int .i64 0, .int .i64 9]) (by simp [results, Tryz.results109, go_sem, cr0, cr1, cr2, cr3, cr4]) rfl ⟨by rw [yy HR], db hB (by omega) _ _ _ _ _⟩
  ·have HR := yz (sR (yy HI) (yy HZ) hr)
   generalize a.tdiv (sT a b c d) = p at hr HR ⊢
   generalize b.tdiv (sT a b c d) = q at hr HR ⊢
   generalize c.tdiv (sT a b c d) = r at hr HR ⊢
   generalize d.tdiv (sT a b c d) = s at hr HR ⊢
   have hx := (am w2 (.cells #[.int .i64 p, .int .i64 q, .int .i64 r, .int .i64 s] 37)).drew
   have hlt := vr.lt
   have vt1 : aG (w2.alloc (.cells #[.int .i64 p, .int .i64 q, .int .i64 r, .int .i64 s] 37)).drew w2.heap.size p q r s := bc w2 p q r s _
   replace vr := vr.kept hx
   replace fr := fr.kept hlt hx
   replace hB := ak hB hx
   clear hx hlt
   refine (bn p q r s _).mono ?_
   rintro e w3 ⟨rfl, hB3⟩
   rw [hr]
   have hlt := vr.lt
   replace vr := vr.kept hB3
   replace fr := fr.kept hlt hB3
   replace vt1 := vt1.kept vt1.lt hB3
   obtain ⟨ct0, ct1, ct2, ct3⟩ := vt1
   replace hB := ak hB hB3
   clear hB3 hlt
   obtain ⟨cr0, cr1, cr2, cr3, cr4⟩ := vr
   obtain ⟨fr0, fr1, fr2, fr3, fr4⟩ := fr
   go_wp2_with fail
   exact bodyPost_ret (v := .agg #[.int .i64 p, .int .i64 q, .int .i64 r, .int .i64 s, .int .i64 0]) (by simp [results, Tryz.results109, go_sem, cr0, cr1, cr2, cr3, cr4]) rfl ⟨by rw [yy HR], db hB (by omega) _ _ _ _ _⟩
 ·have hs : sT a b c d = gT a b c d := by unfold sT; rw [if_neg hf]
  have HG := yz hs.symm
  rw [hs] at HN
  have va2 := va.alloc (.cells #[.int .i64 0, .int .i64 0, .int .i64 0, .int .i64 0] 37)
  obtain ⟨ca0, ca1, ca2, ca3⟩ := va
  obtain ⟨cb0, cb1, cb2, cb3⟩ := va2
  go_wp2_with fail
  generalize gT a b c d = g at HN HG ⊢
  clear hw hs hf
  have hne : g ≠ 0 := yy HN
  have hz0 : (g == 0) = false := by simpa using hne
  go_region
  go_wp2_with fail
  obtain ⟨e1, e2, e3, e4⟩ := yy HW g (yy HG)
  rw [e1, e2, e3, e4]
  clear e1 e2 e3 e4 HW cb0 cb1 cb2 cb3 ca0 ca1 ca2 ca3
  cases hr : aM (a.tdiv (sT a b c d)) (b.tdiv (sT a b c d)) (c.tdiv (sT a b c d)) (d.tdiv (sT a b c d))
  ·have HR := yz (pI (yy HI) (yy HZ) hr)
   generalize a.tdiv (sT a b c d) = p at hr ⊢
   generalize b.tdiv (sT a b c d) = q at hr ⊢
   generalize c.tdiv (sT a b c d) = r at hr ⊢
   generalize d.tdiv (sT a b c d) = s at hr ⊢
   have hx := (am w2 (.cells #[.int .i64 p, .int .i64 q, .int .i64 r, .int .i64 s] 37)).drew
   have hlt := vr.lt
   replace vr := vr.kept hx
   replace fr := fr.kept hlt hx
   replace hB := ak hB hx
   clear hx hlt
   refine (bn p q r s _).mono ?_
   rintro e w3 ⟨rfl, hB3⟩
   rw [hr]
   have hlt := vr.lt
   replace vr := vr.kept hB3
   replace fr := fr.kept hlt hB3
   replace hB := ak hB hB3
   clear hB3 hlt
   obtain ⟨cr0, cr1, cr2, cr3, cr4⟩ := vr
   obtain ⟨fr0, fr1, fr2, fr3, fr4⟩ := fr
   go_wp2_with fail
   exact bodyPost_ret (v := .agg #[.int .i64 0, .int .i64 0, .int .i64 0, .int .i64 0, .int .i64 9]) (by simp [results, Tryz.results109, go_sem, cr0, cr1, cr2, cr3, cr4]) rfl ⟨by rw [yy HR], db hB (by omega) _ _ _ _ _⟩
  ·have HR := yz (sR (yy HI) (yy HZ) hr)
   generalize a.tdiv (sT a b c d) = p at hr HR ⊢
   generalize b.tdiv (sT a b c d) = q at hr HR ⊢
   generalize c.tdiv (sT a b c d) = r at hr HR ⊢
   generalize d.tdiv (sT a b c d) = s at hr HR ⊢
   have hx := (am w2 (.cells #[.int .i64 p, .int .i64 q, .int .i64 r, .int .i64 s] 37)).drew
   have hlt := vr.lt
   have vt1 : aG (w2.alloc (.cells #[.int .i64 p, .int .i64 q, .int .i64 r, .int .i64 s] 37)).drew w2.heap.size p q r s := bc w2 p q r s _
   replace vr := vr.kept hx
   replace fr := fr.kept hlt hx
   replace hB := ak hB hx
   clear hx hlt
   refine (bn p q r s _).mono ?_
   rintro e w3 ⟨rfl, hB3⟩
   rw [hr]
   have hlt := vr.lt
   replace vr := vr.kept hB3
   replace fr := fr.kept hlt hB3
   replace vt1 := vt1.kept vt1.lt hB3
   obtain ⟨ct0, ct1, ct2, ct3⟩ := vt1
   replace hB := ak hB hB3
   clear hB3 hlt
   obtain ⟨cr0, cr1, cr2, cr3, cr4⟩ := vr
   obtain ⟨fr0, fr1, fr2, fr3, fr4⟩ := fr
   go_wp2_with fail
   exact bodyPost_ret (v := .agg #[.int .i64 p, .int .i64 q, .int .i64 r, .int .i64 s, .int .i64 0]) (by simp [results, Tryz.results109, go_sem, cr0, cr1, cr2, cr3, cr4]) rfl ⟨by rw [yy HR], db hB (by omega) _ _ _ _ _⟩
theorem kD (a b c d : Int) (w : World) :
  Calls Tryz.prog 91 #[.int .i64 a, .int .i64 b, .int .i64 c, .int .i64 d] w fun e w' => e = .returned (.agg #[.int .i64 (ofP a b c d a), .int .i64 (ofP a b c d b), .int .i64 (ofP a b c d c), .int .i64 (ofP a b c d d), .int .i64 (ofC a b c d)]) ∧ Below w.heap.size w w' := by
 go_enter Tryz.func91, Tryz.ntmps91
 go_wp2_with fail
 refine (gf 1000 a b c d _ (by omega) (by omega)).mono ?_
 rintro e w1 ⟨rfl, hB1⟩
 have vr : bX w1 w.heap.size 0 0 0 0 0 := ((ea w 0 0 0 0 0 _).alloc _).kept hB1
 have fr : jK w1 w.heap.size := ((lu w 0 0 0 0 0 _).kept (by simp) (am _ _)).kept (by simp; omega) hB1
 have va : aG w1 (w.heap.size + 1) a b c d := (by simpa using bc (w.alloc _) a b c d _ : aG _ (w.heap.size + 1) a b c d).kept (by simp) hB1
 have hB : Below w.heap.size w w1 := ak (be _ _ _) hB1
 clear hB1
 cases hi : inT 1000 a b c d
 ·have HR := yz (pH (a := a) (b := b) (c := c) (d := d) (by rw [hi]; rfl))
  obtain ⟨cr0, cr1, cr2, cr3, cr4⟩ := vr
  obtain ⟨fr0, fr1, fr2, fr3, fr4⟩ := fr
  go_wp2_with fail
  exact bodyPost_ret (v := .agg #[.int .i64 0, .int .i64 0, .int .i64 0, .int .i64 0, .int .i64 1]) (by simp [results, Tryz.results91, go_sem, cr0, cr1, cr2, cr3, cr4]) rfl ⟨by rw [yy HR], db hB (by omega) _ _ _ _ _⟩
 ·have hva := va
  obtain ⟨ca0, ca1, ca2, ca3⟩ := va
  go_wp2_with fail
  refine (eZ a b c d _).mono ?_
  rintro e w2 ⟨rfl, hB2⟩
  have hlt := vr.lt
  replace vr := vr.kept hB2
  replace fr := fr.kept hlt hB2
  have va := hva.kept hva.lt hB2
  replace hB := ak hB hB2
  clear hB2 hva ca0 ca1 ca2 ca3 hlt
  by_cases hf : fT a b c d = 0
  ·have HR := yz (pH (a := a) (b := b) (c := c) (d := d) (by rw [fX.2 (jy.1 hf)]; simp))
   rw [hf]
   obtain ⟨cr0, cr1, cr2, cr3, cr4⟩ := vr
   obtain ⟨fr0, fr1, fr2, fr3, fr4⟩ := fr
   go_wp2_with fail
   exact bodyPost_ret (v := .agg #[.int .i64 0, .int .i64 0, .int .i64 0, .int .i64 0, .int .i64 1]) (by simp [results, Tryz.results91, go_sem, cr0, cr1, cr2, cr3, cr4]) rfl ⟨by rw [yy HR], db hB (by omega) _ _ _ _ _⟩
  ·have HZ : Hid (eR a b c d = false) := yz (by rw [← Bool.not_eq_true, fX]; exact fun e => hf (jy.2 e))
   have hb : (fT a b c d == 0) = false := by simpa using hf
   clear hf
   obtain ⟨ca0, ca1, ca2, ca3⟩ := va
   go_wp2_with fail
   refine (qr a b c d _ hi (yy HZ)).mono ?_
   rintro e w3 ⟨rfl, hB3⟩
   have hlt := vr.lt
   replace vr := vr.kept hB3
   replace fr := fr.kept hlt hB3
   replace hB := ak hB hB3
   clear hB3 ca0 ca1 ca2 ca3 hlt
   obtain ⟨cr0, cr1, cr2, cr3, cr4⟩ := vr
   obtain ⟨fr0, fr1, fr2, fr3, fr4⟩ := fr
   go_wp2_with fail
   exact bodyPost_ret (v := .agg #[.int .i64 (ofP a b c d a), .int .i64 (ofP a b c d b), .int .i64 (ofP a b c d c), .int .i64 (ofP a b c d d), .int .i64 (ofC a b c d)]) (by simp [results, Tryz.results91, go_sem, cr0, cr1, cr2, cr3, cr4]) rfl ⟨rfl, db hB (by omega) _ _ _ _ _⟩
end
end Go.Proofs.YthoiooefclbecaaGreatDoor
