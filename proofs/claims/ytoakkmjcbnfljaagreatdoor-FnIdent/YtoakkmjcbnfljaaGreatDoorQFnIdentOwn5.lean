/- Several texts in one: TurnA, TurnB, TurnC, TurnF, MaA, L7A, L7B, Place, PairB, PairC, PairD, PairE, PairF, PairM. -/
import Derived.Lib.QuietBelow
import Derived.Deep.QuietTactic
import Derived.BigQuiet
import Derived.BigRegion
import Derived.OwnWalk
import Derived.Laws.OwnMore
import Derived.WideShapes
import Derived.Deep.RegionHeld
import Derived.Deep.DeepCutAuto
import Derived.Test.YtoakkmjcbnfljaaGreatDoorQFnIdentOwn2
import Derived.Test.YtoakkmjcbnfljaaGreatDoorQFnIdentOwn1
import Derived.Test.YtoakkmjcbnfljaaGreatDoorQFnIdentOwn4
import Derived.Test.YtoakkmjcbnfljaaGreatDoorQFnIdentOwn3
namespace Go.Proofs.YtoakkmjcbnfljaaGreatDoor
set_option linter.unusedVariables false
set_option linter.unusedSimpArgs false
set_option maxRecDepth 100000
set_option maxHeartbeats 8000000
section
open Go.RowKit
def aP (w : World) (b : Nat) (p q r s : Int) : Prop := w.cell? ⟨b, 0, none⟩ = some (.int .i64 p) ∧ w.cell? ⟨b, 1, none⟩ = some (.int .i64 q) ∧ w.cell? ⟨b, 2, none⟩ = some (.int .i64 r) ∧ w.cell? ⟨b, 3, none⟩ = some (.int .i64 s)
def dW (w : World) (b : Nat) : Prop := w.frozen? ⟨b, 0, none⟩ = false ∧ w.frozen? ⟨b, 1, none⟩ = false ∧ w.frozen? ⟨b, 2, none⟩ = false ∧ w.frozen? ⟨b, 3, none⟩ = false
theorem aP.kept {w w' : World} {b : Nat} {p q r s : Int} (h : aP w b p q r s) (hb : b < w.heap.size) (hB : Below w.heap.size w w') : aP w' b p q r s := by
 obtain ⟨h0, h1, h2, h3⟩ := h
 exact ⟨by rw [hB.cell (p := ⟨b, 0, none⟩) hb]; exact h0, by rw [hB.cell (p := ⟨b, 1, none⟩) hb]; exact h1, by rw [hB.cell (p := ⟨b, 2, none⟩) hb]; exact h2, by rw [hB.cell (p := ⟨b, 3, none⟩) hb]; exact h3⟩
theorem dW.kept {w w' : World} {b : Nat} (h : dW w b) (hb : b < w.heap.size) (hB : Below w.heap.size w w') : dW w' b := by
 obtain ⟨h0, h1, h2, h3⟩ := h
 exact ⟨by rw [hB.frozen (p := ⟨b, 0, none⟩) hb]; exact h0, by rw [hB.frozen (p := ⟨b, 1, none⟩) hb]; exact h1, by rw [hB.frozen (p := ⟨b, 2, none⟩) hb]; exact h2, by rw [hB.frozen (p := ⟨b, 3, none⟩) hb]; exact h3⟩
theorem aT (w : World) (p q r s : Int) (t : TypeId) : aP (w.alloc (.cells #[.int .i64 p, .int .i64 q, .int .i64 r, .int .i64 s] t)) w.heap.size p q r s := by
 refine ⟨?_, ?_, ?_, ?_⟩ <;> simp
theorem mx (w : World) (p q r s : Int) (t : TypeId) : dW (w.alloc (.cells #[.int .i64 p, .int .i64 q, .int .i64 r, .int .i64 s] t)) w.heap.size := by
 refine ⟨?_, ?_, ?_, ?_⟩ <;> simp
theorem aP.lt {w : World} {b : Nat} {p q r s : Int} (h : aP w b p q r s) : b < w.heap.size := World.block_lt_of_cell? w _ h.1
theorem aP.alloc {w : World} {b : Nat} {p q r s : Int} (h : aP w b p q r s) (o : Obj) : aP (w.alloc o) b p q r s := h.kept h.lt (ak _ _)
theorem kE {w w1 : World} {b : Nat} (h : Below w.heap.size w w1) (hb : w.heap.size ≤ b) (x y z u : Value) : Below w.heap.size w ((((w1.setCell ⟨b, 0, none⟩ x).setCell ⟨b, 1, none⟩ y).setCell ⟨b, 2, none⟩ z).setCell ⟨b, 3, none⟩ u) := (((h.setCell hb _).setCell hb _).setCell hb _).setCell hb _
theorem dB {w w1 : World} {b : Nat} (h : Below w.heap.size w w1) (hb : w.heap.size ≤ b) (x y z u v : Value) : Below w.heap.size w (((((w1.setCell ⟨b, 0, none⟩ x).setCell ⟨b, 1, none⟩ y).setCell ⟨b, 2, none⟩ z).setCell ⟨b, 3, none⟩ u).setCell ⟨b, 4, none⟩ v) := ((((h.setCell hb _).setCell hb _).setCell hb _).setCell hb _).setCell hb _
theorem lM (p q r s : Int) (w : World) :
  Calls Tryz.prog 99 #[.agg #[.int .i64 p, .int .i64 q, .int .i64 r, .int .i64 s]] w fun e w' => e = .returned (.agg #[.int .i64 p, .int .i64 q, .int .i64 r, .int .i64 s]) ∧ Below w.heap.size w w' := by
 go_enter Tryz.func99, Tryz.ntmps99
 go_wp2
 exact bodyPost_ret (v := .agg #[.int .i64 p, .int .i64 q, .int .i64 r, .int .i64 s]) (by simp [results, Tryz.results99, go_sem]) rfl ⟨rfl, bj _ _ _⟩
theorem kI (a1 a2 a3 a4 b1 b2 b3 b4 : Int) (w : World) : (Op.equalIn 10000 34 (.agg #[.int .i64 a1, .int .i64 a2, .int .i64 a3, .int .i64 a4]) (.agg #[.int .i64 b1, .int .i64 b2, .int .i64 b3, .int .i64 b4])).run Tryz.prog w = .ok (eqT a1 a2 a3 a4 b1 b2 b3 b4) w := by
 have h := run_equalIn_struct (P := Tryz.prog) w 9999 34 #[.int .i64 a1, .int .i64 a2, .int .i64 a3, .int .i64 a4] #[.int .i64 b1, .int .i64 b2, .int .i64 b3, .int .i64 b4] (by kernel_rfl) (by kernel_rfl)
 refine h.trans ?_
 by_cases h1 : a1 = b1
 ·by_cases h2 : a2 = b2
  ·by_cases h3 : a3 = b3
   ·by_cases h4 : a4 = b4
    ·simp [go_sem, eqT, h1, h2, h3, h4]
    ·simp [go_sem, eqT, h1, h2, h3, h4]
   ·simp [go_sem, eqT, h1, h2, h3]
  ·simp [go_sem, eqT, h1, h2]
 ·simp [go_sem, eqT, h1]
theorem sw (a1 a2 a3 a4 b1 b2 b3 b4 : Int) (w : World) : (binOp .neq 34 (.agg #[.int .i64 a1, .int .i64 a2, .int .i64 a3, .int .i64 a4]) (.agg #[.int .i64 b1, .int .i64 b2, .int .i64 b3, .int .i64 b4])).run Tryz.prog w = .ok (.bool (!eqT a1 a2 a3 a4 b1 b2 b3 b4)) w := by
 rw [run_neq_struct, kI]; rfl
theorem rV (a1 a2 a3 a4 b1 b2 b3 b4 : Int) (w : World) : (binOp .eql 34 (.agg #[.int .i64 a1, .int .i64 a2, .int .i64 a3, .int .i64 a4]) (.agg #[.int .i64 b1, .int .i64 b2, .int .i64 b3, .int .i64 b4])).run Tryz.prog w = .ok (.bool (eqT a1 a2 a3 a4 b1 b2 b3 b4)) w := by
 rw [run_eql_struct, kI]; rfl
theorem jV (m p q r s : Int) (w : World) (hm0 : 0 ≤ m) (hm : m ≤ 1000000) :
  Calls Tryz.prog 72 #[.agg #[.int .i64 p, .int .i64 q, .int .i64 r, .int .i64 s], .int .i64 m] w fun e w' => e = .returned (.bool (inT m p q r s)) ∧ Below w.heap.size w w' := by
 have i0 : ∀ w : World, (Instr.index 129 (.agg #[.int .i64 p, .int .i64 q, .int .i64 r, .int .i64 s]) (.int .i64 0)).run Tryz.prog w = .ok (.int .i64 p) w := fun _ => by kernel_rfl
 have i1 : ∀ w : World, (Instr.index 129 (.agg #[.int .i64 p, .int .i64 q, .int .i64 r, .int .i64 s]) (.int .i64 1)).run Tryz.prog w = .ok (.int .i64 q) w := fun _ => by kernel_rfl
 have i2 : ∀ w : World, (Instr.index 129 (.agg #[.int .i64 p, .int .i64 q, .int .i64 r, .int .i64 s]) (.int .i64 2)).run Tryz.prog w = .ok (.int .i64 r) w := fun _ => by kernel_rfl
 have i3 : ∀ w : World, (Instr.index 129 (.agg #[.int .i64 p, .int .i64 q, .int .i64 r, .int .i64 s]) (.int .i64 3)).run Tryz.prog w = .ok (.int .i64 s) w := fun _ => by kernel_rfl
 have hwr : wrap64 (-m) = -m := ay (by omega) (by omega)
 go_enter Tryz.func72, Tryz.ntmps72
 go_wp2_with fail
 refine (lM p q r s _).mono ?_
 rintro e w1 ⟨rfl, hB1⟩
 have hB : Below w.heap.size w w1 := aj (ak _ _) hB1
 clear hB1
 go_wp2_with fail
 go_loop [9] (fun i => ∃ k : Nat, k ≤ 4 ∧ i = .int .i64 k ∧ Hid (0 < k → inB m p = true) ∧ Hid (1 < k → inB m q = true) ∧ Hid (2 < k → inB m r = true) ∧ Hid (3 < k → inB m s = true)) (fun i => 4 - (intOf i).toNat)
 case atStart => exact ⟨0, Nat.zero_le _, rfl, yz (by omega), yz (by omega), yz (by omega), yz (by omega)⟩
 case round =>
  obtain ⟨k, hk, rfl, hx, hy, hz, hu⟩ := hrel
  have hk5 : k = 0 ∨ k = 1 ∨ k = 2 ∨ k = 3 ∨ k = 4 := by omega
  rcases hk5 with rfl | rfl | rfl | rfl | rfl
  ·by_cases q1 : -m ≤ p
   ·by_cases q2 : p ≤ m
    ·have HI := yz (eu.2 ⟨q1, q2⟩)
     go_wp2
     go_round
     case rel => exact ⟨1, by omega, rfl, yz (fun _ => yy HI), yz (by omega), yz (by omega), yz (by omega)⟩
     case measure => simp [intOf]
    ·have HO := yz (iP (m := m) (x := p) (fun h => q2 h.2))
     go_wp2
     go_ret
     exact ⟨by simp [inT, yy HO], hB⟩
   ·have HO := yz (iP (m := m) (x := p) (fun h => q1 h.1))
    go_wp2
    go_ret
    exact ⟨by simp [inT, yy HO], hB⟩
  ·by_cases q1 : -m ≤ q
   ·by_cases q2 : q ≤ m
    ·have HI := yz (eu.2 ⟨q1, q2⟩)
     go_wp2
     go_round
     case rel => exact ⟨2, by omega, rfl, yz (fun _ => yy hx (by omega)), yz (fun _ => yy HI), yz (by omega), yz (by omega)⟩
     case measure => simp [intOf]
    ·have HO := yz (iP (m := m) (x := q) (fun h => q2 h.2))
     go_wp2
     go_ret
     exact ⟨by simp [inT, yy HO], hB⟩
   ·have HO := yz (iP (m := m) (x := q) (fun h => q1 h.1))
    go_wp2
    go_ret
    exact ⟨by simp [inT, yy HO], hB⟩
  ·by_cases q1 : -m ≤ r
   ·by_cases q2 : r ≤ m
    ·have HI := yz (eu.2 ⟨q1, q2⟩)
     go_wp2
     go_round
     case rel => exact ⟨3, by omega, rfl, yz (fun _ => yy hx (by omega)), yz (fun _ => yy hy (by omega)), yz (fun _ => yy HI), yz (by omega)⟩
     case measure => simp [intOf]
    ·have HO := yz (iP (m := m) (x := r) (fun h => q2 h.2))
     go_wp2
     go_ret
     exact ⟨by simp [inT, yy HO], hB⟩
   ·have HO := yz (iP (m := m) (x := r) (fun h => q1 h.1))
    go_wp2
    go_ret
    exact ⟨by simp [inT, yy HO], hB⟩
  ·by_cases q1 : -m ≤ s
   ·by_cases q2 : s ≤ m
    ·have HI := yz (eu.2 ⟨q1, q2⟩)
     go_wp2
     go_round
     case rel => exact ⟨4, by omega, rfl, yz (fun _ => yy hx (by omega)), yz (fun _ => yy hy (by omega)), yz (fun _ => yy hz (by omega)), yz (fun _ => yy HI)⟩
     case measure => simp [intOf]
    ·have HO := yz (iP (m := m) (x := s) (fun h => q2 h.2))
     go_wp2
     go_ret
     exact ⟨by simp [inT, yy HO], hB⟩
   ·have HO := yz (iP (m := m) (x := s) (fun h => q1 h.1))
    go_wp2
    go_ret
    exact ⟨by simp [inT, yy HO], hB⟩
  ·go_wp2
   go_ret
   exact ⟨by simp [inT, yy hx (by omega), yy hy (by omega), yy hz (by omega), yy hu (by omega)], hB⟩
theorem ii (m a b c d : Int) (w : World) (hm0 : 0 ≤ m) (hm : m ≤ 1000000) :
  Calls Tryz.prog 57 #[.agg #[.int .i64 a, .int .i64 b, .int .i64 c, .int .i64 d], .int .i64 m] w fun e w' => e = .returned (.bool (inT m a b c d)) ∧ Below w.heap.size w w' := by
 have hwr : wrap64 (-m) = -m := ay (by omega) (by omega)
 go_enter Tryz.func57, Tryz.ntmps57
 go_wp2_with fail
 refine (cB a (-m) m _).mono ?_
 rintro e w1 ⟨rfl, rfl⟩
 rw [isB]
 cases ha : inB m a
 ·go_wp2_with fail
  go_ret
  exact ⟨by simp [inT, ha], ak _ _⟩
 ·go_wp2_with fail
  refine (cB b (-m) m _).mono ?_
  rintro e w1 ⟨rfl, rfl⟩
  rw [isB]
  cases hb : inB m b
  ·go_wp2_with fail
   go_ret
   exact ⟨by simp [inT, hb], ak _ _⟩
  ·go_wp2_with fail
   refine (cB c (-m) m _).mono ?_
   rintro e w1 ⟨rfl, rfl⟩
   rw [isB]
   cases hc : inB m c
   ·go_wp2_with fail
    go_ret
    exact ⟨by simp [inT, hc], ak _ _⟩
   ·go_wp2_with fail
    refine (cB d (-m) m _).mono ?_
    rintro e w1 ⟨rfl, rfl⟩
    rw [isB]
    go_wp2_with fail
    go_ret
    exact ⟨by simp [inT, ha, hb, hc], ak _ _⟩
theorem fT_0 {a b c d : Int} (h : a ≠ 0) : fT a b c d = a := by unfold fT; rw [if_pos h]
theorem fT_1 {b c d : Int} (h : b ≠ 0) : fT 0 b c d = b := by unfold fT; rw [if_neg (by simp), if_pos h]
theorem fT_2 {c d : Int} (h : c ≠ 0) : fT 0 0 c d = c := by unfold fT; rw [if_neg (by simp), if_neg (by simp), if_pos h]
theorem fT_3 {d : Int} : fT 0 0 0 d = d := by unfold fT; rw [if_neg (by simp), if_neg (by simp), if_neg (by simp)]
theorem fH (a b c d : Int) (w : World) :
  Calls Tryz.prog 58 #[.agg #[.int .i64 a, .int .i64 b, .int .i64 c, .int .i64 d]] w fun e w' => e = .returned (.int .i64 (fT a b c d)) ∧ Below w.heap.size w w' := by
 go_enter Tryz.func58, Tryz.ntmps58
 go_wp2_with fail
 go_loop [4] (fun i => ∃ k : Nat, k ≤ 4 ∧ i = .int .i64 k ∧ Hid (0 < k → a = 0) ∧ Hid (1 < k → b = 0) ∧ Hid (2 < k → c = 0) ∧ Hid (3 < k → d = 0)) (fun i => 4 - (intOf i).toNat)
 case atStart => exact ⟨0, Nat.zero_le _, rfl, yz (by omega), yz (by omega), yz (by omega), yz (by omega)⟩
 case round =>
  obtain ⟨k, hk, rfl, hx, hy, hz, hu⟩ := hrel
  have hk5 : k = 0 ∨ k = 1 ∨ k = 2 ∨ k = 3 ∨ k = 4 := by omega
  rcases hk5 with rfl | rfl | rfl | rfl | rfl
  ·have _u := hk
   by_cases h : a = 0
   ·subst h
    clear hx hy hz hu
    go_wp2
    go_round
    case rel => exact ⟨1, by omega, rfl, yz (by simp), yz (by omega), yz (by omega), yz (by omega)⟩
    case measure => simp [intOf]
   ·have HF : Hid (fT a b c d = a) := yz (fT_0 h)
    clear hx hy hz hu
    go_wp2
    go_ret
    exact ⟨by rw [yy HF]; rfl, bj _ _ _⟩
  ·have e0 := yy hx (by omega)
   subst e0
   by_cases h : b = 0
   ·subst h
    clear hx hy hz hu
    go_wp2
    go_round
    case rel => exact ⟨2, by omega, rfl, yz (by simp), yz (by simp), yz (by omega), yz (by omega)⟩
    case measure => simp [intOf]
   ·have HF : Hid (fT 0 b c d = b) := yz (fT_1 h)
    clear hx hy hz hu
    go_wp2
    go_ret
    exact ⟨by rw [yy HF]; rfl, bj _ _ _⟩
  ·have e0 := yy hx (by omega)
   have e1 := yy hy (by omega)
   subst e0 e1
   by_cases h : c = 0
   ·subst h
    clear hx hy hz hu
    go_wp2
    go_round
    case rel => exact ⟨3, by omega, rfl, yz (by simp), yz (by simp), yz (by simp), yz (by omega)⟩
    case measure => simp [intOf]
   ·have HF : Hid (fT 0 0 c d = c) := yz (fT_2 h)
    clear hx hy hz hu
    go_wp2
    go_ret
    exact ⟨by rw [yy HF]; rfl, bj _ _ _⟩
  ·have e0 := yy hx (by omega)
   have e1 := yy hy (by omega)
   have e2 := yy hz (by omega)
   subst e0 e1 e2
   by_cases h : d = 0
   ·subst h
    clear hx hy hz hu
    go_wp2
    go_round
    case rel => exact ⟨4, by omega, rfl, yz (by simp), yz (by simp), yz (by simp), yz (by simp)⟩
    case measure => simp [intOf]
   ·have HF : Hid (fT 0 0 0 d = d) := yz fT_3
    clear hx hy hz hu
    go_wp2
    go_ret
    exact ⟨by rw [yy HF]; rfl, bj _ _ _⟩
  ·have e0 := yy hx (by omega)
   have e1 := yy hy (by omega)
   have e2 := yy hz (by omega)
   have e3 := yy hu (by omega)
   subst e0 e1 e2 e3
   clear hx hy hz hu
   go_wp2
   go_ret
   exact ⟨by rw [fT_3]; rfl, bj _ _ _⟩
theorem la (a b c d : Int) (w : World) (h : inT 1000 a b c d = true) :
  Calls Tryz.prog 59 #[.agg #[.int .i64 a, .int .i64 b, .int .i64 c, .int .i64 d]] w fun e w' => e = .returned (.int .i64 (gT a b c d)) ∧ Below w.heap.size w w' := by
 obtain ⟨ha, hb, hc, hd⟩ := ew.1 h
 have hg1 := it ha hb
 have hg2 := it hc hd
 go_enter Tryz.func59, Tryz.ntmps59
 go_wp2_with fail
 go_quiet (first | (go_at_call_of 86 (Value.int IntKind.i64 a); refine Calls.quiet_of (eR a b _ (by omega) (by omega))) | (go_at_call_of 86 (Value.int IntKind.i64 c); refine Calls.quiet_of (eR c d _ (by omega) (by omega))) | (go_at_call 86; refine Calls.quiet_of (eR _ _ _ ?_ ?_) <;> omega))
 go_wp2
 go_ret
 exact ⟨rfl, aj (ak _ _) (bL _ _)⟩
theorem bn (a b c d : Int) (w : World) :
  Calls Tryz.prog 23 #[.agg #[.int .i64 a, .int .i64 b, .int .i64 c, .int .i64 d]] w fun e w' => e = .returned (.bool (aC a b c d)) ∧ Below w.heap.size w w' := by
 go_enter Tryz.func23, Tryz.ntmps23
 go_wp2_with fail
 refine (ii 5 a b c d _ (by omega) (by omega)).mono ?_
 rintro e w1 ⟨rfl, hB1⟩
 have va : aP w1 w.heap.size a b c d := (aT w a b c d _).kept (by simp) hB1
 have hB : Below w.heap.size w w1 := aj (ak _ _) hB1
 clear hB1
 have hva := va
 obtain ⟨c0, c1, c2, c3⟩ := va
 cases h5 : inT 5 a b c d
 ·go_wp2_with fail
  go_ret
  exact ⟨by simp [aC, h5], hB⟩
 ·go_wp2_with fail
  refine (fH a b c d _).mono ?_
  rintro e w2 ⟨rfl, hB2⟩
  have va := hva.kept hva.lt hB2
  replace hB := aj hB hB2
  clear hB2 hva c0 c1 c2 c3
  have hva := va
  obtain ⟨c0, c1, c2, c3⟩ := va
  by_cases hf : 0 < fT a b c d
  ·go_wp2_with fail
   refine (la a b c d _ (oG h5 (by omega))).mono ?_
   rintro e w3 ⟨rfl, hB3⟩
   replace hB := aj hB hB3
   go_wp2_with fail
   go_ret
   exact ⟨by rw [aC, h5, decide_eq_true hf]; rfl, hB⟩
  ·have HN := yz (decide_eq_false hf)
   go_wp2_with fail
   go_ret
   exact ⟨by rw [aC, h5, yy HN]; rfl, hB⟩
end
section
open Go.RowKit Go.Sort
def ptT (a b c d : Int) : Nat → Int
 | 0 => a
 | 1 => b
 | 2 => c
 | _ => d
def gS4 (a b c d : Int) : Nat → Int
 | 0 => 0
 | k + 1 => ((Int.gcd (gS4 a b c d k) (ptT a b c d k) : Nat) : Int)
def fS4 (a b c d : Int) : Nat → Int
 | 0 => 0
 | k + 1 => if fS4 a b c d k = 0 then ptT a b c d k else fS4 a b c d k
theorem lm {m a b c d : Int} (h : inT m a b c d = true) (k : Nat) : -m ≤ ptT a b c d k ∧ ptT a b c d k ≤ m := by
 obtain ⟨h1, h2, h3, h4⟩ := ew.1 h
 match k with
 | 0 => exact h1
 | 1 => exact h2
 | 2 => exact h3
 | _ + 3 => exact h4
theorem jn {a b c d : Int} (h : inT 1000 a b c d = true) (k : Nat) : -1000000 ≤ gS4 a b c d k ∧ gS4 a b c d k ≤ 1000000 := by
 have : 0 ≤ gS4 a b c d k ∧ gS4 a b c d k ≤ 1000 := by
  induction k with
  | zero => exact ⟨by show (0 : Int) ≤ 0; omega, by show (0 : Int) ≤ 1000; omega⟩
  | succ k ih => exact it (m := 1000) (by omega) (lm h k)
 omega
theorem th (a b c d : Int) : fS4 a b c d 4 = fT a b c d := by
 unfold fT
 by_cases h1 : a = 0
 ·by_cases h2 : b = 0
  ·by_cases h3 : c = 0
   ·simp [fS4, ptT, h1, h2, h3]
   ·simp [fS4, ptT, h1, h2, h3]
  ·simp [fS4, ptT, h1, h2]
 ·simp [fS4, ptT, h1]
theorem qq {a b c d : Int} {k : Nat} (h : fS4 a b c d k = 0) : fS4 a b c d (k + 1) = ptT a b c d k := by
 show (if fS4 a b c d k = 0 then ptT a b c d k else fS4 a b c d k) = _
 rw [if_pos h]
theorem qp {a b c d : Int} {k : Nat} (h : fS4 a b c d k ≠ 0) : fS4 a b c d (k + 1) = fS4 a b c d k := by
 show (if fS4 a b c d k = 0 then ptT a b c d k else fS4 a b c d k) = _
 rw [if_neg h]
theorem oW (a b c d : Int) (w : World) (h : inT 1000 a b c d = true) (hz : ¬ (a = 0 ∧ b = 0 ∧ c = 0 ∧ d = 0)) :
  Calls Tryz.prog 73 #[.agg #[.int .i64 a, .int .i64 b, .int .i64 c, .int .i64 d]] w fun e w' => e = .returned (.agg #[.int .i64 (a.tdiv (sT a b c d)), .int .i64 (b.tdiv (sT a b c d)), .int .i64 (c.tdiv (sT a b c d)), .int .i64 (d.tdiv (sT a b c d))]) ∧ Below w.heap.size w w' := by
 have i0 : ∀ w : World, (Instr.index 129 (.agg #[.int .i64 a, .int .i64 b, .int .i64 c, .int .i64 d]) (.int .i64 0)).run Tryz.prog w = .ok (.int .i64 a) w := fun _ => by kernel_rfl
 have i1 : ∀ w : World, (Instr.index 129 (.agg #[.int .i64 a, .int .i64 b, .int .i64 c, .int .i64 d]) (.int .i64 1)).run Tryz.prog w = .ok (.int .i64 b) w := fun _ => by kernel_rfl
 have i2 : ∀ w : World, (Instr.index 129 (.agg #[.int .i64 a, .int .i64 b, .int .i64 c, .int .i64 d]) (.int .i64 2)).run Tryz.prog w = .ok (.int .i64 c) w := fun _ => by kernel_rfl
 have i3 : ∀ w : World, (Instr.index 129 (.agg #[.int .i64 a, .int .i64 b, .int .i64 c, .int .i64 d]) (.int .i64 3)).run Tryz.prog w = .ok (.int .i64 d) w := fun _ => by kernel_rfl
 have HI := yz h
 have HZ := yz hz
 have HW : Hid (∀ (x s : Int), -1000 ≤ x ∧ x ≤ 1000 → wrap64 (x.tdiv s) = x.tdiv s) := yz (fun x s hx => by have := nY (s := s) hx; exact ay (by omega) (by omega))
 clear h hz
 go_enter Tryz.func73, Tryz.ntmps73
 go_wp2_with fail
 refine (lM a b c d _).mono ?_
 rintro e w1 ⟨rfl, hB1⟩
 have va : aP w1 w.heap.size a b c d := ((aT w a b c d _).alloc _).kept (by simp; omega) hB1
 have vr : aP w1 (w.heap.size + 1) 0 0 0 0 := (by simpa using aT (w.alloc _) 0 0 0 0 _ : aP _ (w.heap.size + 1) 0 0 0 0).kept (by simp) hB1
 have fr : dW w1 (w.heap.size + 1) := (by simpa using mx (w.alloc _) 0 0 0 0 _ : dW _ (w.heap.size + 1)).kept (by simp) hB1
 have hB : Below w.heap.size w w1 := aj (bj _ _ _) hB1
 clear hB1
 have Va := yz va
 have Vr := yz vr
 have Fr := yz fr
 have HB := yz hB
 clear va vr fr hB
 go_wp2_with fail
 go_loopw [3, 4, 9] (fun u f i wr => ∃ (k n : Nat), k ≤ 4 ∧ i = .int .i64 k ∧ u = .int .i64 (gS4 a b c d k) ∧ f = .int .i64 (fS4 a b c d k) ∧ wr = w1.drewN n) (fun _ _ i _ => 4 - (intOf i).toNat)
 case atStart => exact ⟨0, 0, by omega, rfl, rfl, rfl, rfl⟩
 case round =>
  obtain ⟨k, n, hk, rfl, rfl, rfl, rfl⟩ := hrel
  have hk5 : k = 0 ∨ k = 1 ∨ k = 2 ∨ k = 3 ∨ k = 4 := by omega
  rcases hk5 with rfl | rfl | rfl | rfl | rfl
  ·go_wp2_with fail
   refine (dE _ a _ (jn (yy HI) 0) (by have := lm (yy HI) 0; simp only [ptT] at this; omega)).mono ?_
   rintro e w3 ⟨rfl, m, rfl⟩
   have hg : ((Int.gcd (gS4 a b c d 0) a : Nat) : Int) = gS4 a b c d 1 := rfl
   rw [hg]
   clear hg
   by_cases hf : fS4 a b c d 0 = 0
   ·have HF := yz (qq hf)
    rw [hf]
    clear hf
    go_wp2_with fail
    go_roundw
    case rel => exact ⟨1, n + m, by omega, rfl, rfl, by rw [yy HF]; rfl, by simp⟩
    case measure => simp [intOf]
   ·have HF := yz (qp hf)
    have hb : (fS4 a b c d 0 == 0) = false := by simpa using hf
    clear hf
    go_wp2_with fail
    go_roundw
    case rel => exact ⟨1, n + m, by omega, rfl, rfl, by rw [yy HF], by simp⟩
    case measure => simp [intOf]
  ·go_wp2_with fail
   refine (dE _ b _ (jn (yy HI) 1) (by have := lm (yy HI) 1; simp only [ptT] at this; omega)).mono ?_
   rintro e w3 ⟨rfl, m, rfl⟩
   have hg : ((Int.gcd (gS4 a b c d 1) b : Nat) : Int) = gS4 a b c d 2 := rfl
   rw [hg]
   clear hg
   by_cases hf : fS4 a b c d 1 = 0
   ·have HF := yz (qq hf)
    rw [hf]
    clear hf
    go_wp2_with fail
    go_roundw
    case rel => exact ⟨2, n + m, by omega, rfl, rfl, by rw [yy HF]; rfl, by simp⟩
    case measure => simp [intOf]
   ·have HF := yz (qp hf)
    have hb : (fS4 a b c d 1 == 0) = false := by simpa using hf
    clear hf
    go_wp2_with fail
    go_roundw
    case rel => exact ⟨2, n + m, by omega, rfl, rfl, by rw [yy HF], by simp⟩
    case measure => simp [intOf]
  ·go_wp2_with fail
   refine (dE _ c _ (jn (yy HI) 2) (by have := lm (yy HI) 2; simp only [ptT] at this; omega)).mono ?_
   rintro e w3 ⟨rfl, m, rfl⟩
   have hg : ((Int.gcd (gS4 a b c d 2) c : Nat) : Int) = gS4 a b c d 3 := rfl
   rw [hg]
   clear hg
   by_cases hf : fS4 a b c d 2 = 0
   ·have HF := yz (qq hf)
    rw [hf]
    clear hf
    go_wp2_with fail
    go_roundw
    case rel => exact ⟨3, n + m, by omega, rfl, rfl, by rw [yy HF]; rfl, by simp⟩
    case measure => simp [intOf]
   ·have HF := yz (qp hf)
    have hb : (fS4 a b c d 2 == 0) = false := by simpa using hf
    clear hf
    go_wp2_with fail
    go_roundw
    case rel => exact ⟨3, n + m, by omega, rfl, rfl, by rw [yy HF], by simp⟩
    case measure => simp [intOf]
  ·go_wp2_with fail
   refine (dE _ d _ (jn (yy HI) 3) (by have := lm (yy HI) 3; simp only [ptT] at this; omega)).mono ?_
   rintro e w3 ⟨rfl, m, rfl⟩
   have hg : ((Int.gcd (gS4 a b c d 3) d : Nat) : Int) = gS4 a b c d 4 := rfl
   rw [hg]
   clear hg
   by_cases hf : fS4 a b c d 3 = 0
   ·have HF := yz (qq hf)
    rw [hf]
    clear hf
    go_wp2_with fail
    go_roundw
    case rel => exact ⟨4, n + m, by omega, rfl, rfl, by rw [yy HF]; rfl, by simp⟩
    case measure => simp [intOf]
   ·have HF := yz (qp hf)
    have hb : (fS4 a b c d 3 == 0) = false := by simpa using hf
    clear hf
    go_wp2_with fail
    go_roundw
    case rel => exact ⟨4, n + m, by omega, rfl, rfl, by rw [yy HF], by simp⟩
    case measure => simp [intOf]
  ·have hg : gS4 a b c d 4 = gT a b c d := kU a b c d
   rw [hg, th]
   clear hg i0 i1 i2 i3
   have hw : wrap64 (-gT a b c d) = -gT a b c d := by have := jn (yy HI) 4; rw [show gS4 a b c d 4 = gT a b c d from kU a b c d] at this; exact ay (by omega) (by omega)
   have HE : Hid (∀ g, g = sT a b c d → Value.agg #[.int .i64 (wrap64 (a.tdiv g)), .int .i64 (wrap64 (b.tdiv g)), .int .i64 (wrap64 (c.tdiv g)), .int .i64 (wrap64 (d.tdiv g))] = .agg #[.int .i64 (a.tdiv (sT a b c d)), .int .i64 (b.tdiv (sT a b c d)), .int .i64 (c.tdiv (sT a b c d)), .int .i64 (d.tdiv (sT a b c d))]) := yz (by
    rintro g rfl
    obtain ⟨x1, x2, x3, x4⟩ := ew.1 (yy HI)
    rw [yy HW _ _ x1, yy HW _ _ x2, yy HW _ _ x3, yy HW _ _ x4])
   have HN : Hid (sT a b c d ≠ 0) := yz (tR (yy HZ))
   have va : aP (w1.drewN n) w.heap.size a b c d := yy Va
   have vr : aP (w1.drewN n) (w.heap.size + 1) 0 0 0 0 := yy Vr
   have fr : dW (w1.drewN n) (w.heap.size + 1) := yy Fr
   have hB : Below w.heap.size w (w1.drewN n) := aj (yy HB) (bL _ _)
   clear Va Vr Fr HB HW HI HZ
   by_cases hf : fT a b c d < 0
   ·have hs : sT a b c d = -gT a b c d := by unfold sT; rw [if_pos hf]
    have HG := yz hs.symm
    rw [hs] at HN
    go_wp2_with fail
    rw [hw]
    generalize -gT a b c d = g at HN HG ⊢
    clear hw hs hf
    have hne : g ≠ 0 := yy HN
    have hz0 : (g == 0) = false := by simpa using hne
    generalize w1.drewN n = w3 at va vr fr hB ⊢
    obtain ⟨ca0, ca1, ca2, ca3⟩ := va
    obtain ⟨cr0, cr1, cr2, cr3⟩ := vr
    obtain ⟨fr0, fr1, fr2, fr3⟩ := fr
    go_region
    go_wp2
    exact bodyPost_ret (v := _) (by simp [results, Tryz.results73, go_sem, cr0, cr1, cr2, cr3]) rfl ⟨congrArg _ (yy HE g (yy HG)), (kE hB (by omega) _ _ _ _).drew⟩
   ·have hs : sT a b c d = gT a b c d := by unfold sT; rw [if_neg hf]
    have HG := yz hs.symm
    rw [hs] at HN
    go_wp2_with fail
    generalize gT a b c d = g at HN HG ⊢
    clear hw hs hf
    have hne : g ≠ 0 := yy HN
    have hz0 : (g == 0) = false := by simpa using hne
    generalize w1.drewN n = w3 at va vr fr hB ⊢
    obtain ⟨ca0, ca1, ca2, ca3⟩ := va
    obtain ⟨cr0, cr1, cr2, cr3⟩ := vr
    obtain ⟨fr0, fr1, fr2, fr3⟩ := fr
    go_region
    go_wp2
    exact bodyPost_ret (v := _) (by simp [results, Tryz.results73, go_sem, cr0, cr1, cr2, cr3]) rfl ⟨congrArg _ (yy HE g (yy HG)), (kE hB (by omega) _ _ _ _).drew⟩
theorem jX {a b c d : Int} (h : fy a b c d = false) : ¬ (a = 0 ∧ b = 0 ∧ c = 0 ∧ d = 0) := fun e => by rw [gU.2 e] at h; exact absurd h (by decide)
theorem oY {a b c d : Int} (h : fy a b c d = true) : aC a b c d = false := by
 cases hr : aC a b c d
 ·rfl
 ·exact absurd (gU.1 h) (dK hr)
theorem fh (a b c d : Int) (w : World) :
  Calls Tryz.prog 37 #[.agg #[.int .i64 a, .int .i64 b, .int .i64 c, .int .i64 d]] w fun e w' => e = .returned (.bool (aC a b c d)) ∧ Below w.heap.size w w' := by
 have hn := fun w => sw a b c d 0 0 0 0 w
 have va0 := aT w a b c d 34
 have hB0 := ak w (.cells #[.int .i64 a, .int .i64 b, .int .i64 c, .int .i64 d] 34)
 cases hz : eqT a b c d 0 0 0 0
 ·rw [hz] at hn
  have HZ := yz (jX (show fy a b c d = false from hz))
  cases h5 : inT 5 a b c d
  ·have HR : Hid (aC a b c d = false) := yz (by rw [aC, h5]; rfl)
   have cW := yz (fun W => (jV 5 a b c d W (by omega) (by omega)).mono (fun e w' h => (⟨by rw [h.1, h5], h.2⟩ : e = .returned (.bool false) ∧ Below W.heap.size W w')))
   clear h5 hz
   go_enter Tryz.func37, Tryz.ntmps37
   go_wp2_with fail
   generalize w.alloc (.cells #[.int .i64 a, .int .i64 b, .int .i64 c, .int .i64 d] 34) = w1 at va0 hB0 ⊢
   obtain ⟨c0, c1, c2, c3⟩ := va0
   have k0 := cell_regrown c0
   have k1 := cell_regrown c1
   have k2 := cell_regrown c2
   have k3 := cell_regrown c3
   refine wp_region_quiet_below (by kernel_rfl) (by kernel_rfl) ?_
   repeat (quiet_step (exact Calls.regrown_of (yy cW _)))
   refine wpQuiet_nil ?_
   intro _ hw'
   obtain ⟨⟨dq, osq⟩, hw''⟩ := hw'
   subst hw''
   clear c0 c1 c2 c3 k0 k1 k2 k3 hn
   go_wp2
   go_ret
   exact ⟨by rw [yy HR]; rfl, aj hB0 (below_regrown w1 dq osq)⟩
  ·have HR := yz (lV (yy HZ))
   have HT : Hid (aC a b c d = (decide (0 < fT a b c d) && decide (gT a b c d = 1))) := yz (by rw [aC, h5, Bool.true_and])
   have cW := yz (fun W => (jV 5 a b c d W (by omega) (by omega)).mono (fun e w' h => (⟨by rw [h.1, h5], h.2⟩ : e = .returned (.bool true) ∧ Below W.heap.size W w')))
   have cR := yz (fun W => oW a b c d W (oG h5 (by omega)) (yy HZ))
   have he := fun w => rV a b c d (a.tdiv (sT a b c d)) (b.tdiv (sT a b c d)) (c.tdiv (sT a b c d)) (d.tdiv (sT a b c d)) w
   rw [yy HR] at he
   clear h5 hz HZ HR
   go_enter Tryz.func37, Tryz.ntmps37
   go_wp2_with fail
   generalize w.alloc (.cells #[.int .i64 a, .int .i64 b, .int .i64 c, .int .i64 d] 34) = w1 at va0 hB0 ⊢
   obtain ⟨c0, c1, c2, c3⟩ := va0
   have k0 := cell_regrown c0
   have k1 := cell_regrown c1
   have k2 := cell_regrown c2
   have k3 := cell_regrown c3
   refine wp_region_quiet_below (by kernel_rfl) (by kernel_rfl) ?_
   repeat (quiet_step (first | (with_reducible exact Calls.regrown_of (yy cW _)) | (with_reducible exact Calls.regrown_of (yy cR _))))
   refine wpQuiet_nil ?_
   intro _ hw'
   obtain ⟨⟨dq, osq⟩, hw''⟩ := hw'
   subst hw''
   clear c0 c1 c2 c3 k0 k1 k2 k3 hn he
   go_wp2
   go_ret
   exact ⟨by rw [yy HT]; rfl, aj hB0 (below_regrown w1 dq osq)⟩
 ·rw [hz] at hn
  have HR := yz (oY (show fy a b c d = true from hz))
  clear hz
  go_enter Tryz.func37, Tryz.ntmps37
  go_wp2_with fail
  generalize w.alloc (.cells #[.int .i64 a, .int .i64 b, .int .i64 c, .int .i64 d] 34) = w1 at va0 hB0 ⊢
  obtain ⟨c0, c1, c2, c3⟩ := va0
  have k0 := cell_regrown c0
  have k1 := cell_regrown c1
  have k2 := cell_regrown c2
  have k3 := cell_regrown c3
  refine wp_region_quiet_below (by kernel_rfl) (by kernel_rfl) ?_
  repeat (quiet_step (fail))
  refine wpQuiet_nil ?_
  intro _ hw'
  obtain ⟨⟨dq, osq⟩, hw''⟩ := hw'
  subst hw''
  clear c0 c1 c2 c3 k0 k1 k2 k3 hn
  go_wp2
  go_ret
  exact ⟨by rw [yy HR]; rfl, aj hB0 (below_regrown w1 dq osq)⟩
theorem iH {a b c d x y z : Int} (h : apR a b c d x y z = false) : Value.agg #[.int .i64 (apI (apR a b c d x y z) (apX a b c d x y z)), .int .i64 (apI (apR a b c d x y z) (apY a b c d x y z)), .int .i64 (apI (apR a b c d x y z) (apZ a b c d x y z))] = Value.agg #[.int .i64 0, .int .i64 0, .int .i64 0] := by
 rw [h]; rfl
theorem qi {a b c d x y z : Int} (h : apR a b c d x y z = true) : Value.agg #[.int .i64 (apI (apR a b c d x y z) (apX a b c d x y z)), .int .i64 (apI (apR a b c d x y z) (apY a b c d x y z)), .int .i64 (apI (apR a b c d x y z) (apZ a b c d x y z))] = Value.agg #[.int .i64 (apX a b c d x y z), .int .i64 (apY a b c d x y z), .int .i64 (apZ a b c d x y z)] := by
 rw [h]; rfl
theorem kw {x y z : Int} (h : bz x y z = true) : aF 1800 x y z = true := by unfold bz at h; rw [Bool.and_eq_true] at h; exact h.2
theorem fG (a b c d x y z : Int) (w : World) (ht : inT 5 a b c d = true) (hv : aF 1800 x y z = true) :
  Calls Tryz.prog 76 #[.agg #[.int .i64 a, .int .i64 b, .int .i64 c, .int .i64 d], .agg #[.int .i64 x, .int .i64 y, .int .i64 z]] w fun e w' => e = .returned (.agg #[.int .i64 (apX a b c d x y z), .int .i64 (apY a b c d x y z), .int .i64 (apZ a b c d x y z)]) ∧ Below w.heap.size w w' := by
 have HX := yz (tJ ht hv)
 have HY := yz (tK ht hv)
 have HZ := yz (tL ht hv)
 clear ht hv
 go_enter Tryz.func76, Tryz.ntmps76
 go_wp2
 rw [yy HX, yy HY, yy HZ]
 exact bodyPost_ret (v := .agg #[.int .i64 (apX a b c d x y z), .int .i64 (apY a b c d x y z), .int .i64 (apZ a b c d x y z)]) (by simp [results, Tryz.results76, go_sem]) rfl ⟨rfl, fW _ _ _ _⟩
theorem qO (a b c d x y z : Int) (w : World) :
  Calls Tryz.prog 39 #[.agg #[.int .i64 a, .int .i64 b, .int .i64 c, .int .i64 d], .agg #[.int .i64 x, .int .i64 y, .int .i64 z]] w fun e w' => e = .returned (.agg #[.int .i64 (apI (apR a b c d x y z) (apX a b c d x y z)), .int .i64 (apI (apR a b c d x y z) (apY a b c d x y z)), .int .i64 (apI (apR a b c d x y z) (apZ a b c d x y z))]) ∧ Below w.heap.size w w' := by
 go_enter Tryz.func39, Tryz.ntmps39
 go_wp2_with fail
 refine (fh a b c d _).mono ?_
 rintro e w1 ⟨rfl, hx⟩
 have va : aP w1 w.heap.size a b c d := (((aT w a b c d _).alloc _).alloc _).kept (by simp; omega) hx
 have vv : aB w1 (w.heap.size + 1) x y z := ((by simpa using aA (w.alloc _) x y z _ : aB _ (w.heap.size + 1) x y z).alloc (by simp) _).kept (by simp) hx
 have vr : aB w1 (w.heap.size + 1 + 1) 0 0 0 := (by simpa using aA ((w.alloc _).alloc _) 0 0 0 _ : aB _ (w.heap.size + 1 + 1) 0 0 0).kept (by simp) hx
 have fr : bO w1 (w.heap.size + 1 + 1) := (by simpa using bk ((w.alloc _).alloc _) 0 0 0 _ : bO _ (w.heap.size + 1 + 1)).kept (by simp) hx
 have hs : w.heap.size + 2 < w1.heap.size := by have := hx.size; simp at this; omega
 have hB : Below w.heap.size w w1 := aj (fW _ _ _ _) hx
 clear hx
 cases h1 : aC a b c d
 ·have HR := yz (iH (a := a) (b := b) (c := c) (d := d) (x := x) (y := y) (z := z) (by rw [apR, h1]; rfl))
  obtain ⟨cr0, cr1, cr2⟩ := vr
  obtain ⟨fr0, fr1, fr2⟩ := fr
  go_wp2_with fail
  exact bodyPost_ret (v := .agg #[.int .i64 0, .int .i64 0, .int .i64 0]) (by simp [results, Tryz.results39, go_sem, cr0, cr1, cr2]) rfl ⟨by rw [yy HR], aQ hB (by omega) _ _ _⟩
 ·have wa := va
  have wv := vv
  obtain ⟨ca0, ca1, ca2, ca3⟩ := wa
  obtain ⟨cv0, cv1, cv2⟩ := wv
  go_wp2_with fail
  clear ca0 ca1 ca2 ca3 cv0 cv1 cv2
  refine (fF x y z _).mono ?_
  rintro e w2 ⟨rfl, hx⟩
  replace va := va.kept (by omega) hx
  replace vv := vv.kept (by omega) hx
  replace vr := vr.kept (by omega) hx
  replace fr := fr.kept (by omega) hx
  replace hB := aj hB hx
  replace hs : w.heap.size + 2 < w2.heap.size := by have := hx.size; omega
  clear hx
  cases h2 : bz x y z
  ·have HR := yz (iH (a := a) (b := b) (c := c) (d := d) (x := x) (y := y) (z := z) (by rw [apR, h1, h2]; rfl))
   obtain ⟨cr0, cr1, cr2⟩ := vr
   obtain ⟨fr0, fr1, fr2⟩ := fr
   go_wp2_with fail
   exact bodyPost_ret (v := .agg #[.int .i64 0, .int .i64 0, .int .i64 0]) (by simp [results, Tryz.results39, go_sem, cr0, cr1, cr2]) rfl ⟨by rw [yy HR], aQ hB (by omega) _ _ _⟩
  ·have wa := va
   have wv := vv
   obtain ⟨ca0, ca1, ca2, ca3⟩ := wa
   obtain ⟨cv0, cv1, cv2⟩ := wv
   have HR := yz (qi (a := a) (b := b) (c := c) (d := d) (x := x) (y := y) (z := z) (by rw [apR, h1, h2]; rfl))
   have HX := yz (tJ (bP.1 h1).1 (kw h2))
   have HY := yz (tK (bP.1 h1).1 (kw h2))
   have HZ := yz (tL (bP.1 h1).1 (kw h2))
   obtain ⟨cr0, cr1, cr2⟩ := vr
   obtain ⟨fr0, fr1, fr2⟩ := fr
   clear va vv h1 h2
   go_wp2
   go_quiet (fail)
   go_wp2
   go_quiet (fail)
   go_wp2
   go_quiet (fail)
   go_wp2
   rw [yy HX, yy HY, yy HZ]
   exact bodyPost_ret (v := .agg #[.int .i64 (apX a b c d x y z), .int .i64 (apY a b c d x y z), .int .i64 (apZ a b c d x y z)]) (by simp [results, Tryz.results39, go_sem, cr0, cr1, cr2]) rfl ⟨by rw [yy HR], aQ (aj hB (bL _ _)) (by omega) _ _ _⟩
theorem ik (a b c d x y z : Int) (w : World) :
  Calls Tryz.prog 51 #[.agg #[.int .i64 a, .int .i64 b, .int .i64 c, .int .i64 d], .agg #[.int .i64 x, .int .i64 y, .int .i64 z]] w fun e w' => e = .returned (.agg #[.int .i64 (apI (apR a b c d x y z) (apX a b c d x y z)), .int .i64 (apI (apR a b c d x y z) (apY a b c d x y z)), .int .i64 (apI (apR a b c d x y z) (apZ a b c d x y z))]) ∧ Below w.heap.size w w' := by
 go_enter Tryz.func51, Tryz.ntmps51
 go_wp2_with fail
 refine (bn a b c d _).mono ?_
 rintro e w1 ⟨rfl, hx⟩
 have va : aP w1 w.heap.size a b c d := (((aT w a b c d _).alloc _).alloc _).kept (by simp; omega) hx
 have vv : aB w1 (w.heap.size + 1) x y z := ((by simpa using aA (w.alloc _) x y z _ : aB _ (w.heap.size + 1) x y z).alloc (by simp) _).kept (by simp) hx
 have vr : aB w1 (w.heap.size + 1 + 1) 0 0 0 := (by simpa using aA ((w.alloc _).alloc _) 0 0 0 _ : aB _ (w.heap.size + 1 + 1) 0 0 0).kept (by simp) hx
 have fr : bO w1 (w.heap.size + 1 + 1) := (by simpa using bk ((w.alloc _).alloc _) 0 0 0 _ : bO _ (w.heap.size + 1 + 1)).kept (by simp) hx
 have hs : w.heap.size + 2 < w1.heap.size := by have := hx.size; simp at this; omega
 have hB : Below w.heap.size w w1 := aj (fW _ _ _ _) hx
 clear hx
 cases h1 : aC a b c d
 ·have HR := yz (iH (a := a) (b := b) (c := c) (d := d) (x := x) (y := y) (z := z) (by rw [apR, h1]; rfl))
  obtain ⟨cr0, cr1, cr2⟩ := vr
  obtain ⟨fr0, fr1, fr2⟩ := fr
  go_wp2_with fail
  exact bodyPost_ret (v := .agg #[.int .i64 0, .int .i64 0, .int .i64 0]) (by simp [results, Tryz.results51, go_sem, cr0, cr1, cr2]) rfl ⟨by rw [yy HR], aQ hB (by omega) _ _ _⟩
 ·have wa := va
  have wv := vv
  obtain ⟨ca0, ca1, ca2, ca3⟩ := wa
  obtain ⟨cv0, cv1, cv2⟩ := wv
  go_wp2_with fail
  clear ca0 ca1 ca2 ca3 cv0 cv1 cv2
  refine (bN x y z _).mono ?_
  rintro e w2 ⟨rfl, hx⟩
  replace va := va.kept (by omega) hx
  replace vv := vv.kept (by omega) hx
  replace vr := vr.kept (by omega) hx
  replace fr := fr.kept (by omega) hx
  replace hB := aj hB hx
  replace hs : w.heap.size + 2 < w2.heap.size := by have := hx.size; omega
  clear hx
  cases h2 : aq x y z
  ·have HR := yz (iH (a := a) (b := b) (c := c) (d := d) (x := x) (y := y) (z := z) (by rw [apR, h1, bz, h2]; rfl))
   obtain ⟨cr0, cr1, cr2⟩ := vr
   obtain ⟨fr0, fr1, fr2⟩ := fr
   go_wp2_with fail
   exact bodyPost_ret (v := .agg #[.int .i64 0, .int .i64 0, .int .i64 0]) (by simp [results, Tryz.results51, go_sem, cr0, cr1, cr2]) rfl ⟨by rw [yy HR], aQ hB (by omega) _ _ _⟩
  ·have wa := va
   have wv := vv
   obtain ⟨ca0, ca1, ca2, ca3⟩ := wa
   obtain ⟨cv0, cv1, cv2⟩ := wv
   go_wp2_with fail
   clear ca0 ca1 ca2 ca3 cv0 cv1 cv2
   refine (dz 1800 x y z _ (by omega) (by omega)).mono ?_
   rintro e w3 ⟨rfl, hx⟩
   replace va := va.kept (by omega) hx
   replace vv := vv.kept (by omega) hx
   replace vr := vr.kept (by omega) hx
   replace fr := fr.kept (by omega) hx
   replace hB := aj hB hx
   replace hs : w.heap.size + 2 < w3.heap.size := by have := hx.size; omega
   clear hx
   cases h3 : aF 1800 x y z
   ·have HR := yz (iH (a := a) (b := b) (c := c) (d := d) (x := x) (y := y) (z := z) (by rw [apR, h1, bz, h2, h3]; rfl))
    obtain ⟨cr0, cr1, cr2⟩ := vr
    obtain ⟨fr0, fr1, fr2⟩ := fr
    go_wp2_with fail
    exact bodyPost_ret (v := .agg #[.int .i64 0, .int .i64 0, .int .i64 0]) (by simp [results, Tryz.results51, go_sem, cr0, cr1, cr2]) rfl ⟨by rw [yy HR], aQ hB (by omega) _ _ _⟩
   ·have wa := va
    have wv := vv
    obtain ⟨ca0, ca1, ca2, ca3⟩ := wa
    obtain ⟨cv0, cv1, cv2⟩ := wv
    have HR := yz (qi (a := a) (b := b) (c := c) (d := d) (x := x) (y := y) (z := z) (by rw [apR, h1, bz, h2, h3]; rfl))
    go_wp2_with fail
    refine (fG a b c d x y z _ (bP.1 h1).1 h3).mono ?_
    rintro e w4 ⟨rfl, hx⟩
    replace vr := vr.kept (by omega) hx
    replace fr := fr.kept (by omega) hx
    replace hB := aj hB hx
    clear hx ca0 ca1 ca2 ca3 cv0 cv1 cv2 va vv
    obtain ⟨cr0, cr1, cr2⟩ := vr
    obtain ⟨fr0, fr1, fr2⟩ := fr
    go_wp2_with fail
    exact bodyPost_ret (v := .agg #[.int .i64 (apX a b c d x y z), .int .i64 (apY a b c d x y z), .int .i64 (apZ a b c d x y z)]) (by simp [results, Tryz.results51, go_sem, cr0, cr1, cr2]) rfl ⟨by rw [yy HR], aQ hB (by omega) _ _ _⟩
theorem eQ : (Tryz.prog.info? 2).map (fun i => (i.zero, i.size, i.bytes)) = some (some (.int .i64 0), 1, 8) := by kernel_rfl
theorem cq.made {w' : World} {B b n : Nat} {v : Value} {t : TypeId} {c : Nat} {xs : List Value} {f : Nat → Value} (h : w'.ownsRow B t c (.slice (some ⟨b, 0, none⟩) n n) n xs) (hf : ∀ j, j < n * c → xs[j]? = some (f j)) : cq w' t b (n * c) f := by
 rcases h.2 with ⟨h', _⟩ | ⟨g, cap, cur, hv, _, hg, _, _, _, htake⟩
 ·simp at h'
 ·simp only [Value.slice.injEq, Option.some.injEq, Addr.mk.injEq, and_true, true_and] at hv
  obtain ⟨rfl, rfl⟩ := hv
  refine ⟨cur, hg, fun j hj => ?_⟩
  have e := hf j hj
  rw [← htake, List.getElem?_take, if_pos hj] at e
  simpa using e
theorem fB {w w' : World} (h : w.grownBy w' none) : Below w.heap.size w w' := ⟨h.os, h.tape, h.output, h.size, fun k hk => h.block k hk (by simp)⟩
theorem jD (a b c d : Int) (v : D3) (w : World) (ht : aC a b c d = true) (hv : aH v.1 v.2.1 v.2.2 = true) :
  Calls Tryz.prog 39 #[.agg #[.int .i64 a, .int .i64 b, .int .i64 c, .int .i64 d], .agg #[.int .i64 v.1, .int .i64 v.2.1, .int .i64 v.2.2]] w fun e w' => e = .returned (.agg #[.int .i64 (apD a b c d v).1, .int .i64 (apD a b c d v).2.1, .int .i64 (apD a b c d v).2.2]) ∧ Below w.heap.size w w' := by
 refine (qO a b c d v.1 v.2.1 v.2.2 w).mono fun e w' h => ?_
 have hr : apR a b c d v.1 v.2.1 v.2.2 = true := by unfold apR; rw [ht, gu hv]; rfl
 rw [hr] at h
 exact h
theorem aP.same {w w' : World} {b : Nat} {p q r s : Int} (h : aP w b p q r s) (e : w'.heap[b]? = w.heap[b]?) : aP w' b p q r s := by
 obtain ⟨h0, h1, h2, h3⟩ := h
 exact ⟨(World.cell?_of_block (a := ⟨b, _, none⟩) e).trans h0, (World.cell?_of_block (a := ⟨b, _, none⟩) e).trans h1, (World.cell?_of_block (a := ⟨b, _, none⟩) e).trans h2, (World.cell?_of_block (a := ⟨b, _, none⟩) e).trans h3⟩
structure MSt (w wr : World) (g m : Nat) (a b c d : Int) (f : Nat → Value) : Prop where
 row : cq wr 2 g (m * 1) f
 tur : aP wr w.heap.size a b c d
 bel : Below w.heap.size w wr
 lo : w.heap.size < g
theorem MSt.kept {w wr wy : World} {g m : Nat} {a b c d : Int} {f : Nat → Value} (h : MSt w wr g m a b c d f) (hB : Below wr.heap.size wr wy) : MSt w wy g m a b c d f :=
 ⟨h.row.kept hB, h.tur.kept h.tur.lt hB, aj h.bel hB, h.lo⟩
theorem MSt.set {w wr : World} {g m : Nat} {a b c d : Int} {f : Nat → Value} (h : MSt w wr g m a b c d f) (i : Nat) (v : Value) : MSt w (wr.setCell ⟨g, i, none⟩ v) g m a b c d (fun j => if j = i then v else f j) :=
 ⟨h.row.set i v, h.tur.same (heap_setCell_other wr ⟨g, i, none⟩ w.heap.size v (by have := h.lo; show w.heap.size ≠ g; omega)), h.bel.setCell (by have := h.lo; show w.heap.size ≤ g; omega) _, h.lo⟩
theorem MSt.congr {w wr : World} {g m : Nat} {a b c d : Int} {f f' : Nat → Value} (h : MSt w wr g m a b c d f) (e : ∀ j, j < m → f j = f' j) : MSt w wr g m a b c d f' := ⟨h.row.congr (fun j hj => e j (by omega)), h.tur, h.bel, h.lo⟩
def iS (S : List D3) (fin : D3 → Int) (i : Nat) (x : Int) (j : Nat) : Value := .int .i64 (if j < i then fin (vA S j) else if j = i then x else 0)
theorem kf (L : List St) (S : List D3) (ar br : Option Addr) (cr dr : Nat) (a b c d : Int) (p : Addr) (w : World) (hn : L.length ≤ 1048576) (hcap : L.length ≤ cr) (hc9 : cr ≤ 9223372036854775807) (hn2 : S.length ≤ 1048576) (hcap2 : S.length ≤ dr) (hd9 : dr ≤ 9223372036854775807) (hS : aJ w ar L L.length) (hD : bi w br S S.length) (hE : bg p w) :
  Calls Tryz.prog 14 #[.slice ar L.length cr, .agg #[.int .i64 a, .int .i64 b, .int .i64 c, .int .i64 d], .slice br S.length dr] w fun e w' => (∃ v, e = .returned v ∧ iE w' 2 1 w.heap.size w'.heap.size (aX L a b c d S).length v (fun j => .int .i64 ((aX L a b c d S).getD j 0))) ∧ Below w.heap.size w w' := by
 obtain ⟨i0, hinf, hz0, hz1, hz2⟩ := info_parts eQ
 have cK := yz (fun (W : World) hW hE => eD L ar cr p W hn hcap hc9 hW hE)
 have cP := yz (fun (W : World) hW => dS S br dr W hn2 hcap2 hd9 hW)
 have H1 : Hid (aL L = false → aX L a b c d S = []) := yz jo
 have H2 : Hid (aC a b c d = false → aX L a b c d S = []) := yz mF
 have H3 : Hid (aM S = false → aX L a b c d S = []) := yz jp
 have H4 : Hid (aL L = true → aC a b c d = true → aM S = true → aX L a b c d S = S.map (fun v => dy L a b c d v L.length)) := yz jq
 have H5 : Hid (aL L = true → L.length ≤ 12 ∧ ∀ j, j < L.length → aH (stA L j).2.1 (stA L j).2.2.1 (stA L j).2.2.2 = true) := yz (fun h => ⟨(bm h).1, fun j hj => di ((bm h).2 j hj)⟩)
 have H6 : Hid (aM S = true → S.length ≤ 6) := yz (fun h => (bc h).1)
 have HS := yz hS
 have HD := yz hD
 have HE := yz hE
 clear hS hD hE
 generalize aX L a b c d S = R at *
 generalize hml : S.length = m at *
 have HML := yz hml
 clear hml
 generalize L.length = n at *
 clear hcap hcap2 hc9 hd9
 have T0 := aT w a b c d 34
 have B0 := ak w (.cells #[.int .i64 a, .int .i64 b, .int .i64 c, .int .i64 d] 34)
 go_enter Tryz.func14, Tryz.ntmps14
 go_wp2_with fail
 generalize w.alloc (.cells #[.int .i64 a, .int .i64 b, .int .i64 c, .int .i64 d] 34) = W0 at T0 B0 ⊢
 refine (yy cK _ ((yy HS).kept B0) ((yy HE).kept B0)).mono ?_
 rintro e W1 ⟨rfl, hx⟩
 have T1 := T0.kept T0.lt hx
 have B1 := aj B0 hx
 clear hx T0 B0
 cases hk : aL L
 ·obtain rfl := yy H1 hk
  go_wp2_with fail
  go_ret
  exact ⟨⟨_, rfl, .inl ⟨rfl, _, _, rfl⟩⟩, B1⟩
 have wT := T1
 obtain ⟨t0, t1, t2, t3⟩ := wT
 go_wp2_with fail
 clear t0 t1 t2 t3
 refine (fh a b c d _).mono ?_
 rintro e W2 ⟨rfl, hx⟩
 have T2 := T1.kept T1.lt hx
 have B2 := aj B1 hx
 clear hx T1 B1
 cases hr : aC a b c d
 ·obtain rfl := yy H2 hr
  go_wp2_with fail
  go_ret
  exact ⟨⟨_, rfl, .inl ⟨rfl, _, _, rfl⟩⟩, B2⟩
 go_wp2_with fail
 refine (yy cP _ ((yy HD).kept B2)).mono ?_
 rintro e W3 ⟨rfl, hx⟩
 have T3 := T2.kept T2.lt hx
 have B3 := aj B2 hx
 clear hx T2 B2
 cases hp : aM S
 ·obtain rfl := yy H3 hp
  go_wp2_with fail
  go_ret
  exact ⟨⟨_, rfl, .inl ⟨rfl, _, _, rfl⟩⟩, B3⟩
 have HR := yz (yy H4 hk hr hp)
 obtain ⟨hn12, hsm⟩ := yy H5 hk
 have hm6 := yy H6 hp
 have HSM := yz hsm
 have HRT := yz hr
 clear hsm hk hr hp H1 H2 H3 H4 H5 H6 cK cP
 go_wp2_with (at_make; refine wpList_make_full _ rfl _ _ 27 rfl W3.heap.size 2 i0 (.int .i64 0) 1 Tryz.underlying27 hinf hz0 hz1 .i64 .i64 _ _ m rfl rfl rfl rfl (by rw [hz2]; omega) (by unfold maxLen; omega) (Nat.le_refl _) ?_; intro w0 hown0 hgrow0)
 have hg3 : w.heap.size < W3.heap.size := T3.lt
 have hzero : ∀ j, j < m * 1 → (madeCells (Value.int .i64 0).cells (m * 1)).toList[j]? = some (iS S (fun v => dy L a b c d v n) 0 0 j) := by
  intro j hj
  have e : (Value.int .i64 0).cells = #[.int .i64 0] := rfl
  rw [e, toList_madeCells_one]
  have : iS S (fun v => dy L a b c d v n) 0 0 j = .int .i64 0 := by unfold iS; rw [if_neg (by omega)]; split <;> rfl
  rw [this]
  simp at hj
  simp [hj]
 have HM : Hid (MSt w w0 W3.heap.size m a b c d (iS S (fun v => dy L a b c d v n) 0 0)) := yz ⟨cq.made (v := .nilIface) hown0 hzero, T3.kept T3.lt (fB hgrow0), aj B3 (fB hgrow0), hg3⟩
 clear hzero hown0 hgrow0 T3 B3 hg3
 generalize W3.heap.size = g at *
 clear W3
 go_loopw [30] (fun kk wr => ∃ i : Nat, i ≤ m ∧ kk = .int .i64 i ∧ Hid (MSt w wr g m a b c d (iS S (fun v => dy L a b c d v n) i 0))) (fun kk _ => m - (intOf kk).toNat)
 case atStart => exact ⟨0, by omega, rfl, HM⟩
 case round =>
  clear HM
  obtain ⟨i, hi, rfl, HM⟩ := hrel
  by_cases him : i < m
  ·have him2 : (i : Int) < (m : Int) := by omega
   rcases yy HD with h | ⟨bb, bo, rfl, hbb, hbc⟩
   ·omega
   have hst := (hbc i him).kept hbb (yy HM).bel
   clear hbc
   obtain ⟨⟨v1, v2, v3⟩, hv⟩ : ∃ v, vA S i = v := ⟨_, rfl⟩
   rw [hv] at hst
   obtain ⟨c0, c1, c2⟩ := hst
   have HV := yz hv
   clear hv
   have Z := ak wr (.cells #[.int .i64 v1, .int .i64 v2, .int .i64 v3] 67)
   have HM1 := yz ((yy HM).kept Z)
   have HV1 := yz (aA wr v1 v2 v3 67)
   have hvg : g < wr.heap.size := (yy HM).row.lt
   clear Z HM
   go_wp2_with fail
   clear c0 c1 c2
   generalize wr.alloc (.cells #[.int .i64 v1, .int .i64 v2, .int .i64 v3] 67) = W1 at HM1 HV1 ⊢
   generalize wr.heap.size = vb at *
   rcases yy HS with h0 | ⟨sb, so, rfl, hsb, hsc⟩
   ·subst h0
    refine wp_loop_rounds 1 ?_
    rw [rounds_succ]
    have HM2 : Hid (MSt w W1 g m a b c d (iS S (fun v => dy L a b c d v 0) (i + 1) 0)) := yz ((yy HM1).congr (fun j hj => by
     unfold iS
     by_cases h : j < i
     ·rw [if_pos h, if_pos (by omega)]
     ·rw [if_neg h]
      by_cases h2 : j = i
      ·rw [if_pos h2, if_pos (by omega)]; rfl
      ·rw [if_neg h2, if_neg (by omega)]
       split <;> rfl))
    go_wp2_with fail
    go_roundw
    case rel => exact ⟨i + 1, by omega, by go_num, HM2⟩
    case measure => simp [intOf]; omega
   have HSC := yz hsc
   clear hsc
   go_loopw [37] (fun kk wr => ∃ k : Nat, k ≤ n ∧ kk = .int .i64 k ∧ Hid (MSt w wr g m a b c d (iS S (fun v => dy L a b c d v n) i (dy L a b c d (v1, v2, v3) k))) ∧ Hid (aB wr vb v1 v2 v3)) (fun kk _ => n - (intOf kk).toNat)
   case atStart => exact ⟨0, by omega, rfl, HM1, HV1⟩
   case round =>
    clear HM1 HV1
    obtain ⟨k, hk, rfl, HM, HV1⟩ := hrel
    by_cases hkn : k < n
    ·have hkn2 : (k : Int) < (n : Int) := by omega
     have hst := (yy HSC k hkn).kept hsb (yy HM).bel
     have hsm := yy HSM k hkn
     have HID : Hid (dy L a b c d (v1, v2, v3) (k + 1) = if aS (v1, v2, v3) (apD a b c d (stA L k).2) = true then (stA L k).1 else dy L a b c d (v1, v2, v3) k) := yz rfl
     obtain ⟨⟨s1, s2, s3, s4⟩, hs⟩ : ∃ s, stA L k = s := ⟨_, rfl⟩
     rw [hs] at hst hsm HID
     clear hs
     obtain ⟨c0, c1, c2, c3⟩ := hst
     have cA := yz (fun W => jD a b c d (s2, s3, s4) W (yy HRT) hsm)
     have HID' : Hid (dy L a b c d (v1, v2, v3) (k + 1) = if aS (v1, v2, v3) (apD a b c d (s2, s3, s4)) = true then s1 else dy L a b c d (v1, v2, v3) k) := HID
     clear HID hsm
     generalize apD a b c d (s2, s3, s4) = q at *
     obtain ⟨q1, q2, q3⟩ := q
     have cS : Hid (∀ W : World, Calls Tryz.prog 38 #[.agg #[.int .i64 v1, .int .i64 v2, .int .i64 v3], .agg #[.int .i64 q1, .int .i64 q2, .int .i64 q3]] W fun e w' => e = .returned (.bool (aS (v1, v2, v3) (q1, q2, q3))) ∧ Below W.heap.size W w') := yz (fun W => fd v1 v2 v3 q1 q2 q3 W)
     generalize aS (v1, v2, v3) (q1, q2, q3) = sm at *
     simp only at cA
     have Z := ak wr (.cells #[.int .i64 s1, .int .i64 s2, .int .i64 s3, .int .i64 s4] 69)
     have HM2 := yz ((yy HM).kept Z)
     have HV2 := yz ((yy HV1).kept (jb (yy HV1)) Z)
     have N2 := ea wr (s1, s2, s3, s4) 69
     clear Z HM HV1
     go_wp2_with fail
     clear c0 c1 c2 c3
     generalize wr.alloc (.cells #[.int .i64 s1, .int .i64 s2, .int .i64 s3, .int .i64 s4] 69) = W2 at HM2 HV2 N2 ⊢
     have HN2 := yz N2
     obtain ⟨c0, c1, c2, c3⟩ := N2
     simp only [Nat.zero_add] at c0 c1 c2 c3
     obtain ⟨d0, d1, d2⟩ := yy HV2
     obtain ⟨e0, e1, e2, e3⟩ := (yy HM2).tur
     have r0 := cell_regrown c0
     have r1 := cell_regrown c1
     have r2 := cell_regrown c2
     have r3 := cell_regrown c3
     have x0 := cell_regrown d0
     have x1 := cell_regrown d1
     have x2 := cell_regrown d2
     have y0 := cell_regrown e0
     have y1 := cell_regrown e1
     have y2 := cell_regrown e2
     have y3 := cell_regrown e3
     have hsl := World.block_lt_of_cell? _ _ c0
     clear c0 c1 c2 c3 d0 d1 d2 e0 e1 e2 e3
     generalize wr.heap.size = sb2 at *
     refine wp_region_quiet_below (by kernel_rfl) (by kernel_rfl) ?_
     repeat (go_big_quiet_step (first | (with_reducible exact Calls.regrown_of (yy cA _)) | (with_reducible exact Calls.regrown_of (yy cS _))))
     refine wpQuiet_nil ?_
     intro _ hw'
     obtain ⟨⟨dq, osq⟩, hw''⟩ := hw'
     subst hw''
     have hx := below_regrown W2 dq osq
     have HM3 := yz ((yy HM2).kept hx)
     have HV3 := yz ((yy HV2).kept (jb (yy HV2)) hx)
     have N3 := (yy HN2).kept hsl hx
     generalize grow (redrawn W2 dq) osq = W3 at hx HM3 HV3 N3 ⊢
     clear hx cA cS r0 r1 r2 r3 x0 x1 x2 y0 y1 y2 y3 HM2 HV2 HN2
     cases sm
     ·rw [if_neg (by simp)] at HID'
      have HM4 : Hid (MSt w W3 g m a b c d (iS S (fun v => dy L a b c d v n) i (dy L a b c d (v1, v2, v3) (k + 1)))) := yz (by rw [yy HID']; exact yy HM3)
      go_wp2_with fail
      go_roundw
      case rel => exact ⟨k + 1, by omega, by go_num, HM4, HV3⟩
      case measure => simp [intOf]; omega
     ·rw [if_pos rfl] at HID'
      obtain ⟨c0, c1, c2, c3⟩ := N3
      simp only [Nat.zero_add] at c0 c1 c2 c3
      have f0 := (yy HM3).row.cell (j := i) (by omega)
      have f1 := (yy HM3).row.free i
      have HM4 : Hid (MSt w (W3.setCell ⟨g, i, none⟩ (.int .i64 s1)) g m a b c d (iS S (fun v => dy L a b c d v n) i (dy L a b c d (v1, v2, v3) (k + 1)))) := yz (((yy HM3).set i (.int .i64 s1)).congr (fun j hj => by
       rw [yy HID']
       unfold iS
       by_cases h : j = i
       ·rw [if_pos h, if_neg (by omega), if_pos h]
       ·rw [if_neg h, if_neg h, if_neg h]))
      have HV4 : Hid (aB (W3.setCell ⟨g, i, none⟩ (.int .i64 s1)) vb v1 v2 v3) := yz (by
       have e := heap_setCell_other W3 ⟨g, i, none⟩ vb (.int .i64 s1) (by show vb ≠ g; omega)
       obtain ⟨h0, h1, h2⟩ := yy HV3
       exact ⟨(World.cell?_of_block (a := ⟨vb, _, none⟩) e).trans h0, (World.cell?_of_block (a := ⟨vb, _, none⟩) e).trans h1, (World.cell?_of_block (a := ⟨vb, _, none⟩) e).trans h2⟩)
      clear HM3 HV3
      go_wp2_with fail
      go_roundw
      case rel => exact ⟨k + 1, by omega, by go_num, HM4, HV4⟩
      case measure => simp [intOf]; omega
    ·have hkn' : k = n := by omega
     have HM2 : Hid (MSt w wr g m a b c d (iS S (fun v => dy L a b c d v n) (i + 1) 0)) := yz ((yy HM).congr (fun j hj => by
      unfold iS
      by_cases h : j < i
      ·rw [if_pos h, if_pos (by omega)]
      ·rw [if_neg h]
       by_cases h2 : j = i
       ·rw [if_pos h2, if_pos (by omega), h2, yy HV, hkn']
       ·rw [if_neg h2, if_neg (by omega)]
        split <;> rfl))
     clear HM
     go_wp2_with fail
     go_roundw
     case rel => exact ⟨i + 1, by omega, by go_num, HM2⟩
     case measure => simp [intOf]; omega
  ·have him' : i = m := by omega
   subst him'
   have HP : Hid (iE wr 2 1 w.heap.size wr.heap.size R.length (.slice (some ⟨g, 0, none⟩) i i) (fun j => .int .i64 (R.getD j 0))) := yz (by
    have hl : R.length = i := by rw [yy HR, List.length_map]; exact yy HML
    rw [hl]
    refine .inr ⟨g, i, rfl, Nat.le_of_lt (yy HM).lo, (yy HM).row.lt, (yy HM).row.congr (fun j hj => ?_)⟩
    have hj' : j < S.length := by rw [yy HML]; omega
    unfold iS
    rw [if_pos (by omega), yy HR, List.getD_eq_getElem?_getD, List.getElem?_map, List.getElem?_eq_getElem hj']
    unfold vA
    rw [List.getD_eq_getElem?_getD, List.getElem?_eq_getElem hj']
    rfl)
   go_wp2_with fail
   go_ret
   exact ⟨⟨_, rfl, yy HP⟩, (yy HM).bel⟩
def bF (w : World) (a : Option Addr) (ids : List Int) (n : Nat) : Prop := n = 0 ∨ ∃ b o, a = some ⟨b, o, none⟩ ∧ b < w.heap.size ∧ ∀ i, i < n → w.cell? ⟨b, o + i, none⟩ = some (.int .i64 (ids.getD i 0))
theorem bF.kept {w w' : World} {a : Option Addr} {L : List Int} {n : Nat} (h : bF w a L n) (hB : Below w.heap.size w w') : bF w' a L n := by
 rcases h with h | ⟨b, o, ha, hb, hc⟩
 ·exact .inl h
 ·exact .inr ⟨b, o, ha, Nat.lt_of_lt_of_le hb hB.size, fun i hi => by rw [hB.cell (p := ⟨b, o + i, none⟩) hb]; exact hc i hi⟩
def li (ids : List Int) (j : Nat) : Value := .int .i64 (ids.getD j 0)
theorem iN {w : World} {g n : Nat} {ids : List Int} (h : cq w 2 g (n * 1) (li ids)) : bF w (some ⟨g, 0, none⟩) ids n :=
 .inr ⟨g, 0, rfl, h.lt, fun i hi => by rw [Nat.zero_add]; exact h.cell (by omega)⟩
end
section
open Go.RowKit Go.Deep Go.ChangeShapes
end
section
open Go.RowKit
theorem aB.lt' {w : World} {b : Nat} {x y z : Int} (h : aB w b x y z) : b < w.heap.size := World.block_lt_of_cell? w _ h.1
theorem sQ {w1 wx wn : World} {X : Prop} (hx : Below wx.heap.size wx wn) (h : X ∧ Below w1.heap.size w1 wx) : Below w1.heap.size w1 wn := aj h.2 hx
def qL (w : World) (b : Nat) : Prop := aB w b 0 0 0 ∧ bO w b
theorem uj {wy wn : World} {t : TypeId} (hx : Below (wy.alloc (.cells #[.int .i64 0, .int .i64 0, .int .i64 0] t)).heap.size (wy.alloc (.cells #[.int .i64 0, .int .i64 0, .int .i64 0] t)) wn) : qL wn wy.heap.size :=
 ⟨(aA wy 0 0 0 t).kept (by simp) hx, (bk wy 0 0 0 t).kept (by simp) hx⟩
theorem ts {wy wn : World} {t : TypeId} (hx : Below ((wy.alloc (.cells #[.int .i64 0, .int .i64 0, .int .i64 0] t)).drew).heap.size ((wy.alloc (.cells #[.int .i64 0, .int .i64 0, .int .i64 0] t)).drew) wn) : qL wn wy.heap.size :=
 ⟨(show aB (wy.alloc (.cells #[.int .i64 0, .int .i64 0, .int .i64 0] t)).drew wy.heap.size 0 0 0 from aA wy 0 0 0 t).kept (by simp) hx, (show bO (wy.alloc (.cells #[.int .i64 0, .int .i64 0, .int .i64 0] t)).drew wy.heap.size from bk wy 0 0 0 t).kept (by simp) hx⟩
theorem tm {wx wn : World} {b : Nat} (h : qL wx b) (hx : Below wx.heap.size wx wn) : qL wn b := ⟨h.1.kept (aB.lt' h.1) hx, h.2.kept (aB.lt' h.1) hx⟩
theorem lJ {w1 wx : World} (h : Below w1.heap.size w1 wx) (o : Obj) : Below w1.heap.size w1 (wx.alloc o) := h.alloc h.size _
theorem qe {w : World} {b : Nat} (h : qL w b) (x y z : Int) : aB (((w.setCell ⟨b, 0, none⟩ (.int .i64 x)).setCell ⟨b, 1, none⟩ (.int .i64 y)).setCell ⟨b, 2, none⟩ (.int .i64 z)) b x y z := by
 obtain ⟨⟨h0, h1, h2⟩, _⟩ := h
 refine ⟨?_, ?_, ?_⟩ <;> simp [go_sem, h0, h1, h2]
theorem og {w1 wx : World} {b : Nat} (h : Below w1.heap.size w1 wx) (hb : w1.heap.size ≤ b) (x y z : Value) : Below w1.heap.size w1 (((wx.setCell ⟨b, 0, none⟩ x).setCell ⟨b, 1, none⟩ y).setCell ⟨b, 2, none⟩ z) := ((h.setCell hb _).setCell hb _).setCell hb _
theorem rC {w1 wx : World} {X : Prop} (h : X ∧ Below w1.heap.size w1 wx) (o : Obj) : Below w1.heap.size w1 (wx.alloc o) := h.2.alloc h.2.size _
theorem sR {w1 wx : World} {X : Prop} {b : Nat} (h : X ∧ Below w1.heap.size w1 wx) (hb : w1.heap.size ≤ b) (x y z : Value) : Below w1.heap.size w1 (((wx.setCell ⟨b, 0, none⟩ x).setCell ⟨b, 1, none⟩ y).setCell ⟨b, 2, none⟩ z) := ((h.2.setCell hb _).setCell hb _).setCell hb _
end
section
open Go.RowKit Go.Sort
abbrev P2 := Int × Int
abbrev Sp := P2 × V3 × V3
def pp (w : World) (b : Nat) (x y a1 a2 a3 b1 b2 b3 : Int) : Prop := w.cell? ⟨b, 0, none⟩ = some (.int .i64 x) ∧ w.cell? ⟨b, 1, none⟩ = some (.int .i64 y) ∧ w.cell? ⟨b, 2, none⟩ = some (.int .i64 a1) ∧ w.cell? ⟨b, 3, none⟩ = some (.int .i64 a2) ∧ w.cell? ⟨b, 4, none⟩ = some (.int .i64 a3) ∧ w.cell? ⟨b, 5, none⟩ = some (.int .i64 b1) ∧ w.cell? ⟨b, 6, none⟩ = some (.int .i64 b2) ∧ w.cell? ⟨b, 7, none⟩ = some (.int .i64 b3)
theorem pp.kept {w w' : World} {b : Nat} {x y a1 a2 a3 b1 b2 b3 : Int} (h : pp w b x y a1 a2 a3 b1 b2 b3) (hB : Below w.heap.size w w') : pp w' b x y a1 a2 a3 b1 b2 b3 := by
 have hb := World.block_lt_of_cell? w _ h.1
 obtain ⟨h0, h1, h2, h3, h4, h5, h6, h7⟩ := h
 exact ⟨by rw [hB.cell (p := ⟨b, 0, none⟩) hb]; exact h0, by rw [hB.cell (p := ⟨b, 1, none⟩) hb]; exact h1, by rw [hB.cell (p := ⟨b, 2, none⟩) hb]; exact h2, by rw [hB.cell (p := ⟨b, 3, none⟩) hb]; exact h3, by rw [hB.cell (p := ⟨b, 4, none⟩) hb]; exact h4, by rw [hB.cell (p := ⟨b, 5, none⟩) hb]; exact h5, by rw [hB.cell (p := ⟨b, 6, none⟩) hb]; exact h6, by rw [hB.cell (p := ⟨b, 7, none⟩) hb]; exact h7⟩
def rM (w : World) (b o : Nat) (s : Sp) : Prop := w.cell? ⟨b, o, none⟩ = some (.int .i64 s.1.1) ∧ w.cell? ⟨b, o + 1, none⟩ = some (.int .i64 s.1.2) ∧ w.cell? ⟨b, o + 2, none⟩ = some (.int .i64 s.2.1.1) ∧ w.cell? ⟨b, o + 3, none⟩ = some (.int .i64 s.2.1.2.1) ∧ w.cell? ⟨b, o + 4, none⟩ = some (.int .i64 s.2.1.2.2) ∧ w.cell? ⟨b, o + 5, none⟩ = some (.int .i64 s.2.2.1) ∧ w.cell? ⟨b, o + 6, none⟩ = some (.int .i64 s.2.2.2.1) ∧ w.cell? ⟨b, o + 7, none⟩ = some (.int .i64 s.2.2.2.2)
theorem rM.kept {w w' : World} {b o : Nat} {s : Sp} (h : rM w b o s) (hB : Below w.heap.size w w') : rM w' b o s := by
 have hb : b < w.heap.size := World.block_lt_of_cell? w _ h.1
 obtain ⟨h0, h1, h2, h3, h4, h5, h6, h7⟩ := h
 exact ⟨by rw [hB.cell (p := ⟨b, o, none⟩) hb]; exact h0, by rw [hB.cell (p := ⟨b, o + 1, none⟩) hb]; exact h1, by rw [hB.cell (p := ⟨b, o + 2, none⟩) hb]; exact h2, by rw [hB.cell (p := ⟨b, o + 3, none⟩) hb]; exact h3, by rw [hB.cell (p := ⟨b, o + 4, none⟩) hb]; exact h4, by rw [hB.cell (p := ⟨b, o + 5, none⟩) hb]; exact h5, by rw [hB.cell (p := ⟨b, o + 6, none⟩) hb]; exact h6, by rw [hB.cell (p := ⟨b, o + 7, none⟩) hb]; exact h7⟩
end
end Go.Proofs.YtoakkmjcbnfljaaGreatDoor
