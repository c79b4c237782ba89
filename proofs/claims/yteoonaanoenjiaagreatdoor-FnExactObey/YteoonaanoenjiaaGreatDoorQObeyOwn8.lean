/- Several texts in one: TurnA, TurnB, TurnC, TurnF, MaA, IdB. -/
import Derived.Lib.QuietBelow
import Derived.Deep.QuietTactic
import Derived.BigQuiet
import Derived.BigRegion
import Derived.OwnWalk
import Derived.Laws.OwnMore
import Derived.Test.YteoonaanoenjiaaGreatDoorQObeyOwn3
import Derived.Test.YteoonaanoenjiaaGreatDoorQObeyOwn7
import Derived.Test.YteoonaanoenjiaaGreatDoorQObeyOwn4
import Derived.Test.YteoonaanoenjiaaGreatDoorQObeyOwn6
import Derived.Test.YteoonaanoenjiaaGreatDoorQObeyOwn1
namespace Go.Proofs.YteoonaanoenjiaaGreatDoor
open Go.RowKit
set_option linter.unusedVariables false
def TurnAt (w : World) (b : Nat) (p q r s : Int) : Prop := w.cell? ⟨b, 0, none⟩ = some (.int .i64 p) ∧ w.cell? ⟨b, 1, none⟩ = some (.int .i64 q) ∧ w.cell? ⟨b, 2, none⟩ = some (.int .i64 r) ∧ w.cell? ⟨b, 3, none⟩ = some (.int .i64 s)
def FreeT (w : World) (b : Nat) : Prop := w.frozen? ⟨b, 0, none⟩ = false ∧ w.frozen? ⟨b, 1, none⟩ = false ∧ w.frozen? ⟨b, 2, none⟩ = false ∧ w.frozen? ⟨b, 3, none⟩ = false
theorem TurnAt.kept {w w' : World} {b : Nat} {p q r s : Int} (h : TurnAt w b p q r s) (hb : b < w.heap.size) (hB : Below w.heap.size w w') : TurnAt w' b p q r s := by
  obtain ⟨h0, h1, h2, h3⟩ := h
  exact ⟨by rw [hB.cell (p := ⟨b, 0, none⟩) hb]; exact h0, by rw [hB.cell (p := ⟨b, 1, none⟩) hb]; exact h1, by rw [hB.cell (p := ⟨b, 2, none⟩) hb]; exact h2, by rw [hB.cell (p := ⟨b, 3, none⟩) hb]; exact h3⟩
theorem FreeT.kept {w w' : World} {b : Nat} (h : FreeT w b) (hb : b < w.heap.size) (hB : Below w.heap.size w w') : FreeT w' b := by
  obtain ⟨h0, h1, h2, h3⟩ := h
  exact ⟨by rw [hB.frozen (p := ⟨b, 0, none⟩) hb]; exact h0, by rw [hB.frozen (p := ⟨b, 1, none⟩) hb]; exact h1, by rw [hB.frozen (p := ⟨b, 2, none⟩) hb]; exact h2, by rw [hB.frozen (p := ⟨b, 3, none⟩) hb]; exact h3⟩
theorem turnAt_new (w : World) (p q r s : Int) (t : TypeId) : TurnAt (w.alloc (.cells #[.int .i64 p, .int .i64 q, .int .i64 r, .int .i64 s] t)) w.heap.size p q r s := by
  refine ⟨?_, ?_, ?_, ?_⟩ <;> simp
theorem freeT_new (w : World) (p q r s : Int) (t : TypeId) : FreeT (w.alloc (.cells #[.int .i64 p, .int .i64 q, .int .i64 r, .int .i64 s] t)) w.heap.size := by
  refine ⟨?_, ?_, ?_, ?_⟩ <;> simp
theorem TurnAt.lt {w : World} {b : Nat} {p q r s : Int} (h : TurnAt w b p q r s) : b < w.heap.size := World.block_lt_of_cell? w _ h.1
theorem TurnAt.alloc {w : World} {b : Nat} {p q r s : Int} (h : TurnAt w b p q r s) (o : Obj) : TurnAt (w.alloc o) b p q r s := h.kept h.lt (below1 _ _)
theorem below_set4 {w w1 : World} {b : Nat} (h : Below w.heap.size w w1) (hb : w.heap.size ≤ b) (x y z u : Value) : Below w.heap.size w ((((w1.setCell ⟨b, 0, none⟩ x).setCell ⟨b, 1, none⟩ y).setCell ⟨b, 2, none⟩ z).setCell ⟨b, 3, none⟩ u) := (((h.setCell hb _).setCell hb _).setCell hb _).setCell hb _
theorem below_set5 {w w1 : World} {b : Nat} (h : Below w.heap.size w w1) (hb : w.heap.size ≤ b) (x y z u v : Value) : Below w.heap.size w (((((w1.setCell ⟨b, 0, none⟩ x).setCell ⟨b, 1, none⟩ y).setCell ⟨b, 2, none⟩ z).setCell ⟨b, 3, none⟩ u).setCell ⟨b, 4, none⟩ v) := ((((h.setCell hb _).setCell hb _).setCell hb _).setCell hb _).setCell hb _
set_option maxRecDepth 100000 in
theorem tparts_any (p q r s : Int) (w : World) :
    Calls Tryz.prog 157 #[.agg #[.int .i64 p, .int .i64 q, .int .i64 r, .int .i64 s]] w fun e w' => e = .returned (.agg #[.int .i64 p, .int .i64 q, .int .i64 r, .int .i64 s]) ∧ Below w.heap.size w w' := by
  go_enter Tryz.func157, Tryz.ntmps157
  go_wp2
  exact bodyPost_ret (v := .agg #[.int .i64 p, .int .i64 q, .int .i64 r, .int .i64 s]) (by simp [results, Tryz.results157, go_sem]) rfl ⟨rfl, below2 _ _ _⟩
theorem equal_turn (a1 a2 a3 a4 b1 b2 b3 b4 : Int) (w : World) : (Op.equalIn 10000 35 (.agg #[.int .i64 a1, .int .i64 a2, .int .i64 a3, .int .i64 a4]) (.agg #[.int .i64 b1, .int .i64 b2, .int .i64 b3, .int .i64 b4])).run Tryz.prog w = .ok (eqT a1 a2 a3 a4 b1 b2 b3 b4) w := by
  have h := run_equalIn_struct (P := Tryz.prog) w 9999 35 #[.int .i64 a1, .int .i64 a2, .int .i64 a3, .int .i64 a4] #[.int .i64 b1, .int .i64 b2, .int .i64 b3, .int .i64 b4] (by kernel_rfl) (by kernel_rfl)
  refine h.trans ?_
  by_cases h1 : a1 = b1
  · by_cases h2 : a2 = b2
    · by_cases h3 : a3 = b3
      · by_cases h4 : a4 = b4
        · simp [go_sem, eqT, h1, h2, h3, h4]
        · simp [go_sem, eqT, h1, h2, h3, h4]
      · simp [go_sem, eqT, h1, h2, h3]
    · simp [go_sem, eqT, h1, h2]
  · simp [go_sem, eqT, h1]
theorem neq_turn (a1 a2 a3 a4 b1 b2 b3 b4 : Int) (w : World) : (binOp .neq 35 (.agg #[.int .i64 a1, .int .i64 a2, .int .i64 a3, .int .i64 a4]) (.agg #[.int .i64 b1, .int .i64 b2, .int .i64 b3, .int .i64 b4])).run Tryz.prog w = .ok (.bool (!eqT a1 a2 a3 a4 b1 b2 b3 b4)) w := by
  rw [run_neq_struct, equal_turn]; rfl
theorem eql_turn (a1 a2 a3 a4 b1 b2 b3 b4 : Int) (w : World) : (binOp .eql 35 (.agg #[.int .i64 a1, .int .i64 a2, .int .i64 a3, .int .i64 a4]) (.agg #[.int .i64 b1, .int .i64 b2, .int .i64 b3, .int .i64 b4])).run Tryz.prog w = .ok (.bool (eqT a1 a2 a3 a4 b1 b2 b3 b4)) w := by
  rw [run_eql_struct, equal_turn]; rfl
set_option maxRecDepth 100000 in
theorem twithin_any (m p q r s : Int) (w : World) (hm0 : 0 ≤ m) (hm : m ≤ 1000000) :
    Calls Tryz.prog 117 #[.agg #[.int .i64 p, .int .i64 q, .int .i64 r, .int .i64 s], .int .i64 m] w fun e w' => e = .returned (.bool (inT m p q r s)) ∧ Below w.heap.size w w' := by
  have i0 : ∀ w : World, (Instr.index 206 (.agg #[.int .i64 p, .int .i64 q, .int .i64 r, .int .i64 s]) (.int .i64 0)).run Tryz.prog w = .ok (.int .i64 p) w := fun _ => by kernel_rfl
  have i1 : ∀ w : World, (Instr.index 206 (.agg #[.int .i64 p, .int .i64 q, .int .i64 r, .int .i64 s]) (.int .i64 1)).run Tryz.prog w = .ok (.int .i64 q) w := fun _ => by kernel_rfl
  have i2 : ∀ w : World, (Instr.index 206 (.agg #[.int .i64 p, .int .i64 q, .int .i64 r, .int .i64 s]) (.int .i64 2)).run Tryz.prog w = .ok (.int .i64 r) w := fun _ => by kernel_rfl
  have i3 : ∀ w : World, (Instr.index 206 (.agg #[.int .i64 p, .int .i64 q, .int .i64 r, .int .i64 s]) (.int .i64 3)).run Tryz.prog w = .ok (.int .i64 s) w := fun _ => by kernel_rfl
  have hwr : wrap64 (-m) = -m := wrap_id (by omega) (by omega)
  go_enter Tryz.func117, Tryz.ntmps117
  go_wp2_with fail
  refine (tparts_any p q r s _).mono ?_
  rintro e w1 ⟨rfl, hB1⟩
  have hB : Below w.heap.size w w1 := below_call (below1 _ _) hB1
  clear hB1
  go_wp2_with fail
  go_loop [9] (fun i => ∃ k : Nat, k ≤ 4 ∧ i = .int .i64 k ∧ Hid (0 < k → inB m p = true) ∧ Hid (1 < k → inB m q = true) ∧ Hid (2 < k → inB m r = true) ∧ Hid (3 < k → inB m s = true)) (fun i => 4 - (intOf i).toNat)
  case atStart => exact ⟨0, Nat.zero_le _, rfl, yz (by omega), yz (by omega), yz (by omega), yz (by omega)⟩
  case round =>
    obtain ⟨k, hk, rfl, hx, hy, hz, hu⟩ := hrel
    have hk5 : k = 0 ∨ k = 1 ∨ k = 2 ∨ k = 3 ∨ k = 4 := by omega
    rcases hk5 with rfl | rfl | rfl | rfl | rfl
    · by_cases q1 : -m ≤ p
      · by_cases q2 : p ≤ m
        · have HI := yz (inB_iff.2 ⟨q1, q2⟩)
          go_wp2
          go_round
          case rel => exact ⟨1, by omega, rfl, yz (fun _ => yx HI), yz (by omega), yz (by omega), yz (by omega)⟩
          case measure => simp [intOf]
        · have HO := yz (out1 (m := m) (x := p) (fun h => q2 h.2))
          go_wp2
          go_ret
          exact ⟨by simp [inT, yx HO], hB⟩
      · have HO := yz (out1 (m := m) (x := p) (fun h => q1 h.1))
        go_wp2
        go_ret
        exact ⟨by simp [inT, yx HO], hB⟩
    · by_cases q1 : -m ≤ q
      · by_cases q2 : q ≤ m
        · have HI := yz (inB_iff.2 ⟨q1, q2⟩)
          go_wp2
          go_round
          case rel => exact ⟨2, by omega, rfl, yz (fun _ => yx hx (by omega)), yz (fun _ => yx HI), yz (by omega), yz (by omega)⟩
          case measure => simp [intOf]
        · have HO := yz (out1 (m := m) (x := q) (fun h => q2 h.2))
          go_wp2
          go_ret
          exact ⟨by simp [inT, yx HO], hB⟩
      · have HO := yz (out1 (m := m) (x := q) (fun h => q1 h.1))
        go_wp2
        go_ret
        exact ⟨by simp [inT, yx HO], hB⟩
    · by_cases q1 : -m ≤ r
      · by_cases q2 : r ≤ m
        · have HI := yz (inB_iff.2 ⟨q1, q2⟩)
          go_wp2
          go_round
          case rel => exact ⟨3, by omega, rfl, yz (fun _ => yx hx (by omega)), yz (fun _ => yx hy (by omega)), yz (fun _ => yx HI), yz (by omega)⟩
          case measure => simp [intOf]
        · have HO := yz (out1 (m := m) (x := r) (fun h => q2 h.2))
          go_wp2
          go_ret
          exact ⟨by simp [inT, yx HO], hB⟩
      · have HO := yz (out1 (m := m) (x := r) (fun h => q1 h.1))
        go_wp2
        go_ret
        exact ⟨by simp [inT, yx HO], hB⟩
    · by_cases q1 : -m ≤ s
      · by_cases q2 : s ≤ m
        · have HI := yz (inB_iff.2 ⟨q1, q2⟩)
          go_wp2
          go_round
          case rel => exact ⟨4, by omega, rfl, yz (fun _ => yx hx (by omega)), yz (fun _ => yx hy (by omega)), yz (fun _ => yx hz (by omega)), yz (fun _ => yx HI)⟩
          case measure => simp [intOf]
        · have HO := yz (out1 (m := m) (x := s) (fun h => q2 h.2))
          go_wp2
          go_ret
          exact ⟨by simp [inT, yx HO], hB⟩
      · have HO := yz (out1 (m := m) (x := s) (fun h => q1 h.1))
        go_wp2
        go_ret
        exact ⟨by simp [inT, yx HO], hB⟩
    · go_wp2
      go_ret
      exact ⟨by simp [inT, yx hx (by omega), yx hy (by omega), yx hz (by omega), yx hu (by omega)], hB⟩
set_option maxRecDepth 100000 in
theorem l03Within_any (m a b c d : Int) (w : World) (hm0 : 0 ≤ m) (hm : m ≤ 1000000) :
    Calls Tryz.prog 102 #[.agg #[.int .i64 a, .int .i64 b, .int .i64 c, .int .i64 d], .int .i64 m] w fun e w' => e = .returned (.bool (inT m a b c d)) ∧ Below w.heap.size w w' := by
  have hwr : wrap64 (-m) = -m := wrap_id (by omega) (by omega)
  go_enter Tryz.func102, Tryz.ntmps102
  go_wp2_with fail
  refine (l02Is_any a (-m) m _).mono ?_
  rintro e w1 ⟨rfl, rfl⟩
  rw [isB]
  cases ha : inB m a
  · go_wp2_with fail
    go_ret
    exact ⟨by simp [inT, ha], below1 _ _⟩
  · go_wp2_with fail
    refine (l02Is_any b (-m) m _).mono ?_
    rintro e w1 ⟨rfl, rfl⟩
    rw [isB]
    cases hb : inB m b
    · go_wp2_with fail
      go_ret
      exact ⟨by simp [inT, hb], below1 _ _⟩
    · go_wp2_with fail
      refine (l02Is_any c (-m) m _).mono ?_
      rintro e w1 ⟨rfl, rfl⟩
      rw [isB]
      cases hc : inB m c
      · go_wp2_with fail
        go_ret
        exact ⟨by simp [inT, hc], below1 _ _⟩
      · go_wp2_with fail
        refine (l02Is_any d (-m) m _).mono ?_
        rintro e w1 ⟨rfl, rfl⟩
        rw [isB]
        go_wp2_with fail
        go_ret
        exact ⟨by simp [inT, ha, hb, hc], below1 _ _⟩
theorem fT_0 {a b c d : Int} (h : a ≠ 0) : fT a b c d = a := by unfold fT; rw [if_pos h]
theorem fT_1 {b c d : Int} (h : b ≠ 0) : fT 0 b c d = b := by unfold fT; rw [if_neg (by simp), if_pos h]
theorem fT_2 {c d : Int} (h : c ≠ 0) : fT 0 0 c d = c := by unfold fT; rw [if_neg (by simp), if_neg (by simp), if_pos h]
theorem fT_3 {d : Int} : fT 0 0 0 d = d := by unfold fT; rw [if_neg (by simp), if_neg (by simp), if_neg (by simp)]
set_option maxRecDepth 100000 in
theorem l03First_any (a b c d : Int) (w : World) :
    Calls Tryz.prog 103 #[.agg #[.int .i64 a, .int .i64 b, .int .i64 c, .int .i64 d]] w fun e w' => e = .returned (.int .i64 (fT a b c d)) ∧ Below w.heap.size w w' := by
  go_enter Tryz.func103, Tryz.ntmps103
  go_wp2_with fail
  go_loop [4] (fun i => ∃ k : Nat, k ≤ 4 ∧ i = .int .i64 k ∧ Hid (0 < k → a = 0) ∧ Hid (1 < k → b = 0) ∧ Hid (2 < k → c = 0) ∧ Hid (3 < k → d = 0)) (fun i => 4 - (intOf i).toNat)
  case atStart => exact ⟨0, Nat.zero_le _, rfl, yz (by omega), yz (by omega), yz (by omega), yz (by omega)⟩
  case round =>
    obtain ⟨k, hk, rfl, hx, hy, hz, hu⟩ := hrel
    have hk5 : k = 0 ∨ k = 1 ∨ k = 2 ∨ k = 3 ∨ k = 4 := by omega
    rcases hk5 with rfl | rfl | rfl | rfl | rfl
    · have _u := hk
      by_cases h : a = 0
      · subst h
        clear hx hy hz hu
        go_wp2
        go_round
        case rel => exact ⟨1, by omega, rfl, yz (by simp), yz (by omega), yz (by omega), yz (by omega)⟩
        case measure => simp [intOf]
      · have HF : Hid (fT a b c d = a) := yz (fT_0 h)
        clear hx hy hz hu
        go_wp2
        go_ret
        exact ⟨by rw [yx HF]; rfl, below2 _ _ _⟩
    · have e0 := yx hx (by omega)
      subst e0
      by_cases h : b = 0
      · subst h
        clear hx hy hz hu
        go_wp2
        go_round
        case rel => exact ⟨2, by omega, rfl, yz (by simp), yz (by simp), yz (by omega), yz (by omega)⟩
        case measure => simp [intOf]
      · have HF : Hid (fT 0 b c d = b) := yz (fT_1 h)
        clear hx hy hz hu
        go_wp2
        go_ret
        exact ⟨by rw [yx HF]; rfl, below2 _ _ _⟩
    · have e0 := yx hx (by omega)
      have e1 := yx hy (by omega)
      subst e0 e1
      by_cases h : c = 0
      · subst h
        clear hx hy hz hu
        go_wp2
        go_round
        case rel => exact ⟨3, by omega, rfl, yz (by simp), yz (by simp), yz (by simp), yz (by omega)⟩
        case measure => simp [intOf]
      · have HF : Hid (fT 0 0 c d = c) := yz (fT_2 h)
        clear hx hy hz hu
        go_wp2
        go_ret
        exact ⟨by rw [yx HF]; rfl, below2 _ _ _⟩
    · have e0 := yx hx (by omega)
      have e1 := yx hy (by omega)
      have e2 := yx hz (by omega)
      subst e0 e1 e2
      by_cases h : d = 0
      · subst h
        clear hx hy hz hu
        go_wp2
        go_round
        case rel => exact ⟨4, by omega, rfl, yz (by simp), yz (by simp), yz (by simp), yz (by simp)⟩
        case measure => simp [intOf]
      · have HF : Hid (fT 0 0 0 d = d) := yz fT_3
        clear hx hy hz hu
        go_wp2
        go_ret
        exact ⟨by rw [yx HF]; rfl, below2 _ _ _⟩
    · have e0 := yx hx (by omega)
      have e1 := yx hy (by omega)
      have e2 := yx hz (by omega)
      have e3 := yx hu (by omega)
      subst e0 e1 e2 e3
      clear hx hy hz hu
      go_wp2
      go_ret
      exact ⟨by rw [fT_3]; rfl, below2 _ _ _⟩
set_option maxRecDepth 100000 in
theorem l03Gcd_any (a b c d : Int) (w : World) (h : inT 1000 a b c d = true) :
    Calls Tryz.prog 104 #[.agg #[.int .i64 a, .int .i64 b, .int .i64 c, .int .i64 d]] w fun e w' => e = .returned (.int .i64 (gT a b c d)) ∧ Below w.heap.size w w' := by
  obtain ⟨ha, hb, hc, hd⟩ := inT_iff.1 h
  have hg1 := gcd_le ha hb
  have hg2 := gcd_le hc hd
  go_enter Tryz.func104, Tryz.ntmps104
  go_wp2_with fail
  go_quiet (first | (go_at_call_of 137 (Value.int IntKind.i64 a); refine Calls.quiet_of (l02Gcd_any a b _ (by omega) (by omega))) | (go_at_call_of 137 (Value.int IntKind.i64 c); refine Calls.quiet_of (l02Gcd_any c d _ (by omega) (by omega))) | (go_at_call 137; refine Calls.quiet_of (l02Gcd_any _ _ _ ?_ ?_) <;> omega))
  go_wp2
  go_ret
  exact ⟨rfl, below_call (below1 _ _) (below_drewN _ _)⟩
set_option maxRecDepth 100000 in
theorem specTRight_any (a b c d : Int) (w : World) :
    Calls Tryz.prog 59 #[.agg #[.int .i64 a, .int .i64 b, .int .i64 c, .int .i64 d]] w fun e w' => e = .returned (.bool (rightT a b c d)) ∧ Below w.heap.size w w' := by
  go_enter Tryz.func59, Tryz.ntmps59
  go_wp2_with fail
  refine (l03Within_any 5 a b c d _ (by omega) (by omega)).mono ?_
  rintro e w1 ⟨rfl, hB1⟩
  have va : TurnAt w1 w.heap.size a b c d := (turnAt_new w a b c d _).kept (by simp) hB1
  have hB : Below w.heap.size w w1 := below_call (below1 _ _) hB1
  clear hB1
  have hva := va
  obtain ⟨c0, c1, c2, c3⟩ := va
  cases h5 : inT 5 a b c d
  · go_wp2_with fail
    go_ret
    exact ⟨by simp [rightT, h5], hB⟩
  · go_wp2_with fail
    refine (l03First_any a b c d _).mono ?_
    rintro e w2 ⟨rfl, hB2⟩
    have va := hva.kept hva.lt hB2
    replace hB := below_call hB hB2
    clear hB2 hva c0 c1 c2 c3
    have hva := va
    obtain ⟨c0, c1, c2, c3⟩ := va
    by_cases hf : 0 < fT a b c d
    · go_wp2_with fail
      refine (l03Gcd_any a b c d _ (inT_mono h5 (by omega))).mono ?_
      rintro e w3 ⟨rfl, hB3⟩
      replace hB := below_call hB hB3
      go_wp2_with fail
      go_ret
      exact ⟨by rw [rightT, h5, decide_eq_true hf]; rfl, hB⟩
    · have HN := yz (decide_eq_false hf)
      go_wp2_with fail
      go_ret
      exact ⟨by rw [rightT, h5, yx HN]; rfl, hB⟩
end Go.Proofs.YteoonaanoenjiaaGreatDoor
namespace Go.Proofs.YteoonaanoenjiaaGreatDoor
open Go.RowKit Go.Sort
set_option linter.unusedVariables false
def ptT (a b c d : Int) : Nat → Int
  | 0 => a
  | 1 => b
  | 2 => c
  | _ => d
def gS4 (a b c d : Int) : Nat → Int
  | 0 => 0
  | k + 1 => ((Int.gcd (gS4 a b c d k) (ptT a b c d k) : Nat) : Int)
def fS4 (a b c d : Int) : Nat → Int
  | 0 => 0
  | k + 1 => if fS4 a b c d k = 0 then ptT a b c d k else fS4 a b c d k
theorem ptT_le {m a b c d : Int} (h : inT m a b c d = true) (k : Nat) : -m ≤ ptT a b c d k ∧ ptT a b c d k ≤ m := by
  obtain ⟨h1, h2, h3, h4⟩ := inT_iff.1 h
  match k with
  | 0 => exact h1
  | 1 => exact h2
  | 2 => exact h3
  | _ + 3 => exact h4
theorem gS4_le {a b c d : Int} (h : inT 1000 a b c d = true) (k : Nat) : -1000000 ≤ gS4 a b c d k ∧ gS4 a b c d k ≤ 1000000 := by
  have : 0 ≤ gS4 a b c d k ∧ gS4 a b c d k ≤ 1000 := by
    induction k with
    | zero => exact ⟨by show (0 : Int) ≤ 0; omega, by show (0 : Int) ≤ 1000; omega⟩
    | succ k ih => exact gcd_le (m := 1000) (by omega) (ptT_le h k)
  omega
theorem fS4_all (a b c d : Int) : fS4 a b c d 4 = fT a b c d := by
  unfold fT
  by_cases h1 : a = 0
  · by_cases h2 : b = 0
    · by_cases h3 : c = 0
      · simp [fS4, ptT, h1, h2, h3]
      · simp [fS4, ptT, h1, h2, h3]
    · simp [fS4, ptT, h1, h2]
  · simp [fS4, ptT, h1]
theorem fS4_z {a b c d : Int} {k : Nat} (h : fS4 a b c d k = 0) : fS4 a b c d (k + 1) = ptT a b c d k := by
  show (if fS4 a b c d k = 0 then ptT a b c d k else fS4 a b c d k) = _
  rw [if_pos h]
theorem fS4_n {a b c d : Int} {k : Nat} (h : fS4 a b c d k ≠ 0) : fS4 a b c d (k + 1) = fS4 a b c d k := by
  show (if fS4 a b c d k = 0 then ptT a b c d k else fS4 a b c d k) = _
  rw [if_neg h]
set_option maxHeartbeats 1000000 in
set_option maxRecDepth 100000 in
theorem reduced_any (a b c d : Int) (w : World) (h : inT 1000 a b c d = true) (hz : ¬ (a = 0 ∧ b = 0 ∧ c = 0 ∧ d = 0)) :
    Calls Tryz.prog 118 #[.agg #[.int .i64 a, .int .i64 b, .int .i64 c, .int .i64 d]] w fun e w' => e = .returned (.agg #[.int .i64 (a.tdiv (sT a b c d)), .int .i64 (b.tdiv (sT a b c d)), .int .i64 (c.tdiv (sT a b c d)), .int .i64 (d.tdiv (sT a b c d))]) ∧ Below w.heap.size w w' := by
  have i0 : ∀ w : World, (Instr.index 206 (.agg #[.int .i64 a, .int .i64 b, .int .i64 c, .int .i64 d]) (.int .i64 0)).run Tryz.prog w = .ok (.int .i64 a) w := fun _ => by kernel_rfl
  have i1 : ∀ w : World, (Instr.index 206 (.agg #[.int .i64 a, .int .i64 b, .int .i64 c, .int .i64 d]) (.int .i64 1)).run Tryz.prog w = .ok (.int .i64 b) w := fun _ => by kernel_rfl
  have i2 : ∀ w : World, (Instr.index 206 (.agg #[.int .i64 a, .int .i64 b, .int .i64 c, .int .i64 d]) (.int .i64 2)).run Tryz.prog w = .ok (.int .i64 c) w := fun _ => by kernel_rfl
  have i3 : ∀ w : World, (Instr.index 206 (.agg #[.int .i64 a, .int .i64 b, .int .i64 c, .int .i64 d]) (.int .i64 3)).run Tryz.prog w = .ok (.int .i64 d) w := fun _ => by kernel_rfl
  have HI := yz h
  have HZ := yz hz
  have HW : Hid (∀ (x s : Int), -1000 ≤ x ∧ x ≤ 1000 → wrap64 (x.tdiv s) = x.tdiv s) := yz (fun x s hx => by have := tdiv_le (s := s) hx; exact wrap_id (by omega) (by omega))
  clear h hz
  go_enter Tryz.func118, Tryz.ntmps118
  go_wp2_with fail
  refine (tparts_any a b c d _).mono ?_
  rintro e w1 ⟨rfl, hB1⟩
  have va : TurnAt w1 w.heap.size a b c d := ((turnAt_new w a b c d _).alloc _).kept (by simp; omega) hB1
  have vr : TurnAt w1 (w.heap.size + 1) 0 0 0 0 := (by simpa using turnAt_new (w.alloc _) 0 0 0 0 _ : TurnAt _ (w.heap.size + 1) 0 0 0 0).kept (by simp) hB1
  have fr : FreeT w1 (w.heap.size + 1) := (by simpa using freeT_new (w.alloc _) 0 0 0 0 _ : FreeT _ (w.heap.size + 1)).kept (by simp) hB1
  have hB : Below w.heap.size w w1 := below_call (below2 _ _ _) hB1
  clear hB1
  have Va := yz va
  have Vr := yz vr
  have Fr := yz fr
  have HB := yz hB
  clear va vr fr hB
  go_wp2_with fail
  go_loopw [3, 4, 9] (fun u f i wr => ∃ (k n : Nat), k ≤ 4 ∧ i = .int .i64 k ∧ u = .int .i64 (gS4 a b c d k) ∧ f = .int .i64 (fS4 a b c d k) ∧ wr = w1.drewN n) (fun _ _ i _ => 4 - (intOf i).toNat)
  case atStart => exact ⟨0, 0, by omega, rfl, rfl, rfl, rfl⟩
  case round =>
    obtain ⟨k, n, hk, rfl, rfl, rfl, rfl⟩ := hrel
    have hk5 : k = 0 ∨ k = 1 ∨ k = 2 ∨ k = 3 ∨ k = 4 := by omega
    rcases hk5 with rfl | rfl | rfl | rfl | rfl
    · go_wp2_with fail
      refine (shared_any _ a _ (gS4_le (yx HI) 0) (by have := ptT_le (yx HI) 0; simp only [ptT] at this; omega)).mono ?_
      rintro e w3 ⟨rfl, m, rfl⟩
      have hg : ((Int.gcd (gS4 a b c d 0) a : Nat) : Int) = gS4 a b c d 1 := rfl
      rw [hg]
      clear hg
      by_cases hf : fS4 a b c d 0 = 0
      · have HF := yz (fS4_z hf)
        rw [hf]
        clear hf
        go_wp2_with fail
        go_roundw
        case rel => exact ⟨1, n + m, by omega, rfl, rfl, by rw [yx HF]; rfl, by simp⟩
        case measure => simp [intOf]
      · have HF := yz (fS4_n hf)
        have hb : (fS4 a b c d 0 == 0) = false := by simpa using hf
        clear hf
        go_wp2_with fail
        go_roundw
        case rel => exact ⟨1, n + m, by omega, rfl, rfl, by rw [yx HF], by simp⟩
        case measure => simp [intOf]
    · go_wp2_with fail
      refine (shared_any _ b _ (gS4_le (yx HI) 1) (by have := ptT_le (yx HI) 1; simp only [ptT] at this; omega)).mono ?_
      rintro e w3 ⟨rfl, m, rfl⟩
      have hg : ((Int.gcd (gS4 a b c d 1) b : Nat) : Int) = gS4 a b c d 2 := rfl
      rw [hg]
      clear hg
      by_cases hf : fS4 a b c d 1 = 0
      · have HF := yz (fS4_z hf)
        rw [hf]
        clear hf
        go_wp2_with fail
        go_roundw
        case rel => exact ⟨2, n + m, by omega, rfl, rfl, by rw [yx HF]; rfl, by simp⟩
        case measure => simp [intOf]
      · have HF := yz (fS4_n hf)
        have hb : (fS4 a b c d 1 == 0) = false := by simpa using hf
        clear hf
        go_wp2_with fail
        go_roundw
        case rel => exact ⟨2, n + m, by omega, rfl, rfl, by rw [yx HF], by simp⟩
        case measure => simp [intOf]
    · go_wp2_with fail
      refine (shared_any _ c _ (gS4_le (yx HI) 2) (by have := ptT_le (yx HI) 2; simp only [ptT] at this; omega)).mono ?_
      rintro e w3 ⟨rfl, m, rfl⟩
      have hg : ((Int.gcd (gS4 a b c d 2) c : Nat) : Int) = gS4 a b c d 3 := rfl
      rw [hg]
      clear hg
      by_cases hf : fS4 a b c d 2 = 0
      · have HF := yz (fS4_z hf)
        rw [hf]
        clear hf
        go_wp2_with fail
        go_roundw
        case rel => exact ⟨3, n + m, by omega, rfl, rfl, by rw [yx HF]; rfl, by simp⟩
        case measure => simp [intOf]
      · have HF := yz (fS4_n hf)
        have hb : (fS4 a b c d 2 == 0) = false := by simpa using hf
        clear hf
        go_wp2_with fail
        go_roundw
        case rel => exact ⟨3, n + m, by omega, rfl, rfl, by rw [yx HF], by simp⟩
        case measure => simp [intOf]
    · go_wp2_with fail
      refine (shared_any _ d _ (gS4_le (yx HI) 3) (by have := ptT_le (yx HI) 3; simp only [ptT] at this; omega)).mono ?_
      rintro e w3 ⟨rfl, m, rfl⟩
      have hg : ((Int.gcd (gS4 a b c d 3) d : Nat) : Int) = gS4 a b c d 4 := rfl
      rw [hg]
      clear hg
      by_cases hf : fS4 a b c d 3 = 0
      · have HF := yz (fS4_z hf)
        rw [hf]
        clear hf
        go_wp2_with fail
        go_roundw
        case rel => exact ⟨4, n + m, by omega, rfl, rfl, by rw [yx HF]; rfl, by simp⟩
        case measure => simp [intOf]
      · have HF := yz (fS4_n hf)
        have hb : (fS4 a b c d 3 == 0) = false := by simpa using hf
        clear hf
        go_wp2_with fail
        go_roundw
        case rel => exact ⟨4, n + m, by omega, rfl, rfl, by rw [yx HF], by simp⟩
        case measure => simp [intOf]
    · have hg : gS4 a b c d 4 = gT a b c d := gcd_four a b c d
      rw [hg, fS4_all]
      clear hg i0 i1 i2 i3
      have hw : wrap64 (-gT a b c d) = -gT a b c d := by have := gS4_le (yx HI) 4; rw [show gS4 a b c d 4 = gT a b c d from gcd_four a b c d] at this; exact wrap_id (by omega) (by omega)
      have HE : Hid (∀ g, g = sT a b c d → Value.agg #[.int .i64 (wrap64 (a.tdiv g)), .int .i64 (wrap64 (b.tdiv g)), .int .i64 (wrap64 (c.tdiv g)), .int .i64 (wrap64 (d.tdiv g))] = .agg #[.int .i64 (a.tdiv (sT a b c d)), .int .i64 (b.tdiv (sT a b c d)), .int .i64 (c.tdiv (sT a b c d)), .int .i64 (d.tdiv (sT a b c d))]) := yz (by
        rintro g rfl
        obtain ⟨x1, x2, x3, x4⟩ := inT_iff.1 (yx HI)
        rw [yx HW _ _ x1, yx HW _ _ x2, yx HW _ _ x3, yx HW _ _ x4])
      have HN : Hid (sT a b c d ≠ 0) := yz (sT_ne (yx HZ))
      have va : TurnAt (w1.drewN n) w.heap.size a b c d := yx Va
      have vr : TurnAt (w1.drewN n) (w.heap.size + 1) 0 0 0 0 := yx Vr
      have fr : FreeT (w1.drewN n) (w.heap.size + 1) := yx Fr
      have hB : Below w.heap.size w (w1.drewN n) := below_call (yx HB) (below_drewN _ _)
      clear Va Vr Fr HB HW HI HZ
      by_cases hf : fT a b c d < 0
      · have hs : sT a b c d = -gT a b c d := by unfold sT; rw [if_pos hf]
        have HG := yz hs.symm
        rw [hs] at HN
        go_wp2_with fail
        rw [hw]
        generalize -gT a b c d = g at HN HG ⊢
        clear hw hs hf
        have hne : g ≠ 0 := yx HN
        have hz0 : (g == 0) = false := by simpa using hne
        generalize w1.drewN n = w3 at va vr fr hB ⊢
        obtain ⟨ca0, ca1, ca2, ca3⟩ := va
        obtain ⟨cr0, cr1, cr2, cr3⟩ := vr
        obtain ⟨fr0, fr1, fr2, fr3⟩ := fr
        go_region
        go_wp2
        exact bodyPost_ret (v := _) (by simp [results, Tryz.results118, go_sem, cr0, cr1, cr2, cr3]) rfl ⟨congrArg _ (yx HE g (yx HG)), (below_set4 hB (by omega) _ _ _ _).drew⟩
      · have hs : sT a b c d = gT a b c d := by unfold sT; rw [if_neg hf]
        have HG := yz hs.symm
        rw [hs] at HN
        go_wp2_with fail
        generalize gT a b c d = g at HN HG ⊢
        clear hw hs hf
        have hne : g ≠ 0 := yx HN
        have hz0 : (g == 0) = false := by simpa using hne
        generalize w1.drewN n = w3 at va vr fr hB ⊢
        obtain ⟨ca0, ca1, ca2, ca3⟩ := va
        obtain ⟨cr0, cr1, cr2, cr3⟩ := vr
        obtain ⟨fr0, fr1, fr2, fr3⟩ := fr
        go_region
        go_wp2
        exact bodyPost_ret (v := _) (by simp [results, Tryz.results118, go_sem, cr0, cr1, cr2, cr3]) rfl ⟨congrArg _ (yx HE g (yx HG)), (below_set4 hB (by omega) _ _ _ _).drew⟩
theorem zeroT_false {a b c d : Int} (h : zeroT a b c d = false) : ¬ (a = 0 ∧ b = 0 ∧ c = 0 ∧ d = 0) := fun e => by rw [zeroT_iff.2 e] at h; exact absurd h (by decide)
theorem rightT_zero {a b c d : Int} (h : zeroT a b c d = true) : rightT a b c d = false := by
  cases hr : rightT a b c d
  · rfl
  · exact absurd (zeroT_iff.1 h) (rightT_ne hr)
set_option maxRecDepth 100000 in
theorem turnRight_any (a b c d : Int) (w : World) :
    Calls Tryz.prog 74 #[.agg #[.int .i64 a, .int .i64 b, .int .i64 c, .int .i64 d]] w fun e w' => e = .returned (.bool (rightT a b c d)) ∧ Below w.heap.size w w' := by
  have hn := fun w => neq_turn a b c d 0 0 0 0 w
  have va0 := turnAt_new w a b c d 35
  have hB0 := below1 w (.cells #[.int .i64 a, .int .i64 b, .int .i64 c, .int .i64 d] 35)
  cases hz : eqT a b c d 0 0 0 0
  · rw [hz] at hn
    have HZ := yz (zeroT_false (show zeroT a b c d = false from hz))
    cases h5 : inT 5 a b c d
    · have HR : Hid (rightT a b c d = false) := yz (by rw [rightT, h5]; rfl)
      have cW := yz (fun W => (twithin_any 5 a b c d W (by omega) (by omega)).mono (fun e w' h => (⟨by rw [h.1, h5], h.2⟩ : e = .returned (.bool false) ∧ Below W.heap.size W w')))
      clear h5 hz
      go_enter Tryz.func74, Tryz.ntmps74
      go_wp2_with fail
      generalize w.alloc (.cells #[.int .i64 a, .int .i64 b, .int .i64 c, .int .i64 d] 35) = w1 at va0 hB0 ⊢
      obtain ⟨c0, c1, c2, c3⟩ := va0
      have k0 := cell_regrown c0
      have k1 := cell_regrown c1
      have k2 := cell_regrown c2
      have k3 := cell_regrown c3
      refine wp_region_quiet_below (by kernel_rfl) (by kernel_rfl) ?_
      repeat (quiet_step (exact Calls.regrown_of (yx cW _)))
      refine wpQuiet_nil ?_
      intro _ hw'
      obtain ⟨⟨dq, osq⟩, hw''⟩ := hw'
      subst hw''
      clear c0 c1 c2 c3 k0 k1 k2 k3 hn
      go_wp2
      go_ret
      exact ⟨by rw [yx HR]; rfl, below_call hB0 (below_regrown w1 dq osq)⟩
    · have HR := yz (right_reduced (yx HZ))
      have HT : Hid (rightT a b c d = (decide (0 < fT a b c d) && decide (gT a b c d = 1))) := yz (by rw [rightT, h5, Bool.true_and])
      have cW := yz (fun W => (twithin_any 5 a b c d W (by omega) (by omega)).mono (fun e w' h => (⟨by rw [h.1, h5], h.2⟩ : e = .returned (.bool true) ∧ Below W.heap.size W w')))
      have cR := yz (fun W => reduced_any a b c d W (inT_mono h5 (by omega)) (yx HZ))
      have he := fun w => eql_turn a b c d (a.tdiv (sT a b c d)) (b.tdiv (sT a b c d)) (c.tdiv (sT a b c d)) (d.tdiv (sT a b c d)) w
      rw [yx HR] at he
      clear h5 hz HZ HR
      go_enter Tryz.func74, Tryz.ntmps74
      go_wp2_with fail
      generalize w.alloc (.cells #[.int .i64 a, .int .i64 b, .int .i64 c, .int .i64 d] 35) = w1 at va0 hB0 ⊢
      obtain ⟨c0, c1, c2, c3⟩ := va0
      have k0 := cell_regrown c0
      have k1 := cell_regrown c1
      have k2 := cell_regrown c2
      have k3 := cell_regrown c3
      refine wp_region_quiet_below (by kernel_rfl) (by kernel_rfl) ?_
      repeat (quiet_step (first | (with_reducible exact Calls.regrown_of (yx cW _)) | (with_reducible exact Calls.regrown_of (yx cR _))))
      refine wpQuiet_nil ?_
      intro _ hw'
      obtain ⟨⟨dq, osq⟩, hw''⟩ := hw'
      subst hw''
      clear c0 c1 c2 c3 k0 k1 k2 k3 hn he
      go_wp2
      go_ret
      exact ⟨by rw [yx HT]; rfl, below_call hB0 (below_regrown w1 dq osq)⟩
  · rw [hz] at hn
    have HR := yz (rightT_zero (show zeroT a b c d = true from hz))
    clear hz
    go_enter Tryz.func74, Tryz.ntmps74
    go_wp2_with fail
    generalize w.alloc (.cells #[.int .i64 a, .int .i64 b, .int .i64 c, .int .i64 d] 35) = w1 at va0 hB0 ⊢
    obtain ⟨c0, c1, c2, c3⟩ := va0
    have k0 := cell_regrown c0
    have k1 := cell_regrown c1
    have k2 := cell_regrown c2
    have k3 := cell_regrown c3
    refine wp_region_quiet_below (by kernel_rfl) (by kernel_rfl) ?_
    repeat (quiet_step (fail))
    refine wpQuiet_nil ?_
    intro _ hw'
    obtain ⟨⟨dq, osq⟩, hw''⟩ := hw'
    subst hw''
    clear c0 c1 c2 c3 k0 k1 k2 k3 hn
    go_wp2
    go_ret
    exact ⟨by rw [yx HR]; rfl, below_call hB0 (below_regrown w1 dq osq)⟩
theorem ap_none {a b c d x y z : Int} (h : apR a b c d x y z = false) : Value.agg #[.int .i64 (apI (apR a b c d x y z) (apX a b c d x y z)), .int .i64 (apI (apR a b c d x y z) (apY a b c d x y z)), .int .i64 (apI (apR a b c d x y z) (apZ a b c d x y z))] = Value.agg #[.int .i64 0, .int .i64 0, .int .i64 0] := by
  rw [h]; rfl
theorem ap_some {a b c d x y z : Int} (h : apR a b c d x y z = true) : Value.agg #[.int .i64 (apI (apR a b c d x y z) (apX a b c d x y z)), .int .i64 (apI (apR a b c d x y z) (apY a b c d x y z)), .int .i64 (apI (apR a b c d x y z) (apZ a b c d x y z))] = Value.agg #[.int .i64 (apX a b c d x y z), .int .i64 (apY a b c d x y z), .int .i64 (apZ a b c d x y z)] := by
  rw [h]; rfl
theorem wide_in {x y z : Int} (h : wideB x y z = true) : withinB 1800 x y z = true := by unfold wideB at h; rw [Bool.and_eq_true] at h; exact h.2
set_option maxHeartbeats 1000000 in
set_option maxRecDepth 100000 in
theorem l03Apply_any (a b c d x y z : Int) (w : World) (ht : inT 5 a b c d = true) (hv : withinB 1800 x y z = true) :
    Calls Tryz.prog 176 #[.agg #[.int .i64 a, .int .i64 b, .int .i64 c, .int .i64 d], .agg #[.int .i64 x, .int .i64 y, .int .i64 z]] w fun e w' => e = .returned (.agg #[.int .i64 (apX a b c d x y z), .int .i64 (apY a b c d x y z), .int .i64 (apZ a b c d x y z)]) ∧ Below w.heap.size w w' := by
  have HX := yz (apW_X ht hv)
  have HY := yz (apW_Y ht hv)
  have HZ := yz (apW_Z ht hv)
  clear ht hv
  go_enter Tryz.func176, Tryz.ntmps176
  go_wp2
  rw [yx HX, yx HY, yx HZ]
  exact bodyPost_ret (v := .agg #[.int .i64 (apX a b c d x y z), .int .i64 (apY a b c d x y z), .int .i64 (apZ a b c d x y z)]) (by simp [results, Tryz.results176, go_sem]) rfl ⟨rfl, below3 _ _ _ _⟩
set_option maxHeartbeats 1000000 in
set_option maxRecDepth 100000 in
theorem apply_any (a b c d x y z : Int) (w : World) :
    Calls Tryz.prog 200 #[.agg #[.int .i64 a, .int .i64 b, .int .i64 c, .int .i64 d], .agg #[.int .i64 x, .int .i64 y, .int .i64 z]] w fun e w' => e = .returned (.agg #[.int .i64 (apI (apR a b c d x y z) (apX a b c d x y z)), .int .i64 (apI (apR a b c d x y z) (apY a b c d x y z)), .int .i64 (apI (apR a b c d x y z) (apZ a b c d x y z))]) ∧ Below w.heap.size w w' := by
  go_enter Tryz.func200, Tryz.ntmps200
  go_wp2_with fail
  refine (turnRight_any a b c d _).mono ?_
  rintro e w1 ⟨rfl, hx⟩
  have va : TurnAt w1 w.heap.size a b c d := (((turnAt_new w a b c d _).alloc _).alloc _).kept (by simp; omega) hx
  have vv : VecAt w1 (w.heap.size + 1) x y z := ((by simpa using vecAt_new (w.alloc _) x y z _ : VecAt _ (w.heap.size + 1) x y z).alloc (by simp) _).kept (by simp) hx
  have vr : VecAt w1 (w.heap.size + 1 + 1) 0 0 0 := (by simpa using vecAt_new ((w.alloc _).alloc _) 0 0 0 _ : VecAt _ (w.heap.size + 1 + 1) 0 0 0).kept (by simp) hx
  have fr : FreeAt w1 (w.heap.size + 1 + 1) := (by simpa using freeAt_new ((w.alloc _).alloc _) 0 0 0 _ : FreeAt _ (w.heap.size + 1 + 1)).kept (by simp) hx
  have hs : w.heap.size + 2 < w1.heap.size := by have := hx.size; simp at this; omega
  have hB : Below w.heap.size w w1 := below_call (below3 _ _ _ _) hx
  clear hx
  cases h1 : rightT a b c d
  · have HR := yz (ap_none (a := a) (b := b) (c := c) (d := d) (x := x) (y := y) (z := z) (by rw [apR, h1]; rfl))
    obtain ⟨cr0, cr1, cr2⟩ := vr
    obtain ⟨fr0, fr1, fr2⟩ := fr
    go_wp2_with fail
    exact bodyPost_ret (v := .agg #[.int .i64 0, .int .i64 0, .int .i64 0]) (by simp [results, Tryz.results200, go_sem, cr0, cr1, cr2]) rfl ⟨by rw [yx HR], below_set3 hB (by omega) _ _ _⟩
  · have wa := va
    have wv := vv
    obtain ⟨ca0, ca1, ca2, ca3⟩ := wa
    obtain ⟨cv0, cv1, cv2⟩ := wv
    go_wp2_with fail
    clear ca0 ca1 ca2 ca3 cv0 cv1 cv2
    refine (isWide_any x y z _).mono ?_
    rintro e w2 ⟨rfl, hx⟩
    replace va := va.kept (by omega) hx
    replace vv := vv.kept (by omega) hx
    replace vr := vr.kept (by omega) hx
    replace fr := fr.kept (by omega) hx
    replace hB := below_call hB hx
    replace hs : w.heap.size + 2 < w2.heap.size := by have := hx.size; omega
    clear hx
    cases h2 : wideB x y z
    · have HR := yz (ap_none (a := a) (b := b) (c := c) (d := d) (x := x) (y := y) (z := z) (by rw [apR, h1, h2]; rfl))
      obtain ⟨cr0, cr1, cr2⟩ := vr
      obtain ⟨fr0, fr1, fr2⟩ := fr
      go_wp2_with fail
      exact bodyPost_ret (v := .agg #[.int .i64 0, .int .i64 0, .int .i64 0]) (by simp [results, Tryz.results200, go_sem, cr0, cr1, cr2]) rfl ⟨by rw [yx HR], below_set3 hB (by omega) _ _ _⟩
    · have wa := va
      have wv := vv
      obtain ⟨ca0, ca1, ca2, ca3⟩ := wa
      obtain ⟨cv0, cv1, cv2⟩ := wv
      have HR := yz (ap_some (a := a) (b := b) (c := c) (d := d) (x := x) (y := y) (z := z) (by rw [apR, h1, h2]; rfl))
      have HX := yz (apW_X (rightT_iff.1 h1).1 (wide_in h2))
      have HY := yz (apW_Y (rightT_iff.1 h1).1 (wide_in h2))
      have HZ := yz (apW_Z (rightT_iff.1 h1).1 (wide_in h2))
      obtain ⟨cr0, cr1, cr2⟩ := vr
      obtain ⟨fr0, fr1, fr2⟩ := fr
      clear va vv h1 h2
      go_wp2
      go_quiet (fail)
      go_wp2
      go_quiet (fail)
      go_wp2
      go_quiet (fail)
      go_wp2
      rw [yx HX, yx HY, yx HZ]
      exact bodyPost_ret (v := .agg #[.int .i64 (apX a b c d x y z), .int .i64 (apY a b c d x y z), .int .i64 (apZ a b c d x y z)]) (by simp [results, Tryz.results200, go_sem, cr0, cr1, cr2]) rfl ⟨by rw [yx HR], below_set3 (below_call hB (below_drewN _ _)) (by omega) _ _ _⟩
theorem info_i64 : (Tryz.prog.info? 2).map (fun i => (i.zero, i.size, i.bytes)) = some (some (.int .i64 0), 1, 8) := by kernel_rfl
theorem RowV.made {w' : World} {B b n : Nat} {v : Value} {t : TypeId} {c : Nat} {xs : List Value} {f : Nat → Value} (h : w'.ownsRow B t c (.slice (some ⟨b, 0, none⟩) n n) n xs) (hf : ∀ j, j < n * c → xs[j]? = some (f j)) : RowV w' t b (n * c) f := by
  rcases h.2 with ⟨h', _⟩ | ⟨g, cap, cur, hv, _, hg, _, _, _, htake⟩
  · simp at h'
  · simp only [Value.slice.injEq, Option.some.injEq, Addr.mk.injEq, and_true, true_and] at hv
    obtain ⟨rfl, rfl⟩ := hv
    refine ⟨cur, hg, fun j hj => ?_⟩
    have e := hf j hj
    rw [← htake, List.getElem?_take, if_pos hj] at e
    simpa using e
theorem below_grownN {w w' : World} (h : w.grownBy w' none) : Below w.heap.size w w' := ⟨h.os, h.tape, h.output, h.size, fun k hk => h.block k hk (by simp)⟩
theorem apply_small (a b c d : Int) (v : D3) (w : World) (ht : rightT a b c d = true) (hv : smallB v.1 v.2.1 v.2.2 = true) :
    Calls Tryz.prog 200 #[.agg #[.int .i64 a, .int .i64 b, .int .i64 c, .int .i64 d], .agg #[.int .i64 v.1, .int .i64 v.2.1, .int .i64 v.2.2]] w fun e w' => e = .returned (.agg #[.int .i64 (apD a b c d v).1, .int .i64 (apD a b c d v).2.1, .int .i64 (apD a b c d v).2.2]) ∧ Below w.heap.size w w' := by
  refine (apply_any a b c d v.1 v.2.1 v.2.2 w).mono fun e w' h => ?_
  have hr : apR a b c d v.1 v.2.1 v.2.2 = true := by unfold apR; rw [ht, small_wideB hv]; rfl
  rw [hr] at h
  exact h
theorem TurnAt.same {w w' : World} {b : Nat} {p q r s : Int} (h : TurnAt w b p q r s) (e : w'.heap[b]? = w.heap[b]?) : TurnAt w' b p q r s := by
  obtain ⟨h0, h1, h2, h3⟩ := h
  exact ⟨(World.cell?_of_block (a := ⟨b, _, none⟩) e).trans h0, (World.cell?_of_block (a := ⟨b, _, none⟩) e).trans h1, (World.cell?_of_block (a := ⟨b, _, none⟩) e).trans h2, (World.cell?_of_block (a := ⟨b, _, none⟩) e).trans h3⟩
structure MSt (w wr : World) (g m : Nat) (a b c d : Int) (f : Nat → Value) : Prop where
  row : RowV wr 2 g (m * 1) f
  tur : TurnAt wr w.heap.size a b c d
  bel : Below w.heap.size w wr
  lo : w.heap.size < g
theorem MSt.kept {w wr wy : World} {g m : Nat} {a b c d : Int} {f : Nat → Value} (h : MSt w wr g m a b c d f) (hB : Below wr.heap.size wr wy) : MSt w wy g m a b c d f :=
  ⟨h.row.kept hB, h.tur.kept h.tur.lt hB, below_call h.bel hB, h.lo⟩
theorem MSt.set {w wr : World} {g m : Nat} {a b c d : Int} {f : Nat → Value} (h : MSt w wr g m a b c d f) (i : Nat) (v : Value) : MSt w (wr.setCell ⟨g, i, none⟩ v) g m a b c d (fun j => if j = i then v else f j) :=
  ⟨h.row.set i v, h.tur.same (heap_setCell_other wr ⟨g, i, none⟩ w.heap.size v (by have := h.lo; show w.heap.size ≠ g; omega)), h.bel.setCell (by have := h.lo; show w.heap.size ≤ g; omega) _, h.lo⟩
theorem MSt.congr {w wr : World} {g m : Nat} {a b c d : Int} {f f' : Nat → Value} (h : MSt w wr g m a b c d f) (e : ∀ j, j < m → f j = f' j) : MSt w wr g m a b c d f' := ⟨h.row.congr (fun j hj => e j (by omega)), h.tur, h.bel, h.lo⟩
def rowM (S : List D3) (fin : D3 → Int) (i : Nat) (x : Int) (j : Nat) : Value := .int .i64 (if j < i then fin (vA S j) else if j = i then x else 0)
set_option maxHeartbeats 4000000 in
set_option maxRecDepth 100000 in
theorem implMatchAt_any (L : List St) (S : List D3) (ar br : Option Addr) (cr dr : Nat) (a b c d : Int) (p : Addr) (w : World) (hn : L.length ≤ 1048576) (hcap : L.length ≤ cr) (hc9 : cr ≤ 9223372036854775807) (hn2 : S.length ≤ 1048576) (hcap2 : S.length ≤ dr) (hd9 : dr ≤ 9223372036854775807) (hS : Stars w ar L L.length) (hD : Dirs w br S S.length) (hE : ErrSky p w) :
    Calls Tryz.prog 183 #[.slice ar L.length cr, .agg #[.int .i64 a, .int .i64 b, .int .i64 c, .int .i64 d], .slice br S.length dr] w fun e w' => (∃ v, e = .returned v ∧ PRow w' 2 1 w.heap.size w'.heap.size (matchL L a b c d S).length v (fun j => .int .i64 ((matchL L a b c d S).getD j 0))) ∧ Below w.heap.size w w' := by
  obtain ⟨i0, hinf, hz0, hz1, hz2⟩ := info_parts info_i64
  have cK := yz (fun (W : World) hW hE => skyRight_any L ar cr p W hn hcap hc9 hW hE)
  have cP := yz (fun (W : World) hW => spotsRight_any S br dr W hn2 hcap2 hd9 hW)
  have H1 : Hid (skyB L = false → matchL L a b c d S = []) := yz match_no1
  have H2 : Hid (rightT a b c d = false → matchL L a b c d S = []) := yz match_no2
  have H3 : Hid (spotsB S = false → matchL L a b c d S = []) := yz match_no3
  have H4 : Hid (skyB L = true → rightT a b c d = true → spotsB S = true → matchL L a b c d S = S.map (fun v => idTo L a b c d v L.length)) := yz match_yes
  have H5 : Hid (skyB L = true → L.length ≤ 12 ∧ ∀ j, j < L.length → smallB (stA L j).2.1 (stA L j).2.2.1 (stA L j).2.2.2 = true) := yz (fun h => ⟨(sky_ok h).1, fun j hj => ok_small ((sky_ok h).2 j hj)⟩)
  have H6 : Hid (spotsB S = true → S.length ≤ 6) := yz (fun h => (spots_ok h).1)
  have HS := yz hS
  have HD := yz hD
  have HE := yz hE
  clear hS hD hE
  generalize matchL L a b c d S = R at *
  generalize hml : S.length = m at *
  have HML := yz hml
  clear hml
  generalize L.length = n at *
  clear hcap hcap2 hc9 hd9
  have T0 := turnAt_new w a b c d 35
  have B0 := below1 w (.cells #[.int .i64 a, .int .i64 b, .int .i64 c, .int .i64 d] 35)
  go_enter Tryz.func183, Tryz.ntmps183
  go_wp2_with fail
  generalize w.alloc (.cells #[.int .i64 a, .int .i64 b, .int .i64 c, .int .i64 d] 35) = W0 at T0 B0 ⊢
  refine (yx cK _ ((yx HS).kept B0) ((yx HE).kept B0)).mono ?_
  rintro e W1 ⟨rfl, hx⟩
  have T1 := T0.kept T0.lt hx
  have B1 := below_call B0 hx
  clear hx T0 B0
  cases hk : skyB L
  · obtain rfl := yx H1 hk
    go_wp2_with fail
    go_ret
    exact ⟨⟨_, rfl, .inl ⟨rfl, _, _, rfl⟩⟩, B1⟩
  have wT := T1
  obtain ⟨t0, t1, t2, t3⟩ := wT
  go_wp2_with fail
  clear t0 t1 t2 t3
  refine (turnRight_any a b c d _).mono ?_
  rintro e W2 ⟨rfl, hx⟩
  have T2 := T1.kept T1.lt hx
  have B2 := below_call B1 hx
  clear hx T1 B1
  cases hr : rightT a b c d
  · obtain rfl := yx H2 hr
    go_wp2_with fail
    go_ret
    exact ⟨⟨_, rfl, .inl ⟨rfl, _, _, rfl⟩⟩, B2⟩
  go_wp2_with fail
  refine (yx cP _ ((yx HD).kept B2)).mono ?_
  rintro e W3 ⟨rfl, hx⟩
  have T3 := T2.kept T2.lt hx
  have B3 := below_call B2 hx
  clear hx T2 B2
  cases hp : spotsB S
  · obtain rfl := yx H3 hp
    go_wp2_with fail
    go_ret
    exact ⟨⟨_, rfl, .inl ⟨rfl, _, _, rfl⟩⟩, B3⟩
  have HR := yz (yx H4 hk hr hp)
  obtain ⟨hn12, hsm⟩ := yx H5 hk
  have hm6 := yx H6 hp
  have HSM := yz hsm
  have HRT := yz hr
  clear hsm hk hr hp H1 H2 H3 H4 H5 H6 cK cP
  go_wp2_with (at_make; refine wpList_make_full _ rfl _ _ 188 rfl W3.heap.size 2 i0 (.int .i64 0) 1 Tryz.underlying188 hinf hz0 hz1 .i64 .i64 _ _ m rfl rfl rfl rfl (by rw [hz2]; omega) (by unfold maxLen; omega) (Nat.le_refl _) ?_; intro w0 hown0 hgrow0)
  have hg3 : w.heap.size < W3.heap.size := T3.lt
  have hzero : ∀ j, j < m * 1 → (madeCells (Value.int .i64 0).cells (m * 1)).toList[j]? = some (rowM S (fun v => idTo L a b c d v n) 0 0 j) := by
    intro j hj
    have e : (Value.int .i64 0).cells = #[.int .i64 0] := rfl
    rw [e, toList_madeCells_one]
    have : rowM S (fun v => idTo L a b c d v n) 0 0 j = .int .i64 0 := by unfold rowM; rw [if_neg (by omega)]; split <;> rfl
    rw [this]
    simp at hj
    simp [hj]
  have HM : Hid (MSt w w0 W3.heap.size m a b c d (rowM S (fun v => idTo L a b c d v n) 0 0)) := yz ⟨RowV.made (v := .nilIface) hown0 hzero, T3.kept T3.lt (below_grownN hgrow0), below_call B3 (below_grownN hgrow0), hg3⟩
  clear hzero hown0 hgrow0 T3 B3 hg3
  generalize W3.heap.size = g at *
  clear W3
  go_loopw [30] (fun kk wr => ∃ i : Nat, i ≤ m ∧ kk = .int .i64 i ∧ Hid (MSt w wr g m a b c d (rowM S (fun v => idTo L a b c d v n) i 0))) (fun kk _ => m - (intOf kk).toNat)
  case atStart => exact ⟨0, by omega, rfl, HM⟩
  case round =>
    clear HM
    obtain ⟨i, hi, rfl, HM⟩ := hrel
    by_cases him : i < m
    · have him2 : (i : Int) < (m : Int) := by omega
      rcases yx HD with h | ⟨bb, bo, rfl, hbb, hbc⟩
      · omega
      have hst := (hbc i him).kept hbb (yx HM).bel
      clear hbc
      obtain ⟨⟨v1, v2, v3⟩, hv⟩ : ∃ v, vA S i = v := ⟨_, rfl⟩
      rw [hv] at hst
      obtain ⟨c0, c1, c2⟩ := hst
      have HV := yz hv
      clear hv
      have Z := below1 wr (.cells #[.int .i64 v1, .int .i64 v2, .int .i64 v3] 111)
      have HM1 := yz ((yx HM).kept Z)
      have HV1 := yz (vecAt_new wr v1 v2 v3 111)
      have hvg : g < wr.heap.size := (yx HM).row.lt
      clear Z HM
      go_wp2_with fail
      clear c0 c1 c2
      generalize wr.alloc (.cells #[.int .i64 v1, .int .i64 v2, .int .i64 v3] 111) = W1 at HM1 HV1 ⊢
      generalize wr.heap.size = vb at *
      rcases yx HS with h0 | ⟨sb, so, rfl, hsb, hsc⟩
      · subst h0
        refine wp_loop_rounds 1 ?_
        rw [rounds_succ]
        have HM2 : Hid (MSt w W1 g m a b c d (rowM S (fun v => idTo L a b c d v 0) (i + 1) 0)) := yz ((yx HM1).congr (fun j hj => by
          unfold rowM
          by_cases h : j < i
          · rw [if_pos h, if_pos (by omega)]
          · rw [if_neg h]
            by_cases h2 : j = i
            · rw [if_pos h2, if_pos (by omega)]; rfl
            · rw [if_neg h2, if_neg (by omega)]
              split <;> rfl))
        go_wp2_with fail
        go_roundw
        case rel => exact ⟨i + 1, by omega, by go_num, HM2⟩
        case measure => simp [intOf]; omega
      have HSC := yz hsc
      clear hsc
      go_loopw [37] (fun kk wr => ∃ k : Nat, k ≤ n ∧ kk = .int .i64 k ∧ Hid (MSt w wr g m a b c d (rowM S (fun v => idTo L a b c d v n) i (idTo L a b c d (v1, v2, v3) k))) ∧ Hid (VecAt wr vb v1 v2 v3)) (fun kk _ => n - (intOf kk).toNat)
      case atStart => exact ⟨0, by omega, rfl, HM1, HV1⟩
      case round =>
        clear HM1 HV1
        obtain ⟨k, hk, rfl, HM, HV1⟩ := hrel
        by_cases hkn : k < n
        · have hkn2 : (k : Int) < (n : Int) := by omega
          have hst := (yx HSC k hkn).kept hsb (yx HM).bel
          have hsm := yx HSM k hkn
          have HID : Hid (idTo L a b c d (v1, v2, v3) (k + 1) = if sameD (v1, v2, v3) (apD a b c d (stA L k).2) = true then (stA L k).1 else idTo L a b c d (v1, v2, v3) k) := yz rfl
          obtain ⟨⟨s1, s2, s3, s4⟩, hs⟩ : ∃ s, stA L k = s := ⟨_, rfl⟩
          rw [hs] at hst hsm HID
          clear hs
          obtain ⟨c0, c1, c2, c3⟩ := hst
          have cA := yz (fun W => apply_small a b c d (s2, s3, s4) W (yx HRT) hsm)
          have HID' : Hid (idTo L a b c d (v1, v2, v3) (k + 1) = if sameD (v1, v2, v3) (apD a b c d (s2, s3, s4)) = true then s1 else idTo L a b c d (v1, v2, v3) k) := HID
          clear HID hsm
          generalize apD a b c d (s2, s3, s4) = q at *
          obtain ⟨q1, q2, q3⟩ := q
          have cS : Hid (∀ W : World, Calls Tryz.prog 156 #[.agg #[.int .i64 v1, .int .i64 v2, .int .i64 v3], .agg #[.int .i64 q1, .int .i64 q2, .int .i64 q3]] W fun e w' => e = .returned (.bool (sameD (v1, v2, v3) (q1, q2, q3))) ∧ Below W.heap.size W w') := yz (fun W => sameWay_any v1 v2 v3 q1 q2 q3 W)
          generalize sameD (v1, v2, v3) (q1, q2, q3) = sm at *
          simp only at cA
          have Z := below1 wr (.cells #[.int .i64 s1, .int .i64 s2, .int .i64 s3, .int .i64 s4] 113)
          have HM2 := yz ((yx HM).kept Z)
          have HV2 := yz ((yx HV1).kept (vltD (yx HV1)) Z)
          have N2 := starAt_new wr (s1, s2, s3, s4) 113
          clear Z HM HV1
          go_wp2_with fail
          clear c0 c1 c2 c3
          generalize wr.alloc (.cells #[.int .i64 s1, .int .i64 s2, .int .i64 s3, .int .i64 s4] 113) = W2 at HM2 HV2 N2 ⊢
          have HN2 := yz N2
          obtain ⟨c0, c1, c2, c3⟩ := N2
          simp only [Nat.zero_add] at c0 c1 c2 c3
          obtain ⟨d0, d1, d2⟩ := yx HV2
          obtain ⟨e0, e1, e2, e3⟩ := (yx HM2).tur
          have r0 := cell_regrown c0
          have r1 := cell_regrown c1
          have r2 := cell_regrown c2
          have r3 := cell_regrown c3
          have x0 := cell_regrown d0
          have x1 := cell_regrown d1
          have x2 := cell_regrown d2
          have y0 := cell_regrown e0
          have y1 := cell_regrown e1
          have y2 := cell_regrown e2
          have y3 := cell_regrown e3
          have hsl := World.block_lt_of_cell? _ _ c0
          clear c0 c1 c2 c3 d0 d1 d2 e0 e1 e2 e3
          generalize wr.heap.size = sb2 at *
          refine wp_region_quiet_below (by kernel_rfl) (by kernel_rfl) ?_
          repeat (go_big_quiet_step (first | (with_reducible exact Calls.regrown_of (yx cA _)) | (with_reducible exact Calls.regrown_of (yx cS _))))
          refine wpQuiet_nil ?_
          intro _ hw'
          obtain ⟨⟨dq, osq⟩, hw''⟩ := hw'
          subst hw''
          have hx := below_regrown W2 dq osq
          have HM3 := yz ((yx HM2).kept hx)
          have HV3 := yz ((yx HV2).kept (vltD (yx HV2)) hx)
          have N3 := (yx HN2).kept hsl hx
          generalize grow (redrawn W2 dq) osq = W3 at hx HM3 HV3 N3 ⊢
          clear hx cA cS r0 r1 r2 r3 x0 x1 x2 y0 y1 y2 y3 HM2 HV2 HN2
          cases sm
          · rw [if_neg (by simp)] at HID'
            have HM4 : Hid (MSt w W3 g m a b c d (rowM S (fun v => idTo L a b c d v n) i (idTo L a b c d (v1, v2, v3) (k + 1)))) := yz (by rw [yx HID']; exact yx HM3)
            go_wp2_with fail
            go_roundw
            case rel => exact ⟨k + 1, by omega, by go_num, HM4, HV3⟩
            case measure => simp [intOf]; omega
          · rw [if_pos rfl] at HID'
            obtain ⟨c0, c1, c2, c3⟩ := N3
            simp only [Nat.zero_add] at c0 c1 c2 c3
            have f0 := (yx HM3).row.cell (j := i) (by omega)
            have f1 := (yx HM3).row.free i
            have HM4 : Hid (MSt w (W3.setCell ⟨g, i, none⟩ (.int .i64 s1)) g m a b c d (rowM S (fun v => idTo L a b c d v n) i (idTo L a b c d (v1, v2, v3) (k + 1)))) := yz (((yx HM3).set i (.int .i64 s1)).congr (fun j hj => by
              rw [yx HID']
              unfold rowM
              by_cases h : j = i
              · rw [if_pos h, if_neg (by omega), if_pos h]
              · rw [if_neg h, if_neg h, if_neg h]))
            have HV4 : Hid (VecAt (W3.setCell ⟨g, i, none⟩ (.int .i64 s1)) vb v1 v2 v3) := yz (by
              have e := heap_setCell_other W3 ⟨g, i, none⟩ vb (.int .i64 s1) (by show vb ≠ g; omega)
              obtain ⟨h0, h1, h2⟩ := yx HV3
              exact ⟨(World.cell?_of_block (a := ⟨vb, _, none⟩) e).trans h0, (World.cell?_of_block (a := ⟨vb, _, none⟩) e).trans h1, (World.cell?_of_block (a := ⟨vb, _, none⟩) e).trans h2⟩)
            clear HM3 HV3
            go_wp2_with fail
            go_roundw
            case rel => exact ⟨k + 1, by omega, by go_num, HM4, HV4⟩
            case measure => simp [intOf]; omega
        · have hkn' : k = n := by omega
          have HM2 : Hid (MSt w wr g m a b c d (rowM S (fun v => idTo L a b c d v n) (i + 1) 0)) := yz ((yx HM).congr (fun j hj => by
            unfold rowM
            by_cases h : j < i
            · rw [if_pos h, if_pos (by omega)]
            · rw [if_neg h]
              by_cases h2 : j = i
              · rw [if_pos h2, if_pos (by omega), h2, yx HV, hkn']
              · rw [if_neg h2, if_neg (by omega)]
                split <;> rfl))
          clear HM
          go_wp2_with fail
          go_roundw
          case rel => exact ⟨i + 1, by omega, by go_num, HM2⟩
          case measure => simp [intOf]; omega
    · have him' : i = m := by omega
      subst him'
      have HP : Hid (PRow wr 2 1 w.heap.size wr.heap.size R.length (.slice (some ⟨g, 0, none⟩) i i) (fun j => .int .i64 (R.getD j 0))) := yz (by
        have hl : R.length = i := by rw [yx HR, List.length_map]; exact yx HML
        rw [hl]
        refine .inr ⟨g, i, rfl, Nat.le_of_lt (yx HM).lo, (yx HM).row.lt, (yx HM).row.congr (fun j hj => ?_)⟩
        have hj' : j < S.length := by rw [yx HML]; omega
        unfold rowM
        rw [if_pos (by omega), yx HR, List.getD_eq_getElem?_getD, List.getElem?_map, List.getElem?_eq_getElem hj']
        unfold vA
        rw [List.getD_eq_getElem?_getD, List.getElem?_eq_getElem hj']
        rfl)
      go_wp2_with fail
      go_ret
      exact ⟨⟨_, rfl, yx HP⟩, (yx HM).bel⟩
theorem same_of_right {a1 a2 a3 b1 b2 b3 : Int} (ha : rightB a1 a2 a3 = true) (hb : rightB b1 b2 b3 = true) :
    (eqB (crW a2 a3 b2 b3) (crW a3 a1 b3 b1) (crW a1 a2 b1 b2) 0 0 0 && decide (0 < dotW a1 a2 a3 b1 b2 b3)) = sameB a1 a2 a3 b1 b2 b3 := by
  unfold sameB
  rw [ha, hb]
  rfl
theorem l02Same_right (p q : D3) (w : World) (hp : rightB p.1 p.2.1 p.2.2 = true) (hq : rightB q.1 q.2.1 q.2.2 = true) :
    Calls Tryz.prog 101 #[.agg #[.int .i64 p.1, .int .i64 p.2.1, .int .i64 p.2.2], .agg #[.int .i64 q.1, .int .i64 q.2.1, .int .i64 q.2.2]] w fun e w' => e = .returned (.bool (sameD p q)) ∧ Below w.heap.size w w' := by
  refine (l02Same_any _ _ _ _ _ _ w).mono fun e w' h => ?_
  rw [same_of_right hp hq] at h
  exact h
set_option maxHeartbeats 4000000 in
set_option maxRecDepth 100000 in
theorem specSpotsRight_any (L : List D3) (a : Option Addr) (c : Nat) (w : World) (hn : L.length ≤ 1048576) (hS : Dirs w a L L.length) :
    Calls Tryz.prog 60 #[.slice a L.length c] w fun e w' => e = .returned (.bool (spotsB L)) ∧ Below w.heap.size w w' := by
  obtain ⟨n, hnl⟩ : ∃ n, L.length = n := ⟨_, rfl⟩
  rw [hnl] at hn hS ⊢
  have HL := yz hnl
  clear hnl
  by_cases h12 : 6 < n
  · have h12' : (6 : Int) < (n : Int) := by omega
    have HO : Hid (spotsB L = false) := yz (spots_long (by rw [yx HL]; exact h12))
    clear hS
    go_enter Tryz.func60, Tryz.ntmps60
    go_wp2
    go_ret
    exact ⟨by rw [yx HO]; rfl, Below.refl _ _⟩
  have h12' : ¬ (6 : Int) < (n : Int) := by omega
  rcases hS with rfl | ⟨b, o, rfl, hb, hc⟩
  · have HO : Hid (spotsB L = true) := yz (spots_yes (by rw [yx HL]; omega) (by rw [yx HL]; intro j hj; omega))
    go_enter Tryz.func60, Tryz.ntmps60
    go_wp2_with fail
    refine wp_loop_rounds 1 ?_
    rw [rounds_succ]
    go_wp2_with fail
    go_ret
    exact ⟨by rw [yx HO]; rfl, Below.refl _ _⟩
  have HC := yz hc
  clear hc
  go_enter Tryz.func60, Tryz.ntmps60
  go_wp2_with fail
  go_loopw [3] (fun i wr => ∃ k : Nat, k ≤ n ∧ i = .int .i64 k ∧ Hid (okVTo L k) ∧ Hid (Below w.heap.size w wr)) (fun i _ => n - (intOf i).toNat)
  case atStart => exact ⟨0, by omega, rfl, yz (fun j hj => absurd hj (Nat.not_lt_zero _)), yz (Below.refl _ _)⟩
  case round =>
    obtain ⟨k, hk, rfl, HF, HB⟩ := hrel
    by_cases hkn : k < n
    · have hkn2 : (k : Int) < (n : Int) := by omega
      obtain ⟨⟨s2, s3, s4⟩, hs⟩ : ∃ s, vA L k = s := ⟨_, rfl⟩
      have hst := ((yx HC) k hkn).kept hb (yx HB)
      rw [hs] at hst
      obtain ⟨c0, c1, c2⟩ := hst
      have HT := yz hs
      clear hs
      have HO : Hid (okV L k = (wideB s2 s3 s4 && !amongB L (s2, s3, s4) k)) := yz (by unfold okV wideD; rw [yx HT])
      go_wp2_with fail
      refine (l04Wide_any s2 s3 s4 _).mono ?_
      rintro e W2 ⟨rfl, hx⟩
      have HB2 := yz (below_call (yx HB) hx)
      clear hx c0 c1 c2 HB
      cases hwd : wideB s2 s3 s4
      · rw [hwd] at HO
        have HO' : Hid (okV L k = false) := HO
        go_wp2_with fail
        go_ret
        exact ⟨by rw [spots_no (by rw [yx HL]; exact hkn) (yx HO')]; rfl, yx HB2⟩
      rw [hwd, Bool.true_and] at HO
      have HWD := yz hwd
      clear hwd
      go_wp2_with fail
      go_loopw [4] (fun i wr => ∃ j : Nat, j ≤ k ∧ i = .int .i64 j ∧ Hid (asideTo L (s2, s3, s4) j) ∧ Hid (Below w.heap.size w wr)) (fun i _ => k - (intOf i).toNat)
      case atStart => exact ⟨0, by omega, rfl, yz (fun j hj => absurd hj (Nat.not_lt_zero _)), HB2⟩
      case round =>
        clear HB2
        obtain ⟨j, hj, rfl, HN, HB3⟩ := hrel
        by_cases hjk : j < k
        · have hjk2 : (j : Int) < (k : Int) := by omega
          have hjn2 : (j : Int) < (n : Int) := by omega
          have HWJ := yz (okV_wide (yx HF j hjk))
          obtain ⟨⟨t2, t3, t4⟩, ht⟩ : ∃ s, vA L j = s := ⟨_, rfl⟩
          have hst := ((yx HC) k hkn).kept hb (yx HB3)
          have htt := ((yx HC) j (by omega)).kept hb (yx HB3)
          rw [yx HT] at hst
          rw [ht] at htt HWJ
          obtain ⟨c0, c1, c2⟩ := hst
          obtain ⟨d0, d1, d2⟩ := htt
          have HTJ := yz ht
          clear ht
          have cS : Hid (∀ W : World, Calls Tryz.prog 101 #[.agg #[.int .i64 t2, .int .i64 t3, .int .i64 t4], .agg #[.int .i64 s2, .int .i64 s3, .int .i64 s4]] W fun e w' => e = .returned (.bool (sameD (s2, s3, s4) (t2, t3, t4))) ∧ Below W.heap.size W w') := yz (fun W => by
            rw [sameD_turned (p := (s2, s3, s4)) (q := (t2, t3, t4)) (yx HWD) (yx HWJ)]
            exact l02Same_right (t2, t3, t4) (s2, s3, s4) W (wide_iff (yx HWJ)).1 (wide_iff (yx HWD)).1)
          have HSM : Hid (sameD (s2, s3, s4) (vA L j) = sameD (s2, s3, s4) (t2, t3, t4)) := yz (by rw [yx HTJ])
          generalize sameD (s2, s3, s4) (t2, t3, t4) = sm at *
          have r0 := cell_regrown c0
          have r1 := cell_regrown c1
          have r2 := cell_regrown c2
          have q0 := cell_regrown d0
          have q1 := cell_regrown d1
          have q2 := cell_regrown d2
          clear c0 c1 c2 d0 d1 d2
          go_wp2_with fail
          refine wp_region_quiet_below (by kernel_rfl) (by kernel_rfl) ?_
          repeat (go_big_quiet_step (first | (with_reducible exact Calls.regrown_of (yx cS _))))
          refine wpQuiet_nil ?_
          intro _ hw'
          obtain ⟨⟨dq, osq⟩, hw''⟩ := hw'
          subst hw''
          have hx := below_call (yx HB3) (below_regrown wr dq osq)
          generalize grow (redrawn wr dq) osq = W4 at hx ⊢
          have HB4 := yz hx
          clear hx HB3 cS r0 r1 r2 q0 q1 q2
          cases sm
          · go_wp2_with fail
            go_roundw
            case rel => exact ⟨j + 1, by omega, by go_num, yz (aside_step (yx HN) (yx HSM)), HB4⟩
            case measure => simp [intOf]; omega
          · have HO' : Hid (okV L k = false) := yz (by rw [yx HO, among_yes hjk (yx HSM)]; rfl)
            go_wp2_with fail
            go_ret
            exact ⟨by rw [spots_no (by rw [yx HL]; exact hkn) (yx HO')]; rfl, yx HB4⟩
        · have hjk' : j = k := by omega
          subst hjk'
          have HO' : Hid (okV L j = true) := yz (by rw [yx HO, among_no (yx HN)]; rfl)
          go_wp2_with fail
          go_roundw
          case rel => exact ⟨j + 1, by omega, by go_num, yz (okV_step (yx HF) (yx HO')), HB3⟩
          case measure => simp [intOf]; omega
    · have hkn' : k = n := by omega
      have HO : Hid (spotsB L = true) := yz (spots_yes (by rw [yx HL]; omega) (by rw [yx HL, ← hkn']; exact yx HF))
      go_wp2_with fail
      go_ret
      exact ⟨by rw [yx HO]; rfl, yx HB⟩
end Go.Proofs.YteoonaanoenjiaaGreatDoor
