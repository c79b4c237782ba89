/- What the least of the functions on turns answer: the parts in a row, whether each is within a bound, whether two turns are one; where a turn lies in memory. -/
import Derived.Test.YtnffnjljjecphaaDoorVecF
import Derived.Test.YtnffnjljjecphaaDoorTurnMath2
import Derived.Lib.QuietBelow
namespace Go.Proofs.YtnffnjljjecphaaDoor
open Go.RowKit
set_option linter.unusedVariables false

def TurnAt (w : World) (b : Nat) (p q r s : Int) : Prop := w.cell? ⟨b, 0, none⟩ = some (.int .i64 p) ∧ w.cell? ⟨b, 1, none⟩ = some (.int .i64 q) ∧ w.cell? ⟨b, 2, none⟩ = some (.int .i64 r) ∧ w.cell? ⟨b, 3, none⟩ = some (.int .i64 s)
def FreeT (w : World) (b : Nat) : Prop := w.frozen? ⟨b, 0, none⟩ = false ∧ w.frozen? ⟨b, 1, none⟩ = false ∧ w.frozen? ⟨b, 2, none⟩ = false ∧ w.frozen? ⟨b, 3, none⟩ = false
theorem TurnAt.kept {w w' : World} {b : Nat} {p q r s : Int} (h : TurnAt w b p q r s) (hb : b < w.heap.size) (hB : Below w.heap.size w w') : TurnAt w' b p q r s := by
  obtain ⟨h0, h1, h2, h3⟩ := h
  exact ⟨by rw [hB.cell (p := ⟨b, 0, none⟩) hb]; exact h0, by rw [hB.cell (p := ⟨b, 1, none⟩) hb]; exact h1, by rw [hB.cell (p := ⟨b, 2, none⟩) hb]; exact h2, by rw [hB.cell (p := ⟨b, 3, none⟩) hb]; exact h3⟩
theorem FreeT.kept {w w' : World} {b : Nat} (h : FreeT w b) (hb : b < w.heap.size) (hB : Below w.heap.size w w') : FreeT w' b := by
  obtain ⟨h0, h1, h2, h3⟩ := h
  exact ⟨by rw [hB.frozen (p := ⟨b, 0, none⟩) hb]; exact h0, by rw [hB.frozen (p := ⟨b, 1, none⟩) hb]; exact h1, by rw [hB.frozen (p := ⟨b, 2, none⟩) hb]; exact h2, by rw [hB.frozen (p := ⟨b, 3, none⟩) hb]; exact h3⟩
theorem turnAt_new (w : World) (p q r s : Int) (t : TypeId) : TurnAt (w.alloc (.cells #[.int .i64 p, .int .i64 q, .int .i64 r, .int .i64 s] t)) w.heap.size p q r s := by
  refine ⟨?_, ?_, ?_, ?_⟩ <;> simp
theorem freeT_new (w : World) (p q r s : Int) (t : TypeId) : FreeT (w.alloc (.cells #[.int .i64 p, .int .i64 q, .int .i64 r, .int .i64 s] t)) w.heap.size := by
  refine ⟨?_, ?_, ?_, ?_⟩ <;> simp
theorem TurnAt.lt {w : World} {b : Nat} {p q r s : Int} (h : TurnAt w b p q r s) : b < w.heap.size := World.block_lt_of_cell? w _ h.1
theorem TurnAt.alloc {w : World} {b : Nat} {p q r s : Int} (h : TurnAt w b p q r s) (o : Obj) : TurnAt (w.alloc o) b p q r s := h.kept h.lt (below1 _ _)
theorem below_set4 {w w1 : World} {b : Nat} (h : Below w.heap.size w w1) (hb : w.heap.size ≤ b) (x y z u : Value) : Below w.heap.size w ((((w1.setCell ⟨b, 0, none⟩ x).setCell ⟨b, 1, none⟩ y).setCell ⟨b, 2, none⟩ z).setCell ⟨b, 3, none⟩ u) := (((h.setCell hb _).setCell hb _).setCell hb _).setCell hb _
theorem below_set5 {w w1 : World} {b : Nat} (h : Below w.heap.size w w1) (hb : w.heap.size ≤ b) (x y z u v : Value) : Below w.heap.size w (((((w1.setCell ⟨b, 0, none⟩ x).setCell ⟨b, 1, none⟩ y).setCell ⟨b, 2, none⟩ z).setCell ⟨b, 3, none⟩ u).setCell ⟨b, 4, none⟩ v) := ((((h.setCell hb _).setCell hb _).setCell hb _).setCell hb _).setCell hb _

set_option maxRecDepth 100000 in
theorem tparts_any (p q r s : Int) (w : World) :
    Calls Tryd.prog 111 #[.agg #[.int .i64 p, .int .i64 q, .int .i64 r, .int .i64 s]] w fun e w' => e = .returned (.agg #[.int .i64 p, .int .i64 q, .int .i64 r, .int .i64 s]) ∧ Below w.heap.size w w' := by
  go_enter Tryd.func111, Tryd.ntmps111
  go_wp2
  exact bodyPost_ret (v := .agg #[.int .i64 p, .int .i64 q, .int .i64 r, .int .i64 s]) (by simp [results, Tryd.results111, go_sem]) rfl ⟨rfl, below2 _ _ _⟩

theorem equal_turn (a1 a2 a3 a4 b1 b2 b3 b4 : Int) (w : World) : (Op.equalIn 10000 31 (.agg #[.int .i64 a1, .int .i64 a2, .int .i64 a3, .int .i64 a4]) (.agg #[.int .i64 b1, .int .i64 b2, .int .i64 b3, .int .i64 b4])).run Tryd.prog w = .ok (eqT a1 a2 a3 a4 b1 b2 b3 b4) w := by
  have h := run_equalIn_struct (P := Tryd.prog) w 9999 31 #[.int .i64 a1, .int .i64 a2, .int .i64 a3, .int .i64 a4] #[.int .i64 b1, .int .i64 b2, .int .i64 b3, .int .i64 b4] (by kernel_rfl) (by kernel_rfl)
  refine h.trans ?_
  by_cases h1 : a1 = b1
  · by_cases h2 : a2 = b2
    · by_cases h3 : a3 = b3
      · by_cases h4 : a4 = b4
        · simp [go_sem, eqT, h1, h2, h3, h4]
        · simp [go_sem, eqT, h1, h2, h3, h4]
      · simp [go_sem, eqT, h1, h2, h3]
    · simp [go_sem, eqT, h1, h2]
  · simp [go_sem, eqT, h1]
theorem neq_turn (a1 a2 a3 a4 b1 b2 b3 b4 : Int) (w : World) : (binOp .neq 31 (.agg #[.int .i64 a1, .int .i64 a2, .int .i64 a3, .int .i64 a4]) (.agg #[.int .i64 b1, .int .i64 b2, .int .i64 b3, .int .i64 b4])).run Tryd.prog w = .ok (.bool (!eqT a1 a2 a3 a4 b1 b2 b3 b4)) w := by
  rw [run_neq_struct, equal_turn]; rfl
theorem eql_turn (a1 a2 a3 a4 b1 b2 b3 b4 : Int) (w : World) : (binOp .eql 31 (.agg #[.int .i64 a1, .int .i64 a2, .int .i64 a3, .int .i64 a4]) (.agg #[.int .i64 b1, .int .i64 b2, .int .i64 b3, .int .i64 b4])).run Tryd.prog w = .ok (.bool (eqT a1 a2 a3 a4 b1 b2 b3 b4)) w := by
  rw [run_eql_struct, equal_turn]; rfl

set_option maxRecDepth 100000 in
theorem twithin_any (m p q r s : Int) (w : World) (hm0 : 0 ≤ m) (hm : m ≤ 1000000) :
    Calls Tryd.prog 100 #[.agg #[.int .i64 p, .int .i64 q, .int .i64 r, .int .i64 s], .int .i64 m] w fun e w' => e = .returned (.bool (inT m p q r s)) ∧ Below w.heap.size w w' := by
  have i0 : ∀ w : World, (Instr.index 153 (.agg #[.int .i64 p, .int .i64 q, .int .i64 r, .int .i64 s]) (.int .i64 0)).run Tryd.prog w = .ok (.int .i64 p) w := fun _ => by kernel_rfl
  have i1 : ∀ w : World, (Instr.index 153 (.agg #[.int .i64 p, .int .i64 q, .int .i64 r, .int .i64 s]) (.int .i64 1)).run Tryd.prog w = .ok (.int .i64 q) w := fun _ => by kernel_rfl
  have i2 : ∀ w : World, (Instr.index 153 (.agg #[.int .i64 p, .int .i64 q, .int .i64 r, .int .i64 s]) (.int .i64 2)).run Tryd.prog w = .ok (.int .i64 r) w := fun _ => by kernel_rfl
  have i3 : ∀ w : World, (Instr.index 153 (.agg #[.int .i64 p, .int .i64 q, .int .i64 r, .int .i64 s]) (.int .i64 3)).run Tryd.prog w = .ok (.int .i64 s) w := fun _ => by kernel_rfl
  have hwr : wrap64 (-m) = -m := wrap_id (by omega) (by omega)
  go_enter Tryd.func100, Tryd.ntmps100
  go_wp2_with fail
  refine (tparts_any p q r s _).mono ?_
  rintro e w1 ⟨rfl, hB1⟩
  have hB : Below w.heap.size w w1 := below_call (below1 _ _) hB1
  clear hB1
  go_wp2_with fail
  go_loop [9] (fun i => ∃ k : Nat, k ≤ 4 ∧ i = .int .i64 k ∧ Hid (0 < k → inB m p = true) ∧ Hid (1 < k → inB m q = true) ∧ Hid (2 < k → inB m r = true) ∧ Hid (3 < k → inB m s = true)) (fun i => 4 - (intOf i).toNat)
  case atStart => exact ⟨0, Nat.zero_le _, rfl, hide (by omega), hide (by omega), hide (by omega), hide (by omega)⟩
  case round =>
    obtain ⟨k, hk, rfl, hx, hy, hz, hu⟩ := hrel
    have hk5 : k = 0 ∨ k = 1 ∨ k = 2 ∨ k = 3 ∨ k = 4 := by omega
    rcases hk5 with rfl | rfl | rfl | rfl | rfl
    · by_cases q1 : -m ≤ p
      · by_cases q2 : p ≤ m
        · have HI := hide (inB_iff.2 ⟨q1, q2⟩)
          go_wp2
          go_round
          case rel => exact ⟨1, by omega, rfl, hide (fun _ => unhide HI), hide (by omega), hide (by omega), hide (by omega)⟩
          case measure => simp [intOf]
        · have HO := hide (out1 (m := m) (x := p) (fun h => q2 h.2))
          go_wp2
          go_ret
          exact ⟨by simp [inT, unhide HO], hB⟩
      · have HO := hide (out1 (m := m) (x := p) (fun h => q1 h.1))
        go_wp2
        go_ret
        exact ⟨by simp [inT, unhide HO], hB⟩
    · by_cases q1 : -m ≤ q
      · by_cases q2 : q ≤ m
        · have HI := hide (inB_iff.2 ⟨q1, q2⟩)
          go_wp2
          go_round
          case rel => exact ⟨2, by omega, rfl, hide (fun _ => unhide hx (by omega)), hide (fun _ => unhide HI), hide (by omega), hide (by omega)⟩
          case measure => simp [intOf]
        · have HO := hide (out1 (m := m) (x := q) (fun h => q2 h.2))
          go_wp2
          go_ret
          exact ⟨by simp [inT, unhide HO], hB⟩
      · have HO := hide (out1 (m := m) (x := q) (fun h => q1 h.1))
        go_wp2
        go_ret
        exact ⟨by simp [inT, unhide HO], hB⟩
    · by_cases q1 : -m ≤ r
      · by_cases q2 : r ≤ m
        · have HI := hide (inB_iff.2 ⟨q1, q2⟩)
          go_wp2
          go_round
          case rel => exact ⟨3, by omega, rfl, hide (fun _ => unhide hx (by omega)), hide (fun _ => unhide hy (by omega)), hide (fun _ => unhide HI), hide (by omega)⟩
          case measure => simp [intOf]
        · have HO := hide (out1 (m := m) (x := r) (fun h => q2 h.2))
          go_wp2
          go_ret
          exact ⟨by simp [inT, unhide HO], hB⟩
      · have HO := hide (out1 (m := m) (x := r) (fun h => q1 h.1))
        go_wp2
        go_ret
        exact ⟨by simp [inT, unhide HO], hB⟩
    · by_cases q1 : -m ≤ s
      · by_cases q2 : s ≤ m
        · have HI := hide (inB_iff.2 ⟨q1, q2⟩)
          go_wp2
          go_round
          case rel => exact ⟨4, by omega, rfl, hide (fun _ => unhide hx (by omega)), hide (fun _ => unhide hy (by omega)), hide (fun _ => unhide hz (by omega)), hide (fun _ => unhide HI)⟩
          case measure => simp [intOf]
        · have HO := hide (out1 (m := m) (x := s) (fun h => q2 h.2))
          go_wp2
          go_ret
          exact ⟨by simp [inT, unhide HO], hB⟩
      · have HO := hide (out1 (m := m) (x := s) (fun h => q1 h.1))
        go_wp2
        go_ret
        exact ⟨by simp [inT, unhide HO], hB⟩
    · go_wp2
      go_ret
      exact ⟨by simp [inT, unhide hx (by omega), unhide hy (by omega), unhide hz (by omega), unhide hu (by omega)], hB⟩
end Go.Proofs.YtnffnjljjecphaaDoor
