import Derived.Test.YtofpjlhoppofdaaGreatDoorVecA
namespace Go.Proofs.YtofpjlhoppofdaaGreatDoor
open Go.RowKit
set_option linter.unusedVariables false

theorem out1 {m x : Int} (h : ¬ (-m ≤ x ∧ x ≤ m)) : inB m x = false := by simpa [inB] using h

set_option maxRecDepth 100000 in
theorem within_any (m x y z : Int) (w : World) (hm0 : 0 ≤ m) (hm : m ≤ 1000000) :
    Calls Tryz.prog 159 #[.agg #[.int .i64 x, .int .i64 y, .int .i64 z], .int .i64 m] w fun e w' => e = .returned (.bool (withinB m x y z)) ∧ Below w.heap.size w w' := by
  have i0 : ∀ w : World, (Instr.index 180 (.agg #[.int .i64 x, .int .i64 y, .int .i64 z]) (.int .i64 0)).run Tryz.prog w = .ok (.int .i64 x) w := fun _ => by kernel_rfl
  have i1 : ∀ w : World, (Instr.index 180 (.agg #[.int .i64 x, .int .i64 y, .int .i64 z]) (.int .i64 1)).run Tryz.prog w = .ok (.int .i64 y) w := fun _ => by kernel_rfl
  have i2 : ∀ w : World, (Instr.index 180 (.agg #[.int .i64 x, .int .i64 y, .int .i64 z]) (.int .i64 2)).run Tryz.prog w = .ok (.int .i64 z) w := fun _ => by kernel_rfl
  have hwr : wrap64 (-m) = -m := wrap_id (by omega) (by omega)
  go_enter Tryz.func159, Tryz.ntmps159
  go_wp2_with fail
  refine (parts_any x y z _).mono ?_
  rintro e w1 ⟨rfl, hB1⟩
  have hB : Below w.heap.size w w1 := below_call (below1 _ _) hB1
  clear hB1
  go_wp2_with fail
  go_loop [9] (fun i => ∃ k : Nat, k ≤ 3 ∧ i = .int .i64 k ∧ Hid (0 < k → inB m x = true) ∧ Hid (1 < k → inB m y = true) ∧ Hid (2 < k → inB m z = true)) (fun i => 3 - (intOf i).toNat)
  case atStart => exact ⟨0, Nat.zero_le _, rfl, hide (by omega), hide (by omega), hide (by omega)⟩
  case round =>
    obtain ⟨k, hk, rfl, hx, hy, hz⟩ := hrel
    have hk4 : k = 0 ∨ k = 1 ∨ k = 2 ∨ k = 3 := by omega
    rcases hk4 with rfl | rfl | rfl | rfl
    · by_cases q1 : -m ≤ x
      · by_cases q2 : x ≤ m
        · have HI := hide (inB_iff.2 ⟨q1, q2⟩)
          go_wp2
          go_round
          case rel => exact ⟨1, by omega, rfl, hide (fun _ => unhide HI), hide (by omega), hide (by omega)⟩
          case measure => simp [intOf]
        · have HO := hide (out1 (m := m) (x := x) (fun h => q2 h.2))
          go_wp2
          go_ret
          exact ⟨by simp [withinB, unhide HO], hB⟩
      · have HO := hide (out1 (m := m) (x := x) (fun h => q1 h.1))
        go_wp2
        go_ret
        exact ⟨by simp [withinB, unhide HO], hB⟩
    · by_cases q1 : -m ≤ y
      · by_cases q2 : y ≤ m
        · have HI := hide (inB_iff.2 ⟨q1, q2⟩)
          go_wp2
          go_round
          case rel => exact ⟨2, by omega, rfl, hide (fun _ => unhide hx (by omega)), hide (fun _ => unhide HI), hide (by omega)⟩
          case measure => simp [intOf]
        · have HO := hide (out1 (m := m) (x := y) (fun h => q2 h.2))
          go_wp2
          go_ret
          exact ⟨by simp [withinB, unhide HO], hB⟩
      · have HO := hide (out1 (m := m) (x := y) (fun h => q1 h.1))
        go_wp2
        go_ret
        exact ⟨by simp [withinB, unhide HO], hB⟩
    · by_cases q1 : -m ≤ z
      · by_cases q2 : z ≤ m
        · have HI := hide (inB_iff.2 ⟨q1, q2⟩)
          go_wp2
          go_round
          case rel => exact ⟨3, by omega, rfl, hide (fun _ => unhide hx (by omega)), hide (fun _ => unhide hy (by omega)), hide (fun _ => unhide HI)⟩
          case measure => simp [intOf]
        · have HO := hide (out1 (m := m) (x := z) (fun h => q2 h.2))
          go_wp2
          go_ret
          exact ⟨by simp [withinB, unhide HO], hB⟩
      · have HO := hide (out1 (m := m) (x := z) (fun h => q1 h.1))
        go_wp2
        go_ret
        exact ⟨by simp [withinB, unhide HO], hB⟩
    · go_wp2
      go_ret
      exact ⟨by simp [withinB, unhide hx (by omega), unhide hy (by omega), unhide hz (by omega)], hB⟩
end Go.Proofs.YtofpjlhoppofdaaGreatDoor
