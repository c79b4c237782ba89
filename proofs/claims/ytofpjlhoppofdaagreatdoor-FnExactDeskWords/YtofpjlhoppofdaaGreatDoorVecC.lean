/- The bound on each part, and whether a direction is right. -/
import Derived.Test.YtofpjlhoppofdaaGreatDoorVecB
namespace Go.Proofs.YtofpjlhoppofdaaGreatDoor
open Go.RowKit
set_option linter.unusedVariables false

def eqB (a1 a2 a3 b1 b2 b3 : Int) : Bool := decide (a1 = b1 ∧ a2 = b2 ∧ a3 = b3)
theorem equal_vec (a1 a2 a3 b1 b2 b3 : Int) (w : World) : (Op.equalIn 10000 76 (.agg #[.int .i64 a1, .int .i64 a2, .int .i64 a3]) (.agg #[.int .i64 b1, .int .i64 b2, .int .i64 b3])).run Tryz.prog w = .ok (eqB a1 a2 a3 b1 b2 b3) w := by
  have h := run_equalIn_struct (P := Tryz.prog) w 9999 76 #[.int .i64 a1, .int .i64 a2, .int .i64 a3] #[.int .i64 b1, .int .i64 b2, .int .i64 b3] (by kernel_rfl) (by kernel_rfl)
  have hf : (Tryz.prog.fieldsOf 76).toList = (Tryz.prog.fieldsOf 76).toList := rfl
  refine h.trans ?_
  by_cases h1 : a1 = b1
  · by_cases h2 : a2 = b2
    · by_cases h3 : a3 = b3
      · simp [go_sem, eqB, h1, h2, h3]
      · simp [go_sem, eqB, h1, h2, h3]
    · simp [go_sem, eqB, h1, h2]
  · simp [go_sem, eqB, h1]
theorem neq_vec (a1 a2 a3 b1 b2 b3 : Int) (w : World) : (binOp .neq 76 (.agg #[.int .i64 a1, .int .i64 a2, .int .i64 a3]) (.agg #[.int .i64 b1, .int .i64 b2, .int .i64 b3])).run Tryz.prog w = .ok (.bool (!eqB a1 a2 a3 b1 b2 b3)) w := by
  rw [run_neq_struct, equal_vec]; rfl
theorem eql_vec (a1 a2 a3 b1 b2 b3 : Int) (w : World) : (binOp .eql 76 (.agg #[.int .i64 a1, .int .i64 a2, .int .i64 a3]) (.agg #[.int .i64 b1, .int .i64 b2, .int .i64 b3])).run Tryz.prog w = .ok (.bool (eqB a1 a2 a3 b1 b2 b3)) w := by
  rw [run_eql_struct, equal_vec]; rfl

set_option maxRecDepth 100000 in
theorem vecRight_any (x y z : Int) (w : World) :
    Calls Tryz.prog 136 #[.agg #[.int .i64 x, .int .i64 y, .int .i64 z]] w fun e w' => e = .returned (.bool (rightB x y z)) ∧ Below w.heap.size w w' := by
  have hn := fun w => neq_vec x y z 0 0 0 w
  cases hz : eqB x y z 0 0 0
  · rw [hz] at hn
    have HR : Hid (rightB x y z = withinB 1000000 x y z) := hide (by unfold rightB; rw [show zeroB x y z = false from hz]; simp)
    go_enter Tryz.func136, Tryz.ntmps136
    go_wp2_with fail
    refine (within_any 1000000 x y z _ (by omega) (by omega)).mono ?_
    rintro e w1 ⟨rfl, hB1⟩
    have hB : Below w.heap.size w w1 := below_call (below1 _ _) hB1
    clear hB1
    go_wp2_with fail
    go_ret
    exact ⟨by rw [unhide HR]; rfl, hB⟩
  · rw [hz] at hn
    have HR : Hid (rightB x y z = false) := hide (by unfold rightB; rw [show zeroB x y z = true from hz]; simp)
    go_enter Tryz.func136, Tryz.ntmps136
    go_wp2_with fail
    go_ret
    exact ⟨by rw [unhide HR]; rfl, below1 _ _⟩

theorem isB (m x : Int) : (decide (-m ≤ x) && decide (x ≤ m)) = inB m x := by unfold inB; rw [Bool.decide_and]

set_option maxRecDepth 100000 in
theorem l02Within_any (m x y z : Int) (w : World) (hm0 : 0 ≤ m) (hm : m ≤ 1000000) :
    Calls Tryz.prog 62 #[.agg #[.int .i64 x, .int .i64 y, .int .i64 z], .int .i64 m] w fun e w' => e = .returned (.bool (withinB m x y z)) ∧ Below w.heap.size w w' := by
  have hwr : wrap64 (-m) = -m := wrap_id (by omega) (by omega)
  go_enter Tryz.func62, Tryz.ntmps62
  go_wp2_with fail
  refine (l02Is_any x (-m) m _).mono ?_
  rintro e w1 ⟨rfl, rfl⟩
  rw [isB]
  cases hx : inB m x
  · go_wp2_with fail
    go_ret
    exact ⟨by simp [withinB, hx], below1 _ _⟩
  · go_wp2_with fail
    refine (l02Is_any y (-m) m _).mono ?_
    rintro e w1 ⟨rfl, rfl⟩
    rw [isB]
    cases hy : inB m y
    · go_wp2_with fail
      go_ret
      exact ⟨by simp [withinB, hy], below1 _ _⟩
    · go_wp2_with fail
      refine (l02Is_any z (-m) m _).mono ?_
      rintro e w1 ⟨rfl, rfl⟩
      rw [isB]
      go_wp2_with fail
      go_ret
      exact ⟨by simp [withinB, hx, hy], below1 _ _⟩

set_option maxRecDepth 100000 in
theorem specRight_any (x y z : Int) (w : World) :
    Calls Tryz.prog 61 #[.agg #[.int .i64 x, .int .i64 y, .int .i64 z]] w fun e w' => e = .returned (.bool (rightB x y z)) ∧ Below w.heap.size w w' := by
  have hn := fun w => neq_vec x y z 0 0 0 w
  go_enter Tryz.func61, Tryz.ntmps61
  go_wp2_with fail
  refine (l02Within_any 1000000 x y z _ (by omega) (by omega)).mono ?_
  rintro e w1 ⟨rfl, hB1⟩
  have hB : Below w.heap.size w w1 := below_call (below1 _ _) hB1
  have hc : ∀ i : Nat, w1.cell? ⟨w.heap.size, i, none⟩ = _ := fun i => hB1.cell (p := ⟨w.heap.size, i, none⟩) (by simp)
  have c0 := hc 0
  have c1 := hc 1
  have c2 := hc 2
  simp at c0 c1 c2
  clear hB1 hc
  cases hx : withinB 1000000 x y z
  · go_wp2_with fail
    go_ret
    exact ⟨by simp [rightB, hx], hB⟩
  · go_wp2_with fail
    go_ret
    exact ⟨by simp [rightB, hx]; rfl, hB⟩
end Go.Proofs.YtofpjlhoppofdaaGreatDoor
