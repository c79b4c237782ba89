/- SameWay: the program's and the specification's. -/
import Derived.Test.YtofpjlhoppofdaaGreatDoorVecE
namespace Go.Proofs.YtofpjlhoppofdaaGreatDoor
open Go.RowKit Go.Sort
set_option linter.unusedVariables false

theorem sameB_eq (a1 a2 a3 b1 b2 b3 : Int) : sameB a1 a2 a3 b1 b2 b3 = (eqB (crI (rightB a1 a2 a3 && rightB b1 b2 b3) a2 a3 b2 b3) (crI (rightB a1 a2 a3 && rightB b1 b2 b3) a3 a1 b3 b1) (crI (rightB a1 a2 a3 && rightB b1 b2 b3) a1 a2 b1 b2) 0 0 0 && decide (0 < dotI a1 a2 a3 b1 b2 b3)) := by
  unfold sameB crI dotI
  cases h : (rightB a1 a2 a3 && rightB b1 b2 b3)
  · simp
  · simp [eqB, zeroB]

set_option maxRecDepth 100000 in
theorem sameWay_any (a1 a2 a3 b1 b2 b3 : Int) (w : World) :
    Calls Tryz.prog 160 #[.agg #[.int .i64 a1, .int .i64 a2, .int .i64 a3], .agg #[.int .i64 b1, .int .i64 b2, .int .i64 b3]] w fun e w' => e = .returned (.bool (sameB a1 a2 a3 b1 b2 b3)) ∧ Below w.heap.size w w' := by
  have HS := hide (sameB_eq a1 a2 a3 b1 b2 b3)
  go_enter Tryz.func160, Tryz.ntmps160
  go_wp2_with fail
  refine (cross_any a1 a2 a3 b1 b2 b3 _).mono ?_
  rintro e w1 ⟨rfl, hB1⟩
  have hB : Below w.heap.size w w1 := below_call (below2 _ _ _) hB1
  have va : VecAt w1 w.heap.size a1 a2 a3 := ((vecAt_new w a1 a2 a3 _).alloc (by simp) _).kept (by simp; omega) hB1
  have vb : VecAt w1 (w.heap.size + 1) b1 b2 b3 := (by simpa using vecAt_new (w.alloc _) b1 b2 b3 _ : VecAt _ (w.heap.size + 1) b1 b2 b3).kept (by simp) hB1
  clear hB1
  obtain ⟨ca0, ca1, ca2⟩ := va
  obtain ⟨cb0, cb1, cb2⟩ := vb
  generalize crI (rightB a1 a2 a3 && rightB b1 b2 b3) a2 a3 b2 b3 = x at HS ⊢
  generalize crI (rightB a1 a2 a3 && rightB b1 b2 b3) a3 a1 b3 b1 = y at HS ⊢
  generalize crI (rightB a1 a2 a3 && rightB b1 b2 b3) a1 a2 b1 b2 = z at HS ⊢
  have he := fun w => eql_vec x y z 0 0 0 w
  cases hz : eqB x y z 0 0 0
  · rw [hz] at he HS
    go_wp2_with fail
    go_ret
    exact ⟨by rw [unhide HS]; rfl, hB⟩
  · rw [hz] at he HS
    go_wp2_with fail
    refine (dot_any a1 a2 a3 b1 b2 b3 _).mono ?_
    rintro e w2 ⟨rfl, hB2⟩
    replace hB := below_call hB hB2
    go_wp2_with fail
    go_ret
    exact ⟨by rw [unhide HS, Bool.true_and]; rfl, hB⟩
set_option maxRecDepth 100000 in
theorem l02Same_any (a1 a2 a3 b1 b2 b3 : Int) (w : World) :
    Calls Tryz.prog 64 #[.agg #[.int .i64 a1, .int .i64 a2, .int .i64 a3], .agg #[.int .i64 b1, .int .i64 b2, .int .i64 b3]] w fun e w' => e = .returned (.bool (eqB (crW a2 a3 b2 b3) (crW a3 a1 b3 b1) (crW a1 a2 b1 b2) 0 0 0 && decide (0 < dotW a1 a2 a3 b1 b2 b3))) ∧ Below w.heap.size w w' := by
  go_enter Tryz.func64, Tryz.ntmps64
  go_wp2_with fail
  refine (l02Cross_any a1 a2 a3 b1 b2 b3 _).mono ?_
  rintro e w1 ⟨rfl, hB1⟩
  have hB : Below w.heap.size w w1 := below_call (below2 _ _ _) hB1
  have va : VecAt w1 w.heap.size a1 a2 a3 := ((vecAt_new w a1 a2 a3 _).alloc (by simp) _).kept (by simp; omega) hB1
  have vb : VecAt w1 (w.heap.size + 1) b1 b2 b3 := (by simpa using vecAt_new (w.alloc _) b1 b2 b3 _ : VecAt _ (w.heap.size + 1) b1 b2 b3).kept (by simp) hB1
  clear hB1
  obtain ⟨ca0, ca1, ca2⟩ := va
  obtain ⟨cb0, cb1, cb2⟩ := vb
  have he := fun w => eql_vec (crW a2 a3 b2 b3) (crW a3 a1 b3 b1) (crW a1 a2 b1 b2) 0 0 0 w
  cases hz : eqB (crW a2 a3 b2 b3) (crW a3 a1 b3 b1) (crW a1 a2 b1 b2) 0 0 0
  · rw [hz] at he
    go_wp2_with fail
    go_ret
    exact ⟨by rw [hz]; rfl, hB⟩
  · rw [hz] at he
    go_wp2_with fail
    refine (l02Dot_any a1 a2 a3 b1 b2 b3 _).mono ?_
    rintro e w2 ⟨rfl, hB2⟩
    replace hB := below_call hB hB2
    go_wp2_with fail
    go_ret
    exact ⟨by rw [hz, Bool.true_and]; rfl, hB⟩
end Go.Proofs.YtofpjlhoppofdaaGreatDoor
