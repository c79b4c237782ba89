/- The law on Prime, walked. -/
import Derived.Test.YtgcandihjlaknaeLawD
namespace Go.Proofs.Ytgcandihjlaknae
open Go.RowKit Go.Sort
set_option linter.unusedVariables false

set_option maxHeartbeats 1000000 in
set_option maxRecDepth 100000 in
theorem lawPrime (a1 a2 a3 : Int) (w : World) :
    Calls Try.prog 6 #[.agg #[.int .i64 a1, .int .i64 a2, .int .i64 a3]] w fun e w' => e = .returned (.bool true) ∧ Below w.heap.size w w' := by
  go_enter Try.func6, Try.ntmps6
  go_wp2_with fail
  refine (toVec_any a1 a2 a3 _).mono ?_
  rintro e w1 ⟨rfl, hx⟩
  have va : VecAt w1 w.heap.size a1 a2 a3 := (vecAt_new w a1 a2 a3 _).kept (by simp) hx
  have hB : Below w.heap.size w w1 := below_call (below1 _ _) hx
  clear hx
  go_wp2_with fail
  refine (specPrime_any a1 a2 a3 _).mono ?_
  rintro e w2 ⟨rfl, hx⟩
  replace va := va.kept (VecAt.lt va) hx
  replace hB := below_call hB hx
  clear hx
  have va2 := va.alloc (VecAt.lt va) (.cells #[.int .i64 (prI (rightB a1 a2 a3) (gI a1 a2 a3) a1), .int .i64 (prI (rightB a1 a2 a3) (gI a1 a2 a3) a2), .int .i64 (prI (rightB a1 a2 a3) (gI a1 a2 a3) a3)] 25)
  obtain ⟨c0, c1, c2⟩ := va
  obtain ⟨d0, d1, d2⟩ := va2
  go_wp2_with fail
  refine (toVec_any a1 a2 a3 _).mono ?_
  rintro e w3 ⟨rfl, hx⟩
  have v5 := (vecAt_new w2 (prI (rightB a1 a2 a3) (gI a1 a2 a3) a1) (prI (rightB a1 a2 a3) (gI a1 a2 a3) a2) (prI (rightB a1 a2 a3) (gI a1 a2 a3) a3) 25).kept (by simp) hx
  replace hB := below_call (hB.alloc hB.size _) hx
  clear hx c0 c1 c2 d0 d1 d2
  go_wp2_with fail
  refine (prime_any a1 a2 a3 _).mono ?_
  rintro e w4 ⟨rfl, hx⟩
  replace v5 := v5.kept (VecAt.lt v5) hx
  replace hB := below_call hB hx
  clear hx
  have v5' := v5.alloc (VecAt.lt v5) (.cells #[.int .i64 (prI (rightB a1 a2 a3) (gI a1 a2 a3) a1), .int .i64 (prI (rightB a1 a2 a3) (gI a1 a2 a3) a2), .int .i64 (prI (rightB a1 a2 a3) (gI a1 a2 a3) a3)] 25)
  obtain ⟨c0, c1, c2⟩ := v5
  obtain ⟨d0, d1, d2⟩ := v5'
  go_wp2_with fail
  refine (eqVec_any _ _ _ _).mono ?_
  rintro e w5 ⟨rfl, hx⟩
  replace hB := below_call (hB.alloc hB.size _) hx
  go_wp2_with fail
  go_ret
  exact ⟨rfl, hB⟩
end Go.Proofs.Ytgcandihjlaknae
