/- The law on VecRight, walked. -/
import Derived.Test.YtgcandihjlaknadVecC
namespace Go.Proofs.Ytgcandihjlaknad
open Go.RowKit
set_option linter.unusedVariables false

set_option maxRecDepth 100000 in
theorem toVec_any (x y z : Int) (w : World) :
    Calls Try.prog 21 #[.agg #[.int .i64 x, .int .i64 y, .int .i64 z]] w fun e w' => e = .returned (.agg #[.int .i64 x, .int .i64 y, .int .i64 z]) ∧ Below w.heap.size w w' := by
  go_enter Try.func21, Try.ntmps21
  go_wp2
  exact bodyPost_ret (v := .agg #[.int .i64 x, .int .i64 y, .int .i64 z]) (by simp [results, Try.results21, go_sem]) rfl ⟨rfl, below3 _ _ _ _⟩
theorem keep3 {w w0 w1 : World} {b : Nat} (hb : b < w0.heap.size) (hx : Below w0.heap.size w0 w1) {x y z : Value} (h0 : w0.cell? ⟨b, 0, none⟩ = some x) (h1 : w0.cell? ⟨b, 1, none⟩ = some y) (h2 : w0.cell? ⟨b, 2, none⟩ = some z) :
    w1.cell? ⟨b, 0, none⟩ = some x ∧ w1.cell? ⟨b, 1, none⟩ = some y ∧ w1.cell? ⟨b, 2, none⟩ = some z :=
  ⟨by rw [hx.cell (p := ⟨b, 0, none⟩) hb]; exact h0, by rw [hx.cell (p := ⟨b, 1, none⟩) hb]; exact h1, by rw [hx.cell (p := ⟨b, 2, none⟩) hb]; exact h2⟩
set_option maxRecDepth 100000 in
theorem lawVecRight (a1 a2 a3 : Int) (w : World) :
    Calls Try.prog 8 #[.agg #[.int .i64 a1, .int .i64 a2, .int .i64 a3]] w fun e w' => e = .returned (.bool true) ∧ Below w.heap.size w w' := by
  go_enter Try.func8, Try.ntmps8
  go_wp2_with fail
  refine (toVec_any a1 a2 a3 _).mono ?_
  rintro e w1 ⟨rfl, hx⟩
  have va := keep3 (w := w) (b := w.heap.size) (x := .int .i64 a1) (y := .int .i64 a2) (z := .int .i64 a3) (by simp) hx (by simp) (by simp) (by simp)
  have hB : Below w.heap.size w w1 := below_call (below1 _ _) hx
  have hs : w.heap.size < w1.heap.size := by have := hx.size; simp at this; omega
  clear hx
  go_wp2_with fail
  refine (specRight_any a1 a2 a3 _).mono ?_
  rintro e w2 ⟨rfl, hx⟩
  have va2 := keep3 (w := w) hs hx va.1 va.2.1 va.2.2
  replace hB := below_call hB hx
  clear hx va
  obtain ⟨c0, c1, c2⟩ := va2
  go_wp2_with fail
  refine (toVec_any a1 a2 a3 _).mono ?_
  rintro e w3 ⟨rfl, hx⟩
  replace hB := below_call hB hx
  clear hx
  go_wp2_with fail
  refine (vecRight_any a1 a2 a3 _).mono ?_
  rintro e w4 ⟨rfl, hx⟩
  replace hB := below_call hB hx
  clear hx
  go_wp2_with fail
  go_ret
  exact ⟨rfl, hB⟩
end Go.Proofs.Ytgcandihjlaknad
