/- What the laws on directions draw: two directions once more; a direction so many times; a number below another. -/
import Derived.Test.YtpjofdbeflhjnaaDraw6
namespace Go.Proofs.Ytpjofdbeflhjnaa
open Go.RowKit
set_option linter.unusedVariables false

set_option maxHeartbeats 1000000 in
set_option maxRecDepth 100000 in
theorem drawCross_any (a : Option Addr) (len cap : Nat) (w : World) (hl : len ≤ 1048576) (hR : Row w a len w.heap.size) :
    Calls Try.prog 20 #[.slice a len cap] w fun e w' => ∃ a1 a2 a3 b1 b2 b3 : Int, e = .returned (.tuple #[.agg #[.int .i64 a1, .int .i64 a2, .int .i64 a3], .agg #[.int .i64 b1, .int .i64 b2, .int .i64 b3]]) ∧ Below w.heap.size w w' := by
  have HR := hide hR
  clear hR
  go_enter Try.func20, Try.ntmps20
  go_wp2_with fail
  have H0 : VecAt ((w.alloc (.cells #[.int .i64 0, .int .i64 0, .int .i64 0] 35)).alloc (.cells #[.int .i64 0, .int .i64 0, .int .i64 0] 35)) w.heap.size 0 0 0 := (vecAt_new w 0 0 0 _).alloc (by simp) _
  have H1 : VecAt ((w.alloc (.cells #[.int .i64 0, .int .i64 0, .int .i64 0] 35)).alloc (.cells #[.int .i64 0, .int .i64 0, .int .i64 0] 35)) (w.heap.size + 1) 0 0 0 := by simpa using vecAt_new (w.alloc _) 0 0 0 35
  have G0 : FreeAt ((w.alloc (.cells #[.int .i64 0, .int .i64 0, .int .i64 0] 35)).alloc (.cells #[.int .i64 0, .int .i64 0, .int .i64 0] 35)) w.heap.size := (freeAt_new w 0 0 0 _).kept (by simp) (below1 _ _)
  have G1 : FreeAt ((w.alloc (.cells #[.int .i64 0, .int .i64 0, .int .i64 0] 35)).alloc (.cells #[.int .i64 0, .int .i64 0, .int .i64 0] 35)) (w.heap.size + 1) := by simpa using freeAt_new (w.alloc _) 0 0 0 35
  refine (drawDot_any a len cap _ hl (((unhide HR).allocs _).allocs _)).mono ?_
  rintro e w1 ⟨a1, a2, a3, b1, b2, b3, rfl, hB1⟩
  have HB := hide (below_call (below2 _ _ _) hB1)
  replace H0 := H0.kept (by simp; omega) hB1
  replace H1 := H1.kept (by simp) hB1
  replace G0 := G0.kept (by simp; omega) hB1
  replace G1 := G1.kept (by simp) hB1
  clear hB1
  obtain ⟨r00, r01, r02⟩ := H0
  obtain ⟨r10, r11, r12⟩ := H1
  obtain ⟨t00, t01, t02⟩ := G0
  obtain ⟨t10, t11, t12⟩ := G1
  go_wp2_with fail
  exact bodyPost_ret (v := .tuple #[.agg #[.int .i64 a1, .int .i64 a2, .int .i64 a3], .agg #[.int .i64 b1, .int .i64 b2, .int .i64 b3]]) (by simp [results, Try.results20, go_sem, r00, r01, r02, r10, r11, r12]) rfl ⟨a1, a2, a3, b1, b2, b3, rfl, below_set3 (below_set3 (unhide HB) (by omega) _ _ _) (by omega) _ _ _⟩

set_option maxRecDepth 100000 in
theorem lwTimes_any (k x y z : Int) (w : World) :
    Calls Try.prog 35 #[.int .i64 k, .agg #[.int .i64 x, .int .i64 y, .int .i64 z]] w fun e w' => e = .returned (.agg #[.int .i64 (wrap64 (k * x)), .int .i64 (wrap64 (k * y)), .int .i64 (wrap64 (k * z))]) ∧ Below w.heap.size w w' := by
  go_enter Try.func35, Try.ntmps35
  go_wp2
  exact bodyPost_ret (v := .agg #[.int .i64 (wrap64 (k * x)), .int .i64 (wrap64 (k * y)), .int .i64 (wrap64 (k * z))]) (by simp [results, Try.results35, go_sem]) rfl ⟨rfl, below2 _ _ _⟩

set_option maxHeartbeats 1000000 in
theorem lwAt_any (a : Option Addr) (len cap : Nat) (i : Nat) (most : Int) (w : World) (hl : len ≤ 1048576) (hi : i ≤ 1000) (hm : most ≤ 9223372036854775807) (hR : Row w a len w.heap.size) :
    Calls Try.prog 8 #[.slice a len cap, .int .i64 (i : Int), .int .i64 most] w fun e w' => ∃ k : Int, e = .returned (.int .i64 k) ∧ 0 ≤ k ∧ (1 < most → k < most) ∧ (most ≤ 1 → k = 0) ∧ w' = w := by
  by_cases h1 : most ≤ 1
  · clear hR
    go_enter Try.func8, Try.ntmps8
    go_wp2
    go_ret
    exact ⟨0, rfl, Int.le_refl _, by omega, fun _ => rfl, rfl⟩
  · have hm1 : 1 < most := by omega
    rcases hR with rfl | ⟨bx, ox, rfl, hb, hz⟩
    · go_enter Try.func8, Try.ntmps8
      go_wp2
      go_ret
      exact ⟨0, rfl, Int.le_refl _, by omega, fun _ => rfl, rfl⟩
    · by_cases h0 : len = 0
      · subst h0
        clear hz
        go_enter Try.func8, Try.ntmps8
        go_wp2
        go_ret
        exact ⟨0, rfl, Int.le_refl _, by omega, fun _ => rfl, rfl⟩
      · obtain ⟨z, cz, z0, z1⟩ := hz (i % len) (Nat.mod_lt _ (by omega))
        have hlz : ((len : Int) == 0) = false := by simp; omega
        have hlp : (0 : Int) < (len : Int) := by omega
        obtain ⟨j, hj⟩ : ∃ j : Nat, (i : Int) % (len : Int) = (j : Int) := ⟨i % len, by simp⟩
        have hj2 : i % len = j := by omega
        rw [hj2] at cz
        have hjl : (j : Int) < (len : Int) := by have := Nat.mod_lt i (show 0 < len by omega); omega
        clear hz h0 hj2
        go_enter Try.func8, Try.ntmps8
        go_wp2
        go_ret
        have e0 : 0 ≤ z % most := Int.emod_nonneg _ (by omega)
        have e1 : z % most < most := Int.emod_lt_of_pos _ (by omega)
        exact ⟨z % most, rfl, e0, by first | exact e1 | exact fun _ => e1, by intro h; omega, rfl⟩
end Go.Proofs.Ytpjofdbeflhjnaa
