/- What the laws on directions draw: a direction, and one that is so many times a small one. -/
import Derived.Test.YtpjofdbeflhjnaaDraw6
namespace Go.Proofs.Ytpjofdbeflhjnaa
open Go.RowKit
set_option linter.unusedVariables false

set_option maxHeartbeats 2000000 in
set_option maxRecDepth 100000 in
theorem drawPrime_any (a : Option Addr) (len cap : Nat) (w : World) (hl : len ≤ 1048576) (hR : Row w a len w.heap.size) :
    Calls Try.prog 15 #[.slice a len cap] w fun e w' => ∃ a1 a2 a3 : Int, e = .returned (.agg #[.int .i64 a1, .int .i64 a2, .int .i64 a3]) ∧ Below w.heap.size w w' := by
  have HR := hide hR
  clear hR
  go_enter Try.func15, Try.ntmps15
  go_wp2_with fail
  have H0 : VecAt (w.alloc (.cells #[.int .i64 0, .int .i64 0, .int .i64 0] 35)) w.heap.size 0 0 0 := (by simpa using vecAt_new w 0 0 0 35 : VecAt (w.alloc (.cells #[.int .i64 0, .int .i64 0, .int .i64 0] 35)) w.heap.size 0 0 0)
  have G0 : FreeAt (w.alloc (.cells #[.int .i64 0, .int .i64 0, .int .i64 0] 35)) w.heap.size := (by simpa using freeAt_new w 0 0 0 35 : FreeAt (w.alloc (.cells #[.int .i64 0, .int .i64 0, .int .i64 0] 35)) w.heap.size)
  refine (source_any a len cap _ hl ((unhide HR).allocs _)).mono ?_
  rintro e w1 ⟨rfl, hS1, hB1⟩
  have HB := hide (below_call (below1 _ _) hB1)
  replace H0 := hide (H0.kept (by simp <;> omega) hB1)
  replace G0 := hide (G0.kept (by simp <;> omega) hB1)
  simp only [World.size_alloc] at hS1
  have HS := hide hS1
  clear hS1 hB1
  go_wp2_with fail
  refine (small_any (w.heap.size + 1) _ (unhide HS)).mono ?_
  rintro e w2 ⟨x0, y0, z0, rfl, hS', hg⟩
  replace G0 := hide ((unhide G0).grown (vlt (unhide H0)) hg (by omega))
  replace H0 := hide ((unhide H0).grown hg (by omega))
  replace HB := hide ((unhide HB).grown hg (unhide HB).size (fun k e => by have := Option.some.inj e; omega))
  replace HS := hide hS'
  clear hS' hg
  have hM := (unhide HS).lt
  have l0M := vlt (unhide H0)
  replace G0 := hide ((unhide G0).kept (vlt (unhide H0)) (below1 _ (.cells #[.int .i64 x0, .int .i64 y0, .int .i64 z0] 35)))
  replace H0 := hide ((unhide H0).alloc (vlt (unhide H0)) (.cells #[.int .i64 x0, .int .i64 y0, .int .i64 z0] 35))
  have HM := hide (vecAt_new w2 x0 y0 z0 35)
  replace HS := hide ((unhide HS).allocs (.cells #[.int .i64 x0, .int .i64 y0, .int .i64 z0] 35))
  replace HB := hide ((unhide HB).alloc (unhide HB).size (.cells #[.int .i64 x0, .int .i64 y0, .int .i64 z0] 35))
  go_wp2_with fail
  generalize w2.alloc (.cells #[.int .i64 x0, .int .i64 y0, .int .i64 z0] 35) = w3 at HM HS HB H0 G0 ⊢
  generalize w2.heap.size = bM at HM hM l0M ⊢
  refine (n_any (w.heap.size + 1) 40 _ (unhide HS) (by omega)).mono ?_
  rintro e w4 ⟨k, rfl, k0, k1, k2, hS', hg⟩
  replace G0 := hide ((unhide G0).grown (vlt (unhide H0)) hg (by omega))
  replace H0 := hide ((unhide H0).grown hg (by omega))
  replace HM := hide ((unhide HM).grown hg (by omega))
  replace HB := hide ((unhide HB).grown hg (unhide HB).size (fun k e => by have := Option.some.inj e; omega))
  replace HS := hide hS'
  clear hS' hg
  have hk : k < 40 := k1 (by omega)
  clear k1 k2
  go_wp2_with fail
  refine (one_any (w.heap.size + 1) 4 _ (unhide HS) (by omega)).mono ?_
  rintro e w5 ⟨q, rfl, hS', hg⟩
  replace G0 := hide ((unhide G0).grown (vlt (unhide H0)) hg (by omega))
  replace H0 := hide ((unhide H0).grown hg (by omega))
  replace HM := hide ((unhide HM).grown hg (by omega))
  replace HB := hide ((unhide HB).grown hg (unhide HB).size (fun k e => by have := Option.some.inj e; omega))
  replace HS := hide hS'
  clear hS' hg
  cases q
  · have v0 := unhide H0
    obtain ⟨r00, r01, r02⟩ := v0
    have g0 := unhide G0
    obtain ⟨t00, t01, t02⟩ := g0
    have vM := unhide HM
    obtain ⟨pM0, pM1, pM2⟩ := vM
    go_wp2_with fail
    exact bodyPost_ret (v := .agg #[.int .i64 (wrap64 ((1 + k) * x0)), .int .i64 (wrap64 ((1 + k) * y0)), .int .i64 (wrap64 ((1 + k) * z0))]) (by simp [results, Try.results15, go_sem, r00, r01, r02]) rfl ⟨_, _, _, rfl, (below_set3 (unhide HB) (by omega) _ _ _)⟩
  · go_wp2_with fail
    refine (vec_any (w.heap.size + 1) _ (unhide HS)).mono ?_
    rintro e w6 ⟨x1, y1, z1, rfl, hS', hg⟩
    replace G0 := hide ((unhide G0).grown (vlt (unhide H0)) hg (by omega))
    replace H0 := hide ((unhide H0).grown hg (by omega))
    replace HM := hide ((unhide HM).grown hg (by omega))
    replace HB := hide ((unhide HB).grown hg (unhide HB).size (fun k e => by have := Option.some.inj e; omega))
    replace HS := hide hS'
    clear hS' hg
    have v0 := unhide H0
    obtain ⟨r00, r01, r02⟩ := v0
    have g0 := unhide G0
    obtain ⟨t00, t01, t02⟩ := g0
    go_wp2_with fail
    exact bodyPost_ret (v := .agg #[.int .i64 x1, .int .i64 y1, .int .i64 z1]) (by simp [results, Try.results15, go_sem, r00, r01, r02]) rfl ⟨x1, y1, z1, rfl, (below_set3 (unhide HB) (by omega) _ _ _)⟩
set_option maxHeartbeats 2000000 in
set_option maxRecDepth 100000 in
theorem drawVecRight_any (a : Option Addr) (len cap : Nat) (w : World) (hl : len ≤ 1048576) (hR : Row w a len w.heap.size) :
    Calls Try.prog 19 #[.slice a len cap] w fun e w' => ∃ a1 a2 a3 : Int, e = .returned (.agg #[.int .i64 a1, .int .i64 a2, .int .i64 a3]) ∧ Below w.heap.size w w' := by
  have HR := hide hR
  clear hR
  go_enter Try.func19, Try.ntmps19
  go_wp2_with fail
  have H0 : VecAt (w.alloc (.cells #[.int .i64 0, .int .i64 0, .int .i64 0] 35)) w.heap.size 0 0 0 := (by simpa using vecAt_new w 0 0 0 35 : VecAt (w.alloc (.cells #[.int .i64 0, .int .i64 0, .int .i64 0] 35)) w.heap.size 0 0 0)
  have G0 : FreeAt (w.alloc (.cells #[.int .i64 0, .int .i64 0, .int .i64 0] 35)) w.heap.size := (by simpa using freeAt_new w 0 0 0 35 : FreeAt (w.alloc (.cells #[.int .i64 0, .int .i64 0, .int .i64 0] 35)) w.heap.size)
  refine (source_any a len cap _ hl ((unhide HR).allocs _)).mono ?_
  rintro e w1 ⟨rfl, hS1, hB1⟩
  have HB := hide (below_call (below1 _ _) hB1)
  replace H0 := hide (H0.kept (by simp <;> omega) hB1)
  replace G0 := hide (G0.kept (by simp <;> omega) hB1)
  simp only [World.size_alloc] at hS1
  have HS := hide hS1
  clear hS1 hB1
  go_wp2_with fail
  refine (one_any (w.heap.size + 1) 6 _ (unhide HS) (by omega)).mono ?_
  rintro e w2 ⟨q, rfl, hS', hg⟩
  replace G0 := hide ((unhide G0).grown (vlt (unhide H0)) hg (by omega))
  replace H0 := hide ((unhide H0).grown hg (by omega))
  replace HB := hide ((unhide HB).grown hg (unhide HB).size (fun k e => by have := Option.some.inj e; omega))
  replace HS := hide hS'
  clear hS' hg
  cases q
  · go_wp2_with fail
    refine (vec_any (w.heap.size + 1) _ (unhide HS)).mono ?_
    rintro e w3 ⟨x1, y1, z1, rfl, hS', hg⟩
    replace G0 := hide ((unhide G0).grown (vlt (unhide H0)) hg (by omega))
    replace H0 := hide ((unhide H0).grown hg (by omega))
    replace HB := hide ((unhide HB).grown hg (unhide HB).size (fun k e => by have := Option.some.inj e; omega))
    replace HS := hide hS'
    clear hS' hg
    have v0 := unhide H0
    obtain ⟨r00, r01, r02⟩ := v0
    have g0 := unhide G0
    obtain ⟨t00, t01, t02⟩ := g0
    go_wp2_with fail
    exact bodyPost_ret (v := .agg #[.int .i64 x1, .int .i64 y1, .int .i64 z1]) (by simp [results, Try.results19, go_sem, r00, r01, r02]) rfl ⟨x1, y1, z1, rfl, (below_set3 (unhide HB) (by omega) _ _ _)⟩
  · have v0 := unhide H0
    obtain ⟨r00, r01, r02⟩ := v0
    have g0 := unhide G0
    obtain ⟨t00, t01, t02⟩ := g0
    go_wp2_with fail
    exact bodyPost_ret (v := .agg #[.int .i64 0, .int .i64 0, .int .i64 0]) (by simp [results, Try.results19, go_sem, r00, r01, r02]) rfl ⟨0, 0, 0, rfl, (below_set3 (unhide HB) (by omega) _ _ _)⟩
end Go.Proofs.Ytpjofdbeflhjnaa
