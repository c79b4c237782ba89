/- What the laws on directions draw: four directions. -/
import Derived.Test.YtpjofdbeflhjnaaDraw6
namespace Go.Proofs.Ytpjofdbeflhjnaa
open Go.RowKit
set_option linter.unusedVariables false

set_option maxHeartbeats 2000000 in
set_option maxRecDepth 100000 in
theorem drawCos_any (a : Option Addr) (len cap : Nat) (w : World) (hl : len ≤ 1048576) (hR : Row w a len w.heap.size) :
    Calls Try.prog 17 #[.slice a len cap] w fun e w' => ∃ a1 a2 a3 b1 b2 b3 c1 c2 c3 d1 d2 d3 : Int, e = .returned (.tuple #[.agg #[.int .i64 a1, .int .i64 a2, .int .i64 a3], .agg #[.int .i64 b1, .int .i64 b2, .int .i64 b3], .agg #[.int .i64 c1, .int .i64 c2, .int .i64 c3], .agg #[.int .i64 d1, .int .i64 d2, .int .i64 d3]]) ∧ Below w.heap.size w w' := by
  have HR := hide hR
  clear hR
  go_enter Try.func17, Try.ntmps17
  go_wp2_with fail
  have H0 : VecAt ((((w.alloc (.cells #[.int .i64 0, .int .i64 0, .int .i64 0] 35)).alloc (.cells #[.int .i64 0, .int .i64 0, .int .i64 0] 35)).alloc (.cells #[.int .i64 0, .int .i64 0, .int .i64 0] 35)).alloc (.cells #[.int .i64 0, .int .i64 0, .int .i64 0] 35)) w.heap.size 0 0 0 := ((((by simpa using vecAt_new w 0 0 0 35 : VecAt (w.alloc (.cells #[.int .i64 0, .int .i64 0, .int .i64 0] 35)) w.heap.size 0 0 0).alloc (by simp <;> omega) _).alloc (by simp <;> omega) _).alloc (by simp <;> omega) _)
  have G0 : FreeAt ((((w.alloc (.cells #[.int .i64 0, .int .i64 0, .int .i64 0] 35)).alloc (.cells #[.int .i64 0, .int .i64 0, .int .i64 0] 35)).alloc (.cells #[.int .i64 0, .int .i64 0, .int .i64 0] 35)).alloc (.cells #[.int .i64 0, .int .i64 0, .int .i64 0] 35)) w.heap.size := ((((by simpa using freeAt_new w 0 0 0 35 : FreeAt (w.alloc (.cells #[.int .i64 0, .int .i64 0, .int .i64 0] 35)) w.heap.size).kept (by simp <;> omega) (below1 _ _)).kept (by simp <;> omega) (below1 _ _)).kept (by simp <;> omega) (below1 _ _))
  have H1 : VecAt ((((w.alloc (.cells #[.int .i64 0, .int .i64 0, .int .i64 0] 35)).alloc (.cells #[.int .i64 0, .int .i64 0, .int .i64 0] 35)).alloc (.cells #[.int .i64 0, .int .i64 0, .int .i64 0] 35)).alloc (.cells #[.int .i64 0, .int .i64 0, .int .i64 0] 35)) (w.heap.size + 1) 0 0 0 := (((by simpa using vecAt_new (w.alloc (.cells #[.int .i64 0, .int .i64 0, .int .i64 0] 35)) 0 0 0 35 : VecAt ((w.alloc (.cells #[.int .i64 0, .int .i64 0, .int .i64 0] 35)).alloc (.cells #[.int .i64 0, .int .i64 0, .int .i64 0] 35)) (w.heap.size + 1) 0 0 0).alloc (by simp <;> omega) _).alloc (by simp <;> omega) _)
  have G1 : FreeAt ((((w.alloc (.cells #[.int .i64 0, .int .i64 0, .int .i64 0] 35)).alloc (.cells #[.int .i64 0, .int .i64 0, .int .i64 0] 35)).alloc (.cells #[.int .i64 0, .int .i64 0, .int .i64 0] 35)).alloc (.cells #[.int .i64 0, .int .i64 0, .int .i64 0] 35)) (w.heap.size + 1) := (((by simpa using freeAt_new (w.alloc (.cells #[.int .i64 0, .int .i64 0, .int .i64 0] 35)) 0 0 0 35 : FreeAt ((w.alloc (.cells #[.int .i64 0, .int .i64 0, .int .i64 0] 35)).alloc (.cells #[.int .i64 0, .int .i64 0, .int .i64 0] 35)) (w.heap.size + 1)).kept (by simp <;> omega) (below1 _ _)).kept (by simp <;> omega) (below1 _ _))
  have H2 : VecAt ((((w.alloc (.cells #[.int .i64 0, .int .i64 0, .int .i64 0] 35)).alloc (.cells #[.int .i64 0, .int .i64 0, .int .i64 0] 35)).alloc (.cells #[.int .i64 0, .int .i64 0, .int .i64 0] 35)).alloc (.cells #[.int .i64 0, .int .i64 0, .int .i64 0] 35)) (w.heap.size + 1 + 1) 0 0 0 := ((by simpa using vecAt_new ((w.alloc (.cells #[.int .i64 0, .int .i64 0, .int .i64 0] 35)).alloc (.cells #[.int .i64 0, .int .i64 0, .int .i64 0] 35)) 0 0 0 35 : VecAt (((w.alloc (.cells #[.int .i64 0, .int .i64 0, .int .i64 0] 35)).alloc (.cells #[.int .i64 0, .int .i64 0, .int .i64 0] 35)).alloc (.cells #[.int .i64 0, .int .i64 0, .int .i64 0] 35)) (w.heap.size + 1 + 1) 0 0 0).alloc (by simp <;> omega) _)
  have G2 : FreeAt ((((w.alloc (.cells #[.int .i64 0, .int .i64 0, .int .i64 0] 35)).alloc (.cells #[.int .i64 0, .int .i64 0, .int .i64 0] 35)).alloc (.cells #[.int .i64 0, .int .i64 0, .int .i64 0] 35)).alloc (.cells #[.int .i64 0, .int .i64 0, .int .i64 0] 35)) (w.heap.size + 1 + 1) := ((by simpa using freeAt_new ((w.alloc (.cells #[.int .i64 0, .int .i64 0, .int .i64 0] 35)).alloc (.cells #[.int .i64 0, .int .i64 0, .int .i64 0] 35)) 0 0 0 35 : FreeAt (((w.alloc (.cells #[.int .i64 0, .int .i64 0, .int .i64 0] 35)).alloc (.cells #[.int .i64 0, .int .i64 0, .int .i64 0] 35)).alloc (.cells #[.int .i64 0, .int .i64 0, .int .i64 0] 35)) (w.heap.size + 1 + 1)).kept (by simp <;> omega) (below1 _ _))
  have H3 : VecAt ((((w.alloc (.cells #[.int .i64 0, .int .i64 0, .int .i64 0] 35)).alloc (.cells #[.int .i64 0, .int .i64 0, .int .i64 0] 35)).alloc (.cells #[.int .i64 0, .int .i64 0, .int .i64 0] 35)).alloc (.cells #[.int .i64 0, .int .i64 0, .int .i64 0] 35)) (w.heap.size + 1 + 1 + 1) 0 0 0 := (by simpa using vecAt_new (((w.alloc (.cells #[.int .i64 0, .int .i64 0, .int .i64 0] 35)).alloc (.cells #[.int .i64 0, .int .i64 0, .int .i64 0] 35)).alloc (.cells #[.int .i64 0, .int .i64 0, .int .i64 0] 35)) 0 0 0 35 : VecAt ((((w.alloc (.cells #[.int .i64 0, .int .i64 0, .int .i64 0] 35)).alloc (.cells #[.int .i64 0, .int .i64 0, .int .i64 0] 35)).alloc (.cells #[.int .i64 0, .int .i64 0, .int .i64 0] 35)).alloc (.cells #[.int .i64 0, .int .i64 0, .int .i64 0] 35)) (w.heap.size + 1 + 1 + 1) 0 0 0)
  have G3 : FreeAt ((((w.alloc (.cells #[.int .i64 0, .int .i64 0, .int .i64 0] 35)).alloc (.cells #[.int .i64 0, .int .i64 0, .int .i64 0] 35)).alloc (.cells #[.int .i64 0, .int .i64 0, .int .i64 0] 35)).alloc (.cells #[.int .i64 0, .int .i64 0, .int .i64 0] 35)) (w.heap.size + 1 + 1 + 1) := (by simpa using freeAt_new (((w.alloc (.cells #[.int .i64 0, .int .i64 0, .int .i64 0] 35)).alloc (.cells #[.int .i64 0, .int .i64 0, .int .i64 0] 35)).alloc (.cells #[.int .i64 0, .int .i64 0, .int .i64 0] 35)) 0 0 0 35 : FreeAt ((((w.alloc (.cells #[.int .i64 0, .int .i64 0, .int .i64 0] 35)).alloc (.cells #[.int .i64 0, .int .i64 0, .int .i64 0] 35)).alloc (.cells #[.int .i64 0, .int .i64 0, .int .i64 0] 35)).alloc (.cells #[.int .i64 0, .int .i64 0, .int .i64 0] 35)) (w.heap.size + 1 + 1 + 1))
  refine (source_any a len cap _ hl (((((unhide HR).allocs _).allocs _).allocs _).allocs _)).mono ?_
  rintro e w1 ⟨rfl, hS1, hB1⟩
  have HB := hide (below_call (below4 _ _ _ _ _) hB1)
  replace H0 := hide (H0.kept (by simp <;> omega) hB1)
  replace G0 := hide (G0.kept (by simp <;> omega) hB1)
  replace H1 := hide (H1.kept (by simp <;> omega) hB1)
  replace G1 := hide (G1.kept (by simp <;> omega) hB1)
  replace H2 := hide (H2.kept (by simp <;> omega) hB1)
  replace G2 := hide (G2.kept (by simp <;> omega) hB1)
  replace H3 := hide (H3.kept (by simp <;> omega) hB1)
  replace G3 := hide (G3.kept (by simp <;> omega) hB1)
  simp only [World.size_alloc] at hS1
  have HS := hide hS1
  clear hS1 hB1
  go_wp2_with fail
  refine (small_any (w.heap.size + 1 + 1 + 1 + 1) _ (unhide HS)).mono ?_
  rintro e w2 ⟨x0, y0, z0, rfl, hS', hg⟩
  replace G0 := hide ((unhide G0).grown (vlt (unhide H0)) hg (by omega))
  replace H0 := hide ((unhide H0).grown hg (by omega))
  replace G1 := hide ((unhide G1).grown (vlt (unhide H1)) hg (by omega))
  replace H1 := hide ((unhide H1).grown hg (by omega))
  replace G2 := hide ((unhide G2).grown (vlt (unhide H2)) hg (by omega))
  replace H2 := hide ((unhide H2).grown hg (by omega))
  replace G3 := hide ((unhide G3).grown (vlt (unhide H3)) hg (by omega))
  replace H3 := hide ((unhide H3).grown hg (by omega))
  replace HB := hide ((unhide HB).grown hg (unhide HB).size (fun k e => by have := Option.some.inj e; omega))
  replace HS := hide hS'
  clear hS' hg
  have hM := (unhide HS).lt
  have l0M := vlt (unhide H0)
  have l1M := vlt (unhide H1)
  have l2M := vlt (unhide H2)
  have l3M := vlt (unhide H3)
  replace G0 := hide ((unhide G0).kept (vlt (unhide H0)) (below1 _ (.cells #[.int .i64 x0, .int .i64 y0, .int .i64 z0] 35)))
  replace H0 := hide ((unhide H0).alloc (vlt (unhide H0)) (.cells #[.int .i64 x0, .int .i64 y0, .int .i64 z0] 35))
  replace G1 := hide ((unhide G1).kept (vlt (unhide H1)) (below1 _ (.cells #[.int .i64 x0, .int .i64 y0, .int .i64 z0] 35)))
  replace H1 := hide ((unhide H1).alloc (vlt (unhide H1)) (.cells #[.int .i64 x0, .int .i64 y0, .int .i64 z0] 35))
  replace G2 := hide ((unhide G2).kept (vlt (unhide H2)) (below1 _ (.cells #[.int .i64 x0, .int .i64 y0, .int .i64 z0] 35)))
  replace H2 := hide ((unhide H2).alloc (vlt (unhide H2)) (.cells #[.int .i64 x0, .int .i64 y0, .int .i64 z0] 35))
  replace G3 := hide ((unhide G3).kept (vlt (unhide H3)) (below1 _ (.cells #[.int .i64 x0, .int .i64 y0, .int .i64 z0] 35)))
  replace H3 := hide ((unhide H3).alloc (vlt (unhide H3)) (.cells #[.int .i64 x0, .int .i64 y0, .int .i64 z0] 35))
  have HM := hide (vecAt_new w2 x0 y0 z0 35)
  replace HS := hide ((unhide HS).allocs (.cells #[.int .i64 x0, .int .i64 y0, .int .i64 z0] 35))
  replace HB := hide ((unhide HB).alloc (unhide HB).size (.cells #[.int .i64 x0, .int .i64 y0, .int .i64 z0] 35))
  go_wp2_with fail
  generalize w2.alloc (.cells #[.int .i64 x0, .int .i64 y0, .int .i64 z0] 35) = w3 at HM HS HB H0 G0 H1 G1 H2 G2 H3 G3 ⊢
  generalize w2.heap.size = bM at HM hM l0M l1M l2M l3M ⊢
  refine (small_any (w.heap.size + 1 + 1 + 1 + 1) _ (unhide HS)).mono ?_
  rintro e w4 ⟨x1, y1, z1, rfl, hS', hg⟩
  replace G0 := hide ((unhide G0).grown (vlt (unhide H0)) hg (by omega))
  replace H0 := hide ((unhide H0).grown hg (by omega))
  replace G1 := hide ((unhide G1).grown (vlt (unhide H1)) hg (by omega))
  replace H1 := hide ((unhide H1).grown hg (by omega))
  replace G2 := hide ((unhide G2).grown (vlt (unhide H2)) hg (by omega))
  replace H2 := hide ((unhide H2).grown hg (by omega))
  replace G3 := hide ((unhide G3).grown (vlt (unhide H3)) hg (by omega))
  replace H3 := hide ((unhide H3).grown hg (by omega))
  replace HM := hide ((unhide HM).grown hg (by omega))
  replace HB := hide ((unhide HB).grown hg (unhide HB).size (fun k e => by have := Option.some.inj e; omega))
  replace HS := hide hS'
  clear hS' hg
  have hN := (unhide HS).lt
  have l0N := vlt (unhide H0)
  have l1N := vlt (unhide H1)
  have l2N := vlt (unhide H2)
  have l3N := vlt (unhide H3)
  have lMN := vlt (unhide HM)
  replace G0 := hide ((unhide G0).kept (vlt (unhide H0)) (below1 _ (.cells #[.int .i64 x1, .int .i64 y1, .int .i64 z1] 35)))
  replace H0 := hide ((unhide H0).alloc (vlt (unhide H0)) (.cells #[.int .i64 x1, .int .i64 y1, .int .i64 z1] 35))
  replace G1 := hide ((unhide G1).kept (vlt (unhide H1)) (below1 _ (.cells #[.int .i64 x1, .int .i64 y1, .int .i64 z1] 35)))
  replace H1 := hide ((unhide H1).alloc (vlt (unhide H1)) (.cells #[.int .i64 x1, .int .i64 y1, .int .i64 z1] 35))
  replace G2 := hide ((unhide G2).kept (vlt (unhide H2)) (below1 _ (.cells #[.int .i64 x1, .int .i64 y1, .int .i64 z1] 35)))
  replace H2 := hide ((unhide H2).alloc (vlt (unhide H2)) (.cells #[.int .i64 x1, .int .i64 y1, .int .i64 z1] 35))
  replace G3 := hide ((unhide G3).kept (vlt (unhide H3)) (below1 _ (.cells #[.int .i64 x1, .int .i64 y1, .int .i64 z1] 35)))
  replace H3 := hide ((unhide H3).alloc (vlt (unhide H3)) (.cells #[.int .i64 x1, .int .i64 y1, .int .i64 z1] 35))
  replace HM := hide ((unhide HM).alloc (vlt (unhide HM)) (.cells #[.int .i64 x1, .int .i64 y1, .int .i64 z1] 35))
  have HN := hide (vecAt_new w4 x1 y1 z1 35)
  replace HS := hide ((unhide HS).allocs (.cells #[.int .i64 x1, .int .i64 y1, .int .i64 z1] 35))
  replace HB := hide ((unhide HB).alloc (unhide HB).size (.cells #[.int .i64 x1, .int .i64 y1, .int .i64 z1] 35))
  go_wp2_with fail
  generalize w4.alloc (.cells #[.int .i64 x1, .int .i64 y1, .int .i64 z1] 35) = w5 at HN HS HB H0 G0 H1 G1 H2 G2 H3 G3 HM ⊢
  generalize w4.heap.size = bN at HN hN l0N l1N l2N l3N lMN ⊢
  refine (one_any (w.heap.size + 1 + 1 + 1 + 1) 2 _ (unhide HS) (by omega)).mono ?_
  rintro e w6 ⟨q, rfl, hS', hg⟩
  replace G0 := hide ((unhide G0).grown (vlt (unhide H0)) hg (by omega))
  replace H0 := hide ((unhide H0).grown hg (by omega))
  replace G1 := hide ((unhide G1).grown (vlt (unhide H1)) hg (by omega))
  replace H1 := hide ((unhide H1).grown hg (by omega))
  replace G2 := hide ((unhide G2).grown (vlt (unhide H2)) hg (by omega))
  replace H2 := hide ((unhide H2).grown hg (by omega))
  replace G3 := hide ((unhide G3).grown (vlt (unhide H3)) hg (by omega))
  replace H3 := hide ((unhide H3).grown hg (by omega))
  replace HM := hide ((unhide HM).grown hg (by omega))
  replace HN := hide ((unhide HN).grown hg (by omega))
  replace HB := hide ((unhide HB).grown hg (unhide HB).size (fun k e => by have := Option.some.inj e; omega))
  replace HS := hide hS'
  clear hS' hg
  cases q
  · go_wp2_with fail
    refine (vec_any (w.heap.size + 1 + 1 + 1 + 1) _ (unhide HS)).mono ?_
    rintro e w7 ⟨x2, y2, z2, rfl, hS', hg⟩
    replace G0 := hide ((unhide G0).grown (vlt (unhide H0)) hg (by omega))
    replace H0 := hide ((unhide H0).grown hg (by omega))
    replace G1 := hide ((unhide G1).grown (vlt (unhide H1)) hg (by omega))
    replace H1 := hide ((unhide H1).grown hg (by omega))
    replace G2 := hide ((unhide G2).grown (vlt (unhide H2)) hg (by omega))
    replace H2 := hide ((unhide H2).grown hg (by omega))
    replace G3 := hide ((unhide G3).grown (vlt (unhide H3)) hg (by omega))
    replace H3 := hide ((unhide H3).grown hg (by omega))
    replace HM := hide ((unhide HM).grown hg (by omega))
    replace HN := hide ((unhide HN).grown hg (by omega))
    replace HB := hide ((unhide HB).grown hg (unhide HB).size (fun k e => by have := Option.some.inj e; omega))
    replace HS := hide hS'
    clear hS' hg
    have hP := (unhide HS).lt
    have l0P := vlt (unhide H0)
    have l1P := vlt (unhide H1)
    have l2P := vlt (unhide H2)
    have l3P := vlt (unhide H3)
    have lMP := vlt (unhide HM)
    have lNP := vlt (unhide HN)
    replace G0 := hide ((unhide G0).kept (vlt (unhide H0)) (below1 _ (.cells #[.int .i64 x2, .int .i64 y2, .int .i64 z2] 35)))
    replace H0 := hide ((unhide H0).alloc (vlt (unhide H0)) (.cells #[.int .i64 x2, .int .i64 y2, .int .i64 z2] 35))
    replace G1 := hide ((unhide G1).kept (vlt (unhide H1)) (below1 _ (.cells #[.int .i64 x2, .int .i64 y2, .int .i64 z2] 35)))
    replace H1 := hide ((unhide H1).alloc (vlt (unhide H1)) (.cells #[.int .i64 x2, .int .i64 y2, .int .i64 z2] 35))
    replace G2 := hide ((unhide G2).kept (vlt (unhide H2)) (below1 _ (.cells #[.int .i64 x2, .int .i64 y2, .int .i64 z2] 35)))
    replace H2 := hide ((unhide H2).alloc (vlt (unhide H2)) (.cells #[.int .i64 x2, .int .i64 y2, .int .i64 z2] 35))
    replace G3 := hide ((unhide G3).kept (vlt (unhide H3)) (below1 _ (.cells #[.int .i64 x2, .int .i64 y2, .int .i64 z2] 35)))
    replace H3 := hide ((unhide H3).alloc (vlt (unhide H3)) (.cells #[.int .i64 x2, .int .i64 y2, .int .i64 z2] 35))
    replace HM := hide ((unhide HM).alloc (vlt (unhide HM)) (.cells #[.int .i64 x2, .int .i64 y2, .int .i64 z2] 35))
    replace HN := hide ((unhide HN).alloc (vlt (unhide HN)) (.cells #[.int .i64 x2, .int .i64 y2, .int .i64 z2] 35))
    have HP := hide (vecAt_new w7 x2 y2 z2 35)
    replace HS := hide ((unhide HS).allocs (.cells #[.int .i64 x2, .int .i64 y2, .int .i64 z2] 35))
    replace HB := hide ((unhide HB).alloc (unhide HB).size (.cells #[.int .i64 x2, .int .i64 y2, .int .i64 z2] 35))
    go_wp2_with fail
    generalize w7.alloc (.cells #[.int .i64 x2, .int .i64 y2, .int .i64 z2] 35) = w8 at HP HS HB H0 G0 H1 G1 H2 G2 H3 G3 HM HN ⊢
    generalize w7.heap.size = bP at HP hP l0P l1P l2P l3P lMP lNP ⊢
    have vM := unhide HM
    obtain ⟨pM0, pM1, pM2⟩ := vM
    have d0M : w.heap.size ≠ bM := by omega
    have d1M : (w.heap.size + 1) ≠ bM := by omega
    have d2M : (w.heap.size + 1 + 1) ≠ bM := by omega
    have d3M : (w.heap.size + 1 + 1 + 1) ≠ bM := by omega
    have vN := unhide HN
    obtain ⟨pN0, pN1, pN2⟩ := vN
    have d0N : w.heap.size ≠ bN := by omega
    have d1N : (w.heap.size + 1) ≠ bN := by omega
    have d2N : (w.heap.size + 1 + 1) ≠ bN := by omega
    have d3N : (w.heap.size + 1 + 1 + 1) ≠ bN := by omega
    have vP := unhide HP
    obtain ⟨pP0, pP1, pP2⟩ := vP
    have d0P : w.heap.size ≠ bP := by omega
    have d1P : (w.heap.size + 1) ≠ bP := by omega
    have d2P : (w.heap.size + 1 + 1) ≠ bP := by omega
    have d3P : (w.heap.size + 1 + 1 + 1) ≠ bP := by omega
    have zz0 := vlt (unhide H0)
    have zz1 := vlt (unhide H1)
    have zz2 := vlt (unhide H2)
    have zz3 := vlt (unhide H3)
    go_region_held (fun w' => w'.cell? ⟨bM, 0, none⟩ = some (.int .i64 x0) ∧ w'.cell? ⟨bM, 1, none⟩ = some (.int .i64 y0) ∧ w'.cell? ⟨bM, 2, none⟩ = some (.int .i64 z0) ∧ w'.cell? ⟨bN, 0, none⟩ = some (.int .i64 x1) ∧ w'.cell? ⟨bN, 1, none⟩ = some (.int .i64 y1) ∧ w'.cell? ⟨bN, 2, none⟩ = some (.int .i64 z1) ∧ w'.cell? ⟨bP, 0, none⟩ = some (.int .i64 x2) ∧ w'.cell? ⟨bP, 1, none⟩ = some (.int .i64 y2) ∧ w'.cell? ⟨bP, 2, none⟩ = some (.int .i64 z2)) (go_keep) ((go_at_call 48; refine (vec_any (w.heap.size + 1 + 1 + 1 + 1) _ (unhide HS).drews).mono ?_; rintro e wn ⟨x3, y3, z3, rfl, hS', hg⟩; obtain ⟨r00, r01, r02⟩ := (show VecAt w8.drew w.heap.size 0 0 0 from unhide H0).grown hg (by omega); obtain ⟨t00, t01, t02⟩ := (show FreeAt w8.drew w.heap.size from unhide G0).grown (by exact zz0) hg (by omega); obtain ⟨r10, r11, r12⟩ := (show VecAt w8.drew (w.heap.size + 1) 0 0 0 from unhide H1).grown hg (by omega); obtain ⟨t10, t11, t12⟩ := (show FreeAt w8.drew (w.heap.size + 1) from unhide G1).grown (by exact zz1) hg (by omega); obtain ⟨r20, r21, r22⟩ := (show VecAt w8.drew (w.heap.size + 1 + 1) 0 0 0 from unhide H2).grown hg (by omega); obtain ⟨t20, t21, t22⟩ := (show FreeAt w8.drew (w.heap.size + 1 + 1) from unhide G2).grown (by exact zz2) hg (by omega); obtain ⟨r30, r31, r32⟩ := (show VecAt w8.drew (w.heap.size + 1 + 1 + 1) 0 0 0 from unhide H3).grown hg (by omega); obtain ⟨t30, t31, t32⟩ := (show FreeAt w8.drew (w.heap.size + 1 + 1 + 1) from unhide G3).grown (by exact zz3) hg (by omega); obtain ⟨qM0, qM1, qM2⟩ := (show VecAt w8.drew bM x0 y0 z0 from unhide HM).grown hg (by omega); obtain ⟨qN0, qN1, qN2⟩ := (show VecAt w8.drew bN x1 y1 z1 from unhide HN).grown hg (by omega); obtain ⟨qP0, qP1, qP2⟩ := (show VecAt w8.drew bP x2 y2 z2 from unhide HP).grown hg (by omega)))
    all_goals go_wp2
    all_goals exact bodyPost_ret (v := .tuple #[.agg #[.int .i64 x2, .int .i64 y2, .int .i64 z2], .agg #[.int .i64 x3, .int .i64 y3, .int .i64 z3], .agg #[.int .i64 x0, .int .i64 y0, .int .i64 z0], .agg #[.int .i64 x1, .int .i64 y1, .int .i64 z1]]) (by simp [results, Try.results17, go_sem, r00, r01, r02, r10, r11, r12, r20, r21, r22, r30, r31, r32]) rfl ⟨_, _, _, _, _, _, _, _, _, _, _, _, rfl, (below_set3 (below_set3 (below_set3 (below_set3 ((unhide HB).drew.grown hg (unhide HB).size (fun k e => by have := Option.some.inj e; omega)) (by omega) _ _ _) (by omega) _ _ _) (by omega) _ _ _) (by omega) _ _ _)⟩
  · go_wp2_with fail
    refine (n_any (w.heap.size + 1 + 1 + 1 + 1) 30 _ (unhide HS) (by omega)).mono ?_
    rintro e w7 ⟨k, rfl, k0, k1, k2, hS', hg⟩
    replace G0 := hide ((unhide G0).grown (vlt (unhide H0)) hg (by omega))
    replace H0 := hide ((unhide H0).grown hg (by omega))
    replace G1 := hide ((unhide G1).grown (vlt (unhide H1)) hg (by omega))
    replace H1 := hide ((unhide H1).grown hg (by omega))
    replace G2 := hide ((unhide G2).grown (vlt (unhide H2)) hg (by omega))
    replace H2 := hide ((unhide H2).grown hg (by omega))
    replace G3 := hide ((unhide G3).grown (vlt (unhide H3)) hg (by omega))
    replace H3 := hide ((unhide H3).grown hg (by omega))
    replace HM := hide ((unhide HM).grown hg (by omega))
    replace HN := hide ((unhide HN).grown hg (by omega))
    replace HB := hide ((unhide HB).grown hg (unhide HB).size (fun k e => by have := Option.some.inj e; omega))
    replace HS := hide hS'
    clear hS' hg
    have hk : k < 30 := k1 (by omega)
    clear k1 k2
    go_wp2_with fail
    have v0 := unhide H0
    obtain ⟨r00, r01, r02⟩ := v0
    have g0 := unhide G0
    obtain ⟨t00, t01, t02⟩ := g0
    have v1 := unhide H1
    obtain ⟨r10, r11, r12⟩ := v1
    have g1 := unhide G1
    obtain ⟨t10, t11, t12⟩ := g1
    have v2 := unhide H2
    obtain ⟨r20, r21, r22⟩ := v2
    have g2 := unhide G2
    obtain ⟨t20, t21, t22⟩ := g2
    have v3 := unhide H3
    obtain ⟨r30, r31, r32⟩ := v3
    have g3 := unhide G3
    obtain ⟨t30, t31, t32⟩ := g3
    have vM := unhide HM
    obtain ⟨pM0, pM1, pM2⟩ := vM
    have vN := unhide HN
    obtain ⟨pN0, pN1, pN2⟩ := vN
    have d0M : w.heap.size ≠ bM := by omega
    have d0N : w.heap.size ≠ bN := by omega
    have d1M : (w.heap.size + 1) ≠ bM := by omega
    have d1N : (w.heap.size + 1) ≠ bN := by omega
    have d2M : (w.heap.size + 1 + 1) ≠ bM := by omega
    have d2N : (w.heap.size + 1 + 1) ≠ bN := by omega
    have d3M : (w.heap.size + 1 + 1 + 1) ≠ bM := by omega
    have d3N : (w.heap.size + 1 + 1 + 1) ≠ bN := by omega
    go_region_held (fun w' => w'.cell? ⟨bM, 0, none⟩ = some (.int .i64 x0) ∧ w'.cell? ⟨bM, 1, none⟩ = some (.int .i64 y0) ∧ w'.cell? ⟨bM, 2, none⟩ = some (.int .i64 z0) ∧ w'.cell? ⟨bN, 0, none⟩ = some (.int .i64 x1) ∧ w'.cell? ⟨bN, 1, none⟩ = some (.int .i64 y1) ∧ w'.cell? ⟨bN, 2, none⟩ = some (.int .i64 z1)) (go_keep) (fail)
    all_goals go_wp2
    all_goals exact bodyPost_ret (v := .tuple #[.agg #[.int .i64 (wrap64 ((1 + k) * y0)), .int .i64 (wrap64 ((1 + k) * z0)), .int .i64 (wrap64 ((1 + k) * x0))], .agg #[.int .i64 y1, .int .i64 z1, .int .i64 x1], .agg #[.int .i64 x0, .int .i64 y0, .int .i64 z0], .agg #[.int .i64 x1, .int .i64 y1, .int .i64 z1]]) (by simp [results, Try.results17, go_sem, Go.IntWalk.i64_left, r00, r01, r02, r10, r11, r12, r20, r21, r22, r30, r31, r32]) rfl ⟨_, _, _, _, _, _, _, _, _, _, _, _, rfl, (below_set3 (below_set3 (below_set3 (below_set3 (unhide HB) (by omega) _ _ _) (by omega) _ _ _) (by omega) _ _ _) (by omega) _ _ _).drew⟩
end Go.Proofs.Ytpjofdbeflhjnaa
