/- What the law on turns draws: two turns; a turn and a direction. -/
import Derived.Test.YtijpnnooenpjoaaDoorDrawT2
import Derived.Deep.RegionWith
namespace Go.Proofs.YtijpnnooenpjoaaDoor
open Go.RowKit
set_option linter.unusedVariables false

set_option maxHeartbeats 1000000 in
set_option maxRecDepth 100000 in
theorem drawCompose_any (a : Option Addr) (len cap : Nat) (w : World) (hl : len ≤ 1048576) (hR : Row w a len w.heap.size) :
    Calls Tryd.prog 15 #[.slice a len cap] w fun e w' => ∃ p q r s x0 x1 x2 x3 : Int, e = .returned (.tuple #[.agg #[.int .i64 p, .int .i64 q, .int .i64 r, .int .i64 s], .agg #[.int .i64 x0, .int .i64 x1, .int .i64 x2, .int .i64 x3]]) ∧ Below w.heap.size w w' := by
  have HR := hide hR
  clear hR
  go_enter Tryd.func15, Tryd.ntmps15
  go_wp2_with fail
  have v2 : TurnAt ((w.alloc (.cells #[.int .i64 0, .int .i64 0, .int .i64 0, .int .i64 0] 37)).alloc (.cells #[.int .i64 0, .int .i64 0, .int .i64 0, .int .i64 0] 37)) w.heap.size 0 0 0 0 := (turnAt_new w 0 0 0 0 _).alloc _
  have v3 : TurnAt ((w.alloc (.cells #[.int .i64 0, .int .i64 0, .int .i64 0, .int .i64 0] 37)).alloc (.cells #[.int .i64 0, .int .i64 0, .int .i64 0, .int .i64 0] 37)) (w.heap.size + 1) 0 0 0 0 := by simpa using turnAt_new (w.alloc _) 0 0 0 0 37
  have f2 : FreeT ((w.alloc (.cells #[.int .i64 0, .int .i64 0, .int .i64 0, .int .i64 0] 37)).alloc (.cells #[.int .i64 0, .int .i64 0, .int .i64 0, .int .i64 0] 37)) w.heap.size := (freeT_new w 0 0 0 0 _).kept (by simp) (below1 _ _)
  have f3 : FreeT ((w.alloc (.cells #[.int .i64 0, .int .i64 0, .int .i64 0, .int .i64 0] 37)).alloc (.cells #[.int .i64 0, .int .i64 0, .int .i64 0, .int .i64 0] 37)) (w.heap.size + 1) := by simpa using freeT_new (w.alloc _) 0 0 0 0 37
  refine (source_any a len cap _ hl (((unhide HR).allocT _).allocT _)).mono ?_
  rintro e w1 ⟨rfl, hS1, hB1⟩
  have hB : Below w.heap.size w w1 := below_call (below2 _ _ _) hB1
  replace v2 := v2.kept (by simp; omega) hB1
  replace v3 := v3.kept (by simp) hB1
  replace f2 := f2.kept (by simp; omega) hB1
  replace f3 := f3.kept (by simp) hB1
  have hs1 : w.heap.size + 1 < w1.heap.size := by have := hB1.size; simp at this; omega
  simp only [World.size_alloc] at hS1
  have HS1 := hide hS1
  clear hS1 hB1
  go_wp2_with fail
  refine (l03Turn_any (w.heap.size + 1 + 1) _ (unhide HS1)).mono ?_
  rintro e w2 ⟨p, q, r, s, rfl, hS2, hg2⟩
  have hsS : w.heap.size + 1 + 1 < w2.heap.size := hS2.lt
  replace f2 := (f2.grown v2.lt hg2 (by omega)).kept (by have := hg2.size; omega) (below1 w2 (.cells #[.int .i64 p, .int .i64 q, .int .i64 r, .int .i64 s] 37))
  replace f3 := (f3.grown hs1 hg2 (by omega)).kept (by have := hg2.size; omega) (below1 w2 (.cells #[.int .i64 p, .int .i64 q, .int .i64 r, .int .i64 s] 37))
  replace v2 := (v2.grown hg2 (by omega)).alloc (.cells #[.int .i64 p, .int .i64 q, .int .i64 r, .int .i64 s] 37)
  replace v3 := (v3.grown hg2 (by omega)).alloc (.cells #[.int .i64 p, .int .i64 q, .int .i64 r, .int .i64 s] 37)
  have va := turnAt_new w2 p q r s 37
  have hS := hS2.allocs (.cells #[.int .i64 p, .int .i64 q, .int .i64 r, .int .i64 s] 37)
  replace hB := (below_grownB hB hg2 (by omega)).alloc (Nat.le_of_lt (by omega)) (.cells #[.int .i64 p, .int .i64 q, .int .i64 r, .int .i64 s] 37)
  have hsz : (w2.alloc (.cells #[.int .i64 p, .int .i64 q, .int .i64 r, .int .i64 s] 37)).heap.size = w2.heap.size + 1 := by simp
  clear hS2 hg2 hs1 HS1
  go_wp2_with fail
  generalize w2.alloc (.cells #[.int .i64 p, .int .i64 q, .int .i64 r, .int .i64 s] 37) = w3 at v2 v3 f2 f3 va hS hB hsz ⊢
  generalize w2.heap.size = ba at va hsS hsz ⊢
  have HS := hide hS
  have HB := hide hB
  have H2 := hide v2
  have H3 := hide v3
  have G2 := hide f2
  have G3 := hide f3
  have HA := hide va
  clear hS hB
  obtain ⟨p0, p1, p2, p3⟩ := va
  clear v2 v3 f2 f3
  go_region_with (go_at_call 48; refine (l03Turn_any (w.heap.size + 1 + 1) _ (unhide HS).drewT).mono ?_; rintro e w4 ⟨x0, x1, x2, x3, rfl, hS4, hg4⟩; obtain ⟨q0, q1, q2, q3⟩ := (show TurnAt w3.drew ba p q r s from unhide HA).grown hg4 (by omega); obtain ⟨r0, r1, r2, r3⟩ := (show TurnAt w3.drew w.heap.size 0 0 0 0 from unhide H2).grown hg4 (by omega); obtain ⟨s0, s1, s2, s3⟩ := (show TurnAt w3.drew (w.heap.size + 1) 0 0 0 0 from unhide H3).grown hg4 (by omega); obtain ⟨t0, t1, t2, t3⟩ := (show FreeT w3.drew w.heap.size from unhide G2).grown (by exact Nat.lt_of_lt_of_le (by omega) (Nat.le_of_eq hsz.symm)) hg4 (by omega); obtain ⟨u0, u1, u2, u3⟩ := (show FreeT w3.drew (w.heap.size + 1) from unhide G3).grown (by exact Nat.lt_of_lt_of_le (by omega) (Nat.le_of_eq hsz.symm)) hg4 (by omega))
  all_goals go_wp2
  all_goals exact bodyPost_ret (v := .tuple #[.agg #[.int .i64 p, .int .i64 q, .int .i64 r, .int .i64 s], .agg #[.int .i64 x0, .int .i64 x1, .int .i64 x2, .int .i64 x3]]) (by simp [results, Tryd.results15, go_sem, r0, r1, r2, r3, s0, s1, s2, s3]) rfl ⟨p, q, r, s, x0, x1, x2, x3, rfl, below_set4 (below_set4 ((unhide HB).drew.grown hg4 (unhide HB).size (fun k e => by have := Option.some.inj e; omega)) (Nat.le_refl _) _ _ _ _) (by omega) _ _ _ _⟩
set_option maxHeartbeats 1000000 in
set_option maxRecDepth 100000 in
theorem drawApply_any (a : Option Addr) (len cap : Nat) (w : World) (hl : len ≤ 1048576) (hR : Row w a len w.heap.size) :
    Calls Tryd.prog 14 #[.slice a len cap] w fun e w' => ∃ p q r s x0 x1 x2 : Int, e = .returned (.tuple #[.agg #[.int .i64 p, .int .i64 q, .int .i64 r, .int .i64 s], .agg #[.int .i64 x0, .int .i64 x1, .int .i64 x2]]) ∧ Below w.heap.size w w' := by
  have HR := hide hR
  clear hR
  go_enter Tryd.func14, Tryd.ntmps14
  go_wp2_with fail
  have v2 : TurnAt ((w.alloc (.cells #[.int .i64 0, .int .i64 0, .int .i64 0, .int .i64 0] 37)).alloc (.cells #[.int .i64 0, .int .i64 0, .int .i64 0] 39)) w.heap.size 0 0 0 0 := (turnAt_new w 0 0 0 0 _).alloc _
  have v3 : VecAt ((w.alloc (.cells #[.int .i64 0, .int .i64 0, .int .i64 0, .int .i64 0] 37)).alloc (.cells #[.int .i64 0, .int .i64 0, .int .i64 0] 39)) (w.heap.size + 1) 0 0 0 := by simpa using vecAt_new (w.alloc _) 0 0 0 39
  have f2 : FreeT ((w.alloc (.cells #[.int .i64 0, .int .i64 0, .int .i64 0, .int .i64 0] 37)).alloc (.cells #[.int .i64 0, .int .i64 0, .int .i64 0] 39)) w.heap.size := (freeT_new w 0 0 0 0 _).kept (by simp) (below1 _ _)
  have f3 : FreeAt ((w.alloc (.cells #[.int .i64 0, .int .i64 0, .int .i64 0, .int .i64 0] 37)).alloc (.cells #[.int .i64 0, .int .i64 0, .int .i64 0] 39)) (w.heap.size + 1) := by simpa using freeAt_new (w.alloc _) 0 0 0 39
  refine (source_any a len cap _ hl (((unhide HR).allocT _).allocT _)).mono ?_
  rintro e w1 ⟨rfl, hS1, hB1⟩
  have hB : Below w.heap.size w w1 := below_call (below2 _ _ _) hB1
  replace v2 := v2.kept (by simp; omega) hB1
  replace v3 := v3.kept (by simp) hB1
  replace f2 := f2.kept (by simp; omega) hB1
  replace f3 := f3.kept (by simp) hB1
  have hs1 : w.heap.size + 1 < w1.heap.size := by have := hB1.size; simp at this; omega
  simp only [World.size_alloc] at hS1
  have HS1 := hide hS1
  clear hS1 hB1
  go_wp2_with fail
  refine (l03Turn_any (w.heap.size + 1 + 1) _ (unhide HS1)).mono ?_
  rintro e w2 ⟨p, q, r, s, rfl, hS2, hg2⟩
  have hsS : w.heap.size + 1 + 1 < w2.heap.size := hS2.lt
  replace f2 := (f2.grown v2.lt hg2 (by omega)).kept (by have := hg2.size; omega) (below1 w2 (.cells #[.int .i64 p, .int .i64 q, .int .i64 r, .int .i64 s] 37))
  replace f3 := (f3.grown hs1 hg2 (by omega)).kept (by have := hg2.size; omega) (below1 w2 (.cells #[.int .i64 p, .int .i64 q, .int .i64 r, .int .i64 s] 37))
  replace v2 := (v2.grown hg2 (by omega)).alloc (.cells #[.int .i64 p, .int .i64 q, .int .i64 r, .int .i64 s] 37)
  replace v3 := (v3.grown hg2 (by omega)).alloc (by have := hg2.size; omega) (.cells #[.int .i64 p, .int .i64 q, .int .i64 r, .int .i64 s] 37)
  have va := turnAt_new w2 p q r s 37
  have hS := hS2.allocs (.cells #[.int .i64 p, .int .i64 q, .int .i64 r, .int .i64 s] 37)
  replace hB := (below_grownB hB hg2 (by omega)).alloc (Nat.le_of_lt (by omega)) (.cells #[.int .i64 p, .int .i64 q, .int .i64 r, .int .i64 s] 37)
  have hsz : (w2.alloc (.cells #[.int .i64 p, .int .i64 q, .int .i64 r, .int .i64 s] 37)).heap.size = w2.heap.size + 1 := by simp
  clear hS2 hg2 hs1 HS1
  go_wp2_with fail
  generalize w2.alloc (.cells #[.int .i64 p, .int .i64 q, .int .i64 r, .int .i64 s] 37) = w3 at v2 v3 f2 f3 va hS hB hsz ⊢
  generalize w2.heap.size = ba at va hsS hsz ⊢
  have HS := hide hS
  have HB := hide hB
  have H2 := hide v2
  have H3 := hide v3
  have G2 := hide f2
  have G3 := hide f3
  have HA := hide va
  clear hS hB
  obtain ⟨p0, p1, p2, p3⟩ := va
  clear v2 v3 f2 f3
  go_region_with (go_at_call 49; refine (vec_any (w.heap.size + 1 + 1) _ (unhide HS).drewT).mono ?_; rintro e w4 ⟨x0, x1, x2, rfl, hS4, hg4⟩; obtain ⟨q0, q1, q2, q3⟩ := (show TurnAt w3.drew ba p q r s from unhide HA).grown hg4 (by omega); obtain ⟨r0, r1, r2, r3⟩ := (show TurnAt w3.drew w.heap.size 0 0 0 0 from unhide H2).grown hg4 (by omega); obtain ⟨s0, s1, s2⟩ := (show VecAt w3.drew (w.heap.size + 1) 0 0 0 from unhide H3).grown hg4 (by omega); obtain ⟨t0, t1, t2, t3⟩ := (show FreeT w3.drew w.heap.size from unhide G2).grown (by exact Nat.lt_of_lt_of_le (by omega) (Nat.le_of_eq hsz.symm)) hg4 (by omega); obtain ⟨u0, u1, u2⟩ := (show FreeAt w3.drew (w.heap.size + 1) from unhide G3).grown (by exact Nat.lt_of_lt_of_le (by omega) (Nat.le_of_eq hsz.symm)) hg4 (by omega))
  all_goals go_wp2
  all_goals exact bodyPost_ret (v := .tuple #[.agg #[.int .i64 p, .int .i64 q, .int .i64 r, .int .i64 s], .agg #[.int .i64 x0, .int .i64 x1, .int .i64 x2]]) (by simp [results, Tryd.results14, go_sem, r0, r1, r2, r3, s0, s1, s2]) rfl ⟨p, q, r, s, x0, x1, x2, rfl, below_set3 (below_set4 ((unhide HB).drew.grown hg4 (unhide HB).size (fun k e => by have := Option.some.inj e; omega)) (Nat.le_refl _) _ _ _ _) (by omega) _ _ _⟩
end Go.Proofs.YtijpnnooenpjoaaDoor
