/- What the laws on directions draw: two directions, three, one. -/
import Derived.Test.YtpjofdbeflhjnaaDraw4
import Derived.Deep.RegionWith
namespace Go.Proofs.Ytpjofdbeflhjnaa
open Go.RowKit
set_option linter.unusedVariables false

theorem Row.up {w w' : World} {a : Option Addr} {len B B' : Nat} (h : Row w a len B) (hB : B ≤ B') (hk : ∀ k, k < B → w'.heap[k]? = w.heap[k]?) : Row w' a len B' := by
  have h' := h.kept hk
  rcases h' with h | ⟨bx, ox, rfl, hb, hz⟩
  · exact .inl h
  · exact .inr ⟨bx, ox, rfl, Nat.lt_of_lt_of_le hb hB, hz⟩
theorem Row.allocs {w : World} {a : Option Addr} {len : Nat} (h : Row w a len w.heap.size) (o : Obj) : Row (w.alloc o) a len (w.alloc o).heap.size := h.up (by simp) (fun k hk => Below.heap_alloc w o k hk)
theorem SrcAt.drews {b : Nat} {w : World} (h : SrcAt b w) : SrcAt b w.drew := h.kept (row := none) ⟨rfl, rfl, rfl, Nat.le_refl _, fun _ _ _ => rfl⟩ (fun _ e => by cases e)

set_option maxHeartbeats 1000000 in
set_option maxRecDepth 100000 in
theorem drawDot_any (a : Option Addr) (len cap : Nat) (w : World) (hl : len ≤ 1048576) (hR : Row w a len w.heap.size) :
    Calls Try.prog 14 #[.slice a len cap] w fun e w' => ∃ a1 a2 a3 b1 b2 b3 : Int, e = .returned (.tuple #[.agg #[.int .i64 a1, .int .i64 a2, .int .i64 a3], .agg #[.int .i64 b1, .int .i64 b2, .int .i64 b3]]) ∧ Below w.heap.size w w' := by
  have HR := hide hR
  clear hR
  go_enter Try.func14, Try.ntmps14
  go_wp2_with fail
  have v2 : VecAt ((w.alloc (.cells #[.int .i64 0, .int .i64 0, .int .i64 0] 35)).alloc (.cells #[.int .i64 0, .int .i64 0, .int .i64 0] 35)) w.heap.size 0 0 0 := (vecAt_new w 0 0 0 _).alloc (by simp) _
  have v3 : VecAt ((w.alloc (.cells #[.int .i64 0, .int .i64 0, .int .i64 0] 35)).alloc (.cells #[.int .i64 0, .int .i64 0, .int .i64 0] 35)) (w.heap.size + 1) 0 0 0 := by simpa using vecAt_new (w.alloc _) 0 0 0 35
  have f2 : FreeAt ((w.alloc (.cells #[.int .i64 0, .int .i64 0, .int .i64 0] 35)).alloc (.cells #[.int .i64 0, .int .i64 0, .int .i64 0] 35)) w.heap.size := (freeAt_new w 0 0 0 _).kept (by simp) (below1 _ _)
  have f3 : FreeAt ((w.alloc (.cells #[.int .i64 0, .int .i64 0, .int .i64 0] 35)).alloc (.cells #[.int .i64 0, .int .i64 0, .int .i64 0] 35)) (w.heap.size + 1) := by simpa using freeAt_new (w.alloc _) 0 0 0 35
  refine (source_any a len cap _ hl (((unhide HR).allocs _).allocs _)).mono ?_
  rintro e w1 ⟨rfl, hS1, hB1⟩
  have hB : Below w.heap.size w w1 := below_call (below2 _ _ _) hB1
  replace v2 := v2.kept (by simp; omega) hB1
  replace v3 := v3.kept (by simp) hB1
  replace f2 := f2.kept (by simp; omega) hB1
  replace f3 := f3.kept (by simp) hB1
  have hs1 : w.heap.size + 1 < w1.heap.size := by have := hB1.size; simp at this; omega
  simp only [World.size_alloc] at hS1
  have HS1 := hide hS1
  clear hS1 hB1
  go_wp2_with fail
  refine (vec_any (w.heap.size + 1 + 1) _ (unhide HS1)).mono ?_
  rintro e w2 ⟨x, y, z, rfl, hS2, hg2⟩
  have hsS : w.heap.size + 1 + 1 < w2.heap.size := hS2.lt
  replace v2 := (v2.grown hg2 (by omega)).alloc (by have := hg2.size; omega) (.cells #[.int .i64 x, .int .i64 y, .int .i64 z] 35)
  replace v3 := (v3.grown hg2 (by omega)).alloc (by have := hg2.size; omega) (.cells #[.int .i64 x, .int .i64 y, .int .i64 z] 35)
  replace f2 := (f2.grown (by omega) hg2 (by omega)).kept (by have := hg2.size; omega) (below1 w2 (.cells #[.int .i64 x, .int .i64 y, .int .i64 z] 35))
  replace f3 := (f3.grown hs1 hg2 (by omega)).kept (by have := hg2.size; omega) (below1 w2 (.cells #[.int .i64 x, .int .i64 y, .int .i64 z] 35))
  have va := vecAt_new w2 x y z 35
  have hS := hS2.allocs (.cells #[.int .i64 x, .int .i64 y, .int .i64 z] 35)
  replace hB := (hB.grown hg2 hB.size (fun k e => by have := Option.some.inj e; omega)).alloc (Nat.le_of_lt (by omega)) (.cells #[.int .i64 x, .int .i64 y, .int .i64 z] 35)
  have hsz : (w2.alloc (.cells #[.int .i64 x, .int .i64 y, .int .i64 z] 35)).heap.size = w2.heap.size + 1 := by simp
  clear hS2 hg2 hs1 HS1
  go_wp2_with fail
  generalize w2.alloc (.cells #[.int .i64 x, .int .i64 y, .int .i64 z] 35) = w3 at v2 v3 f2 f3 va hS hB hsz ⊢
  generalize w2.heap.size = ba at va hsS hsz ⊢
  have HS := hide hS
  have HB := hide hB
  have H2 := hide v2
  have H3 := hide v3
  have G2 := hide f2
  have G3 := hide f3
  have HA := hide va
  clear hS hB
  obtain ⟨p0, p1, p2⟩ := va
  clear v2 v3 f2 f3
  go_region_with (go_at_call 48; refine (vec_any (w.heap.size + 1 + 1) _ (unhide HS).drews).mono ?_; rintro e w4 ⟨x', y', z', rfl, hS4, hg4⟩; obtain ⟨q0, q1, q2⟩ := (show VecAt w3.drew ba x y z from unhide HA).grown hg4 (by omega); obtain ⟨r0, r1, r2⟩ := (show VecAt w3.drew w.heap.size 0 0 0 from unhide H2).grown hg4 (by omega); obtain ⟨s0, s1, s2⟩ := (show VecAt w3.drew (w.heap.size + 1) 0 0 0 from unhide H3).grown hg4 (by omega); obtain ⟨t0, t1, t2⟩ := (show FreeAt w3.drew w.heap.size from unhide G2).grown (by exact Nat.lt_of_lt_of_le (by omega) (Nat.le_of_eq hsz.symm)) hg4 (by omega); obtain ⟨u0, u1, u2⟩ := (show FreeAt w3.drew (w.heap.size + 1) from unhide G3).grown (by exact Nat.lt_of_lt_of_le (by omega) (Nat.le_of_eq hsz.symm)) hg4 (by omega))
  all_goals go_wp2
  all_goals exact bodyPost_ret (v := .tuple #[.agg #[.int .i64 x, .int .i64 y, .int .i64 z], .agg #[.int .i64 x', .int .i64 y', .int .i64 z']]) (by simp [results, Try.results14, go_sem, r0, r1, r2, s0, s1, s2]) rfl ⟨x, y, z, x', y', z', rfl, below_set3 (below_set3 ((unhide HB).drew.grown hg4 (unhide HB).size (fun k e => by have := Option.some.inj e; omega)) (Nat.le_refl _) _ _ _) (by omega) _ _ _⟩
end Go.Proofs.Ytpjofdbeflhjnaa
