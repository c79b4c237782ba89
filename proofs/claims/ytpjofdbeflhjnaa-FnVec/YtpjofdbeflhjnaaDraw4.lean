/- What the laws on directions draw: a small direction. -/
import Derived.Test.YtpjofdbeflhjnaaDraw3
namespace Go.Proofs.Ytpjofdbeflhjnaa
open Go.RowKit
set_option linter.unusedVariables false

theorem grown_lt {a w : World} {row : Option Nat} {b : Nat} (h : a.grownBy w row) (hb : b < a.heap.size) : b < w.heap.size := Nat.lt_of_lt_of_le hb h.size

set_option maxHeartbeats 1000000 in
set_option maxRecDepth 100000 in
theorem small_any (b : Nat) (w : World) (hS : SrcAt b w) :
    Calls Try.prog 49 #[.pointer (some ⟨b, 0, none⟩)] w fun e w' => ∃ x y z : Int, e = .returned (.agg #[.int .i64 x, .int .i64 y, .int .i64 z]) ∧ SrcAt b w' ∧ w.grownBy w' (some b) := by
  have hlt := hS.lt
  have HS := hide hS
  clear hS
  go_enter Try.func49, Try.ntmps49
  go_wp2_with fail
  refine (n_any b 9 _ ((unhide HS).allocs _) (by omega)).mono ?_
  rintro e w1 ⟨x, rfl, _, _, _, hS1, hg1⟩
  have vr := (vecAt_new w 0 0 0 35).grown hg1 (by omega)
  have fr := (freeAt_new w 0 0 0 35).grown (by simp) hg1 (by omega)
  have hs : w.heap.size < w1.heap.size := by have := hg1.size; simp at this; omega
  have hg := grown_trans (World.grownBy_alloc w _ (some b)) hg1
  have HS1 := hide hS1
  clear hS1 hg1
  go_wp2_with fail
  refine (n_any b 9 _ (unhide HS1) (by omega)).mono ?_
  rintro e w2 ⟨y, rfl, _, _, _, hS2, hg2⟩
  replace vr := vr.grown hg2 (by omega)
  replace fr := fr.grown hs hg2 (by omega)
  replace hs := grown_lt hg2 hs
  replace hg := grown_trans hg hg2
  have HS2 := hide hS2
  clear hS2 hg2 HS1
  go_wp2_with fail
  refine (n_any b 7 _ (unhide HS2) (by omega)).mono ?_
  rintro e w3 ⟨z, rfl, _, _, _, hS3, hg3⟩
  replace vr := vr.grown hg3 (by omega)
  replace fr := fr.grown hs hg3 (by omega)
  replace hs := grown_lt hg3 hs
  replace hg := grown_trans hg hg3
  have HS3 := hide hS3
  clear hS3 hg3 HS2
  go_wp2_with fail
  generalize x - 4 = x'
  generalize y - 4 = y'
  generalize z - 2 = z'
  refine (one_any b 20 _ ((unhide HS3).allocs _) (by omega)).mono ?_
  rintro e w4 ⟨q, rfl, hS4, hg4⟩
  have hb3 := (unhide HS3).lt
  have vv := (vecAt_new w3 x' y' z' 35).grown hg4 (by omega)
  have fv := (freeAt_new w3 x' y' z' 35).grown (by simp) hg4 (by omega)
  replace vr := (vr.alloc hs _).grown hg4 (by omega)
  replace fr := (fr.kept hs (below1 _ _)).grown (by simp; omega) hg4 (by omega)
  have hs34 : w.heap.size < w3.heap.size := hs
  have hv4 : w3.heap.size < w4.heap.size := by have := hg4.size; simp at this; omega
  replace hg := grown_trans (grown_trans hg (World.grownBy_alloc w3 _ (some b))) hg4
  replace hs : w.heap.size < w4.heap.size := by omega
  have hle : w.heap.size ≤ w3.heap.size := by omega
  have HS4 := hide hS4
  clear hS4 hg4 HS3
  cases q
  · have HG := hide hg
    clear hg
    obtain ⟨r0, r1, r2⟩ := vr
    obtain ⟨f0, f1, f2⟩ := fr
    obtain ⟨v0, v1, v2⟩ := vv
    clear fv
    go_wp2_with fail
    exact bodyPost_ret (v := .agg #[.int .i64 x', .int .i64 y', .int .i64 z']) (by simp [results, Try.results49, go_sem, r0, r1, r2]) rfl ⟨x', y', z', rfl, (((unhide HS4).set (by simpa using hlt) _).set (by simpa using hlt) _).set (by simpa using hlt) _, grown_set (grown_set (grown_set (unhide HG) (Nat.le_refl _) _) (Nat.le_refl _) _) (Nat.le_refl _) _⟩
  · go_wp2_with fail
    refine (n_any b 3 _ ((unhide HS4).allocs _) (by omega)).mono ?_
    rintro e w5 ⟨k0, rfl, k00, k01, _, hS5, hg5⟩
    have hk3 : k0 < 3 := k01 (by omega)
    obtain ⟨k, rfl⟩ : ∃ k : Nat, k0 = (k : Int) := ⟨k0.toNat, by omega⟩
    have hc : ∃ v : Int, w5.cell? ⟨w4.heap.size, k, none⟩ = some (.int .i64 v) := by
      have hk : k < 3 := by omega
      match k, hk with
      | 0, _ => exact ⟨_, edgeCell w4 w5 b _ _ hg5 (unhide HS4).lt 0 _ rfl⟩
      | 1, _ => exact ⟨_, edgeCell w4 w5 b _ _ hg5 (unhide HS4).lt 1 _ rfl⟩
      | 2, _ => exact ⟨_, edgeCell w4 w5 b _ _ hg5 (unhide HS4).lt 2 _ rfl⟩
    obtain ⟨v, hv⟩ := hc
    replace vr := (vr.alloc hs _).grown hg5 (by omega)
    replace fr := (fr.kept hs (below1 _ _)).grown (by simp; omega) hg5 (by omega)
    replace vv := (vv.alloc hv4 _).grown hg5 (by omega)
    replace fv := (fv.kept hv4 (below1 _ _)).grown (by simp; omega) hg5 (by omega)
    replace hg := grown_trans (grown_trans hg (World.grownBy_alloc w4 _ (some b))) hg5
    have hne : w3.heap.size ≠ w.heap.size := by omega
    have HS5 := hide hS5
    have HG := hide hg
    clear hS5 hg5 hg HS4 k01
    obtain ⟨r0, r1, r2⟩ := vr
    obtain ⟨f0, f1, f2⟩ := fr
    obtain ⟨v0, v1, v2⟩ := vv
    obtain ⟨g0, g1, g2⟩ := fv
    go_wp2_with fail
    exact bodyPost_ret (v := .agg #[.int .i64 x', .int .i64 y', .int .i64 v]) (by simp [results, Try.results49, go_sem, r0, r1, r2]) rfl ⟨x', y', v, rfl, ((((unhide HS5).set (by simpa using hb3) _).set (by simpa using hlt) _).set (by simpa using hlt) _).set (by simpa using hlt) _, grown_set (grown_set (grown_set (grown_set (unhide HG) hle _) (Nat.le_refl _) _) (Nat.le_refl _) _) (Nat.le_refl _) _⟩
end Go.Proofs.Ytpjofdbeflhjnaa
