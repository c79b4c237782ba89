/- Several texts in one: Draw4. -/
import Derived.Test.YtoakkmjcbnfljaaGreatDoorQFnIdentOwn28
namespace Go.Proofs.YtoakkmjcbnfljaaGreatDoor
set_option linter.unusedVariables false
set_option linter.unusedSimpArgs false
set_option maxRecDepth 100000
set_option maxHeartbeats 8000000
section
open Go.RowKit
theorem oE {a w : World} {row : Option Nat} {b : Nat} (h : a.grownBy w row) (hb : b < a.heap.size) : b < w.heap.size := Nat.lt_of_lt_of_le hb h.size
theorem jy (b : Nat) (w : World) (hS : aU b w) :
  Calls Tryz.prog 84 #[.pointer (some ⟨b, 0, none⟩)] w fun e w' => ∃ x y z : Int, e = .returned (.agg #[.int .i64 x, .int .i64 y, .int .i64 z]) ∧ aU b w' ∧ w.grownBy w' (some b) := by
 have hlt := hS.lt
 have HS := yz hS
 clear hS
 go_enter Tryz.func84, Tryz.ntmps84
 go_wp2_with fail
 refine (bp b 9 _ ((yy HS).allocs _) (by omega)).mono ?_
 rintro e w1 ⟨x, rfl, _, _, _, hS1, hg1⟩
 have vr := (aA w 0 0 0 67).grown hg1 (by omega)
 have fr := (bk w 0 0 0 67).grown (by simp) hg1 (by omega)
 have hs : w.heap.size < w1.heap.size := by have := hg1.size; simp at this; omega
 have hg := an (World.grownBy_alloc w _ (some b)) hg1
 have HS1 := yz hS1
 clear hS1 hg1
 go_wp2_with fail
 refine (bp b 9 _ (yy HS1) (by omega)).mono ?_
 rintro e w2 ⟨y, rfl, _, _, _, hS2, hg2⟩
 replace vr := vr.grown hg2 (by omega)
 replace fr := fr.grown hs hg2 (by omega)
 replace hs := oE hg2 hs
 replace hg := an hg hg2
 have HS2 := yz hS2
 clear hS2 hg2 HS1
 go_wp2_with fail
 refine (bp b 7 _ (yy HS2) (by omega)).mono ?_
 rintro e w3 ⟨z, rfl, _, _, _, hS3, hg3⟩
 replace vr := vr.grown hg3 (by omega)
 replace fr := fr.grown hs hg3 (by omega)
 replace hs := oE hg3 hs
 replace hg := an hg hg3
 have HS3 := yz hS3
 clear hS3 hg3 HS2
 go_wp2_with fail
 generalize x - 4 = x'
 generalize y - 4 = y'
 generalize z - 2 = z'
 refine (bh b 20 _ ((yy HS3).allocs _) (by omega)).mono ?_
 rintro e w4 ⟨q, rfl, hS4, hg4⟩
 have hb3 := (yy HS3).lt
 have vv := (aA w3 x' y' z' 67).grown hg4 (by omega)
 have fv := (bk w3 x' y' z' 67).grown (by simp) hg4 (by omega)
 replace vr := (vr.alloc hs _).grown hg4 (by omega)
 replace fr := (fr.kept hs (ak _ _)).grown (by simp; omega) hg4 (by omega)
 have hs34 : w.heap.size < w3.heap.size := hs
 have hv4 : w3.heap.size < w4.heap.size := by have := hg4.size; simp at this; omega
 replace hg := an (an hg (World.grownBy_alloc w3 _ (some b))) hg4
 replace hs : w.heap.size < w4.heap.size := by omega
 have hle : w.heap.size ≤ w3.heap.size := by omega
 have HS4 := yz hS4
 clear hS4 hg4 HS3
 cases q
 ·have HG := yz hg
  clear hg
  obtain ⟨r0, r1, r2⟩ := vr
  obtain ⟨f0, f1, f2⟩ := fr
  obtain ⟨v0, v1, v2⟩ := vv
  clear fv
  go_wp2_with fail
  exact bodyPost_ret (v := .agg #[.int .i64 x', .int .i64 y', .int .i64 z']) (by simp [results, Tryz.results84, go_sem, r0, r1, r2]) rfl ⟨x', y', z', rfl, (((yy HS4).set (by simpa using hlt) _).set (by simpa using hlt) _).set (by simpa using hlt) _, az (az (az (yy HG) (Nat.le_refl _) _) (Nat.le_refl _) _) (Nat.le_refl _) _⟩
 ·go_wp2_with fail
  refine (bp b 3 _ ((yy HS4).allocs _) (by omega)).mono ?_
  rintro e w5 ⟨k0, rfl, k00, k01, _, hS5, hg5⟩
  have hk3 : k0 < 3 := k01 (by omega)
  obtain ⟨k, rfl⟩ : ∃ k : Nat, k0 = (k : Int) := ⟨k0.toNat, by omega⟩
  have hc : ∃ v : Int, w5.cell? ⟨w4.heap.size, k, none⟩ = some (.int .i64 v) := by
   have hk : k < 3 := by omega
   match k, hk with
   | 0, _ => exact ⟨_, dN w4 w5 b _ _ hg5 (yy HS4).lt 0 _ rfl⟩
   | 1, _ => exact ⟨_, dN w4 w5 b _ _ hg5 (yy HS4).lt 1 _ rfl⟩
   | 2, _ => exact ⟨_, dN w4 w5 b _ _ hg5 (yy HS4).lt 2 _ rfl⟩
  obtain ⟨v, hv⟩ := hc
  replace vr := (vr.alloc hs _).grown hg5 (by omega)
  replace fr := (fr.kept hs (ak _ _)).grown (by simp; omega) hg5 (by omega)
  replace vv := (vv.alloc hv4 _).grown hg5 (by omega)
  replace fv := (fv.kept hv4 (ak _ _)).grown (by simp; omega) hg5 (by omega)
  replace hg := an (an hg (World.grownBy_alloc w4 _ (some b))) hg5
  have hne : w3.heap.size ≠ w.heap.size := by omega
  have HS5 := yz hS5
  have HG := yz hg
  clear hS5 hg5 hg HS4 k01
  obtain ⟨r0, r1, r2⟩ := vr
  obtain ⟨f0, f1, f2⟩ := fr
  obtain ⟨v0, v1, v2⟩ := vv
  obtain ⟨g0, g1, g2⟩ := fv
  go_wp2_with fail
  exact bodyPost_ret (v := .agg #[.int .i64 x', .int .i64 y', .int .i64 v]) (by simp [results, Tryz.results84, go_sem, r0, r1, r2]) rfl ⟨x', y', v, rfl, ((((yy HS5).set (by simpa using hb3) _).set (by simpa using hlt) _).set (by simpa using hlt) _).set (by simpa using hlt) _, az (az (az (az (yy HG) hle _) (Nat.le_refl _) _) (Nat.le_refl _) _) (Nat.le_refl _) _⟩
end
end Go.Proofs.YtoakkmjcbnfljaaGreatDoor
