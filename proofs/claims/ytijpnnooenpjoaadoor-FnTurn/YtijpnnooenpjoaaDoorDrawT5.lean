/- What the law on turns draws: a text that is spoilt a little. -/
import Derived.Test.YtijpnnooenpjoaaDoorDrawT2
import Derived.Test.YtijpnnooenpjoaaDoorTurnS
import Derived.Deep.RegionWith
import Derived.Deep.QuietTactic
import Derived.BigQuiet
namespace Go.Proofs.YtijpnnooenpjoaaDoor
open Go.RowKit
set_option linter.unusedVariables false
set_option linter.unusedSimpArgs false

theorem one_size (c : UInt8) : (ByteArray.mk #[c]).size = 1 := rfl
theorem grown_drewN (w : World) (n : Nat) (row : Option Nat) : w.grownBy (w.drewN n) row := ⟨rfl, rfl, rfl, Nat.le_refl _, fun _ _ _ => rfl⟩
theorem SrcAt.drewNs {b : Nat} {w : World} (h : SrcAt b w) (n : Nat) : SrcAt b (w.drewN n) := h.kept (grown_drewN w n none) (fun _ e => by cases e)

set_option maxHeartbeats 1000000 in
set_option maxRecDepth 100000 in
theorem spoil_any (b : Nat) (t : ByteArray) (w : World) (hS : SrcAt b w) (ht : t.size ≤ 100) :
    Calls Tryd.prog 55 #[.pointer (some ⟨b, 0, none⟩), .string t] w fun e w' => ∃ r : ByteArray, e = .returned (.string r) ∧ r.size ≤ 200 ∧ SrcAt b w' ∧ w.grownBy w' (some b) := by
  have HS := hide hS
  clear hS
  go_enter Tryd.func55, Tryd.ntmps55
  go_wp2_with fail
  refine (n_any b _ _ (unhide HS) (by omega)).mono ?_
  rintro e w1 ⟨z, rfl, z0, z1, z2, hS1, hg⟩
  have HS1 := hide hS1
  clear hS1 HS
  go_wp2_with fail
  refine (n_any b 17 _ (unhide HS1) (by omega)).mono ?_
  rintro e w2 ⟨y, rfl, y0, y1, _, hS2, hg2⟩
  have hy17 : y < 17 := y1 (by omega)
  obtain ⟨j, rfl⟩ : ∃ j : Nat, y = (j : Int) := ⟨y.toNat, by omega⟩
  have hj : j < 17 := by omega
  have HS2 := hide hS2
  have hg' := grown_trans hg hg2
  clear hS2 HS1 y1 hg hg2
  go_wp2_with fail
  rw [conv1]
  generalize (ByteArray.mk #[32, 10, 48, 97, 45, 110, 44, 58, 93, 255, 40, 120, 126, 49, 128, 225, 59])[j]'_ = c
  obtain ⟨k, rfl⟩ : ∃ k : Nat, z = (k : Int) := ⟨z.toNat, by omega⟩
  have hk : k ≤ t.size := by
    by_cases h1 : (t.size : Int) + 1 ≤ 1
    · have := z2 h1; omega
    · have := z1 (by omega); omega
  have hS3 := (unhide HS2).allocs (.cells #[.int .u8 (c.toNat : Int)] 5)
  have hg3 := grown_alloc hg' (.cells #[.int .u8 (c.toNat : Int)] 5)
  have HS3 := hide hS3
  have HG3 := hide hg3
  clear hS3 HS2 hg' hg3 z1 z2 z0 hj hy17 y0
  have k0 : (0 : Int) ≤ (k : Int) := by omega
  have k1 : (k : Int) ≤ (t.size : Int) := by omega
  by_cases he : k = t.size
  · have he' : (k : Int) = (t.size : Int) := by omega
    go_wp2_with fail
    go_quiet (fail)
    go_wp2
    exact bodyPost_ret (v := .string (t ++ ⟨#[c]⟩)) (by simp [results, Tryd.results55, go_sem]) rfl ⟨_, rfl, by simp [ByteArray.size_append, ByteArray.size_extract, one_size]; omega, (unhide HS3).drewNs _, grown_trans (unhide HG3) (grown_drewN _ _ _)⟩
  · have he' : ¬ (k : Int) = (t.size : Int) := by omega
    go_wp2_with fail
    refine (one_any b 3 _ (unhide HS3) (by omega)).mono ?_
    rintro e w4 ⟨y, rfl, hS4, hg4⟩
    have HS4 := hide hS4
    have HG4 := hide (grown_trans (unhide HG3) hg4)
    clear HS3 HG3 hS4 hg4
    cases y
    · go_wp2_with fail
      refine (one_any b 2 _ (unhide HS4) (by omega)).mono ?_
      rintro e w5 ⟨y, rfl, hS5, hg5⟩
      have HS5 := hide hS5
      have HG5 := hide (grown_trans (unhide HG4) hg5)
      clear HS4 HG4 hS5 hg5
      have k2 : (k : Int) + 1 ≤ (t.size : Int) := by omega
      have k3 : (0 : Int) ≤ (k : Int) + 1 := by omega
      cases y
      · go_wp2_with fail
        go_quiet (fail)
        go_wp2
        exact bodyPost_ret (v := .string (t.extract 0 k ++ ⟨#[c]⟩ ++ t.extract (k + 1) t.size)) (by simp [results, Tryd.results55, go_sem]) rfl ⟨_, rfl, by simp [ByteArray.size_append, ByteArray.size_extract, one_size]; omega, (unhide HS5).drewNs _, grown_trans (unhide HG5) (grown_drewN _ _ _)⟩
      · go_wp2_with fail
        go_quiet (fail)
        go_wp2
        exact bodyPost_ret (v := .string (t.extract 0 k ++ t.extract (k + 1) t.size)) (by simp [results, Tryd.results55, go_sem]) rfl ⟨_, rfl, by simp [ByteArray.size_append, ByteArray.size_extract, one_size]; omega, (unhide HS5).drewNs _, grown_trans (unhide HG5) (grown_drewN _ _ _)⟩
    · go_wp2_with fail
      go_quiet (fail)
      go_wp2
      exact bodyPost_ret (v := .string (t.extract 0 k ++ ⟨#[c]⟩ ++ t.extract k t.size)) (by simp [results, Tryd.results55, go_sem]) rfl ⟨_, rfl, by simp [ByteArray.size_append, ByteArray.size_extract, one_size]; omega, (unhide HS4).drewNs _, grown_trans (unhide HG4) (grown_drewN _ _ _)⟩

theorem cell_grown {w w' : World} {b c k : Nat} {v : Value} (h : w.cell? ⟨b, k, none⟩ = some v) (hg : w.grownBy w' (some c)) (hne : b ≠ c) : w'.cell? ⟨b, k, none⟩ = some v := by
  have hb : b < w.heap.size := World.block_lt_of_cell? w _ h
  rw [show w'.cell? ⟨b, k, none⟩ = w.cell? ⟨b, k, none⟩ from by unfold World.cell?; rw [hg.block b hb (fun e => hne (by cases e; rfl))]]
  exact h

set_option maxRecDepth 100000 in
theorem pick_any (b L n cap : Nat) (w : World) (hS : SrcAt b w) (h1 : 1 < n) (hn : n ≤ 100) (hL : L ≠ b) (hc : ∀ k, k < n → ∃ r : ByteArray, w.cell? ⟨L, k, none⟩ = some (.string r) ∧ r.size ≤ 200) :
    Calls Tryd.prog 56 #[.pointer (some ⟨b, 0, none⟩), .slice (some ⟨L, 0, none⟩) n cap] w fun e w' => ∃ r : ByteArray, e = .returned (.string r) ∧ r.size ≤ 200 ∧ SrcAt b w' ∧ w.grownBy w' (some b) := by
  have HS := hide hS
  have HC := hide hc
  clear hS hc
  go_enter Tryd.func56, Tryd.ntmps56
  go_wp2_with fail
  refine (n_any b _ _ (unhide HS) (by omega)).mono ?_
  rintro e w1 ⟨z, rfl, z0, z1, _, hS1, hg⟩
  have hz := z1 (by omega)
  obtain ⟨k, rfl⟩ : ∃ k : Nat, z = (k : Int) := ⟨z.toNat, by omega⟩
  obtain ⟨r, hr, hr2⟩ := unhide HC k (by omega)
  have hr' := cell_grown hr hg hL
  have HS1 := hide hS1
  have HG := hide hg
  clear hS1 hg HS HC z1 hr
  go_wp2_with fail
  go_ret
  exact ⟨r, rfl, hr2, unhide HS1, unhide HG⟩
end Go.Proofs.YtijpnnooenpjoaaDoor
