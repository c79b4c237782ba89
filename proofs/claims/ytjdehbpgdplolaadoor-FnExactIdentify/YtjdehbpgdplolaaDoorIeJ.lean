/- How many are named: the program's; what both searches answer, plainly. -/
import Derived.Test.YtjdehbpgdplolaaDoorIeI
namespace Go.Proofs.YtjdehbpgdplolaaDoor
open Go.RowKit Go.Sort
set_option linter.unusedVariables false

theorem cntN_take (ids : List Int) {i : Nat} (hi : i < ids.length) : cntN (ids.take (i + 1)) = cntN (ids.take i) + if ids.getD i 0 ≠ 0 then 1 else 0 := by
  rw [List.take_succ_eq_append_getElem hi, cntN_snoc]
  have e : ids.getD i 0 = ids[i] := by rw [List.getD_eq_getElem?_getD, List.getElem?_eq_getElem hi]; rfl
  rw [e]
set_option maxHeartbeats 1000000 in
set_option maxRecDepth 100000 in
theorem countNamed_any (ids : List Int) (a : Option Addr) (c : Nat) (w : World) (hk : ids.length ≤ 1048576) (hI : Nums w a ids ids.length) :
    Calls Tryd.prog 26 #[.slice a ids.length c] w fun e w' => e = .returned (.int .i64 (cntN ids : Int)) ∧ w' = w := by
  have HT : Hid (cntN (ids.take ids.length) = cntN ids) := hide (by rw [List.take_length])
  rcases hI with h0 | ⟨b, o, rfl, hb, hc⟩
  · have e : ids = [] := List.eq_nil_of_length_eq_zero h0
    subst e
    go_enter Tryd.func26, Tryd.ntmps26
    go_wp2_with fail
    refine wp_loop_rounds 1 ?_
    rw [rounds_succ]
    go_wp2_with fail
    go_ret
    exact ⟨rfl, rfl⟩
  have HC := hide hc
  clear hc
  go_enter Tryd.func26, Tryd.ntmps26
  go_wp2_with fail
  go_loop [3, 8] (fun q i => ∃ k : Nat, k ≤ ids.length ∧ i = .int .i64 k ∧ q = .int .i64 (cntN (ids.take k) : Int)) (fun _ i => ids.length - (intOf i).toNat)
  case atStart => exact ⟨0, Nat.zero_le _, rfl, rfl⟩
  case round =>
    obtain ⟨k, hkl, rfl, rfl⟩ := hrel
    by_cases hkn : k < ids.length
    · have c0 := unhide HC k hkn
      have HS := hide (cntN_take ids hkn)
      have hle := cntN_le (ids.take k)
      rw [List.length_take] at hle
      have hle2 : (cntN (ids.take k) : Int) ≤ 1048576 := by omega
      have hkn2 : (k : Int) < (ids.length : Int) := by omega
      generalize ids.getD k 0 = z at *
      by_cases hz : z = 0
      · have HS2 : Hid (cntN (ids.take (k + 1)) = cntN (ids.take k)) := hide (by rw [unhide HS, if_neg (by simpa using hz)]; rfl)
        subst hz
        go_wp2_with fail
        go_round
        case rel => exact ⟨k + 1, by omega, by go_num, by rw [unhide HS2]⟩
        case measure => simp [intOf]; omega
      · have HS2 : Hid (cntN (ids.take (k + 1)) = cntN (ids.take k) + 1) := hide (by rw [unhide HS, if_pos hz])
        go_wp2_with fail
        go_round
        case rel => exact ⟨k + 1, by omega, by go_num, by rw [unhide HS2]; go_num⟩
        case measure => simp [intOf]; omega
    · obtain rfl : k = ids.length := by omega
      go_wp2_with fail
      go_ret
      exact ⟨rfl, rfl⟩
/-- what the program's 'greatest' holds behind all namings -/
def greatR (L : List St) (S : List D3) : List Int × Nat := (allN (fitF L S) (L.map (·.1)) S.length []).foldl stepG ([], 0)
theorem great_same (L : List St) (S : List D3) : idIds L S = (if (greatR L S).2 = 1 then (greatR L S).1 else []) ∧ idCnt L S = (if (greatR L S).2 = 1 then (cntN (greatR L S).1 : Int) else 0) ∧ idCode L S = (if (greatR L S).2 = 0 then 6 else if 1 < (greatR L S).2 then 11 else 0) := by
  have h := sameN_all (fitF L S) (L.map (·.1)) S.length
  unfold idIds idCnt idCode
  change SameN (idR L S) (greatR L S) at h
  rcases h with ⟨h1, h2, h3⟩ | ⟨h1, h2, h3, h4, h5⟩
  · rw [h1, h3]
    exact ⟨rfl, rfl, rfl⟩
  · rw [h4]
    refine ⟨?_, ?_, rfl⟩
    · split
      · rename_i e; exact h5 e
      · rfl
    · split
      · rw [h3]
      · rfl
end Go.Proofs.YtjdehbpgdplolaaDoor
