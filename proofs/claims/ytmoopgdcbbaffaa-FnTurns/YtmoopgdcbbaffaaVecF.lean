/- The greatest shared number, and Prime: the program's and the specification's. -/
import Derived.Test.YtmoopgdcbbaffaaVecD
import Derived.Deep.QuietTactic
import Derived.BigQuiet
import Derived.BigRegion
namespace Go.Proofs.Ytmoopgdcbbaffaa
open Go.RowKit
set_option linter.unusedVariables false

theorem rem_fits {a b : Int} (h : b ≠ 0) (hb : -1000000 ≤ b ∧ b ≤ 1000000) : wrap64 (a.tmod b) = a.tmod b ∧ -1000000 ≤ a.tmod b ∧ a.tmod b ≤ 1000000 := by
  have := tmod_lt a b h
  have h2 : -1000000 ≤ a.tmod b ∧ a.tmod b ≤ 1000000 := by omega
  exact ⟨wrap_id (by omega) (by omega), h2⟩

theorem below_drewN (w : World) (n : Nat) : Below w.heap.size w (w.drewN n) := ⟨rfl, rfl, rfl, Nat.le_refl _, fun _ _ => rfl⟩

set_option maxRecDepth 100000 in
theorem shared_any (a b : Int) (w : World) (ha : -1000000 ≤ a ∧ a ≤ 1000000) (hb : -1000000 ≤ b ∧ b ≤ 1000000) :
    Calls Try.prog 34 #[.int .i64 a, .int .i64 b] w fun e w' => e = .returned (.int .i64 ((Int.gcd a b : Nat) : Int)) ∧ ∃ n, w' = w.drewN n := by
  go_enter Try.func34, Try.ntmps34
  go_wp2
  go_loopw [0, 1] (fun u v wr => ∃ p q : Int, u = .int .i64 p ∧ v = .int .i64 q ∧ Hid (-1000000 ≤ p ∧ p ≤ 1000000) ∧ Hid (-1000000 ≤ q ∧ q ≤ 1000000) ∧ Hid (Int.gcd p q = Int.gcd a b) ∧ ∃ n, wr = w.drewN n) (fun _ v _ => (intOf v).natAbs)
  case atStart => exact ⟨a, b, rfl, rfl, hide ha, hide hb, hide rfl, 0, rfl⟩
  case round =>
    obtain ⟨p, q, rfl, rfl, hp, hq, hg, nd, rfl⟩ := hrel
    by_cases h0 : q = 0
    · subst h0
      have HG := hide (gcd_zero p)
      by_cases hn : p < 0
      · have HW : Hid (wrap64 (-p) = -p) := hide (by have := unhide hp; exact wrap_id (by omega) (by omega))
        have HR := hide (show ((Int.gcd a b : Nat) : Int) = -p by rw [← unhide hg, unhide HG, if_pos hn])
        go_wp2
        go_ret
        exact ⟨by rw [unhide HR]; exact congrArg (fun x => Ending.returned (Value.int .i64 x)) (unhide HW), nd, rfl⟩
      · have HR := hide (show ((Int.gcd a b : Nat) : Int) = p by rw [← unhide hg, unhide HG, if_neg hn])
        go_wp2
        go_ret
        exact ⟨by rw [unhide HR]; rfl, nd, rfl⟩
    · have hz : (q == 0) = false := by simp [h0]
      have hr := rem_fits (a := p) h0 (unhide hq)
      have HL := hide (tmod_lt p q h0)
      have HS := hide (gcd_step p q)
      obtain ⟨r, hre⟩ : ∃ r, p.tmod q = r := ⟨_, rfl⟩
      have hrw := hr.1
      have HRB := hide hr.2
      rw [hre] at hrw HRB HL HS
      clear hr
      go_wp2
      go_region
      go_wp2
      go_roundw
      case rel => exact ⟨q, r, rfl, rfl, hq, HRB, hide ((unhide HS).trans (unhide hg)), nd + 1, rfl⟩
      case measure => simp [intOf]; exact unhide HL

set_option maxRecDepth 100000 in
theorem l02Gcd_any (a b : Int) (w : World) (ha : -1000000 ≤ a ∧ a ≤ 1000000) (hb : -1000000 ≤ b ∧ b ≤ 1000000) :
    Calls Try.prog 43 #[.int .i64 a, .int .i64 b] w fun e w' => e = .returned (.int .i64 ((Int.gcd a b : Nat) : Int)) ∧ ∃ n, w' = w.drewN n := by
  go_enter Try.func43, Try.ntmps43
  go_wp2
  go_loopw [0, 1] (fun u v wr => ∃ p q : Int, u = .int .i64 p ∧ v = .int .i64 q ∧ Hid (-1000000 ≤ p ∧ p ≤ 1000000) ∧ Hid (-1000000 ≤ q ∧ q ≤ 1000000) ∧ Hid (Int.gcd p q = Int.gcd a b) ∧ ∃ n, wr = w.drewN n) (fun _ v _ => (intOf v).natAbs)
  case atStart => exact ⟨a, b, rfl, rfl, hide ha, hide hb, hide rfl, 0, rfl⟩
  case round =>
    obtain ⟨p, q, rfl, rfl, hp, hq, hg, nd, rfl⟩ := hrel
    by_cases h0 : q = 0
    · subst h0
      have HG := hide (gcd_zero p)
      by_cases hn : p < 0
      · have HW : Hid (wrap64 (-p) = -p) := hide (by have := unhide hp; exact wrap_id (by omega) (by omega))
        have HR := hide (show ((Int.gcd a b : Nat) : Int) = -p by rw [← unhide hg, unhide HG, if_pos hn])
        go_wp2
        go_ret
        exact ⟨by rw [unhide HR]; exact congrArg (fun x => Ending.returned (Value.int .i64 x)) (unhide HW), nd, rfl⟩
      · have HR := hide (show ((Int.gcd a b : Nat) : Int) = p by rw [← unhide hg, unhide HG, if_neg hn])
        go_wp2
        go_ret
        exact ⟨by rw [unhide HR]; rfl, nd, rfl⟩
    · have hz : (q == 0) = false := by simp [h0]
      have hr := rem_fits (a := p) h0 (unhide hq)
      have HL := hide (tmod_lt p q h0)
      have HS := hide (gcd_step p q)
      obtain ⟨r, hre⟩ : ∃ r, p.tmod q = r := ⟨_, rfl⟩
      have hrw := hr.1
      have HRB := hide hr.2
      rw [hre] at hrw HRB HL HS
      clear hr
      go_wp2
      go_roundw
      case rel => exact ⟨q, r, rfl, rfl, hq, HRB, hide ((unhide HS).trans (unhide hg)), nd, rfl⟩
      case measure => simp [intOf]; exact unhide HL

end Go.Proofs.Ytmoopgdcbbaffaa
