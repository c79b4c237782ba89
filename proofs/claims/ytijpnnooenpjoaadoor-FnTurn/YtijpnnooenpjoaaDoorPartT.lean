/- l03Part, the specification's. -/
import Derived.Test.YtijpnnooenpjoaaDoorSplitT
namespace Go.Proofs.YtijpnnooenpjoaaDoor
open Go.RowKit
set_option linter.unusedVariables false

theorem u8_sub (x : Nat) (h1 : 48 ≤ x) (h2 : x ≤ 57) : IntKind.u8.wrap ((x : Int) - 48) = (x : Int) - 48 := by
  simp only [IntKind.wrap, IntKind.signed, IntKind.bits]
  simp
  omega
set_option maxRecDepth 100000 in
theorem part_other (S : ByteArray) (w : World) (h1 : S.size ≠ 1) (h2 : S.size ≠ 2) :
    Calls Tryd.prog 70 #[.string S] w fun e w' => e = .returned (.int .i64 9) ∧ w' = w := by
  have e1 : ((S.size : Int) == 1) = false := by simp; omega
  have e2 : ((S.size : Int) == 2) = false := by simp; omega
  go_enter Tryd.func70, Tryd.ntmps70
  go_wp2_with fail
  go_ret
  exact ⟨rfl, rfl⟩
set_option maxRecDepth 100000 in
theorem part_one (S : ByteArray) (w : World) (n : Nat) (h1 : S.size = 1) (hn : (S[0]'(by omega)).toNat = n) :
    Calls Tryd.prog 70 #[.string S] w fun e w' => e = .returned (.int .i64 (if 48 ≤ n ∧ n ≤ 57 then (n : Int) - 48 else 9)) ∧ w' = w := by
  by_cases c1 : 48 ≤ n
  · by_cases c2 : n ≤ 57
    · rw [if_pos ⟨c1, c2⟩]
      have hw := u8_sub n c1 c2
      have hw2 : wrap64 ((n : Int) - 48) = (n : Int) - 48 := wrap_id (by omega) (by omega)
      have d1 : (48 : Int) ≤ (n : Int) := by omega
      have d2 : (n : Int) ≤ 57 := by omega
      go_enter Tryd.func70, Tryd.ntmps70
      go_wp2_with fail
      go_ret
      exact ⟨rfl, rfl⟩
    · rw [if_neg (by omega)]
      have d1 : (48 : Int) ≤ (n : Int) := by omega
      have d2 : ¬ (n : Int) ≤ 57 := by omega
      go_enter Tryd.func70, Tryd.ntmps70
      go_wp2_with fail
      go_ret
      exact ⟨rfl, rfl⟩
  · rw [if_neg (by omega)]
    have d1 : ¬ (48 : Int) ≤ (n : Int) := by omega
    go_enter Tryd.func70, Tryd.ntmps70
    go_wp2_with fail
    go_ret
    exact ⟨rfl, rfl⟩
set_option maxRecDepth 100000 in
theorem part_two (S : ByteArray) (w : World) (m n : Nat) (h1 : S.size = 2) (hm : (S[0]'(by omega)).toNat = m) (hn : (S[1]'(by omega)).toNat = n) :
    Calls Tryd.prog 70 #[.string S] w fun e w' => e = .returned (.int .i64 (if m = 45 ∧ 48 ≤ n ∧ n ≤ 57 then -((n : Int) - 48) else 9)) ∧ w' = w := by
  by_cases c0 : m = 45
  · by_cases c1 : 48 ≤ n
    · by_cases c2 : n ≤ 57
      · rw [if_pos ⟨c0, c1, c2⟩]
        have hw := u8_sub n c1 c2
        have hw2 : wrap64 ((n : Int) - 48) = (n : Int) - 48 := wrap_id (by omega) (by omega)
        have hw3 : wrap64 (-((n : Int) - 48)) = -((n : Int) - 48) := wrap_id (by omega) (by omega)
        have d0 : ((m : Int) == 45) = true := by simp; omega
        have d1 : (48 : Int) ≤ (n : Int) := by omega
        have d2 : (n : Int) ≤ 57 := by omega
        go_enter Tryd.func70, Tryd.ntmps70
        go_wp2_with fail
        go_ret
        exact ⟨rfl, rfl⟩
      · rw [if_neg (by omega)]
        have d0 : ((m : Int) == 45) = true := by simp; omega
        have d1 : (48 : Int) ≤ (n : Int) := by omega
        have d2 : ¬ (n : Int) ≤ 57 := by omega
        go_enter Tryd.func70, Tryd.ntmps70
        go_wp2_with fail
        go_ret
        exact ⟨rfl, rfl⟩
    · rw [if_neg (by omega)]
      have d0 : ((m : Int) == 45) = true := by simp; omega
      have d1 : ¬ (48 : Int) ≤ (n : Int) := by omega
      go_enter Tryd.func70, Tryd.ntmps70
      go_wp2_with fail
      go_ret
      exact ⟨rfl, rfl⟩
  · rw [if_neg (by omega)]
    have d0 : ((m : Int) == 45) = false := by simp; omega
    go_enter Tryd.func70, Tryd.ntmps70
    go_wp2_with fail
    go_ret
    exact ⟨rfl, rfl⟩
theorem l03Part_any (l : List UInt8) (w : World) :
    Calls Tryd.prog 70 #[strV l] w fun e w' => e = .returned (.int .i64 (partL l)) ∧ w' = w := by
  match l with
  | [] => exact part_other ⟨#[]⟩ w (by decide) (by decide)
  | [x] => exact part_one ⟨#[x]⟩ w x.toNat rfl rfl
  | [x, y] => exact part_two ⟨#[x, y]⟩ w x.toNat y.toNat rfl rfl rfl
  | x :: y :: z :: r =>
    have hs : (⟨(x :: y :: z :: r).toArray⟩ : ByteArray).size = r.length + 3 := by show (x :: y :: z :: r).toArray.size = _; simp
    exact part_other ⟨(x :: y :: z :: r).toArray⟩ w (by omega) (by omega)
end Go.Proofs.YtijpnnooenpjoaaDoor
