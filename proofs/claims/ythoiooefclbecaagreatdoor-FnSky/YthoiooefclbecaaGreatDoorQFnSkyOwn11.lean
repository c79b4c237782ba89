/- Several texts in one: Scan. -/
import Derived.Laws.BytesArg
import Derived.Test.YthoiooefclbecaaGreatDoorQFnSkyOwn1
namespace Go.Proofs.YthoiooefclbecaaGreatDoor
set_option linter.unusedVariables false
set_option linter.unusedSimpArgs false
set_option maxRecDepth 100000
set_option maxHeartbeats 8000000
section
open Go.RowKit
def bi (s : ByteArray) (p : Nat) : Nat → Nat → Nat → Except Int (Nat × Nat)
 | 0, _, _ => .error 3
 | k + 1, i, u =>
  if s.size ≤ p + i then .error 4
  else if i = 9 ∧ 1 < bD s (p + i) then .error 3
  else if bD s (p + i) < 128 then
   (if bD s (p + i) = 0 ∧ 0 < i then .error 3 else .ok (u + bD s (p + i) % 128 * 2 ^ (7 * i), p + i + 1))
  else bi s p k (i + 1) (u + bD s (p + i) % 128 * 2 ^ (7 * i))
def unf (u : Nat) : Int := if u % 2 = 1 then -((u / 2 : Nat) : Int) - 1 else ((u / 2 : Nat) : Int)
theorem gx {s : ByteArray} {p k i u : Nat} (h : s.size ≤ p + i) : bi s p (k + 1) i u = .error 4 := by rw [bi, if_pos h]
theorem kw {s : ByteArray} {p k i u : Nat} (h : p + i < s.size) (h9 : i = 9) (hc : 1 < s[p + i].toNat) : bi s p (k + 1) i u = .error 3 := by
 rw [bi, if_neg (by omega), if_pos ⟨h9, by rw [bY h]; exact hc⟩]
theorem fO {s : ByteArray} {p k i u : Nat} (h : p + i < s.size) (h9 : i = 9 → s[p + i].toNat ≤ 1) (hc : s[p + i].toNat < 128) :
  bi s p (k + 1) i u = if s[p + i].toNat = 0 ∧ 0 < i then .error 3 else .ok (u + s[p + i].toNat % 128 * 2 ^ (7 * i), p + i + 1) := by
 rw [bi, if_neg (by omega), bY h, if_neg (by intro ⟨a, b⟩; have := h9 a; omega), if_pos hc]
theorem iJ {s : ByteArray} {p k i u : Nat} (h : p + i < s.size) (h9 : i < 9) (hc : ¬ s[p + i].toNat < 128) :
  bi s p (k + 1) i u = bi s p k (i + 1) (u + s[p + i].toNat % 128 * 2 ^ (7 * i)) := by
 rw [bi, if_neg (by omega), bY h, if_neg (by omega), if_neg hc]
theorem fA (u c i : Nat) (hu : u < 2 ^ (7 * i)) : u + c % 128 * 2 ^ (7 * i) < 2 ^ (7 * (i + 1)) := by
 have h1 : c % 128 ≤ 127 := by omega
 have h2 : c % 128 * 2 ^ (7 * i) ≤ 127 * 2 ^ (7 * i) := Nat.mul_le_mul_right _ h1
 have h3 : 2 ^ (7 * (i + 1)) = 128 * 2 ^ (7 * i) := by rw [show 7 * (i + 1) = 7 + 7 * i by omega, Nat.pow_add]
 omega
theorem sS {i : Nat} (h : i ≤ 9) : 2 ^ (7 * i) ≤ 9223372036854775808 := by
 have : 2 ^ (7 * i) ≤ 2 ^ 63 := Nat.pow_le_pow_right (by omega) (by omega)
 simpa using this
theorem eQ (u c i : Nat) (hi : i ≤ 9) (hu : u < 2 ^ (7 * i)) (h9 : i = 9 → c ≤ 1) : u + c % 128 * 2 ^ (7 * i) < 18446744073709551616 := by
 by_cases h : i = 9
 ·subst h
  have := h9 rfl
  have h1 : c % 128 ≤ 1 := by omega
  have h2 : c % 128 * 2 ^ (7 * 9) ≤ 1 * 2 ^ (7 * 9) := Nat.mul_le_mul_right _ h1
  have : (2 : Nat) ^ (7 * 9) = 9223372036854775808 := by decide
  omega
 ·have h1 := fA u c i hu
  have h2 : 2 ^ (7 * (i + 1)) ≤ 2 ^ 63 := Nat.pow_le_pow_right (by omega) (by omega)
  have : (2 : Nat) ^ 63 = 9223372036854775808 := by decide
  omega
theorem ig (m : Int) : IntKind.u64.wrap m = m % 18446744073709551616 := by simp [IntKind.wrap, IntKind.bits, IntKind.signed]
theorem jB (u c i : Nat) (hi : i ≤ 9) (hu : u < 2 ^ (7 * i)) (hc : c < 256) (h9 : i = 9 → c ≤ 1) :
  bits .or .u64 (u : Int) (IntKind.u64.wrap (IntKind.u64.wrap (bits .and .u8 (c : Int) 127) * 2 ^ (7 * i))) = ((u + c % 128 * 2 ^ (7 * i) : Nat) : Int) := by
 have hb := eQ u c i hi hu h9
 have ha : bits .and .u8 (c : Int) 127 = ((c % 128 : Nat) : Int) := by
  have h := u8_and_nat c 127 hc (by omega)
  rw [nat_mask7] at h
  exact h
 have hw1 : IntKind.u64.wrap ((c % 128 : Nat) : Int) = ((c % 128 : Nat) : Int) := by rw [ig]; omega
 have hp : ((c % 128 : Nat) : Int) * 2 ^ (7 * i) = ((c % 128 * 2 ^ (7 * i) : Nat) : Int) := by push_cast; rfl
 rw [ha, hw1, hp]
 have hlt : c % 128 * 2 ^ (7 * i) < 18446744073709551616 := by omega
 have hw2 : IntKind.u64.wrap ((c % 128 * 2 ^ (7 * i) : Nat) : Int) = ((c % 128 * 2 ^ (7 * i) : Nat) : Int) := by
  rw [ig]; generalize c % 128 * 2 ^ (7 * i) = x at *; omega
 rw [hw2, u64_or_nat _ _ (by omega) hlt, Nat.or_comm, nat_join (7 * i) _ _ (by simp) hu, Nat.add_comm]
theorem rH (c : Nat) (hc : c < 256) : bits .or .u64 0 (IntKind.u64.wrap (IntKind.u64.wrap (bits .and .u8 (c : Int) 127))) = ((c % 128 : Nat) : Int) := by
 have h := jB 0 c 0 (by omega) (by simp) hc (by omega)
 simpa using h
theorem rI (u c : Nat) (hu : u < 2 ^ (7 * 9)) (hc : c < 256) (h9 : c ≤ 1) :
  bits .or .u64 (u : Int) (IntKind.u64.wrap (IntKind.u64.wrap (bits .and .u8 (c : Int) 127) * 9223372036854775808)) = ((u + c % 128 * 2 ^ (7 * 9) : Nat) : Int) := by
 have h := jB u c 9 (by omega) hu hc (fun _ => h9)
 rw [show ((2 : Int) ^ (7 * 9)) = 9223372036854775808 by decide] at h
 exact h
end
end Go.Proofs.YthoiooefclbecaaGreatDoor
