/- Several texts in one: Num. -/
import Derived.Laws.BytesArg
import Derived.Test.YthoiooefclbecaaGreatDoorQFnSkyOwn1
namespace Go.Proofs.YthoiooefclbecaaGreatDoor
set_option linter.unusedVariables false
set_option linter.unusedSimpArgs false
set_option maxRecDepth 100000
set_option maxHeartbeats 8000000
section
open Go.RowKit
def bA (n : Int) : Nat := if n < 0 then (-2 * n - 1).toNat else (2 * n).toNat
theorem jz (n : Int) (h0 : -9223372036854775808 ≤ n) (h1 : n ≤ 9223372036854775807) : bA n ≤ 18446744073709551615 := by
 unfold bA; split <;> omega
def enc : Nat → Nat → List Nat
 | 0, u => [u]
 | k + 1, u => if u < 128 then [u] else (u % 128 + 128) :: enc k (u / 128)
def lim : Nat → Nat
 | 0 => 18446744073709551615
 | k + 1 => lim k / 128
theorem su : lim 9 = 1 := by decide
theorem gV {u k : Nat} (h : u ≤ lim k) : u / 128 ≤ lim (k + 1) := Nat.div_le_div_right h
theorem rx (k : Nat) : lim k ≤ 18446744073709551615 := by
 induction k with
 | zero => exact Nat.le_refl _
 | succ k ih => exact Nat.le_trans (Nat.div_le_self _ _) ih
theorem dB (k u : Nat) (h : u < 128) : enc k u = [u] := by cases k <;> simp [enc, h]
theorem fm (k u : Nat) (h : ¬ u < 128) : enc (k + 1) u = (u % 128 + 128) :: enc k (u / 128) := by rw [enc, if_neg h]
def ba (n : Int) : ByteArray := strOfNums ((enc 9 (bA n)).map fun b : Nat => (b : Int))
theorem oB (k u : Nat) : 1 ≤ (enc k u).length ∧ (enc k u).length ≤ k + 1 := by
 induction k generalizing u with
 | zero => simp [enc]
 | succ k ih =>
  unfold enc
  split
  ·simp
  ·have := ih (u / 128); simp; omega
theorem bm (n : Int) : 1 ≤ (ba n).size ∧ (ba n).size ≤ 10 := by
 have := oB 9 (bA n)
 simp only [ba, strOfNums_size, List.length_map]; omega
theorem tz (u : Nat) : bits .or .u8 ((u : Int) % 256) 128 = ((u % 128 + 128 : Nat) : Int) := by
 have h := u8_or_nat (u % 256) 128 (by omega) (by omega)
 have e : ((u % 256 : Nat) : Int) = (u : Int) % 256 := by omega
 rw [e] at h
 have h2 : u % 256 ||| 128 = u % 128 + 128 := by
  apply Nat.eq_of_testBit_eq
  intro i
  rw [Nat.testBit_or]
  have a1 : (u % 128 + 128).testBit i = (2 ^ 7 * 1 + u % 2 ^ 7).testBit i := by rw [Nat.add_comm]
  have a2 : (u % 256).testBit i = (u % 2 ^ 8).testBit i := rfl
  have a3 : (128 : Nat).testBit i = decide (i = 7) := by
   have := Nat.testBit_two_pow (n := 7) (m := i); simpa [eq_comm] using this
  rw [a1, a2, a3, Nat.testBit_two_pow_mul_add _ (Nat.mod_lt _ (by omega)), Nat.testBit_mod_two_pow, Nat.testBit_mod_two_pow]
  by_cases h7 : i < 7
  ·simp [h7, show i < 8 by omega, show ¬ i = 7 by omega]
  ·by_cases h8 : i = 7
   ·subst h8; simp
   ·have : ¬ i < 8 := by omega
    simp [h7, h8, this]
    have h1 : 1 ≤ i - 7 := by omega
    have : Nat.testBit 1 (i - 7) = false := by
     rw [show (1 : Nat) = 2 ^ 0 by rfl, Nat.testBit_two_pow]; simp; omega
    exact this
 rw [h2] at h
 exact h
end
end Go.Proofs.YthoiooefclbecaaGreatDoor
