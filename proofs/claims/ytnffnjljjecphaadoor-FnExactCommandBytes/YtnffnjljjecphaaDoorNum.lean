/- Plain facts on numbers in bytes, nothing of the program in them: what u a number folds to, and the bytes of u. -/
import Derived.Test.YtnffnjljjecphaaDoorPlain
import Derived.Laws.BytesArg
namespace Go.Proofs.YtnffnjljjecphaaDoor
open Go.RowKit

def fold (n : Int) : Nat := if n < 0 then (-2 * n - 1).toNat else (2 * n).toNat
theorem fold_le (n : Int) (h0 : -9223372036854775808 ≤ n) (h1 : n ≤ 9223372036854775807) : fold n ≤ 18446744073709551615 := by
  unfold fold; split <;> omega
def enc : Nat → Nat → List Nat
  | 0, u => [u]
  | k + 1, u => if u < 128 then [u] else (u % 128 + 128) :: enc k (u / 128)
def lim : Nat → Nat
  | 0 => 18446744073709551615
  | k + 1 => lim k / 128
theorem lim9 : lim 9 = 1 := by decide
theorem lim_step {u k : Nat} (h : u ≤ lim k) : u / 128 ≤ lim (k + 1) := Nat.div_le_div_right h
theorem lim_le (k : Nat) : lim k ≤ 18446744073709551615 := by
  induction k with
  | zero => exact Nat.le_refl _
  | succ k ih => exact Nat.le_trans (Nat.div_le_self _ _) ih
theorem enc_small (k u : Nat) (h : u < 128) : enc k u = [u] := by cases k <;> simp [enc, h]
theorem enc_more (k u : Nat) (h : ¬ u < 128) : enc (k + 1) u = (u % 128 + 128) :: enc k (u / 128) := by rw [enc, if_neg h]
/-- the text of a number -/
def numS (n : Int) : ByteArray := strOfNums ((enc 9 (fold n)).map fun b : Nat => (b : Int))
theorem enc_length (k u : Nat) : 1 ≤ (enc k u).length ∧ (enc k u).length ≤ k + 1 := by
  induction k generalizing u with
  | zero => simp [enc]
  | succ k ih =>
    unfold enc
    split
    · simp
    · have := ih (u / 128); simp; omega
theorem numS_size (n : Int) : 1 ≤ (numS n).size ∧ (numS n).size ≤ 10 := by
  have := enc_length 9 (fold n)
  simp only [numS, strOfNums_size, List.length_map]; omega
theorem or128 (u : Nat) : bits .or .u8 ((u : Int) % 256) 128 = ((u % 128 + 128 : Nat) : Int) := by
  have h := u8_or_nat (u % 256) 128 (by omega) (by omega)
  have e : ((u % 256 : Nat) : Int) = (u : Int) % 256 := by omega
  rw [e] at h
  have h2 : u % 256 ||| 128 = u % 128 + 128 := by
    apply Nat.eq_of_testBit_eq
    intro i
    rw [Nat.testBit_or]
    have a1 : (u % 128 + 128).testBit i = (2 ^ 7 * 1 + u % 2 ^ 7).testBit i := by rw [Nat.add_comm]
    have a2 : (u % 256).testBit i = (u % 2 ^ 8).testBit i := rfl
    have a3 : (128 : Nat).testBit i = decide (i = 7) := by
      have := Nat.testBit_two_pow (n := 7) (m := i); simpa [eq_comm] using this
    rw [a1, a2, a3, Nat.testBit_two_pow_mul_add _ (Nat.mod_lt _ (by omega)), Nat.testBit_mod_two_pow, Nat.testBit_mod_two_pow]
    by_cases h7 : i < 7
    · simp [h7, show i < 8 by omega, show ¬ i = 7 by omega]
    · by_cases h8 : i = 7
      · subst h8; simp
      · have : ¬ i < 8 := by omega
        simp [h7, h8, this]
        have h1 : 1 ≤ i - 7 := by omega
        have : Nat.testBit 1 (i - 7) = false := by
          rw [show (1 : Nat) = 2 ^ 0 by rfl, Nat.testBit_two_pow]; simp; omega
        exact this
  rw [h2] at h
  exact h
end Go.Proofs.YtnffnjljjecphaaDoor
