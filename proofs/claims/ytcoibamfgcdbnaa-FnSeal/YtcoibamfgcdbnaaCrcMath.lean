/- The CRC on lists of bytes: it goes on from text to text; one byte turned turns it. Nothing of the program in it. -/
import Derived.Test.YtcoibamfgcdbnaaPlain
import Derived.Laws.BytesArg
namespace Go.Proofs.Ytcoibamfgcdbnaa
open Go.RowKit

def crcL (r : Nat) (l : List UInt8) : Nat := l.foldl (fun r c => byteCrc r c.toNat) r
theorem byteN_list (s : ByteArray) (k : Nat) (h : k < s.size) : s.data.toList[k]? = some (UInt8.ofNat (byteN s k)) := by
  rw [byteN_lt h, Array.getElem?_toList]
  have : s.data[k]? = some s[k] := Array.getElem?_eq_getElem h
  rw [this]; simp
theorem crcTo_list (s : ByteArray) (r : Nat) : ∀ k, k ≤ s.size → crcTo s r k = crcL r (s.data.toList.take k)
  | 0, _ => rfl
  | k + 1, h => by
    have hk : k < s.size := by omega
    have hb := byteN_list s k hk
    rw [crcTo, crcTo_list s r k (by omega), List.take_add_one, hb]
    unfold crcL
    rw [List.foldl_append]
    simp [Nat.mod_eq_of_lt (byteN_256 s k)]
theorem crcOf_list (c : Nat) (s : ByteArray) : crcOf c s = crcL (c ^^^ 4294967295) s.data.toList ^^^ 4294967295 := by
  have hl : s.data.toList.length = s.size := by simp
  rw [crcOf, crcTo_list s _ s.size (Nat.le_refl _), List.take_of_length_le (by omega)]
theorem crcL_lt {r : Nat} (h : r < 4294967296) (l : List UInt8) : crcL r l < 4294967296 := by
  induction l generalizing r with
  | nil => exact h
  | cons c l ih => exact ih (byteCrc_lt h (UInt8.toNat_lt _))
theorem xor_twice (x m : Nat) : (x ^^^ m) ^^^ m = x := by rw [Nat.xor_assoc, Nat.xor_self, Nat.xor_zero]
/-- a CRC goes on from text to text -/
theorem crcOf_append (t u : ByteArray) : crcOf (crcOf 0 t) u = crcOf 0 (t ++ u) := by
  rw [crcOf_list, crcOf_list 0 t, crcOf_list 0 (t ++ u), xor_twice]
  simp [crcL, List.foldl_append]

theorem poly_bit : Nat.testBit 3988292384 31 = true := by decide
theorem step_odd {r : Nat} (h : r < 4294967296) : (step r).testBit 31 = decide (r % 2 = 1) := by
  unfold step
  have hb : (r / 2).testBit 31 = false := Nat.testBit_lt_two_pow (by omega)
  split
  · rename_i h1; rw [Nat.testBit_xor, hb, poly_bit]; simp [h1]
  · rename_i h1; rw [hb]; simp [h1]
theorem step_inj {a b : Nat} (ha : a < 4294967296) (hb : b < 4294967296) (h : step a = step b) : a = b := by
  have ho := step_odd ha
  rw [h, step_odd hb] at ho
  have hp : (a % 2 = 1) ↔ (b % 2 = 1) := by simpa using ho.symm
  unfold step at h
  by_cases h1 : a % 2 = 1
  · rw [if_pos h1, if_pos (hp.1 h1)] at h
    have : a / 2 = b / 2 := by have := congrArg (· ^^^ 3988292384) h; simpa [xor_twice] using this
    have := hp.1 h1
    omega
  · have hb1 : ¬ b % 2 = 1 := fun e => h1 (hp.2 e)
    rw [if_neg h1, if_neg hb1] at h
    omega
theorem stepN_inj (k : Nat) {a b : Nat} (ha : a < 4294967296) (hb : b < 4294967296) (h : stepN k a = stepN k b) : a = b := by
  induction k with
  | zero => exact h
  | succ k ih => exact ih (step_inj (stepN_lt k ha) (stepN_lt k hb) h)
theorem xor_inj_right {a b m : Nat} (h : a ^^^ m = b ^^^ m) : a = b := by
  have := congrArg (· ^^^ m) h
  simpa [xor_twice] using this
theorem byteCrc_inj_r {r1 r2 b : Nat} (h1 : r1 < 4294967296) (h2 : r2 < 4294967296) (hb : b < 256) (h : byteCrc r1 b = byteCrc r2 b) : r1 = r2 :=
  xor_inj_right (stepN_inj 8 (xor_lt32 h1 (by omega)) (xor_lt32 h2 (by omega)) h)
theorem byteCrc_inj_b {r b1 b2 : Nat} (h1 : r < 4294967296) (hb1 : b1 < 256) (hb2 : b2 < 256) (h : byteCrc r b1 = byteCrc r b2) : b1 = b2 := by
  have := stepN_inj 8 (xor_lt32 h1 (by omega)) (xor_lt32 h1 (by omega)) h
  rw [Nat.xor_comm r b1, Nat.xor_comm r b2] at this
  exact xor_inj_right this
theorem crcL_inj {r1 r2 : Nat} (h1 : r1 < 4294967296) (h2 : r2 < 4294967296) (l : List UInt8) (h : crcL r1 l = crcL r2 l) : r1 = r2 := by
  induction l generalizing r1 r2 with
  | nil => exact h
  | cons c l ih => exact byteCrc_inj_r h1 h2 (UInt8.toNat_lt c) (ih (byteCrc_lt h1 (UInt8.toNat_lt c)) (byteCrc_lt h2 (UInt8.toNat_lt c)) h)
theorem crcL_turned {r : Nat} (hr : r < 4294967296) (a b : List UInt8) (c d : UInt8) (hcd : c ≠ d) : crcL r (a ++ c :: b) ≠ crcL r (a ++ d :: b) := by
  intro h
  unfold crcL at h
  rw [List.foldl_append, List.foldl_append, List.foldl_cons, List.foldl_cons] at h
  have hA := crcL_lt hr a
  have h3 := crcL_inj (byteCrc_lt hA (UInt8.toNat_lt c)) (byteCrc_lt hA (UInt8.toNat_lt d)) b h
  have h4 := byteCrc_inj_b hA (UInt8.toNat_lt c) (UInt8.toNat_lt d) h3
  exact hcd (UInt8.toNat_inj.1 h4)
/-- one byte turned turns the CRC -/
theorem crcOf_turned (t u : ByteArray) (a b : List UInt8) (c d : UInt8) (hcd : c ≠ d) (ht : t.data.toList = a ++ c :: b) (hu : u.data.toList = a ++ d :: b) : crcOf 0 t ≠ crcOf 0 u := by
  rw [crcOf_list, crcOf_list, ht, hu]
  intro h
  exact crcL_turned (by decide) a b c d hcd (xor_inj_right h)
end Go.Proofs.Ytcoibamfgcdbnaa
