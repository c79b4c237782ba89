/- Plain facts on numbers, bytes and the CRC, nothing of the program in them. -/
import Derived.WalkKit
import Derived.Laws.BitsAllLaws
namespace Go.Proofs.Ytackifnnhjbgbaa
open Go.RowKit

theorem hide {p : Prop} (h : p) : Hid p := h
theorem unhide {p : Prop} (h : Hid p) : p := h

def step (r : Nat) : Nat := if r % 2 = 1 then (r / 2) ^^^ 3988292384 else r / 2
def stepN : Nat → Nat → Nat
  | 0, r => r
  | k + 1, r => step (stepN k r)
def implN : Nat → Nat → Nat → Nat
  | 0, r, _ => r
  | k + 1, r, b => if (implN k r b ^^^ (b / 2 ^ k)) % 2 = 1 then (implN k r b / 2) ^^^ 3988292384 else implN k r b / 2
def byteCrc (r b : Nat) : Nat := stepN 8 (r ^^^ b)

theorem xor_div2 (a b : Nat) : (a ^^^ b) / 2 = (a / 2) ^^^ (b / 2) := by
  apply Nat.eq_of_testBit_eq; intro i
  simp [Nat.testBit_xor, ← Nat.testBit_succ]

theorem stepN_implN (k r b : Nat) : stepN k (r ^^^ b) = implN k r b ^^^ (b / 2 ^ k) := by
  induction k with
  | zero => simp [stepN, implN]
  | succ k ih =>
    have e : b / 2 ^ (k + 1) = b / 2 ^ k / 2 := by rw [Nat.pow_succ, Nat.div_div_eq_div_mul]
    simp only [stepN, step, implN, ih, e, xor_div2]
    by_cases h : (implN k r b ^^^ b / 2 ^ k) % 2 = 1
    · simp only [h, if_true]
      rw [Nat.xor_assoc, Nat.xor_assoc, Nat.xor_comm (b / 2 ^ k / 2)]
    · simp only [h, if_false]

theorem implN_8 (r b : Nat) (hb : b < 256) : implN 8 r b = byteCrc r b := by
  have h := stepN_implN 8 r b
  rw [show b / 2 ^ 8 = 0 by omega, Nat.xor_zero] at h
  exact h.symm

theorem xor_lt32 {a b : Nat} (ha : a < 4294967296) (hb : b < 4294967296) : a ^^^ b < 4294967296 := Nat.xor_lt_two_pow (n := 32) ha hb
theorem step_lt {r : Nat} (h : r < 4294967296) : step r < 4294967296 := by
  unfold step
  split
  · exact xor_lt32 (by omega) (by omega)
  · omega
theorem stepN_lt (k : Nat) {r : Nat} (h : r < 4294967296) : stepN k r < 4294967296 := by
  induction k with
  | zero => exact h
  | succ k ih => exact step_lt ih
theorem implN_lt (k b : Nat) {r : Nat} (h : r < 4294967296) : implN k r b < 4294967296 := by
  induction k with
  | zero => exact h
  | succ k ih =>
    unfold implN
    split
    · exact xor_lt32 (by omega) (by omega)
    · omega
theorem byteCrc_lt {r b : Nat} (h : r < 4294967296) (hb : b < 256) : byteCrc r b < 4294967296 := stepN_lt 8 (xor_lt32 h (by omega))

def byteN (s : ByteArray) (i : Nat) : Nat := if h : i < s.size then s[i].toNat else 0
theorem byteN_lt {s : ByteArray} {k : Nat} (h : k < s.size) : byteN s k = s[k].toNat := by simp [byteN, h]
theorem byteN_256 (s : ByteArray) (k : Nat) : byteN s k < 256 := by
  unfold byteN
  split
  · exact UInt8.toNat_lt _
  · omega
def crcTo (s : ByteArray) (r : Nat) : Nat → Nat
  | 0 => r
  | k + 1 => byteCrc (crcTo s r k) (byteN s k)
theorem crcTo_lt (s : ByteArray) {r : Nat} (h : r < 4294967296) (k : Nat) : crcTo s r k < 4294967296 := by
  induction k with
  | zero => exact h
  | succ k ih => exact byteCrc_lt ih (byteN_256 s k)
def crcOf (c : Nat) (s : ByteArray) : Nat := crcTo s (c ^^^ 4294967295) s.size ^^^ 4294967295
theorem crcOf_lt {c : Nat} (s : ByteArray) (h : c < 4294967296) : crcOf c s < 4294967296 := xor_lt32 (crcTo_lt s (xor_lt32 h (by omega)) _) (by omega)

theorem and1_u32 (a : Nat) (ha : a < 4294967296) : bits .and .u32 (a : Int) 1 = ((a % 2 : Nat) : Int) := by
  have h := u32_and_nat a 1 ha (by omega)
  rw [nat_mask1] at h
  exact h
theorem odd_u32 (x b k : Nat) (hx : x < 4294967296) (hb : b < 256) :
    bits .and .u32 (bits .xor .u32 (x : Int) ((b : Int) / 2 ^ k % 4294967296)) 1 = (((x ^^^ (b / 2 ^ k)) % 2 : Nat) : Int) := by
  have e : ((b : Int) / 2 ^ k % 4294967296) = ((b / 2 ^ k : Nat) : Int) := by
    have hle : b / 2 ^ k ≤ b := Nat.div_le_self _ _
    have : ((b : Int) / 2 ^ k) = ((b / 2 ^ k : Nat) : Int) := by push_cast; rfl
    rw [this]; clear this; generalize b / 2 ^ k = q at *; omega
  have hle : b / 2 ^ k ≤ b := Nat.div_le_self _ _
  rw [e, u32_xor_nat x (b / 2 ^ k) hx (by omega), and1_u32 _ (xor_lt32 hx (by omega))]
theorem xorAll (x : Nat) (h : x < 4294967296) : bits .xor .u32 (x : Int) 4294967295 = ((x ^^^ 4294967295 : Nat) : Int) := u32_xor_nat x 4294967295 h (by omega)
theorem u32_max : IntKind.u32.max = 4294967295 := by decide
theorem xorMax (x : Nat) (h : x < 4294967296) : bits .xor .u32 IntKind.u32.max (x : Int) = ((x ^^^ 4294967295 : Nat) : Int) := by
  rw [u32_max, Nat.xor_comm]
  exact u32_xor_nat 4294967295 x (by omega) h
theorem wrap64_u32 (x : Nat) (h : x < 4294967296) : wrap64 (x : Int) = (x : Int) := by
  unfold wrap64
  omega
end Go.Proofs.Ytackifnnhjbgbaa
