/- The text of a turn, plainly: its parts in digits, commas between; nothing of the program in it. -/
import Derived.Test.YtijpnnooenpjoaaDoorTurnMath
import Derived.Lib.ItoaMem
import Derived.Lib.Join
namespace Go.Proofs.YtijpnnooenpjoaaDoor
set_option linter.unusedVariables false

def d8 (n : Int) : UInt8 := UInt8.ofNat (48 + n.toNat)
def dig (n : Int) : List UInt8 := if n < 0 then [45, d8 (-n)] else [d8 n]
def textD (a b c d : Int) : List UInt8 := dig a ++ 44 :: (dig b ++ 44 :: (dig c ++ 44 :: dig d))
def textB (a b c d : Int) : ByteArray := if rightT a b c d then ⟨(textD a b c d).toArray⟩ else ⟨#[]⟩
theorem itoa_dig {n : Int} (h : -5 ≤ n ∧ n ≤ 5) : Lib.itoa n = dig n := by
  unfold dig
  split
  · have e : n = -((-n).toNat : Int) := by omega
    have := Lib.itoa_neg (-n).toNat (by omega)
    rw [← e] at this
    rw [this, Lib.decDigits_one (by omega)]
    rfl
  · have e : n = (n.toNat : Int) := by omega
    have := Lib.itoa_nonneg n.toNat
    rw [← e] at this
    rw [this, Lib.decDigits_one (by omega)]
    rfl
theorem dig_len (n : Int) : (dig n).length ≤ 2 := by unfold dig; split <;> simp
theorem dig_ne (n : Int) : (dig n).length ≠ 0 := by unfold dig; split <;> simp
theorem text_len (a b c d : Int) : (textD a b c d).length ≤ 11 := by
  have h1 := dig_len a
  have h2 := dig_len b
  have h3 := dig_len c
  have h4 := dig_len d
  unfold textD
  simp only [List.length_append, List.length_cons]
  omega
theorem text_join {a b c d : Int} (h : inT 5 a b c d = true) : Lib.join [Lib.itoa a, Lib.itoa b, Lib.itoa c, Lib.itoa d] [44] = textD a b c d := by
  obtain ⟨h1, h2, h3, h4⟩ := inT_iff.1 h
  rw [itoa_dig h1, itoa_dig h2, itoa_dig h3, itoa_dig h4]
  simp [Lib.join, textD]
theorem text_ok {a b c d : Int} (h : rightT a b c d = true) : textB a b c d = ⟨(textD a b c d).toArray⟩ := by unfold textB; rw [if_pos h]
theorem text_no {a b c d : Int} (h : rightT a b c d = false) : textB a b c d = ⟨#[]⟩ := by unfold textB; rw [h]; rfl
theorem cat_cons (x : UInt8) (l : List UInt8) : ((⟨#[x]⟩ : ByteArray) ++ ⟨l.toArray⟩) = ⟨(x :: l).toArray⟩ := by
  apply ByteArray.ext
  simp
theorem cat_list (k l : List UInt8) : ((⟨k.toArray⟩ : ByteArray) ++ ⟨l.toArray⟩) = ⟨(k ++ l).toArray⟩ := by
  apply ByteArray.ext
  simp
end Go.Proofs.YtijpnnooenpjoaaDoor
