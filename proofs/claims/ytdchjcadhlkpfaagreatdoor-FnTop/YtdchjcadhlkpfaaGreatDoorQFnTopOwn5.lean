/- Several texts in one: TextMath. -/
import Derived.Lib.ItoaMem
import Derived.Lib.Join
import Derived.Test.YtdchjcadhlkpfaaGreatDoorQFnTopOwn2
namespace Go.Proofs.YtdchjcadhlkpfaaGreatDoor
set_option linter.unusedVariables false
set_option linter.unusedSimpArgs false
set_option maxRecDepth 100000
set_option maxHeartbeats 8000000
section
def d8 (n : Int) : UInt8 := UInt8.ofNat (48 + n.toNat)
def dig (n : Int) : List UInt8 := if n < 0 then [45, d8 (-n)] else [d8 n]
def gN (a b c d : Int) : List UInt8 := dig a ++ 44 :: (dig b ++ 44 :: (dig c ++ 44 :: dig d))
def eK (a b c d : Int) : ByteArray := if az a b c d then ⟨(gN a b c d).toArray⟩ else ⟨#[]⟩
theorem it {n : Int} (h : -5 ≤ n ∧ n ≤ 5) : Lib.itoa n = dig n := by
 unfold dig
 split
 ·have e : n = -((-n).toNat : Int) := by omega
  have := Lib.itoa_neg (-n).toNat (by omega)
  rw [← e] at this
  rw [this, Lib.decDigits_one (by omega)]
  rfl
 ·have e : n = (n.toNat : Int) := by omega
  have := Lib.itoa_nonneg n.toNat
  rw [← e] at this
  rw [this, Lib.decDigits_one (by omega)]
  rfl
theorem jJ (n : Int) : (dig n).length ≤ 2 := by unfold dig; split <;> simp
theorem sR (a b c d : Int) : (gN a b c d).length ≤ 11 := by
 have h1 := jJ a
 have h2 := jJ b
 have h3 := jJ c
 have h4 := jJ d
 unfold gN
 simp only [List.length_append, List.length_cons]
 omega
theorem qK {a b c d : Int} (h : inT 5 a b c d = true) : Lib.join [Lib.itoa a, Lib.itoa b, Lib.itoa c, Lib.itoa d] [44] = gN a b c d := by
 obtain ⟨h1, h2, h3, h4⟩ := bw.1 h
 rw [it h1, it h2, it h3, it h4]
 simp [Lib.join, gN]
theorem ue {a b c d : Int} (h : az a b c d = true) : eK a b c d = ⟨(gN a b c d).toArray⟩ := by unfold eK; rw [if_pos h]
theorem ud {a b c d : Int} (h : az a b c d = false) : eK a b c d = ⟨#[]⟩ := by unfold eK; rw [h]; rfl
end
end Go.Proofs.YtdchjcadhlkpfaaGreatDoor
