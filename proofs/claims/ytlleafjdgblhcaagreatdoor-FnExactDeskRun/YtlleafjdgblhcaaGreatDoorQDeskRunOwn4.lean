/- Several texts in one: TextMath. -/
import Derived.Lib.ItoaMem
import Derived.Lib.Join
import Derived.Test.YtlleafjdgblhcaaGreatDoorQDeskRunOwn2
namespace Go.Proofs.YtlleafjdgblhcaaGreatDoor
set_option linter.unusedVariables false
set_option linter.unusedSimpArgs false
set_option maxRecDepth 100000
set_option maxHeartbeats 8000000
section
def d8 (n : Int) : UInt8 := UInt8.ofNat (48 + n.toNat)
def dig (n : Int) : List UInt8 := if n < 0 then [45, d8 (-n)] else [d8 n]
def fc (a b c d : Int) : List UInt8 := dig a ++ 44 :: (dig b ++ 44 :: (dig c ++ 44 :: dig d))
def dc (a b c d : Int) : ByteArray := if aA a b c d then ⟨(fc a b c d).toArray⟩ else ⟨#[]⟩
theorem mq {n : Int} (h : -5 ≤ n ∧ n ≤ 5) : Lib.itoa n = dig n := by
 unfold dig
 split
 ·have e : n = -((-n).toNat : Int) := by omega
  have := Lib.itoa_neg (-n).toNat (by omega)
  rw [← e] at this
  rw [this, Lib.decDigits_one (by omega)]
  rfl
 ·have e : n = (n.toNat : Int) := by omega
  have := Lib.itoa_nonneg n.toNat
  rw [← e] at this
  rw [this, Lib.decDigits_one (by omega)]
  rfl
theorem ip (n : Int) : (dig n).length ≤ 2 := by unfold dig; split <;> simp
theorem BU (a b c d : Int) : (fc a b c d).length ≤ 11 := by
 have h1 := ip a
 have h2 := ip b
 have h3 := ip c
 have h4 := ip d
 unfold fc
 simp only [List.length_append, List.length_cons]
 omega
theorem Ad {a b c d : Int} (h : inT 5 a b c d = true) : Lib.join [Lib.itoa a, Lib.itoa b, Lib.itoa c, Lib.itoa d] [44] = fc a b c d := by
 obtain ⟨h1, h2, h3, h4⟩ := bR.1 h
 rw [mq h1, mq h2, mq h3, mq h4]
 simp [Lib.join, fc]
theorem oR {a b c d : Int} (h : aA a b c d = true) : dc a b c d = ⟨(fc a b c d).toArray⟩ := by unfold dc; rw [if_pos h]
theorem ue {a b c d : Int} (h : aA a b c d = false) : dc a b c d = ⟨#[]⟩ := by unfold dc; rw [h]; rfl
theorem Ch (x : UInt8) (l : List UInt8) : ((⟨#[x]⟩ : ByteArray) ++ ⟨l.toArray⟩) = ⟨(x :: l).toArray⟩ := by
 apply ByteArray.ext
 simp
end
end Go.Proofs.YtlleafjdgblhcaaGreatDoor
