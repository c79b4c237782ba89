/- Commands, plainly. -/
import Derived.Test.YtnffnjljjecphaaDoorModM
import Derived.Test.YtnffnjljjecphaaDoorIdM
import Derived.Test.YtnffnjljjecphaaDoorFrA
namespace Go.Proofs.YtnffnjljjecphaaDoor
set_option linter.unusedVariables false

structure Cm where
  kind : Int
  A : Int
  B : Int
  C : Int
  D : Int
  S : List D3
  wd : Int
  ht : Int
  px : ByteArray
  lv : Int
  fo : Int
def fr0 (wd ht : Int) (px : ByteArray) : Bool := decide (wd = 0) && decide (ht = 0) && decide (px.toList = [])
def bareB (c : Cm) : Bool := fr0 c.wd c.ht c.px && decide (c.lv = 0) && decide (c.fo = 0)
def noS (S : List D3) : Bool := decide (S.length = 0)
def tz (c : Cm) : Bool := eqT c.A c.B c.C c.D 0 0 0 0
def cmdB (c : Cm) : Bool :=
  if c.kind = 1 then tz c && noS c.S && bareB c
  else if c.kind = 2 then rightT c.A c.B c.C c.D && noS c.S && bareB c
  else if c.kind = 3 then tz c && spotsB c.S && bareB c
  else if c.kind = 4 then tz c && noS c.S && frameB c.wd c.ht c.px && spanB 0 255 c.lv && spanB 1 40 c.fo
  else false
theorem cmd_1 {c : Cm} (h : c.kind = 1) : cmdB c = (tz c && noS c.S && bareB c) := by unfold cmdB; rw [if_pos h]
theorem cmd_2 {c : Cm} (h : c.kind = 2) : cmdB c = (rightT c.A c.B c.C c.D && noS c.S && bareB c) := by unfold cmdB; rw [if_neg (by omega), if_pos h]
theorem cmd_3 {c : Cm} (h : c.kind = 3) : cmdB c = (tz c && spotsB c.S && bareB c) := by unfold cmdB; rw [if_neg (by omega), if_neg (by omega), if_pos h]
theorem cmd_4 {c : Cm} (h : c.kind = 4) : cmdB c = (tz c && noS c.S && frameB c.wd c.ht c.px && spanB 0 255 c.lv && spanB 1 40 c.fo) := by unfold cmdB; rw [if_neg (by omega), if_neg (by omega), if_neg (by omega), if_pos h]
theorem cmd_n {c : Cm} (h1 : c.kind ≠ 1) (h2 : c.kind ≠ 2) (h3 : c.kind ≠ 3) (h4 : c.kind ≠ 4) : cmdB c = false := by unfold cmdB; rw [if_neg h1, if_neg h2, if_neg h3, if_neg h4]
end Go.Proofs.YtnffnjljjecphaaDoor
