/- Several texts in one: DsJ. -/
import Derived.Test.YtdchjcadhlkpfaaGreatDoorQFnTopOwn40
import Derived.Test.YtdchjcadhlkpfaaGreatDoorQFnTopOwn25
import Derived.Test.YtdchjcadhlkpfaaGreatDoorQFnTopOwn28
namespace Go.Proofs.YtdchjcadhlkpfaaGreatDoor
set_option linter.unusedVariables false
set_option linter.unusedSimpArgs false
set_option maxRecDepth 100000
set_option maxHeartbeats 8000000
section
open Go.RowKit Go.Sort
def rd1 (s : ByteArray) : Int := bS s (aB s).a
def rd2 (s : ByteArray) : Int := bS s (aB s).b
def rd3 (s : ByteArray) : Int := bS s (aB s).c
def rd4 (s : ByteArray) : Int := bS s (aB s).d
def cf : ByteArray := ⟨#[111, 107]⟩
def fD (s : ByteArray) (u : U4) : Int := coK (rd1 s) (rd2 s) (rd3 s) (rd4 s) u.1 u.2.1 u.2.2.1 u.2.2.2
def sq (s : ByteArray) (u : U4) : U4 := (mz (rd1 s) (rd2 s) (rd3 s) (rd4 s) u.1 u.2.1 u.2.2.1 u.2.2.2, mt (rd1 s) (rd2 s) (rd3 s) (rd4 s) u.1 u.2.1 u.2.2.1 u.2.2.2, mV (rd1 s) (rd2 s) (rd3 s) (rd4 s) u.1 u.2.1 u.2.2.1 u.2.2.2, mT (rd1 s) (rd2 s) (rd3 s) (rd4 s) u.1 u.2.1 u.2.2.1 u.2.2.2)
def cj (t : Tk) (u : U4) (s : ByteArray) (told : Bool) : (Tk × U4) × ByteArray :=
 if ch s = 0 then (if fD s u = 0 then ((if told = true then gv t (rd1 s) (rd2 s) (rd3 s) (rd4 s) else t, sq s u), cf) else ((t, u), ew (fD s u).toNat)) else ((t, u), ew (ch s).toNat)
theorem gK (s : ByteArray) : 0 ≤ ch s ∧ ch s ≤ 9 := by
 unfold ch
 split
 ·split <;> omega
 ·omega
theorem kH (a b c d e f g h : Int) : 0 ≤ coK a b c d e f g h ∧ coK a b c d e f g h ≤ 9 := by
 unfold coK ofC
 repeat' split
 all_goals omega
end
end Go.Proofs.YtdchjcadhlkpfaaGreatDoor
