/- Several texts in one: ReadMath. -/
import Derived.Test.YtdchjcadhlkpfaaGreatDoorQFnTopOwn5
import Derived.Test.YtdchjcadhlkpfaaGreatDoorQFnTopOwn1
namespace Go.Proofs.YtdchjcadhlkpfaaGreatDoor
set_option linter.unusedVariables false
set_option linter.unusedSimpArgs false
set_option maxRecDepth 100000
set_option maxHeartbeats 8000000
section
structure LSt where
 pl : Nat
 sg : Int
 a : Int
 b : Int
 c : Int
 d : Int
def LSt.part (t : LSt) : Int := if t.pl = 0 then t.a else if t.pl = 1 then t.b else if t.pl = 2 then t.c else t.d
def LSt.put (t : LSt) (v : Int) : LSt := if t.pl = 0 then { t with a := v } else if t.pl = 1 then { t with b := v } else if t.pl = 2 then { t with c := v } else { t with d := v }
def mb (t : LSt) (x : Nat) : Option LSt :=
 if x = 44 ∧ t.pl < 3 then some { t with pl := t.pl + 1, sg := 1 } else if x = 45 then some { t with sg := -1 } else if 48 ≤ x ∧ x ≤ 57 then some (t.put (10 * t.part + t.sg * ((x : Int) - 48))) else none
def ef (t : LSt) (x : Nat) : Option LSt := (mb t x).bind fun u => if -5 ≤ u.part ∧ u.part ≤ 5 then some u else none
def st0 : LSt := ⟨0, 1, 0, 0, 0, 0⟩
def dA (s : ByteArray) : Nat → Option LSt
 | 0 => some st0
 | k + 1 => (dA s k).bind fun t => ef t (jU s k)
def okS (t : LSt) : Prop := t.pl ≤ 3 ∧ (t.sg = 1 ∨ t.sg = -1) ∧ (-5 ≤ t.a ∧ t.a ≤ 5) ∧ (-5 ≤ t.b ∧ t.b ≤ 5) ∧ (-5 ≤ t.c ∧ t.c ≤ 5) ∧ (-5 ≤ t.d ∧ t.d ≤ 5)
theorem eY {t : LSt} (h : okS t) : -5 ≤ t.part ∧ t.part ≤ 5 := by
 obtain ⟨h0, h1, h2, h3, h4, h5⟩ := h
 unfold LSt.part
 split
 ·exact h2
 ·split
  ·exact h3
  ·split
   ·exact h4
   ·exact h5
theorem oq {s : ByteArray} {k n : Nat} (h : dA s k = none) (hn : k ≤ n) : dA s n = none := by
 induction n with
 | zero => rw [show k = 0 by omega] at h; exact h
 | succ n ih =>
  by_cases e : k = n + 1
  ·rw [← e]; exact h
  ·show (dA s n).bind _ = none
   rw [ih (by omega)]; rfl
def aB (s : ByteArray) : LSt := (dA s s.size).getD ⟨0, 0, 0, 0, 0, 0⟩
def nT (s : ByteArray) : Bool := az (aB s).a (aB s).b (aB s).c (aB s).d && decide (eK (aB s).a (aB s).b (aB s).c (aB s).d = s)
def bS (s : ByteArray) (v : Int) : Int := if s.size ≤ 8000 ∧ nT s = true then v else 0
def ch (s : ByteArray) : Int := if s.size ≤ 8000 then (if nT s then 0 else 3) else 2
end
end Go.Proofs.YtdchjcadhlkpfaaGreatDoor
