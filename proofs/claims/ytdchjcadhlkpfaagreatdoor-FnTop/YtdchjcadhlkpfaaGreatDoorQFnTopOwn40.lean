/- Several texts in one: DsI. -/
import Derived.Test.YtdchjcadhlkpfaaGreatDoorQFnTopOwn18
import Derived.Test.YtdchjcadhlkpfaaGreatDoorQFnTopOwn39
namespace Go.Proofs.YtdchjcadhlkpfaaGreatDoor
set_option linter.unusedVariables false
set_option linter.unusedSimpArgs false
set_option maxRecDepth 100000
set_option maxHeartbeats 8000000
section
open Go.RowKit Go.Sort
theorem eF {w W : World} {row : Option Nat} (h : Below w.heap.size w W) : w.grownBy W row := ⟨h.os, h.tape, h.output, h.size, fun k hk _ => h.block k hk⟩
theorem oT {w W V : World} {row : Option Nat} (h : w.grownBy W row) (h2 : W.grownBy V row) : w.grownBy V row := ⟨h2.os.trans h.os, h2.tape.trans h.tape, h2.output.trans h.output, Nat.le_trans h.size h2.size, fun k hk hne => (h2.block k (Nat.lt_of_lt_of_le hk h.size) hne).trans (h.block k hk hne)⟩
theorem aE {w W : World} {db : Nat} (h : w.grownBy W (some db)) (i : Nat) (x : Value) : w.grownBy (W.setCell ⟨db, i, none⟩ x) (some db) :=
 have z := (Below.refl 0 W).setCell (p := ⟨db, i, none⟩) (Nat.zero_le _) x
 oT h ⟨z.os, z.tape, z.output, z.size, fun k hk hne => Below.heap_setCell W ⟨db, i, none⟩ x k (fun e => hne (by rw [e]))⟩
theorem dv {w W : World} {B db : Nat} {L : List St} {a : Option Addr} {cap : Nat} (h : ay w B L a cap) (hg : w.grownBy W (some db)) (hf : ∀ x, a = some x → x.block ≠ db) : ay W B L a cap := by
 refine World.ownsRow.kept h hg ?_
 cases a with
 | none => exact .inl rfl
 | some x => exact .inr (fun e => hf x rfl (Option.some.inj e))
theorem kg.lt {w : World} {db B : Nat} {t : Tk} {u : U4} {a : Option Addr} {cap : Nat} (h : kg w db B t u a cap) : db < w.heap.size := h.blk.lt
def dL (t : Tk) (S : List D3) : Tk × ByteArray := if bV t S = 0 then (bL t S, ey (bL t S).mode.toNat) else (t, ew (bV t S).toNat)
theorem kZ (t : Tk) (S : List D3) : 0 ≤ bV t S ∧ bV t S ≤ 9 := by
 unfold bV
 split
 ·omega
 ·split
  ·split <;> omega
  ·omega
theorem la {t : Tk} {S : List D3} (h : bV t S = 0) : 0 ≤ (bL t S).mode ∧ (bL t S).mode ≤ 2 := by
 unfold bL
 split
 ·exact ⟨by decide, by decide⟩
 ·split
  ·rename_i h1
   split
   ·exact ⟨by decide, by decide⟩
   ·have hm : eI t = true := by
     simp only [Bool.and_eq_true] at h1
     have := h1.1
     unfold ax at this
     simp only [Bool.and_eq_true] at this
     exact this.2
    have hmo : 0 ≤ t.mode ∧ t.mode ≤ 2 := by
     unfold eI at hm
     split at hm
     ·omega
     ·split at hm
      ·omega
      ·split at hm
       ·omega
       ·simp at hm
    unfold eo pN aY nw
    split
    ·exact ⟨(by decide : (0 : Int) ≤ 1), (by decide : (1 : Int) ≤ 2)⟩
    ·split
     ·exact ⟨(by decide : (0 : Int) ≤ 1), (by decide : (1 : Int) ≤ 2)⟩
     ·split
      ·exact hmo
      ·split
       ·exact ⟨(by decide : (0 : Int) ≤ 0), (by decide : (0 : Int) ≤ 2)⟩
       ·exact ⟨(by decide : (0 : Int) ≤ 2), (by decide : (2 : Int) ≤ 2)⟩
  ·exact ⟨by decide, by decide⟩
end
end Go.Proofs.YtdchjcadhlkpfaaGreatDoor
