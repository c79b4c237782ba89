/- Several texts in one: DsC. -/
import Derived.BigRegion
import Derived.Deep.DeepCutAuto
import Derived.Test.YtdchjcadhlkpfaaGreatDoorQFnTopOwn14
import Derived.Test.YtdchjcadhlkpfaaGreatDoorQFnTopOwn17
namespace Go.Proofs.YtdchjcadhlkpfaaGreatDoor
set_option linter.unusedVariables false
set_option linter.unusedSimpArgs false
set_option maxRecDepth 100000
set_option maxHeartbeats 8000000
section
open Go.RowKit
def kT : Nat → List UInt8
 | 0 => mQ
 | 1 => mM
 | 2 => uk
 | 3 => qd
 | 4 => mW
 | 5 => ur
 | _ => mj
theorem jN {w w' : World} {g j : Nat} {u : Value} (h : w.cell? ⟨g, j, none⟩ = some u) (hB : Below w.heap.size w w') : w'.cell? ⟨g, j, none⟩ = some u := by
 rw [hB.cell (p := ⟨g, j, none⟩) (World.block_lt_of_cell? w _ h)]; exact h
theorem nC {s : List UInt8} {p0 : List UInt8} {r : List (List UInt8)} (h : pcs 32 s = p0 :: r) : eL s = if p0 = mQ then eA 0 r else if p0 = mM then eU 1 r else if p0 = uk then fy 2 r else if p0 = qd then eU 3 r else if p0 = mW then eA 4 r else if p0 = ur then fy 5 r else if p0 = mj then eA 6 r else none := by
 unfold eL
 rw [h]
theorem sV (c : UInt8) (s : List UInt8) : ∀ x ∈ pcs c s, x.length ≤ s.length := by
 induction s with
 | nil => intro x hx; simp [pcs] at hx; subst hx; simp
 | cons y ys ih =>
  intro x hx
  rw [pcs] at hx
  split at hx
  ·rcases List.mem_cons.1 hx with rfl | h
   ·simp
   ·have := ih x h; simp; omega
  ·have hne := lc c ys
   cases hp : pcs c ys with
   | nil => exact absurd hp hne
   | cons d D =>
    rw [hp] at hx
    simp at hx
    rcases hx with rfl | h
    ·have := ih d (by rw [hp]; exact List.mem_cons_self ..); simp; omega
    ·have := ih x (by rw [hp]; exact List.mem_cons_of_mem _ h); simp; omega
theorem qU (c : UInt8) (s : List UInt8) : (pcs c s).length ≤ s.length + 1 := by
 induction s with
 | nil => simp [pcs]
 | cons y ys ih =>
  rw [pcs]
  split
  ·simp; omega
  ·have hne := lc c ys
   have : 0 < (pcs c ys).length := List.length_pos_iff.2 hne
   simp; omega
end
end Go.Proofs.YtdchjcadhlkpfaaGreatDoor
