/- Several texts in one: IeT. -/
import Derived.Test.YtlleafjdgblhcaaGreatDoorQDeskRunOwn16
namespace Go.Proofs.YtlleafjdgblhcaaGreatDoor
set_option linter.unusedVariables false
set_option linter.unusedSimpArgs false
set_option maxRecDepth 100000
set_option maxHeartbeats 8000000
section
open Go.RowKit Go.Sort Go.Shelf
theorem vw (L : List St) (S : List D3) (ar br : Option Addr) (cr dr : Nat) (w : World) :
  Calls Tryz.prog 129 #[.slice ar L.length cr, .slice br S.length dr] w fun e w' => e = .returned (.func (.func 150) #[] #[.pointer (some ⟨w.heap.size, 0, none⟩), .pointer (some ⟨w.heap.size + 1, 0, none⟩)]) ∧ w'.cell? ⟨w.heap.size, 0, none⟩ = some (.slice ar L.length cr) ∧ w'.cell? ⟨w.heap.size + 1, 0, none⟩ = some (.slice br S.length dr) ∧ Below w.heap.size w w' := by
 go_enter Tryz.func129, Tryz.ntmps129
 go_wp2
 refine bodyPost_ret (v := .func (.func 150) #[] #[.pointer (some ⟨w.heap.size, 0, none⟩), .pointer (some ⟨w.heap.size + 1, 0, none⟩)]) (by simp [results, go_sem]) rfl ⟨rfl, ?_, ?_, aO w _ _⟩
 ·exact bq (by simp) (an _ _)
 ·have := World.alloc_heap_new (w.alloc (.cells #[.slice ar L.length cr] 30)) (.cells #[.slice br S.length dr] 64)
  rw [World.size_alloc] at this
  exact (kn this).1
end
end Go.Proofs.YtlleafjdgblhcaaGreatDoor
