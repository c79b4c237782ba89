/- The law's own helpers on lists of stars: as many, copied, held against each other. -/
import Derived.Test.YtofpjlhoppofdaaGreatDoorSkyE
import Derived.OwnWalk
import Derived.Laws.OwnMore
namespace Go.Proofs.YtofpjlhoppofdaaGreatDoor
open Go.RowKit Go.Sort
set_option linter.unusedVariables false

def FreeS (w : World) (b o : Nat) : Prop := w.frozen? ⟨b, o, none⟩ = false ∧ w.frozen? ⟨b, o + 1, none⟩ = false ∧ w.frozen? ⟨b, o + 2, none⟩ = false ∧ w.frozen? ⟨b, o + 3, none⟩ = false
theorem FreeS.kept {w w' : World} {b o : Nat} (h : FreeS w b o) (hb : b < w.heap.size) (hB : Below w.heap.size w w') : FreeS w' b o := by
  obtain ⟨h0, h1, h2, h3⟩ := h
  exact ⟨by rw [hB.frozen (p := ⟨b, o, none⟩) hb]; exact h0, by rw [hB.frozen (p := ⟨b, o + 1, none⟩) hb]; exact h1, by rw [hB.frozen (p := ⟨b, o + 2, none⟩) hb]; exact h2, by rw [hB.frozen (p := ⟨b, o + 3, none⟩) hb]; exact h3⟩
theorem freeS_new (w : World) (s : St) (t : TypeId) : FreeS (w.alloc (.cells #[.int .i64 s.1, .int .i64 s.2.1, .int .i64 s.2.2.1, .int .i64 s.2.2.2] t)) w.heap.size 0 := by
  refine ⟨?_, ?_, ?_, ?_⟩ <;> simp

end Go.Proofs.YtofpjlhoppofdaaGreatDoor
