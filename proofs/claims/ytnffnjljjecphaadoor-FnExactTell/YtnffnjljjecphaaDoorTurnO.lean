/- Where a turn and a code lie in memory. -/
import Derived.Test.YtnffnjljjecphaaDoorTurnC
namespace Go.Proofs.YtnffnjljjecphaaDoor
open Go.RowKit
set_option linter.unusedVariables false

def OutAt (w : World) (b : Nat) (p q r s k : Int) : Prop := w.cell? ⟨b, 0, none⟩ = some (.int .i64 p) ∧ w.cell? ⟨b, 1, none⟩ = some (.int .i64 q) ∧ w.cell? ⟨b, 2, none⟩ = some (.int .i64 r) ∧ w.cell? ⟨b, 3, none⟩ = some (.int .i64 s) ∧ w.cell? ⟨b, 4, none⟩ = some (.int .i64 k)
def FreeO (w : World) (b : Nat) : Prop := w.frozen? ⟨b, 0, none⟩ = false ∧ w.frozen? ⟨b, 1, none⟩ = false ∧ w.frozen? ⟨b, 2, none⟩ = false ∧ w.frozen? ⟨b, 3, none⟩ = false ∧ w.frozen? ⟨b, 4, none⟩ = false
theorem OutAt.lt {w : World} {b : Nat} {p q r s k : Int} (h : OutAt w b p q r s k) : b < w.heap.size := World.block_lt_of_cell? w _ h.1
theorem OutAt.kept {w w' : World} {b : Nat} {p q r s k : Int} (h : OutAt w b p q r s k) (hB : Below w.heap.size w w') : OutAt w' b p q r s k := by
  have hb := h.lt
  obtain ⟨h0, h1, h2, h3, h4⟩ := h
  exact ⟨by rw [hB.cell (p := ⟨b, 0, none⟩) hb]; exact h0, by rw [hB.cell (p := ⟨b, 1, none⟩) hb]; exact h1, by rw [hB.cell (p := ⟨b, 2, none⟩) hb]; exact h2, by rw [hB.cell (p := ⟨b, 3, none⟩) hb]; exact h3, by rw [hB.cell (p := ⟨b, 4, none⟩) hb]; exact h4⟩
theorem FreeO.kept {w w' : World} {b : Nat} (h : FreeO w b) (hb : b < w.heap.size) (hB : Below w.heap.size w w') : FreeO w' b := by
  obtain ⟨h0, h1, h2, h3, h4⟩ := h
  exact ⟨by rw [hB.frozen (p := ⟨b, 0, none⟩) hb]; exact h0, by rw [hB.frozen (p := ⟨b, 1, none⟩) hb]; exact h1, by rw [hB.frozen (p := ⟨b, 2, none⟩) hb]; exact h2, by rw [hB.frozen (p := ⟨b, 3, none⟩) hb]; exact h3, by rw [hB.frozen (p := ⟨b, 4, none⟩) hb]; exact h4⟩
theorem outAt_new (w : World) (p q r s k : Int) (t : TypeId) : OutAt (w.alloc (.cells #[.int .i64 p, .int .i64 q, .int .i64 r, .int .i64 s, .int .i64 k] t)) w.heap.size p q r s k := by
  refine ⟨?_, ?_, ?_, ?_, ?_⟩ <;> simp
theorem freeO_new (w : World) (p q r s k : Int) (t : TypeId) : FreeO (w.alloc (.cells #[.int .i64 p, .int .i64 q, .int .i64 r, .int .i64 s, .int .i64 k] t)) w.heap.size := by
  refine ⟨?_, ?_, ?_, ?_, ?_⟩ <;> simp
theorem OutAt.alloc {w : World} {b : Nat} {p q r s k : Int} (h : OutAt w b p q r s k) (o : Obj) : OutAt (w.alloc o) b p q r s k := h.kept (below1 _ _)
end Go.Proofs.YtnffnjljjecphaaDoor
