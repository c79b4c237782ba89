/- Several texts in one: TurnO. -/
import Derived.Test.YtoakkmjcbnfljaaGreatDoorQFnIdentOwn5
namespace Go.Proofs.YtoakkmjcbnfljaaGreatDoor
set_option linter.unusedVariables false
set_option linter.unusedSimpArgs false
set_option maxRecDepth 100000
set_option maxHeartbeats 8000000
section
open Go.RowKit
def de (w : World) (b : Nat) (p q r s k : Int) : Prop := w.cell? ⟨b, 0, none⟩ = some (.int .i64 p) ∧ w.cell? ⟨b, 1, none⟩ = some (.int .i64 q) ∧ w.cell? ⟨b, 2, none⟩ = some (.int .i64 r) ∧ w.cell? ⟨b, 3, none⟩ = some (.int .i64 s) ∧ w.cell? ⟨b, 4, none⟩ = some (.int .i64 k)
def ky (w : World) (b : Nat) : Prop := w.frozen? ⟨b, 0, none⟩ = false ∧ w.frozen? ⟨b, 1, none⟩ = false ∧ w.frozen? ⟨b, 2, none⟩ = false ∧ w.frozen? ⟨b, 3, none⟩ = false ∧ w.frozen? ⟨b, 4, none⟩ = false
theorem de.lt {w : World} {b : Nat} {p q r s k : Int} (h : de w b p q r s k) : b < w.heap.size := World.block_lt_of_cell? w _ h.1
theorem de.kept {w w' : World} {b : Nat} {p q r s k : Int} (h : de w b p q r s k) (hB : Below w.heap.size w w') : de w' b p q r s k := by
 have hb := h.lt
 obtain ⟨h0, h1, h2, h3, h4⟩ := h
 exact ⟨by rw [hB.cell (p := ⟨b, 0, none⟩) hb]; exact h0, by rw [hB.cell (p := ⟨b, 1, none⟩) hb]; exact h1, by rw [hB.cell (p := ⟨b, 2, none⟩) hb]; exact h2, by rw [hB.cell (p := ⟨b, 3, none⟩) hb]; exact h3, by rw [hB.cell (p := ⟨b, 4, none⟩) hb]; exact h4⟩
theorem ky.kept {w w' : World} {b : Nat} (h : ky w b) (hb : b < w.heap.size) (hB : Below w.heap.size w w') : ky w' b := by
 obtain ⟨h0, h1, h2, h3, h4⟩ := h
 exact ⟨by rw [hB.frozen (p := ⟨b, 0, none⟩) hb]; exact h0, by rw [hB.frozen (p := ⟨b, 1, none⟩) hb]; exact h1, by rw [hB.frozen (p := ⟨b, 2, none⟩) hb]; exact h2, by rw [hB.frozen (p := ⟨b, 3, none⟩) hb]; exact h3, by rw [hB.frozen (p := ⟨b, 4, none⟩) hb]; exact h4⟩
theorem eH (w : World) (p q r s k : Int) (t : TypeId) : de (w.alloc (.cells #[.int .i64 p, .int .i64 q, .int .i64 r, .int .i64 s, .int .i64 k] t)) w.heap.size p q r s k := by
 refine ⟨?_, ?_, ?_, ?_, ?_⟩ <;> simp
theorem mw (w : World) (p q r s k : Int) (t : TypeId) : ky (w.alloc (.cells #[.int .i64 p, .int .i64 q, .int .i64 r, .int .i64 s, .int .i64 k] t)) w.heap.size := by
 refine ⟨?_, ?_, ?_, ?_, ?_⟩ <;> simp
theorem de.alloc {w : World} {b : Nat} {p q r s k : Int} (h : de w b p q r s k) (o : Obj) : de (w.alloc o) b p q r s k := h.kept (ak _ _)
end
end Go.Proofs.YtoakkmjcbnfljaaGreatDoor
