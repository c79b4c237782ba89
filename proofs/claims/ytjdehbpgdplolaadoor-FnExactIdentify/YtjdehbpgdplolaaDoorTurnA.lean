/- What the least of the functions on turns answer: the parts in a row, whether each is within a bound, whether two turns are one; where a turn lies in memory. -/
import Derived.Test.YtjdehbpgdplolaaDoorVecF
import Derived.Test.YtjdehbpgdplolaaDoorTurnMath2
import Derived.Lib.QuietBelow
namespace Go.Proofs.YtjdehbpgdplolaaDoor
open Go.RowKit
set_option linter.unusedVariables false

def TurnAt (w : World) (b : Nat) (p q r s : Int) : Prop := w.cell? ⟨b, 0, none⟩ = some (.int .i64 p) ∧ w.cell? ⟨b, 1, none⟩ = some (.int .i64 q) ∧ w.cell? ⟨b, 2, none⟩ = some (.int .i64 r) ∧ w.cell? ⟨b, 3, none⟩ = some (.int .i64 s)
def FreeT (w : World) (b : Nat) : Prop := w.frozen? ⟨b, 0, none⟩ = false ∧ w.frozen? ⟨b, 1, none⟩ = false ∧ w.frozen? ⟨b, 2, none⟩ = false ∧ w.frozen? ⟨b, 3, none⟩ = false
theorem TurnAt.kept {w w' : World} {b : Nat} {p q r s : Int} (h : TurnAt w b p q r s) (hb : b < w.heap.size) (hB : Below w.heap.size w w') : TurnAt w' b p q r s := by
  obtain ⟨h0, h1, h2, h3⟩ := h
  exact ⟨by rw [hB.cell (p := ⟨b, 0, none⟩) hb]; exact h0, by rw [hB.cell (p := ⟨b, 1, none⟩) hb]; exact h1, by rw [hB.cell (p := ⟨b, 2, none⟩) hb]; exact h2, by rw [hB.cell (p := ⟨b, 3, none⟩) hb]; exact h3⟩
theorem FreeT.kept {w w' : World} {b : Nat} (h : FreeT w b) (hb : b < w.heap.size) (hB : Below w.heap.size w w') : FreeT w' b := by
  obtain ⟨h0, h1, h2, h3⟩ := h
  exact ⟨by rw [hB.frozen (p := ⟨b, 0, none⟩) hb]; exact h0, by rw [hB.frozen (p := ⟨b, 1, none⟩) hb]; exact h1, by rw [hB.frozen (p := ⟨b, 2, none⟩) hb]; exact h2, by rw [hB.frozen (p := ⟨b, 3, none⟩) hb]; exact h3⟩
theorem turnAt_new (w : World) (p q r s : Int) (t : TypeId) : TurnAt (w.alloc (.cells #[.int .i64 p, .int .i64 q, .int .i64 r, .int .i64 s] t)) w.heap.size p q r s := by
  refine ⟨?_, ?_, ?_, ?_⟩ <;> simp
theorem freeT_new (w : World) (p q r s : Int) (t : TypeId) : FreeT (w.alloc (.cells #[.int .i64 p, .int .i64 q, .int .i64 r, .int .i64 s] t)) w.heap.size := by
  refine ⟨?_, ?_, ?_, ?_⟩ <;> simp
theorem TurnAt.lt {w : World} {b : Nat} {p q r s : Int} (h : TurnAt w b p q r s) : b < w.heap.size := World.block_lt_of_cell? w _ h.1
theorem TurnAt.alloc {w : World} {b : Nat} {p q r s : Int} (h : TurnAt w b p q r s) (o : Obj) : TurnAt (w.alloc o) b p q r s := h.kept h.lt (below1 _ _)
theorem below_set4 {w w1 : World} {b : Nat} (h : Below w.heap.size w w1) (hb : w.heap.size ≤ b) (x y z u : Value) : Below w.heap.size w ((((w1.setCell ⟨b, 0, none⟩ x).setCell ⟨b, 1, none⟩ y).setCell ⟨b, 2, none⟩ z).setCell ⟨b, 3, none⟩ u) := (((h.setCell hb _).setCell hb _).setCell hb _).setCell hb _
theorem below_set5 {w w1 : World} {b : Nat} (h : Below w.heap.size w w1) (hb : w.heap.size ≤ b) (x y z u v : Value) : Below w.heap.size w (((((w1.setCell ⟨b, 0, none⟩ x).setCell ⟨b, 1, none⟩ y).setCell ⟨b, 2, none⟩ z).setCell ⟨b, 3, none⟩ u).setCell ⟨b, 4, none⟩ v) := ((((h.setCell hb _).setCell hb _).setCell hb _).setCell hb _).setCell hb _

end Go.Proofs.YtjdehbpgdplolaaDoor
