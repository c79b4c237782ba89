/- The products of directions: Dot and Cross, the program's and the specification's. -/
import Derived.Test.YtmacbegchdjdnaaVecC
import Derived.Deep.RegionWith
namespace Go.Proofs.Ytmacbegchdjdnaa
open Go.RowKit
set_option linter.unusedVariables false

def VecAt (w : World) (b : Nat) (x y z : Int) : Prop := w.cell? ⟨b, 0, none⟩ = some (.int .i64 x) ∧ w.cell? ⟨b, 1, none⟩ = some (.int .i64 y) ∧ w.cell? ⟨b, 2, none⟩ = some (.int .i64 z)
def FreeAt (w : World) (b : Nat) : Prop := w.frozen? ⟨b, 0, none⟩ = false ∧ w.frozen? ⟨b, 1, none⟩ = false ∧ w.frozen? ⟨b, 2, none⟩ = false
theorem VecAt.kept {w w' : World} {b : Nat} {x y z : Int} (h : VecAt w b x y z) (hb : b < w.heap.size) (hB : Below w.heap.size w w') : VecAt w' b x y z := by
  obtain ⟨h0, h1, h2⟩ := h
  exact ⟨by rw [hB.cell (p := ⟨b, 0, none⟩) hb]; exact h0, by rw [hB.cell (p := ⟨b, 1, none⟩) hb]; exact h1, by rw [hB.cell (p := ⟨b, 2, none⟩) hb]; exact h2⟩
theorem FreeAt.kept {w w' : World} {b : Nat} (h : FreeAt w b) (hb : b < w.heap.size) (hB : Below w.heap.size w w') : FreeAt w' b := by
  obtain ⟨h0, h1, h2⟩ := h
  exact ⟨by rw [hB.frozen (p := ⟨b, 0, none⟩) hb]; exact h0, by rw [hB.frozen (p := ⟨b, 1, none⟩) hb]; exact h1, by rw [hB.frozen (p := ⟨b, 2, none⟩) hb]; exact h2⟩
theorem vecAt_new (w : World) (x y z : Int) (t : TypeId) : VecAt (w.alloc (.cells #[.int .i64 x, .int .i64 y, .int .i64 z] t)) w.heap.size x y z := by
  refine ⟨?_, ?_, ?_⟩ <;> simp
theorem freeAt_new (w : World) (x y z : Int) (t : TypeId) : FreeAt (w.alloc (.cells #[.int .i64 x, .int .i64 y, .int .i64 z] t)) w.heap.size := by
  refine ⟨?_, ?_, ?_⟩ <;> simp
theorem VecAt.alloc {w : World} {b : Nat} {x y z : Int} (h : VecAt w b x y z) (hb : b < w.heap.size) (o : Obj) : VecAt (w.alloc o) b x y z := h.kept hb (below1 _ _)
theorem below_set3 {w w1 : World} {b : Nat} (h : Below w.heap.size w w1) (hb : w.heap.size ≤ b) (x y z : Value) : Below w.heap.size w (((w1.setCell ⟨b, 0, none⟩ x).setCell ⟨b, 1, none⟩ y).setCell ⟨b, 2, none⟩ z) := ((h.setCell hb _).setCell hb _).setCell hb _
theorem below4 (w : World) (a b c d : Obj) : Below w.heap.size w ((((w.alloc a).alloc b).alloc c).alloc d) := (below3 w a b c).alloc (by simp; omega) _

end Go.Proofs.Ytmacbegchdjdnaa
