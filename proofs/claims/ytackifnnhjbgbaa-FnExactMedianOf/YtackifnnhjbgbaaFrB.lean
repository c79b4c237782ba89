/- The laws on FrameRight and BlobGood, walked. -/
import Derived.Test.YtackifnnhjbgbaaFrA
namespace Go.Proofs.Ytackifnnhjbgbaa
open Go.RowKit Go.Sort
set_option linter.unusedVariables false

/-- the cells vs lie at block b, from its first cell on -/
def SAt (w : World) (b : Nat) (vs : List Value) : Prop := ∀ i v, vs[i]? = some v → w.cell? ⟨b, i, none⟩ = some v
theorem SAt.lt {w : World} {b : Nat} {v : Value} {vs : List Value} (h : SAt w b (v :: vs)) : b < w.heap.size := World.block_lt_of_cell? w _ (h 0 v rfl)
theorem SAt.kept {w w' : World} {b : Nat} {v : Value} {vs : List Value} (h : SAt w b (v :: vs)) (hB : Below w.heap.size w w') : SAt w' b (v :: vs) := fun i u hu => by
  rw [hB.cell (p := ⟨b, i, none⟩) h.lt]; exact h i u hu
theorem sAt_new (w : World) (vs : List Value) (t : TypeId) : SAt (w.alloc (.cells vs.toArray t)) w.heap.size vs := fun i u hu => by
  simp [hu]
theorem SAt.c3 {w : World} {b : Nat} {x y z : Value} (h : SAt w b [x, y, z]) : w.cell? ⟨b, 0, none⟩ = some x ∧ w.cell? ⟨b, 1, none⟩ = some y ∧ w.cell? ⟨b, 2, none⟩ = some z := ⟨h 0 x rfl, h 1 y rfl, h 2 z rfl⟩
theorem SAt.c5 {w : World} {b : Nat} {x y z u v : Value} (h : SAt w b [x, y, z, u, v]) : w.cell? ⟨b, 0, none⟩ = some x ∧ w.cell? ⟨b, 1, none⟩ = some y ∧ w.cell? ⟨b, 2, none⟩ = some z ∧ w.cell? ⟨b, 3, none⟩ = some u ∧ w.cell? ⟨b, 4, none⟩ = some v := ⟨h 0 x rfl, h 1 y rfl, h 2 z rfl, h 3 u rfl, h 4 v rfl⟩
theorem neq_bool_self (b : Bool) (w : World) : (binOp .neq 4 (.bool b) (.bool b)).run Try.prog w = .ok (.bool false) w := by cases b <;> simp [go_sem]

end Go.Proofs.Ytackifnnhjbgbaa
