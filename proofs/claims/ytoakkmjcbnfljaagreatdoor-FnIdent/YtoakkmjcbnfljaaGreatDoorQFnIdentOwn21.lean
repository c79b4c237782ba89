/- Several texts in one: ModD. -/
import Derived.Deep.RegionHeld
import Derived.Deep.DeepCutAuto
import Derived.Test.YtoakkmjcbnfljaaGreatDoorQFnIdentOwn19
import Derived.Test.YtoakkmjcbnfljaaGreatDoorQFnIdentOwn20
namespace Go.Proofs.YtoakkmjcbnfljaaGreatDoor
set_option linter.unusedVariables false
set_option linter.unusedSimpArgs false
set_option maxRecDepth 100000
set_option maxHeartbeats 8000000
section
open Go.RowKit Go.Sort
def iD (w : World) (b : Nat) : Prop := ∀ i, w.frozen? ⟨b, i, none⟩ = false
theorem iD.kept {w w' : World} {b : Nat} (h : iD w b) (hb : b < w.heap.size) (hB : Below w.heap.size w w') : iD w' b := fun i => (hB.frozen (p := ⟨b, i, none⟩) hb).trans (h i)
theorem iD.set {w : World} {b : Nat} (h : iD w b) (p : Addr) (v : Value) : iD (w.setCell p v) b := fun i => by rw [World.frozen?_setCell]; exact h i
theorem jY.far {w : World} {b n k : Nat} {L : List St} (h : jY w b n L k) {b' : Nat} (hne : b ≠ b') (o : Nat) (x : Value) : jY (w.setCell ⟨b', o, none⟩ x) b n L k := by
 obtain ⟨cur, hc, r⟩ := h
 exact ⟨cur, by rw [Below.heap_setCell w ⟨b', o, none⟩ x b hne]; exact hc, r⟩
theorem jZ.far {w : World} {b : Nat} {v : Value} {lim mode A B C D coast fr : Int} (h : jZ w b v lim mode A B C D coast fr) {b' : Nat} (hne : b ≠ b') (o : Nat) (x : Value) : jZ (w.setCell ⟨b', o, none⟩ x) b v lim mode A B C D coast fr := by
 obtain ⟨h0, h1, h2, h3, h4, h5, h6, h7, h8⟩ := h
 refine ⟨?_, ?_, ?_, ?_, ?_, ?_, ?_, ?_, ?_⟩ <;> (rw [World.cell?_setCell_far _ _ _ _ (Ne.symm hne)]; assumption)
end
end Go.Proofs.YtoakkmjcbnfljaaGreatDoor
