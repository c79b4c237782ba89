/- Several texts in one: ModA. -/
import Derived.Test.YtoakkmjcbnfljaaGreatDoorQFnIdentOwn13
import Derived.Test.YtoakkmjcbnfljaaGreatDoorQFnIdentOwn3
import Derived.Test.YtoakkmjcbnfljaaGreatDoorQFnIdentOwn17
namespace Go.Proofs.YtoakkmjcbnfljaaGreatDoor
set_option linter.unusedVariables false
set_option linter.unusedSimpArgs false
set_option maxRecDepth 100000
set_option maxHeartbeats 8000000
section
open Go.RowKit Go.Sort
def jZ (w : World) (b : Nat) (v : Value) (lim mode A B C D coast fr : Int) : Prop := w.cell? ⟨b, 0, none⟩ = some v ∧ w.cell? ⟨b, 1, none⟩ = some (.int .i64 lim) ∧ w.cell? ⟨b, 2, none⟩ = some (.int .i64 mode) ∧ w.cell? ⟨b, 3, none⟩ = some (.int .i64 A) ∧ w.cell? ⟨b, 4, none⟩ = some (.int .i64 B) ∧ w.cell? ⟨b, 5, none⟩ = some (.int .i64 C) ∧ w.cell? ⟨b, 6, none⟩ = some (.int .i64 D) ∧ w.cell? ⟨b, 7, none⟩ = some (.int .i64 coast) ∧ w.cell? ⟨b, 8, none⟩ = some (.int .i64 fr)
theorem hZ {w w' : World} {a : Addr} {v : Value} (h : w.cell? a = some v) (hB : Below w.heap.size w w') : w'.cell? a = some v := (hB.cell (World.block_lt_of_cell? w a h)).trans h
theorem jZ.kept {w w' : World} {b : Nat} {v : Value} {lim mode A B C D coast fr : Int} (h : jZ w b v lim mode A B C D coast fr) (hB : Below w.heap.size w w') : jZ w' b v lim mode A B C D coast fr := by
 obtain ⟨h0, h1, h2, h3, h4, h5, h6, h7, h8⟩ := h
 exact ⟨hZ h0 hB, hZ h1 hB, hZ h2 hB, hZ h3 hB, hZ h4 hB, hZ h5 hB, hZ h6 hB, hZ h7 hB, hZ h8 hB⟩
theorem jZ.lt {w : World} {b : Nat} {v : Value} {lim mode A B C D coast fr : Int} (h : jZ w b v lim mode A B C D coast fr) : b < w.heap.size := World.block_lt_of_cell? w _ h.1
end
end Go.Proofs.YtoakkmjcbnfljaaGreatDoor
