/- Several texts in one: FrF. -/
import Derived.Deep.RegionHeld
import Derived.Deep.DeepCutAuto
import Derived.Test.YtackifnnhjbgbaaQFnFrameOwn29
namespace Go.Proofs.Ytackifnnhjbgbaa
set_option linter.unusedVariables false
set_option linter.unusedSimpArgs false
set_option maxRecDepth 100000
set_option maxHeartbeats 8000000
section
open Go.RowKit Go.Sort
theorem gt (w1 h1 : Int) (f : ByteArray) (w2 h2 : Int) (d : ByteArray) : ∃ (x y z : Int) (s : ByteArray), bw w1 h1 f w2 h2 d = .agg #[.int .i64 x, .int .i64 y, .string s, .int .i64 z] := by
 unfold bw
 split
 ·exact ⟨_, _, _, _, rfl⟩
 ·exact ⟨_, _, _, _, rfl⟩
theorem SAt.c4 {w : World} {b : Nat} {x y z u : Value} (h : SAt w b [x, y, z, u]) : w.cell? ⟨b, 0, none⟩ = some x ∧ w.cell? ⟨b, 1, none⟩ = some y ∧ w.cell? ⟨b, 2, none⟩ = some z ∧ w.cell? ⟨b, 3, none⟩ = some u := ⟨h 0 x rfl, h 1 y rfl, h 2 z rfl, h 3 u rfl⟩
end
end Go.Proofs.Ytackifnnhjbgbaa
