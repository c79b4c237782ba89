/- The greatest shared number, and Prime: the program's and the specification's. -/
import Derived.Test.YtijpnnooenpjoalVecD
import Derived.Deep.QuietTactic
import Derived.BigQuiet
import Derived.BigRegion
namespace Go.Proofs.Ytijpnnooenpjoal
open Go.RowKit
set_option linter.unusedVariables false

theorem rem_fits {a b : Int} (h : b ≠ 0) (hb : -1000000 ≤ b ∧ b ≤ 1000000) : wrap64 (a.tmod b) = a.tmod b ∧ -1000000 ≤ a.tmod b ∧ a.tmod b ≤ 1000000 := by
  have := tmod_lt a b h
  have h2 : -1000000 ≤ a.tmod b ∧ a.tmod b ≤ 1000000 := by omega
  exact ⟨wrap_id (by omega) (by omega), h2⟩

theorem below_drewN (w : World) (n : Nat) : Below w.heap.size w (w.drewN n) := ⟨rfl, rfl, rfl, Nat.le_refl _, fun _ _ => rfl⟩

end Go.Proofs.Ytijpnnooenpjoal
