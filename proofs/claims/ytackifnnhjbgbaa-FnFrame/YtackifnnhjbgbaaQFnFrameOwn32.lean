/- Several texts in one: FnFrameBig. -/
import Derived.Test.YtackifnnhjbgbaaQFnFrameOwn31
namespace Go.Proofs.Ytackifnnhjbgbaa
set_option linter.unusedVariables false
set_option linter.unusedSimpArgs false
set_option maxRecDepth 100000
set_option maxHeartbeats 8000000
section
open Go.RowKit
theorem fP (a0 a1 : Option Addr) (len0 cap0 len1 cap1 : Nat) (w : World) (h0 : len0 ≤ 9223372036854775807) (h1 : len1 ≤ 9223372036854775807) (h : 1048576 < len0 ∨ 1048576 < len1) :
  Calls Try.prog 4 #[.slice a0 len0 cap0, .slice a1 len1 cap1] w fun e w' => e = .returned (.bool true) ∧ Below w.heap.size w w' := by
 have h' : 1048576 < len0 ∨ (len0 ≤ 1048576 ∧ 1048576 < len1) := by omega
 rcases h' with h | h
 all_goals
  go_enter Try.func4, Try.ntmps4
  go_wp2
  go_ret
  exact ⟨rfl, Below.refl _ _⟩
end
end Go.Proofs.Ytackifnnhjbgbaa
