/- The law on spots, where a row is too long: it answers true at once. -/
import Derived.Test.YtmacbegchdjdnaaFnSpotA
namespace Go.Proofs.Ytmacbegchdjdnaa
open Go.RowKit
set_option linter.unusedVariables false

set_option maxHeartbeats 1000000 in
set_option maxRecDepth 100000 in
theorem fnSpot_big (a0 a1 : Option Addr) (len0 cap0 len1 cap1 : Nat) (w : World) (h0 : len0 ≤ 9223372036854775807) (h1 : len1 ≤ 9223372036854775807) (h : 1048576 < len0 ∨ 1048576 < len1) :
    Calls Try.prog 4 #[.slice a0 len0 cap0, .slice a1 len1 cap1] w fun e w' => e = .returned (.bool true) ∧ Below w.heap.size w w' := by
  have h' : 1048576 < len0 ∨ (len0 ≤ 1048576 ∧ 1048576 < len1) := by omega
  rcases h' with h | h
  all_goals
    go_enter Try.func4, Try.ntmps4
    go_wp2
    go_ret
    exact ⟨rfl, Below.refl _ _⟩
end Go.Proofs.Ytmacbegchdjdnaa
