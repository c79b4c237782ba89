/- Whether a turn is right, as the specification says it: the bound on each part, the first part that is not 0, the greatest number that divides all. -/
import Derived.Test.YtjdehbpgdplolaaDoorTurnA
import Derived.Deep.QuietTactic
import Derived.BigQuiet
namespace Go.Proofs.YtjdehbpgdplolaaDoor
open Go.RowKit
set_option linter.unusedVariables false

theorem fT_0 {a b c d : Int} (h : a ≠ 0) : fT a b c d = a := by unfold fT; rw [if_pos h]
theorem fT_1 {b c d : Int} (h : b ≠ 0) : fT 0 b c d = b := by unfold fT; rw [if_neg (by simp), if_pos h]
theorem fT_2 {c d : Int} (h : c ≠ 0) : fT 0 0 c d = c := by unfold fT; rw [if_neg (by simp), if_neg (by simp), if_pos h]
theorem fT_3 {d : Int} : fT 0 0 0 d = d := by unfold fT; rw [if_neg (by simp), if_neg (by simp), if_neg (by simp)]

end Go.Proofs.YtjdehbpgdplolaaDoor
