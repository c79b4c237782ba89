/- Named: the specification's. -/
import Derived.Test.YtjdehbpgdplolaaDoorNaD
namespace Go.Proofs.YtjdehbpgdplolaaDoor
open Go.RowKit Go.Sort
set_option linter.unusedVariables false

theorem named_is {L : List St} {S : List D3} {ids : List Int} (h1 : skyB L = true) (h2 : spotsB S = true) : (decide (ids.length = S.length) && namedI L S ids ids.length) = namedB L S ids := by
  unfold namedB
  rw [h1, h2, named_eq]
  rfl
theorem named_long {L : List St} {S : List D3} {ids : List Int} (h : 6 < ids.length) : namedB L S ids = false := by
  cases h2 : spotsB S
  · exact named_no2 h2
  · exact named_no3 (by have := (spots_ok h2).1; omega)
end Go.Proofs.YtjdehbpgdplolaaDoor
