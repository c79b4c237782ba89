/- TurnOf: the specification's. -/
import Derived.Test.YtnffnjljjecphaaDoorTurnD
namespace Go.Proofs.YtnffnjljjecphaaDoor
open Go.RowKit Go.Sort
set_option linter.unusedVariables false

theorem wrapQ {a b c d : Int} (h : inT 1000 a b c d = true) (g : Int) (hg : g = sT a b c d) : wrap64 (a.tdiv g) = a.tdiv (sT a b c d) ∧ wrap64 (b.tdiv g) = b.tdiv (sT a b c d) ∧ wrap64 (c.tdiv g) = c.tdiv (sT a b c d) ∧ wrap64 (d.tdiv g) = d.tdiv (sT a b c d) := by
  subst hg
  obtain ⟨x1, x2, x3, x4⟩ := inT_iff.1 h
  have key : ∀ (x s : Int), -1000 ≤ x ∧ x ≤ 1000 → wrap64 (x.tdiv s) = x.tdiv s := fun x s hx => by have := tdiv_le (s := s) hx; exact wrap_id (by omega) (by omega)
  exact ⟨key _ _ x1, key _ _ x2, key _ _ x3, key _ _ x4⟩

end Go.Proofs.YtnffnjljjecphaaDoor
