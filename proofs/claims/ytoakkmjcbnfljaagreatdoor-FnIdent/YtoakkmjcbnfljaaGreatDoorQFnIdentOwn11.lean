/- Several texts in one: IeV. -/
import Derived.Test.YtoakkmjcbnfljaaGreatDoorQFnIdentOwn10
import Derived.Test.YtoakkmjcbnfljaaGreatDoorQFnIdentOwn4
import Derived.Test.YtoakkmjcbnfljaaGreatDoorQFnIdentOwn3
import Derived.Test.YtoakkmjcbnfljaaGreatDoorQFnIdentOwn5
namespace Go.Proofs.YtoakkmjcbnfljaaGreatDoor
set_option linter.unusedVariables false
set_option linter.unusedSimpArgs false
set_option maxRecDepth 100000
set_option maxHeartbeats 8000000
section
open Go.RowKit Go.Sort
theorem jg (F : List Int → Int → Bool) (A : List Int) : ∀ (r : Nat) (ids l : List Int), l ∈ cg F A r ids → l.length = ids.length + r
 | 0, ids, l, h => by
  simp only [cg, List.mem_singleton] at h
  subst h
  omega
 | r + 1, ids, l, h => by
  simp only [cg, List.mem_append, List.mem_flatMap] at h
  rcases h with ⟨a, _, h⟩ | h
  ·have := jg F A r _ l h
   rw [List.length_append] at this
   simp at this
   omega
  ·have := jg F A r _ l h
   rw [List.length_append] at this
   simp at this
   omega
end
end Go.Proofs.YtoakkmjcbnfljaaGreatDoor
