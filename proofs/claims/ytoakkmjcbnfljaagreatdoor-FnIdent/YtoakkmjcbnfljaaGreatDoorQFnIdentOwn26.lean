/- Several texts in one: Src2. -/
import Derived.Test.YtoakkmjcbnfljaaGreatDoorQFnIdentOwn25
import Derived.Test.YtoakkmjcbnfljaaGreatDoorQFnIdentOwn1
namespace Go.Proofs.YtoakkmjcbnfljaaGreatDoor
set_option linter.unusedVariables false
set_option linter.unusedSimpArgs false
set_option maxRecDepth 100000
set_option maxHeartbeats 8000000
section
open Go.RowKit
theorem dN (w w1 : World) (b : Nat) (T : TypeId) (cs : Array Value) (hg : (w.alloc (.cells cs T)).grownBy w1 (some b)) (hb : b < w.heap.size) (k : Nat) (v : Value) (hv : cs[k]? = some v) :
  w1.cell? ⟨w.heap.size, k, none⟩ = some v := by
 refine hg.cell ?_ (by intro e; have := Option.some.inj e; simp at this; omega)
 simp [hv]
end
end Go.Proofs.YtoakkmjcbnfljaaGreatDoor
