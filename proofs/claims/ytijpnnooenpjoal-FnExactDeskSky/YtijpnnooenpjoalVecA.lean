/- What the least of the functions on directions answer: the parts in a row, whether each is within a bound, whether a direction is right, the sum of the products: the program's and the specification's. -/
import Derived.Test.YtijpnnooenpjoalChecked
import Derived.Test.YtijpnnooenpjoalPlain
import Derived.Test.YtijpnnooenpjoalVecMath
import Derived.WalkKit
import Derived.Below
import Derived.Laws.StructEq
import Derived.WalkLawsBesides
namespace Go.Proofs.Ytijpnnooenpjoal
open Go.RowKit
set_option linter.unusedVariables false

theorem below1 (w : World) (a : Obj) : Below w.heap.size w (w.alloc a) := (Below.refl _ _).alloc (Nat.le_refl _) _
theorem below2 (w : World) (a b : Obj) : Below w.heap.size w ((w.alloc a).alloc b) := (below1 w a).alloc (by simp) _
theorem below3 (w : World) (a b c : Obj) : Below w.heap.size w (((w.alloc a).alloc b).alloc c) := (below2 w a b).alloc (by simp; omega) _

theorem below_call {w w1 w2 : World} (h : Below w.heap.size w w1) (h2 : Below w1.heap.size w1 w2) : Below w.heap.size w w2 := h.trans (h2.mono h.size)

end Go.Proofs.Ytijpnnooenpjoal
