/- What the least of the functions on directions answer: the parts in a row, whether each is within a bound, whether a direction is right, the sum of the products: the program's and the specification's. -/
import Derived.Test.YtackifnnhjbgbaaChecked
import Derived.Test.YtackifnnhjbgbaaPlain
import Derived.Test.YtackifnnhjbgbaaVecMath
import Derived.WalkKit
import Derived.Below
import Derived.Laws.StructEq
import Derived.WalkLawsBesides
namespace Go.Proofs.Ytackifnnhjbgbaa
open Go.RowKit
set_option linter.unusedVariables false

theorem below1 (w : World) (a : Obj) : Below w.heap.size w (w.alloc a) := (Below.refl _ _).alloc (Nat.le_refl _) _
theorem below2 (w : World) (a b : Obj) : Below w.heap.size w ((w.alloc a).alloc b) := (below1 w a).alloc (by simp) _
theorem below3 (w : World) (a b c : Obj) : Below w.heap.size w (((w.alloc a).alloc b).alloc c) := (below2 w a b).alloc (by simp; omega) _

theorem below_call {w w1 w2 : World} (h : Below w.heap.size w w1) (h2 : Below w1.heap.size w1 w2) : Below w.heap.size w w2 := h.trans (h2.mono h.size)

set_option maxRecDepth 100000 in
theorem l02Is_any (n lo hi : Int) (w : World) :
    Calls Try.prog 25 #[.int .i64 n, .int .i64 lo, .int .i64 hi] w fun e w' => e = .returned (.bool (decide (lo ≤ n) && decide (n ≤ hi))) ∧ w' = w := by
  by_cases h : lo ≤ n
  · go_enter Try.func25, Try.ntmps25
    go_wp2
    go_ret
    exact ⟨by simp [h], rfl⟩
  · go_enter Try.func25, Try.ntmps25
    go_wp2
    go_ret
    exact ⟨by simp; omega, rfl⟩
end Go.Proofs.Ytackifnnhjbgbaa
