/- Two pairs held against each other: the specification's. -/
import Derived.Test.YtjdehbpgdplolaaDoorSkyI
import Derived.Test.YtjdehbpgdplolaaDoorVecK
namespace Go.Proofs.YtjdehbpgdplolaaDoor
open Go.RowKit Go.Sort
set_option linter.unusedVariables false

abbrev V3 := Int × Int × Int
/-- what the specification's cosine comparison answers -/
def cosP (a b c d : V3) : Int := cosS (dotW a.1 a.2.1 a.2.2 b.1 b.2.1 b.2.2) (dotW c.1 c.2.1 c.2.2 d.1 d.2.1 d.2.2) (wrap64 (wrap64 (dotW a.1 a.2.1 a.2.2 b.1 b.2.1 b.2.2 * dotW a.1 a.2.1 a.2.2 b.1 b.2.1 b.2.2) * wrap64 (dotW c.1 c.2.1 c.2.2 c.1 c.2.1 c.2.2 * dotW d.1 d.2.1 d.2.2 d.1 d.2.1 d.2.2))) (wrap64 (wrap64 (dotW c.1 c.2.1 c.2.2 d.1 d.2.1 d.2.2 * dotW c.1 c.2.1 c.2.2 d.1 d.2.1 d.2.2) * wrap64 (dotW a.1 a.2.1 a.2.2 a.1 a.2.1 a.2.2 * dotW b.1 b.2.1 b.2.2 b.1 b.2.1 b.2.2)))
theorem cosP_any (a b c d : V3) (w : World) : Calls Tryd.prog 59 #[vecV a, vecV b, vecV c, vecV d] w fun e w' => e = .returned (.int .i64 (cosP a b c d)) ∧ Below w.heap.size w w' :=
  l02Cos_any a.1 a.2.1 a.2.2 b.1 b.2.1 b.2.2 c.1 c.2.1 c.2.2 d.1 d.2.1 d.2.2 w
def lessC (c : Int) (p1 p2 q1 q2 : Int) : Bool := if c = 0 then (decide (p1 < q1) || (decide (p1 = q1) && decide (p2 < q2))) else decide (c < 0)
def lessB (L : List St) (n : Nat) (p1 p2 q1 q2 : Int) : Bool := lessC (cosP (atV L n p1) (atV L n p2) (atV L n q1) (atV L n q2)) p1 p2 q1 q2
def PairAt (w : World) (b : Nat) (x y : Int) : Prop := w.cell? ⟨b, 0, none⟩ = some (.int .i64 x) ∧ w.cell? ⟨b, 1, none⟩ = some (.int .i64 y)
theorem PairAt.kept {w w' : World} {b : Nat} {x y : Int} (h : PairAt w b x y) (hB : Below w.heap.size w w') : PairAt w' b x y := by
  have hb := World.block_lt_of_cell? w _ h.1
  exact ⟨by rw [hB.cell (p := ⟨b, 0, none⟩) hb]; exact h.1, by rw [hB.cell (p := ⟨b, 1, none⟩) hb]; exact h.2⟩
theorem pairAt_new (w : World) (x y : Int) (t : TypeId) : PairAt (w.alloc (.cells #[.int .i64 x, .int .i64 y] t)) w.heap.size x y := by
  constructor <;> simp

end Go.Proofs.YtjdehbpgdplolaaDoor
