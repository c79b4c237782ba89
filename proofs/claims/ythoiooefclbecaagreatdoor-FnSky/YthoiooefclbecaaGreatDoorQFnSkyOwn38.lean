/- Several texts in one: SceA. -/
import Derived.Test.YthoiooefclbecaaGreatDoorQFnSkyOwn19
import Derived.Test.YthoiooefclbecaaGreatDoorQFnSkyOwn37
import Derived.Test.YthoiooefclbecaaGreatDoorQFnSkyOwn33
import Derived.Test.YthoiooefclbecaaGreatDoorQFnSkyOwn2
import Derived.Test.YthoiooefclbecaaGreatDoorQFnSkyOwn17
namespace Go.Proofs.YthoiooefclbecaaGreatDoor
set_option linter.unusedVariables false
set_option linter.unusedSimpArgs false
set_option maxRecDepth 100000
set_option maxHeartbeats 8000000
section
open Go.RowKit Go.Sort
theorem jE {w : World} {B B' m m' n n' : Nat} {t t' : TypeId} {v v' : Value} {xs xs' : List Value} (h : w.ownsRow B t m v n xs) (h' : w.ownsRow B' t' m' v' n' xs') (ht : t ≠ t') : v.ownBlock = none ∨ v.ownBlock ≠ v'.ownBlock := by
 rcases h.2 with ⟨rfl, _⟩ | ⟨g, cap, cur, rfl, _, hg, _⟩
 ·exact .inl rfl
 ·refine .inr (fun e => ?_)
  rcases h'.2 with ⟨rfl, _⟩ | ⟨g', cap', cur', rfl, _, hg', _⟩
  ·cases e
  ·obtain rfl : g = g' := Option.some.inj e
   rw [hg] at hg'
   injection hg' with e1
   injection e1 with _ e2
   exact ht e2
structure lQ (w wr : World) (S : List D3) (a : Option Addr) (cap : Nat) (I : List Int) (a2 : Option Addr) (cap2 : Nat) : Prop where
 row : wr.ownsRow w.heap.size 33 3 (.slice a S.length cap) S.length (flL S)
 few : wr.ownsRow w.heap.size 2 1 (.slice a2 I.length cap2) I.length (fg I)
 bel : Below w.heap.size w wr
theorem lQ.below {w wr w2 : World} {S : List D3} {a a2 : Option Addr} {cap cap2 : Nat} {I : List Int} (h : lQ w wr S a cap I a2 cap2) (hx : Below wr.heap.size wr w2) : lQ w w2 S a cap I a2 cap2 :=
 ⟨dk h.row hx, dk h.few hx, ak h.bel hx⟩
theorem lQ.app {w wr w2 : World} {S : List D3} {a a2 : Option Addr} {cap cap2 : Nat} {I : List Int} {v : D3} {v' : Value} (h : lQ w wr S a cap I a2 cap2) (hg : wr.grownBy w2 (Value.slice a S.length cap).ownBlock) (hr : w2.ownsRow w.heap.size 33 3 v' (S.length + 1) (flL S ++ vcL v)) : ∃ a3 cap3, v' = .slice a3 (S.length + 1) cap3 ∧ lQ w w2 (S ++ [v]) a3 cap3 I a2 cap2 := by
 obtain ⟨a3, c3, rfl, _⟩ := em hr
 refine ⟨a3, c3, rfl, ?_, World.ownsRow.kept h.few hg (jE h.few h.row (by decide)), gP h.bel h.bel.size h.row hg⟩
 rw [← mX] at hr
 rw [show (S ++ [v]).length = S.length + 1 by simp]
 exact hr
theorem lQ.add {w wr w2 : World} {S : List D3} {a a2 : Option Addr} {cap cap2 : Nat} {I : List Int} {x : Int} {v' : Value} (h : lQ w wr S a cap I a2 cap2) (hg : wr.grownBy w2 (Value.slice a2 I.length cap2).ownBlock) (hr : w2.ownsRow w.heap.size 2 1 v' (I.length + 1) (fg I ++ [.int .i64 x])) : ∃ a3 cap3, v' = .slice a3 (I.length + 1) cap3 ∧ lQ w w2 S a cap (I ++ [x]) a3 cap3 := by
 obtain ⟨a3, c3, rfl, _⟩ := em hr
 refine ⟨a3, c3, rfl, World.ownsRow.kept h.row hg (jE h.row h.few (by decide)), ?_, gP h.bel h.bel.size h.few hg⟩
 rw [show (I ++ [x]).length = I.length + 1 by simp, show fg (I ++ [x]) = fg I ++ [.int .i64 x] by simp [fg]]
 exact hr
theorem sC (L : List St) (a b c d cone : Int) : (dM L a b c d cone).length ≤ 12 := by
 unfold dM
 split
 ·rename_i h
  rw [Bool.and_eq_true, Bool.and_eq_true] at h
  have := gy L a b c d cone L.length
  have := (aQ h.1.1).1
  omega
 ·simp
end
end Go.Proofs.YthoiooefclbecaaGreatDoor
