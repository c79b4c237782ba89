/- Plain facts on lists of spots: whether they are right; nothing of the program in them. -/
import Derived.Test.YtnffnjljjecphaaDoorVecMath
namespace Go.Proofs.YtnffnjljjecphaaDoor
open Go.RowKit
set_option linter.unusedVariables false

/-- a direction: X, Y and Z -/
abbrev D3 := Int × Int × Int
def vA (L : List D3) (i : Nat) : D3 := L.getD i (0, 0, 0)
def wideD (v : D3) : Bool := wideB v.1 v.2.1 v.2.2
def sameD (p q : D3) : Bool := sameB p.1 p.2.1 p.2.2 q.1 q.2.1 q.2.2
def amongB (L : List D3) (v : D3) (n : Nat) : Bool := (List.range n).any fun j => sameD v (vA L j)
def asideTo (L : List D3) (v : D3) (k : Nat) : Prop := ∀ j, j < k → sameD v (vA L j) = false
def okV (L : List D3) (i : Nat) : Bool := wideD (vA L i) && !amongB L (vA L i) i
def okVTo (L : List D3) (k : Nat) : Prop := ∀ j, j < k → okV L j = true
def spotsB (L : List D3) : Bool := decide (L.length ≤ 6) && (List.range L.length).all (okV L)

theorem among_no {L : List D3} {v : D3} {n : Nat} (h : asideTo L v n) : amongB L v n = false := by
  unfold amongB
  rw [List.any_eq_false]
  intro j hj
  rw [h j (List.mem_range.1 hj)]
  simp
theorem among_yes {L : List D3} {v : D3} {n j : Nat} (hj : j < n) (h : sameD v (vA L j) = true) : amongB L v n = true := by
  unfold amongB
  rw [List.any_eq_true]
  exact ⟨j, List.mem_range.2 hj, h⟩
theorem aside_step {L : List D3} {v : D3} {k : Nat} (h : asideTo L v k) (h1 : sameD v (vA L k) = false) : asideTo L v (k + 1) := by
  intro j hj
  by_cases e : j = k
  · rw [e]; exact h1
  · exact h j (by omega)
theorem okV_step {L : List D3} {k : Nat} (h : okVTo L k) (h1 : okV L k = true) : okVTo L (k + 1) := by
  intro j hj
  by_cases e : j = k
  · rw [e]; exact h1
  · exact h j (by omega)
theorem spots_yes {L : List D3} (hl : L.length ≤ 6) (h : okVTo L L.length) : spotsB L = true := by
  unfold spotsB
  rw [Bool.and_eq_true, List.all_eq_true]
  exact ⟨by simpa using hl, fun j hj => h j (List.mem_range.1 hj)⟩
theorem spots_no {L : List D3} {k : Nat} (hk : k < L.length) (h : okV L k = false) : spotsB L = false := by
  unfold spotsB
  have : (List.range L.length).all (okV L) = false := by
    rw [List.all_eq_false]
    exact ⟨k, List.mem_range.2 hk, by rw [h]; simp⟩
  rw [this, Bool.and_false]
theorem spots_long {L : List D3} (hl : 6 < L.length) : spotsB L = false := by
  unfold spotsB
  rw [show decide (L.length ≤ 6) = false by simp; omega, Bool.false_and]
theorem spots_ok {L : List D3} (h : spotsB L = true) : L.length ≤ 6 ∧ okVTo L L.length := by
  unfold spotsB at h
  rw [Bool.and_eq_true, List.all_eq_true] at h
  exact ⟨by simpa using h.1, fun j hj => h.2 j (List.mem_range.2 hj)⟩
theorem okV_wide {L : List D3} {i : Nat} (h : okV L i = true) : wideD (vA L i) = true := by
  unfold okV at h
  rw [Bool.and_eq_true] at h
  exact h.1
theorem wide_iff {x y z : Int} (h : wideB x y z = true) : rightB x y z = true ∧ withinB 1800 x y z = true := by simpa [wideB] using h
/-- on directions of parts to a million it does not matter which is first -/
theorem same_turned {a1 a2 a3 b1 b2 b3 : Int} (ra : rightB a1 a2 a3 = true) (rb : rightB b1 b2 b3 = true) : sameB a1 a2 a3 b1 b2 b3 = sameB b1 b2 b3 a1 a2 a3 := by
  obtain ⟨⟨x1, x2, x3⟩, _⟩ := rightB_iff.1 ra
  obtain ⟨⟨y1, y2, y3⟩, _⟩ := rightB_iff.1 rb
  have e1 := crW_eq x2 x3 y2 y3 (by omega)
  have e2 := crW_eq x3 x1 y3 y1 (by omega)
  have e3 := crW_eq x1 x2 y1 y2 (by omega)
  have f1 := crW_eq y2 y3 x2 x3 (by omega)
  have f2 := crW_eq y3 y1 x3 x1 (by omega)
  have f3 := crW_eq y1 y2 x1 x2 (by omega)
  unfold sameB
  rw [ra, rb, e1.1, e2.1, e3.1, f1.1, f2.1, f3.1, dotW_comm]
  congr 2
  unfold zeroB
  rw [Int.mul_comm b2, Int.mul_comm b3 a2, Int.mul_comm b3 a1, Int.mul_comm b1 a3, Int.mul_comm b1 a2, Int.mul_comm b2 a1]
  congr 1
  apply propext
  constructor <;> rintro ⟨h1, h2, h3⟩ <;> exact ⟨by omega, by omega, by omega⟩
theorem sameD_turned {p q : D3} (hp : wideD p = true) (hq : wideD q = true) : sameD p q = sameD q p := same_turned (wide_iff hp).1 (wide_iff hq).1
end Go.Proofs.YtnffnjljjecphaaDoor
