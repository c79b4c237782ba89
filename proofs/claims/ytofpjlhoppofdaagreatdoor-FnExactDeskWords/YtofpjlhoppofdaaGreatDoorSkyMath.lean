/- Plain facts on lists of stars: whether a list is right; nothing of the program in them. -/
import Derived.Test.YtofpjlhoppofdaaGreatDoorVecMath
namespace Go.Proofs.YtofpjlhoppofdaaGreatDoor
open Go.RowKit
set_option linter.unusedVariables false

/-- a star: its Id, X, Y and Z -/
abbrev St := Int × Int × Int × Int
def stC (s : St) : List Value := [.int .i64 s.1, .int .i64 s.2.1, .int .i64 s.2.2.1, .int .i64 s.2.2.2]
def stA (L : List St) (i : Nat) : St := L.getD i (0, 0, 0, 0)
def idB (n : Int) : Bool := decide (1 ≤ n) && decide (n ≤ 9999)
def upB (L : List St) (i : Nat) : Bool := decide (i = 0) || decide ((stA L (i - 1)).1 < (stA L i).1)
def eqI (a1 a2 a3 b1 b2 b3 : Int) : Bool := decide (a1 = b1 ∧ a2 = b2 ∧ a3 = b3)
def primeB (x y z : Int) : Bool := eqI x y z (prI (rightB x y z) (gI x y z) x) (prI (rightB x y z) (gI x y z) y) (prI (rightB x y z) (gI x y z) z)
def sameS (p q : St) : Bool := sameB p.2.1 p.2.2.1 p.2.2.2 q.2.1 q.2.2.1 q.2.2.2
def freeTo (L : List St) (s : St) (k : Nat) : Prop := ∀ j, j < k → sameS s (stA L j) = false
def takenB (L : List St) (s : St) (n : Nat) : Bool := (List.range n).any fun j => sameS s (stA L j)
def okAt (L : List St) (i : Nat) : Bool :=
  idB (stA L i).1 && upB L i && (smallB (stA L i).2.1 (stA L i).2.2.1 (stA L i).2.2.2 && primeB (stA L i).2.1 (stA L i).2.2.1 (stA L i).2.2.2) && !takenB L (stA L i) i
def okTo (L : List St) (k : Nat) : Prop := ∀ j, j < k → okAt L j = true
def skyB (L : List St) : Bool := decide (L.length ≤ 12) && (List.range L.length).all (okAt L)

theorem taken_no {L : List St} {s : St} {n : Nat} (h : freeTo L s n) : takenB L s n = false := by
  unfold takenB
  rw [List.any_eq_false]
  intro j hj
  rw [h j (List.mem_range.1 hj)]
  simp
theorem taken_yes {L : List St} {s : St} {n j : Nat} (hj : j < n) (h : sameS s (stA L j) = true) : takenB L s n = true := by
  unfold takenB
  rw [List.any_eq_true]
  exact ⟨j, List.mem_range.2 hj, h⟩
theorem free_step {L : List St} {s : St} {k : Nat} (h : freeTo L s k) (h1 : sameS s (stA L k) = false) : freeTo L s (k + 1) := by
  intro j hj
  by_cases e : j = k
  · rw [e]; exact h1
  · exact h j (by omega)
theorem ok_step {L : List St} {k : Nat} (h : okTo L k) (h1 : okAt L k = true) : okTo L (k + 1) := by
  intro j hj
  by_cases e : j = k
  · rw [e]; exact h1
  · exact h j (by omega)
theorem sky_yes {L : List St} (hl : L.length ≤ 12) (h : okTo L L.length) : skyB L = true := by
  unfold skyB
  rw [Bool.and_eq_true, List.all_eq_true]
  exact ⟨by simpa using hl, fun j hj => h j (List.mem_range.1 hj)⟩
theorem sky_no {L : List St} {k : Nat} (hk : k < L.length) (h : okAt L k = false) : skyB L = false := by
  unfold skyB
  have : (List.range L.length).all (okAt L) = false := by
    rw [List.all_eq_false]
    exact ⟨k, List.mem_range.2 hk, by rw [h]; simp⟩
  rw [this, Bool.and_false]
theorem sky_long {L : List St} (hl : 12 < L.length) : skyB L = false := by
  unfold skyB
  rw [show decide (L.length ≤ 12) = false by simp; omega, Bool.false_and]
theorem sky_ok {L : List St} (h : skyB L = true) : L.length ≤ 12 ∧ okTo L L.length := by
  unfold skyB at h
  rw [Bool.and_eq_true, List.all_eq_true] at h
  exact ⟨by simpa using h.1, fun j hj => h.2 j (List.mem_range.2 hj)⟩

theorem ok_small {L : List St} {i : Nat} (h : okAt L i = true) : smallB (stA L i).2.1 (stA L i).2.2.1 (stA L i).2.2.2 = true := by
  unfold okAt at h
  simp only [Bool.and_eq_true] at h
  exact h.1.2.1

theorem small_iff {x y z : Int} (h : smallB x y z = true) : rightB x y z = true ∧ withinB 10 x y z = true := by simpa [smallB] using h

/-- on small directions it does not matter which is first -/
theorem sameB_comm {a1 a2 a3 b1 b2 b3 : Int} (ha : smallB a1 a2 a3 = true) (hb : smallB b1 b2 b3 = true) : sameB a1 a2 a3 b1 b2 b3 = sameB b1 b2 b3 a1 a2 a3 := by
  obtain ⟨ra, wa⟩ := small_iff ha
  obtain ⟨rb, wb⟩ := small_iff hb
  obtain ⟨x1, x2, x3⟩ := withinB_iff.1 wa
  obtain ⟨y1, y2, y3⟩ := withinB_iff.1 wb
  have e1 := crW_eq x2 x3 y2 y3 (by omega)
  have e2 := crW_eq x3 x1 y3 y1 (by omega)
  have e3 := crW_eq x1 x2 y1 y2 (by omega)
  have f1 := crW_eq y2 y3 x2 x3 (by omega)
  have f2 := crW_eq y3 y1 x3 x1 (by omega)
  have f3 := crW_eq y1 y2 x1 x2 (by omega)
  unfold sameB
  rw [ra, rb, e1.1, e2.1, e3.1, f1.1, f2.1, f3.1, dotW_comm]
  congr 2
  unfold zeroB
  rw [Int.mul_comm b2, Int.mul_comm b3 a2, Int.mul_comm b3 a1, Int.mul_comm b1 a3, Int.mul_comm b1 a2, Int.mul_comm b2 a1]
  congr 1
  apply propext
  constructor <;> rintro ⟨h1, h2, h3⟩ <;> exact ⟨by omega, by omega, by omega⟩
/-- what the specification asks of two directions that are right -/
theorem same_eq {a1 a2 a3 b1 b2 b3 : Int} (ha : smallB a1 a2 a3 = true) (hb : smallB b1 b2 b3 = true) :
    (eqI (crW a2 a3 b2 b3) (crW a3 a1 b3 b1) (crW a1 a2 b1 b2) 0 0 0 && decide (0 < dotW a1 a2 a3 b1 b2 b3)) = sameB a1 a2 a3 b1 b2 b3 := by
  unfold sameB
  rw [(small_iff ha).1, (small_iff hb).1]
  rfl
end Go.Proofs.YtofpjlhoppofdaaGreatDoor
