/- l04Pairs: plain facts on putting in from behind, and the specification's walk. -/
import Derived.Test.YtjdehbpgdplolaaDoorPairA
import Derived.Test.YtjdehbpgdplolaaDoorPlace
import Derived.OwnWalk
import Derived.Laws.OwnMore
namespace Go.Proofs.YtjdehbpgdplolaaDoor
open Go.RowKit Go.Sort
set_option linter.unusedVariables false

abbrev P2 := Int × Int
def prA (O : List P2) (i : Nat) : P2 := O.getD i (0, 0)
/-- from k down, past all that p is ahead of -/
def backK (f : P2 → P2 → Bool) (p : P2) (O : List P2) : Nat → Nat
  | 0 => 0
  | k + 1 => if f p (prA O k) = true then backK f p O k else k + 1
theorem backK_le (f : P2 → P2 → Bool) (p : P2) (O : List P2) : ∀ k, backK f p O k ≤ k
  | 0 => Nat.le_refl _
  | k + 1 => by unfold backK; split <;> have := backK_le f p O k <;> omega
def insP (f : P2 → P2 → Bool) (p : P2) (O : List P2) : List P2 := O.take (backK f p O O.length) ++ [p] ++ O.drop (backK f p O O.length)
theorem insP_len (f : P2 → P2 → Bool) (p : P2) (O : List P2) : (insP f p O).length = O.length + 1 := by
  have := backK_le f p O O.length
  unfold insP
  simp
  omega
def lessP (L : List St) (p q : P2) : Bool := lessB L L.length p.1 p.2 q.1 q.2
def rowP (L : List St) (O : List P2) (i : Nat) : Nat → List P2
  | 0 => O
  | m + 1 => insP (lessP L) ((stA L i).1, (stA L (i + 1 + m)).1) (rowP L O i m)
def allP (L : List St) : Nat → List P2
  | 0 => []
  | i + 1 => rowP L (allP L i) i (L.length - (i + 1))
theorem rowP_len (L : List St) (O : List P2) (i : Nat) : ∀ m, (rowP L O i m).length = O.length + m
  | 0 => rfl
  | m + 1 => by rw [rowP, insP_len, rowP_len L O i m]; omega
theorem allP_len (L : List St) (h : L.length ≤ 12) : ∀ i, i ≤ L.length → (allP L i).length ≤ 12 * i
  | 0, _ => Nat.le_refl _
  | i + 1, hi => by rw [allP, rowP_len]; have := allP_len L h i (by omega); omega
def prC (p : P2) : List Value := [.int .i64 p.1, .int .i64 p.2]
def flatP (O : List P2) : List Value := O.flatMap prC
theorem flatP_len (O : List P2) : (flatP O).length = O.length * 2 := by
  unfold flatP
  induction O with
  | nil => rfl
  | cons x l ih => simp [List.flatMap_cons, prC] at *; omega
theorem flatP_app (A B : List P2) : flatP (A ++ B) = flatP A ++ flatP B := by unfold flatP; rw [List.flatMap_append]
theorem flatP_at (O : List P2) : ∀ (i : Nat), i < O.length → (flatP O)[i * 2]? = some (.int .i64 (prA O i).1) ∧ (flatP O)[i * 2 + 1]? = some (.int .i64 (prA O i).2) := by
  induction O with
  | nil => intro i hi; simp at hi
  | cons x l ih =>
    intro i hi
    match i with
    | 0 => exact ⟨rfl, rfl⟩
    | i + 1 =>
      have h := ih i (by simpa using hi)
      have e : ∀ r, (flatP (x :: l))[(i + 1) * 2 + r]? = (flatP l)[i * 2 + r]? := fun r => by
        rw [show (i + 1) * 2 + r = (i * 2 + r) + 2 by omega]
        rfl
      exact ⟨by have := e 0; simp only [Nat.add_zero] at this; rw [this]; exact h.1, by rw [e 1]; exact h.2⟩
theorem flatP_take (O : List P2) (k : Nat) : flatP (O.take k) = (flatP O).take (k * 2) := by
  induction O generalizing k with
  | nil => simp [flatP]
  | cons x l ih =>
    match k with
    | 0 => simp [flatP]
    | k + 1 =>
      rw [List.take_succ_cons]
      show prC x ++ flatP (l.take k) = _
      rw [ih, show (k + 1) * 2 = k * 2 + 2 by omega]
      rfl
theorem flatP_drop (O : List P2) (k : Nat) : flatP (O.drop k) = (flatP O).drop (k * 2) := by
  induction O generalizing k with
  | nil => simp [flatP]
  | cons x l ih =>
    match k with
    | 0 => simp [flatP]
    | k + 1 =>
      rw [List.drop_succ_cons, ih, show (k + 1) * 2 = k * 2 + 2 by omega]
      rfl
theorem prC_cell {O : List P2} {v : Value} (h : v ∈ flatP O) : v.oneCell' = true := by
  unfold flatP at h
  rw [List.mem_flatMap] at h
  obtain ⟨p, _, hp⟩ := h
  simp [prC] at hp
  rcases hp with rfl | rfl <;> rfl
end Go.Proofs.YtjdehbpgdplolaaDoor
