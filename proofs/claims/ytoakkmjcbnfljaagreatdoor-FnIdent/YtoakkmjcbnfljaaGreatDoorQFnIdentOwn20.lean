/- Several texts in one: RowR. -/
import Derived.Test.YtoakkmjcbnfljaaGreatDoorQFnIdentOwn4
import Derived.Test.YtoakkmjcbnfljaaGreatDoorQFnIdentOwn3
namespace Go.Proofs.YtoakkmjcbnfljaaGreatDoor
set_option linter.unusedVariables false
set_option linter.unusedSimpArgs false
set_option maxRecDepth 100000
set_option maxHeartbeats 8000000
section
open Go.RowKit Go.Sort
def pn (w : World) (a : Option Addr) (n : Nat) (row : Option Nat) : Prop := (n = 0 ∧ row = none) ∨ ∃ g f, a = some ⟨g, 0, none⟩ ∧ row = some g ∧ dF w 69 g (n * 4) f
def Mkd (w : World) (a : Option Addr) (n : Nat) (row : Option Nat) : Prop := (n = 0 ∧ row = none) ∨ ∃ g, a = some ⟨g, 0, none⟩ ∧ row = some g ∧ dF w 69 g (n * 4) (fun j => 1 + (j : Int))
theorem pn.kept {w w' : World} {a : Option Addr} {n : Nat} {row : Option Nat} (h : pn w a n row) (hB : Below w.heap.size w w') : pn w' a n row := by
 rcases h with h | ⟨g, f, h1, h2, h3⟩
 ·exact .inl h
 ·exact .inr ⟨g, f, h1, h2, h3.kept hB⟩
theorem Mkd.kept {w w' : World} {a : Option Addr} {n : Nat} {row : Option Nat} (h : Mkd w a n row) (hB : Below w.heap.size w w') : Mkd w' a n row := by
 rcases h with h | ⟨g, h1, h2, h3⟩
 ·exact .inl h
 ·exact .inr ⟨g, h1, h2, h3.kept hB⟩
theorem pn.lt {w : World} {a : Option Addr} {n : Nat} {row : Option Nat} (h : pn w a n row) {g : Nat} (e : row = some g) : g < w.heap.size := by
 rcases h with ⟨_, h⟩ | ⟨g', f, h1, h2, h3⟩
 ·rw [h] at e; cases e
 ·rw [h2] at e; obtain rfl := Option.some.inj e; exact h3.lt
theorem bJ {B : Nat} {w w1 w2 : World} {row : Option Nat} (h : Below B w w1) (hg : w1.grownBy w2 row) (hB : B ≤ w1.heap.size) (hr : ∀ g, row = some g → B ≤ g) : Below B w w2 :=
 h.trans ⟨hg.os, hg.tape, hg.output, hg.size, fun k hk => hg.block k (by omega) (fun e => by have := hr k e.symm; omega)⟩
def aV (L : List St) : List Value := L.flatMap stC
theorem eM (L : List St) : (aV L).length = L.length * 4 := by
 unfold aV
 induction L with
 | nil => rfl
 | cons x l ih => simp [List.flatMap_cons, stC] at *; omega
theorem jk (L : List St) : ∀ (i : Nat), i < L.length → (aV L)[i * 4]? = some (.int .i64 (stA L i).1) ∧ (aV L)[i * 4 + 1]? = some (.int .i64 (stA L i).2.1) ∧ (aV L)[i * 4 + 2]? = some (.int .i64 (stA L i).2.2.1) ∧ (aV L)[i * 4 + 3]? = some (.int .i64 (stA L i).2.2.2) := by
 induction L with
 | nil => intro i hi; simp at hi
 | cons x l ih =>
  intro i hi
  match i with
  | 0 => exact ⟨rfl, rfl, rfl, rfl⟩
  | i + 1 =>
   have h := ih i (by simpa using hi)
   have e : ∀ r, (aV (x :: l))[(i + 1) * 4 + r]? = (aV l)[i * 4 + r]? := fun r => by
    rw [show (i + 1) * 4 + r = (i * 4 + r) + 4 by omega]
    rfl
   have e2 : stA (x :: l) (i + 1) = stA l i := rfl
   rw [e2]
   exact ⟨by have := e 0; simp only [Nat.add_zero] at this; rw [this]; exact h.1, by rw [e 1]; exact h.2.1, by rw [e 2]; exact h.2.2.1, by rw [e 3]; exact h.2.2.2⟩
theorem mJ {w : World} {B : Nat} {v : Value} {L : List St} (h : w.ownsRow B 69 4 v L.length (aV L)) : ∃ a cap, v = .slice a L.length cap ∧ L.length ≤ cap ∧ cap ≤ maxLen ∧ aJ w a L L.length := by
 rcases h.2 with ⟨h1, h0⟩ | ⟨g, cap, cur, hv, hb, hg, hnc, hcm, hcs, htake⟩
 ·exact ⟨none, 0, by rw [h1, h0], by omega, Nat.zero_le _, .inl h0⟩
 ·refine ⟨_, cap, hv, hnc, hcm, .inr ⟨g, 0, rfl, (Array.getElem?_eq_some_iff.1 hg).1, fun i hi => ?_⟩⟩
  have hc : ∀ j, j < L.length * 4 → w.cell? ⟨g, j, none⟩ = (aV L)[j]? := fun j hj => by
   rw [cell_of_row w g j cur _ _ hg, ← htake, List.getElem?_take, if_pos hj]
   simp
  obtain ⟨e0, e1, e2, e3⟩ := jk L i hi
  rw [Nat.zero_add]
  exact ⟨by rw [hc _ (by omega)]; exact e0, by rw [hc _ (by omega)]; exact e1, by rw [hc _ (by omega)]; exact e2, by rw [hc _ (by omega)]; exact e3⟩
theorem kP (L : List St) (j : Nat) (hj : j < L.length * 4) : ∃ z, (aV L)[j]? = some (.int .i64 z) := by
 obtain ⟨e0, e1, e2, e3⟩ := jk L (j / 4) (by omega)
 have h : j = j / 4 * 4 ∨ j = j / 4 * 4 + 1 ∨ j = j / 4 * 4 + 2 ∨ j = j / 4 * 4 + 3 := by omega
 rcases h with h | h | h | h
 ·rw [h]; exact ⟨_, e0⟩
 ·rw [h]; exact ⟨_, e1⟩
 ·rw [h]; exact ⟨_, e2⟩
 ·rw [h]; exact ⟨_, e3⟩
theorem tv {w : World} {B : Nat} {v : Value} {L : List St} {a : Option Addr} {cap : Nat} (h : w.ownsRow B 69 4 v L.length (aV L)) (hv : v = .slice a L.length cap) : ∃ row, pn w a L.length row ∧ ∀ g, row = some g → B ≤ g := by
 rcases h.2 with ⟨h1, h0⟩ | ⟨g, cap', cur, hv', hb, hg, hnc, hcm, hcs, htake⟩
 ·exact ⟨none, .inl ⟨h0, rfl⟩, fun g e => by cases e⟩
 ·rw [hv] at hv'
  injection hv' with e1 e2 e3
  refine ⟨some g, .inr ⟨g, fun j => if h : j < L.length * 4 then Classical.choose (kP L j h) else 0, e1, rfl, cur, hg, fun j hj => ?_⟩, fun g' e => by obtain rfl := Option.some.inj e; exact hb⟩
  have e4 : cur[j]? = (aV L)[j]? := by
   rw [← htake, List.getElem?_take, if_pos hj]
   simp
  rw [e4]
  simp only [hj, dif_pos]
  exact Classical.choose_spec (kP L j hj)
end
end Go.Proofs.YtoakkmjcbnfljaaGreatDoor
