/- Spans put in one after another, and their pairs: plain facts. -/
import Derived.Test.YthmelofbdbplnaaDoorPairN
namespace Go.Proofs.YthmelofbdbplnaaDoor
open Go.RowKit Go.Sort
set_option linter.unusedVariables false

def spB (x y : Sp) : Bool := decide (0 < spanI y x)
def backS (s : Sp) (S : List Sp) : Nat → Nat
  | 0 => 0
  | k + 1 => if spB s (spA S k) = true then backS s S k else k + 1
def insS (s : Sp) (S : List Sp) : List Sp := S.take (backS s S S.length) ++ [s] ++ S.drop (backS s S S.length)
def goodS (L : List St) (s : Sp) : Prop := ∃ i j, i < L.length ∧ j < L.length ∧ s = spanOf L i j
theorem spA_mem {S : List Sp} {k : Nat} (h : k < S.length) : spA S k ∈ S ∧ prA (S.map Prod.fst) k = (spA S k).1 := by
  have e : spA S k = S[k] := by unfold spA; rw [List.getD, List.getElem?_eq_getElem h]; rfl
  refine ⟨by rw [e]; exact List.getElem_mem h, ?_⟩
  rw [e]
  unfold prA
  rw [List.getD, List.getElem?_eq_getElem (by simpa using h)]
  simp
theorem backS_eq {L : List St} (h : skyB L = true) {s : Sp} (hs : goodS L s) {S : List Sp} (hS : ∀ t ∈ S, goodS L t) : ∀ k, k ≤ S.length → backS s S k = backK (lessP L) s.1 (S.map Prod.fst) k
  | 0, _ => rfl
  | k + 1, hk => by
    obtain ⟨hm, he⟩ := spA_mem (S := S) (k := k) (by omega)
    obtain ⟨i, j, hi, hj, rfl⟩ := hs
    obtain ⟨a, b, ha, hb, e⟩ := hS _ hm
    have hf : spB (spanOf L i j) (spA S k) = lessP L (spanOf L i j).1 (prA (S.map Prod.fst) k) := by
      rw [he, e]
      exact span_order h hi hj ha hb
    rw [backS, backK, hf, backS_eq h ⟨i, j, hi, hj, rfl⟩ hS k (by omega)]
theorem insS_map {L : List St} (h : skyB L = true) {s : Sp} (hs : goodS L s) {S : List Sp} (hS : ∀ t ∈ S, goodS L t) : (insS s S).map Prod.fst = insP (lessP L) s.1 (S.map Prod.fst) := by
  unfold insS insP
  rw [List.map_append, List.map_append, List.map_take, List.map_drop, backS_eq h hs hS _ (Nat.le_refl _), List.length_map]
  rfl
theorem insS_good {L : List St} {s : Sp} (hs : goodS L s) {S : List Sp} (hS : ∀ t ∈ S, goodS L t) : ∀ t ∈ insS s S, goodS L t := by
  intro t ht
  unfold insS at ht
  rw [List.mem_append, List.mem_append] at ht
  rcases ht with (ht | ht) | ht
  · exact hS t (List.mem_of_mem_take ht)
  · rw [List.mem_singleton.1 ht]; exact hs
  · exact hS t (List.mem_of_mem_drop ht)
def rowS (L : List St) (S : List Sp) (i : Nat) : Nat → List Sp
  | 0 => S
  | m + 1 => insS (spanOf L i (i + 1 + m)) (rowS L S i m)
def allS (L : List St) : Nat → List Sp
  | 0 => []
  | i + 1 => rowS L (allS L i) i (L.length - (i + 1))
theorem rowS_map {L : List St} (h : skyB L = true) {S : List Sp} (hS : ∀ t ∈ S, goodS L t) {i : Nat} (hi : i < L.length) : ∀ m, i + m < L.length → (rowS L S i m).map Prod.fst = rowP L (S.map Prod.fst) i m ∧ ∀ t ∈ rowS L S i m, goodS L t
  | 0, _ => ⟨rfl, hS⟩
  | m + 1, hm => by
    obtain ⟨e, g⟩ := rowS_map h hS hi m (by omega)
    have hs : goodS L (spanOf L i (i + 1 + m)) := ⟨i, i + 1 + m, hi, by omega, rfl⟩
    refine ⟨?_, insS_good hs g⟩
    rw [rowS, rowP, insS_map h hs g, e]
    rfl
/-- the pairs of the spans so put in are the specification's -/
theorem allS_map {L : List St} (h : skyB L = true) : ∀ i, i ≤ L.length → (allS L i).map Prod.fst = allP L i ∧ ∀ t ∈ allS L i, goodS L t
  | 0, _ => ⟨rfl, fun t ht => by cases ht⟩
  | i + 1, hi => by
    obtain ⟨e, g⟩ := allS_map h i (by omega)
    have := rowS_map h g (i := i) (by omega) (L.length - (i + 1)) (by omega)
    rw [allS, allP, ← e]
    exact this
end Go.Proofs.YthmelofbdbplnaaDoor
