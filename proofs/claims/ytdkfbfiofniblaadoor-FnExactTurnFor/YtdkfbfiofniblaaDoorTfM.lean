/- Plain facts for TurnFor: whether a turn brings each star to its spot. -/
import Derived.Test.YtdkfbfiofniblaaDoorNaM
import Derived.Test.YtdkfbfiofniblaaDoorTsD
namespace Go.Proofs.YtdkfbfiofniblaaDoor
open Go.RowKit
set_option linter.unusedVariables false

def bringsB (t : T4) (s : Sg) : Bool := sameD s.1 (apD t.1 t.2.1 t.2.2.1 t.2.2.2 s.2.2)
def explB (A : List Sg) (t : T4) : Bool := A.all (bringsB t)
theorem expl_yes {A : List Sg} {t : T4} (h : ∀ i, i < A.length → bringsB t (sgA A i) = true) : explB A t = true := by
  unfold explB
  rw [← all_range_at, List.all_eq_true]
  exact fun i hi => h i (List.mem_range.1 hi)
theorem expl_no {A : List Sg} {t : T4} {i : Nat} (hi : i < A.length) (h : bringsB t (sgA A i) = false) : explB A t = false := by
  unfold explB
  rw [← all_range_at, List.all_eq_false]
  exact ⟨i, List.mem_range.2 hi, by rw [h]; simp⟩
/-- the first of the turns that brings all -/
def firstT (A : List Sg) (T : List T4) : T4 × Int := match T.find? (explB A) with | some t => (t, 0) | none => ((0, 0, 0, 0), 6)
theorem tA_get {T : List T4} {k : Nat} (hk : k < T.length) : T[k]? = some (tA T k) := by unfold tA; rw [List.getD_eq_getElem?_getD, List.getElem?_eq_getElem hk]; rfl
theorem first_at {A : List Sg} {T : List T4} {k : Nat} (hk : k < T.length) (h : ∀ j, j < k → explB A (tA T j) = false) (h1 : explB A (tA T k) = true) : firstT A T = (tA T k, 0) := by
  unfold firstT
  have : T.find? (explB A) = some (tA T k) := by
    rw [List.find?_eq_some_iff_getElem]
    refine ⟨h1, k, hk, ?_, fun j hj => ?_⟩
    · have := tA_get hk
      rw [List.getElem?_eq_getElem hk] at this
      exact Option.some.inj this
    · have e := tA_get (T := T) (k := j) (by omega)
      rw [List.getElem?_eq_getElem (by omega)] at e
      rw [Option.some.inj e, h j hj]
      rfl
  rw [this]
theorem first_none {A : List Sg} {T : List T4} (h : ∀ j, j < T.length → explB A (tA T j) = false) : firstT A T = ((0, 0, 0, 0), 6) := by
  unfold firstT
  have : T.find? (explB A) = none := by
    rw [List.find?_eq_none]
    intro x hx
    obtain ⟨j, hj, rfl⟩ := List.getElem_of_mem hx
    have e := tA_get (T := T) (k := j) hj
    rw [List.getElem?_eq_getElem hj] at e
    rw [Option.some.inj e, h j hj]
    simp
  rw [this]
def forV (L : List St) (S : List D3) (ids : List Int) : T4 × Int :=
  if 400 < L.length ∨ 400 < S.length ∨ 400 < ids.length then ((0, 0, 0, 0), 2)
  else if namedB L S ids = true then (if (sightsTo L S ids ids.length).length < 2 then ((0, 0, 0, 0), 10) else firstT (sightsTo L S ids ids.length) (turnsTo 625))
  else ((0, 0, 0, 0), 1)
theorem for_size {L : List St} {S : List D3} {ids : List Int} (h : 400 < L.length ∨ 400 < S.length ∨ 400 < ids.length) : forV L S ids = ((0, 0, 0, 0), 2) := by unfold forV; rw [if_pos h]
theorem for_form {L : List St} {S : List D3} {ids : List Int} (h : ¬ (400 < L.length ∨ 400 < S.length ∨ 400 < ids.length)) (h1 : namedB L S ids = false) : forV L S ids = ((0, 0, 0, 0), 1) := by unfold forV; rw [if_neg h, h1]; rfl
theorem for_few {L : List St} {S : List D3} {ids : List Int} (h : ¬ (400 < L.length ∨ 400 < S.length ∨ 400 < ids.length)) (h1 : namedB L S ids = true) (h2 : (sightsTo L S ids ids.length).length < 2) : forV L S ids = ((0, 0, 0, 0), 10) := by unfold forV; rw [if_neg h, if_pos h1, if_pos h2]
theorem for_first {L : List St} {S : List D3} {ids : List Int} (h : ¬ (400 < L.length ∨ 400 < S.length ∨ 400 < ids.length)) (h1 : namedB L S ids = true) (h2 : ¬ (sightsTo L S ids ids.length).length < 2) : forV L S ids = firstT (sightsTo L S ids ids.length) (turnsTo 625) := by unfold forV; rw [if_neg h, if_pos h1, if_neg h2]
theorem named_parts {L : List St} {S : List D3} {ids : List Int} (h : namedB L S ids = true) : skyB L = true ∧ spotsB S = true ∧ ids.length = S.length ∧ allFit (sightsTo L S ids ids.length) (sightsTo L S ids ids.length).length = true := by
  unfold namedB at h
  simp only [Bool.and_eq_true, decide_eq_true_eq] at h
  exact ⟨h.1.1.1, h.1.1.2, h.1.2, h.2⟩
/-- each sight of a naming has a star of the sky -/
theorem sight_mem {L : List St} {S : List D3} {ids : List Int} {n i : Nat} (hi : i < (sightsTo L S ids n).length) : ∃ j, j < n ∧ ids.getD j 0 ≠ 0 ∧ sgA (sightsTo L S ids n) i = sgOf L S ids j := by
  have hm : sgA (sightsTo L S ids n) i ∈ sightsTo L S ids n := by
    unfold sgA
    rw [List.getD_eq_getElem?_getD, List.getElem?_eq_getElem hi]
    exact List.getElem_mem hi
  generalize sgA (sightsTo L S ids n) i = s at hm ⊢
  unfold sightsTo at hm
  rw [List.mem_map] at hm
  obtain ⟨j, hj, rfl⟩ := hm
  rw [List.mem_filter] at hj
  exact ⟨j, List.mem_range.1 hj.1, of_decide_eq_true hj.2, rfl⟩
theorem sight_small {L : List St} {S : List D3} {ids : List Int} (h : namedB L S ids = true) {i : Nat} (hi : i < (sightsTo L S ids ids.length).length) : smallB (sgA (sightsTo L S ids ids.length) i).2.2.1 (sgA (sightsTo L S ids ids.length) i).2.2.2.1 (sgA (sightsTo L S ids ids.length) i).2.2.2.2 = true := by
  obtain ⟨h1, h2, h3, h4⟩ := named_parts h
  unfold allFit at h4
  have h5 := List.all_eq_true.1 h4 i (List.mem_range.2 hi)
  rw [Bool.and_eq_true] at h5
  obtain ⟨j, hj, h0, e⟩ := sight_mem hi
  rw [e] at h5 ⊢
  exact at_small h1 (by have h6 := h5.1; rw [Bool.not_eq_true'] at h6; exact h6)
theorem named_each {L : List St} {S : List D3} {ids : List Int} (h : namedB L S ids = true) {j : Nat} (hj : j < ids.length) (h0 : ids.getD j 0 ≠ 0) : smallB (atV L L.length (ids.getD j 0)).1 (atV L L.length (ids.getD j 0)).2.1 (atV L L.length (ids.getD j 0)).2.2 = true ∧ wideD (vA S j) = true := by
  obtain ⟨h1, h2, h3, h4⟩ := named_parts h
  rw [← named_eq] at h4
  unfold namedI at h4
  have h5 := List.all_eq_true.1 h4 j (List.mem_range.2 hj)
  rw [decide_eq_false h0, Bool.false_or, Bool.and_eq_true] at h5
  exact ⟨at_small h1 (by simpa using h5.1), okV_wide ((spots_ok h2).2 j (by omega))⟩
/-- the specification's way: each named one is brought to its spot -/
def turnedI (L : List St) (S : List D3) (ids : List Int) (t : T4) (n : Nat) : Bool := (List.range n).all fun j => decide (ids.getD j 0 = 0) || bringsB t (sgOf L S ids j)
theorem turned_eq (L : List St) (S : List D3) (ids : List Int) (t : T4) (n : Nat) : turnedI L S ids t n = explB (sightsTo L S ids n) t := (sights_all L S ids (bringsB t) n).symm
theorem turnedI_no {L : List St} {S : List D3} {ids : List Int} {t : T4} {n j : Nat} (hj : j < n) (h : (decide (ids.getD j 0 = 0) || bringsB t (sgOf L S ids j)) = false) : turnedI L S ids t n = false := by
  unfold turnedI
  rw [List.all_eq_false]
  exact ⟨j, List.mem_range.2 hj, by rw [h]; simp⟩
theorem turnedI_yes {L : List St} {S : List D3} {ids : List Int} {t : T4} {n : Nat} (h : ∀ j, j < n → (decide (ids.getD j 0 = 0) || bringsB t (sgOf L S ids j)) = true) : turnedI L S ids t n = true := by
  unfold turnedI
  rw [List.all_eq_true]
  exact fun j hj => h j (List.mem_range.1 hj)
theorem sights_count (L : List St) (S : List D3) (ids : List Int) (k : Nat) : (sightsTo L S ids (k + 1)).length = (sightsTo L S ids k).length + if ids.getD k 0 ≠ 0 then 1 else 0 := by
  rw [sights_snoc, List.length_append]
  split <;> rfl
theorem turns_right {m k : Nat} (hk : k < (turnsTo m).length) : rightT (tA (turnsTo m) k).1 (tA (turnsTo m) k).2.1 (tA (turnsTo m) k).2.2.1 (tA (turnsTo m) k).2.2.2 = true := by
  have hm : tA (turnsTo m) k ∈ turnsTo m := by unfold tA; rw [List.getD_eq_getElem?_getD, List.getElem?_eq_getElem hk]; exact List.getElem_mem hk
  generalize tA (turnsTo m) k = t at hm ⊢
  unfold turnsTo at hm
  exact (List.mem_filter.1 hm).2
set_option maxRecDepth 1000000 in
theorem turns_some : 0 < (turnsTo 625).length := by
  have h : (tOf 624).1 = 2 := by decide +kernel
  have hg : goodT (tOf 563) = true := by decide +kernel
  have hm : tOf 563 ∈ turnsTo 625 := by
    unfold turnsTo
    rw [List.mem_filter]
    exact ⟨List.mem_map.2 ⟨563, List.mem_range.2 (by omega), rfl⟩, hg⟩
  exact List.length_pos_of_mem hm
end Go.Proofs.YtdkfbfiofniblaaDoor
