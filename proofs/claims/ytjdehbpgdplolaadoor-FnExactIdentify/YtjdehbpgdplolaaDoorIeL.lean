/- The program's map over a store and a delete; the namings of a node, plainly. -/
import Derived.Test.YtjdehbpgdplolaaDoorIeK
namespace Go.Proofs.YtjdehbpgdplolaaDoor
open Go.RowKit Go.Sort
set_option linter.unusedVariables false

theorem key_ne {i j : Nat} (h : i ≠ j) : (Lit.int .i64 (i : Int)) ≠ Lit.int .i64 (j : Int) := fun e => h (by injection e with _ e; omega)
theorem getD_snoc_lt (ids : List Int) (a : Int) {i : Nat} (h : i < ids.length) : (ids ++ [a]).getD i 0 = ids.getD i 0 := by rw [List.getD_eq_getElem?_getD, List.getD_eq_getElem?_getD, List.getElem?_append_left h]
theorem getD_snoc_at (ids : List Int) (a : Int) : (ids ++ [a]).getD ids.length 0 = a := by rw [List.getD_eq_getElem?_getD, List.getElem?_append_right (Nat.le_refl _), Nat.sub_self]; rfl
theorem getD_snoc_gt (ids : List Int) (a : Int) {i : Nat} (h : ids.length < i) : (ids ++ [a]).getD i 0 = 0 := by
  rw [List.getD_eq_getElem?_getD, List.getElem?_append_right (by omega), List.getElem?_eq_none (by simp; omega)]
  rfl
theorem getD_end (ids : List Int) {i : Nat} (h : ids.length ≤ i) : ids.getD i 0 = 0 := by rw [List.getD_eq_getElem?_getD, List.getElem?_eq_none h]; rfl
theorem getD_snoc0 (ids : List Int) (i : Nat) : (ids ++ [(0 : Int)]).getD i 0 = ids.getD i 0 := by
  rcases Nat.lt_trichotomy i ids.length with h | h | h
  · exact getD_snoc_lt ids 0 h
  · rw [h, getD_snoc_at, getD_end ids (Nat.le_refl _)]
  · rw [getD_snoc_gt ids 0 h, getD_end ids (by omega)]
theorem MapIs.snoc0 {D : DataW Unit} {L : List St} {ids : List Int} (h : MapIs D L ids) : MapIs D L (ids ++ [0]) := fun i hi => by
  have h1 := h i hi
  unfold nameSt at h1 ⊢
  rw [getD_snoc0]
  exact h1
theorem MapIs.put {D : DataW Unit} {L : List St} {ids : List Int} {a : Int} (h : MapIs D L ids) (hm : Maps.IsMap D) (ha : a ≠ 0) : MapIs (D.put (.int .i64 (ids.length : Int)) (starD (a, atV L L.length a))) L (ids ++ [a]) := fun i hi => by
  by_cases e : i = ids.length
  · subst e
    rw [Maps.has_put_same hm (by trivial), Maps.atKey_put_same hm (by trivial)]
    unfold nameSt
    rw [getD_snoc_at, if_pos ha]
    exact ⟨by simp [ha], rfl⟩
  · rw [Maps.has_put_other (key_ne e), Maps.atKey_put_other (key_ne e)]
    have h1 := h i hi
    unfold nameSt at h1 ⊢
    have e2 : (ids ++ [a]).getD i 0 = ids.getD i 0 := by
      rcases Nat.lt_or_gt_of_ne e with h2 | h2
      · exact getD_snoc_lt ids a h2
      · rw [getD_snoc_gt ids a h2, getD_end ids (by omega)]
    rw [e2]
    exact h1
theorem MapIs.del {D : DataW Unit} {L : List St} {ids : List Int} {a : Int} (h : MapIs D L (ids ++ [a])) : MapIs (D.del (.int .i64 (ids.length : Int))) L ids := fun i hi => by
  by_cases e : i = ids.length
  · subst e
    rw [Maps.has_del_same, Maps.atKey_del_same]
    unfold nameSt
    rw [getD_end ids (Nat.le_refl _), if_neg (by simp)]
    exact ⟨by simp, rfl⟩
  · rw [Maps.has_del_other (key_ne e), Maps.atKey_del_other (key_ne e)]
    have h1 := h i hi
    unfold nameSt at h1 ⊢
    have e2 : (ids ++ [a]).getD i 0 = ids.getD i 0 := by
      rcases Nat.lt_or_gt_of_ne e with h2 | h2
      · exact getD_snoc_lt ids a h2
      · rw [getD_snoc_gt ids a h2, getD_end ids (by omega)]
    rw [e2] at h1
    exact h1
/-- the namings of a node, the first i stars tried -/
def partN (F : List Int → Int → Bool) (A : List Int) (r : Nat) (ids : List Int) (i : Nat) : List (List Int) := ((A.take i).filter (F ids)).flatMap (fun a => allN F A r (ids ++ [a]))
theorem partN_zero (F : List Int → Int → Bool) (A : List Int) (r : Nat) (ids : List Int) : partN F A r ids 0 = [] := rfl
theorem partN_succ (F : List Int → Int → Bool) (A : List Int) (r : Nat) (ids : List Int) {i : Nat} (hi : i < A.length) : partN F A r ids (i + 1) = partN F A r ids i ++ if F ids (A.getD i 0) = true then allN F A r (ids ++ [A.getD i 0]) else [] := by
  unfold partN
  rw [List.take_succ_eq_append_getElem hi, List.filter_append, List.flatMap_append]
  have e : A.getD i 0 = A[i] := by rw [List.getD_eq_getElem?_getD, List.getElem?_eq_getElem hi]; rfl
  rw [e]
  congr 1
  cases h : F ids A[i] <;> simp [h]
theorem allN_node (F : List Int → Int → Bool) (A : List Int) (r : Nat) (ids : List Int) : allN F A (r + 1) ids = partN F A r ids A.length ++ allN F A r (ids ++ [0]) := by
  unfold partN
  rw [List.take_length]
  rfl
/-- the program's test of a star is the specification's -/
theorem fit_same (L : List St) (S : List D3) (ids : List Int) (a : Int) : fitF L S ids a = fitsB (sightsTo L S ids ids.length) (vA S ids.length, (a, atV L L.length a)) (sightsTo L S ids ids.length).length := fits_eq L S ids _ ids.length
end Go.Proofs.YtjdehbpgdplolaaDoor
