/- Spans put in order in their own place: plain facts. -/
import Derived.Test.YthmelofbdbplnaaDoorPairO
namespace Go.Proofs.YthmelofbdbplnaaDoor
open Go.RowKit Go.Sort
set_option linter.unusedVariables false

theorem backS_le (s : Sp) (S : List Sp) : ∀ k, backS s S k ≤ k
  | 0 => Nat.le_refl _
  | k + 1 => by unfold backS; split <;> have := backS_le s S k <;> omega
theorem insS_len (s : Sp) (S : List Sp) : (insS s S).length = S.length + 1 := by
  have := backS_le s S S.length
  unfold insS
  simp
  omega
def insAll (S : List Sp) : List Sp := S.foldl (fun P s => insS s P) []
theorem insAll_snoc (S : List Sp) (s : Sp) : insAll (S ++ [s]) = insS s (insAll S) := by unfold insAll; rw [List.foldl_append]; rfl
theorem insFold_len (S : List Sp) : ∀ P : List Sp, (S.foldl (fun P s => insS s P) P).length = P.length + S.length := by
  induction S with
  | nil => intro P; rfl
  | cons x l ih => intro P; rw [List.foldl_cons, ih, insS_len, List.length_cons]; omega
theorem insAll_len (S : List Sp) : (insAll S).length = S.length := by unfold insAll; rw [insFold_len]; simp
theorem take_snocS (S : List Sp) (k : Nat) (h : k < S.length) : S.take (k + 1) = S.take k ++ [spA S k] := by
  rw [List.take_succ_eq_append_getElem h]
  congr 2
  unfold spA
  rw [List.getD, List.getElem?_eq_getElem h]
  rfl
theorem insAll_take (S : List Sp) (k : Nat) (h : k < S.length) : insAll (S.take (k + 1)) = insS (spA S k) (insAll (S.take k)) := by rw [take_snocS S k h, insAll_snoc]
/-- cell r of a span -/
def comp (s : Sp) : Nat → Int
  | 0 => s.1.1
  | 1 => s.1.2
  | 2 => s.2.1.1
  | 3 => s.2.1.2.1
  | 4 => s.2.1.2.2
  | 5 => s.2.2.1
  | 6 => s.2.2.2.1
  | _ => s.2.2.2.2
/-- the cells of spans that are told by their place -/
def cellF (m : Nat → Sp) (q : Nat) : Int := comp (m (q / 8)) (q % 8)
/-- P in order, s put in at j, and the rest R behind -/
def midF (P : List Sp) (s : Sp) (R : Nat → Sp) (j i : Nat) : Sp := if i < j then spA P i else if i = j then s else if i ≤ P.length then spA P (i - 1) else R i
theorem midF_at (P : List Sp) (s : Sp) (R : Nat → Sp) (j : Nat) : midF P s R j j = s := by unfold midF; rw [if_neg (Nat.lt_irrefl _), if_pos rfl]
theorem midF_before (P : List Sp) (s : Sp) (R : Nat → Sp) (j : Nat) : midF P s R (j + 1) j = spA P j := by unfold midF; rw [if_pos (by omega)]
theorem midF_step (P : List Sp) (s : Sp) (R : Nat → Sp) (j : Nat) (h : j < P.length) (i : Nat) : midF P s R j i = if i = j then s else if i = j + 1 then spA P j else midF P s R (j + 1) i := by
  unfold midF
  by_cases h1 : i = j
  · subst h1; simp
  · by_cases h2 : i = j + 1
    · subst h2
      rw [if_neg (by omega), if_neg (by omega), if_pos (by omega), if_neg (by omega), if_pos rfl, Nat.add_sub_cancel]
    · by_cases h3 : i < j
      · have : i < j + 1 := by omega
        simp [h1, h2, h3, this]
      · have : ¬ i < j + 1 := by omega
        simp [h1, h2, h3, this]
theorem midF_first (P : List Sp) (s : Sp) (R : Nat → Sp) (i : Nat) : midF P s R P.length i = if i < P.length then spA P i else if i = P.length then s else R i := by
  unfold midF
  by_cases h1 : i < P.length
  · rw [if_pos h1, if_pos h1]
  · rw [if_neg h1, if_neg h1]
    by_cases h2 : i = P.length
    · rw [if_pos h2, if_pos h2]
    · rw [if_neg h2, if_neg h2, if_neg (by omega)]
theorem spA_insS (s : Sp) (P : List Sp) (R : Nat → Sp) (i : Nat) (h : i ≤ P.length) : spA (insS s P) i = midF P s R (backS s P P.length) i := by
  have hb := backS_le s P P.length
  unfold insS midF spA
  generalize backS s P P.length = k at *
  rw [List.getD, List.getD, List.getD]
  by_cases h1 : i < k
  · rw [if_pos h1, List.append_assoc, List.getElem?_append_left (by simp; omega), List.getElem?_take_of_lt h1]
  · rw [if_neg h1]
    have hk : (P.take k).length = k := by simp; omega
    by_cases h2 : i = k
    · rw [if_pos h2, List.append_assoc, List.getElem?_append_right (by omega), hk, h2]
      simp
    · rw [if_neg h2, if_pos h, List.append_assoc, List.getElem?_append_right (by omega), hk, List.getElem?_append_right (by simp; omega), List.getElem?_drop]
      congr 2
      simp
      omega
theorem backS_step (s : Sp) (P : List Sp) (j : Nat) (h : spB s (spA P j) = true) : backS s P (j + 1) = backS s P j := by rw [backS, if_pos h]
theorem backS_stop (s : Sp) (P : List Sp) (j : Nat) (h : spB s (spA P j) = false) : backS s P (j + 1) = j + 1 := by rw [backS, if_neg (by rw [h]; simp)]
/-- the spans of row i, one behind the other -/
def rowL (L : List St) (i m : Nat) : List Sp := (List.range m).map fun k => spanOf L i (i + 1 + k)
def listL (L : List St) : Nat → List Sp
  | 0 => []
  | i + 1 => listL L i ++ rowL L i (L.length - (i + 1))
theorem rowL_snoc (L : List St) (i m : Nat) : rowL L i (m + 1) = rowL L i m ++ [spanOf L i (i + 1 + m)] := by unfold rowL; rw [List.range_succ, List.map_append]; rfl
theorem foldRow (L : List St) (i : Nat) (S : List Sp) : ∀ m, (rowL L i m).foldl (fun P s => insS s P) S = rowS L S i m
  | 0 => rfl
  | m + 1 => by rw [rowL_snoc, List.foldl_append, foldRow L i S m]; rfl
theorem insAll_list (L : List St) : ∀ i, insAll (listL L i) = allS L i
  | 0 => rfl
  | i + 1 => by
    have h := insAll_list L i
    unfold insAll at *
    rw [listL, List.foldl_append, h, foldRow]
    rfl
theorem rowL_len (L : List St) (i m : Nat) : (rowL L i m).length = m := by unfold rowL; simp
theorem listL_len (L : List St) (h : L.length ≤ 12) : ∀ i, i ≤ L.length → (listL L i).length ≤ 12 * i
  | 0, _ => Nat.le_refl _
  | i + 1, hi => by rw [listL, List.length_append, rowL_len]; have := listL_len L h i (by omega); omega
end Go.Proofs.YthmelofbdbplnaaDoor
