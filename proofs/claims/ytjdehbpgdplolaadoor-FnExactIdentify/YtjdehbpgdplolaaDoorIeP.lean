/- Identify, plainly: how often the search counts at most; its loop's steps. -/
import Derived.Test.YtjdehbpgdplolaaDoorIeM
namespace Go.Proofs.YtjdehbpgdplolaaDoor
set_option linter.unusedVariables false

theorem stepSe_many (s : SeN) (l : List Int) : (stepSe s l).many ≤ s.many + 1 := by
  unfold stepSe
  split
  · show 1 ≤ s.many + 1; omega
  · split
    · exact Nat.le_refl _
    · omega
theorem foldSe_many : ∀ (L : List (List Int)) (s : SeN), (L.foldl stepSe s).many ≤ s.many + L.length
  | [], s => Nat.le_refl _
  | l :: L, s => by
    rw [List.foldl_cons, List.length_cons]
    have h1 := foldSe_many L (stepSe s l)
    have h2 := stepSe_many s l
    omega
theorem flat_len {α β : Type} (f : α → List β) (c : Nat) (hf : ∀ a, (f a).length ≤ c) : ∀ L : List α, (L.flatMap f).length ≤ L.length * c
  | [] => by simp
  | a :: L => by
    rw [List.flatMap_cons, List.length_append, List.length_cons, Nat.succ_mul]
    have := hf a
    have := flat_len f c hf L
    omega
theorem allN_len (F : List Int → Int → Bool) (A : List Int) (hA : A.length ≤ 12) : ∀ (r : Nat) (ids : List Int), (allN F A r ids).length ≤ 13 ^ r
  | 0, ids => by simp [allN]
  | r + 1, ids => by
    unfold allN
    rw [List.length_append]
    have h1 := flat_len (fun a => allN F A r (ids ++ [a])) (13 ^ r) (fun a => allN_len F A hA r _) (A.filter (F ids))
    have h2 := allN_len F A hA r (ids ++ [0])
    have h3 : (A.filter (F ids)).length ≤ 12 := Nat.le_trans (List.length_filter_le _ _) hA
    have h4 : (A.filter (F ids)).length * 13 ^ r ≤ 12 * 13 ^ r := Nat.mul_le_mul_right _ h3
    rw [Nat.pow_succ]
    omega
theorem fromN_many (F : List Int → Int → Bool) (A : List Int) (hA : A.length ≤ 12) (r : Nat) (ids : List Int) (s : SeN) : (fromN F A r ids s).many ≤ s.many + 13 ^ r := by
  rw [fromN_eq]
  have h1 := foldSe_many (allN F A r ids) s
  have h2 := allN_len F A hA r ids
  omega
/-- the loop over the stars, the first i of them done -/
def loopN (F : List Int → Int → Bool) (A : List Int) (r : Nat) (ids : List Int) (s : SeN) (i : Nat) : SeN := (A.take i).foldl (fun s a => if F ids a = true then fromN F A r (ids ++ [a]) s else s) s
theorem loopN_zero (F : List Int → Int → Bool) (A : List Int) (r : Nat) (ids : List Int) (s : SeN) : loopN F A r ids s 0 = s := rfl
theorem loopN_succ (F : List Int → Int → Bool) (A : List Int) (r : Nat) (ids : List Int) (s : SeN) {i : Nat} (hi : i < A.length) : loopN F A r ids s (i + 1) = if F ids (A.getD i 0) = true then fromN F A r (ids ++ [A.getD i 0]) (loopN F A r ids s i) else loopN F A r ids s i := by
  unfold loopN
  rw [List.take_succ_eq_append_getElem hi, List.foldl_append]
  have e : A.getD i 0 = A[i] := by rw [List.getD_eq_getElem?_getD, List.getElem?_eq_getElem hi]; rfl
  rw [e]
  rfl
theorem loopN_many (F : List Int → Int → Bool) (A : List Int) (hA : A.length ≤ 12) (r : Nat) (ids : List Int) (s : SeN) : ∀ i, i ≤ A.length → (loopN F A r ids s i).many ≤ s.many + i * 13 ^ r
  | 0, _ => by rw [loopN_zero]; omega
  | i + 1, h => by
    rw [loopN_succ F A r ids s (by omega), Nat.succ_mul]
    have h1 := loopN_many F A hA r ids s i (by omega)
    split
    · have h2 := fromN_many F A hA r (ids ++ [A.getD i 0]) (loopN F A r ids s i)
      generalize 13 ^ r = p at *
      omega
    · generalize 13 ^ r = p at *
      omega
theorem fromN_prune {F : List Int → Int → Bool} {A : List Int} {r : Nat} {ids : List Int} {s : SeN} (h : cntN ids + r < s.count) : fromN F A r ids s = s := by
  cases r with
  | zero => unfold fromN; rw [if_pos h]
  | succ r => unfold fromN; rw [if_pos h]
theorem fromN_leaf {F : List Int → Int → Bool} {A : List Int} {ids : List Int} {s : SeN} (h : ¬ cntN ids + 0 < s.count) : fromN F A 0 ids s = stepSe s ids := by unfold fromN; rw [if_neg h]
theorem fromN_node {F : List Int → Int → Bool} {A : List Int} {r : Nat} {ids : List Int} {s : SeN} (h : ¬ cntN ids + (r + 1) < s.count) : fromN F A (r + 1) ids s = fromN F A r (ids ++ [0]) (loopN F A r ids s A.length) := by
  rw [fromN, if_neg h]
  unfold loopN
  rw [List.take_length]
theorem cntN_le (ids : List Int) : cntN ids ≤ ids.length := List.countP_le_length
theorem stepSe_count (s : SeN) (l : List Int) : (stepSe s l).count ≤ max s.count (cntN l) := by
  unfold stepSe
  split
  · show cntN l ≤ _; omega
  · split
    · show s.count ≤ _; omega
    · omega
end Go.Proofs.YtjdehbpgdplolaaDoor
