/- Identify, plainly: all namings in their order; the specification's search, which leaves out what can not be best; the program's, which looks at all. -/
import Derived.Test.YtjdehbpgdplolaaDoorNaM
namespace Go.Proofs.YtjdehbpgdplolaaDoor
set_option linter.unusedVariables false

/-- how many are named -/
def cntN (ids : List Int) : Nat := ids.countP (fun x => decide (x ≠ 0))
theorem cntN_snoc (ids : List Int) (a : Int) : cntN (ids ++ [a]) = cntN ids + if a ≠ 0 then 1 else 0 := by
  unfold cntN
  rw [List.countP_append, List.countP_singleton]
  by_cases h : a = 0 <;> simp [h]
/-- all namings that go on from ids, for r spots more -/
def allN (F : List Int → Int → Bool) (A : List Int) : Nat → List Int → List (List Int)
  | 0, ids => [ids]
  | r + 1, ids => (A.filter (F ids)).flatMap (fun a => allN F A r (ids ++ [a])) ++ allN F A r (ids ++ [0])
theorem allN_cnt (F : List Int → Int → Bool) (A : List Int) : ∀ (r : Nat) (ids l : List Int), l ∈ allN F A r ids → cntN l ≤ cntN ids + r
  | 0, ids, l, h => by
    simp only [allN, List.mem_singleton] at h
    subst h
    omega
  | r + 1, ids, l, h => by
    simp only [allN, List.mem_append, List.mem_flatMap] at h
    rcases h with ⟨a, _, h⟩ | h
    · have := allN_cnt F A r _ l h
      rw [cntN_snoc] at this
      split at this <;> omega
    · have := allN_cnt F A r _ l h
      rw [cntN_snoc] at this
      simp at this
      omega
structure SeN where
  best : List Int
  count : Nat
  many : Nat
def stepSe (s : SeN) (l : List Int) : SeN :=
  if s.count < cntN l then ⟨l, cntN l, 1⟩ else if cntN l = s.count then ⟨l, s.count, s.many + 1⟩ else s
theorem stepSe_less {s : SeN} {l : List Int} (h : cntN l < s.count) : stepSe s l = s := by
  unfold stepSe
  rw [if_neg (by omega), if_neg (by omega)]
theorem foldN_less : ∀ (L : List (List Int)) (s : SeN), (∀ l ∈ L, cntN l < s.count) → L.foldl stepSe s = s
  | [], s, _ => rfl
  | l :: L, s, h => by
    rw [List.foldl_cons, stepSe_less (h l (by simp))]
    exact foldN_less L s (fun x hx => h x (by simp [hx]))
/-- the specification's search -/
def fromN (F : List Int → Int → Bool) (A : List Int) : Nat → List Int → SeN → SeN
  | 0, ids, s => if cntN ids + 0 < s.count then s else stepSe s ids
  | r + 1, ids, s => if cntN ids + (r + 1) < s.count then s else fromN F A r (ids ++ [0]) (A.foldl (fun s a => if F ids a = true then fromN F A r (ids ++ [a]) s else s) s)
theorem fold_filter {α β : Type} (p : α → Bool) (f : β → α → β) : ∀ (L : List α) (s : β), L.foldl (fun s a => if p a = true then f s a else s) s = (L.filter p).foldl f s
  | [], s => rfl
  | a :: L, s => by
    rw [List.foldl_cons, fold_filter p f L]
    cases h : p a
    · rw [List.filter_cons_of_neg (by simp [h])]; simp
    · rw [List.filter_cons_of_pos h]; simp
theorem fold_flat {α β γ : Type} (g : α → List γ) (f : β → γ → β) : ∀ (L : List α) (s : β), (L.flatMap g).foldl f s = L.foldl (fun s a => (g a).foldl f s) s
  | [], s => rfl
  | a :: L, s => by
    rw [List.flatMap_cons, List.foldl_append, fold_flat g f L, List.foldl_cons]
theorem fromN_eq (F : List Int → Int → Bool) (A : List Int) : ∀ (r : Nat) (ids : List Int) (s : SeN), fromN F A r ids s = (allN F A r ids).foldl stepSe s
  | 0, ids, s => by
    unfold fromN allN
    split
    · rename_i h
      rw [List.foldl_cons, List.foldl_nil, stepSe_less (by omega)]
    · rfl
  | r + 1, ids, s => by
    unfold fromN
    split
    · rename_i h
      exact (foldN_less _ s (fun l hl => by have := allN_cnt F A (r + 1) ids l hl; omega)).symm
    · rw [fromN_eq F A r, allN, List.foldl_append, fold_flat, ← fold_filter (F ids) (fun s a => (allN F A r (ids ++ [a])).foldl stepSe s) A s]
      congr 1
      congr 1
      funext s a
      rw [fromN_eq F A r]
/-- the program's: the first that names most, and how many name as many -/
def stepG (g : List Int × Nat) (l : List Int) : List Int × Nat :=
  if cntN l < 3 ∨ cntN l < cntN g.1 then g else if cntN g.1 < cntN l then (l, 1) else (g.1, g.2 + 1)
def SameN (s : SeN) (g : List Int × Nat) : Prop :=
  (s.many = 0 ∧ s.count = 3 ∧ g = ([], 0)) ∨ (1 ≤ s.many ∧ 3 ≤ s.count ∧ cntN g.1 = s.count ∧ g.2 = s.many ∧ (s.many = 1 → s.best = g.1))
theorem sameN_step {s : SeN} {g : List Int × Nat} (h : SameN s g) (l : List Int) : SameN (stepSe s l) (stepG g l) := by
  rcases h with ⟨h1, h2, rfl⟩ | ⟨h1, h2, h3, h4, h5⟩
  · have h0 : cntN ([] : List Int) = 0 := rfl
    unfold stepSe stepG
    simp only [h0]
    by_cases c : cntN l < 3
    · rw [if_neg (by omega), if_neg (by omega), if_pos (by omega)]
      exact .inl ⟨h1, h2, rfl⟩
    · rw [if_neg (show ¬ (cntN l < 3 ∨ cntN l < 0) by omega), if_pos (show 0 < cntN l by omega)]
      by_cases c2 : s.count < cntN l
      · rw [if_pos c2]
        exact .inr ⟨Nat.le_refl _, by show 3 ≤ cntN l; omega, rfl, rfl, fun _ => rfl⟩
      · rw [if_neg c2, if_pos (by omega)]
        exact .inr ⟨by show 1 ≤ s.many + 1; omega, by show 3 ≤ s.count; omega, by show cntN l = s.count; omega, by show 1 = s.many + 1; omega, fun _ => rfl⟩
  · unfold stepSe stepG
    by_cases c : cntN l < s.count
    · rw [if_neg (by omega), if_neg (by omega), if_pos (by omega)]
      exact .inr ⟨h1, h2, h3, h4, h5⟩
    · rw [if_neg (show ¬ (cntN l < 3 ∨ cntN l < cntN g.1) by omega)]
      by_cases c2 : s.count < cntN l
      · rw [if_pos c2, if_pos (show cntN g.1 < cntN l by omega)]
        exact .inr ⟨Nat.le_refl _, by show 3 ≤ cntN l; omega, rfl, rfl, fun _ => rfl⟩
      · rw [if_neg c2, if_pos (by omega), if_neg (show ¬ cntN g.1 < cntN l by omega)]
        exact .inr ⟨by show 1 ≤ s.many + 1; omega, h2, h3, by show g.2 + 1 = s.many + 1; omega, fun e => by have e' : s.many + 1 = 1 := e; omega⟩
theorem sameN_fold : ∀ (L : List (List Int)) {s : SeN} {g : List Int × Nat}, SameN s g → SameN (L.foldl stepSe s) (L.foldl stepG g)
  | [], _, _, h => h
  | l :: L, _, _, h => sameN_fold L (sameN_step h l)
/-- both searches, from the start -/
theorem sameN_all (F : List Int → Int → Bool) (A : List Int) (n : Nat) : SameN (fromN F A n [] ⟨[], 3, 0⟩) ((allN F A n []).foldl stepG ([], 0)) := by
  rw [fromN_eq]
  exact sameN_fold _ (.inl ⟨rfl, rfl, rfl⟩)
end Go.Proofs.YtjdehbpgdplolaaDoor
