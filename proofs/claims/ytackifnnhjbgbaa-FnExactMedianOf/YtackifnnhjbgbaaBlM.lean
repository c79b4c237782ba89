/- Blobs, plainly: which pixels touch, how a blob grows, what a look along the rows finds. -/
import Derived.Test.YtackifnnhjbgbaaPlain
namespace Go.Proofs.Ytackifnnhjbgbaa
set_option linter.unusedVariables false

/-- a frame, plainly: its width, its height, its bytes, and the level -/
structure Fr where
  wd : Nat
  ht : Nat
  px : Nat → Nat
  lv : Int
def Fr.n (f : Fr) : Nat := f.wd * f.ht
def litP (f : Fr) (T : Nat → Bool) (i : Nat) : Bool := decide (f.lv < (f.px i : Int)) && !T i
def mark (T : Nat → Bool) (i : Nat) : Nat → Bool := fun j => if j = i then true else T j
def nextsP (f : Fr) (i : Nat) : List Nat :=
  (if 0 < i % f.wd then [i - 1] else []) ++ (if i % f.wd < f.wd - 1 then [i + 1] else []) ++ (if 0 < i / f.wd then [i - f.wd] else []) ++ (if i / f.wd < f.ht - 1 then [i + f.wd] else [])
def take1 (f : Fr) (s : (Nat → Bool) × List Nat) (j : Nat) : (Nat → Bool) × List Nat := if litP f s.1 j = true then (mark s.1 j, s.2 ++ [j]) else s
def passP (f : Fr) (s : (Nat → Bool) × List Nat) (l : List Nat) : (Nat → Bool) × List Nat := l.foldl (take1 f) s
def growP (f : Fr) (T : Nat → Bool) (i : Nat) : Nat → (Nat → Bool) × List Nat
  | 0 => (mark T i, [i])
  | k + 1 => if k < (growP f T i k).2.length then passP f (growP f T i k) (nextsP f ((growP f T i k).2.getD k 0)) else growP f T i k
/-- how many of the first n are taken -/
def cnt (T : Nat → Bool) : Nat → Nat
  | 0 => 0
  | n + 1 => cnt T n + if T n = true then 1 else 0
theorem cnt_le (T : Nat → Bool) : ∀ n, cnt T n ≤ n
  | 0 => Nat.le_refl _
  | n + 1 => by unfold cnt; have := cnt_le T n; split <;> omega
theorem cnt_mark_ge (T : Nat → Bool) (i : Nat) : ∀ n, n ≤ i → cnt (mark T i) n = cnt T n
  | 0, _ => rfl
  | n + 1, h => by
    have e : mark T i n = T n := by unfold mark; rw [if_neg (by omega)]
    unfold cnt
    rw [cnt_mark_ge T i n (by omega), e]
theorem cnt_mark (T : Nat → Bool) (i : Nat) (hT : T i = false) : ∀ n, i < n → cnt (mark T i) n = cnt T n + 1
  | 0, h => absurd h (Nat.not_lt_zero _)
  | n + 1, h => by
    unfold cnt
    by_cases e : i = n
    · subst e
      rw [cnt_mark_ge T i i (Nat.le_refl _), hT]
      simp [mark]
    · have e2 : mark T i n = T n := by unfold mark; rw [if_neg (by omega)]
      rw [cnt_mark T i hT n (by omega), e2]
      omega
/-- what holds of a state: all that is found lies in the frame and is taken, and as many are taken as were found -/
structure Good (f : Fr) (c : Nat) (s : (Nat → Bool) × List Nat) : Prop where
  num : cnt s.1 f.n = c + s.2.length
  lies : ∀ j ∈ s.2, j < f.n
theorem Good.len {f : Fr} {c : Nat} {s : (Nat → Bool) × List Nat} (h : Good f c s) : c + s.2.length ≤ f.n := by rw [← h.num]; exact cnt_le _ _
theorem litP_yes {f : Fr} {T : Nat → Bool} {j : Nat} (h : litP f T j = true) : f.lv < (f.px j : Int) ∧ T j = false := by
  unfold litP at h
  rw [Bool.and_eq_true] at h
  exact ⟨of_decide_eq_true h.1, by simpa using h.2⟩
theorem take1_good {f : Fr} {c : Nat} {s : (Nat → Bool) × List Nat} (h : Good f c s) {j : Nat} (hj : j < f.n) : Good f c (take1 f s j) := by
  unfold take1
  split
  · rename_i hl
    refine ⟨?_, ?_⟩
    · show cnt (mark s.1 j) f.n = _
      rw [cnt_mark _ _ (litP_yes hl).2 _ hj, h.num]
      simp
      omega
    · intro q hq
      rw [List.mem_append] at hq
      rcases hq with hq | hq
      · exact h.lies q hq
      · rw [List.mem_singleton.1 hq]; exact hj
  · exact h
theorem passP_good {f : Fr} {c : Nat} (l : List Nat) : ∀ {s : (Nat → Bool) × List Nat}, Good f c s → (∀ j ∈ l, j < f.n) → Good f c (passP f s l) := by
  induction l with
  | nil => intro s h _; exact h
  | cons x l ih => intro s h hl; exact ih (take1_good h (hl x (by simp))) (fun j hj => hl j (by simp [hj]))
theorem nexts_in {f : Fr} {i : Nat} (hi : i < f.n) : ∀ j ∈ nextsP f i, j < f.n := by
  intro j hj
  have hw : 0 < f.wd := by
    rcases Nat.eq_zero_or_pos f.wd with h | h
    · rw [Fr.n, h, Nat.zero_mul] at hi; omega
    · exact h
  have hdm := Nat.div_add_mod i f.wd
  have hmod := Nat.mod_lt i hw
  have hdiv : i / f.wd < f.ht := Nat.div_lt_of_lt_mul hi
  unfold nextsP at hj
  simp only [List.mem_append] at hj
  rcases hj with ((hj | hj) | hj) | hj
  · by_cases h : 0 < i % f.wd
    · rw [if_pos h] at hj; rw [List.mem_singleton.1 hj]; omega
    · rw [if_neg h] at hj; cases hj
  · by_cases h : i % f.wd < f.wd - 1
    · rw [if_pos h] at hj
      rw [List.mem_singleton.1 hj]
      have h2 : f.wd * (i / f.wd + 1) ≤ f.wd * f.ht := Nat.mul_le_mul_left _ hdiv
      rw [Nat.mul_add, Nat.mul_one] at h2
      show i + 1 < f.wd * f.ht
      omega
    · rw [if_neg h] at hj; cases hj
  · by_cases h : 0 < i / f.wd
    · rw [if_pos h] at hj; rw [List.mem_singleton.1 hj]; omega
    · rw [if_neg h] at hj; cases hj
  · by_cases h : i / f.wd < f.ht - 1
    · rw [if_pos h] at hj
      rw [List.mem_singleton.1 hj]
      have h3 : i / f.wd + 1 + 1 ≤ f.ht := by
        generalize i / f.wd = q at *
        omega
      have h2 : f.wd * (i / f.wd + 1 + 1) ≤ f.wd * f.ht := Nat.mul_le_mul_left _ h3
      rw [Nat.mul_add, Nat.mul_add, Nat.mul_one] at h2
      show i + f.wd < f.wd * f.ht
      omega
    · rw [if_neg h] at hj; cases hj
theorem growP_good {f : Fr} {T : Nat → Bool} {i : Nat} (hi : i < f.n) (hT : T i = false) : ∀ k, Good f (cnt T f.n) (growP f T i k)
  | 0 => ⟨by show cnt (mark T i) f.n = _; rw [cnt_mark _ _ hT _ hi]; rfl, fun j hj => by rw [List.mem_singleton.1 hj]; exact hi⟩
  | k + 1 => by
    have ih := growP_good hi hT k
    unfold growP
    split
    · rename_i h
      refine passP_good _ ih (nexts_in (ih.lies _ ?_))
      rw [List.getD, List.getElem?_eq_getElem h]
      exact List.getElem_mem h
    · exact ih
/-- what is found stays in its place -/
theorem take1_pre (f : Fr) (s : (Nat → Bool) × List Nat) (j : Nat) : s.2 <+: (take1 f s j).2 := by
  unfold take1
  split
  · exact ⟨[j], rfl⟩
  · exact List.prefix_refl _
theorem passP_pre (f : Fr) (l : List Nat) : ∀ s : (Nat → Bool) × List Nat, s.2 <+: (passP f s l).2 := by
  induction l with
  | nil => intro s; exact List.prefix_refl _
  | cons x l ih => intro s; exact (take1_pre f s x).trans (ih _)
theorem growP_pre (f : Fr) (T : Nat → Bool) (i k : Nat) : (growP f T i k).2 <+: (growP f T i (k + 1)).2 := by
  rw [growP]
  split
  · exact passP_pre _ _ _
  · exact List.prefix_refl _
theorem growP_stay {f : Fr} {T : Nat → Bool} {i k : Nat} (h : (growP f T i k).2.length ≤ k) : ∀ m, growP f T i (k + m) = growP f T i k
  | 0 => rfl
  | m + 1 => by
    have ih := growP_stay h m
    rw [← Nat.add_assoc, growP, ih, if_neg (by omega)]
/-- the whole blob of pixel i -/
def blobP (f : Fr) (T : Nat → Bool) (i : Nat) : (Nat → Bool) × List Nat := growP f T i f.n
theorem blobP_end {f : Fr} {T : Nat → Bool} {i k : Nat} (hi : i < f.n) (hT : T i = false) (hk : (growP f T i k).2.length ≤ k) (hkn : k ≤ f.n) : growP f T i k = blobP f T i := by
  unfold blobP
  rw [← growP_stay hk (f.n - k), show k + (f.n - k) = f.n by omega]
/-- what is told of a blob -/
structure Bl where
  ar : Nat
  su : Nat
  sx : Nat
  sy : Nat
  ed : Bool
def edgeP (f : Fr) (i : Nat) : Bool := decide (i % f.wd = 0) || decide (i / f.wd = 0) || decide (i % f.wd = f.wd - 1) || decide (i / f.wd = f.ht - 1)
def addP (f : Fr) (b : Bl) (i : Nat) : Bl := ⟨b.ar + 1, b.su + f.px i, b.sx + f.px i * (i % f.wd), b.sy + f.px i * (i / f.wd), b.ed || edgeP f i⟩
def sumP (f : Fr) (l : List Nat) : Bl := l.foldl (addP f) ⟨0, 0, 0, 0, false⟩
theorem sumP_snoc (f : Fr) (l : List Nat) (i : Nat) : sumP f (l ++ [i]) = addP f (sumP f l) i := by unfold sumP; rw [List.foldl_append]; rfl
/-- a look along the rows -/
def scanP (f : Fr) : Nat → (Nat → Bool) × List Bl
  | 0 => (fun _ => false, [])
  | i + 1 => if litP f (scanP f i).1 i = true then ((blobP f (scanP f i).1 i).1, (scanP f i).2 ++ [sumP f (blobP f (scanP f i).1 i).2]) else scanP f i
theorem scanP_len (f : Fr) (i : Nat) : ∀ m, (scanP f i).2.length ≤ (scanP f (i + m)).2.length
  | 0 => Nat.le_refl _
  | m + 1 => by
    refine Nat.le_trans (scanP_len f i m) ?_
    rw [← Nat.add_assoc, scanP]
    split
    · simp
    · exact Nat.le_refl _
theorem scanP_most (f : Fr) : ∀ i, (scanP f i).2.length ≤ i
  | 0 => Nat.le_refl _
  | i + 1 => by
    have := scanP_most f i
    rw [scanP]
    split
    · simp; omega
    · omega
theorem fold_bound {f : Fr} (hw : f.wd ≤ 16) (hh : f.ht ≤ 12) (hp : ∀ i, f.px i < 256) : ∀ (l : List Nat) (b : Bl), (∀ j ∈ l, j < f.n) → (l.foldl (addP f) b).ar = b.ar + l.length ∧ (l.foldl (addP f) b).su ≤ b.su + 255 * l.length ∧ (l.foldl (addP f) b).sx ≤ b.sx + 3825 * l.length ∧ (l.foldl (addP f) b).sy ≤ b.sy + 2805 * l.length
  | [], b, _ => ⟨rfl, Nat.le_refl _, Nat.le_refl _, Nat.le_refl _⟩
  | i :: l, b, hl => by
    obtain ⟨h1, h2, h3, h4⟩ := fold_bound hw hh hp l (addP f b i) (fun j hj => hl j (by simp [hj]))
    have hi := hl i (by simp)
    have hpi := hp i
    have hw0 : 0 < f.wd := by
      rcases Nat.eq_zero_or_pos f.wd with h | h
      · rw [Fr.n, h, Nat.zero_mul] at hi; omega
      · exact h
    have hm := Nat.mod_lt i hw0
    have hd : i / f.wd < f.ht := Nat.div_lt_of_lt_mul hi
    have m1 : f.px i * (i % f.wd) ≤ 255 * 15 := Nat.mul_le_mul (by omega) (by omega)
    have m2 : f.px i * (i / f.wd) ≤ 255 * 11 := Nat.mul_le_mul (by omega) (by omega)
    rw [List.foldl_cons, List.length_cons]
    unfold addP at h1 h2 h3 h4 ⊢
    simp only at h1 h2 h3 h4 ⊢
    refine ⟨by omega, by omega, by omega, by omega⟩
theorem sum_bound {f : Fr} (hw : f.wd ≤ 16) (hh : f.ht ≤ 12) (hp : ∀ i, f.px i < 256) (l : List Nat) (hl : ∀ j ∈ l, j < f.n) : (sumP f l).ar = l.length ∧ (sumP f l).su ≤ 255 * l.length ∧ (sumP f l).sx ≤ 3825 * l.length ∧ (sumP f l).sy ≤ 2805 * l.length := by
  have := fold_bound hw hh hp l ⟨0, 0, 0, 0, false⟩ hl
  simpa [sumP] using this
end Go.Proofs.Ytackifnnhjbgbaa
