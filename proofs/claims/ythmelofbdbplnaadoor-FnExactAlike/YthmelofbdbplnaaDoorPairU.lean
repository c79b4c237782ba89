/- The spans so put in stand by rising cosine; those of one cosine are in a row: plain facts. -/
import Derived.Test.YthmelofbdbplnaaDoorPairS
namespace Go.Proofs.YthmelofbdbplnaaDoor
open Go.RowKit Go.Sort
set_option linter.unusedVariables false

def vdot (a b : V3) : Int := dot a.1 a.2.1 a.2.2 b.1 b.2.1 b.2.2
def keyN (s : Sp) : Int := ssq (vdot s.2.1 s.2.2)
def keyD (s : Sp) : Int := vdot s.2.1 s.2.1 * vdot s.2.2 s.2.2
theorem sqR_pos {x y z : Int} (h : rightB x y z = true) : 0 < dot x y z x y z := by
  have hz := (rightB_iff.1 h).2
  have h1 : 0 ≤ x * x := by rcases Int.le_total 0 x with h | h; exact Int.mul_nonneg h h; exact Int.mul_nonneg_of_nonpos_of_nonpos h h
  have h2 : 0 ≤ y * y := by rcases Int.le_total 0 y with h | h; exact Int.mul_nonneg h h; exact Int.mul_nonneg_of_nonpos_of_nonpos h h
  have h3 : 0 ≤ z * z := by rcases Int.le_total 0 z with h | h; exact Int.mul_nonneg h h; exact Int.mul_nonneg_of_nonpos_of_nonpos h h
  unfold dot
  by_cases e : 0 < x * x + y * y + z * z
  · exact e
  · exfalso
    have e1 : x * x = 0 := by omega
    have e2 : y * y = 0 := by omega
    have e3 : z * z = 0 := by omega
    apply hz
    refine ⟨?_, ?_, ?_⟩
    · rcases Int.mul_eq_zero.1 e1 with h | h <;> exact h
    · rcases Int.mul_eq_zero.1 e2 with h | h <;> exact h
    · rcases Int.mul_eq_zero.1 e3 with h | h <;> exact h
theorem wide_right {x y z : Int} (h : wideB x y z = true) : rightB x y z = true := (wideB_iff h).1
def smallS (s : Sp) : Prop := smallV s.2.1 = true ∧ smallV s.2.2 = true
theorem keyD_pos {s : Sp} (h : smallS s) : 0 < keyD s := Int.mul_pos (sqR_pos (wide_right (wide_small h.1))) (sqR_pos (wide_right (wide_small h.2)))
theorem ordI_le {a b : Int} : ordI a b ≤ 0 ↔ a ≤ b := by unfold ordI; repeat' split <;> omega
theorem ordI_ge {a b : Int} : 0 ≤ ordI a b ↔ b ≤ a := by unfold ordI; repeat' split <;> omega
theorem ordI_neg {a b : Int} : ordI a b < 0 ↔ a < b := by unfold ordI; repeat' split <;> omega
theorem cosQ_key {p q : Sp} (hp : smallS p) (hq : smallS q) : cosQ p q = ordI (keyN p * keyD q) (keyN q * keyD p) := by
  unfold cosQ cosI
  rw [wide_small hp.1, wide_small hp.2, show smallB q.2.1.1 q.2.1.2.1 q.2.1.2.2 = true from hq.1, show smallB q.2.2.1 q.2.2.2.1 q.2.2.2.2 = true from hq.2, if_pos (by rfl)]
  rfl
def leS (s t : Sp) : Prop := keyN s * keyD t ≤ keyN t * keyD s
theorem cross_tr {a b c m n k : Int} (hm : 0 < m) (hn : 0 < n) (hk : 0 < k) (h1 : a * n ≤ b * m) (h2 : b * k ≤ c * n) : a * k ≤ c * m := by
  have e1 := Int.mul_le_mul_of_nonneg_right h1 (Int.le_of_lt hk)
  have e2 := Int.mul_le_mul_of_nonneg_right h2 (Int.le_of_lt hm)
  apply Int.le_of_mul_le_mul_right (a := n) _ hn
  have a1 : a * k * n = a * n * k := by rw [Int.mul_right_comm]
  have a2 : c * m * n = c * n * m := by rw [Int.mul_right_comm]
  have a3 : b * m * k = b * k * m := by rw [Int.mul_right_comm]
  rw [a1, a2]
  omega
theorem cross_lt {a b c m n k : Int} (hm : 0 < m) (hn : 0 < n) (hk : 0 < k) (h1 : a * n < b * m) (h2 : b * k ≤ c * n) : a * k < c * m := by
  have e1 := Int.mul_lt_mul_of_pos_right h1 hk
  have e2 := Int.mul_le_mul_of_nonneg_right h2 (Int.le_of_lt hm)
  apply Int.lt_of_mul_lt_mul_right (a := n) _ (Int.le_of_lt hn)
  have a1 : a * k * n = a * n * k := by rw [Int.mul_right_comm]
  have a2 : c * m * n = c * n * m := by rw [Int.mul_right_comm]
  have a3 : b * m * k = b * k * m := by rw [Int.mul_right_comm]
  rw [a1, a2]
  omega
theorem leS.trans {s t u : Sp} (hs : smallS s) (ht : smallS t) (hu : smallS u) (h1 : leS s t) (h2 : leS t u) : leS s u := cross_tr (keyD_pos hs) (keyD_pos ht) (keyD_pos hu) h1 h2
theorem spB_yes {s t : Sp} (hs : smallS s) (ht : smallS t) (h : spB s t = true) : leS s t := by
  unfold spB spanI at h
  have h := of_decide_eq_true h
  have hc : 0 ≤ cosQ t s := by
    by_cases e : cosQ t s = 0
    · omega
    · rw [if_neg e] at h; omega
  rw [cosQ_key ht hs, ordI_ge] at hc
  exact hc
theorem spB_no {s t : Sp} (hs : smallS s) (ht : smallS t) (h : spB s t = false) : leS t s := by
  unfold spB spanI at h
  have h := of_decide_eq_false h
  have hc : cosQ t s ≤ 0 := by
    by_cases e : cosQ t s = 0
    · omega
    · rw [if_neg e] at h; omega
  rw [cosQ_key ht hs, ordI_le] at hc
  exact hc
theorem backS_above (s : Sp) (S : List Sp) : ∀ n i, backS s S n ≤ i → i < n → spB s (spA S i) = true
  | 0, i, _, hi => absurd hi (Nat.not_lt_zero _)
  | n + 1, i, hb, hi => by
    unfold backS at hb
    split at hb
    · rename_i h
      by_cases e : i = n
      · rw [e]; exact h
      · exact backS_above s S n i hb (by omega)
    · omega
theorem backS_at (s : Sp) (S : List Sp) : ∀ n, 0 < backS s S n → spB s (spA S (backS s S n - 1)) = false
  | 0, h => absurd h (by simp [backS])
  | n + 1, h => by
    unfold backS at h ⊢
    split
    · rename_i e
      rw [if_pos e] at h
      exact backS_at s S n h
    · rename_i e
      simpa using e
def sortedS (S : List Sp) : Prop := ∀ i j, i < j → j < S.length → leS (spA S i) (spA S j)
def allSmall (S : List Sp) : Prop := ∀ i, i < S.length → smallS (spA S i)
theorem ins_sorted {s : Sp} {S : List Sp} (hs : smallS s) (hS : allSmall S) (h : sortedS S) : sortedS (insS s S) := by
  intro i j hij hj
  rw [insS_len] at hj
  have hb := backS_le s S S.length
  have ha := backS_above s S S.length
  have hk := backS_at s S S.length
  rw [spA_insS s S (spA S) i (by omega), spA_insS s S (spA S) j (by omega)]
  generalize backS s S S.length = k at *
  have up : ∀ q, k ≤ q → q < S.length → leS s (spA S q) := fun q h1 h2 => spB_yes hs (hS q h2) (ha q h1 h2)
  have dn : ∀ q, q < k → leS (spA S q) s := fun q h1 => by
    have e := spB_no hs (hS (k - 1) (by omega)) (hk (by omega))
    by_cases e2 : q = k - 1
    · rw [e2]; exact e
    · exact leS.trans (hS q (by omega)) (hS (k - 1) (by omega)) hs (h q (k - 1) (by omega) (by omega)) e
  unfold midF
  by_cases i1 : i < k
  · rw [if_pos i1]
    by_cases j1 : j < k
    · rw [if_pos j1]; exact h i j hij (by omega)
    · rw [if_neg j1]
      by_cases j2 : j = k
      · rw [if_pos j2]; exact dn i i1
      · rw [if_neg j2, if_pos (by omega)]; exact h i (j - 1) (by omega) (by omega)
  · rw [if_neg i1, if_neg (show ¬ j < k by omega), if_neg (show ¬ j = k by omega), if_pos (show j ≤ S.length by omega)]
    by_cases i2 : i = k
    · rw [if_pos i2]; exact up (j - 1) (by omega) (by omega)
    · rw [if_neg i2, if_pos (by omega)]; exact h (i - 1) (j - 1) (by omega) (by omega)
theorem good_small {L : List St} (h : skyB L = true) {s : Sp} (hs : goodS L s) : smallS s := by
  obtain ⟨i, j, hi, hj, rfl⟩ := hs
  exact ⟨ok_small ((sky_ok h).2 i hi), ok_small ((sky_ok h).2 j hj)⟩
theorem small_of {L : List St} (h : skyB L = true) {S : List Sp} (hS : ∀ t ∈ S, goodS L t) : allSmall S := fun i hi => good_small h (hS _ (spA_mem hi).1)
theorem row_sorted {L : List St} (h : skyB L = true) {S : List Sp} (hS : ∀ t ∈ S, goodS L t) (hs : sortedS S) {i : Nat} (hi : i < L.length) : ∀ m, i + m < L.length → sortedS (rowS L S i m)
  | 0, _ => hs
  | m + 1, hm => by
    have g := (rowS_map h hS hi m (by omega)).2
    exact ins_sorted (good_small h ⟨i, i + 1 + m, hi, by omega, rfl⟩) (small_of h g) (row_sorted h hS hs hi m (by omega))
theorem all_sorted {L : List St} (h : skyB L = true) : ∀ i, i ≤ L.length → sortedS (allS L i)
  | 0, _ => fun i j _ hj => absurd hj (by simp [allS])
  | i + 1, hi => by
    rw [allS]
    exact row_sorted h (allS_map h i (by omega)).2 (all_sorted h i (by omega)) (by omega) _ (by omega)
/-- the angle between a and b held against that of a span -/
def cosA (a b : V3) (s : Sp) : Int := cosI a.1 a.2.1 a.2.2 b.1 b.2.1 b.2.2 s.2.1.1 s.2.1.2.1 s.2.1.2.2 s.2.2.1 s.2.2.2.1 s.2.2.2.2
def wideV (v : V3) : Bool := wideB v.1 v.2.1 v.2.2
theorem cosA_key {a b : V3} {s : Sp} (ha : wideV a = true) (hb : wideV b = true) (hs : smallS s) : cosA a b s = ordI (ssq (vdot a b) * keyD s) (keyN s * (vdot a a * vdot b b)) := by
  unfold cosA cosI
  rw [show wideB a.1 a.2.1 a.2.2 = true from ha, show wideB b.1 b.2.1 b.2.2 = true from hb, show smallB s.2.1.1 s.2.1.2.1 s.2.1.2.2 = true from hs.1, show smallB s.2.2.1 s.2.2.2.1 s.2.2.2.2 = true from hs.2, if_pos (by rfl)]
  rfl
theorem cosA_le {a b : V3} {s t : Sp} (ha : wideV a = true) (hb : wideV b = true) (hs : smallS s) (ht : smallS t) (h : leS s t) (h1 : cosA a b s ≤ 0) : cosA a b t ≤ 0 := by
  have hd := Int.mul_pos (sqR_pos (wide_right ha)) (sqR_pos (wide_right hb))
  rw [cosA_key ha hb hs, ordI_le] at h1
  rw [cosA_key ha hb ht, ordI_le]
  exact cross_tr hd (keyD_pos hs) (keyD_pos ht) h1 h
theorem cosA_lt {a b : V3} {s t : Sp} (ha : wideV a = true) (hb : wideV b = true) (hs : smallS s) (ht : smallS t) (h : leS s t) (h1 : cosA a b s < 0) : cosA a b t < 0 := by
  have hd := Int.mul_pos (sqR_pos (wide_right ha)) (sqR_pos (wide_right hb))
  rw [cosA_key ha hb hs, ordI_neg] at h1
  rw [cosA_key ha hb ht, ordI_neg]
  exact cross_lt hd (keyD_pos hs) (keyD_pos ht) h1 h
theorem filter_none {α : Type} {p : α → Bool} {l : List α} (h : ∀ x ∈ l, p x = false) : l.filter p = [] := by
  rw [List.filter_eq_nil_iff]
  intro x hx
  rw [h x hx]
  simp
/-- those of one cosine are in a row -/
theorem alike_row {a b : V3} {S : List Sp} (ha : wideV a = true) (hb : wideV b = true) (hS : allSmall S) (hs : sortedS S) {f t : Nat} (hft : f ≤ t) (ht : t ≤ S.length)
    (h1 : ∀ i, i < f → 0 < cosA a b (spA S i)) (h2 : f = S.length ∨ cosA a b (spA S f) ≤ 0) (h3 : ∀ i, f ≤ i → i < t → cosA a b (spA S i) = 0) (h4 : t = S.length ∨ cosA a b (spA S t) ≠ 0) :
    S.filter (fun s => decide (cosA a b s = 0)) = (S.drop f).take (t - f) := by
  have cut : S = S.take f ++ ((S.drop f).take (t - f) ++ S.drop t) := by
    have e : S.drop t = (S.drop f).drop (t - f) := by rw [List.drop_drop]; congr 1; omega
    rw [e, List.take_append_drop, List.take_append_drop]
  have at_ : ∀ {i : Nat} (hi : i < S.length), spA S i = S[i] := fun hi => by unfold spA; rw [List.getD, List.getElem?_eq_getElem hi]; rfl
  have p1 : (S.take f).filter (fun s => decide (cosA a b s = 0)) = [] := filter_none (fun x hx => by
    obtain ⟨i, hi, rfl⟩ := List.getElem_of_mem hx
    have hi' : i < f := by have := hi; simp at this; omega
    have := h1 i hi'
    rw [at_ (by omega)] at this
    rw [List.getElem_take]
    exact decide_eq_false (by omega))
  have p2 : ((S.drop f).take (t - f)).filter (fun s => decide (cosA a b s = 0)) = (S.drop f).take (t - f) := by
    rw [List.filter_eq_self]
    intro x hx
    obtain ⟨i, hi, rfl⟩ := List.getElem_of_mem hx
    have hi' : i < t - f := by have := hi; simp at this; omega
    have := h3 (f + i) (by omega) (by omega)
    rw [at_ (by omega)] at this
    rw [List.getElem_take, List.getElem_drop]
    exact decide_eq_true this
  have p3 : (S.drop t).filter (fun s => decide (cosA a b s = 0)) = [] := filter_none (fun x hx => by
    obtain ⟨i, hi, rfl⟩ := List.getElem_of_mem hx
    have hi' : t + i < S.length := by have := hi; simp at this; omega
    have ht0 : cosA a b (spA S t) < 0 := by
      rcases h4 with h4 | h4
      · omega
      · have : cosA a b (spA S t) ≤ 0 := by
          rcases h2 with h2 | h2
          · omega
          · by_cases e : t = f
            · rw [e]; exact h2
            · exact cosA_le ha hb (hS f (by omega)) (hS t (by omega)) (hs f t (by omega) (by omega)) h2
        omega
    have : cosA a b (spA S (t + i)) < 0 := by
      by_cases e : i = 0
      · rw [e, Nat.add_zero]; exact ht0
      · exact cosA_lt ha hb (hS t (by omega)) (hS (t + i) (by omega)) (hs t (t + i) (by omega) (by omega)) ht0
    rw [at_ (by omega)] at this
    rw [List.getElem_drop]
    exact decide_eq_false (by omega))
  rw [cut, List.filter_append, List.filter_append, p1, p2, p3, List.nil_append, List.append_nil]
  rw [← cut]
end Go.Proofs.YthmelofbdbplnaaDoor
