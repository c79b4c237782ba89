/- Several texts in one: LkM, SceM, TurnG, ModA, ModC, ModD, ModE, ModG, AppO, ModB. -/
import Derived.Deep.RegionHeld
import Derived.Deep.DeepCutAuto
import Derived.Test.YtgiodlllokdcdaaGreatDoorQFnModeOwn9
import Derived.Test.YtgiodlllokdcdaaGreatDoorQFnModeOwn6
import Derived.Test.YtgiodlllokdcdaaGreatDoorQFnModeOwn4
import Derived.Test.YtgiodlllokdcdaaGreatDoorQFnModeOwn5
import Derived.Test.YtgiodlllokdcdaaGreatDoorQFnModeOwn3
import Derived.Test.YtgiodlllokdcdaaGreatDoorQFnModeOwn1
import Derived.Test.YtgiodlllokdcdaaGreatDoorQFnModeOwn8
import Derived.Test.YtgiodlllokdcdaaGreatDoorQFnModeOwn2
namespace Go.Proofs.YtgiodlllokdcdaaGreatDoor
set_option linter.unusedVariables false
set_option linter.unusedSimpArgs false
set_option maxRecDepth 100000
set_option maxHeartbeats 8000000
section
open Go.RowKit Go.Sort
theorem ks {L : List St} {S : List D3} {ids ids' : List Int} (s : Sg) {n : Nat} (h : ∀ i, i < n → ids.getD i 0 = ids'.getD i 0) : fO L S ids s n = fO L S ids' s n := by
 unfold fO
 apply bM
 intro i hi
 have e1 := h i hi
 have e2 : bn L S ids i = bn L S ids' i := by unfold bn; rw [e1]
 rw [e1, e2]
 congr 2
 apply bM
 intro j hj
 have e3 := h j (by omega)
 have e4 : bn L S ids j = bn L S ids' j := by unfold bn; rw [e3]
 rw [e3, e4]
theorem oL {L : List St} {S : List D3} {ids ids' : List Int} {n : Nat} (h : ∀ i, i < n → ids.getD i 0 = ids'.getD i 0) : eR L S ids n = eR L S ids' n := by
 unfold eR
 apply bM
 intro i hi
 have e1 := h i hi
 have e2 : bn L S ids i = bn L S ids' i := by unfold bn; rw [e1]
 rw [e1, e2, ks _ (fun j hj => h j (by omega))]
theorem rL (ids : List Int) (a : Int) {i : Nat} (h : i < ids.length) : (ids ++ [a]).getD i 0 = ids.getD i 0 := by rw [List.getD_eq_getElem?_getD, List.getD_eq_getElem?_getD, List.getElem?_append_left h]
theorem rK (ids : List Int) (a : Int) : (ids ++ [a]).getD ids.length 0 = a := by rw [List.getD_eq_getElem?_getD, List.getElem?_append_right (Nat.le_refl _), Nat.sub_self]; rfl
theorem qi {x y z : Int} (h : aL x y z = true) : eO (x, y, z) = false := by
 have := (bh.1 (bW h).1).2
 unfold eO
 exact decide_eq_false this
theorem uJ {L : List St} (h : aT L = true) {a : Int} (ha : a ∈ L.map (·.1)) : eO (atV L L.length a) = false := by
 obtain ⟨s, hs, rfl⟩ := List.mem_map.1 ha
 obtain ⟨i, hi, rfl⟩ := List.getElem_of_mem hs
 have e : L[i] = stA L i := by unfold stA; rw [List.getD_eq_getElem?_getD, List.getElem?_eq_getElem hi]; rfl
 rw [e, qw h hi]
 exact qi (fj ((cx h).2 i hi))
theorem lY {L : List St} {S : List D3} {ids : List Int} {a : Int} (hk : aT L = true) (h : eR L S ids ids.length = true) (h2 : a = 0 ∨ (a ∈ L.map (·.1) ∧ bV L S ids a = true)) : eR L S (ids ++ [a]) (ids ++ [a]).length = true := by
 have e0 : (ids ++ [a]).length = ids.length + 1 := by simp
 rw [e0]
 unfold eR
 rw [dh]
 have e1 : ((List.range ids.length).all fun i => decide ((ids ++ [a]).getD i 0 = 0) || (!eO (atV L L.length ((ids ++ [a]).getD i 0)) && fO L S (ids ++ [a]) (bn L S (ids ++ [a]) i) i)) = true := by
  have := oL (L := L) (S := S) (ids := ids ++ [a]) (ids' := ids) (n := ids.length) (fun i hi => rL ids a hi)
  unfold eR at this h
  rw [this]
  exact h
 rw [e1, Bool.true_and, rK]
 rcases h2 with rfl | ⟨hm, hf⟩
 ·rfl
 ·have e2 : bn L S (ids ++ [a]) ids.length = (vA S ids.length, (a, atV L L.length a)) := by unfold bn; rw [rK]
  rw [e2, uJ hk hm, ks _ (fun i hi => rL ids a hi)]
  unfold bV at hf
  rw [hf]
  simp
theorem jX {L : List St} {S : List D3} (hk : aT L = true) : ∀ (r : Nat) (ids l : List Int), eR L S ids ids.length = true → l ∈ dR (bV L S) (L.map (·.1)) r ids → eR L S l l.length = true
 | 0, ids, l, h, hl => by
  simp only [dR, List.mem_singleton] at hl
  subst hl
  exact h
 | r + 1, ids, l, h, hl => by
  simp only [dR, List.mem_append, List.mem_flatMap] at hl
  rcases hl with ⟨a, ha, hl⟩ | hl
  ·have := List.mem_filter.1 ha
   exact jX hk r _ l (lY hk h (.inr this)) hl
  ·exact jX hk r _ l (lY hk h (.inl rfl)) hl
theorem ig : ∀ (X : List (List Int)) (g : List Int × Nat), (g.2 = 0 → aJ g.1 < 3) → (X.foldl bT g).2 ≠ 0 → (X.foldl bT g).1 ∈ X ∨ (g.2 ≠ 0 ∧ (X.foldl bT g).1 = g.1)
 | [], g, _, h => .inr ⟨h, rfl⟩
 | x :: X, g, hg, h => by
  rw [List.foldl_cons] at h ⊢
  by_cases c1 : aJ x < 3 ∨ aJ x < aJ g.1
  ·have e : bT g x = g := by unfold bT; rw [if_pos c1]
   rw [e] at h ⊢
   rcases ig X g hg h with h1 | h1
   ·exact .inl (List.mem_cons_of_mem _ h1)
   ·exact .inr h1
  ·by_cases c2 : aJ g.1 < aJ x
   ·have e : bT g x = (x, 1) := by unfold bT; rw [if_neg c1, if_pos c2]
    rw [e] at h ⊢
    rcases ig X (x, 1) (fun h => by cases h) h with h1 | ⟨_, h1⟩
    ·exact .inl (List.mem_cons_of_mem _ h1)
    ·rw [h1]; exact .inl (List.mem_cons_self ..)
   ·have e : bT g x = (g.1, g.2 + 1) := by unfold bT; rw [if_neg c1, if_neg c2]
    have hne : g.2 ≠ 0 := fun e0 => by have := hg e0; omega
    rw [e] at h ⊢
    rcases ig X (g.1, g.2 + 1) (fun h => by cases h) h with h1 | ⟨_, h1⟩
    ·exact .inl (List.mem_cons_of_mem _ h1)
    ·exact .inr ⟨hne, h1⟩
theorem ky {L : List St} {S : List D3} (hk : aT L = true) (hp : aN S = true) (h0 : bk L S = 0) : be L S (bC L S) = true := by
 have hg := iT L S
 have h2 : (bX L S).2 = 1 := by
  rw [hg.2.2] at h0
  by_cases a : (bX L S).2 = 0
  ·rw [if_pos a] at h0; cases h0
  ·rw [if_neg a] at h0
   by_cases b : 1 < (bX L S).2
   ·rw [if_pos b] at h0; cases h0
   ·omega
 rw [hg.1, if_pos h2]
 have hm : (bX L S).1 ∈ dR (bV L S) (L.map (·.1)) S.length [] := by
  rcases ig _ ([], 0) (fun _ => by decide) (show (bX L S).2 ≠ 0 by omega) with h | ⟨h, _⟩
  ·exact h
  ·exact absurd rfl h
 have hn := jX hk S.length [] _ rfl hm
 have hl := ic _ _ _ _ _ hm
 unfold be
 rw [hk, hp, ← lX, hn, decide_eq_true (by simpa using hl)]
 rfl
theorem si {L : List St} {S : List D3} (hk : aT L = true) (hp : aN S = true) (h0 : bk L S = 0) : (if (au L S (bC L S) (bC L S).length).length < 2 then ((0, 0, 0, 0), 10) else dF (au L S (bC L S) (bC L S).length) (az 625)) = fH L S (bC L S) := by
 have hn := ky hk hp h0
 have h12 := (cx hk).1
 have h6 := (bq hp).1
 have hl := (dm hn).2.2.1
 unfold fH
 rw [if_neg (show ¬ (400 < L.length ∨ 400 < S.length ∨ 400 < (bC L S).length) by omega), if_pos hn]
theorem rX {v1 v2 v3 p1 p2 p3 q1 q2 q3 : Int} (hv : ¬ (v1 = 0 ∧ v2 = 0 ∧ v3 = 0)) (a1 : v2 * p3 - v3 * p2 = 0) (a2 : v3 * p1 - v1 * p3 = 0) (a3 : v1 * p2 - v2 * p1 = 0) (b1 : v2 * q3 - v3 * q2 = 0) (b2 : v3 * q1 - v1 * q3 = 0) (b3 : v1 * q2 - v2 * q1 = 0)
  (hp : 0 < dot v1 v2 v3 p1 p2 p3) (hq : 0 < dot v1 v2 v3 q1 q2 q3) : (p2 * q3 - p3 * q2 = 0 ∧ p3 * q1 - p1 * q3 = 0 ∧ p1 * q2 - p2 * q1 = 0) ∧ 0 < dot p1 p2 p3 q1 q2 q3 := by
 have hvv := mu hv
 obtain ⟨V, hV⟩ : ∃ V, dot v1 v2 v3 v1 v2 v3 = V := ⟨_, rfl⟩
 obtain ⟨P, hP⟩ : ∃ P, dot v1 v2 v3 p1 p2 p3 = P := ⟨_, rfl⟩
 obtain ⟨Q, hQ⟩ : ∃ Q, dot v1 v2 v3 q1 q2 q3 = Q := ⟨_, rfl⟩
 have x1 : V * p1 = P * v1 := by rw [← hV, ← hP]; unfold dot; grind
 have x2 : V * p2 = P * v2 := by rw [← hV, ← hP]; unfold dot; grind
 have x3 : V * p3 = P * v3 := by rw [← hV, ← hP]; unfold dot; grind
 have y1 : V * q1 = Q * v1 := by rw [← hV, ← hQ]; unfold dot; grind
 have y2 : V * q2 = Q * v2 := by rw [← hV, ← hQ]; unfold dot; grind
 have y3 : V * q3 = Q * v3 := by rw [← hV, ← hQ]; unfold dot; grind
 rw [hV] at hvv
 rw [hP] at hp
 rw [hQ] at hq
 have hVV := Int.mul_pos hvv hvv
 have z : ∀ x : Int, V * V * x = 0 → x = 0 := fun x h => by
  rcases Int.mul_eq_zero.1 h with e | e
  ·omega
  ·exact e
 refine ⟨⟨z _ (by grind), z _ (by grind), z _ (by grind)⟩, ?_⟩
 have e : V * V * dot p1 p2 p3 q1 q2 q3 = P * Q * V := by
  rw [← hV] at *
  unfold dot at *
  grind
 have hpos := Int.mul_pos (Int.mul_pos hp hq) hvv
 rw [← e] at hpos
 rcases Int.lt_or_le 0 (dot p1 p2 p3 q1 q2 q3) with h | h
 ·exact h
 ·have := Int.mul_le_mul_of_nonneg_left h (Int.le_of_lt hVV)
  simp at this
  omega
theorem mm {a1 a2 a3 b1 b2 b3 : Int} (h : cJ a1 a2 a3 b1 b2 b3 = true) : ay a1 a2 a3 = true ∧ ay b1 b2 b3 = true ∧ (a2 * b3 - a3 * b2 = 0 ∧ a3 * b1 - a1 * b3 = 0 ∧ a1 * b2 - a2 * b1 = 0) ∧ 0 < dot a1 a2 a3 b1 b2 b3 := by
 unfold cJ at h
 simp only [Bool.and_eq_true, decide_eq_true_eq] at h
 obtain ⟨⟨⟨ra, rb⟩, hz⟩, hd⟩ := h
 have a := (bh.1 ra).1
 have b := (bh.1 rb).1
 rw [cg (A := 1000000) (B := 1000000) (aW.2 a) (aW.2 b) (by omega)] at hd
 rw [(dz a.2.1 a.2.2 b.2.1 b.2.2 (by omega)).1, (dz a.2.2 a.1 b.2.2 b.1 (by omega)).1, (dz a.1 a.2.1 b.1 b.2.1 (by omega)).1] at hz
 unfold eT at hz
 exact ⟨ra, rb, of_decide_eq_true hz, hd⟩
theorem uG {a1 a2 a3 b1 b2 b3 : Int} (ra : ay a1 a2 a3 = true) (rb : ay b1 b2 b3 = true) (hc : a2 * b3 - a3 * b2 = 0 ∧ a3 * b1 - a1 * b3 = 0 ∧ a1 * b2 - a2 * b1 = 0) (hd : 0 < dot a1 a2 a3 b1 b2 b3) : cJ a1 a2 a3 b1 b2 b3 = true := by
 have a := (bh.1 ra).1
 have b := (bh.1 rb).1
 unfold cJ
 rw [ra, rb, (dz a.2.1 a.2.2 b.2.1 b.2.2 (by omega)).1, (dz a.2.2 a.1 b.2.2 b.1 (by omega)).1, (dz a.1 a.2.1 b.1 b.2.1 (by omega)).1, cg (A := 1000000) (B := 1000000) (aW.2 a) (aW.2 b) (by omega), hc.1, hc.2.1, hc.2.2]
 simp [eT, hd]
theorem ue {x y z : Int} (h : x * x + y * y + z * z = 0) : x = 0 ∧ y = 0 ∧ z = 0 := by
 have h1 := sqn x
 have h2 := sqn y
 have h3 := sqn z
 have e1 : x * x = 0 := by omega
 have e2 : y * y = 0 := by omega
 have e3 : z * z = 0 := by omega
 refine ⟨?_, ?_, ?_⟩
 ·rcases Int.mul_eq_zero.1 e1 with e | e <;> exact e
 ·rcases Int.mul_eq_zero.1 e2 with e | e <;> exact e
 ·rcases Int.mul_eq_zero.1 e3 with e | e <;> exact e
theorem um {a b c d s1 s2 s3 t1 t2 t3 : Int} (ht : aC a b c d = true) (hs : ay s1 s2 s3 = true) (hu : ay t1 t2 t3 = true)
  (h : (apY a b c d s1 s2 s3 * apZ a b c d t1 t2 t3 - apZ a b c d s1 s2 s3 * apY a b c d t1 t2 t3 = 0 ∧ apZ a b c d s1 s2 s3 * apX a b c d t1 t2 t3 - apX a b c d s1 s2 s3 * apZ a b c d t1 t2 t3 = 0 ∧ apX a b c d s1 s2 s3 * apY a b c d t1 t2 t3 - apY a b c d s1 s2 s3 * apX a b c d t1 t2 t3 = 0) ∧ 0 < dot (apX a b c d s1 s2 s3) (apY a b c d s1 s2 s3) (apZ a b c d s1 s2 s3) (apX a b c d t1 t2 t3) (apY a b c d t1 t2 t3) (apZ a b c d t1 t2 t3)) : cJ s1 s2 s3 t1 t2 t3 = true := by
 have hp := tN (ki ht)
 obtain ⟨⟨h1, h2, h3⟩, h4⟩ := h
 have d1 := nY a b c d s1 s2 s3 t1 t2 t3
 have d2 := nY a b c d s1 s2 s3 s1 s2 s3
 have d3 := nY a b c d t1 t2 t3 t1 t2 t3
 generalize apX a b c d s1 s2 s3 = p1 at *
 generalize apY a b c d s1 s2 s3 = p2 at *
 generalize apZ a b c d s1 s2 s3 = p3 at *
 generalize apX a b c d t1 t2 t3 = q1 at *
 generalize apY a b c d t1 t2 t3 = q2 at *
 generalize apZ a b c d t1 t2 t3 = q3 at *
 generalize nT a b c d = N at *
 have hNN := Int.mul_pos hp hp
 have hN4 := Int.mul_pos hNN hNN
 have lag : dot p1 p2 p3 p1 p2 p3 * dot q1 q2 q3 q1 q2 q3 = dot p1 p2 p3 q1 q2 q3 * dot p1 p2 p3 q1 q2 q3 := by
  have e : dot p1 p2 p3 p1 p2 p3 * dot q1 q2 q3 q1 q2 q3 - dot p1 p2 p3 q1 q2 q3 * dot p1 p2 p3 q1 q2 q3 = (p2 * q3 - p3 * q2) * (p2 * q3 - p3 * q2) + (p3 * q1 - p1 * q3) * (p3 * q1 - p1 * q3) + (p1 * q2 - p2 * q1) * (p1 * q2 - p2 * q1) := by unfold dot; grind
  rw [h1, h2, h3] at e
  omega
 rw [d1, d2, d3] at lag
 have e0 : N * N * (N * N) * (dot s1 s2 s3 s1 s2 s3 * dot t1 t2 t3 t1 t2 t3 - dot s1 s2 s3 t1 t2 t3 * dot s1 s2 s3 t1 t2 t3) = 0 := by
  generalize dot s1 s2 s3 s1 s2 s3 = x at *
  generalize dot t1 t2 t3 t1 t2 t3 = y at *
  generalize dot s1 s2 s3 t1 t2 t3 = z at *
  grind
 have e1 : dot s1 s2 s3 s1 s2 s3 * dot t1 t2 t3 t1 t2 t3 - dot s1 s2 s3 t1 t2 t3 * dot s1 s2 s3 t1 t2 t3 = 0 := by
  rcases Int.mul_eq_zero.1 e0 with e | e
  ·omega
  ·exact e
 have e2 : (s2 * t3 - s3 * t2) * (s2 * t3 - s3 * t2) + (s3 * t1 - s1 * t3) * (s3 * t1 - s1 * t3) + (s1 * t2 - s2 * t1) * (s1 * t2 - s2 * t1) = 0 := by
  rw [← e1]; unfold dot; grind
 refine uG hs hu (ue e2) ?_
 rw [d1] at h4
 rcases Int.lt_or_le 0 (dot s1 s2 s3 t1 t2 t3) with h | h
 ·exact h
 ·have := Int.mul_le_mul_of_nonneg_left h (Int.le_of_lt hNN)
  simp at this
  omega
theorem sV {L : List St} (h : aT L = true) {i j : Nat} (hi : i < L.length) (hj : j < i) : kF (stA L i) (stA L j) = false := by
 have := (cx h).2 i hi
 unfold dN at this
 simp only [Bool.and_eq_true] at this
 have h2 : dL L (stA L i) i = false := by simpa using this.2
 unfold dL at h2
 rw [List.any_eq_false] at h2
 have := h2 j (List.mem_range.2 hj)
 simpa using this
theorem oy {L : List St} {a b c d : Int} {v : D3} (hk : aT L = true) (ht : aC a b c d = true) {i j : Nat} (hi : i < L.length) (hj : j < i) (h1 : bg v (apD a b c d (stA L i).2) = true) : bg v (apD a b c d (stA L j).2) = false := by
 cases h2 : bg v (apD a b c d (stA L j).2)
 ·rfl
 ·exfalso
  unfold bg apD at h1 h2
  obtain ⟨rv, _, ⟨b1, b2, b3⟩, b4⟩ := mm h1
  obtain ⟨_, _, ⟨c1, c2, c3⟩, c4⟩ := mm h2
  have := rX (bh.1 rv).2 b1 b2 b3 c1 c2 c3 b4 c4
  have e := um ht (bW (fj ((cx hk).2 i hi))).1 (bW (fj ((cx hk).2 j (by omega)))).1 this
  have := sV hk hi hj
  unfold kF at this
  rw [this] at e
  cases e
theorem nw {L : List St} {a b c d : Int} {v : D3} : ∀ k, (∀ j, j < k → bg v (apD a b c d (stA L j).2) = false) → dH L a b c d v k = 0
 | 0, _ => rfl
 | k + 1, h => by
  unfold dH
  rw [nw k (fun j hj => h j (by omega)), h k (by omega)]
  rfl
theorem tG {L : List St} (h : aT L = true) {i : Nat} (hi : i < L.length) : (stA L i).1 ≠ 0 := by
 have := (cx h).2 i hi
 unfold dN idB at this
 simp only [Bool.and_eq_true, decide_eq_true_eq] at this
 omega
theorem rD {L : List St} {a b c d : Int} {v : D3} (hk : aT L = true) (ht : aC a b c d = true) : ∀ k, k ≤ L.length → dH L a b c d v k = if de L a b c d v k ≠ 0 then 1 else 0
 | 0, _ => rfl
 | k + 1, h => by
  unfold dH de
  cases hs : bg v (apD a b c d (stA L k).2)
  ·rw [rD hk ht k (by omega)]
   simp
  ·rw [nw k (fun j hj => oy hk ht (show k < L.length by omega) hj hs)]
   simp [tG hk (show k < L.length by omega)]
theorem tE {L : List St} {a b c d : Int} {S : List D3} (hk : aT L = true) (ht : aC a b c d = true) (hp : aN S = true) : dY L a b c d S L.length S.length = aJ (aV L a b c d S) := by
 rw [jW hk ht hp]
 have : ∀ i, i ≤ S.length → dY L a b c d S L.length i = aJ ((S.map (fun v => de L a b c d v L.length)).take i) := by
  intro i
  induction i with
  | zero => intro _; rfl
  | succ i ih =>
   intro hi
   have hi' : i < (S.map (fun v => de L a b c d v L.length)).length := by rw [List.length_map]; omega
   rw [ie _ hi', ← ih (by omega)]
   show dY L a b c d S L.length i + dH L a b c d (vA S i) L.length = _
   rw [rD hk ht _ (Nat.le_refl _)]
   have e : (S.map (fun v => de L a b c d v L.length)).getD i 0 = de L a b c d (vA S i) L.length := by
    unfold vA
    rw [List.getD_eq_getElem?_getD, List.getElem?_map, List.getElem?_eq_getElem (show i < S.length by omega), List.getD_eq_getElem?_getD, List.getElem?_eq_getElem (show i < S.length by omega)]
    rfl
   rw [e]
 have h := this S.length (Nat.le_refl _)
 rw [h, List.take_of_length_le (by rw [List.length_map]; exact Nat.le_refl _)]
end
section
open Go.RowKit
theorem ux {L : List St} {a b c d : Int} {v : D3} (hk : aT L = true) (ht : aC a b c d = true) {i j : Nat} (hi : i < L.length) (hj : j < L.length) (h1 : bg v (apD a b c d (stA L i).2) = true) (h2 : bg v (apD a b c d (stA L j).2) = true) : i = j := by
 rcases Nat.lt_trichotomy i j with h | h | h
 ·rw [oy hk ht hj h h2] at h1; cases h1
 ·exact h
 ·rw [oy hk ht hi h h1] at h2; cases h2
theorem tF {L : List St} {a b c d : Int} {v : D3} (hk : aT L = true) (ht : aC a b c d = true) {i : Nat} (h : bg v (apD a b c d (stA L i).2) = true) : ∀ k, i < k → k ≤ L.length → de L a b c d v k = (stA L i).1
 | 0, h0, _ => by omega
 | k + 1, h0, hl => by
  unfold de
  cases hs : bg v (apD a b c d (stA L k).2)
  ·have : i ≠ k := fun e => by rw [e, hs] at h; cases h
   rw [if_neg (by simp)]
   exact tF hk ht h k (by omega) (by omega)
  ·rw [if_pos rfl, ux hk ht (show i < L.length by omega) (show k < L.length by omega) h hs]
end
section
open Go.RowKit Go.Sort
theorem kY {s1 s2 s3 s4 t1 t2 t3 t4 : Int} (h : coR s1 s2 s3 s4 t1 t2 t3 t4 = false) : Value.agg #[.int .i64 (coP s1 s2 s3 s4 t1 t2 t3 t4 (coA s1 s2 s3 s4 t1 t2 t3 t4)), .int .i64 (coP s1 s2 s3 s4 t1 t2 t3 t4 (coB s1 s2 s3 s4 t1 t2 t3 t4)), .int .i64 (coP s1 s2 s3 s4 t1 t2 t3 t4 (coC s1 s2 s3 s4 t1 t2 t3 t4)), .int .i64 (coP s1 s2 s3 s4 t1 t2 t3 t4 (coD s1 s2 s3 s4 t1 t2 t3 t4)), .int .i64 (coK s1 s2 s3 s4 t1 t2 t3 t4)] = Value.agg #[.int .i64 0, .int .i64 0, .int .i64 0, .int .i64 0, .int .i64 1] := by
 unfold coP coK
 rw [h]; rfl
theorem tm {s1 s2 s3 s4 t1 t2 t3 t4 : Int} (h : coR s1 s2 s3 s4 t1 t2 t3 t4 = true) : Value.agg #[.int .i64 (coP s1 s2 s3 s4 t1 t2 t3 t4 (coA s1 s2 s3 s4 t1 t2 t3 t4)), .int .i64 (coP s1 s2 s3 s4 t1 t2 t3 t4 (coB s1 s2 s3 s4 t1 t2 t3 t4)), .int .i64 (coP s1 s2 s3 s4 t1 t2 t3 t4 (coC s1 s2 s3 s4 t1 t2 t3 t4)), .int .i64 (coP s1 s2 s3 s4 t1 t2 t3 t4 (coD s1 s2 s3 s4 t1 t2 t3 t4)), .int .i64 (coK s1 s2 s3 s4 t1 t2 t3 t4)] = Value.agg #[.int .i64 (ofP (coA s1 s2 s3 s4 t1 t2 t3 t4) (coB s1 s2 s3 s4 t1 t2 t3 t4) (coC s1 s2 s3 s4 t1 t2 t3 t4) (coD s1 s2 s3 s4 t1 t2 t3 t4) (coA s1 s2 s3 s4 t1 t2 t3 t4)), .int .i64 (ofP (coA s1 s2 s3 s4 t1 t2 t3 t4) (coB s1 s2 s3 s4 t1 t2 t3 t4) (coC s1 s2 s3 s4 t1 t2 t3 t4) (coD s1 s2 s3 s4 t1 t2 t3 t4) (coB s1 s2 s3 s4 t1 t2 t3 t4)), .int .i64 (ofP (coA s1 s2 s3 s4 t1 t2 t3 t4) (coB s1 s2 s3 s4 t1 t2 t3 t4) (coC s1 s2 s3 s4 t1 t2 t3 t4) (coD s1 s2 s3 s4 t1 t2 t3 t4) (coC s1 s2 s3 s4 t1 t2 t3 t4)), .int .i64 (ofP (coA s1 s2 s3 s4 t1 t2 t3 t4) (coB s1 s2 s3 s4 t1 t2 t3 t4) (coC s1 s2 s3 s4 t1 t2 t3 t4) (coD s1 s2 s3 s4 t1 t2 t3 t4) (coD s1 s2 s3 s4 t1 t2 t3 t4)), .int .i64 (ofC (coA s1 s2 s3 s4 t1 t2 t3 t4) (coB s1 s2 s3 s4 t1 t2 t3 t4) (coC s1 s2 s3 s4 t1 t2 t3 t4) (coD s1 s2 s3 s4 t1 t2 t3 t4))] := by
 unfold coP coK
 rw [h]; rfl
theorem rS (s1 s2 s3 s4 t1 t2 t3 t4 : Int) (w : World) (hs : inT 5 s1 s2 s3 s4 = true) (ht : inT 5 t1 t2 t3 t4 = true) :
  Calls Tryz.prog 105 #[.agg #[.int .i64 s1, .int .i64 s2, .int .i64 s3, .int .i64 s4], .agg #[.int .i64 t1, .int .i64 t2, .int .i64 t3, .int .i64 t4]] w fun e w' => e = .returned (.agg #[.int .i64 (coA s1 s2 s3 s4 t1 t2 t3 t4), .int .i64 (coB s1 s2 s3 s4 t1 t2 t3 t4), .int .i64 (coC s1 s2 s3 s4 t1 t2 t3 t4), .int .i64 (coD s1 s2 s3 s4 t1 t2 t3 t4)]) ∧ Below w.heap.size w w' := by
 have HA := yz (uP hs ht).1
 have HB := yz (uQ hs ht).1
 have HC := yz (uR hs ht).1
 have HD := yz (uS hs ht).1
 clear hs ht
 go_enter Tryz.func105, Tryz.ntmps105
 go_wp2
 rw [yy HA, yy HB, yy HC, yy HD]
 exact bodyPost_ret (v := .agg #[.int .i64 (coA s1 s2 s3 s4 t1 t2 t3 t4), .int .i64 (coB s1 s2 s3 s4 t1 t2 t3 t4), .int .i64 (coC s1 s2 s3 s4 t1 t2 t3 t4), .int .i64 (coD s1 s2 s3 s4 t1 t2 t3 t4)]) (by simp [results, Tryz.results105, go_sem]) rfl ⟨rfl, dp _ _ _ _⟩
theorem gR (s1 s2 s3 s4 t1 t2 t3 t4 : Int) (w : World) (hs : inT 5 s1 s2 s3 s4 = true) (ht : inT 5 t1 t2 t3 t4 = true) :
  Calls Tryz.prog 44 #[.agg #[.int .i64 s1, .int .i64 s2, .int .i64 s3, .int .i64 s4], .agg #[.int .i64 t1, .int .i64 t2, .int .i64 t3, .int .i64 t4]] w fun e w' => e = .returned (.agg #[.int .i64 (ofP (coA s1 s2 s3 s4 t1 t2 t3 t4) (coB s1 s2 s3 s4 t1 t2 t3 t4) (coC s1 s2 s3 s4 t1 t2 t3 t4) (coD s1 s2 s3 s4 t1 t2 t3 t4) (coA s1 s2 s3 s4 t1 t2 t3 t4)), .int .i64 (ofP (coA s1 s2 s3 s4 t1 t2 t3 t4) (coB s1 s2 s3 s4 t1 t2 t3 t4) (coC s1 s2 s3 s4 t1 t2 t3 t4) (coD s1 s2 s3 s4 t1 t2 t3 t4) (coB s1 s2 s3 s4 t1 t2 t3 t4)), .int .i64 (ofP (coA s1 s2 s3 s4 t1 t2 t3 t4) (coB s1 s2 s3 s4 t1 t2 t3 t4) (coC s1 s2 s3 s4 t1 t2 t3 t4) (coD s1 s2 s3 s4 t1 t2 t3 t4) (coC s1 s2 s3 s4 t1 t2 t3 t4)), .int .i64 (ofP (coA s1 s2 s3 s4 t1 t2 t3 t4) (coB s1 s2 s3 s4 t1 t2 t3 t4) (coC s1 s2 s3 s4 t1 t2 t3 t4) (coD s1 s2 s3 s4 t1 t2 t3 t4) (coD s1 s2 s3 s4 t1 t2 t3 t4)), .int .i64 (ofC (coA s1 s2 s3 s4 t1 t2 t3 t4) (coB s1 s2 s3 s4 t1 t2 t3 t4) (coC s1 s2 s3 s4 t1 t2 t3 t4) (coD s1 s2 s3 s4 t1 t2 t3 t4))]) ∧ Below w.heap.size w w' := by
 have HA := yz (uP hs ht).1
 have HB := yz (uQ hs ht).1
 have HC := yz (uR hs ht).1
 have HD := yz (uS hs ht).1
 clear hs ht
 go_enter Tryz.func44, Tryz.ntmps44
 go_wp2_with fail
 rw [yy HA, yy HB, yy HC, yy HD]
 refine (gY _ _ _ _ _).mono ?_
 rintro e w1 ⟨rfl, hx⟩
 have vr : bZ w1 (w.heap.size + 1 + 1) 0 0 0 0 0 := (by simpa using cf ((w.alloc _).alloc _) 0 0 0 0 0 _ : bZ _ (w.heap.size + 1 + 1) 0 0 0 0 0).kept hx
 have fr : ft w1 (w.heap.size + 1 + 1) := (by simpa using fb ((w.alloc _).alloc _) 0 0 0 0 0 _ : ft _ (w.heap.size + 1 + 1)).kept (by simp) hx
 have hB : Below w.heap.size w w1 := aj (dp _ _ _ _) hx
 clear hx HA HB HC HD
 obtain ⟨cr0, cr1, cr2, cr3, cr4⟩ := vr
 obtain ⟨fr0, fr1, fr2, fr3, fr4⟩ := fr
 go_wp2_with fail
 exact bodyPost_ret (v := .agg #[.int .i64 (ofP (coA s1 s2 s3 s4 t1 t2 t3 t4) (coB s1 s2 s3 s4 t1 t2 t3 t4) (coC s1 s2 s3 s4 t1 t2 t3 t4) (coD s1 s2 s3 s4 t1 t2 t3 t4) (coA s1 s2 s3 s4 t1 t2 t3 t4)), .int .i64 (ofP (coA s1 s2 s3 s4 t1 t2 t3 t4) (coB s1 s2 s3 s4 t1 t2 t3 t4) (coC s1 s2 s3 s4 t1 t2 t3 t4) (coD s1 s2 s3 s4 t1 t2 t3 t4) (coB s1 s2 s3 s4 t1 t2 t3 t4)), .int .i64 (ofP (coA s1 s2 s3 s4 t1 t2 t3 t4) (coB s1 s2 s3 s4 t1 t2 t3 t4) (coC s1 s2 s3 s4 t1 t2 t3 t4) (coD s1 s2 s3 s4 t1 t2 t3 t4) (coC s1 s2 s3 s4 t1 t2 t3 t4)), .int .i64 (ofP (coA s1 s2 s3 s4 t1 t2 t3 t4) (coB s1 s2 s3 s4 t1 t2 t3 t4) (coC s1 s2 s3 s4 t1 t2 t3 t4) (coD s1 s2 s3 s4 t1 t2 t3 t4) (coD s1 s2 s3 s4 t1 t2 t3 t4)), .int .i64 (ofC (coA s1 s2 s3 s4 t1 t2 t3 t4) (coB s1 s2 s3 s4 t1 t2 t3 t4) (coC s1 s2 s3 s4 t1 t2 t3 t4) (coD s1 s2 s3 s4 t1 t2 t3 t4))]) (by simp [results, Tryz.results44, go_sem, cr0, cr1, cr2, cr3, cr4]) rfl ⟨rfl, aZ hB (by omega) _ _ _ _ _⟩
theorem pp (s1 s2 s3 s4 t1 t2 t3 t4 : Int) (w : World) :
  Calls Tryz.prog 78 #[.agg #[.int .i64 s1, .int .i64 s2, .int .i64 s3, .int .i64 s4], .agg #[.int .i64 t1, .int .i64 t2, .int .i64 t3, .int .i64 t4]] w fun e w' => e = .returned (.agg #[.int .i64 (coP s1 s2 s3 s4 t1 t2 t3 t4 (coA s1 s2 s3 s4 t1 t2 t3 t4)), .int .i64 (coP s1 s2 s3 s4 t1 t2 t3 t4 (coB s1 s2 s3 s4 t1 t2 t3 t4)), .int .i64 (coP s1 s2 s3 s4 t1 t2 t3 t4 (coC s1 s2 s3 s4 t1 t2 t3 t4)), .int .i64 (coP s1 s2 s3 s4 t1 t2 t3 t4 (coD s1 s2 s3 s4 t1 t2 t3 t4)), .int .i64 (coK s1 s2 s3 s4 t1 t2 t3 t4)]) ∧ Below w.heap.size w w' := by
 go_enter Tryz.func78, Tryz.ntmps78
 go_wp2_with fail
 refine (bw s1 s2 s3 s4 _).mono ?_
 rintro e w1 ⟨rfl, hx⟩
 have va : aI w1 w.heap.size s1 s2 s3 s4 := (((aO w s1 s2 s3 s4 _).alloc _).alloc _).kept (by simp; omega) hx
 have vb : aI w1 (w.heap.size + 1) t1 t2 t3 t4 := ((by simpa using aO (w.alloc _) t1 t2 t3 t4 _ : aI _ (w.heap.size + 1) t1 t2 t3 t4).alloc _).kept (by simp) hx
 have vr : bZ w1 (w.heap.size + 1 + 1) 0 0 0 0 0 := (by simpa using cf ((w.alloc _).alloc _) 0 0 0 0 0 _ : bZ _ (w.heap.size + 1 + 1) 0 0 0 0 0).kept hx
 have fr : ft w1 (w.heap.size + 1 + 1) := (by simpa using fb ((w.alloc _).alloc _) 0 0 0 0 0 _ : ft _ (w.heap.size + 1 + 1)).kept (by simp) hx
 have hB : Below w.heap.size w w1 := aj (dp _ _ _ _) hx
 clear hx
 cases h1 : aC s1 s2 s3 s4
 ·have HR := yz (kY (s1 := s1) (s2 := s2) (s3 := s3) (s4 := s4) (t1 := t1) (t2 := t2) (t3 := t3) (t4 := t4) (by rw [coR, h1]; rfl))
  obtain ⟨cr0, cr1, cr2, cr3, cr4⟩ := vr
  obtain ⟨fr0, fr1, fr2, fr3, fr4⟩ := fr
  go_wp2_with fail
  exact bodyPost_ret (v := .agg #[.int .i64 0, .int .i64 0, .int .i64 0, .int .i64 0, .int .i64 1]) (by simp [results, Tryz.results78, go_sem, cr0, cr1, cr2, cr3, cr4]) rfl ⟨by rw [yy HR], aZ hB (by omega) _ _ _ _ _⟩
 ·have wa := va
  have wb := vb
  obtain ⟨ca0, ca1, ca2, ca3⟩ := wa
  obtain ⟨cb0, cb1, cb2, cb3⟩ := wb
  go_wp2_with fail
  clear ca0 ca1 ca2 ca3 cb0 cb1 cb2 cb3
  refine (bw t1 t2 t3 t4 _).mono ?_
  rintro e w2 ⟨rfl, hx⟩
  have hlt := vr.lt
  replace va := va.kept va.lt hx
  replace vb := vb.kept vb.lt hx
  replace vr := vr.kept hx
  replace fr := fr.kept hlt hx
  replace hB := aj hB hx
  clear hx hlt
  cases h2 : aC t1 t2 t3 t4
  ·have HR := yz (kY (s1 := s1) (s2 := s2) (s3 := s3) (s4 := s4) (t1 := t1) (t2 := t2) (t3 := t3) (t4 := t4) (by rw [coR, h1, h2]; rfl))
   obtain ⟨cr0, cr1, cr2, cr3, cr4⟩ := vr
   obtain ⟨fr0, fr1, fr2, fr3, fr4⟩ := fr
   go_wp2_with fail
   exact bodyPost_ret (v := .agg #[.int .i64 0, .int .i64 0, .int .i64 0, .int .i64 0, .int .i64 1]) (by simp [results, Tryz.results78, go_sem, cr0, cr1, cr2, cr3, cr4]) rfl ⟨by rw [yy HR], aZ hB (by omega) _ _ _ _ _⟩
  ·have wa := va
   have wb := vb
   obtain ⟨ca0, ca1, ca2, ca3⟩ := wa
   obtain ⟨cb0, cb1, cb2, cb3⟩ := wb
   go_wp2_with fail
   clear ca0 ca1 ca2 ca3 cb0 cb1 cb2 cb3
   have HR := yz (tm (s1 := s1) (s2 := s2) (s3 := s3) (s4 := s4) (t1 := t1) (t2 := t2) (t3 := t3) (t4 := t4) (by rw [coR, h1, h2]; rfl))
   refine (rS s1 s2 s3 s4 t1 t2 t3 t4 _ (bE.1 h1).1 (bE.1 h2).1).mono ?_
   rintro e w3 ⟨rfl, hx⟩
   have hlt := vr.lt
   replace vr := (vr.kept hx).alloc (.cells #[.int .i64 (coA s1 s2 s3 s4 t1 t2 t3 t4), .int .i64 (coB s1 s2 s3 s4 t1 t2 t3 t4), .int .i64 (coC s1 s2 s3 s4 t1 t2 t3 t4), .int .i64 (coD s1 s2 s3 s4 t1 t2 t3 t4)] 25)
   replace fr := (fr.kept hlt hx).kept (Nat.lt_of_lt_of_le hlt hx.size) (an _ (.cells #[.int .i64 (coA s1 s2 s3 s4 t1 t2 t3 t4), .int .i64 (coB s1 s2 s3 s4 t1 t2 t3 t4), .int .i64 (coC s1 s2 s3 s4 t1 t2 t3 t4), .int .i64 (coD s1 s2 s3 s4 t1 t2 t3 t4)] 25))
   replace hB := (aj hB hx).alloc (aj hB hx).size (.cells #[.int .i64 (coA s1 s2 s3 s4 t1 t2 t3 t4), .int .i64 (coB s1 s2 s3 s4 t1 t2 t3 t4), .int .i64 (coC s1 s2 s3 s4 t1 t2 t3 t4), .int .i64 (coD s1 s2 s3 s4 t1 t2 t3 t4)] 25)
   clear hx hlt va vb
   go_wp2_with fail
   refine (rg _ _ _ _ _).mono ?_
   rintro e w4 ⟨rfl, hx⟩
   have hlt := vr.lt
   replace vr := vr.kept hx
   replace fr := fr.kept hlt hx
   replace hB := aj hB hx
   clear hx hlt
   obtain ⟨cr0, cr1, cr2, cr3, cr4⟩ := vr
   obtain ⟨fr0, fr1, fr2, fr3, fr4⟩ := fr
   go_wp2_with fail
   exact bodyPost_ret (v := .agg #[.int .i64 (ofP (coA s1 s2 s3 s4 t1 t2 t3 t4) (coB s1 s2 s3 s4 t1 t2 t3 t4) (coC s1 s2 s3 s4 t1 t2 t3 t4) (coD s1 s2 s3 s4 t1 t2 t3 t4) (coA s1 s2 s3 s4 t1 t2 t3 t4)), .int .i64 (ofP (coA s1 s2 s3 s4 t1 t2 t3 t4) (coB s1 s2 s3 s4 t1 t2 t3 t4) (coC s1 s2 s3 s4 t1 t2 t3 t4) (coD s1 s2 s3 s4 t1 t2 t3 t4) (coB s1 s2 s3 s4 t1 t2 t3 t4)), .int .i64 (ofP (coA s1 s2 s3 s4 t1 t2 t3 t4) (coB s1 s2 s3 s4 t1 t2 t3 t4) (coC s1 s2 s3 s4 t1 t2 t3 t4) (coD s1 s2 s3 s4 t1 t2 t3 t4) (coC s1 s2 s3 s4 t1 t2 t3 t4)), .int .i64 (ofP (coA s1 s2 s3 s4 t1 t2 t3 t4) (coB s1 s2 s3 s4 t1 t2 t3 t4) (coC s1 s2 s3 s4 t1 t2 t3 t4) (coD s1 s2 s3 s4 t1 t2 t3 t4) (coD s1 s2 s3 s4 t1 t2 t3 t4)), .int .i64 (ofC (coA s1 s2 s3 s4 t1 t2 t3 t4) (coB s1 s2 s3 s4 t1 t2 t3 t4) (coC s1 s2 s3 s4 t1 t2 t3 t4) (coD s1 s2 s3 s4 t1 t2 t3 t4))]) (by simp [results, Tryz.results78, go_sem, cr0, cr1, cr2, cr3, cr4]) rfl ⟨by rw [yy HR], aZ hB (by omega) _ _ _ _ _⟩
theorem kU (s1 s2 s3 s4 t1 t2 t3 t4 : Int) (w : World) :
  Calls Tryz.prog 21 #[.agg #[.int .i64 s1, .int .i64 s2, .int .i64 s3, .int .i64 s4], .agg #[.int .i64 t1, .int .i64 t2, .int .i64 t3, .int .i64 t4]] w fun e w' => e = .returned (.agg #[.int .i64 (coP s1 s2 s3 s4 t1 t2 t3 t4 (coA s1 s2 s3 s4 t1 t2 t3 t4)), .int .i64 (coP s1 s2 s3 s4 t1 t2 t3 t4 (coB s1 s2 s3 s4 t1 t2 t3 t4)), .int .i64 (coP s1 s2 s3 s4 t1 t2 t3 t4 (coC s1 s2 s3 s4 t1 t2 t3 t4)), .int .i64 (coP s1 s2 s3 s4 t1 t2 t3 t4 (coD s1 s2 s3 s4 t1 t2 t3 t4)), .int .i64 (coK s1 s2 s3 s4 t1 t2 t3 t4)]) ∧ Below w.heap.size w w' := by
 go_enter Tryz.func21, Tryz.ntmps21
 go_wp2_with fail
 refine (bc s1 s2 s3 s4 _).mono ?_
 rintro e w1 ⟨rfl, hx⟩
 have va : aI w1 w.heap.size s1 s2 s3 s4 := (((aO w s1 s2 s3 s4 _).alloc _).alloc _).kept (by simp; omega) hx
 have vb : aI w1 (w.heap.size + 1) t1 t2 t3 t4 := ((by simpa using aO (w.alloc _) t1 t2 t3 t4 _ : aI _ (w.heap.size + 1) t1 t2 t3 t4).alloc _).kept (by simp) hx
 have vr : bZ w1 (w.heap.size + 1 + 1) 0 0 0 0 0 := (by simpa using cf ((w.alloc _).alloc _) 0 0 0 0 0 _ : bZ _ (w.heap.size + 1 + 1) 0 0 0 0 0).kept hx
 have fr : ft w1 (w.heap.size + 1 + 1) := (by simpa using fb ((w.alloc _).alloc _) 0 0 0 0 0 _ : ft _ (w.heap.size + 1 + 1)).kept (by simp) hx
 have hB : Below w.heap.size w w1 := aj (dp _ _ _ _) hx
 clear hx
 cases h1 : aC s1 s2 s3 s4
 ·have HR := yz (kY (s1 := s1) (s2 := s2) (s3 := s3) (s4 := s4) (t1 := t1) (t2 := t2) (t3 := t3) (t4 := t4) (by rw [coR, h1]; rfl))
  obtain ⟨cr0, cr1, cr2, cr3, cr4⟩ := vr
  obtain ⟨fr0, fr1, fr2, fr3, fr4⟩ := fr
  go_wp2_with fail
  exact bodyPost_ret (v := .agg #[.int .i64 0, .int .i64 0, .int .i64 0, .int .i64 0, .int .i64 1]) (by simp [results, Tryz.results21, go_sem, cr0, cr1, cr2, cr3, cr4]) rfl ⟨by rw [yy HR], aZ hB (by omega) _ _ _ _ _⟩
 ·have wa := va
  have wb := vb
  obtain ⟨ca0, ca1, ca2, ca3⟩ := wa
  obtain ⟨cb0, cb1, cb2, cb3⟩ := wb
  go_wp2_with fail
  clear ca0 ca1 ca2 ca3 cb0 cb1 cb2 cb3
  refine (bc t1 t2 t3 t4 _).mono ?_
  rintro e w2 ⟨rfl, hx⟩
  have hlt := vr.lt
  replace va := va.kept va.lt hx
  replace vb := vb.kept vb.lt hx
  replace vr := vr.kept hx
  replace fr := fr.kept hlt hx
  replace hB := aj hB hx
  clear hx hlt
  cases h2 : aC t1 t2 t3 t4
  ·have HR := yz (kY (s1 := s1) (s2 := s2) (s3 := s3) (s4 := s4) (t1 := t1) (t2 := t2) (t3 := t3) (t4 := t4) (by rw [coR, h1, h2]; rfl))
   obtain ⟨cr0, cr1, cr2, cr3, cr4⟩ := vr
   obtain ⟨fr0, fr1, fr2, fr3, fr4⟩ := fr
   go_wp2_with fail
   exact bodyPost_ret (v := .agg #[.int .i64 0, .int .i64 0, .int .i64 0, .int .i64 0, .int .i64 1]) (by simp [results, Tryz.results21, go_sem, cr0, cr1, cr2, cr3, cr4]) rfl ⟨by rw [yy HR], aZ hB (by omega) _ _ _ _ _⟩
  ·have wa := va
   have wb := vb
   obtain ⟨ca0, ca1, ca2, ca3⟩ := wa
   obtain ⟨cb0, cb1, cb2, cb3⟩ := wb
   go_wp2_with fail
   clear ca0 ca1 ca2 ca3 cb0 cb1 cb2 cb3
   have HR := yz (tm (s1 := s1) (s2 := s2) (s3 := s3) (s4 := s4) (t1 := t1) (t2 := t2) (t3 := t3) (t4 := t4) (by rw [coR, h1, h2]; rfl))
   refine (gR s1 s2 s3 s4 t1 t2 t3 t4 _ (bE.1 h1).1 (bE.1 h2).1).mono ?_
   rintro e w3 ⟨rfl, hx⟩
   have hlt := vr.lt
   replace vr := vr.kept hx
   replace fr := fr.kept hlt hx
   replace hB := aj hB hx
   clear hx hlt va vb
   obtain ⟨cr0, cr1, cr2, cr3, cr4⟩ := vr
   obtain ⟨fr0, fr1, fr2, fr3, fr4⟩ := fr
   go_wp2_with fail
   exact bodyPost_ret (v := .agg #[.int .i64 (ofP (coA s1 s2 s3 s4 t1 t2 t3 t4) (coB s1 s2 s3 s4 t1 t2 t3 t4) (coC s1 s2 s3 s4 t1 t2 t3 t4) (coD s1 s2 s3 s4 t1 t2 t3 t4) (coA s1 s2 s3 s4 t1 t2 t3 t4)), .int .i64 (ofP (coA s1 s2 s3 s4 t1 t2 t3 t4) (coB s1 s2 s3 s4 t1 t2 t3 t4) (coC s1 s2 s3 s4 t1 t2 t3 t4) (coD s1 s2 s3 s4 t1 t2 t3 t4) (coB s1 s2 s3 s4 t1 t2 t3 t4)), .int .i64 (ofP (coA s1 s2 s3 s4 t1 t2 t3 t4) (coB s1 s2 s3 s4 t1 t2 t3 t4) (coC s1 s2 s3 s4 t1 t2 t3 t4) (coD s1 s2 s3 s4 t1 t2 t3 t4) (coC s1 s2 s3 s4 t1 t2 t3 t4)), .int .i64 (ofP (coA s1 s2 s3 s4 t1 t2 t3 t4) (coB s1 s2 s3 s4 t1 t2 t3 t4) (coC s1 s2 s3 s4 t1 t2 t3 t4) (coD s1 s2 s3 s4 t1 t2 t3 t4) (coD s1 s2 s3 s4 t1 t2 t3 t4)), .int .i64 (ofC (coA s1 s2 s3 s4 t1 t2 t3 t4) (coB s1 s2 s3 s4 t1 t2 t3 t4) (coC s1 s2 s3 s4 t1 t2 t3 t4) (coD s1 s2 s3 s4 t1 t2 t3 t4))]) (by simp [results, Tryz.results21, go_sem, cr0, cr1, cr2, cr3, cr4]) rfl ⟨by rw [yy HR], aZ hB (by omega) _ _ _ _ _⟩
def dj (w : World) (b : Nat) (v : Value) (lim mode A B C D coast fr : Int) : Prop := w.cell? ⟨b, 0, none⟩ = some v ∧ w.cell? ⟨b, 1, none⟩ = some (.int .i64 lim) ∧ w.cell? ⟨b, 2, none⟩ = some (.int .i64 mode) ∧ w.cell? ⟨b, 3, none⟩ = some (.int .i64 A) ∧ w.cell? ⟨b, 4, none⟩ = some (.int .i64 B) ∧ w.cell? ⟨b, 5, none⟩ = some (.int .i64 C) ∧ w.cell? ⟨b, 6, none⟩ = some (.int .i64 D) ∧ w.cell? ⟨b, 7, none⟩ = some (.int .i64 coast) ∧ w.cell? ⟨b, 8, none⟩ = some (.int .i64 fr)
theorem iL {w w' : World} {a : Addr} {v : Value} (h : w.cell? a = some v) (hB : Below w.heap.size w w') : w'.cell? a = some v := (hB.cell (World.block_lt_of_cell? w a h)).trans h
theorem dj.kept {w w' : World} {b : Nat} {v : Value} {lim mode A B C D coast fr : Int} (h : dj w b v lim mode A B C D coast fr) (hB : Below w.heap.size w w') : dj w' b v lim mode A B C D coast fr := by
 obtain ⟨h0, h1, h2, h3, h4, h5, h6, h7, h8⟩ := h
 exact ⟨iL h0 hB, iL h1 hB, iL h2 hB, iL h3 hB, iL h4 hB, iL h5 hB, iL h6 hB, iL h7 hB, iL h8 hB⟩
theorem ck (w : World) (v : Value) (lim mode A B C D coast fr : Int) (t : TypeId) : dj (w.alloc (.cells #[v, .int .i64 lim, .int .i64 mode, .int .i64 A, .int .i64 B, .int .i64 C, .int .i64 D, .int .i64 coast, .int .i64 fr] t)) w.heap.size v lim mode A B C D coast fr := by
 refine ⟨?_, ?_, ?_, ?_, ?_, ?_, ?_, ?_, ?_⟩ <;> simp
theorem dj.lt {w : World} {b : Nat} {v : Value} {lim mode A B C D coast fr : Int} (h : dj w b v lim mode A B C D coast fr) : b < w.heap.size := World.block_lt_of_cell? w _ h.1
theorem dT (L : List St) (lim mode A B C D coast fr : Int) (a : Option Addr) (c : Nat) (p : Addr) (w : World) (hn : L.length ≤ 1048576) (hcap : L.length ≤ c) (hc9 : c ≤ 9223372036854775807) (hS : aH w a L L.length) (hE : aY p w) :
  Calls Tryz.prog 18 #[.agg #[.slice a L.length c, .int .i64 lim, .int .i64 mode, .int .i64 A, .int .i64 B, .int .i64 C, .int .i64 D, .int .i64 coast, .int .i64 fr]] w fun e w' => e = .returned (.bool (aG ⟨L, lim, mode, A, B, C, D, coast, fr⟩)) ∧ Below w.heap.size w w' := by
 have B0 := an w (.cells #[.slice a L.length c, .int .i64 lim, .int .i64 mode, .int .i64 A, .int .i64 B, .int .i64 C, .int .i64 D, .int .i64 coast, .int .i64 fr] 27)
 have T0 := ck w (.slice a L.length c) lim mode A B C D coast fr 27
 have cS := yz (eq L a c p _ hn hcap hc9 (hS.kept B0) (hE.kept B0))
 have HB0 := yz B0
 have HT0 := yz T0
 clear B0 T0 hS hE hn hcap hc9
 go_enter Tryz.func18, Tryz.ntmps18
 go_wp2_with fail
 refine (yy cS).mono ?_
 rintro e w1 ⟨rfl, hx⟩
 have T1 := yz ((yy HT0).kept hx)
 have B1 := yz (aj (yy HB0) hx)
 clear hx cS HT0 HB0
 obtain ⟨c0, c1, c2, c3, c4, c5, c6, c7, c8⟩ := yy T1
 cases hk : aT L
 ·have HO := yz (kn (t := ⟨L, lim, mode, A, B, C, D, coast, fr⟩) hk)
  go_wp2_with fail
  go_ret
  exact ⟨by rw [yy HO]; rfl, yy B1⟩
 by_cases q1 : lim < 1
 ·have HO := yz (fW (t := ⟨L, lim, mode, A, B, C, D, coast, fr⟩) (ms (by show ¬ 1 ≤ lim; omega)))
  go_wp2_with fail
  go_ret
  exact ⟨by rw [yy HO]; rfl, yy B1⟩
 by_cases q2 : (5 : Int) < lim
 ·have HO := yz (fW (t := ⟨L, lim, mode, A, B, C, D, coast, fr⟩) (nM (by show ¬ lim ≤ 5; omega)))
  go_wp2_with fail
  go_ret
  exact ⟨by rw [yy HO]; rfl, yy B1⟩
 by_cases q3 : fr < 0
 ·have HO := yz (iC (t := ⟨L, lim, mode, A, B, C, D, coast, fr⟩) (ms (by show ¬ 0 ≤ fr; omega)))
  go_wp2_with fail
  go_ret
  exact ⟨by rw [yy HO]; rfl, yy B1⟩
 by_cases q4 : (1000000 : Int) < fr
 ·have HO := yz (iC (t := ⟨L, lim, mode, A, B, C, D, coast, fr⟩) (nM (by show ¬ fr ≤ 1000000; omega)))
  go_wp2_with fail
  go_ret
  exact ⟨by rw [yy HO]; rfl, yy B1⟩
 have HH := yz (iZ (t := ⟨L, lim, mode, A, B, C, D, coast, fr⟩) hk (jG (by show 1 ≤ lim; omega) (by show lim ≤ 5; omega)) (jG (by show 0 ≤ fr; omega) (by show fr ≤ 1000000; omega)))
 clear hk
 by_cases m0 : mode = 0
 ·have HO : Hid (aG ⟨L, lim, mode, A, B, C, D, coast, fr⟩ = (eqT A B C D 0 0 0 0 && decide (coast = 0))) := yz (by rw [yy HH, qN m0])
  have hq := fun W => jl A B C D 0 0 0 0 W
  cases hz : eqT A B C D 0 0 0 0
  ·rw [hz] at HO hq
   go_wp2_with fail
   go_ret
   exact ⟨by rw [yy HO]; rfl, yy B1⟩
  ·rw [hz] at HO hq
   go_wp2_with fail
   go_ret
   exact ⟨by rw [yy HO]; rfl, yy B1⟩
 by_cases m1 : mode = 1
 ·have HO : Hid (aG ⟨L, lim, mode, A, B, C, D, coast, fr⟩ = (aC A B C D && decide (coast = 0))) := yz (by rw [yy HH, gq m1])
  subst m1
  go_wp2_with fail
  refine (bw A B C D _).mono ?_
  rintro e w2 ⟨rfl, hx⟩
  have B2 := yz (aj (yy B1) hx)
  obtain ⟨d0, d1, d2, d3, d4, d5, d6, d7, d8⟩ := (yy T1).kept hx
  clear hx c0 c1 c2 c3 c4 c5 c6 c7 c8
  cases hz : aC A B C D
  ·rw [hz] at HO
   go_wp2_with fail
   go_ret
   exact ⟨by rw [yy HO]; rfl, yy B2⟩
  ·rw [hz] at HO
   go_wp2_with fail
   go_ret
   exact ⟨by rw [yy HO]; rfl, yy B2⟩
 by_cases m2 : mode = 2
 ·have HO : Hid (aG ⟨L, lim, mode, A, B, C, D, coast, fr⟩ = (aC A B C D && cb 1 lim coast)) := yz (by rw [yy HH, iV m2])
  subst m2
  go_wp2_with fail
  refine (bw A B C D _).mono ?_
  rintro e w2 ⟨rfl, hx⟩
  have B2 := yz (aj (yy B1) hx)
  obtain ⟨d0, d1, d2, d3, d4, d5, d6, d7, d8⟩ := (yy T1).kept hx
  clear hx c0 c1 c2 c3 c4 c5 c6 c7 c8
  cases hz : aC A B C D
  ·rw [hz] at HO
   go_wp2_with fail
   go_ret
   exact ⟨by rw [yy HO]; rfl, yy B2⟩
  ·rw [hz] at HO
   by_cases u1 : 1 ≤ coast
   ·have HU : Hid (cb 1 lim coast = decide (coast ≤ lim)) := yz (by unfold cb; rw [decide_eq_true u1]; rfl)
    go_wp2_with fail
    go_ret
    exact ⟨by rw [yy HO, yy HU]; rfl, yy B2⟩
   ·have HU : Hid (cb 1 lim coast = false) := yz (ms u1)
    go_wp2_with fail
    go_ret
    exact ⟨by rw [yy HO, yy HU]; rfl, yy B2⟩
 ·have HO : Hid (aG ⟨L, lim, mode, A, B, C, D, coast, fr⟩ = false) := yz (by rw [yy HH, lV m0 m1 m2])
  go_wp2_with fail
  go_ret
  exact ⟨by rw [yy HO]; rfl, yy B1⟩
def ei (w : World) (b : Nat) : Prop := ∀ i, w.frozen? ⟨b, i, none⟩ = false
theorem ei.kept {w w' : World} {b : Nat} (h : ei w b) (hb : b < w.heap.size) (hB : Below w.heap.size w w') : ei w' b := fun i => (hB.frozen (p := ⟨b, i, none⟩) hb).trans (h i)
theorem ce (w : World) (cs : Array Value) (t : TypeId) : ei (w.alloc (.cells cs t)) w.heap.size := fun i => by simp
theorem ei.set {w : World} {b : Nat} (h : ei w b) (p : Addr) (v : Value) : ei (w.setCell p v) b := fun i => by rw [World.frozen?_setCell]; exact h i
theorem jd.far {w : World} {b n k : Nat} {L : List St} (h : jd w b n L k) {b' : Nat} (hne : b ≠ b') (o : Nat) (x : Value) : jd (w.setCell ⟨b', o, none⟩ x) b n L k := by
 obtain ⟨cur, hc, r⟩ := h
 exact ⟨cur, by rw [Below.heap_setCell w ⟨b', o, none⟩ x b hne]; exact hc, r⟩
theorem dj.far {w : World} {b : Nat} {v : Value} {lim mode A B C D coast fr : Int} (h : dj w b v lim mode A B C D coast fr) {b' : Nat} (hne : b ≠ b') (o : Nat) (x : Value) : dj (w.setCell ⟨b', o, none⟩ x) b v lim mode A B C D coast fr := by
 obtain ⟨h0, h1, h2, h3, h4, h5, h6, h7, h8⟩ := h
 refine ⟨?_, ?_, ?_, ?_, ?_, ?_, ?_, ?_, ?_⟩ <;> (rw [World.cell?_setCell_far _ _ _ _ (Ne.symm hne)]; assumption)
theorem di {w : World} {b : Nat} {u : Value} {lim0 mode0 A0 B0 C0 D0 coast0 fr0 : Int} (h : dj w b u lim0 mode0 A0 B0 C0 D0 coast0 fr0) (v : Value) (lim mode A B C D coast fr : Int) : dj (((((((((w.setCell ⟨b, 0, none⟩ v).setCell ⟨b, 1, none⟩ (.int .i64 lim)).setCell ⟨b, 2, none⟩ (.int .i64 mode)).setCell ⟨b, 3, none⟩ (.int .i64 A)).setCell ⟨b, 4, none⟩ (.int .i64 B)).setCell ⟨b, 5, none⟩ (.int .i64 C)).setCell ⟨b, 6, none⟩ (.int .i64 D)).setCell ⟨b, 7, none⟩ (.int .i64 coast)).setCell ⟨b, 8, none⟩ (.int .i64 fr)) b v lim mode A B C D coast fr := by
 obtain ⟨h0, h1, h2, h3, h4, h5, h6, h7, h8⟩ := h
 refine ⟨?_, ?_, ?_, ?_, ?_, ?_, ?_, ?_, ?_⟩ <;> simp [go_sem, h0, h1, h2, h3, h4, h5, h6, h7, h8]
theorem aB {B : Nat} {w w1 : World} (h : Below B w w1) {b : Nat} (hb : B ≤ b) (o : Nat) (v : Value) : Below B w (w1.setCell ⟨b, o, none⟩ v) := h.setCell hb v
def TkO (w : World) (b : Nat) (v : Value) (lim mode A B C D coast fr code : Int) : Prop := dj w b v lim mode A B C D coast fr ∧ w.cell? ⟨b, 9, none⟩ = some (.int .i64 code)
theorem TkO.kept {w w' : World} {b : Nat} {v : Value} {lim mode A B C D coast fr code : Int} (h : TkO w b v lim mode A B C D coast fr code) (hB : Below w.heap.size w w') : TkO w' b v lim mode A B C D coast fr code := ⟨h.1.kept hB, iL h.2 hB⟩
theorem iB (w : World) (v : Value) (lim mode A B C D coast fr code : Int) (t : TypeId) : TkO (w.alloc (.cells #[v, .int .i64 lim, .int .i64 mode, .int .i64 A, .int .i64 B, .int .i64 C, .int .i64 D, .int .i64 coast, .int .i64 fr, .int .i64 code] t)) w.heap.size v lim mode A B C D coast fr code := by
 refine ⟨⟨?_, ?_, ?_, ?_, ?_, ?_, ?_, ?_, ?_⟩, ?_⟩ <;> simp
theorem iK {w w' : World} {a : Addr} {v : Value} {row : Option Nat} (h : w.cell? a = some v) (hg : w.grownBy w' row) (hne : some a.block ≠ row) : w'.cell? a = some v := (World.cell?_of_block (hg.block a.block (World.block_lt_of_cell? w a h) hne)).trans h
theorem dj.grown {w w' : World} {b : Nat} {v : Value} {lim mode A B C D coast fr : Int} {row : Option Nat} (h : dj w b v lim mode A B C D coast fr) (hg : w.grownBy w' row) (hne : some b ≠ row) : dj w' b v lim mode A B C D coast fr := by
 obtain ⟨h0, h1, h2, h3, h4, h5, h6, h7, h8⟩ := h
 exact ⟨iK h0 hg hne, iK h1 hg hne, iK h2 hg hne, iK h3 hg hne, iK h4 hg hne, iK h5 hg hne, iK h6 hg hne, iK h7 hg hne, iK h8 hg hne⟩
theorem TkO.grown {w w' : World} {b : Nat} {v : Value} {lim mode A B C D coast fr code : Int} {row : Option Nat} (h : TkO w b v lim mode A B C D coast fr code) (hg : w.grownBy w' row) (hne : some b ≠ row) : TkO w' b v lim mode A B C D coast fr code := ⟨h.1.grown hg hne, iK h.2 hg hne⟩
theorem fR (w : World) (B : Nat) (h : B ≤ w.heap.size) : (w.alloc (.cells #[] 80)).ownsRow B 80 4 (.slice (some ⟨w.heap.size, 0, none⟩) 0 0) 0 [] :=
 ⟨rfl, .inr ⟨_, 0, #[], rfl, h, Array.getElem?_push_size, Nat.le_refl _, Nat.zero_le _, rfl, rfl⟩⟩
theorem dX {L : List St} {u : Value} (h : u ∈ aS L) : u.oneCell' = true := by
 unfold aS at h
 rw [List.mem_flatMap] at h
 obtain ⟨s, _, hs⟩ := h
 simp [stC] at hs
 rcases hs with rfl | rfl | rfl | rfl <;> rfl
theorem kK {w : World} {b o : Nat} {L : List St} (h : aH w (some ⟨b, o, none⟩) L L.length) (j : Nat) (u : Value) (hj : (aS L)[j]? = some u) : w.cell? ((⟨b, o, none⟩ : Addr).add j) = some u := by
 have hlt : j < L.length * 4 := by
  have := (List.getElem?_eq_some_iff.1 hj).1
  rw [dG] at this
  exact this
 have hA : (⟨b, o, none⟩ : Addr).add j = ⟨b, o + j, none⟩ := by unfold Addr.add; split <;> simp_all
 rw [hA]
 rcases h with h | ⟨b', o', e, _, hc⟩
 ·omega
 ·simp only [Option.some.injEq, Addr.mk.injEq, and_true] at e
  obtain ⟨rfl, rfl⟩ := e
  obtain ⟨e0, e1, e2, e3⟩ := jS L (j / 4) (by omega)
  obtain ⟨c0, c1, c2, c3⟩ := hc (j / 4) (by omega)
  have h4 : j = j / 4 * 4 ∨ j = j / 4 * 4 + 1 ∨ j = j / 4 * 4 + 2 ∨ j = j / 4 * 4 + 3 := by omega
  rcases h4 with h4 | h4 | h4 | h4
  ·rw [h4, e0] at hj; rw [h4, c0]; exact hj
  ·rw [h4, e1] at hj; rw [h4, ← Nat.add_assoc, c1]; exact hj
  ·rw [h4, e2] at hj; rw [h4, ← Nat.add_assoc, c2]; exact hj
  ·rw [h4, e3] at hj; rw [h4, ← Nat.add_assoc, c3]; exact hj
def aq (w : World) (B : Nat) (L : List St) (a : Option Addr) (cap : Nat) : Prop := w.ownsRow B 80 4 (.slice a L.length cap) L.length (aS L)
theorem aq.stars {w : World} {B : Nat} {L : List St} {a : Option Addr} {cap : Nat} (h : aq w B L a cap) : aH w a L L.length := by
 obtain ⟨a', c', e, _, _, hs⟩ := kf h
 injection e with e1 e2 e3
 subst e1
 exact hs
theorem aq.row {w : World} {B : Nat} {L : List St} {a : Option Addr} {cap : Nat} (h : aq w B L a cap) : ∃ row, pj w a L.length row ∧ ∀ g, row = some g → B ≤ g := uE h rfl
theorem aq.capMax {w : World} {B : Nat} {L : List St} {a : Option Addr} {cap : Nat} (h : aq w B L a cap) : L.length ≤ cap ∧ cap ≤ maxLen := by
 obtain ⟨a', c', e, h1, h2, _⟩ := kf h
 injection e with e1 e2 e3
 subst e3
 exact ⟨h1, h2⟩
theorem aq.kept {w w' : World} {B : Nat} {L : List St} {a : Option Addr} {cap : Nat} (h : aq w B L a cap) (hB : Below w.heap.size w w') : aq w' B L a cap := by
 obtain ⟨h1, h2⟩ := h
 refine ⟨h1, ?_⟩
 rcases h2 with h2 | ⟨g, c', cur, e, hg, hh, r⟩
 ·exact .inl h2
 ·exact .inr ⟨g, c', cur, e, hg, by rw [hB.block g (Array.getElem?_eq_some_iff.1 hh).1]; exact hh, r⟩
theorem aq.low {w : World} {B B' : Nat} {L : List St} {a : Option Addr} {cap : Nat} (h : aq w B L a cap) (hb : B' ≤ B) : aq w B' L a cap := by
 obtain ⟨h1, h2⟩ := h
 refine ⟨h1, ?_⟩
 rcases h2 with h2 | ⟨g, c', cur, e, hg, r⟩
 ·exact .inl h2
 ·exact .inr ⟨g, c', cur, e, by omega, r⟩
theorem gG {w : World} {B : Nat} {L : List St} {v : Value} (h : w.ownsRow B 80 4 v L.length (aS L)) : ∃ a cap, v = .slice a L.length cap ∧ aq w B L a cap := by
 obtain ⟨a, cap, e, _⟩ := kf h
 exact ⟨a, cap, e, by unfold aq; rw [← e]; exact h⟩
theorem ei.grown {w w' : World} {b : Nat} {row : Option Nat} (h : ei w b) (hb : b < w.heap.size) (hg : w.grownBy w' row) (hne : some b ≠ row) : ei w' b := fun i => by
 have h1 := h i
 unfold World.frozen? at h1 ⊢
 rw [hg.block b hb hne]
 exact h1
theorem aq.far {w : World} {B : Nat} {L : List St} {a : Option Addr} {cap : Nat} (h : aq w B L a cap) {b : Nat} (hne : b < B) (o : Nat) (x : Value) : aq (w.setCell ⟨b, o, none⟩ x) B L a cap := by
 obtain ⟨h1, h2⟩ := h
 refine ⟨h1, ?_⟩
 rcases h2 with h2 | ⟨g, c', cur, e, hg, hh, r⟩
 ·exact .inl h2
 ·exact .inr ⟨g, c', cur, e, hg, by rw [Below.heap_setCell w ⟨b, o, none⟩ x g (by show g ≠ b; omega)]; exact hh, r⟩
end
section
open Go.RowKit Go.Sort
theorem kS {P : Program} (w : World) (t ty e : TypeId) (i : TypeInfo) (ht : P.underlying t = some (.slice e)) (hi : P.info? e = some i) (a : Option Addr) (n cap c : Nat) (hc : n ≤ cap) :
  (Builtin.append_ #[t, t] ty #[.slice a n cap, .slice none 0 c]).run P w = .ok (.slice a n cap) w := by
 cases a <;> simp [Builtin.append_, run_underlying ht, sizeOf, typeInfo, hi, Builtin.lenOf, Builtin.firstCells, loadCells, storeCells, hc]
theorem ke {w : World} {B n m : Nat} {t : TypeId} {v : Value} {xs : List Value} (h : w.ownsRow B t m v n xs) : ∃ a cap, v = .slice a n cap ∧ n ≤ cap := by
 rcases h.2 with ⟨h1, h0⟩ | ⟨g, c', cur, e, _, _, h3, _⟩
 ·exact ⟨none, 0, by rw [h1, h0], by omega⟩
 ·exact ⟨_, _, e, h3⟩
theorem bG {P : Program} (w : World) {o : Oper} {a : Act} {K : Act → World → Prop} {Q : Exit → Act → World → Prop} (s x : Operand) (t : TypeId)
  (ho : o.op = .call { callee := .builtin .append, args := #[s, x], argTypes := #[t, t] })
  (base : Nat) (e : TypeId) (i : TypeInfo) (z : Value) (size bytes : Nat) (ht : P.underlying t = some (.slice e)) (hi : P.info? e = some i) (hz : i.zero = some z)
  (hsize : i.size = size) (hby : i.bytes = bytes) (hzs : z.cells.size = size) (hsz : 0 < size)
  (v : Value) (n : Nat) (xs : List Value) (hs : a.eval s = v) (hown : w.ownsRow base e size v n xs)
  (ao : Option Addr) (m c : Nat) (news : List Value) (hx : a.eval x = .slice ao m c) (hl : news.length = m * size) (h0 : ao = none → m = 0) (hnews : ∀ ad, ao = some ad → ∀ j u, news[j]? = some u → w.cell? (ad.add j) = some u) (h1 : ∀ u ∈ news, u.oneCell' = true)
  (h63 : n + m ≤ maxLen) (hbytes : (n + m) * bytes ≤ 140737488355328) (hbase : base ≤ w.heap.size)
  (h : ∀ v' w', w'.ownsRow base e size v' (n + m) (xs ++ news) → w.grownBy w' v.ownBlock → K (a.put o.dst v') w') : o.wp P a w K Q := by
 cases ao with
 | some ad => exact wp_append_own w s x t ho base e i z size bytes ht hi hz hsize hby hzs hsz v n xs hs hown ad m c news hx hl (hnews ad rfl) h1 h63 hbytes hbase fun v' w' h2 h3 _ => h v' w' h2 h3
 | none =>
  obtain rfl := h0 rfl
  obtain rfl : news = [] := List.eq_nil_of_length_eq_zero (by rw [hl]; omega)
  obtain ⟨a', cap, rfl, hc⟩ := ke hown
  have hr := kS (P := P) w t o.type e i ht hi a' n cap c hc
  unfold Oper.wp execOp
  simp only [ho, resolve, invoke, builtin, Sem.run_bind, Sem.run_pure, Result.andThen_ok, List.map_toArray, List.map_cons, List.map_nil, hs, hx, hr]
  exact h _ _ (by rw [List.append_nil]; exact hown) ⟨rfl, rfl, rfl, Nat.le_refl _, fun _ _ _ => rfl⟩
theorem jc {P : Program} {ops : Array Oper} {rest : List Oper} (w : World) {o : Oper} {a : Act} {Q : Exit → Act → World → Prop} (hgd : o.guard = none) (s x : Operand) (t : TypeId)
  (ho : o.op = .call { callee := .builtin .append, args := #[s, x], argTypes := #[t, t] })
  (base : Nat) (e : TypeId) (i : TypeInfo) (z : Value) (size bytes : Nat) (ht : P.underlying t = some (.slice e)) (hi : P.info? e = some i) (hz : i.zero = some z)
  (hsize : i.size = size) (hby : i.bytes = bytes) (hzs : z.cells.size = size) (hsz : 0 < size)
  (v : Value) (n : Nat) (xs : List Value) (hs : a.eval s = v) (hown : w.ownsRow base e size v n xs)
  (ao : Option Addr) (m c : Nat) (news : List Value) (hx : a.eval x = .slice ao m c) (hl : news.length = m * size) (h0 : ao = none → m = 0) (hnews : ∀ ad, ao = some ad → ∀ j u, news[j]? = some u → w.cell? (ad.add j) = some u) (h1 : ∀ u ∈ news, u.oneCell' = true)
  (h63 : n + m ≤ maxLen) (hbytes : (n + m) * bytes ≤ 140737488355328) (hbase : base ≤ w.heap.size)
  (h : ∀ v' w', w'.ownsRow base e size v' (n + m) (xs ++ news) → w.grownBy w' v.ownBlock → wpList P ops Q rest (a.put o.dst v') w') : wpList P ops Q (o :: rest) a w :=
 wpList_plain hgd fun _ hK => bG w s x t ho base e i z size bytes ht hi hz hsize hby hzs hsz v n xs hs hown ao m c news hx hl h0 hnews h1 h63 hbytes hbase fun v' w' h2 h3 => hK _ _ (h v' w' h2 h3)
theorem ew {w : World} {ao : Option Addr} {L : List St} (h : aH w ao L L.length) (ad : Addr) (he : ao = some ad) (j : Nat) (u : Value) (hj : (aS L)[j]? = some u) : w.cell? (ad.add j) = some u := by
 subst he
 rcases h with h0 | ⟨b, o, e, hb, hc⟩
 ·have := (List.getElem?_eq_some_iff.1 hj).1
  rw [dG] at this
  omega
 ·cases e
  exact kK (.inr ⟨b, o, rfl, hb, hc⟩) j u hj
theorem fo {w : World} {ao : Option Addr} {L : List St} (h : aH w ao L L.length) (he : ao = none) : L.length = 0 := by
 subst he
 rcases h with h0 | ⟨b, o, e, hb, hc⟩
 ·exact h0
 ·cases e
end
section
open Go.RowKit Go.Sort
theorem fz (n lo hi : Int) (w : World) :
  Calls Tryz.prog 48 #[.int .i64 n, .int .i64 lo, .int .i64 hi] w fun e w' => e = .returned (.bool (cb lo hi n)) ∧ w' = w := dy n lo hi w
theorem pN (n : Int) (w : World) :
  Calls Tryz.prog 50 #[.int .i64 n] w fun e w' => e = .returned (.bool (cb 0 1000000 n)) ∧ w' = w := by
 go_enter Tryz.func50, Tryz.ntmps50
 go_wp2_with fail
 refine (fz n 0 1000000 _).mono ?_
 rintro e w1 ⟨rfl, hw⟩
 rw [hw]
 go_wp2_with fail
 go_ret
 exact ⟨rfl, rfl⟩
theorem dW (L : List St) (lim mode A B C D coast fr : Int) (a : Option Addr) (c : Nat) (w : World) (hn : L.length ≤ 1048576) (hS : aH w a L L.length) :
  Calls Tryz.prog 19 #[.agg #[.slice a L.length c, .int .i64 lim, .int .i64 mode, .int .i64 A, .int .i64 B, .int .i64 C, .int .i64 D, .int .i64 coast, .int .i64 fr]] w fun e w' => e = .returned (.bool (aG ⟨L, lim, mode, A, B, C, D, coast, fr⟩)) ∧ Below w.heap.size w w' := by
 have B0 := an w (.cells #[.slice a L.length c, .int .i64 lim, .int .i64 mode, .int .i64 A, .int .i64 B, .int .i64 C, .int .i64 D, .int .i64 coast, .int .i64 fr] 27)
 have T0 := ck w (.slice a L.length c) lim mode A B C D coast fr 27
 have cS := yz (gX L a c _ hn (hS.kept B0))
 have HB0 := yz B0
 have HT0 := yz T0
 clear B0 T0 hS hn
 go_enter Tryz.func19, Tryz.ntmps19
 go_wp2_with fail
 refine (yy cS).mono ?_
 rintro e w1 ⟨rfl, hx⟩
 have T1 := yz ((yy HT0).kept hx)
 have B1 := yz (aj (yy HB0) hx)
 clear hx cS HT0 HB0
 obtain ⟨c0, c1, c2, c3, c4, c5, c6, c7, c8⟩ := yy T1
 have hlt := (yy T1).lt
 cases hk : aT L
 ·have HO := yz (kn (t := ⟨L, lim, mode, A, B, C, D, coast, fr⟩) hk)
  go_wp2_with fail
  go_ret
  exact ⟨by rw [yy HO]; rfl, yy B1⟩
 go_wp2_with fail
 refine (fz lim 1 5 _).mono ?_
 rintro e w2 ⟨rfl, hw⟩
 rw [hw]
 clear hw w2
 cases hl : cb 1 5 lim
 ·have HO := yz (fW (t := ⟨L, lim, mode, A, B, C, D, coast, fr⟩) hl)
  go_wp2_with fail
  go_ret
  exact ⟨by rw [yy HO]; rfl, yy B1⟩
 go_wp2_with fail
 refine (pN fr _).mono ?_
 rintro e w2 ⟨rfl, hw⟩
 rw [hw]
 clear hw w2
 cases hf : cb 0 1000000 fr
 ·have HO := yz (iC (t := ⟨L, lim, mode, A, B, C, D, coast, fr⟩) hf)
  go_wp2_with fail
  go_ret
  exact ⟨by rw [yy HO]; rfl, yy B1⟩
 have HH := yz (iZ (t := ⟨L, lim, mode, A, B, C, D, coast, fr⟩) hk hl hf)
 clear hk hl hf
 have Z := ((yy B1).alloc (yy B1).size (.cells #[.int .i64 0, .int .i64 0, .int .i64 0, .int .i64 0] 25))
 have T2 := yz ((yy T1).kept (an w1 (.cells #[.int .i64 0, .int .i64 0, .int .i64 0, .int .i64 0] 25)))
 by_cases m0 : mode = 0
 ·have HO : Hid (aG ⟨L, lim, mode, A, B, C, D, coast, fr⟩ = (eqT A B C D 0 0 0 0 && decide (coast = 0))) := yz (by rw [yy HH, qN m0])
  have hq := fun W => jl A B C D 0 0 0 0 W
  cases hz : eqT A B C D 0 0 0 0
  ·rw [hz] at HO hq
   go_wp2_with fail
   go_ret
   exact ⟨by rw [yy HO]; rfl, Z⟩
  ·rw [hz] at HO hq
   go_wp2_with fail
   go_ret
   exact ⟨by rw [yy HO]; rfl, Z⟩
 by_cases m1 : mode = 1
 ·have HO : Hid (aG ⟨L, lim, mode, A, B, C, D, coast, fr⟩ = (aC A B C D && decide (coast = 0))) := yz (by rw [yy HH, gq m1])
  subst m1
  go_wp2_with fail
  refine (bc A B C D _).mono ?_
  rintro e w2 ⟨rfl, hx⟩
  have B2 := yz (aj Z hx)
  obtain ⟨d0, d1, d2, d3, d4, d5, d6, d7, d8⟩ := (yy T2).kept hx
  clear hx c0 c1 c2 c3 c4 c5 c6 c7 c8 Z
  cases hz : aC A B C D
  ·rw [hz] at HO
   go_wp2_with fail
   go_ret
   exact ⟨by rw [yy HO]; rfl, yy B2⟩
  ·rw [hz] at HO
   go_wp2_with fail
   go_ret
   exact ⟨by rw [yy HO]; rfl, yy B2⟩
 by_cases m2 : mode = 2
 ·have HO : Hid (aG ⟨L, lim, mode, A, B, C, D, coast, fr⟩ = (aC A B C D && cb 1 lim coast)) := yz (by rw [yy HH, iV m2])
  subst m2
  go_wp2_with fail
  refine (bc A B C D _).mono ?_
  rintro e w2 ⟨rfl, hx⟩
  have B2 := yz (aj Z hx)
  obtain ⟨d0, d1, d2, d3, d4, d5, d6, d7, d8⟩ := (yy T2).kept hx
  clear hx c0 c1 c2 c3 c4 c5 c6 c7 c8 Z
  cases hz : aC A B C D
  ·rw [hz] at HO
   go_wp2_with fail
   go_ret
   exact ⟨by rw [yy HO]; rfl, yy B2⟩
  ·rw [hz] at HO
   go_wp2_with fail
   refine (fz coast 1 lim _).mono ?_
   rintro e w3 ⟨rfl, hw⟩
   rw [hw]
   clear hw w3
   go_wp2_with fail
   go_ret
   exact ⟨by rw [yy HO]; rfl, yy B2⟩
 ·have HO : Hid (aG ⟨L, lim, mode, A, B, C, D, coast, fr⟩ = false) := yz (by rw [yy HH, lV m0 m1 m2])
  go_wp2_with fail
  go_ret
  exact ⟨by rw [yy HO]; rfl, Z⟩
end
end Go.Proofs.YtgiodlllokdcdaaGreatDoor
