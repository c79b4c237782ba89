/- Several texts in one: LkM, SceM, TurnE, TurnG, ModA, ModC, ModD, ModE. -/
import Derived.Deep.RegionHeld
import Derived.Deep.DeepCutAuto
import Derived.Test.YtgiodlllokdcdaaGreatDoorQFnFollowOwn9
import Derived.Test.YtgiodlllokdcdaaGreatDoorQFnFollowOwn6
import Derived.Test.YtgiodlllokdcdaaGreatDoorQFnFollowOwn3
import Derived.Test.YtgiodlllokdcdaaGreatDoorQFnFollowOwn1
import Derived.Test.YtgiodlllokdcdaaGreatDoorQFnFollowOwn8
namespace Go.Proofs.YtgiodlllokdcdaaGreatDoor
set_option linter.unusedVariables false
set_option linter.unusedSimpArgs false
set_option maxRecDepth 100000
set_option maxHeartbeats 8000000
section
open Go.RowKit Go.Sort
theorem jW {L : List St} {S : List D3} {ids ids' : List Int} (s : Sg) {n : Nat} (h : ∀ i, i < n → ids.getD i 0 = ids'.getD i 0) : fJ L S ids s n = fJ L S ids' s n := by
 unfold fJ
 apply bL
 intro i hi
 have e1 := h i hi
 have e2 : bp L S ids i = bp L S ids' i := by unfold bp; rw [e1]
 rw [e1, e2]
 congr 2
 apply bL
 intro j hj
 have e3 := h j (by omega)
 have e4 : bp L S ids j = bp L S ids' j := by unfold bp; rw [e3]
 rw [e3, e4]
theorem oy {L : List St} {S : List D3} {ids ids' : List Int} {n : Nat} (h : ∀ i, i < n → ids.getD i 0 = ids'.getD i 0) : eO L S ids n = eO L S ids' n := by
 unfold eO
 apply bL
 intro i hi
 have e1 := h i hi
 have e2 : bp L S ids i = bp L S ids' i := by unfold bp; rw [e1]
 rw [e1, e2, jW _ (fun j hj => h j (by omega))]
theorem rU (ids : List Int) (a : Int) {i : Nat} (h : i < ids.length) : (ids ++ [a]).getD i 0 = ids.getD i 0 := by rw [List.getD_eq_getElem?_getD, List.getD_eq_getElem?_getD, List.getElem?_append_left h]
theorem rT (ids : List Int) (a : Int) : (ids ++ [a]).getD ids.length 0 = a := by rw [List.getD_eq_getElem?_getD, List.getElem?_append_right (Nat.le_refl _), Nat.sub_self]; rfl
theorem us {x y z : Int} (h : aJ x y z = true) : fk (x, y, z) = false := by
 have := (aR.1 (bl h).1).2
 unfold fk
 exact decide_eq_false this
theorem vh {L : List St} (h : aP L = true) {a : Int} (ha : a ∈ L.map (·.1)) : fk (atV L L.length a) = false := by
 obtain ⟨s, hs, rfl⟩ := List.mem_map.1 ha
 obtain ⟨i, hi, rfl⟩ := List.getElem_of_mem hs
 have e : L[i] = stA L i := by unfold stA; rw [List.getD_eq_getElem?_getD, List.getElem?_eq_getElem hi]; rfl
 rw [e, nM h hi]
 exact us (em ((bD h).2 i hi))
theorem lN {L : List St} {S : List D3} {ids : List Int} {a : Int} (hk : aP L = true) (h : eO L S ids ids.length = true) (h2 : a = 0 ∨ (a ∈ L.map (·.1) ∧ bS L S ids a = true)) : eO L S (ids ++ [a]) (ids ++ [a]).length = true := by
 have e0 : (ids ++ [a]).length = ids.length + 1 := by simp
 rw [e0]
 unfold eO
 rw [cJ]
 have e1 : ((List.range ids.length).all fun i => decide ((ids ++ [a]).getD i 0 = 0) || (!fk (atV L L.length ((ids ++ [a]).getD i 0)) && fJ L S (ids ++ [a]) (bp L S (ids ++ [a]) i) i)) = true := by
  have := oy (L := L) (S := S) (ids := ids ++ [a]) (ids' := ids) (n := ids.length) (fun i hi => rU ids a hi)
  unfold eO at this h
  rw [this]
  exact h
 rw [e1, Bool.true_and, rT]
 rcases h2 with rfl | ⟨hm, hf⟩
 ·rfl
 ·have e2 : bp L S (ids ++ [a]) ids.length = (vA S ids.length, (a, atV L L.length a)) := by unfold bp; rw [rT]
  rw [e2, vh hk hm, jW _ (fun i hi => rU ids a hi)]
  unfold bS at hf
  rw [hf]
  simp
theorem jH {L : List St} {S : List D3} (hk : aP L = true) : ∀ (r : Nat) (ids l : List Int), eO L S ids ids.length = true → l ∈ dP (bS L S) (L.map (·.1)) r ids → eO L S l l.length = true
 | 0, ids, l, h, hl => by
  simp only [dP, List.mem_singleton] at hl
  subst hl
  exact h
 | r + 1, ids, l, h, hl => by
  simp only [dP, List.mem_append, List.mem_flatMap] at hl
  rcases hl with ⟨a, ha, hl⟩ | hl
  ·have := List.mem_filter.1 ha
   exact jH hk r _ l (lN hk h (.inr this)) hl
  ·exact jH hk r _ l (lN hk h (.inl rfl)) hl
theorem gX : ∀ (X : List (List Int)) (g : List Int × Nat), (g.2 = 0 → aL g.1 < 3) → (X.foldl bR g).2 ≠ 0 → (X.foldl bR g).1 ∈ X ∨ (g.2 ≠ 0 ∧ (X.foldl bR g).1 = g.1)
 | [], g, _, h => .inr ⟨h, rfl⟩
 | x :: X, g, hg, h => by
  rw [List.foldl_cons] at h ⊢
  by_cases c1 : aL x < 3 ∨ aL x < aL g.1
  ·have e : bR g x = g := by unfold bR; rw [if_pos c1]
   rw [e] at h ⊢
   rcases gX X g hg h with h1 | h1
   ·exact .inl (List.mem_cons_of_mem _ h1)
   ·exact .inr h1
  ·by_cases c2 : aL g.1 < aL x
   ·have e : bR g x = (x, 1) := by unfold bR; rw [if_neg c1, if_pos c2]
    rw [e] at h ⊢
    rcases gX X (x, 1) (fun h => by cases h) h with h1 | ⟨_, h1⟩
    ·exact .inl (List.mem_cons_of_mem _ h1)
    ·rw [h1]; exact .inl (List.mem_cons_self ..)
   ·have e : bR g x = (g.1, g.2 + 1) := by unfold bR; rw [if_neg c1, if_neg c2]
    have hne : g.2 ≠ 0 := fun e0 => by have := hg e0; omega
    rw [e] at h ⊢
    rcases gX X (g.1, g.2 + 1) (fun h => by cases h) h with h1 | ⟨_, h1⟩
    ·exact .inl (List.mem_cons_of_mem _ h1)
    ·exact .inr ⟨hne, h1⟩
theorem ke {L : List St} {S : List D3} (hk : aP L = true) (hp : aN S = true) (h0 : bk L S = 0) : bg L S (bw L S) = true := by
 have hg := iH L S
 have h2 : (bV L S).2 = 1 := by
  rw [hg.2.2] at h0
  by_cases a : (bV L S).2 = 0
  ·rw [if_pos a] at h0; cases h0
  ·rw [if_neg a] at h0
   by_cases b : 1 < (bV L S).2
   ·rw [if_pos b] at h0; cases h0
   ·omega
 rw [hg.1, if_pos h2]
 have hm : (bV L S).1 ∈ dP (bS L S) (L.map (·.1)) S.length [] := by
  rcases gX _ ([], 0) (fun _ => by decide) (show (bV L S).2 ≠ 0 by omega) with h | ⟨h, _⟩
  ·exact h
  ·exact absurd rfl h
 have hn := jH hk S.length [] _ rfl hm
 have hl := gV _ _ _ _ _ hm
 unfold bg
 rw [hk, hp, ← lM, hn, decide_eq_true (by simpa using hl)]
 rfl
theorem sz {L : List St} {S : List D3} (hk : aP L = true) (hp : aN S = true) (h0 : bk L S = 0) : (if (aq L S (bw L S) (bw L S).length).length < 2 then ((0, 0, 0, 0), 10) else dU (aq L S (bw L S) (bw L S).length) (ax 625)) = fZ L S (bw L S) := by
 have hn := ke hk hp h0
 have h12 := (bD hk).1
 have h6 := (bm hp).1
 have hl := (ed hn).2.2.1
 unfold fZ
 rw [if_neg (show ¬ (400 < L.length ∨ 400 < S.length ∨ 400 < (bw L S).length) by omega), if_pos hn]
theorem mV {v1 v2 v3 p1 p2 p3 q1 q2 q3 : Int} (hv : ¬ (v1 = 0 ∧ v2 = 0 ∧ v3 = 0)) (a1 : v2 * p3 - v3 * p2 = 0) (a2 : v3 * p1 - v1 * p3 = 0) (a3 : v1 * p2 - v2 * p1 = 0) (b1 : v2 * q3 - v3 * q2 = 0) (b2 : v3 * q1 - v1 * q3 = 0) (b3 : v1 * q2 - v2 * q1 = 0)
  (hp : 0 < dot v1 v2 v3 p1 p2 p3) (hq : 0 < dot v1 v2 v3 q1 q2 q3) : (p2 * q3 - p3 * q2 = 0 ∧ p3 * q1 - p1 * q3 = 0 ∧ p1 * q2 - p2 * q1 = 0) ∧ 0 < dot p1 p2 p3 q1 q2 q3 := by
 have hvv := iN hv
 obtain ⟨V, hV⟩ : ∃ V, dot v1 v2 v3 v1 v2 v3 = V := ⟨_, rfl⟩
 obtain ⟨P, hP⟩ : ∃ P, dot v1 v2 v3 p1 p2 p3 = P := ⟨_, rfl⟩
 obtain ⟨Q, hQ⟩ : ∃ Q, dot v1 v2 v3 q1 q2 q3 = Q := ⟨_, rfl⟩
 have x1 : V * p1 = P * v1 := by rw [← hV, ← hP]; unfold dot; grind
 have x2 : V * p2 = P * v2 := by rw [← hV, ← hP]; unfold dot; grind
 have x3 : V * p3 = P * v3 := by rw [← hV, ← hP]; unfold dot; grind
 have y1 : V * q1 = Q * v1 := by rw [← hV, ← hQ]; unfold dot; grind
 have y2 : V * q2 = Q * v2 := by rw [← hV, ← hQ]; unfold dot; grind
 have y3 : V * q3 = Q * v3 := by rw [← hV, ← hQ]; unfold dot; grind
 rw [hV] at hvv
 rw [hP] at hp
 rw [hQ] at hq
 have hVV := Int.mul_pos hvv hvv
 have z : ∀ x : Int, V * V * x = 0 → x = 0 := fun x h => by
  rcases Int.mul_eq_zero.1 h with e | e
  ·omega
  ·exact e
 refine ⟨⟨z _ (by grind), z _ (by grind), z _ (by grind)⟩, ?_⟩
 have e : V * V * dot p1 p2 p3 q1 q2 q3 = P * Q * V := by
  rw [← hV] at *
  unfold dot at *
  grind
 have hpos := Int.mul_pos (Int.mul_pos hp hq) hvv
 rw [← e] at hpos
 rcases Int.lt_or_le 0 (dot p1 p2 p3 q1 q2 q3) with h | h
 ·exact h
 ·have := Int.mul_le_mul_of_nonneg_left h (Int.le_of_lt hVV)
  simp at this
  omega
theorem gm {a1 a2 a3 b1 b2 b3 : Int} (h : ce a1 a2 a3 b1 b2 b3 = true) : au a1 a2 a3 = true ∧ au b1 b2 b3 = true ∧ (a2 * b3 - a3 * b2 = 0 ∧ a3 * b1 - a1 * b3 = 0 ∧ a1 * b2 - a2 * b1 = 0) ∧ 0 < dot a1 a2 a3 b1 b2 b3 := by
 unfold ce at h
 simp only [Bool.and_eq_true, decide_eq_true_eq] at h
 obtain ⟨⟨⟨ra, rb⟩, hz⟩, hd⟩ := h
 have a := (aR.1 ra).1
 have b := (aR.1 rb).1
 rw [bY (A := 1000000) (B := 1000000) (aO.2 a) (aO.2 b) (by omega)] at hd
 rw [(dw a.2.1 a.2.2 b.2.1 b.2.2 (by omega)).1, (dw a.2.2 a.1 b.2.2 b.1 (by omega)).1, (dw a.1 a.2.1 b.1 b.2.1 (by omega)).1] at hz
 unfold eM at hz
 exact ⟨ra, rb, of_decide_eq_true hz, hd⟩
theorem rQ {a1 a2 a3 b1 b2 b3 : Int} (ra : au a1 a2 a3 = true) (rb : au b1 b2 b3 = true) (hc : a2 * b3 - a3 * b2 = 0 ∧ a3 * b1 - a1 * b3 = 0 ∧ a1 * b2 - a2 * b1 = 0) (hd : 0 < dot a1 a2 a3 b1 b2 b3) : ce a1 a2 a3 b1 b2 b3 = true := by
 have a := (aR.1 ra).1
 have b := (aR.1 rb).1
 unfold ce
 rw [ra, rb, (dw a.2.1 a.2.2 b.2.1 b.2.2 (by omega)).1, (dw a.2.2 a.1 b.2.2 b.1 (by omega)).1, (dw a.1 a.2.1 b.1 b.2.1 (by omega)).1, bY (A := 1000000) (B := 1000000) (aO.2 a) (aO.2 b) (by omega), hc.1, hc.2.1, hc.2.2]
 simp [eM, hd]
theorem ut {x y z : Int} (h : x * x + y * y + z * z = 0) : x = 0 ∧ y = 0 ∧ z = 0 := by
 have h1 := sqn x
 have h2 := sqn y
 have h3 := sqn z
 have e1 : x * x = 0 := by omega
 have e2 : y * y = 0 := by omega
 have e3 : z * z = 0 := by omega
 refine ⟨?_, ?_, ?_⟩
 ·rcases Int.mul_eq_zero.1 e1 with e | e <;> exact e
 ·rcases Int.mul_eq_zero.1 e2 with e | e <;> exact e
 ·rcases Int.mul_eq_zero.1 e3 with e | e <;> exact e
theorem uD {a b c d s1 s2 s3 t1 t2 t3 : Int} (ht : aB a b c d = true) (hs : au s1 s2 s3 = true) (hu : au t1 t2 t3 = true)
  (h : (apY a b c d s1 s2 s3 * apZ a b c d t1 t2 t3 - apZ a b c d s1 s2 s3 * apY a b c d t1 t2 t3 = 0 ∧ apZ a b c d s1 s2 s3 * apX a b c d t1 t2 t3 - apX a b c d s1 s2 s3 * apZ a b c d t1 t2 t3 = 0 ∧ apX a b c d s1 s2 s3 * apY a b c d t1 t2 t3 - apY a b c d s1 s2 s3 * apX a b c d t1 t2 t3 = 0) ∧ 0 < dot (apX a b c d s1 s2 s3) (apY a b c d s1 s2 s3) (apZ a b c d s1 s2 s3) (apX a b c d t1 t2 t3) (apY a b c d t1 t2 t3) (apZ a b c d t1 t2 t3)) : ce s1 s2 s3 t1 t2 t3 = true := by
 have hp := qK (ij ht)
 obtain ⟨⟨h1, h2, h3⟩, h4⟩ := h
 have d1 := kV a b c d s1 s2 s3 t1 t2 t3
 have d2 := kV a b c d s1 s2 s3 s1 s2 s3
 have d3 := kV a b c d t1 t2 t3 t1 t2 t3
 generalize apX a b c d s1 s2 s3 = p1 at *
 generalize apY a b c d s1 s2 s3 = p2 at *
 generalize apZ a b c d s1 s2 s3 = p3 at *
 generalize apX a b c d t1 t2 t3 = q1 at *
 generalize apY a b c d t1 t2 t3 = q2 at *
 generalize apZ a b c d t1 t2 t3 = q3 at *
 generalize nT a b c d = N at *
 have hNN := Int.mul_pos hp hp
 have hN4 := Int.mul_pos hNN hNN
 have lag : dot p1 p2 p3 p1 p2 p3 * dot q1 q2 q3 q1 q2 q3 = dot p1 p2 p3 q1 q2 q3 * dot p1 p2 p3 q1 q2 q3 := by
  have e : dot p1 p2 p3 p1 p2 p3 * dot q1 q2 q3 q1 q2 q3 - dot p1 p2 p3 q1 q2 q3 * dot p1 p2 p3 q1 q2 q3 = (p2 * q3 - p3 * q2) * (p2 * q3 - p3 * q2) + (p3 * q1 - p1 * q3) * (p3 * q1 - p1 * q3) + (p1 * q2 - p2 * q1) * (p1 * q2 - p2 * q1) := by unfold dot; grind
  rw [h1, h2, h3] at e
  omega
 rw [d1, d2, d3] at lag
 have e0 : N * N * (N * N) * (dot s1 s2 s3 s1 s2 s3 * dot t1 t2 t3 t1 t2 t3 - dot s1 s2 s3 t1 t2 t3 * dot s1 s2 s3 t1 t2 t3) = 0 := by
  generalize dot s1 s2 s3 s1 s2 s3 = x at *
  generalize dot t1 t2 t3 t1 t2 t3 = y at *
  generalize dot s1 s2 s3 t1 t2 t3 = z at *
  grind
 have e1 : dot s1 s2 s3 s1 s2 s3 * dot t1 t2 t3 t1 t2 t3 - dot s1 s2 s3 t1 t2 t3 * dot s1 s2 s3 t1 t2 t3 = 0 := by
  rcases Int.mul_eq_zero.1 e0 with e | e
  ·omega
  ·exact e
 have e2 : (s2 * t3 - s3 * t2) * (s2 * t3 - s3 * t2) + (s3 * t1 - s1 * t3) * (s3 * t1 - s1 * t3) + (s1 * t2 - s2 * t1) * (s1 * t2 - s2 * t1) = 0 := by
  rw [← e1]; unfold dot; grind
 refine rQ hs hu (ut e2) ?_
 rw [d1] at h4
 rcases Int.lt_or_le 0 (dot s1 s2 s3 t1 t2 t3) with h | h
 ·exact h
 ·have := Int.mul_le_mul_of_nonneg_left h (Int.le_of_lt hNN)
  simp at this
  omega
theorem th {L : List St} (h : aP L = true) {i j : Nat} (hi : i < L.length) (hj : j < i) : kl (stA L i) (stA L j) = false := by
 have := (bD h).2 i hi
 unfold dM at this
 simp only [Bool.and_eq_true] at this
 have h2 : dJ L (stA L i) i = false := by simpa using this.2
 unfold dJ at h2
 rw [List.any_eq_false] at h2
 have := h2 j (List.mem_range.2 hj)
 simpa using this
theorem oc {L : List St} {a b c d : Int} {v : D3} (hk : aP L = true) (ht : aB a b c d = true) {i j : Nat} (hi : i < L.length) (hj : j < i) (h1 : aW v (apD a b c d (stA L i).2) = true) : aW v (apD a b c d (stA L j).2) = false := by
 cases h2 : aW v (apD a b c d (stA L j).2)
 ·rfl
 ·exfalso
  unfold aW apD at h1 h2
  obtain ⟨rv, _, ⟨b1, b2, b3⟩, b4⟩ := gm h1
  obtain ⟨_, _, ⟨c1, c2, c3⟩, c4⟩ := gm h2
  have := mV (aR.1 rv).2 b1 b2 b3 c1 c2 c3 b4 c4
  have e := uD ht (bl (em ((bD hk).2 i hi))).1 (bl (em ((bD hk).2 j (by omega)))).1 this
  have := th hk hi hj
  unfold kl at this
  rw [this] at e
  cases e
theorem nj {L : List St} {a b c d : Int} {v : D3} : ∀ k, (∀ j, j < k → aW v (apD a b c d (stA L j).2) = false) → dE L a b c d v k = 0
 | 0, _ => rfl
 | k + 1, h => by
  unfold dE
  rw [nj k (fun j hj => h j (by omega)), h k (by omega)]
  rfl
theorem tP {L : List St} (h : aP L = true) {i : Nat} (hi : i < L.length) : (stA L i).1 ≠ 0 := by
 have := (bD h).2 i hi
 unfold dM idB at this
 simp only [Bool.and_eq_true, decide_eq_true_eq] at this
 omega
theorem rI {L : List St} {a b c d : Int} {v : D3} (hk : aP L = true) (ht : aB a b c d = true) : ∀ k, k ≤ L.length → dE L a b c d v k = if dv L a b c d v k ≠ 0 then 1 else 0
 | 0, _ => rfl
 | k + 1, h => by
  unfold dE dv
  cases hs : aW v (apD a b c d (stA L k).2)
  ·rw [rI hk ht k (by omega)]
   simp
  ·rw [nj k (fun j hj => oc hk ht (show k < L.length by omega) hj hs)]
   simp [tP hk (show k < L.length by omega)]
theorem tN {L : List St} {a b c d : Int} {S : List D3} (hk : aP L = true) (ht : aB a b c d = true) (hp : aN S = true) : dW L a b c d S L.length S.length = aL (bf L a b c d S) := by
 rw [jG hk ht hp]
 have : ∀ i, i ≤ S.length → dW L a b c d S L.length i = aL ((S.map (fun v => dv L a b c d v L.length)).take i) := by
  intro i
  induction i with
  | zero => intro _; rfl
  | succ i ih =>
   intro hi
   have hi' : i < (S.map (fun v => dv L a b c d v L.length)).length := by rw [List.length_map]; omega
   rw [mS _ hi', ← ih (by omega)]
   show dW L a b c d S L.length i + dE L a b c d (vA S i) L.length = _
   rw [rI hk ht _ (Nat.le_refl _)]
   have e : (S.map (fun v => dv L a b c d v L.length)).getD i 0 = dv L a b c d (vA S i) L.length := by
    unfold vA
    rw [List.getD_eq_getElem?_getD, List.getElem?_map, List.getElem?_eq_getElem (show i < S.length by omega), List.getD_eq_getElem?_getD, List.getElem?_eq_getElem (show i < S.length by omega)]
    rfl
   rw [e]
 have h := this S.length (Nat.le_refl _)
 rw [h, List.take_of_length_le (by rw [List.length_map]; exact Nat.le_refl _)]
end
section
open Go.RowKit
def prD (v : D3) : D3 := (prI (au v.1 v.2.1 v.2.2) (gI v.1 v.2.1 v.2.2) v.1, prI (au v.1 v.2.1 v.2.2) (gI v.1 v.2.1 v.2.2) v.2.1, prI (au v.1 v.2.1 v.2.2) (gI v.1 v.2.1 v.2.2) v.2.2)
def apV (a b c d : Int) (v : D3) : D3 := (apI (apR a b c d v.1 v.2.1 v.2.2) (apX a b c d v.1 v.2.1 v.2.2), apI (apR a b c d v.1 v.2.1 v.2.2) (apY a b c d v.1 v.2.1 v.2.2), apI (apR a b c d v.1 v.2.1 v.2.2) (apZ a b c d v.1 v.2.1 v.2.2))
def scV (L : List St) (a b c d id : Int) : D3 := prD (apV a b c d (gO L id))
def scI (L : List St) (a b c d cone : Int) : List Int := (fR L a b c d cone).take 6
def scS (L : List St) (a b c d cone : Int) : List D3 := (scI L a b c d cone).map (scV L a b c d)
theorem si {a b c d x y z : Int} (ht : aB a b c d = true) (hs : aJ x y z = true) : apV a b c d (x, y, z) = apD a b c d (x, y, z) := by
 have hr : apR a b c d x y z = true := by unfold apR; rw [ht, gM hs]; rfl
 unfold apV apD apI
 simp only [hr, if_true]
theorem qT {L : List St} {a b c d : Int} (hk : aP L = true) (ht : aB a b c d = true) {i : Nat} (hi : i < L.length) : fj (scV L a b c d (stA L i).1) = true ∧ aW (scV L a b c d (stA L i).1) (apD a b c d (stA L i).2) = true := by
 have hs := em ((bD hk).2 i hi)
 have e : gO L (stA L i).1 = (stA L i).2 := by unfold gO; rw [if_pos hk]; exact nM hk hi
 unfold scV
 rw [e]
 clear e
 generalize (stA L i).2 = v at *
 obtain ⟨x, y, z⟩ := v
 dsimp only at hs
 have hw : aH 1800 (apX a b c d x y z) (apY a b c d x y z) (apZ a b c d x y z) = true := pf (D := 300) ht (by have h := bG (bl hs).2 (bl hs).2; omega) (by omega) (by omega)
 have hne := vY ht (aR.1 (bl hs).1).2
 rw [si ht hs]
 unfold apD prD fj aW
 dsimp only
 generalize apX a b c d x y z = p at *
 generalize apY a b c d x y z = q at *
 generalize apZ a b c d x y z = r at *
 have hri : au p q r = true := lX (by omega) hw hne
 obtain ⟨u1, u2, u3, e1, e2, e3, f1, f2, f3, hg⟩ := ul hri
 rw [hri, e1, e2, e3]
 clear e1 e2 e3
 generalize gI p q r = g at *
 subst f1 f2 f3
 have hwi := aO.1 hw
 have hu : aH 1800 u1 u2 u3 = true := aO.2 ⟨oF hg hwi.1, oF hg hwi.2.1, oF hg hwi.2.2⟩
 have hnz : ¬ (u1 = 0 ∧ u2 = 0 ∧ u3 = 0) := fun h => hne ⟨by rw [h.1]; simp, by rw [h.2.1]; simp, by rw [h.2.2]; simp⟩
 exact ⟨vj hu hnz, ta hg (lX (by omega) hu hnz) hri⟩
theorem pW {p q r : D3} (h1 : aW p q = true) (h2 : aW q r = true) : aW p r = true := by
 rw [lZ] at h1
 unfold aW at *
 obtain ⟨rq, rp, ⟨b1, b2, b3⟩, b4⟩ := gm h1
 obtain ⟨_, rr, ⟨c1, c2, c3⟩, c4⟩ := gm h2
 obtain ⟨h3, h4⟩ := mV (aR.1 rq).2 b1 b2 b3 c1 c2 c3 b4 c4
 exact rQ rp rr h3 h4
theorem rH {L : List St} {a b c d : Int} {v : D3} (hk : aP L = true) (ht : aB a b c d = true) {i j : Nat} (hi : i < L.length) (hj : j < L.length) (h1 : aW v (apD a b c d (stA L i).2) = true) (h2 : aW v (apD a b c d (stA L j).2) = true) : i = j := by
 rcases Nat.lt_trichotomy i j with h | h | h
 ·rw [oc hk ht hj h h2] at h1; cases h1
 ·exact h
 ·rw [oc hk ht hi h h1] at h2; cases h2
theorem tO {L : List St} {a b c d : Int} {v : D3} (hk : aP L = true) (ht : aB a b c d = true) {i : Nat} (h : aW v (apD a b c d (stA L i).2) = true) : ∀ k, i < k → k ≤ L.length → dv L a b c d v k = (stA L i).1
 | 0, h0, _ => by omega
 | k + 1, h0, hl => by
  unfold dv
  cases hs : aW v (apD a b c d (stA L k).2)
  ·have : i ≠ k := fun e => by rw [e, hs] at h; cases h
   rw [if_neg (by simp)]
   exact tO hk ht h k (by omega) (by omega)
  ·rw [if_pos rfl, rH hk ht (show i < L.length by omega) (show k < L.length by omega) h hs]
theorem gn {L : List St} {a b c d cone id : Int} : ∀ k, id ∈ bC L a b c d cone k → ∃ i, i < k ∧ (stA L i).1 = id
 | 0, h => by simp [bC] at h
 | k + 1, h => by
  unfold bC at h
  split at h
  ·rcases List.mem_append.1 h with h | h
   ·obtain ⟨i, hi, e⟩ := gn k h
    exact ⟨i, by omega, e⟩
   ·exact ⟨k, by omega, (List.mem_singleton.1 h).symm⟩
  ·obtain ⟨i, hi, e⟩ := gn k h
   exact ⟨i, by omega, e⟩
theorem kn {L : List St} {a b c d cone : Int} (hk : aP L = true) : ∀ k, k ≤ L.length → (bC L a b c d cone k).Pairwise (· < ·)
 | 0, _ => List.Pairwise.nil
 | k + 1, h => by
  unfold bC
  have ih := kn (a := a) (b := b) (c := c) (d := d) (cone := cone) hk k (by omega)
  split
  ·rw [List.pairwise_append]
   refine ⟨ih, List.pairwise_singleton _ _, fun x hx y hy => ?_⟩
   obtain ⟨i, hi, e⟩ := gn k hx
   rw [List.mem_singleton.1 hy, ← e]
   exact lB hk k (by omega) i hi
  ·exact ih
theorem te {L : List St} {a b c d cone id : Int} (h : id ∈ fR L a b c d cone) : ∃ i, i < L.length ∧ (stA L i).1 = id := by
 unfold fR at h
 split at h
 ·exact gn _ h
 ·cases h
theorem qU {L : List St} {a b c d cone : Int} (hk : aP L = true) : (fR L a b c d cone).Pairwise (· < ·) := by
 unfold fR
 split
 ·exact kn hk _ (Nat.le_refl _)
 ·exact List.Pairwise.nil
theorem kM {L : List St} {a b c d cone id : Int} (h : id ∈ scI L a b c d cone) : ∃ i, i < L.length ∧ (stA L i).1 = id := te (List.mem_of_mem_take h)
theorem uo {L : List St} {a b c d cone : Int} (hk : aP L = true) : (scI L a b c d cone).Pairwise (· < ·) := (qU hk).sublist (List.take_sublist _ _)
theorem oJ (L : List St) (a b c d cone : Int) : (scI L a b c d cone).length ≤ 6 := by unfold scI; rw [List.length_take]; omega
theorem jn (L : List St) (a b c d cone : Int) : (scS L a b c d cone).length = (scI L a b c d cone).length := by unfold scS; rw [List.length_map]
theorem up {L : List St} {a b c d cone : Int} {j : Nat} (hj : j < (scI L a b c d cone).length) : vA (scS L a b c d cone) j = scV L a b c d ((scI L a b c d cone)[j]) := by
 unfold vA scS
 rw [List.getD_eq_getElem?_getD, List.getElem?_map, List.getElem?_eq_getElem hj]
 rfl
theorem pY {L : List St} {a b c d : Int} (cone : Int) (hk : aP L = true) (ht : aB a b c d = true) : aN (scS L a b c d cone) = true := by
 refine fS (by rw [jn]; exact oJ _ _ _ _ _ _) (fun j hj => ?_)
 rw [jn] at hj
 have hr := List.pairwise_iff_getElem.1 (uo (a := a) (b := b) (c := c) (d := d) (cone := cone) hk)
 obtain ⟨i, hi, ei⟩ := kM (List.getElem_mem hj)
 have o := qT hk ht hi
 rw [ei, ← up hj] at o
 unfold okV
 rw [o.1, kT (fun k hkj => ?_)]
 ·rfl
 cases hs : aW (vA (scS L a b c d cone) j) (vA (scS L a b c d cone) k)
 ·rfl
 ·exfalso
  have hkl : k < (scI L a b c d cone).length := by omega
  obtain ⟨i', hi', ei'⟩ := kM (List.getElem_mem hkl)
  have o' := qT hk ht hi'
  rw [ei', ← up hkl] at o'
  have e := rH hk ht hi hi' o.2 (pW hs o'.2)
  have := hr k j hkl hj hkj
  rw [← ei, ← ei', e] at this
  omega
theorem uq {L : List St} {a b c d : Int} (cone : Int) (hk : aP L = true) (ht : aB a b c d = true) : bf L a b c d (scS L a b c d cone) = scI L a b c d cone := by
 rw [jG hk ht (pY cone hk ht)]
 unfold scS
 rw [List.map_map]
 refine (List.map_congr_left (fun x hx => ?_)).trans (List.map_id _)
 obtain ⟨i, hi, ei⟩ := kM hx
 have o := qT hk ht hi
 rw [ei] at o
 show dv L a b c d (scV L a b c d x) L.length = x
 rw [tO hk ht o.2 _ hi (Nat.le_refl _), ei]
theorem vU {L : List St} {a b c d : Int} (cone : Int) (hk : aP L = true) : aL (scI L a b c d cone) = (scI L a b c d cone).length := by
 unfold aL
 rw [List.countP_eq_length]
 intro x hx
 obtain ⟨i, hi, ei⟩ := kM hx
 have := tP hk hi
 simp only [decide_eq_true_eq]
 omega
end
section
open Go.RowKit Go.Sort
theorem wk {a b c d : Int} (h : inT 1000 a b c d = true) (g : Int) (hg : g = sT a b c d) : wrap64 (a.tdiv g) = a.tdiv (sT a b c d) ∧ wrap64 (b.tdiv g) = b.tdiv (sT a b c d) ∧ wrap64 (c.tdiv g) = c.tdiv (sT a b c d) ∧ wrap64 (d.tdiv g) = d.tdiv (sT a b c d) := by
 subst hg
 obtain ⟨x1, x2, x3, x4⟩ := co.1 h
 have key : ∀ (x s : Int), -1000 ≤ x ∧ x ≤ 1000 → wrap64 (x.tdiv s) = x.tdiv s := fun x s hx => by have := oR (s := s) hx; exact ap (by omega) (by omega)
 exact ⟨key _ _ x1, key _ _ x2, key _ _ x3, key _ _ x4⟩
theorem sK (a b c d : Int) (w : World) (h : inT 1000 a b c d = true) (hz : fl a b c d = false) :
  Calls Tryz.prog 97 #[.agg #[.int .i64 a, .int .i64 b, .int .i64 c, .int .i64 d]] w fun e w' => e = .returned (.agg #[.int .i64 (ofP a b c d a), .int .i64 (ofP a b c d b), .int .i64 (ofP a b c d c), .int .i64 (ofP a b c d d), .int .i64 (ofC a b c d)]) ∧ Below w.heap.size w w' := by
 have HI := yz h
 have HZ := yz hz
 have HN : Hid (sT a b c d ≠ 0) := yz (vB (gU hz))
 have HW := yz (wk h)
 have hw : wrap64 (-gT a b c d) = -gT a b c d := by have := jD h 4; rw [show gS4 a b c d 4 = gT a b c d from lu a b c d] at this; exact ap (by omega) (by omega)
 clear h hz
 go_enter Tryz.func97, Tryz.ntmps97
 go_wp2_with fail
 refine (lD a b c d _ (yy HI)).mono ?_
 rintro e w1 ⟨rfl, hB1⟩
 have va : aG w1 w.heap.size a b c d := ((aK w a b c d _).alloc _).kept (by simp; omega) hB1
 have vr : cd w1 (w.heap.size + 1) 0 0 0 0 0 := (by simpa using cg (w.alloc _) 0 0 0 0 0 _ : cd _ (w.heap.size + 1) 0 0 0 0 0).kept hB1
 have fr : fm w1 (w.heap.size + 1) := (by simpa using eX (w.alloc _) 0 0 0 0 0 _ : fm _ (w.heap.size + 1)).kept (by simp) hB1
 have hB : Below w.heap.size w w1 := aj (aM _ _ _) hB1
 clear hB1
 have hva := va
 obtain ⟨ca0, ca1, ca2, ca3⟩ := va
 go_wp2_with fail
 refine (gh a b c d _).mono ?_
 rintro e w2 ⟨rfl, hB2⟩
 have hlt := vr.lt
 have va := hva.kept hva.lt hB2
 replace vr := vr.kept hB2
 replace fr := fr.kept hlt hB2
 replace hB := aj hB hB2
 clear hB2 hva ca0 ca1 ca2 ca3 hlt
 by_cases hf : fT a b c d < 0
 ·have hs : sT a b c d = -gT a b c d := by unfold sT; rw [if_pos hf]
  have HG := yz hs.symm
  rw [hs] at HN
  have va2 := va.alloc (.cells #[.int .i64 0, .int .i64 0, .int .i64 0, .int .i64 0] 25)
  obtain ⟨ca0, ca1, ca2, ca3⟩ := va
  obtain ⟨cb0, cb1, cb2, cb3⟩ := va2
  go_wp2_with fail
  rw [hw]
  generalize -gT a b c d = g at HN HG ⊢
  clear hw hs hf
  have hne : g ≠ 0 := yy HN
  have hz0 : (g == 0) = false := by simpa using hne
  go_region
  go_wp2_with fail
  obtain ⟨e1, e2, e3, e4⟩ := yy HW g (yy HG)
  rw [e1, e2, e3, e4]
  clear e1 e2 e3 e4 HW cb0 cb1 cb2 cb3 ca0 ca1 ca2 ca3
  cases hr : aB (a.tdiv (sT a b c d)) (b.tdiv (sT a b c d)) (c.tdiv (sT a b c d)) (d.tdiv (sT a b c d))
  ·have HR := yz (oA (yy HI) (yy HZ) hr)
   generalize a.tdiv (sT a b c d) = p at hr ⊢
   generalize b.tdiv (sT a b c d) = q at hr ⊢
   generalize c.tdiv (sT a b c d) = r at hr ⊢
   generalize d.tdiv (sT a b c d) = s at hr ⊢
   have hx := (an w2 (.cells #[.int .i64 p, .int .i64 q, .int .i64 r, .int .i64 s] 25)).drew
   have hlt := vr.lt
   replace vr := vr.kept hx
   replace fr := fr.kept hlt hx
   replace hB := aj hB hx
   clear hx hlt
   refine (aX p q r s _).mono ?_
   rintro e w3 ⟨rfl, hB3⟩
   rw [hr]
   have hlt := vr.lt
   replace vr := vr.kept hB3
   replace fr := fr.kept hlt hB3
   replace hB := aj hB hB3
   clear hB3 hlt
   obtain ⟨cr0, cr1, cr2, cr3, cr4⟩ := vr
   obtain ⟨fr0, fr1, fr2, fr3, fr4⟩ := fr
   go_wp2_with fail
   exact bodyPost_ret (v := .agg #[.int .i64 0, .int .i64 0, .int .i64 0, .int .i64 0, .int .i64 9]) (by simp [results, Tryz.results97, go_sem, cr0, cr1, cr2, cr3, cr4]) rfl ⟨by rw [yy HR], ba hB (by omega) _ _ _ _ _⟩
  ·have HR := yz (ug (yy HI) (yy HZ) hr)
   generalize a.tdiv (sT a b c d) = p at hr HR ⊢
   generalize b.tdiv (sT a b c d) = q at hr HR ⊢
   generalize c.tdiv (sT a b c d) = r at hr HR ⊢
   generalize d.tdiv (sT a b c d) = s at hr HR ⊢
   have hx := (an w2 (.cells #[.int .i64 p, .int .i64 q, .int .i64 r, .int .i64 s] 25)).drew
   have hlt := vr.lt
   have vt1 : aG (w2.alloc (.cells #[.int .i64 p, .int .i64 q, .int .i64 r, .int .i64 s] 25)).drew w2.heap.size p q r s := aK w2 p q r s _
   replace vr := vr.kept hx
   replace fr := fr.kept hlt hx
   replace hB := aj hB hx
   clear hx hlt
   refine (aX p q r s _).mono ?_
   rintro e w3 ⟨rfl, hB3⟩
   rw [hr]
   have hlt := vr.lt
   replace vr := vr.kept hB3
   replace fr := fr.kept hlt hB3
   replace vt1 := vt1.kept vt1.lt hB3
   obtain ⟨ct0, ct1, ct2, ct3⟩ := vt1
   replace hB := aj hB hB3
   clear hB3 hlt
   obtain ⟨cr0, cr1, cr2, cr3, cr4⟩ := vr
   obtain ⟨fr0, fr1, fr2, fr3, fr4⟩ := fr
   go_wp2_with fail
   exact bodyPost_ret (v := .agg #[.int .i64 p, .int .i64 q, .int .i64 r, .int .i64 s, .int .i64 0]) (by simp [results, Tryz.results97, go_sem, cr0, cr1, cr2, cr3, cr4]) rfl ⟨by rw [yy HR], ba hB (by omega) _ _ _ _ _⟩
 ·have hs : sT a b c d = gT a b c d := by unfold sT; rw [if_neg hf]
  have HG := yz hs.symm
  rw [hs] at HN
  have va2 := va.alloc (.cells #[.int .i64 0, .int .i64 0, .int .i64 0, .int .i64 0] 25)
  obtain ⟨ca0, ca1, ca2, ca3⟩ := va
  obtain ⟨cb0, cb1, cb2, cb3⟩ := va2
  go_wp2_with fail
  generalize gT a b c d = g at HN HG ⊢
  clear hw hs hf
  have hne : g ≠ 0 := yy HN
  have hz0 : (g == 0) = false := by simpa using hne
  go_region
  go_wp2_with fail
  obtain ⟨e1, e2, e3, e4⟩ := yy HW g (yy HG)
  rw [e1, e2, e3, e4]
  clear e1 e2 e3 e4 HW cb0 cb1 cb2 cb3 ca0 ca1 ca2 ca3
  cases hr : aB (a.tdiv (sT a b c d)) (b.tdiv (sT a b c d)) (c.tdiv (sT a b c d)) (d.tdiv (sT a b c d))
  ·have HR := yz (oA (yy HI) (yy HZ) hr)
   generalize a.tdiv (sT a b c d) = p at hr ⊢
   generalize b.tdiv (sT a b c d) = q at hr ⊢
   generalize c.tdiv (sT a b c d) = r at hr ⊢
   generalize d.tdiv (sT a b c d) = s at hr ⊢
   have hx := (an w2 (.cells #[.int .i64 p, .int .i64 q, .int .i64 r, .int .i64 s] 25)).drew
   have hlt := vr.lt
   replace vr := vr.kept hx
   replace fr := fr.kept hlt hx
   replace hB := aj hB hx
   clear hx hlt
   refine (aX p q r s _).mono ?_
   rintro e w3 ⟨rfl, hB3⟩
   rw [hr]
   have hlt := vr.lt
   replace vr := vr.kept hB3
   replace fr := fr.kept hlt hB3
   replace hB := aj hB hB3
   clear hB3 hlt
   obtain ⟨cr0, cr1, cr2, cr3, cr4⟩ := vr
   obtain ⟨fr0, fr1, fr2, fr3, fr4⟩ := fr
   go_wp2_with fail
   exact bodyPost_ret (v := .agg #[.int .i64 0, .int .i64 0, .int .i64 0, .int .i64 0, .int .i64 9]) (by simp [results, Tryz.results97, go_sem, cr0, cr1, cr2, cr3, cr4]) rfl ⟨by rw [yy HR], ba hB (by omega) _ _ _ _ _⟩
  ·have HR := yz (ug (yy HI) (yy HZ) hr)
   generalize a.tdiv (sT a b c d) = p at hr HR ⊢
   generalize b.tdiv (sT a b c d) = q at hr HR ⊢
   generalize c.tdiv (sT a b c d) = r at hr HR ⊢
   generalize d.tdiv (sT a b c d) = s at hr HR ⊢
   have hx := (an w2 (.cells #[.int .i64 p, .int .i64 q, .int .i64 r, .int .i64 s] 25)).drew
   have hlt := vr.lt
   have vt1 : aG (w2.alloc (.cells #[.int .i64 p, .int .i64 q, .int .i64 r, .int .i64 s] 25)).drew w2.heap.size p q r s := aK w2 p q r s _
   replace vr := vr.kept hx
   replace fr := fr.kept hlt hx
   replace hB := aj hB hx
   clear hx hlt
   refine (aX p q r s _).mono ?_
   rintro e w3 ⟨rfl, hB3⟩
   rw [hr]
   have hlt := vr.lt
   replace vr := vr.kept hB3
   replace fr := fr.kept hlt hB3
   replace vt1 := vt1.kept vt1.lt hB3
   obtain ⟨ct0, ct1, ct2, ct3⟩ := vt1
   replace hB := aj hB hB3
   clear hB3 hlt
   obtain ⟨cr0, cr1, cr2, cr3, cr4⟩ := vr
   obtain ⟨fr0, fr1, fr2, fr3, fr4⟩ := fr
   go_wp2_with fail
   exact bodyPost_ret (v := .agg #[.int .i64 p, .int .i64 q, .int .i64 r, .int .i64 s, .int .i64 0]) (by simp [results, Tryz.results97, go_sem, cr0, cr1, cr2, cr3, cr4]) rfl ⟨by rw [yy HR], ba hB (by omega) _ _ _ _ _⟩
theorem gN (a b c d : Int) (w : World) :
  Calls Tryz.prog 68 #[.int .i64 a, .int .i64 b, .int .i64 c, .int .i64 d] w fun e w' => e = .returned (.agg #[.int .i64 (ofP a b c d a), .int .i64 (ofP a b c d b), .int .i64 (ofP a b c d c), .int .i64 (ofP a b c d d), .int .i64 (ofC a b c d)]) ∧ Below w.heap.size w w' := by
 go_enter Tryz.func68, Tryz.ntmps68
 go_wp2_with fail
 refine (iC 1000 a b c d _ (by omega) (by omega)).mono ?_
 rintro e w1 ⟨rfl, hB1⟩
 have vr : cd w1 w.heap.size 0 0 0 0 0 := ((cg w 0 0 0 0 0 _).alloc _).kept hB1
 have fr : fm w1 w.heap.size := ((eX w 0 0 0 0 0 _).kept (by simp) (an _ _)).kept (by simp; omega) hB1
 have va : aG w1 (w.heap.size + 1) a b c d := (by simpa using aK (w.alloc _) a b c d _ : aG _ (w.heap.size + 1) a b c d).kept (by simp) hB1
 have hB : Below w.heap.size w w1 := aj (aM _ _ _) hB1
 clear hB1
 cases hi : inT 1000 a b c d
 ·have HR := yz (kK (a := a) (b := b) (c := c) (d := d) (by rw [hi]; rfl))
  obtain ⟨cr0, cr1, cr2, cr3, cr4⟩ := vr
  obtain ⟨fr0, fr1, fr2, fr3, fr4⟩ := fr
  go_wp2_with fail
  exact bodyPost_ret (v := .agg #[.int .i64 0, .int .i64 0, .int .i64 0, .int .i64 0, .int .i64 1]) (by simp [results, Tryz.results68, go_sem, cr0, cr1, cr2, cr3, cr4]) rfl ⟨by rw [yy HR], ba hB (by omega) _ _ _ _ _⟩
 ·have hva := va
  obtain ⟨ca0, ca1, ca2, ca3⟩ := va
  go_wp2_with fail
  refine (gh a b c d _).mono ?_
  rintro e w2 ⟨rfl, hB2⟩
  have hlt := vr.lt
  replace vr := vr.kept hB2
  replace fr := fr.kept hlt hB2
  have va := hva.kept hva.lt hB2
  replace hB := aj hB hB2
  clear hB2 hva ca0 ca1 ca2 ca3 hlt
  by_cases hf : fT a b c d = 0
  ·have HR := yz (kK (a := a) (b := b) (c := c) (d := d) (by rw [fU.2 (kJ.1 hf)]; simp))
   rw [hf]
   obtain ⟨cr0, cr1, cr2, cr3, cr4⟩ := vr
   obtain ⟨fr0, fr1, fr2, fr3, fr4⟩ := fr
   go_wp2_with fail
   exact bodyPost_ret (v := .agg #[.int .i64 0, .int .i64 0, .int .i64 0, .int .i64 0, .int .i64 1]) (by simp [results, Tryz.results68, go_sem, cr0, cr1, cr2, cr3, cr4]) rfl ⟨by rw [yy HR], ba hB (by omega) _ _ _ _ _⟩
  ·have HZ : Hid (fl a b c d = false) := yz (by rw [← Bool.not_eq_true, fU]; exact fun e => hf (kJ.2 e))
   have hb : (fT a b c d == 0) = false := by simpa using hf
   clear hf
   obtain ⟨ca0, ca1, ca2, ca3⟩ := va
   go_wp2_with fail
   refine (sK a b c d _ hi (yy HZ)).mono ?_
   rintro e w3 ⟨rfl, hB3⟩
   have hlt := vr.lt
   replace vr := vr.kept hB3
   replace fr := fr.kept hlt hB3
   replace hB := aj hB hB3
   clear hB3 ca0 ca1 ca2 ca3 hlt
   obtain ⟨cr0, cr1, cr2, cr3, cr4⟩ := vr
   obtain ⟨fr0, fr1, fr2, fr3, fr4⟩ := fr
   go_wp2_with fail
   exact bodyPost_ret (v := .agg #[.int .i64 (ofP a b c d a), .int .i64 (ofP a b c d b), .int .i64 (ofP a b c d c), .int .i64 (ofP a b c d d), .int .i64 (ofC a b c d)]) (by simp [results, Tryz.results68, go_sem, cr0, cr1, cr2, cr3, cr4]) rfl ⟨rfl, ba hB (by omega) _ _ _ _ _⟩
theorem kI {s1 s2 s3 s4 t1 t2 t3 t4 : Int} (h : coR s1 s2 s3 s4 t1 t2 t3 t4 = false) : Value.agg #[.int .i64 (coP s1 s2 s3 s4 t1 t2 t3 t4 (coA s1 s2 s3 s4 t1 t2 t3 t4)), .int .i64 (coP s1 s2 s3 s4 t1 t2 t3 t4 (coB s1 s2 s3 s4 t1 t2 t3 t4)), .int .i64 (coP s1 s2 s3 s4 t1 t2 t3 t4 (coC s1 s2 s3 s4 t1 t2 t3 t4)), .int .i64 (coP s1 s2 s3 s4 t1 t2 t3 t4 (coD s1 s2 s3 s4 t1 t2 t3 t4)), .int .i64 (coK s1 s2 s3 s4 t1 t2 t3 t4)] = Value.agg #[.int .i64 0, .int .i64 0, .int .i64 0, .int .i64 0, .int .i64 1] := by
 unfold coP coK
 rw [h]; rfl
theorem tz {s1 s2 s3 s4 t1 t2 t3 t4 : Int} (h : coR s1 s2 s3 s4 t1 t2 t3 t4 = true) : Value.agg #[.int .i64 (coP s1 s2 s3 s4 t1 t2 t3 t4 (coA s1 s2 s3 s4 t1 t2 t3 t4)), .int .i64 (coP s1 s2 s3 s4 t1 t2 t3 t4 (coB s1 s2 s3 s4 t1 t2 t3 t4)), .int .i64 (coP s1 s2 s3 s4 t1 t2 t3 t4 (coC s1 s2 s3 s4 t1 t2 t3 t4)), .int .i64 (coP s1 s2 s3 s4 t1 t2 t3 t4 (coD s1 s2 s3 s4 t1 t2 t3 t4)), .int .i64 (coK s1 s2 s3 s4 t1 t2 t3 t4)] = Value.agg #[.int .i64 (ofP (coA s1 s2 s3 s4 t1 t2 t3 t4) (coB s1 s2 s3 s4 t1 t2 t3 t4) (coC s1 s2 s3 s4 t1 t2 t3 t4) (coD s1 s2 s3 s4 t1 t2 t3 t4) (coA s1 s2 s3 s4 t1 t2 t3 t4)), .int .i64 (ofP (coA s1 s2 s3 s4 t1 t2 t3 t4) (coB s1 s2 s3 s4 t1 t2 t3 t4) (coC s1 s2 s3 s4 t1 t2 t3 t4) (coD s1 s2 s3 s4 t1 t2 t3 t4) (coB s1 s2 s3 s4 t1 t2 t3 t4)), .int .i64 (ofP (coA s1 s2 s3 s4 t1 t2 t3 t4) (coB s1 s2 s3 s4 t1 t2 t3 t4) (coC s1 s2 s3 s4 t1 t2 t3 t4) (coD s1 s2 s3 s4 t1 t2 t3 t4) (coC s1 s2 s3 s4 t1 t2 t3 t4)), .int .i64 (ofP (coA s1 s2 s3 s4 t1 t2 t3 t4) (coB s1 s2 s3 s4 t1 t2 t3 t4) (coC s1 s2 s3 s4 t1 t2 t3 t4) (coD s1 s2 s3 s4 t1 t2 t3 t4) (coD s1 s2 s3 s4 t1 t2 t3 t4)), .int .i64 (ofC (coA s1 s2 s3 s4 t1 t2 t3 t4) (coB s1 s2 s3 s4 t1 t2 t3 t4) (coC s1 s2 s3 s4 t1 t2 t3 t4) (coD s1 s2 s3 s4 t1 t2 t3 t4))] := by
 unfold coP coK
 rw [h]; rfl
theorem se (s1 s2 s3 s4 t1 t2 t3 t4 : Int) (w : World) (hs : inT 5 s1 s2 s3 s4 = true) (ht : inT 5 t1 t2 t3 t4 = true) :
  Calls Tryz.prog 105 #[.agg #[.int .i64 s1, .int .i64 s2, .int .i64 s3, .int .i64 s4], .agg #[.int .i64 t1, .int .i64 t2, .int .i64 t3, .int .i64 t4]] w fun e w' => e = .returned (.agg #[.int .i64 (coA s1 s2 s3 s4 t1 t2 t3 t4), .int .i64 (coB s1 s2 s3 s4 t1 t2 t3 t4), .int .i64 (coC s1 s2 s3 s4 t1 t2 t3 t4), .int .i64 (coD s1 s2 s3 s4 t1 t2 t3 t4)]) ∧ Below w.heap.size w w' := by
 have HA := yz (vo hs ht).1
 have HB := yz (vp hs ht).1
 have HC := yz (vq hs ht).1
 have HD := yz (vu hs ht).1
 clear hs ht
 go_enter Tryz.func105, Tryz.ntmps105
 go_wp2
 rw [yy HA, yy HB, yy HC, yy HD]
 exact bodyPost_ret (v := .agg #[.int .i64 (coA s1 s2 s3 s4 t1 t2 t3 t4), .int .i64 (coB s1 s2 s3 s4 t1 t2 t3 t4), .int .i64 (coC s1 s2 s3 s4 t1 t2 t3 t4), .int .i64 (coD s1 s2 s3 s4 t1 t2 t3 t4)]) (by simp [results, Tryz.results105, go_sem]) rfl ⟨rfl, dk _ _ _ _⟩
theorem gJ (s1 s2 s3 s4 t1 t2 t3 t4 : Int) (w : World) (hs : inT 5 s1 s2 s3 s4 = true) (ht : inT 5 t1 t2 t3 t4 = true) :
  Calls Tryz.prog 44 #[.agg #[.int .i64 s1, .int .i64 s2, .int .i64 s3, .int .i64 s4], .agg #[.int .i64 t1, .int .i64 t2, .int .i64 t3, .int .i64 t4]] w fun e w' => e = .returned (.agg #[.int .i64 (ofP (coA s1 s2 s3 s4 t1 t2 t3 t4) (coB s1 s2 s3 s4 t1 t2 t3 t4) (coC s1 s2 s3 s4 t1 t2 t3 t4) (coD s1 s2 s3 s4 t1 t2 t3 t4) (coA s1 s2 s3 s4 t1 t2 t3 t4)), .int .i64 (ofP (coA s1 s2 s3 s4 t1 t2 t3 t4) (coB s1 s2 s3 s4 t1 t2 t3 t4) (coC s1 s2 s3 s4 t1 t2 t3 t4) (coD s1 s2 s3 s4 t1 t2 t3 t4) (coB s1 s2 s3 s4 t1 t2 t3 t4)), .int .i64 (ofP (coA s1 s2 s3 s4 t1 t2 t3 t4) (coB s1 s2 s3 s4 t1 t2 t3 t4) (coC s1 s2 s3 s4 t1 t2 t3 t4) (coD s1 s2 s3 s4 t1 t2 t3 t4) (coC s1 s2 s3 s4 t1 t2 t3 t4)), .int .i64 (ofP (coA s1 s2 s3 s4 t1 t2 t3 t4) (coB s1 s2 s3 s4 t1 t2 t3 t4) (coC s1 s2 s3 s4 t1 t2 t3 t4) (coD s1 s2 s3 s4 t1 t2 t3 t4) (coD s1 s2 s3 s4 t1 t2 t3 t4)), .int .i64 (ofC (coA s1 s2 s3 s4 t1 t2 t3 t4) (coB s1 s2 s3 s4 t1 t2 t3 t4) (coC s1 s2 s3 s4 t1 t2 t3 t4) (coD s1 s2 s3 s4 t1 t2 t3 t4))]) ∧ Below w.heap.size w w' := by
 have HA := yz (vo hs ht).1
 have HB := yz (vp hs ht).1
 have HC := yz (vq hs ht).1
 have HD := yz (vu hs ht).1
 clear hs ht
 go_enter Tryz.func44, Tryz.ntmps44
 go_wp2_with fail
 rw [yy HA, yy HB, yy HC, yy HD]
 refine (gN _ _ _ _ _).mono ?_
 rintro e w1 ⟨rfl, hx⟩
 have vr : cd w1 (w.heap.size + 1 + 1) 0 0 0 0 0 := (by simpa using cg ((w.alloc _).alloc _) 0 0 0 0 0 _ : cd _ (w.heap.size + 1 + 1) 0 0 0 0 0).kept hx
 have fr : fm w1 (w.heap.size + 1 + 1) := (by simpa using eX ((w.alloc _).alloc _) 0 0 0 0 0 _ : fm _ (w.heap.size + 1 + 1)).kept (by simp) hx
 have hB : Below w.heap.size w w1 := aj (dk _ _ _ _) hx
 clear hx HA HB HC HD
 obtain ⟨cr0, cr1, cr2, cr3, cr4⟩ := vr
 obtain ⟨fr0, fr1, fr2, fr3, fr4⟩ := fr
 go_wp2_with fail
 exact bodyPost_ret (v := .agg #[.int .i64 (ofP (coA s1 s2 s3 s4 t1 t2 t3 t4) (coB s1 s2 s3 s4 t1 t2 t3 t4) (coC s1 s2 s3 s4 t1 t2 t3 t4) (coD s1 s2 s3 s4 t1 t2 t3 t4) (coA s1 s2 s3 s4 t1 t2 t3 t4)), .int .i64 (ofP (coA s1 s2 s3 s4 t1 t2 t3 t4) (coB s1 s2 s3 s4 t1 t2 t3 t4) (coC s1 s2 s3 s4 t1 t2 t3 t4) (coD s1 s2 s3 s4 t1 t2 t3 t4) (coB s1 s2 s3 s4 t1 t2 t3 t4)), .int .i64 (ofP (coA s1 s2 s3 s4 t1 t2 t3 t4) (coB s1 s2 s3 s4 t1 t2 t3 t4) (coC s1 s2 s3 s4 t1 t2 t3 t4) (coD s1 s2 s3 s4 t1 t2 t3 t4) (coC s1 s2 s3 s4 t1 t2 t3 t4)), .int .i64 (ofP (coA s1 s2 s3 s4 t1 t2 t3 t4) (coB s1 s2 s3 s4 t1 t2 t3 t4) (coC s1 s2 s3 s4 t1 t2 t3 t4) (coD s1 s2 s3 s4 t1 t2 t3 t4) (coD s1 s2 s3 s4 t1 t2 t3 t4)), .int .i64 (ofC (coA s1 s2 s3 s4 t1 t2 t3 t4) (coB s1 s2 s3 s4 t1 t2 t3 t4) (coC s1 s2 s3 s4 t1 t2 t3 t4) (coD s1 s2 s3 s4 t1 t2 t3 t4))]) (by simp [results, Tryz.results44, go_sem, cr0, cr1, cr2, cr3, cr4]) rfl ⟨rfl, ba hB (by omega) _ _ _ _ _⟩
theorem pj (s1 s2 s3 s4 t1 t2 t3 t4 : Int) (w : World) :
  Calls Tryz.prog 78 #[.agg #[.int .i64 s1, .int .i64 s2, .int .i64 s3, .int .i64 s4], .agg #[.int .i64 t1, .int .i64 t2, .int .i64 t3, .int .i64 t4]] w fun e w' => e = .returned (.agg #[.int .i64 (coP s1 s2 s3 s4 t1 t2 t3 t4 (coA s1 s2 s3 s4 t1 t2 t3 t4)), .int .i64 (coP s1 s2 s3 s4 t1 t2 t3 t4 (coB s1 s2 s3 s4 t1 t2 t3 t4)), .int .i64 (coP s1 s2 s3 s4 t1 t2 t3 t4 (coC s1 s2 s3 s4 t1 t2 t3 t4)), .int .i64 (coP s1 s2 s3 s4 t1 t2 t3 t4 (coD s1 s2 s3 s4 t1 t2 t3 t4)), .int .i64 (coK s1 s2 s3 s4 t1 t2 t3 t4)]) ∧ Below w.heap.size w w' := by
 go_enter Tryz.func78, Tryz.ntmps78
 go_wp2_with fail
 refine (bt s1 s2 s3 s4 _).mono ?_
 rintro e w1 ⟨rfl, hx⟩
 have va : aG w1 w.heap.size s1 s2 s3 s4 := (((aK w s1 s2 s3 s4 _).alloc _).alloc _).kept (by simp; omega) hx
 have vb : aG w1 (w.heap.size + 1) t1 t2 t3 t4 := ((by simpa using aK (w.alloc _) t1 t2 t3 t4 _ : aG _ (w.heap.size + 1) t1 t2 t3 t4).alloc _).kept (by simp) hx
 have vr : cd w1 (w.heap.size + 1 + 1) 0 0 0 0 0 := (by simpa using cg ((w.alloc _).alloc _) 0 0 0 0 0 _ : cd _ (w.heap.size + 1 + 1) 0 0 0 0 0).kept hx
 have fr : fm w1 (w.heap.size + 1 + 1) := (by simpa using eX ((w.alloc _).alloc _) 0 0 0 0 0 _ : fm _ (w.heap.size + 1 + 1)).kept (by simp) hx
 have hB : Below w.heap.size w w1 := aj (dk _ _ _ _) hx
 clear hx
 cases h1 : aB s1 s2 s3 s4
 ·have HR := yz (kI (s1 := s1) (s2 := s2) (s3 := s3) (s4 := s4) (t1 := t1) (t2 := t2) (t3 := t3) (t4 := t4) (by rw [coR, h1]; rfl))
  obtain ⟨cr0, cr1, cr2, cr3, cr4⟩ := vr
  obtain ⟨fr0, fr1, fr2, fr3, fr4⟩ := fr
  go_wp2_with fail
  exact bodyPost_ret (v := .agg #[.int .i64 0, .int .i64 0, .int .i64 0, .int .i64 0, .int .i64 1]) (by simp [results, Tryz.results78, go_sem, cr0, cr1, cr2, cr3, cr4]) rfl ⟨by rw [yy HR], ba hB (by omega) _ _ _ _ _⟩
 ·have wa := va
  have wb := vb
  obtain ⟨ca0, ca1, ca2, ca3⟩ := wa
  obtain ⟨cb0, cb1, cb2, cb3⟩ := wb
  go_wp2_with fail
  clear ca0 ca1 ca2 ca3 cb0 cb1 cb2 cb3
  refine (bt t1 t2 t3 t4 _).mono ?_
  rintro e w2 ⟨rfl, hx⟩
  have hlt := vr.lt
  replace va := va.kept va.lt hx
  replace vb := vb.kept vb.lt hx
  replace vr := vr.kept hx
  replace fr := fr.kept hlt hx
  replace hB := aj hB hx
  clear hx hlt
  cases h2 : aB t1 t2 t3 t4
  ·have HR := yz (kI (s1 := s1) (s2 := s2) (s3 := s3) (s4 := s4) (t1 := t1) (t2 := t2) (t3 := t3) (t4 := t4) (by rw [coR, h1, h2]; rfl))
   obtain ⟨cr0, cr1, cr2, cr3, cr4⟩ := vr
   obtain ⟨fr0, fr1, fr2, fr3, fr4⟩ := fr
   go_wp2_with fail
   exact bodyPost_ret (v := .agg #[.int .i64 0, .int .i64 0, .int .i64 0, .int .i64 0, .int .i64 1]) (by simp [results, Tryz.results78, go_sem, cr0, cr1, cr2, cr3, cr4]) rfl ⟨by rw [yy HR], ba hB (by omega) _ _ _ _ _⟩
  ·have wa := va
   have wb := vb
   obtain ⟨ca0, ca1, ca2, ca3⟩ := wa
   obtain ⟨cb0, cb1, cb2, cb3⟩ := wb
   go_wp2_with fail
   clear ca0 ca1 ca2 ca3 cb0 cb1 cb2 cb3
   have HR := yz (tz (s1 := s1) (s2 := s2) (s3 := s3) (s4 := s4) (t1 := t1) (t2 := t2) (t3 := t3) (t4 := t4) (by rw [coR, h1, h2]; rfl))
   refine (se s1 s2 s3 s4 t1 t2 t3 t4 _ (bv.1 h1).1 (bv.1 h2).1).mono ?_
   rintro e w3 ⟨rfl, hx⟩
   have hlt := vr.lt
   replace vr := (vr.kept hx).alloc (.cells #[.int .i64 (coA s1 s2 s3 s4 t1 t2 t3 t4), .int .i64 (coB s1 s2 s3 s4 t1 t2 t3 t4), .int .i64 (coC s1 s2 s3 s4 t1 t2 t3 t4), .int .i64 (coD s1 s2 s3 s4 t1 t2 t3 t4)] 25)
   replace fr := (fr.kept hlt hx).kept (Nat.lt_of_lt_of_le hlt hx.size) (an _ (.cells #[.int .i64 (coA s1 s2 s3 s4 t1 t2 t3 t4), .int .i64 (coB s1 s2 s3 s4 t1 t2 t3 t4), .int .i64 (coC s1 s2 s3 s4 t1 t2 t3 t4), .int .i64 (coD s1 s2 s3 s4 t1 t2 t3 t4)] 25))
   replace hB := (aj hB hx).alloc (aj hB hx).size (.cells #[.int .i64 (coA s1 s2 s3 s4 t1 t2 t3 t4), .int .i64 (coB s1 s2 s3 s4 t1 t2 t3 t4), .int .i64 (coC s1 s2 s3 s4 t1 t2 t3 t4), .int .i64 (coD s1 s2 s3 s4 t1 t2 t3 t4)] 25)
   clear hx hlt va vb
   go_wp2_with fail
   refine (rg _ _ _ _ _).mono ?_
   rintro e w4 ⟨rfl, hx⟩
   have hlt := vr.lt
   replace vr := vr.kept hx
   replace fr := fr.kept hlt hx
   replace hB := aj hB hx
   clear hx hlt
   obtain ⟨cr0, cr1, cr2, cr3, cr4⟩ := vr
   obtain ⟨fr0, fr1, fr2, fr3, fr4⟩ := fr
   go_wp2_with fail
   exact bodyPost_ret (v := .agg #[.int .i64 (ofP (coA s1 s2 s3 s4 t1 t2 t3 t4) (coB s1 s2 s3 s4 t1 t2 t3 t4) (coC s1 s2 s3 s4 t1 t2 t3 t4) (coD s1 s2 s3 s4 t1 t2 t3 t4) (coA s1 s2 s3 s4 t1 t2 t3 t4)), .int .i64 (ofP (coA s1 s2 s3 s4 t1 t2 t3 t4) (coB s1 s2 s3 s4 t1 t2 t3 t4) (coC s1 s2 s3 s4 t1 t2 t3 t4) (coD s1 s2 s3 s4 t1 t2 t3 t4) (coB s1 s2 s3 s4 t1 t2 t3 t4)), .int .i64 (ofP (coA s1 s2 s3 s4 t1 t2 t3 t4) (coB s1 s2 s3 s4 t1 t2 t3 t4) (coC s1 s2 s3 s4 t1 t2 t3 t4) (coD s1 s2 s3 s4 t1 t2 t3 t4) (coC s1 s2 s3 s4 t1 t2 t3 t4)), .int .i64 (ofP (coA s1 s2 s3 s4 t1 t2 t3 t4) (coB s1 s2 s3 s4 t1 t2 t3 t4) (coC s1 s2 s3 s4 t1 t2 t3 t4) (coD s1 s2 s3 s4 t1 t2 t3 t4) (coD s1 s2 s3 s4 t1 t2 t3 t4)), .int .i64 (ofC (coA s1 s2 s3 s4 t1 t2 t3 t4) (coB s1 s2 s3 s4 t1 t2 t3 t4) (coC s1 s2 s3 s4 t1 t2 t3 t4) (coD s1 s2 s3 s4 t1 t2 t3 t4))]) (by simp [results, Tryz.results78, go_sem, cr0, cr1, cr2, cr3, cr4]) rfl ⟨by rw [yy HR], ba hB (by omega) _ _ _ _ _⟩
theorem gt (s1 s2 s3 s4 t1 t2 t3 t4 : Int) (w : World) :
  Calls Tryz.prog 21 #[.agg #[.int .i64 s1, .int .i64 s2, .int .i64 s3, .int .i64 s4], .agg #[.int .i64 t1, .int .i64 t2, .int .i64 t3, .int .i64 t4]] w fun e w' => e = .returned (.agg #[.int .i64 (coP s1 s2 s3 s4 t1 t2 t3 t4 (coA s1 s2 s3 s4 t1 t2 t3 t4)), .int .i64 (coP s1 s2 s3 s4 t1 t2 t3 t4 (coB s1 s2 s3 s4 t1 t2 t3 t4)), .int .i64 (coP s1 s2 s3 s4 t1 t2 t3 t4 (coC s1 s2 s3 s4 t1 t2 t3 t4)), .int .i64 (coP s1 s2 s3 s4 t1 t2 t3 t4 (coD s1 s2 s3 s4 t1 t2 t3 t4)), .int .i64 (coK s1 s2 s3 s4 t1 t2 t3 t4)]) ∧ Below w.heap.size w w' := by
 go_enter Tryz.func21, Tryz.ntmps21
 go_wp2_with fail
 refine (aX s1 s2 s3 s4 _).mono ?_
 rintro e w1 ⟨rfl, hx⟩
 have va : aG w1 w.heap.size s1 s2 s3 s4 := (((aK w s1 s2 s3 s4 _).alloc _).alloc _).kept (by simp; omega) hx
 have vb : aG w1 (w.heap.size + 1) t1 t2 t3 t4 := ((by simpa using aK (w.alloc _) t1 t2 t3 t4 _ : aG _ (w.heap.size + 1) t1 t2 t3 t4).alloc _).kept (by simp) hx
 have vr : cd w1 (w.heap.size + 1 + 1) 0 0 0 0 0 := (by simpa using cg ((w.alloc _).alloc _) 0 0 0 0 0 _ : cd _ (w.heap.size + 1 + 1) 0 0 0 0 0).kept hx
 have fr : fm w1 (w.heap.size + 1 + 1) := (by simpa using eX ((w.alloc _).alloc _) 0 0 0 0 0 _ : fm _ (w.heap.size + 1 + 1)).kept (by simp) hx
 have hB : Below w.heap.size w w1 := aj (dk _ _ _ _) hx
 clear hx
 cases h1 : aB s1 s2 s3 s4
 ·have HR := yz (kI (s1 := s1) (s2 := s2) (s3 := s3) (s4 := s4) (t1 := t1) (t2 := t2) (t3 := t3) (t4 := t4) (by rw [coR, h1]; rfl))
  obtain ⟨cr0, cr1, cr2, cr3, cr4⟩ := vr
  obtain ⟨fr0, fr1, fr2, fr3, fr4⟩ := fr
  go_wp2_with fail
  exact bodyPost_ret (v := .agg #[.int .i64 0, .int .i64 0, .int .i64 0, .int .i64 0, .int .i64 1]) (by simp [results, Tryz.results21, go_sem, cr0, cr1, cr2, cr3, cr4]) rfl ⟨by rw [yy HR], ba hB (by omega) _ _ _ _ _⟩
 ·have wa := va
  have wb := vb
  obtain ⟨ca0, ca1, ca2, ca3⟩ := wa
  obtain ⟨cb0, cb1, cb2, cb3⟩ := wb
  go_wp2_with fail
  clear ca0 ca1 ca2 ca3 cb0 cb1 cb2 cb3
  refine (aX t1 t2 t3 t4 _).mono ?_
  rintro e w2 ⟨rfl, hx⟩
  have hlt := vr.lt
  replace va := va.kept va.lt hx
  replace vb := vb.kept vb.lt hx
  replace vr := vr.kept hx
  replace fr := fr.kept hlt hx
  replace hB := aj hB hx
  clear hx hlt
  cases h2 : aB t1 t2 t3 t4
  ·have HR := yz (kI (s1 := s1) (s2 := s2) (s3 := s3) (s4 := s4) (t1 := t1) (t2 := t2) (t3 := t3) (t4 := t4) (by rw [coR, h1, h2]; rfl))
   obtain ⟨cr0, cr1, cr2, cr3, cr4⟩ := vr
   obtain ⟨fr0, fr1, fr2, fr3, fr4⟩ := fr
   go_wp2_with fail
   exact bodyPost_ret (v := .agg #[.int .i64 0, .int .i64 0, .int .i64 0, .int .i64 0, .int .i64 1]) (by simp [results, Tryz.results21, go_sem, cr0, cr1, cr2, cr3, cr4]) rfl ⟨by rw [yy HR], ba hB (by omega) _ _ _ _ _⟩
  ·have wa := va
   have wb := vb
   obtain ⟨ca0, ca1, ca2, ca3⟩ := wa
   obtain ⟨cb0, cb1, cb2, cb3⟩ := wb
   go_wp2_with fail
   clear ca0 ca1 ca2 ca3 cb0 cb1 cb2 cb3
   have HR := yz (tz (s1 := s1) (s2 := s2) (s3 := s3) (s4 := s4) (t1 := t1) (t2 := t2) (t3 := t3) (t4 := t4) (by rw [coR, h1, h2]; rfl))
   refine (gJ s1 s2 s3 s4 t1 t2 t3 t4 _ (bv.1 h1).1 (bv.1 h2).1).mono ?_
   rintro e w3 ⟨rfl, hx⟩
   have hlt := vr.lt
   replace vr := vr.kept hx
   replace fr := fr.kept hlt hx
   replace hB := aj hB hx
   clear hx hlt va vb
   obtain ⟨cr0, cr1, cr2, cr3, cr4⟩ := vr
   obtain ⟨fr0, fr1, fr2, fr3, fr4⟩ := fr
   go_wp2_with fail
   exact bodyPost_ret (v := .agg #[.int .i64 (ofP (coA s1 s2 s3 s4 t1 t2 t3 t4) (coB s1 s2 s3 s4 t1 t2 t3 t4) (coC s1 s2 s3 s4 t1 t2 t3 t4) (coD s1 s2 s3 s4 t1 t2 t3 t4) (coA s1 s2 s3 s4 t1 t2 t3 t4)), .int .i64 (ofP (coA s1 s2 s3 s4 t1 t2 t3 t4) (coB s1 s2 s3 s4 t1 t2 t3 t4) (coC s1 s2 s3 s4 t1 t2 t3 t4) (coD s1 s2 s3 s4 t1 t2 t3 t4) (coB s1 s2 s3 s4 t1 t2 t3 t4)), .int .i64 (ofP (coA s1 s2 s3 s4 t1 t2 t3 t4) (coB s1 s2 s3 s4 t1 t2 t3 t4) (coC s1 s2 s3 s4 t1 t2 t3 t4) (coD s1 s2 s3 s4 t1 t2 t3 t4) (coC s1 s2 s3 s4 t1 t2 t3 t4)), .int .i64 (ofP (coA s1 s2 s3 s4 t1 t2 t3 t4) (coB s1 s2 s3 s4 t1 t2 t3 t4) (coC s1 s2 s3 s4 t1 t2 t3 t4) (coD s1 s2 s3 s4 t1 t2 t3 t4) (coD s1 s2 s3 s4 t1 t2 t3 t4)), .int .i64 (ofC (coA s1 s2 s3 s4 t1 t2 t3 t4) (coB s1 s2 s3 s4 t1 t2 t3 t4) (coC s1 s2 s3 s4 t1 t2 t3 t4) (coD s1 s2 s3 s4 t1 t2 t3 t4))]) (by simp [results, Tryz.results21, go_sem, cr0, cr1, cr2, cr3, cr4]) rfl ⟨by rw [yy HR], ba hB (by omega) _ _ _ _ _⟩
def dj (w : World) (b : Nat) (v : Value) (lim mode A B C D coast fr : Int) : Prop := w.cell? ⟨b, 0, none⟩ = some v ∧ w.cell? ⟨b, 1, none⟩ = some (.int .i64 lim) ∧ w.cell? ⟨b, 2, none⟩ = some (.int .i64 mode) ∧ w.cell? ⟨b, 3, none⟩ = some (.int .i64 A) ∧ w.cell? ⟨b, 4, none⟩ = some (.int .i64 B) ∧ w.cell? ⟨b, 5, none⟩ = some (.int .i64 C) ∧ w.cell? ⟨b, 6, none⟩ = some (.int .i64 D) ∧ w.cell? ⟨b, 7, none⟩ = some (.int .i64 coast) ∧ w.cell? ⟨b, 8, none⟩ = some (.int .i64 fr)
theorem iz {w w' : World} {a : Addr} {v : Value} (h : w.cell? a = some v) (hB : Below w.heap.size w w') : w'.cell? a = some v := (hB.cell (World.block_lt_of_cell? w a h)).trans h
theorem dj.kept {w w' : World} {b : Nat} {v : Value} {lim mode A B C D coast fr : Int} (h : dj w b v lim mode A B C D coast fr) (hB : Below w.heap.size w w') : dj w' b v lim mode A B C D coast fr := by
 obtain ⟨h0, h1, h2, h3, h4, h5, h6, h7, h8⟩ := h
 exact ⟨iz h0 hB, iz h1 hB, iz h2 hB, iz h3 hB, iz h4 hB, iz h5 hB, iz h6 hB, iz h7 hB, iz h8 hB⟩
theorem dK (w : World) (v : Value) (lim mode A B C D coast fr : Int) (t : TypeId) : dj (w.alloc (.cells #[v, .int .i64 lim, .int .i64 mode, .int .i64 A, .int .i64 B, .int .i64 C, .int .i64 D, .int .i64 coast, .int .i64 fr] t)) w.heap.size v lim mode A B C D coast fr := by
 refine ⟨?_, ?_, ?_, ?_, ?_, ?_, ?_, ?_, ?_⟩ <;> simp
theorem dj.lt {w : World} {b : Nat} {v : Value} {lim mode A B C D coast fr : Int} (h : dj w b v lim mode A B C D coast fr) : b < w.heap.size := World.block_lt_of_cell? w _ h.1
theorem iB (L : List St) (lim mode A B C D coast fr : Int) (a : Option Addr) (c : Nat) (p : Addr) (w : World) (hn : L.length ≤ 1048576) (hcap : L.length ≤ c) (hc9 : c ≤ 9223372036854775807) (hS : aI w a L L.length) (hE : bj p w) :
  Calls Tryz.prog 18 #[.agg #[.slice a L.length c, .int .i64 lim, .int .i64 mode, .int .i64 A, .int .i64 B, .int .i64 C, .int .i64 D, .int .i64 coast, .int .i64 fr]] w fun e w' => e = .returned (.bool (aS ⟨L, lim, mode, A, B, C, D, coast, fr⟩)) ∧ Below w.heap.size w w' := by
 have B0 := an w (.cells #[.slice a L.length c, .int .i64 lim, .int .i64 mode, .int .i64 A, .int .i64 B, .int .i64 C, .int .i64 D, .int .i64 coast, .int .i64 fr] 27)
 have T0 := dK w (.slice a L.length c) lim mode A B C D coast fr 27
 have cS := yz (eq L a c p _ hn hcap hc9 (hS.kept B0) (hE.kept B0))
 have HB0 := yz B0
 have HT0 := yz T0
 clear B0 T0 hS hE hn hcap hc9
 go_enter Tryz.func18, Tryz.ntmps18
 go_wp2_with fail
 refine (yy cS).mono ?_
 rintro e w1 ⟨rfl, hx⟩
 have T1 := yz ((yy HT0).kept hx)
 have B1 := yz (aj (yy HB0) hx)
 clear hx cS HT0 HB0
 obtain ⟨c0, c1, c2, c3, c4, c5, c6, c7, c8⟩ := yy T1
 cases hk : aP L
 ·have HO := yz (nE (t := ⟨L, lim, mode, A, B, C, D, coast, fr⟩) hk)
  go_wp2_with fail
  go_ret
  exact ⟨by rw [yy HO]; rfl, yy B1⟩
 by_cases q1 : lim < 1
 ·have HO := yz (jQ (t := ⟨L, lim, mode, A, B, C, D, coast, fr⟩) (me (by show ¬ 1 ≤ lim; omega)))
  go_wp2_with fail
  go_ret
  exact ⟨by rw [yy HO]; rfl, yy B1⟩
 by_cases q2 : (5 : Int) < lim
 ·have HO := yz (jQ (t := ⟨L, lim, mode, A, B, C, D, coast, fr⟩) (nB (by show ¬ lim ≤ 5; omega)))
  go_wp2_with fail
  go_ret
  exact ⟨by rw [yy HO]; rfl, yy B1⟩
 by_cases q3 : fr < 0
 ·have HO := yz (jR (t := ⟨L, lim, mode, A, B, C, D, coast, fr⟩) (me (by show ¬ 0 ≤ fr; omega)))
  go_wp2_with fail
  go_ret
  exact ⟨by rw [yy HO]; rfl, yy B1⟩
 by_cases q4 : (1000000 : Int) < fr
 ·have HO := yz (jR (t := ⟨L, lim, mode, A, B, C, D, coast, fr⟩) (nB (by show ¬ fr ≤ 1000000; omega)))
  go_wp2_with fail
  go_ret
  exact ⟨by rw [yy HO]; rfl, yy B1⟩
 have HH := yz (mr (t := ⟨L, lim, mode, A, B, C, D, coast, fr⟩) hk (qd (by show 1 ≤ lim; omega) (by show lim ≤ 5; omega)) (qd (by show 0 ≤ fr; omega) (by show fr ≤ 1000000; omega)))
 clear hk
 by_cases m0 : mode = 0
 ·have HO : Hid (aS ⟨L, lim, mode, A, B, C, D, coast, fr⟩ = (eqT A B C D 0 0 0 0 && decide (coast = 0))) := yz (by rw [yy HH, tZ m0])
  have hq := fun W => iY A B C D 0 0 0 0 W
  cases hz : eqT A B C D 0 0 0 0
  ·rw [hz] at HO hq
   go_wp2_with fail
   go_ret
   exact ⟨by rw [yy HO]; rfl, yy B1⟩
  ·rw [hz] at HO hq
   go_wp2_with fail
   go_ret
   exact ⟨by rw [yy HO]; rfl, yy B1⟩
 by_cases m1 : mode = 1
 ·have HO : Hid (aS ⟨L, lim, mode, A, B, C, D, coast, fr⟩ = (aB A B C D && decide (coast = 0))) := yz (by rw [yy HH, lK m1])
  subst m1
  go_wp2_with fail
  refine (bt A B C D _).mono ?_
  rintro e w2 ⟨rfl, hx⟩
  have B2 := yz (aj (yy B1) hx)
  obtain ⟨d0, d1, d2, d3, d4, d5, d6, d7, d8⟩ := (yy T1).kept hx
  clear hx c0 c1 c2 c3 c4 c5 c6 c7 c8
  cases hz : aB A B C D
  ·rw [hz] at HO
   go_wp2_with fail
   go_ret
   exact ⟨by rw [yy HO]; rfl, yy B2⟩
  ·rw [hz] at HO
   go_wp2_with fail
   go_ret
   exact ⟨by rw [yy HO]; rfl, yy B2⟩
 by_cases m2 : mode = 2
 ·have HO : Hid (aS ⟨L, lim, mode, A, B, C, D, coast, fr⟩ = (aB A B C D && de 1 lim coast)) := yz (by rw [yy HH, lL m2])
  subst m2
  go_wp2_with fail
  refine (bt A B C D _).mono ?_
  rintro e w2 ⟨rfl, hx⟩
  have B2 := yz (aj (yy B1) hx)
  obtain ⟨d0, d1, d2, d3, d4, d5, d6, d7, d8⟩ := (yy T1).kept hx
  clear hx c0 c1 c2 c3 c4 c5 c6 c7 c8
  cases hz : aB A B C D
  ·rw [hz] at HO
   go_wp2_with fail
   go_ret
   exact ⟨by rw [yy HO]; rfl, yy B2⟩
  ·rw [hz] at HO
   by_cases u1 : 1 ≤ coast
   ·have HU : Hid (de 1 lim coast = decide (coast ≤ lim)) := yz (by unfold de; rw [decide_eq_true u1]; rfl)
    go_wp2_with fail
    go_ret
    exact ⟨by rw [yy HO, yy HU]; rfl, yy B2⟩
   ·have HU : Hid (de 1 lim coast = false) := yz (me u1)
    go_wp2_with fail
    go_ret
    exact ⟨by rw [yy HO, yy HU]; rfl, yy B2⟩
 ·have HO : Hid (aS ⟨L, lim, mode, A, B, C, D, coast, fr⟩ = false) := yz (by rw [yy HH, ov m0 m1 m2])
  go_wp2_with fail
  go_ret
  exact ⟨by rw [yy HO]; rfl, yy B1⟩
def eH (w : World) (b : Nat) : Prop := ∀ i, w.frozen? ⟨b, i, none⟩ = false
theorem eH.kept {w w' : World} {b : Nat} (h : eH w b) (hb : b < w.heap.size) (hB : Below w.heap.size w w') : eH w' b := fun i => (hB.frozen (p := ⟨b, i, none⟩) hb).trans (h i)
theorem dL (w : World) (cs : Array Value) (t : TypeId) : eH (w.alloc (.cells cs t)) w.heap.size := fun i => by simp
theorem eH.set {w : World} {b : Nat} (h : eH w b) (p : Addr) (v : Value) : eH (w.setCell p v) b := fun i => by rw [World.frozen?_setCell]; exact h i
theorem iQ.far {w : World} {b n k : Nat} {L : List St} (h : iQ w b n L k) {b' : Nat} (hne : b ≠ b') (o : Nat) (x : Value) : iQ (w.setCell ⟨b', o, none⟩ x) b n L k := by
 obtain ⟨cur, hc, r⟩ := h
 exact ⟨cur, by rw [Below.heap_setCell w ⟨b', o, none⟩ x b hne]; exact hc, r⟩
theorem dj.far {w : World} {b : Nat} {v : Value} {lim mode A B C D coast fr : Int} (h : dj w b v lim mode A B C D coast fr) {b' : Nat} (hne : b ≠ b') (o : Nat) (x : Value) : dj (w.setCell ⟨b', o, none⟩ x) b v lim mode A B C D coast fr := by
 obtain ⟨h0, h1, h2, h3, h4, h5, h6, h7, h8⟩ := h
 refine ⟨?_, ?_, ?_, ?_, ?_, ?_, ?_, ?_, ?_⟩ <;> (rw [World.cell?_setCell_far _ _ _ _ (Ne.symm hne)]; assumption)
theorem dg {w : World} {b : Nat} {u : Value} {lim0 mode0 A0 B0 C0 D0 coast0 fr0 : Int} (h : dj w b u lim0 mode0 A0 B0 C0 D0 coast0 fr0) (v : Value) (lim mode A B C D coast fr : Int) : dj (((((((((w.setCell ⟨b, 0, none⟩ v).setCell ⟨b, 1, none⟩ (.int .i64 lim)).setCell ⟨b, 2, none⟩ (.int .i64 mode)).setCell ⟨b, 3, none⟩ (.int .i64 A)).setCell ⟨b, 4, none⟩ (.int .i64 B)).setCell ⟨b, 5, none⟩ (.int .i64 C)).setCell ⟨b, 6, none⟩ (.int .i64 D)).setCell ⟨b, 7, none⟩ (.int .i64 coast)).setCell ⟨b, 8, none⟩ (.int .i64 fr)) b v lim mode A B C D coast fr := by
 obtain ⟨h0, h1, h2, h3, h4, h5, h6, h7, h8⟩ := h
 refine ⟨?_, ?_, ?_, ?_, ?_, ?_, ?_, ?_, ?_⟩ <;> simp [go_sem, h0, h1, h2, h3, h4, h5, h6, h7, h8]
theorem aE {B : Nat} {w w1 : World} (h : Below B w w1) {b : Nat} (hb : B ≤ b) (o : Nat) (v : Value) : Below B w (w1.setCell ⟨b, o, none⟩ v) := h.setCell hb v
def TkO (w : World) (b : Nat) (v : Value) (lim mode A B C D coast fr code : Int) : Prop := dj w b v lim mode A B C D coast fr ∧ w.cell? ⟨b, 9, none⟩ = some (.int .i64 code)
theorem TkO.kept {w w' : World} {b : Nat} {v : Value} {lim mode A B C D coast fr code : Int} (h : TkO w b v lim mode A B C D coast fr code) (hB : Below w.heap.size w w') : TkO w' b v lim mode A B C D coast fr code := ⟨h.1.kept hB, iz h.2 hB⟩
theorem oS (w : World) (v : Value) (lim mode A B C D coast fr code : Int) (t : TypeId) : TkO (w.alloc (.cells #[v, .int .i64 lim, .int .i64 mode, .int .i64 A, .int .i64 B, .int .i64 C, .int .i64 D, .int .i64 coast, .int .i64 fr, .int .i64 code] t)) w.heap.size v lim mode A B C D coast fr code := by
 refine ⟨⟨?_, ?_, ?_, ?_, ?_, ?_, ?_, ?_, ?_⟩, ?_⟩ <;> simp
theorem iy {w w' : World} {a : Addr} {v : Value} {row : Option Nat} (h : w.cell? a = some v) (hg : w.grownBy w' row) (hne : some a.block ≠ row) : w'.cell? a = some v := (World.cell?_of_block (hg.block a.block (World.block_lt_of_cell? w a h) hne)).trans h
theorem dj.grown {w w' : World} {b : Nat} {v : Value} {lim mode A B C D coast fr : Int} {row : Option Nat} (h : dj w b v lim mode A B C D coast fr) (hg : w.grownBy w' row) (hne : some b ≠ row) : dj w' b v lim mode A B C D coast fr := by
 obtain ⟨h0, h1, h2, h3, h4, h5, h6, h7, h8⟩ := h
 exact ⟨iy h0 hg hne, iy h1 hg hne, iy h2 hg hne, iy h3 hg hne, iy h4 hg hne, iy h5 hg hne, iy h6 hg hne, iy h7 hg hne, iy h8 hg hne⟩
theorem TkO.grown {w w' : World} {b : Nat} {v : Value} {lim mode A B C D coast fr code : Int} {row : Option Nat} (h : TkO w b v lim mode A B C D coast fr code) (hg : w.grownBy w' row) (hne : some b ≠ row) : TkO w' b v lim mode A B C D coast fr code := ⟨h.1.grown hg hne, iy h.2 hg hne⟩
end
end Go.Proofs.YtgiodlllokdcdaaGreatDoor
