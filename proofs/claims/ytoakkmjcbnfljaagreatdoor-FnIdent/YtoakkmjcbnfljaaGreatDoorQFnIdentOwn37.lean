/- Several texts in one: LkM. -/
import Derived.Test.YtoakkmjcbnfljaaGreatDoorQFnIdentOwn11
import Derived.Test.YtoakkmjcbnfljaaGreatDoorQFnIdentOwn36
import Derived.Test.YtoakkmjcbnfljaaGreatDoorQFnIdentOwn6
namespace Go.Proofs.YtoakkmjcbnfljaaGreatDoor
set_option linter.unusedVariables false
set_option linter.unusedSimpArgs false
set_option maxRecDepth 100000
set_option maxHeartbeats 8000000
section
open Go.RowKit Go.Sort
theorem fZ {L : List St} {S : List D3} {ids ids' : List Int} (s : Sg) {n : Nat} (h : ∀ i, i < n → ids.getD i 0 = ids'.getD i 0) : dt L S ids s n = dt L S ids' s n := by
 unfold dt
 apply bI
 intro i hi
 have e1 := h i hi
 have e2 : aY L S ids i = aY L S ids' i := by unfold aY; rw [e1]
 rw [e1, e2]
 congr 2
 apply bI
 intro j hj
 have e3 := h j (by omega)
 have e4 : aY L S ids j = aY L S ids' j := by unfold aY; rw [e3]
 rw [e3, e4]
theorem nD {L : List St} {S : List D3} {ids ids' : List Int} {n : Nat} (h : ∀ i, i < n → ids.getD i 0 = ids'.getD i 0) : bZ L S ids n = bZ L S ids' n := by
 unfold bZ
 apply bI
 intro i hi
 have e1 := h i hi
 have e2 : aY L S ids i = aY L S ids' i := by unfold aY; rw [e1]
 rw [e1, e2, fZ _ (fun j hj => h j (by omega))]
theorem qF (ids : List Int) (a : Int) {i : Nat} (h : i < ids.length) : (ids ++ [a]).getD i 0 = ids.getD i 0 := by rw [List.getD_eq_getElem?_getD, List.getD_eq_getElem?_getD, List.getElem?_append_left h]
theorem qE (ids : List Int) (a : Int) : (ids ++ [a]).getD ids.length 0 = a := by rw [List.getD_eq_getElem?_getD, List.getElem?_append_right (Nat.le_refl _), Nat.sub_self]; rfl
theorem sO {x y z : Int} (h : aH x y z = true) : du (x, y, z) = false := by
 have := (aI.1 (bd h).1).2
 unfold du
 exact decide_eq_false this
theorem tG {L : List St} (h : aL L = true) {a : Int} (ha : a ∈ L.map (·.1)) : du (atV L L.length a) = false := by
 obtain ⟨s, hs, rfl⟩ := List.mem_map.1 ha
 obtain ⟨i, hi, rfl⟩ := List.getElem_of_mem hs
 have e : L[i] = stA L i := by unfold stA; rw [List.getD_eq_getElem?_getD, List.getElem?_eq_getElem hi]; rfl
 rw [e, jh h hi]
 exact sO (di ((bm h).2 i hi))
theorem lh {L : List St} {S : List D3} {ids : List Int} {a : Int} (hk : aL L = true) (h : bZ L S ids ids.length = true) (h2 : a = 0 ∨ (a ∈ L.map (·.1) ∧ bs L S ids a = true)) : bZ L S (ids ++ [a]) (ids ++ [a]).length = true := by
 have e0 : (ids ++ [a]).length = ids.length + 1 := by simp
 rw [e0]
 unfold bZ
 rw [ce]
 have e1 : ((List.range ids.length).all fun i => decide ((ids ++ [a]).getD i 0 = 0) || (!du (atV L L.length ((ids ++ [a]).getD i 0)) && dt L S (ids ++ [a]) (aY L S (ids ++ [a]) i) i)) = true := by
  have := nD (L := L) (S := S) (ids := ids ++ [a]) (ids' := ids) (n := ids.length) (fun i hi => qF ids a hi)
  unfold bZ at this h
  rw [this]
  exact h
 rw [e1, Bool.true_and, qE]
 rcases h2 with rfl | ⟨hm, hf⟩
 ·rfl
 ·have e2 : aY L S (ids ++ [a]) ids.length = (vA S ids.length, (a, atV L L.length a)) := by unfold aY; rw [qE]
  rw [e2, tG hk hm, fZ _ (fun i hi => qF ids a hi)]
  unfold bs at hf
  rw [hf]
  simp
theorem gG {L : List St} {S : List D3} (hk : aL L = true) : ∀ (r : Nat) (ids l : List Int), bZ L S ids ids.length = true → l ∈ cg (bs L S) (L.map (·.1)) r ids → bZ L S l l.length = true
 | 0, ids, l, h, hl => by
  simp only [cg, List.mem_singleton] at hl
  subst hl
  exact h
 | r + 1, ids, l, h, hl => by
  simp only [cg, List.mem_append, List.mem_flatMap] at hl
  rcases hl with ⟨a, ha, hl⟩ | hl
  ·have := List.mem_filter.1 ha
   exact gG hk r _ l (lh hk h (.inr this)) hl
  ·exact gG hk r _ l (lh hk h (.inl rfl)) hl
theorem fm : ∀ (X : List (List Int)) (g : List Int × Nat), (g.2 = 0 → aD g.1 < 3) → (X.foldl aR g).2 ≠ 0 → (X.foldl aR g).1 ∈ X ∨ (g.2 ≠ 0 ∧ (X.foldl aR g).1 = g.1)
 | [], g, _, h => .inr ⟨h, rfl⟩
 | x :: X, g, hg, h => by
  rw [List.foldl_cons] at h ⊢
  by_cases c1 : aD x < 3 ∨ aD x < aD g.1
  ·have e : aR g x = g := by unfold aR; rw [if_pos c1]
   rw [e] at h ⊢
   rcases fm X g hg h with h1 | h1
   ·exact .inl (List.mem_cons_of_mem _ h1)
   ·exact .inr h1
  ·by_cases c2 : aD g.1 < aD x
   ·have e : aR g x = (x, 1) := by unfold aR; rw [if_neg c1, if_pos c2]
    rw [e] at h ⊢
    rcases fm X (x, 1) (fun h => by cases h) h with h1 | ⟨_, h1⟩
    ·exact .inl (List.mem_cons_of_mem _ h1)
    ·rw [h1]; exact .inl (List.mem_cons_self ..)
   ·have e : aR g x = (g.1, g.2 + 1) := by unfold aR; rw [if_neg c1, if_neg c2]
    have hne : g.2 ≠ 0 := fun e0 => by have := hg e0; omega
    rw [e] at h ⊢
    rcases fm X (g.1, g.2 + 1) (fun h => by cases h) h with h1 | ⟨_, h1⟩
    ·exact .inl (List.mem_cons_of_mem _ h1)
    ·exact .inr ⟨hne, h1⟩
theorem oy {L : List St} {S : List D3} (hk : aL L = true) (hp : aM S = true) (h0 : eo L S = 0) : aN L S (fO L S) = true := by
 have hg := eO L S
 have h2 : (aW L S).2 = 1 := by
  rw [hg.2.2] at h0
  by_cases a : (aW L S).2 = 0
  ·rw [if_pos a] at h0; cases h0
  ·rw [if_neg a] at h0
   by_cases b : 1 < (aW L S).2
   ·rw [if_pos b] at h0; cases h0
   ·omega
 rw [hg.1, if_pos h2]
 have hm : (aW L S).1 ∈ cg (bs L S) (L.map (·.1)) S.length [] := by
  rcases fm _ ([], 0) (fun _ => by decide) (show (aW L S).2 ≠ 0 by omega) with h | ⟨h, _⟩
  ·exact h
  ·exact absurd rfl h
 have hn := gG hk S.length [] _ rfl hm
 have hl := jg _ _ _ _ _ hm
 unfold aN
 rw [hk, hp, ← gm, hn, decide_eq_true (by simpa using hl)]
 rfl
theorem gx {v1 v2 v3 p1 p2 p3 q1 q2 q3 : Int} (hv : ¬ (v1 = 0 ∧ v2 = 0 ∧ v3 = 0)) (a1 : v2 * p3 - v3 * p2 = 0) (a2 : v3 * p1 - v1 * p3 = 0) (a3 : v1 * p2 - v2 * p1 = 0) (b1 : v2 * q3 - v3 * q2 = 0) (b2 : v3 * q1 - v1 * q3 = 0) (b3 : v1 * q2 - v2 * q1 = 0)
  (hp : 0 < dot v1 v2 v3 p1 p2 p3) (hq : 0 < dot v1 v2 v3 q1 q2 q3) : (p2 * q3 - p3 * q2 = 0 ∧ p3 * q1 - p1 * q3 = 0 ∧ p1 * q2 - p2 * q1 = 0) ∧ 0 < dot p1 p2 p3 q1 q2 q3 := by
 have hvv := eV hv
 obtain ⟨V, hV⟩ : ∃ V, dot v1 v2 v3 v1 v2 v3 = V := ⟨_, rfl⟩
 obtain ⟨P, hP⟩ : ∃ P, dot v1 v2 v3 p1 p2 p3 = P := ⟨_, rfl⟩
 obtain ⟨Q, hQ⟩ : ∃ Q, dot v1 v2 v3 q1 q2 q3 = Q := ⟨_, rfl⟩
 have x1 : V * p1 = P * v1 := by rw [← hV, ← hP]; unfold dot; grind
 have x2 : V * p2 = P * v2 := by rw [← hV, ← hP]; unfold dot; grind
 have x3 : V * p3 = P * v3 := by rw [← hV, ← hP]; unfold dot; grind
 have y1 : V * q1 = Q * v1 := by rw [← hV, ← hQ]; unfold dot; grind
 have y2 : V * q2 = Q * v2 := by rw [← hV, ← hQ]; unfold dot; grind
 have y3 : V * q3 = Q * v3 := by rw [← hV, ← hQ]; unfold dot; grind
 rw [hV] at hvv
 rw [hP] at hp
 rw [hQ] at hq
 have hVV := Int.mul_pos hvv hvv
 have z : ∀ x : Int, V * V * x = 0 → x = 0 := fun x h => by
  rcases Int.mul_eq_zero.1 h with e | e
  ·omega
  ·exact e
 refine ⟨⟨z _ (by grind), z _ (by grind), z _ (by grind)⟩, ?_⟩
 have e : V * V * dot p1 p2 p3 q1 q2 q3 = P * Q * V := by
  rw [← hV] at *
  unfold dot at *
  grind
 have hpos := Int.mul_pos (Int.mul_pos hp hq) hvv
 rw [← e] at hpos
 rcases Int.lt_or_le 0 (dot p1 p2 p3 q1 q2 q3) with h | h
 ·exact h
 ·have := Int.mul_le_mul_of_nonneg_left h (Int.le_of_lt hVV)
  simp at this
  omega
theorem dZ {a1 a2 a3 b1 b2 b3 : Int} (h : bv a1 a2 a3 b1 b2 b3 = true) : aq a1 a2 a3 = true ∧ aq b1 b2 b3 = true ∧ (a2 * b3 - a3 * b2 = 0 ∧ a3 * b1 - a1 * b3 = 0 ∧ a1 * b2 - a2 * b1 = 0) ∧ 0 < dot a1 a2 a3 b1 b2 b3 := by
 unfold bv at h
 simp only [Bool.and_eq_true, decide_eq_true_eq] at h
 obtain ⟨⟨⟨ra, rb⟩, hz⟩, hd⟩ := h
 have a := (aI.1 ra).1
 have b := (aI.1 rb).1
 rw [bK (A := 1000000) (B := 1000000) (aK.2 a) (aK.2 b) (by omega)] at hd
 rw [(bY a.2.1 a.2.2 b.2.1 b.2.2 (by omega)).1, (bY a.2.2 a.1 b.2.2 b.1 (by omega)).1, (bY a.1 a.2.1 b.1 b.2.1 (by omega)).1] at hz
 unfold el at hz
 exact ⟨ra, rb, of_decide_eq_true hz, hd⟩
theorem ks {a1 a2 a3 b1 b2 b3 : Int} (ra : aq a1 a2 a3 = true) (rb : aq b1 b2 b3 = true) (hc : a2 * b3 - a3 * b2 = 0 ∧ a3 * b1 - a1 * b3 = 0 ∧ a1 * b2 - a2 * b1 = 0) (hd : 0 < dot a1 a2 a3 b1 b2 b3) : bv a1 a2 a3 b1 b2 b3 = true := by
 have a := (aI.1 ra).1
 have b := (aI.1 rb).1
 unfold bv
 rw [ra, rb, (bY a.2.1 a.2.2 b.2.1 b.2.2 (by omega)).1, (bY a.2.2 a.1 b.2.2 b.1 (by omega)).1, (bY a.1 a.2.1 b.1 b.2.1 (by omega)).1, bK (A := 1000000) (B := 1000000) (aK.2 a) (aK.2 b) (by omega), hc.1, hc.2.1, hc.2.2]
 simp [el, hd]
theorem lE {x y z : Int} (h : x * x + y * y + z * z = 0) : x = 0 ∧ y = 0 ∧ z = 0 := by
 have h1 := sqn x
 have h2 := sqn y
 have h3 := sqn z
 have e1 : x * x = 0 := by omega
 have e2 : y * y = 0 := by omega
 have e3 : z * z = 0 := by omega
 refine ⟨?_, ?_, ?_⟩
 ·rcases Int.mul_eq_zero.1 e1 with e | e <;> exact e
 ·rcases Int.mul_eq_zero.1 e2 with e | e <;> exact e
 ·rcases Int.mul_eq_zero.1 e3 with e | e <;> exact e
theorem sY {a b c d s1 s2 s3 t1 t2 t3 : Int} (ht : aC a b c d = true) (hs : aq s1 s2 s3 = true) (hu : aq t1 t2 t3 = true)
  (h : (apY a b c d s1 s2 s3 * apZ a b c d t1 t2 t3 - apZ a b c d s1 s2 s3 * apY a b c d t1 t2 t3 = 0 ∧ apZ a b c d s1 s2 s3 * apX a b c d t1 t2 t3 - apX a b c d s1 s2 s3 * apZ a b c d t1 t2 t3 = 0 ∧ apX a b c d s1 s2 s3 * apY a b c d t1 t2 t3 - apY a b c d s1 s2 s3 * apX a b c d t1 t2 t3 = 0) ∧ 0 < dot (apX a b c d s1 s2 s3) (apY a b c d s1 s2 s3) (apZ a b c d s1 s2 s3) (apX a b c d t1 t2 t3) (apY a b c d t1 t2 t3) (apZ a b c d t1 t2 t3)) : bv s1 s2 s3 t1 t2 t3 = true := by
 have hp := iw (dK ht)
 obtain ⟨⟨h1, h2, h3⟩, h4⟩ := h
 have d1 := eK a b c d s1 s2 s3 t1 t2 t3
 have d2 := eK a b c d s1 s2 s3 s1 s2 s3
 have d3 := eK a b c d t1 t2 t3 t1 t2 t3
 generalize apX a b c d s1 s2 s3 = p1 at *
 generalize apY a b c d s1 s2 s3 = p2 at *
 generalize apZ a b c d s1 s2 s3 = p3 at *
 generalize apX a b c d t1 t2 t3 = q1 at *
 generalize apY a b c d t1 t2 t3 = q2 at *
 generalize apZ a b c d t1 t2 t3 = q3 at *
 generalize nT a b c d = N at *
 have hNN := Int.mul_pos hp hp
 have hN4 := Int.mul_pos hNN hNN
 have lag : dot p1 p2 p3 p1 p2 p3 * dot q1 q2 q3 q1 q2 q3 = dot p1 p2 p3 q1 q2 q3 * dot p1 p2 p3 q1 q2 q3 := by
  have e : dot p1 p2 p3 p1 p2 p3 * dot q1 q2 q3 q1 q2 q3 - dot p1 p2 p3 q1 q2 q3 * dot p1 p2 p3 q1 q2 q3 = (p2 * q3 - p3 * q2) * (p2 * q3 - p3 * q2) + (p3 * q1 - p1 * q3) * (p3 * q1 - p1 * q3) + (p1 * q2 - p2 * q1) * (p1 * q2 - p2 * q1) := by unfold dot; grind
  rw [h1, h2, h3] at e
  omega
 rw [d1, d2, d3] at lag
 have e0 : N * N * (N * N) * (dot s1 s2 s3 s1 s2 s3 * dot t1 t2 t3 t1 t2 t3 - dot s1 s2 s3 t1 t2 t3 * dot s1 s2 s3 t1 t2 t3) = 0 := by
  generalize dot s1 s2 s3 s1 s2 s3 = x at *
  generalize dot t1 t2 t3 t1 t2 t3 = y at *
  generalize dot s1 s2 s3 t1 t2 t3 = z at *
  grind
 have e1 : dot s1 s2 s3 s1 s2 s3 * dot t1 t2 t3 t1 t2 t3 - dot s1 s2 s3 t1 t2 t3 * dot s1 s2 s3 t1 t2 t3 = 0 := by
  rcases Int.mul_eq_zero.1 e0 with e | e
  ·omega
  ·exact e
 have e2 : (s2 * t3 - s3 * t2) * (s2 * t3 - s3 * t2) + (s3 * t1 - s1 * t3) * (s3 * t1 - s1 * t3) + (s1 * t2 - s2 * t1) * (s1 * t2 - s2 * t1) = 0 := by
  rw [← e1]; unfold dot; grind
 refine ks hs hu (lE e2) ?_
 rw [d1] at h4
 rcases Int.lt_or_le 0 (dot s1 s2 s3 t1 t2 t3) with h | h
 ·exact h
 ·have := Int.mul_le_mul_of_nonneg_left h (Int.le_of_lt hNN)
  simp at this
  omega
theorem jx {L : List St} (h : aL L = true) {i j : Nat} (hi : i < L.length) (hj : j < i) : jN (stA L i) (stA L j) = false := by
 have := (bm h).2 i hi
 unfold dn at this
 simp only [Bool.and_eq_true] at this
 have h2 : dm L (stA L i) i = false := by simpa using this.2
 unfold dm at h2
 rw [List.any_eq_false] at h2
 have := h2 j (List.mem_range.2 hj)
 simpa using this
theorem qu {L : List St} {a b c d : Int} {v : D3} (hk : aL L = true) (ht : aC a b c d = true) {i j : Nat} (hi : i < L.length) (hj : j < i) (h1 : aS v (apD a b c d (stA L i).2) = true) : aS v (apD a b c d (stA L j).2) = false := by
 cases h2 : aS v (apD a b c d (stA L j).2)
 ·rfl
 ·exfalso
  unfold aS apD at h1 h2
  obtain ⟨rv, _, ⟨b1, b2, b3⟩, b4⟩ := dZ h1
  obtain ⟨_, _, ⟨c1, c2, c3⟩, c4⟩ := dZ h2
  have := gx (aI.1 rv).2 b1 b2 b3 c1 c2 c3 b4 c4
  have e := sY ht (bd (di ((bm hk).2 i hi))).1 (bd (di ((bm hk).2 j (by omega)))).1 this
  have := jx hk hi hj
  unfold jN at this
  rw [this] at e
  cases e
theorem pD {L : List St} (h : aL L = true) {i : Nat} (hi : i < L.length) : (stA L i).1 ≠ 0 := by
 have := (bm h).2 i hi
 unfold dn idB at this
 simp only [Bool.and_eq_true, decide_eq_true_eq] at this
 omega
end
end Go.Proofs.YtoakkmjcbnfljaaGreatDoor
