/- Several texts in one: LkM, ModM, TurnO, TurnD, TurnE, TurnG, ModA. -/
import Derived.Test.YteoonaanoenjiaaGreatDoorQObeyOwn15
import Derived.Test.YteoonaanoenjiaaGreatDoorQObeyOwn9
import Derived.Test.YteoonaanoenjiaaGreatDoorQObeyOwn13
import Derived.Test.YteoonaanoenjiaaGreatDoorQObeyOwn6
import Derived.Test.YteoonaanoenjiaaGreatDoorQObeyOwn7
import Derived.Test.YteoonaanoenjiaaGreatDoorQObeyOwn8
import Derived.Test.YteoonaanoenjiaaGreatDoorQObeyOwn10
namespace Go.Proofs.YteoonaanoenjiaaGreatDoor
open Go.RowKit Go.Sort
set_option linter.unusedVariables false
theorem fitsI_congr {L : List St} {S : List D3} {ids ids' : List Int} (s : Sg) {n : Nat} (h : ∀ i, i < n → ids.getD i 0 = ids'.getD i 0) : fitsI L S ids s n = fitsI L S ids' s n := by
  unfold fitsI
  apply range_all_congr
  intro i hi
  have e1 := h i hi
  have e2 : sgOf L S ids i = sgOf L S ids' i := by unfold sgOf; rw [e1]
  rw [e1, e2]
  congr 2
  apply range_all_congr
  intro j hj
  have e3 := h j (by omega)
  have e4 : sgOf L S ids j = sgOf L S ids' j := by unfold sgOf; rw [e3]
  rw [e3, e4]
theorem namedI_congr {L : List St} {S : List D3} {ids ids' : List Int} {n : Nat} (h : ∀ i, i < n → ids.getD i 0 = ids'.getD i 0) : namedI L S ids n = namedI L S ids' n := by
  unfold namedI
  apply range_all_congr
  intro i hi
  have e1 := h i hi
  have e2 : sgOf L S ids i = sgOf L S ids' i := by unfold sgOf; rw [e1]
  rw [e1, e2, fitsI_congr _ (fun j hj => h j (by omega))]
theorem snoc_lt (ids : List Int) (a : Int) {i : Nat} (h : i < ids.length) : (ids ++ [a]).getD i 0 = ids.getD i 0 := by rw [List.getD_eq_getElem?_getD, List.getD_eq_getElem?_getD, List.getElem?_append_left h]
theorem snoc_at (ids : List Int) (a : Int) : (ids ++ [a]).getD ids.length 0 = a := by rw [List.getD_eq_getElem?_getD, List.getElem?_append_right (Nat.le_refl _), Nat.sub_self]; rfl
theorem small_nz {x y z : Int} (h : smallB x y z = true) : zeroD (x, y, z) = false := by
  have := (rightB_iff.1 (small_iff h).1).2
  unfold zeroD
  exact decide_eq_false this
theorem star_nz {L : List St} (h : skyB L = true) {a : Int} (ha : a ∈ L.map (·.1)) : zeroD (atV L L.length a) = false := by
  obtain ⟨s, hs, rfl⟩ := List.mem_map.1 ha
  obtain ⟨i, hi, rfl⟩ := List.getElem_of_mem hs
  have e : L[i] = stA L i := by unfold stA; rw [List.getD_eq_getElem?_getD, List.getElem?_eq_getElem hi]; rfl
  rw [e, at_own h hi]
  exact small_nz (ok_small ((sky_ok h).2 i hi))
theorem named_snoc {L : List St} {S : List D3} {ids : List Int} {a : Int} (hk : skyB L = true) (h : namedI L S ids ids.length = true) (h2 : a = 0 ∨ (a ∈ L.map (·.1) ∧ fitF L S ids a = true)) : namedI L S (ids ++ [a]) (ids ++ [a]).length = true := by
  have e0 : (ids ++ [a]).length = ids.length + 1 := by simp
  rw [e0]
  unfold namedI
  rw [range_all_succ]
  have e1 : ((List.range ids.length).all fun i => decide ((ids ++ [a]).getD i 0 = 0) || (!zeroD (atV L L.length ((ids ++ [a]).getD i 0)) && fitsI L S (ids ++ [a]) (sgOf L S (ids ++ [a]) i) i)) = true := by
    have := namedI_congr (L := L) (S := S) (ids := ids ++ [a]) (ids' := ids) (n := ids.length) (fun i hi => snoc_lt ids a hi)
    unfold namedI at this h
    rw [this]
    exact h
  rw [e1, Bool.true_and, snoc_at]
  rcases h2 with rfl | ⟨hm, hf⟩
  · rfl
  · have e2 : sgOf L S (ids ++ [a]) ids.length = (vA S ids.length, (a, atV L L.length a)) := by unfold sgOf; rw [snoc_at]
    rw [e2, star_nz hk hm, fitsI_congr _ (fun i hi => snoc_lt ids a hi)]
    unfold fitF at hf
    rw [hf]
    simp
theorem named_all {L : List St} {S : List D3} (hk : skyB L = true) : ∀ (r : Nat) (ids l : List Int), namedI L S ids ids.length = true → l ∈ allN (fitF L S) (L.map (·.1)) r ids → namedI L S l l.length = true
  | 0, ids, l, h, hl => by
    simp only [allN, List.mem_singleton] at hl
    subst hl
    exact h
  | r + 1, ids, l, h, hl => by
    simp only [allN, List.mem_append, List.mem_flatMap] at hl
    rcases hl with ⟨a, ha, hl⟩ | hl
    · have := List.mem_filter.1 ha
      exact named_all hk r _ l (named_snoc hk h (.inr this)) hl
    · exact named_all hk r _ l (named_snoc hk h (.inl rfl)) hl
theorem foldG_mem : ∀ (X : List (List Int)) (g : List Int × Nat), (g.2 = 0 → cntN g.1 < 3) → (X.foldl stepG g).2 ≠ 0 → (X.foldl stepG g).1 ∈ X ∨ (g.2 ≠ 0 ∧ (X.foldl stepG g).1 = g.1)
  | [], g, _, h => .inr ⟨h, rfl⟩
  | x :: X, g, hg, h => by
    rw [List.foldl_cons] at h ⊢
    by_cases c1 : cntN x < 3 ∨ cntN x < cntN g.1
    · have e : stepG g x = g := by unfold stepG; rw [if_pos c1]
      rw [e] at h ⊢
      rcases foldG_mem X g hg h with h1 | h1
      · exact .inl (List.mem_cons_of_mem _ h1)
      · exact .inr h1
    · by_cases c2 : cntN g.1 < cntN x
      · have e : stepG g x = (x, 1) := by unfold stepG; rw [if_neg c1, if_pos c2]
        rw [e] at h ⊢
        rcases foldG_mem X (x, 1) (fun h => by cases h) h with h1 | ⟨_, h1⟩
        · exact .inl (List.mem_cons_of_mem _ h1)
        · rw [h1]; exact .inl (List.mem_cons_self ..)
      · have e : stepG g x = (g.1, g.2 + 1) := by unfold stepG; rw [if_neg c1, if_neg c2]
        have hne : g.2 ≠ 0 := fun e0 => by have := hg e0; omega
        rw [e] at h ⊢
        rcases foldG_mem X (g.1, g.2 + 1) (fun h => by cases h) h with h1 | ⟨_, h1⟩
        · exact .inl (List.mem_cons_of_mem _ h1)
        · exact .inr ⟨hne, h1⟩
theorem found_named {L : List St} {S : List D3} (hk : skyB L = true) (hp : spotsB S = true) (h0 : idCode L S = 0) : namedB L S (idIds L S) = true := by
  have hg := great_same L S
  have h2 : (greatR L S).2 = 1 := by
    rw [hg.2.2] at h0
    by_cases a : (greatR L S).2 = 0
    · rw [if_pos a] at h0; cases h0
    · rw [if_neg a] at h0
      by_cases b : 1 < (greatR L S).2
      · rw [if_pos b] at h0; cases h0
      · omega
  rw [hg.1, if_pos h2]
  have hm : (greatR L S).1 ∈ allN (fitF L S) (L.map (·.1)) S.length [] := by
    rcases foldG_mem _ ([], 0) (fun _ => by decide) (show (greatR L S).2 ≠ 0 by omega) with h | ⟨h, _⟩
    · exact h
    · exact absurd rfl h
  have hn := named_all hk S.length [] _ rfl hm
  have hl := allN_long _ _ _ _ _ hm
  unfold namedB
  rw [hk, hp, ← named_eq, hn, decide_eq_true (by simpa using hl)]
  rfl
theorem for_found {L : List St} {S : List D3} (hk : skyB L = true) (hp : spotsB S = true) (h0 : idCode L S = 0) : (if (sightsTo L S (idIds L S) (idIds L S).length).length < 2 then ((0, 0, 0, 0), 10) else firstT (sightsTo L S (idIds L S) (idIds L S).length) (turnsTo 625)) = forV L S (idIds L S) := by
  have hn := found_named hk hp h0
  have h12 := (sky_ok hk).1
  have h6 := (spots_ok hp).1
  have hl := (named_parts hn).2.2.1
  unfold forV
  rw [if_neg (show ¬ (400 < L.length ∨ 400 < S.length ∨ 400 < (idIds L S).length) by omega), if_pos hn]
theorem cross_dot {v1 v2 v3 p1 p2 p3 q1 q2 q3 : Int} (hv : ¬ (v1 = 0 ∧ v2 = 0 ∧ v3 = 0)) (a1 : v2 * p3 - v3 * p2 = 0) (a2 : v3 * p1 - v1 * p3 = 0) (a3 : v1 * p2 - v2 * p1 = 0) (b1 : v2 * q3 - v3 * q2 = 0) (b2 : v3 * q1 - v1 * q3 = 0) (b3 : v1 * q2 - v2 * q1 = 0)
    (hp : 0 < dot v1 v2 v3 p1 p2 p3) (hq : 0 < dot v1 v2 v3 q1 q2 q3) : (p2 * q3 - p3 * q2 = 0 ∧ p3 * q1 - p1 * q3 = 0 ∧ p1 * q2 - p2 * q1 = 0) ∧ 0 < dot p1 p2 p3 q1 q2 q3 := by
  have hvv := sq_pos hv
  obtain ⟨V, hV⟩ : ∃ V, dot v1 v2 v3 v1 v2 v3 = V := ⟨_, rfl⟩
  obtain ⟨P, hP⟩ : ∃ P, dot v1 v2 v3 p1 p2 p3 = P := ⟨_, rfl⟩
  obtain ⟨Q, hQ⟩ : ∃ Q, dot v1 v2 v3 q1 q2 q3 = Q := ⟨_, rfl⟩
  have x1 : V * p1 = P * v1 := by rw [← hV, ← hP]; unfold dot; grind
  have x2 : V * p2 = P * v2 := by rw [← hV, ← hP]; unfold dot; grind
  have x3 : V * p3 = P * v3 := by rw [← hV, ← hP]; unfold dot; grind
  have y1 : V * q1 = Q * v1 := by rw [← hV, ← hQ]; unfold dot; grind
  have y2 : V * q2 = Q * v2 := by rw [← hV, ← hQ]; unfold dot; grind
  have y3 : V * q3 = Q * v3 := by rw [← hV, ← hQ]; unfold dot; grind
  rw [hV] at hvv
  rw [hP] at hp
  rw [hQ] at hq
  have hVV := Int.mul_pos hvv hvv
  have z : ∀ x : Int, V * V * x = 0 → x = 0 := fun x h => by
    rcases Int.mul_eq_zero.1 h with e | e
    · omega
    · exact e
  refine ⟨⟨z _ (by grind), z _ (by grind), z _ (by grind)⟩, ?_⟩
  have e : V * V * dot p1 p2 p3 q1 q2 q3 = P * Q * V := by
    rw [← hV] at *
    unfold dot at *
    grind
  have hpos := Int.mul_pos (Int.mul_pos hp hq) hvv
  rw [← e] at hpos
  rcases Int.lt_or_le 0 (dot p1 p2 p3 q1 q2 q3) with h | h
  · exact h
  · have := Int.mul_le_mul_of_nonneg_left h (Int.le_of_lt hVV)
    simp at this
    omega
theorem same_parts {a1 a2 a3 b1 b2 b3 : Int} (h : sameB a1 a2 a3 b1 b2 b3 = true) : rightB a1 a2 a3 = true ∧ rightB b1 b2 b3 = true ∧ (a2 * b3 - a3 * b2 = 0 ∧ a3 * b1 - a1 * b3 = 0 ∧ a1 * b2 - a2 * b1 = 0) ∧ 0 < dot a1 a2 a3 b1 b2 b3 := by
  unfold sameB at h
  simp only [Bool.and_eq_true, decide_eq_true_eq] at h
  obtain ⟨⟨⟨ra, rb⟩, hz⟩, hd⟩ := h
  have a := (rightB_iff.1 ra).1
  have b := (rightB_iff.1 rb).1
  rw [dotW_eq (A := 1000000) (B := 1000000) (withinB_iff.2 a) (withinB_iff.2 b) (by omega)] at hd
  rw [(crW_eq a.2.1 a.2.2 b.2.1 b.2.2 (by omega)).1, (crW_eq a.2.2 a.1 b.2.2 b.1 (by omega)).1, (crW_eq a.1 a.2.1 b.1 b.2.1 (by omega)).1] at hz
  unfold zeroB at hz
  exact ⟨ra, rb, of_decide_eq_true hz, hd⟩
theorem same_mk {a1 a2 a3 b1 b2 b3 : Int} (ra : rightB a1 a2 a3 = true) (rb : rightB b1 b2 b3 = true) (hc : a2 * b3 - a3 * b2 = 0 ∧ a3 * b1 - a1 * b3 = 0 ∧ a1 * b2 - a2 * b1 = 0) (hd : 0 < dot a1 a2 a3 b1 b2 b3) : sameB a1 a2 a3 b1 b2 b3 = true := by
  have a := (rightB_iff.1 ra).1
  have b := (rightB_iff.1 rb).1
  unfold sameB
  rw [ra, rb, (crW_eq a.2.1 a.2.2 b.2.1 b.2.2 (by omega)).1, (crW_eq a.2.2 a.1 b.2.2 b.1 (by omega)).1, (crW_eq a.1 a.2.1 b.1 b.2.1 (by omega)).1, dotW_eq (A := 1000000) (B := 1000000) (withinB_iff.2 a) (withinB_iff.2 b) (by omega), hc.1, hc.2.1, hc.2.2]
  simp [zeroB, hd]
theorem sq_zero3 {x y z : Int} (h : x * x + y * y + z * z = 0) : x = 0 ∧ y = 0 ∧ z = 0 := by
  have h1 := sqn x
  have h2 := sqn y
  have h3 := sqn z
  have e1 : x * x = 0 := by omega
  have e2 : y * y = 0 := by omega
  have e3 : z * z = 0 := by omega
  refine ⟨?_, ?_, ?_⟩
  · rcases Int.mul_eq_zero.1 e1 with e | e <;> exact e
  · rcases Int.mul_eq_zero.1 e2 with e | e <;> exact e
  · rcases Int.mul_eq_zero.1 e3 with e | e <;> exact e
theorem ap_same {a b c d s1 s2 s3 t1 t2 t3 : Int} (ht : rightT a b c d = true) (hs : rightB s1 s2 s3 = true) (hu : rightB t1 t2 t3 = true)
    (h : (apY a b c d s1 s2 s3 * apZ a b c d t1 t2 t3 - apZ a b c d s1 s2 s3 * apY a b c d t1 t2 t3 = 0 ∧ apZ a b c d s1 s2 s3 * apX a b c d t1 t2 t3 - apX a b c d s1 s2 s3 * apZ a b c d t1 t2 t3 = 0 ∧ apX a b c d s1 s2 s3 * apY a b c d t1 t2 t3 - apY a b c d s1 s2 s3 * apX a b c d t1 t2 t3 = 0) ∧ 0 < dot (apX a b c d s1 s2 s3) (apY a b c d s1 s2 s3) (apZ a b c d s1 s2 s3) (apX a b c d t1 t2 t3) (apY a b c d t1 t2 t3) (apZ a b c d t1 t2 t3)) : sameB s1 s2 s3 t1 t2 t3 = true := by
  have hp := nT_pos (rightT_ne ht)
  obtain ⟨⟨h1, h2, h3⟩, h4⟩ := h
  have d1 := ap_dot a b c d s1 s2 s3 t1 t2 t3
  have d2 := ap_dot a b c d s1 s2 s3 s1 s2 s3
  have d3 := ap_dot a b c d t1 t2 t3 t1 t2 t3
  generalize apX a b c d s1 s2 s3 = p1 at *
  generalize apY a b c d s1 s2 s3 = p2 at *
  generalize apZ a b c d s1 s2 s3 = p3 at *
  generalize apX a b c d t1 t2 t3 = q1 at *
  generalize apY a b c d t1 t2 t3 = q2 at *
  generalize apZ a b c d t1 t2 t3 = q3 at *
  generalize nT a b c d = N at *
  have hNN := Int.mul_pos hp hp
  have hN4 := Int.mul_pos hNN hNN
  have lag : dot p1 p2 p3 p1 p2 p3 * dot q1 q2 q3 q1 q2 q3 = dot p1 p2 p3 q1 q2 q3 * dot p1 p2 p3 q1 q2 q3 := by
    have e : dot p1 p2 p3 p1 p2 p3 * dot q1 q2 q3 q1 q2 q3 - dot p1 p2 p3 q1 q2 q3 * dot p1 p2 p3 q1 q2 q3 = (p2 * q3 - p3 * q2) * (p2 * q3 - p3 * q2) + (p3 * q1 - p1 * q3) * (p3 * q1 - p1 * q3) + (p1 * q2 - p2 * q1) * (p1 * q2 - p2 * q1) := by unfold dot; grind
    rw [h1, h2, h3] at e
    omega
  rw [d1, d2, d3] at lag
  have e0 : N * N * (N * N) * (dot s1 s2 s3 s1 s2 s3 * dot t1 t2 t3 t1 t2 t3 - dot s1 s2 s3 t1 t2 t3 * dot s1 s2 s3 t1 t2 t3) = 0 := by
    generalize dot s1 s2 s3 s1 s2 s3 = x at *
    generalize dot t1 t2 t3 t1 t2 t3 = y at *
    generalize dot s1 s2 s3 t1 t2 t3 = z at *
    grind
  have e1 : dot s1 s2 s3 s1 s2 s3 * dot t1 t2 t3 t1 t2 t3 - dot s1 s2 s3 t1 t2 t3 * dot s1 s2 s3 t1 t2 t3 = 0 := by
    rcases Int.mul_eq_zero.1 e0 with e | e
    · omega
    · exact e
  have e2 : (s2 * t3 - s3 * t2) * (s2 * t3 - s3 * t2) + (s3 * t1 - s1 * t3) * (s3 * t1 - s1 * t3) + (s1 * t2 - s2 * t1) * (s1 * t2 - s2 * t1) = 0 := by
    rw [← e1]; unfold dot; grind
  refine same_mk hs hu (sq_zero3 e2) ?_
  rw [d1] at h4
  rcases Int.lt_or_le 0 (dot s1 s2 s3 t1 t2 t3) with h | h
  · exact h
  · have := Int.mul_le_mul_of_nonneg_left h (Int.le_of_lt hNN)
    simp at this
    omega
theorem sky_apart {L : List St} (h : skyB L = true) {i j : Nat} (hi : i < L.length) (hj : j < i) : sameS (stA L i) (stA L j) = false := by
  have := (sky_ok h).2 i hi
  unfold okAt at this
  simp only [Bool.and_eq_true] at this
  have h2 : takenB L (stA L i) i = false := by simpa using this.2
  unfold takenB at h2
  rw [List.any_eq_false] at h2
  have := h2 j (List.mem_range.2 hj)
  simpa using this
theorem hit_one {L : List St} {a b c d : Int} {v : D3} (hk : skyB L = true) (ht : rightT a b c d = true) {i j : Nat} (hi : i < L.length) (hj : j < i) (h1 : sameD v (apD a b c d (stA L i).2) = true) : sameD v (apD a b c d (stA L j).2) = false := by
  cases h2 : sameD v (apD a b c d (stA L j).2)
  · rfl
  · exfalso
    unfold sameD apD at h1 h2
    obtain ⟨rv, _, ⟨b1, b2, b3⟩, b4⟩ := same_parts h1
    obtain ⟨_, _, ⟨c1, c2, c3⟩, c4⟩ := same_parts h2
    have := cross_dot (rightB_iff.1 rv).2 b1 b2 b3 c1 c2 c3 b4 c4
    have e := ap_same ht (small_iff (ok_small ((sky_ok hk).2 i hi))).1 (small_iff (ok_small ((sky_ok hk).2 j (by omega)))).1 this
    have := sky_apart hk hi hj
    unfold sameS at this
    rw [this] at e
    cases e
theorem hits_none {L : List St} {a b c d : Int} {v : D3} : ∀ k, (∀ j, j < k → sameD v (apD a b c d (stA L j).2) = false) → hitsTo L a b c d v k = 0
  | 0, _ => rfl
  | k + 1, h => by
    unfold hitsTo
    rw [hits_none k (fun j hj => h j (by omega)), h k (by omega)]
    rfl
theorem id_pos {L : List St} (h : skyB L = true) {i : Nat} (hi : i < L.length) : (stA L i).1 ≠ 0 := by
  have := (sky_ok h).2 i hi
  unfold okAt idB at this
  simp only [Bool.and_eq_true, decide_eq_true_eq] at this
  omega
theorem hits_id {L : List St} {a b c d : Int} {v : D3} (hk : skyB L = true) (ht : rightT a b c d = true) : ∀ k, k ≤ L.length → hitsTo L a b c d v k = if idTo L a b c d v k ≠ 0 then 1 else 0
  | 0, _ => rfl
  | k + 1, h => by
    unfold hitsTo idTo
    cases hs : sameD v (apD a b c d (stA L k).2)
    · rw [hits_id hk ht k (by omega)]
      simp
    · rw [hits_none k (fun j hj => hit_one hk ht (show k < L.length by omega) hj hs)]
      simp [id_pos hk (show k < L.length by omega)]
theorem hits_cnt {L : List St} {a b c d : Int} {S : List D3} (hk : skyB L = true) (ht : rightT a b c d = true) (hp : spotsB S = true) : hitsOf L a b c d S L.length S.length = cntN (matchL L a b c d S) := by
  rw [match_yes hk ht hp]
  have : ∀ i, i ≤ S.length → hitsOf L a b c d S L.length i = cntN ((S.map (fun v => idTo L a b c d v L.length)).take i) := by
    intro i
    induction i with
    | zero => intro _; rfl
    | succ i ih =>
      intro hi
      have hi' : i < (S.map (fun v => idTo L a b c d v L.length)).length := by rw [List.length_map]; omega
      rw [cntN_take _ hi', ← ih (by omega)]
      show hitsOf L a b c d S L.length i + hitsTo L a b c d (vA S i) L.length = _
      rw [hits_id hk ht _ (Nat.le_refl _)]
      have e : (S.map (fun v => idTo L a b c d v L.length)).getD i 0 = idTo L a b c d (vA S i) L.length := by
        unfold vA
        rw [List.getD_eq_getElem?_getD, List.getElem?_map, List.getElem?_eq_getElem (show i < S.length by omega), List.getD_eq_getElem?_getD, List.getElem?_eq_getElem (show i < S.length by omega)]
        rfl
      rw [e]
  have h := this S.length (Nat.le_refl _)
  rw [h, List.take_of_length_le (by rw [List.length_map]; exact Nat.le_refl _)]
end Go.Proofs.YteoonaanoenjiaaGreatDoor
namespace Go.Proofs.YteoonaanoenjiaaGreatDoor
set_option linter.unusedVariables false
structure Tk where
  L : List St
  lim : Int
  mode : Int
  A : Int
  B : Int
  C : Int
  D : Int
  coast : Int
  fr : Int
def spanB (lo hi x : Int) : Bool := decide (lo ≤ x) && decide (x ≤ hi)
def modeB (t : Tk) : Bool :=
  if t.mode = 0 then eqT t.A t.B t.C t.D 0 0 0 0 && decide (t.coast = 0)
  else if t.mode = 1 then rightT t.A t.B t.C t.D && decide (t.coast = 0)
  else if t.mode = 2 then rightT t.A t.B t.C t.D && spanB 1 t.lim t.coast
  else false
def headB (t : Tk) : Bool := skyB t.L && spanB 1 5 t.lim && spanB 0 1000000 t.fr
def trackB (t : Tk) : Bool := headB t && modeB t
theorem span_yes {lo hi x : Int} (h1 : lo ≤ x) (h2 : x ≤ hi) : spanB lo hi x = true := by unfold spanB; rw [decide_eq_true h1, decide_eq_true h2]; rfl
theorem span_low {lo hi x : Int} (h : ¬ lo ≤ x) : spanB lo hi x = false := by unfold spanB; rw [decide_eq_false h]; rfl
theorem span_high {lo hi x : Int} (h : ¬ x ≤ hi) : spanB lo hi x = false := by unfold spanB; rw [decide_eq_false h]; simp
theorem span_iff {lo hi x : Int} : spanB lo hi x = true ↔ lo ≤ x ∧ x ≤ hi := by unfold spanB; simp
theorem track_no1 {t : Tk} (h : skyB t.L = false) : trackB t = false := by unfold trackB headB; rw [h]; rfl
theorem track_no2 {t : Tk} (h : spanB 1 5 t.lim = false) : trackB t = false := by unfold trackB headB; rw [h]; simp
theorem track_no3 {t : Tk} (h : spanB 0 1000000 t.fr = false) : trackB t = false := by unfold trackB headB; rw [h]; simp
theorem track_head {t : Tk} (h1 : skyB t.L = true) (h2 : spanB 1 5 t.lim = true) (h3 : spanB 0 1000000 t.fr = true) : trackB t = modeB t := by unfold trackB headB; rw [h1, h2, h3]; rfl
theorem mode_0 {t : Tk} (h : t.mode = 0) : modeB t = (eqT t.A t.B t.C t.D 0 0 0 0 && decide (t.coast = 0)) := by unfold modeB; rw [if_pos h]
theorem mode_1 {t : Tk} (h : t.mode = 1) : modeB t = (rightT t.A t.B t.C t.D && decide (t.coast = 0)) := by unfold modeB; rw [if_neg (by omega), if_pos h]
theorem mode_2 {t : Tk} (h : t.mode = 2) : modeB t = (rightT t.A t.B t.C t.D && spanB 1 t.lim t.coast) := by unfold modeB; rw [if_neg (by omega), if_neg (by omega), if_pos h]
theorem mode_n {t : Tk} (h0 : t.mode ≠ 0) (h1 : t.mode ≠ 1) (h2 : t.mode ≠ 2) : modeB t = false := by unfold modeB; rw [if_neg h0, if_neg h1, if_neg h2]
theorem track_mode {t : Tk} (h : trackB t = true) : modeB t = true := by unfold trackB at h; rw [Bool.and_eq_true] at h; exact h.2
theorem track_turn {t : Tk} (h : trackB t = true) (h0 : t.mode ≠ 0) : rightT t.A t.B t.C t.D = true := by
  have hm := track_mode h
  by_cases h1 : t.mode = 1
  · rw [mode_1 h1, Bool.and_eq_true] at hm; exact hm.1
  · by_cases h2 : t.mode = 2
    · rw [mode_2 h2, Bool.and_eq_true] at hm; exact hm.1
    · rw [mode_n h0 h1 h2] at hm; cases hm
def lostT (t : Tk) : Tk := { t with mode := 0, A := 0, B := 0, C := 0, D := 0, coast := 0 }
def zeroK : Tk := ⟨[], 0, 0, 0, 0, 0, 0, 0, 0⟩
end Go.Proofs.YteoonaanoenjiaaGreatDoor
namespace Go.Proofs.YteoonaanoenjiaaGreatDoor
open Go.RowKit
set_option linter.unusedVariables false
def OutAt (w : World) (b : Nat) (p q r s k : Int) : Prop := w.cell? ⟨b, 0, none⟩ = some (.int .i64 p) ∧ w.cell? ⟨b, 1, none⟩ = some (.int .i64 q) ∧ w.cell? ⟨b, 2, none⟩ = some (.int .i64 r) ∧ w.cell? ⟨b, 3, none⟩ = some (.int .i64 s) ∧ w.cell? ⟨b, 4, none⟩ = some (.int .i64 k)
def FreeO (w : World) (b : Nat) : Prop := w.frozen? ⟨b, 0, none⟩ = false ∧ w.frozen? ⟨b, 1, none⟩ = false ∧ w.frozen? ⟨b, 2, none⟩ = false ∧ w.frozen? ⟨b, 3, none⟩ = false ∧ w.frozen? ⟨b, 4, none⟩ = false
theorem OutAt.lt {w : World} {b : Nat} {p q r s k : Int} (h : OutAt w b p q r s k) : b < w.heap.size := World.block_lt_of_cell? w _ h.1
theorem OutAt.kept {w w' : World} {b : Nat} {p q r s k : Int} (h : OutAt w b p q r s k) (hB : Below w.heap.size w w') : OutAt w' b p q r s k := by
  have hb := h.lt
  obtain ⟨h0, h1, h2, h3, h4⟩ := h
  exact ⟨by rw [hB.cell (p := ⟨b, 0, none⟩) hb]; exact h0, by rw [hB.cell (p := ⟨b, 1, none⟩) hb]; exact h1, by rw [hB.cell (p := ⟨b, 2, none⟩) hb]; exact h2, by rw [hB.cell (p := ⟨b, 3, none⟩) hb]; exact h3, by rw [hB.cell (p := ⟨b, 4, none⟩) hb]; exact h4⟩
theorem FreeO.kept {w w' : World} {b : Nat} (h : FreeO w b) (hb : b < w.heap.size) (hB : Below w.heap.size w w') : FreeO w' b := by
  obtain ⟨h0, h1, h2, h3, h4⟩ := h
  exact ⟨by rw [hB.frozen (p := ⟨b, 0, none⟩) hb]; exact h0, by rw [hB.frozen (p := ⟨b, 1, none⟩) hb]; exact h1, by rw [hB.frozen (p := ⟨b, 2, none⟩) hb]; exact h2, by rw [hB.frozen (p := ⟨b, 3, none⟩) hb]; exact h3, by rw [hB.frozen (p := ⟨b, 4, none⟩) hb]; exact h4⟩
theorem outAt_new (w : World) (p q r s k : Int) (t : TypeId) : OutAt (w.alloc (.cells #[.int .i64 p, .int .i64 q, .int .i64 r, .int .i64 s, .int .i64 k] t)) w.heap.size p q r s k := by
  refine ⟨?_, ?_, ?_, ?_, ?_⟩ <;> simp
theorem freeO_new (w : World) (p q r s k : Int) (t : TypeId) : FreeO (w.alloc (.cells #[.int .i64 p, .int .i64 q, .int .i64 r, .int .i64 s, .int .i64 k] t)) w.heap.size := by
  refine ⟨?_, ?_, ?_, ?_, ?_⟩ <;> simp
theorem OutAt.alloc {w : World} {b : Nat} {p q r s k : Int} (h : OutAt w b p q r s k) (o : Obj) : OutAt (w.alloc o) b p q r s k := h.kept (below1 _ _)
end Go.Proofs.YteoonaanoenjiaaGreatDoor
namespace Go.Proofs.YteoonaanoenjiaaGreatDoor
open Go.RowKit Go.Sort
set_option linter.unusedVariables false
theorem of_form {a b c d : Int} (h : (inT 1000 a b c d && !zeroT a b c d) = false) : Value.agg #[.int .i64 (ofP a b c d a), .int .i64 (ofP a b c d b), .int .i64 (ofP a b c d c), .int .i64 (ofP a b c d d), .int .i64 (ofC a b c d)] = Value.agg #[.int .i64 0, .int .i64 0, .int .i64 0, .int .i64 0, .int .i64 1] := by
  unfold ofP
  rw [ofC_form h]
  rfl
theorem of_full {a b c d : Int} (h1 : inT 1000 a b c d = true) (h2 : zeroT a b c d = false) (h : rightT (a.tdiv (sT a b c d)) (b.tdiv (sT a b c d)) (c.tdiv (sT a b c d)) (d.tdiv (sT a b c d)) = false) : Value.agg #[.int .i64 (ofP a b c d a), .int .i64 (ofP a b c d b), .int .i64 (ofP a b c d c), .int .i64 (ofP a b c d d), .int .i64 (ofC a b c d)] = Value.agg #[.int .i64 0, .int .i64 0, .int .i64 0, .int .i64 0, .int .i64 9] := by
  have e : ofC a b c d = 9 := by unfold ofC; rw [h1, h2, h]; rfl
  unfold ofP
  rw [e]
  rfl
theorem of_ok {a b c d : Int} (h1 : inT 1000 a b c d = true) (h2 : zeroT a b c d = false) (h : rightT (a.tdiv (sT a b c d)) (b.tdiv (sT a b c d)) (c.tdiv (sT a b c d)) (d.tdiv (sT a b c d)) = true) : Value.agg #[.int .i64 (ofP a b c d a), .int .i64 (ofP a b c d b), .int .i64 (ofP a b c d c), .int .i64 (ofP a b c d d), .int .i64 (ofC a b c d)] = Value.agg #[.int .i64 (a.tdiv (sT a b c d)), .int .i64 (b.tdiv (sT a b c d)), .int .i64 (c.tdiv (sT a b c d)), .int .i64 (d.tdiv (sT a b c d)), .int .i64 0] := by
  have e : ofC a b c d = 0 := by unfold ofC; rw [h1, h2, h]; rfl
  unfold ofP
  rw [e]
  rfl
set_option maxHeartbeats 1000000 in
set_option maxRecDepth 100000 in
theorem turnOf_any (a b c d : Int) (w : World) :
    Calls Tryz.prog 181 #[.int .i64 a, .int .i64 b, .int .i64 c, .int .i64 d] w fun e w' => e = .returned (.agg #[.int .i64 (ofP a b c d a), .int .i64 (ofP a b c d b), .int .i64 (ofP a b c d c), .int .i64 (ofP a b c d d), .int .i64 (ofC a b c d)]) ∧ Below w.heap.size w w' := by
  have he := fun w => eql_turn a b c d 0 0 0 0 w
  cases hz : eqT a b c d 0 0 0 0
  · rw [hz] at he
    have HZ := yz (show zeroT a b c d = false from hz)
    clear hz
    go_enter Tryz.func181, Tryz.ntmps181
    go_wp2_with fail
    refine (twithin_any 1000 a b c d _ (by omega) (by omega)).mono ?_
    rintro e w1 ⟨rfl, hB1⟩
    have vr : OutAt w1 w.heap.size 0 0 0 0 0 := ((outAt_new w 0 0 0 0 0 _).alloc _).kept hB1
    have fr : FreeO w1 w.heap.size := ((freeO_new w 0 0 0 0 0 _).kept (by simp) (below1 _ _)).kept (by simp; omega) hB1
    have va : TurnAt w1 (w.heap.size + 1) a b c d := (by simpa using turnAt_new (w.alloc _) a b c d _ : TurnAt _ (w.heap.size + 1) a b c d).kept (by simp) hB1
    have hB : Below w.heap.size w w1 := below_call (below2 _ _ _) hB1
    clear hB1 he
    cases hi : inT 1000 a b c d
    · have HR := yz (of_form (a := a) (b := b) (c := c) (d := d) (by rw [hi]; rfl))
      obtain ⟨cr0, cr1, cr2, cr3, cr4⟩ := vr
      obtain ⟨fr0, fr1, fr2, fr3, fr4⟩ := fr
      go_wp2_with fail
      exact bodyPost_ret (v := .agg #[.int .i64 0, .int .i64 0, .int .i64 0, .int .i64 0, .int .i64 1]) (by simp [results, Tryz.results181, go_sem, cr0, cr1, cr2, cr3, cr4]) rfl ⟨by rw [yx HR], below_set5 hB (by omega) _ _ _ _ _⟩
    · have hva := va
      obtain ⟨ca0, ca1, ca2, ca3⟩ := va
      go_wp2_with fail
      refine (reduced_any a b c d _ hi (zeroT_false (yx HZ))).mono ?_
      rintro e w2 ⟨rfl, hB2⟩
      have hlt := vr.lt
      replace vr := vr.kept hB2
      replace fr := fr.kept hlt hB2
      replace hB := below_call hB hB2
      clear hB2 hva ca0 ca1 ca2 ca3
      cases hr : rightT (a.tdiv (sT a b c d)) (b.tdiv (sT a b c d)) (c.tdiv (sT a b c d)) (d.tdiv (sT a b c d))
      · have HR := yz (of_full hi (yx HZ) hr)
        generalize a.tdiv (sT a b c d) = p at hr ⊢
        generalize b.tdiv (sT a b c d) = q at hr ⊢
        generalize c.tdiv (sT a b c d) = r at hr ⊢
        generalize d.tdiv (sT a b c d) = s at hr ⊢
        have vr1 := vr.alloc (.cells #[.int .i64 p, .int .i64 q, .int .i64 r, .int .i64 s] 35)
        have fr1 := fr.kept vr.lt (below1 w2 (.cells #[.int .i64 p, .int .i64 q, .int .i64 r, .int .i64 s] 35))
        have hB1 := hB.alloc (Nat.le_of_lt (vr.lt)) (.cells #[.int .i64 p, .int .i64 q, .int .i64 r, .int .i64 s] 35)
        go_wp2_with fail
        refine (turnRight_any p q r s _).mono ?_
        rintro e w3 ⟨rfl, hB3⟩
        rw [hr]
        have hlt := vr1.lt
        replace vr := vr1.kept hB3
        replace fr := fr1.kept hlt hB3
        replace hB := below_call hB1 hB3
        clear hB3 vr1 fr1 hB1
        obtain ⟨cr0, cr1, cr2, cr3, cr4⟩ := vr
        obtain ⟨fr0, fr1, fr2, fr3, fr4⟩ := fr
        go_wp2_with fail
        exact bodyPost_ret (v := .agg #[.int .i64 0, .int .i64 0, .int .i64 0, .int .i64 0, .int .i64 9]) (by simp [results, Tryz.results181, go_sem, cr0, cr1, cr2, cr3, cr4]) rfl ⟨by rw [yx HR], below_set5 hB (by omega) _ _ _ _ _⟩
      · have HR := yz (of_ok hi (yx HZ) hr)
        generalize a.tdiv (sT a b c d) = p at hr HR ⊢
        generalize b.tdiv (sT a b c d) = q at hr HR ⊢
        generalize c.tdiv (sT a b c d) = r at hr HR ⊢
        generalize d.tdiv (sT a b c d) = s at hr HR ⊢
        have vr1 := vr.alloc (.cells #[.int .i64 p, .int .i64 q, .int .i64 r, .int .i64 s] 35)
        have fr1 := fr.kept vr.lt (below1 w2 (.cells #[.int .i64 p, .int .i64 q, .int .i64 r, .int .i64 s] 35))
        have vt1 := turnAt_new w2 p q r s 35
        have hB1 := hB.alloc (Nat.le_of_lt (vr.lt)) (.cells #[.int .i64 p, .int .i64 q, .int .i64 r, .int .i64 s] 35)
        go_wp2_with fail
        refine (turnRight_any p q r s _).mono ?_
        rintro e w3 ⟨rfl, hB3⟩
        rw [hr]
        have hlt := vr1.lt
        replace vr := vr1.kept hB3
        replace fr := fr1.kept hlt hB3
        have vt := vt1.kept vt1.lt hB3
        replace hB := below_call hB1 hB3
        clear hB3 vr1 fr1 hB1 vt1
        obtain ⟨cr0, cr1, cr2, cr3, cr4⟩ := vr
        obtain ⟨fr0, fr1, fr2, fr3, fr4⟩ := fr
        obtain ⟨ct0, ct1, ct2, ct3⟩ := vt
        go_wp2_with fail
        exact bodyPost_ret (v := .agg #[.int .i64 p, .int .i64 q, .int .i64 r, .int .i64 s, .int .i64 0]) (by simp [results, Tryz.results181, go_sem, cr0, cr1, cr2, cr3, cr4]) rfl ⟨by rw [yx HR], below_set5 hB (by omega) _ _ _ _ _⟩
  · rw [hz] at he
    have HR := yz (of_form (a := a) (b := b) (c := c) (d := d) (by rw [show zeroT a b c d = true from hz]; simp))
    go_enter Tryz.func181, Tryz.ntmps181
    go_wp2_with fail
    exact bodyPost_ret (v := .agg #[.int .i64 0, .int .i64 0, .int .i64 0, .int .i64 0, .int .i64 1]) (by simp [results, Tryz.results181, go_sem]) rfl ⟨by rw [yx HR], below2 _ _ _⟩
theorem wrapQ {a b c d : Int} (h : inT 1000 a b c d = true) (g : Int) (hg : g = sT a b c d) : wrap64 (a.tdiv g) = a.tdiv (sT a b c d) ∧ wrap64 (b.tdiv g) = b.tdiv (sT a b c d) ∧ wrap64 (c.tdiv g) = c.tdiv (sT a b c d) ∧ wrap64 (d.tdiv g) = d.tdiv (sT a b c d) := by
  subst hg
  obtain ⟨x1, x2, x3, x4⟩ := inT_iff.1 h
  have key : ∀ (x s : Int), -1000 ≤ x ∧ x ≤ 1000 → wrap64 (x.tdiv s) = x.tdiv s := fun x s hx => by have := tdiv_le (s := s) hx; exact wrap_id (by omega) (by omega)
  exact ⟨key _ _ x1, key _ _ x2, key _ _ x3, key _ _ x4⟩
set_option maxHeartbeats 1000000 in
set_option maxRecDepth 100000 in
theorem l03Of_any (a b c d : Int) (w : World) (h : inT 1000 a b c d = true) (hz : zeroT a b c d = false) :
    Calls Tryz.prog 175 #[.agg #[.int .i64 a, .int .i64 b, .int .i64 c, .int .i64 d]] w fun e w' => e = .returned (.agg #[.int .i64 (ofP a b c d a), .int .i64 (ofP a b c d b), .int .i64 (ofP a b c d c), .int .i64 (ofP a b c d d), .int .i64 (ofC a b c d)]) ∧ Below w.heap.size w w' := by
  have HI := yz h
  have HZ := yz hz
  have HN : Hid (sT a b c d ≠ 0) := yz (sT_ne (zeroT_false hz))
  have HW := yz (wrapQ h)
  have hw : wrap64 (-gT a b c d) = -gT a b c d := by have := gS4_le h 4; rw [show gS4 a b c d 4 = gT a b c d from gcd_four a b c d] at this; exact wrap_id (by omega) (by omega)
  clear h hz
  go_enter Tryz.func175, Tryz.ntmps175
  go_wp2_with fail
  refine (l03Gcd_any a b c d _ (yx HI)).mono ?_
  rintro e w1 ⟨rfl, hB1⟩
  have va : TurnAt w1 w.heap.size a b c d := ((turnAt_new w a b c d _).alloc _).kept (by simp; omega) hB1
  have vr : OutAt w1 (w.heap.size + 1) 0 0 0 0 0 := (by simpa using outAt_new (w.alloc _) 0 0 0 0 0 _ : OutAt _ (w.heap.size + 1) 0 0 0 0 0).kept hB1
  have fr : FreeO w1 (w.heap.size + 1) := (by simpa using freeO_new (w.alloc _) 0 0 0 0 0 _ : FreeO _ (w.heap.size + 1)).kept (by simp) hB1
  have hB : Below w.heap.size w w1 := below_call (below2 _ _ _) hB1
  clear hB1
  have hva := va
  obtain ⟨ca0, ca1, ca2, ca3⟩ := va
  go_wp2_with fail
  refine (l03First_any a b c d _).mono ?_
  rintro e w2 ⟨rfl, hB2⟩
  have hlt := vr.lt
  have va := hva.kept hva.lt hB2
  replace vr := vr.kept hB2
  replace fr := fr.kept hlt hB2
  replace hB := below_call hB hB2
  clear hB2 hva ca0 ca1 ca2 ca3 hlt
  by_cases hf : fT a b c d < 0
  · have hs : sT a b c d = -gT a b c d := by unfold sT; rw [if_pos hf]
    have HG := yz hs.symm
    rw [hs] at HN
    have va2 := va.alloc (.cells #[.int .i64 0, .int .i64 0, .int .i64 0, .int .i64 0] 35)
    obtain ⟨ca0, ca1, ca2, ca3⟩ := va
    obtain ⟨cb0, cb1, cb2, cb3⟩ := va2
    go_wp2_with fail
    rw [hw]
    generalize -gT a b c d = g at HN HG ⊢
    clear hw hs hf
    have hne : g ≠ 0 := yx HN
    have hz0 : (g == 0) = false := by simpa using hne
    go_region
    go_wp2_with fail
    obtain ⟨e1, e2, e3, e4⟩ := yx HW g (yx HG)
    rw [e1, e2, e3, e4]
    clear e1 e2 e3 e4 HW cb0 cb1 cb2 cb3 ca0 ca1 ca2 ca3
    cases hr : rightT (a.tdiv (sT a b c d)) (b.tdiv (sT a b c d)) (c.tdiv (sT a b c d)) (d.tdiv (sT a b c d))
    · have HR := yz (of_full (yx HI) (yx HZ) hr)
      generalize a.tdiv (sT a b c d) = p at hr ⊢
      generalize b.tdiv (sT a b c d) = q at hr ⊢
      generalize c.tdiv (sT a b c d) = r at hr ⊢
      generalize d.tdiv (sT a b c d) = s at hr ⊢
      have hx := (below1 w2 (.cells #[.int .i64 p, .int .i64 q, .int .i64 r, .int .i64 s] 35)).drew
      have hlt := vr.lt
      replace vr := vr.kept hx
      replace fr := fr.kept hlt hx
      replace hB := below_call hB hx
      clear hx hlt
      refine (specTRight_any p q r s _).mono ?_
      rintro e w3 ⟨rfl, hB3⟩
      rw [hr]
      have hlt := vr.lt
      replace vr := vr.kept hB3
      replace fr := fr.kept hlt hB3
      replace hB := below_call hB hB3
      clear hB3 hlt
      obtain ⟨cr0, cr1, cr2, cr3, cr4⟩ := vr
      obtain ⟨fr0, fr1, fr2, fr3, fr4⟩ := fr
      go_wp2_with fail
      exact bodyPost_ret (v := .agg #[.int .i64 0, .int .i64 0, .int .i64 0, .int .i64 0, .int .i64 9]) (by simp [results, Tryz.results175, go_sem, cr0, cr1, cr2, cr3, cr4]) rfl ⟨by rw [yx HR], below_set5 hB (by omega) _ _ _ _ _⟩
    · have HR := yz (of_ok (yx HI) (yx HZ) hr)
      generalize a.tdiv (sT a b c d) = p at hr HR ⊢
      generalize b.tdiv (sT a b c d) = q at hr HR ⊢
      generalize c.tdiv (sT a b c d) = r at hr HR ⊢
      generalize d.tdiv (sT a b c d) = s at hr HR ⊢
      have hx := (below1 w2 (.cells #[.int .i64 p, .int .i64 q, .int .i64 r, .int .i64 s] 35)).drew
      have hlt := vr.lt
      have vt1 : TurnAt (w2.alloc (.cells #[.int .i64 p, .int .i64 q, .int .i64 r, .int .i64 s] 35)).drew w2.heap.size p q r s := turnAt_new w2 p q r s _
      replace vr := vr.kept hx
      replace fr := fr.kept hlt hx
      replace hB := below_call hB hx
      clear hx hlt
      refine (specTRight_any p q r s _).mono ?_
      rintro e w3 ⟨rfl, hB3⟩
      rw [hr]
      have hlt := vr.lt
      replace vr := vr.kept hB3
      replace fr := fr.kept hlt hB3
      replace vt1 := vt1.kept vt1.lt hB3
      obtain ⟨ct0, ct1, ct2, ct3⟩ := vt1
      replace hB := below_call hB hB3
      clear hB3 hlt
      obtain ⟨cr0, cr1, cr2, cr3, cr4⟩ := vr
      obtain ⟨fr0, fr1, fr2, fr3, fr4⟩ := fr
      go_wp2_with fail
      exact bodyPost_ret (v := .agg #[.int .i64 p, .int .i64 q, .int .i64 r, .int .i64 s, .int .i64 0]) (by simp [results, Tryz.results175, go_sem, cr0, cr1, cr2, cr3, cr4]) rfl ⟨by rw [yx HR], below_set5 hB (by omega) _ _ _ _ _⟩
  · have hs : sT a b c d = gT a b c d := by unfold sT; rw [if_neg hf]
    have HG := yz hs.symm
    rw [hs] at HN
    have va2 := va.alloc (.cells #[.int .i64 0, .int .i64 0, .int .i64 0, .int .i64 0] 35)
    obtain ⟨ca0, ca1, ca2, ca3⟩ := va
    obtain ⟨cb0, cb1, cb2, cb3⟩ := va2
    go_wp2_with fail
    generalize gT a b c d = g at HN HG ⊢
    clear hw hs hf
    have hne : g ≠ 0 := yx HN
    have hz0 : (g == 0) = false := by simpa using hne
    go_region
    go_wp2_with fail
    obtain ⟨e1, e2, e3, e4⟩ := yx HW g (yx HG)
    rw [e1, e2, e3, e4]
    clear e1 e2 e3 e4 HW cb0 cb1 cb2 cb3 ca0 ca1 ca2 ca3
    cases hr : rightT (a.tdiv (sT a b c d)) (b.tdiv (sT a b c d)) (c.tdiv (sT a b c d)) (d.tdiv (sT a b c d))
    · have HR := yz (of_full (yx HI) (yx HZ) hr)
      generalize a.tdiv (sT a b c d) = p at hr ⊢
      generalize b.tdiv (sT a b c d) = q at hr ⊢
      generalize c.tdiv (sT a b c d) = r at hr ⊢
      generalize d.tdiv (sT a b c d) = s at hr ⊢
      have hx := (below1 w2 (.cells #[.int .i64 p, .int .i64 q, .int .i64 r, .int .i64 s] 35)).drew
      have hlt := vr.lt
      replace vr := vr.kept hx
      replace fr := fr.kept hlt hx
      replace hB := below_call hB hx
      clear hx hlt
      refine (specTRight_any p q r s _).mono ?_
      rintro e w3 ⟨rfl, hB3⟩
      rw [hr]
      have hlt := vr.lt
      replace vr := vr.kept hB3
      replace fr := fr.kept hlt hB3
      replace hB := below_call hB hB3
      clear hB3 hlt
      obtain ⟨cr0, cr1, cr2, cr3, cr4⟩ := vr
      obtain ⟨fr0, fr1, fr2, fr3, fr4⟩ := fr
      go_wp2_with fail
      exact bodyPost_ret (v := .agg #[.int .i64 0, .int .i64 0, .int .i64 0, .int .i64 0, .int .i64 9]) (by simp [results, Tryz.results175, go_sem, cr0, cr1, cr2, cr3, cr4]) rfl ⟨by rw [yx HR], below_set5 hB (by omega) _ _ _ _ _⟩
    · have HR := yz (of_ok (yx HI) (yx HZ) hr)
      generalize a.tdiv (sT a b c d) = p at hr HR ⊢
      generalize b.tdiv (sT a b c d) = q at hr HR ⊢
      generalize c.tdiv (sT a b c d) = r at hr HR ⊢
      generalize d.tdiv (sT a b c d) = s at hr HR ⊢
      have hx := (below1 w2 (.cells #[.int .i64 p, .int .i64 q, .int .i64 r, .int .i64 s] 35)).drew
      have hlt := vr.lt
      have vt1 : TurnAt (w2.alloc (.cells #[.int .i64 p, .int .i64 q, .int .i64 r, .int .i64 s] 35)).drew w2.heap.size p q r s := turnAt_new w2 p q r s _
      replace vr := vr.kept hx
      replace fr := fr.kept hlt hx
      replace hB := below_call hB hx
      clear hx hlt
      refine (specTRight_any p q r s _).mono ?_
      rintro e w3 ⟨rfl, hB3⟩
      rw [hr]
      have hlt := vr.lt
      replace vr := vr.kept hB3
      replace fr := fr.kept hlt hB3
      replace vt1 := vt1.kept vt1.lt hB3
      obtain ⟨ct0, ct1, ct2, ct3⟩ := vt1
      replace hB := below_call hB hB3
      clear hB3 hlt
      obtain ⟨cr0, cr1, cr2, cr3, cr4⟩ := vr
      obtain ⟨fr0, fr1, fr2, fr3, fr4⟩ := fr
      go_wp2_with fail
      exact bodyPost_ret (v := .agg #[.int .i64 p, .int .i64 q, .int .i64 r, .int .i64 s, .int .i64 0]) (by simp [results, Tryz.results175, go_sem, cr0, cr1, cr2, cr3, cr4]) rfl ⟨by rw [yx HR], below_set5 hB (by omega) _ _ _ _ _⟩
set_option maxRecDepth 100000 in
theorem specTurnOf_any (a b c d : Int) (w : World) :
    Calls Tryz.prog 140 #[.int .i64 a, .int .i64 b, .int .i64 c, .int .i64 d] w fun e w' => e = .returned (.agg #[.int .i64 (ofP a b c d a), .int .i64 (ofP a b c d b), .int .i64 (ofP a b c d c), .int .i64 (ofP a b c d d), .int .i64 (ofC a b c d)]) ∧ Below w.heap.size w w' := by
  go_enter Tryz.func140, Tryz.ntmps140
  go_wp2_with fail
  refine (l03Within_any 1000 a b c d _ (by omega) (by omega)).mono ?_
  rintro e w1 ⟨rfl, hB1⟩
  have vr : OutAt w1 w.heap.size 0 0 0 0 0 := ((outAt_new w 0 0 0 0 0 _).alloc _).kept hB1
  have fr : FreeO w1 w.heap.size := ((freeO_new w 0 0 0 0 0 _).kept (by simp) (below1 _ _)).kept (by simp; omega) hB1
  have va : TurnAt w1 (w.heap.size + 1) a b c d := (by simpa using turnAt_new (w.alloc _) a b c d _ : TurnAt _ (w.heap.size + 1) a b c d).kept (by simp) hB1
  have hB : Below w.heap.size w w1 := below_call (below2 _ _ _) hB1
  clear hB1
  cases hi : inT 1000 a b c d
  · have HR := yz (of_form (a := a) (b := b) (c := c) (d := d) (by rw [hi]; rfl))
    obtain ⟨cr0, cr1, cr2, cr3, cr4⟩ := vr
    obtain ⟨fr0, fr1, fr2, fr3, fr4⟩ := fr
    go_wp2_with fail
    exact bodyPost_ret (v := .agg #[.int .i64 0, .int .i64 0, .int .i64 0, .int .i64 0, .int .i64 1]) (by simp [results, Tryz.results140, go_sem, cr0, cr1, cr2, cr3, cr4]) rfl ⟨by rw [yx HR], below_set5 hB (by omega) _ _ _ _ _⟩
  · have hva := va
    obtain ⟨ca0, ca1, ca2, ca3⟩ := va
    go_wp2_with fail
    refine (l03First_any a b c d _).mono ?_
    rintro e w2 ⟨rfl, hB2⟩
    have hlt := vr.lt
    replace vr := vr.kept hB2
    replace fr := fr.kept hlt hB2
    have va := hva.kept hva.lt hB2
    replace hB := below_call hB hB2
    clear hB2 hva ca0 ca1 ca2 ca3 hlt
    by_cases hf : fT a b c d = 0
    · have HR := yz (of_form (a := a) (b := b) (c := c) (d := d) (by rw [zeroT_iff.2 (fT_zero.1 hf)]; simp))
      rw [hf]
      obtain ⟨cr0, cr1, cr2, cr3, cr4⟩ := vr
      obtain ⟨fr0, fr1, fr2, fr3, fr4⟩ := fr
      go_wp2_with fail
      exact bodyPost_ret (v := .agg #[.int .i64 0, .int .i64 0, .int .i64 0, .int .i64 0, .int .i64 1]) (by simp [results, Tryz.results140, go_sem, cr0, cr1, cr2, cr3, cr4]) rfl ⟨by rw [yx HR], below_set5 hB (by omega) _ _ _ _ _⟩
    · have HZ : Hid (zeroT a b c d = false) := yz (by rw [← Bool.not_eq_true, zeroT_iff]; exact fun e => hf (fT_zero.2 e))
      have hb : (fT a b c d == 0) = false := by simpa using hf
      clear hf
      obtain ⟨ca0, ca1, ca2, ca3⟩ := va
      go_wp2_with fail
      refine (l03Of_any a b c d _ hi (yx HZ)).mono ?_
      rintro e w3 ⟨rfl, hB3⟩
      have hlt := vr.lt
      replace vr := vr.kept hB3
      replace fr := fr.kept hlt hB3
      replace hB := below_call hB hB3
      clear hB3 ca0 ca1 ca2 ca3 hlt
      obtain ⟨cr0, cr1, cr2, cr3, cr4⟩ := vr
      obtain ⟨fr0, fr1, fr2, fr3, fr4⟩ := fr
      go_wp2_with fail
      exact bodyPost_ret (v := .agg #[.int .i64 (ofP a b c d a), .int .i64 (ofP a b c d b), .int .i64 (ofP a b c d c), .int .i64 (ofP a b c d d), .int .i64 (ofC a b c d)]) (by simp [results, Tryz.results140, go_sem, cr0, cr1, cr2, cr3, cr4]) rfl ⟨rfl, below_set5 hB (by omega) _ _ _ _ _⟩
theorem co_form {s1 s2 s3 s4 t1 t2 t3 t4 : Int} (h : coR s1 s2 s3 s4 t1 t2 t3 t4 = false) : Value.agg #[.int .i64 (coP s1 s2 s3 s4 t1 t2 t3 t4 (coA s1 s2 s3 s4 t1 t2 t3 t4)), .int .i64 (coP s1 s2 s3 s4 t1 t2 t3 t4 (coB s1 s2 s3 s4 t1 t2 t3 t4)), .int .i64 (coP s1 s2 s3 s4 t1 t2 t3 t4 (coC s1 s2 s3 s4 t1 t2 t3 t4)), .int .i64 (coP s1 s2 s3 s4 t1 t2 t3 t4 (coD s1 s2 s3 s4 t1 t2 t3 t4)), .int .i64 (coK s1 s2 s3 s4 t1 t2 t3 t4)] = Value.agg #[.int .i64 0, .int .i64 0, .int .i64 0, .int .i64 0, .int .i64 1] := by
  unfold coP coK
  rw [h]; rfl
theorem co_ok {s1 s2 s3 s4 t1 t2 t3 t4 : Int} (h : coR s1 s2 s3 s4 t1 t2 t3 t4 = true) : Value.agg #[.int .i64 (coP s1 s2 s3 s4 t1 t2 t3 t4 (coA s1 s2 s3 s4 t1 t2 t3 t4)), .int .i64 (coP s1 s2 s3 s4 t1 t2 t3 t4 (coB s1 s2 s3 s4 t1 t2 t3 t4)), .int .i64 (coP s1 s2 s3 s4 t1 t2 t3 t4 (coC s1 s2 s3 s4 t1 t2 t3 t4)), .int .i64 (coP s1 s2 s3 s4 t1 t2 t3 t4 (coD s1 s2 s3 s4 t1 t2 t3 t4)), .int .i64 (coK s1 s2 s3 s4 t1 t2 t3 t4)] = Value.agg #[.int .i64 (ofP (coA s1 s2 s3 s4 t1 t2 t3 t4) (coB s1 s2 s3 s4 t1 t2 t3 t4) (coC s1 s2 s3 s4 t1 t2 t3 t4) (coD s1 s2 s3 s4 t1 t2 t3 t4) (coA s1 s2 s3 s4 t1 t2 t3 t4)), .int .i64 (ofP (coA s1 s2 s3 s4 t1 t2 t3 t4) (coB s1 s2 s3 s4 t1 t2 t3 t4) (coC s1 s2 s3 s4 t1 t2 t3 t4) (coD s1 s2 s3 s4 t1 t2 t3 t4) (coB s1 s2 s3 s4 t1 t2 t3 t4)), .int .i64 (ofP (coA s1 s2 s3 s4 t1 t2 t3 t4) (coB s1 s2 s3 s4 t1 t2 t3 t4) (coC s1 s2 s3 s4 t1 t2 t3 t4) (coD s1 s2 s3 s4 t1 t2 t3 t4) (coC s1 s2 s3 s4 t1 t2 t3 t4)), .int .i64 (ofP (coA s1 s2 s3 s4 t1 t2 t3 t4) (coB s1 s2 s3 s4 t1 t2 t3 t4) (coC s1 s2 s3 s4 t1 t2 t3 t4) (coD s1 s2 s3 s4 t1 t2 t3 t4) (coD s1 s2 s3 s4 t1 t2 t3 t4)), .int .i64 (ofC (coA s1 s2 s3 s4 t1 t2 t3 t4) (coB s1 s2 s3 s4 t1 t2 t3 t4) (coC s1 s2 s3 s4 t1 t2 t3 t4) (coD s1 s2 s3 s4 t1 t2 t3 t4))] := by
  unfold coP coK
  rw [h]; rfl
set_option maxRecDepth 100000 in
theorem after_any (s1 s2 s3 s4 t1 t2 t3 t4 : Int) (w : World) (hs : inT 5 s1 s2 s3 s4 = true) (ht : inT 5 t1 t2 t3 t4 = true) :
    Calls Tryz.prog 180 #[.agg #[.int .i64 s1, .int .i64 s2, .int .i64 s3, .int .i64 s4], .agg #[.int .i64 t1, .int .i64 t2, .int .i64 t3, .int .i64 t4]] w fun e w' => e = .returned (.agg #[.int .i64 (coA s1 s2 s3 s4 t1 t2 t3 t4), .int .i64 (coB s1 s2 s3 s4 t1 t2 t3 t4), .int .i64 (coC s1 s2 s3 s4 t1 t2 t3 t4), .int .i64 (coD s1 s2 s3 s4 t1 t2 t3 t4)]) ∧ Below w.heap.size w w' := by
  have HA := yz (coW_A hs ht).1
  have HB := yz (coW_B hs ht).1
  have HC := yz (coW_C hs ht).1
  have HD := yz (coW_D hs ht).1
  clear hs ht
  go_enter Tryz.func180, Tryz.ntmps180
  go_wp2
  rw [yx HA, yx HB, yx HC, yx HD]
  exact bodyPost_ret (v := .agg #[.int .i64 (coA s1 s2 s3 s4 t1 t2 t3 t4), .int .i64 (coB s1 s2 s3 s4 t1 t2 t3 t4), .int .i64 (coC s1 s2 s3 s4 t1 t2 t3 t4), .int .i64 (coD s1 s2 s3 s4 t1 t2 t3 t4)]) (by simp [results, Tryz.results180, go_sem]) rfl ⟨rfl, below3 _ _ _ _⟩
set_option maxRecDepth 100000 in
theorem l03Compose_any (s1 s2 s3 s4 t1 t2 t3 t4 : Int) (w : World) (hs : inT 5 s1 s2 s3 s4 = true) (ht : inT 5 t1 t2 t3 t4 = true) :
    Calls Tryz.prog 107 #[.agg #[.int .i64 s1, .int .i64 s2, .int .i64 s3, .int .i64 s4], .agg #[.int .i64 t1, .int .i64 t2, .int .i64 t3, .int .i64 t4]] w fun e w' => e = .returned (.agg #[.int .i64 (ofP (coA s1 s2 s3 s4 t1 t2 t3 t4) (coB s1 s2 s3 s4 t1 t2 t3 t4) (coC s1 s2 s3 s4 t1 t2 t3 t4) (coD s1 s2 s3 s4 t1 t2 t3 t4) (coA s1 s2 s3 s4 t1 t2 t3 t4)), .int .i64 (ofP (coA s1 s2 s3 s4 t1 t2 t3 t4) (coB s1 s2 s3 s4 t1 t2 t3 t4) (coC s1 s2 s3 s4 t1 t2 t3 t4) (coD s1 s2 s3 s4 t1 t2 t3 t4) (coB s1 s2 s3 s4 t1 t2 t3 t4)), .int .i64 (ofP (coA s1 s2 s3 s4 t1 t2 t3 t4) (coB s1 s2 s3 s4 t1 t2 t3 t4) (coC s1 s2 s3 s4 t1 t2 t3 t4) (coD s1 s2 s3 s4 t1 t2 t3 t4) (coC s1 s2 s3 s4 t1 t2 t3 t4)), .int .i64 (ofP (coA s1 s2 s3 s4 t1 t2 t3 t4) (coB s1 s2 s3 s4 t1 t2 t3 t4) (coC s1 s2 s3 s4 t1 t2 t3 t4) (coD s1 s2 s3 s4 t1 t2 t3 t4) (coD s1 s2 s3 s4 t1 t2 t3 t4)), .int .i64 (ofC (coA s1 s2 s3 s4 t1 t2 t3 t4) (coB s1 s2 s3 s4 t1 t2 t3 t4) (coC s1 s2 s3 s4 t1 t2 t3 t4) (coD s1 s2 s3 s4 t1 t2 t3 t4))]) ∧ Below w.heap.size w w' := by
  have HA := yz (coW_A hs ht).1
  have HB := yz (coW_B hs ht).1
  have HC := yz (coW_C hs ht).1
  have HD := yz (coW_D hs ht).1
  clear hs ht
  go_enter Tryz.func107, Tryz.ntmps107
  go_wp2_with fail
  rw [yx HA, yx HB, yx HC, yx HD]
  refine (specTurnOf_any _ _ _ _ _).mono ?_
  rintro e w1 ⟨rfl, hx⟩
  have vr : OutAt w1 (w.heap.size + 1 + 1) 0 0 0 0 0 := (by simpa using outAt_new ((w.alloc _).alloc _) 0 0 0 0 0 _ : OutAt _ (w.heap.size + 1 + 1) 0 0 0 0 0).kept hx
  have fr : FreeO w1 (w.heap.size + 1 + 1) := (by simpa using freeO_new ((w.alloc _).alloc _) 0 0 0 0 0 _ : FreeO _ (w.heap.size + 1 + 1)).kept (by simp) hx
  have hB : Below w.heap.size w w1 := below_call (below3 _ _ _ _) hx
  clear hx HA HB HC HD
  obtain ⟨cr0, cr1, cr2, cr3, cr4⟩ := vr
  obtain ⟨fr0, fr1, fr2, fr3, fr4⟩ := fr
  go_wp2_with fail
  exact bodyPost_ret (v := .agg #[.int .i64 (ofP (coA s1 s2 s3 s4 t1 t2 t3 t4) (coB s1 s2 s3 s4 t1 t2 t3 t4) (coC s1 s2 s3 s4 t1 t2 t3 t4) (coD s1 s2 s3 s4 t1 t2 t3 t4) (coA s1 s2 s3 s4 t1 t2 t3 t4)), .int .i64 (ofP (coA s1 s2 s3 s4 t1 t2 t3 t4) (coB s1 s2 s3 s4 t1 t2 t3 t4) (coC s1 s2 s3 s4 t1 t2 t3 t4) (coD s1 s2 s3 s4 t1 t2 t3 t4) (coB s1 s2 s3 s4 t1 t2 t3 t4)), .int .i64 (ofP (coA s1 s2 s3 s4 t1 t2 t3 t4) (coB s1 s2 s3 s4 t1 t2 t3 t4) (coC s1 s2 s3 s4 t1 t2 t3 t4) (coD s1 s2 s3 s4 t1 t2 t3 t4) (coC s1 s2 s3 s4 t1 t2 t3 t4)), .int .i64 (ofP (coA s1 s2 s3 s4 t1 t2 t3 t4) (coB s1 s2 s3 s4 t1 t2 t3 t4) (coC s1 s2 s3 s4 t1 t2 t3 t4) (coD s1 s2 s3 s4 t1 t2 t3 t4) (coD s1 s2 s3 s4 t1 t2 t3 t4)), .int .i64 (ofC (coA s1 s2 s3 s4 t1 t2 t3 t4) (coB s1 s2 s3 s4 t1 t2 t3 t4) (coC s1 s2 s3 s4 t1 t2 t3 t4) (coD s1 s2 s3 s4 t1 t2 t3 t4))]) (by simp [results, Tryz.results107, go_sem, cr0, cr1, cr2, cr3, cr4]) rfl ⟨rfl, below_set5 hB (by omega) _ _ _ _ _⟩
set_option maxHeartbeats 1000000 in
set_option maxRecDepth 100000 in
theorem compose_any (s1 s2 s3 s4 t1 t2 t3 t4 : Int) (w : World) :
    Calls Tryz.prog 148 #[.agg #[.int .i64 s1, .int .i64 s2, .int .i64 s3, .int .i64 s4], .agg #[.int .i64 t1, .int .i64 t2, .int .i64 t3, .int .i64 t4]] w fun e w' => e = .returned (.agg #[.int .i64 (coP s1 s2 s3 s4 t1 t2 t3 t4 (coA s1 s2 s3 s4 t1 t2 t3 t4)), .int .i64 (coP s1 s2 s3 s4 t1 t2 t3 t4 (coB s1 s2 s3 s4 t1 t2 t3 t4)), .int .i64 (coP s1 s2 s3 s4 t1 t2 t3 t4 (coC s1 s2 s3 s4 t1 t2 t3 t4)), .int .i64 (coP s1 s2 s3 s4 t1 t2 t3 t4 (coD s1 s2 s3 s4 t1 t2 t3 t4)), .int .i64 (coK s1 s2 s3 s4 t1 t2 t3 t4)]) ∧ Below w.heap.size w w' := by
  go_enter Tryz.func148, Tryz.ntmps148
  go_wp2_with fail
  refine (turnRight_any s1 s2 s3 s4 _).mono ?_
  rintro e w1 ⟨rfl, hx⟩
  have va : TurnAt w1 w.heap.size s1 s2 s3 s4 := (((turnAt_new w s1 s2 s3 s4 _).alloc _).alloc _).kept (by simp; omega) hx
  have vb : TurnAt w1 (w.heap.size + 1) t1 t2 t3 t4 := ((by simpa using turnAt_new (w.alloc _) t1 t2 t3 t4 _ : TurnAt _ (w.heap.size + 1) t1 t2 t3 t4).alloc _).kept (by simp) hx
  have vr : OutAt w1 (w.heap.size + 1 + 1) 0 0 0 0 0 := (by simpa using outAt_new ((w.alloc _).alloc _) 0 0 0 0 0 _ : OutAt _ (w.heap.size + 1 + 1) 0 0 0 0 0).kept hx
  have fr : FreeO w1 (w.heap.size + 1 + 1) := (by simpa using freeO_new ((w.alloc _).alloc _) 0 0 0 0 0 _ : FreeO _ (w.heap.size + 1 + 1)).kept (by simp) hx
  have hB : Below w.heap.size w w1 := below_call (below3 _ _ _ _) hx
  clear hx
  cases h1 : rightT s1 s2 s3 s4
  · have HR := yz (co_form (s1 := s1) (s2 := s2) (s3 := s3) (s4 := s4) (t1 := t1) (t2 := t2) (t3 := t3) (t4 := t4) (by rw [coR, h1]; rfl))
    obtain ⟨cr0, cr1, cr2, cr3, cr4⟩ := vr
    obtain ⟨fr0, fr1, fr2, fr3, fr4⟩ := fr
    go_wp2_with fail
    exact bodyPost_ret (v := .agg #[.int .i64 0, .int .i64 0, .int .i64 0, .int .i64 0, .int .i64 1]) (by simp [results, Tryz.results148, go_sem, cr0, cr1, cr2, cr3, cr4]) rfl ⟨by rw [yx HR], below_set5 hB (by omega) _ _ _ _ _⟩
  · have wa := va
    have wb := vb
    obtain ⟨ca0, ca1, ca2, ca3⟩ := wa
    obtain ⟨cb0, cb1, cb2, cb3⟩ := wb
    go_wp2_with fail
    clear ca0 ca1 ca2 ca3 cb0 cb1 cb2 cb3
    refine (turnRight_any t1 t2 t3 t4 _).mono ?_
    rintro e w2 ⟨rfl, hx⟩
    have hlt := vr.lt
    replace va := va.kept va.lt hx
    replace vb := vb.kept vb.lt hx
    replace vr := vr.kept hx
    replace fr := fr.kept hlt hx
    replace hB := below_call hB hx
    clear hx hlt
    cases h2 : rightT t1 t2 t3 t4
    · have HR := yz (co_form (s1 := s1) (s2 := s2) (s3 := s3) (s4 := s4) (t1 := t1) (t2 := t2) (t3 := t3) (t4 := t4) (by rw [coR, h1, h2]; rfl))
      obtain ⟨cr0, cr1, cr2, cr3, cr4⟩ := vr
      obtain ⟨fr0, fr1, fr2, fr3, fr4⟩ := fr
      go_wp2_with fail
      exact bodyPost_ret (v := .agg #[.int .i64 0, .int .i64 0, .int .i64 0, .int .i64 0, .int .i64 1]) (by simp [results, Tryz.results148, go_sem, cr0, cr1, cr2, cr3, cr4]) rfl ⟨by rw [yx HR], below_set5 hB (by omega) _ _ _ _ _⟩
    · have wa := va
      have wb := vb
      obtain ⟨ca0, ca1, ca2, ca3⟩ := wa
      obtain ⟨cb0, cb1, cb2, cb3⟩ := wb
      go_wp2_with fail
      clear ca0 ca1 ca2 ca3 cb0 cb1 cb2 cb3
      have HR := yz (co_ok (s1 := s1) (s2 := s2) (s3 := s3) (s4 := s4) (t1 := t1) (t2 := t2) (t3 := t3) (t4 := t4) (by rw [coR, h1, h2]; rfl))
      refine (after_any s1 s2 s3 s4 t1 t2 t3 t4 _ (rightT_iff.1 h1).1 (rightT_iff.1 h2).1).mono ?_
      rintro e w3 ⟨rfl, hx⟩
      have hlt := vr.lt
      replace vr := (vr.kept hx).alloc (.cells #[.int .i64 (coA s1 s2 s3 s4 t1 t2 t3 t4), .int .i64 (coB s1 s2 s3 s4 t1 t2 t3 t4), .int .i64 (coC s1 s2 s3 s4 t1 t2 t3 t4), .int .i64 (coD s1 s2 s3 s4 t1 t2 t3 t4)] 35)
      replace fr := (fr.kept hlt hx).kept (Nat.lt_of_lt_of_le hlt hx.size) (below1 _ (.cells #[.int .i64 (coA s1 s2 s3 s4 t1 t2 t3 t4), .int .i64 (coB s1 s2 s3 s4 t1 t2 t3 t4), .int .i64 (coC s1 s2 s3 s4 t1 t2 t3 t4), .int .i64 (coD s1 s2 s3 s4 t1 t2 t3 t4)] 35))
      replace hB := (below_call hB hx).alloc (below_call hB hx).size (.cells #[.int .i64 (coA s1 s2 s3 s4 t1 t2 t3 t4), .int .i64 (coB s1 s2 s3 s4 t1 t2 t3 t4), .int .i64 (coC s1 s2 s3 s4 t1 t2 t3 t4), .int .i64 (coD s1 s2 s3 s4 t1 t2 t3 t4)] 35)
      clear hx hlt va vb
      go_wp2_with fail
      refine (turnOf_any _ _ _ _ _).mono ?_
      rintro e w4 ⟨rfl, hx⟩
      have hlt := vr.lt
      replace vr := vr.kept hx
      replace fr := fr.kept hlt hx
      replace hB := below_call hB hx
      clear hx hlt
      obtain ⟨cr0, cr1, cr2, cr3, cr4⟩ := vr
      obtain ⟨fr0, fr1, fr2, fr3, fr4⟩ := fr
      go_wp2_with fail
      exact bodyPost_ret (v := .agg #[.int .i64 (ofP (coA s1 s2 s3 s4 t1 t2 t3 t4) (coB s1 s2 s3 s4 t1 t2 t3 t4) (coC s1 s2 s3 s4 t1 t2 t3 t4) (coD s1 s2 s3 s4 t1 t2 t3 t4) (coA s1 s2 s3 s4 t1 t2 t3 t4)), .int .i64 (ofP (coA s1 s2 s3 s4 t1 t2 t3 t4) (coB s1 s2 s3 s4 t1 t2 t3 t4) (coC s1 s2 s3 s4 t1 t2 t3 t4) (coD s1 s2 s3 s4 t1 t2 t3 t4) (coB s1 s2 s3 s4 t1 t2 t3 t4)), .int .i64 (ofP (coA s1 s2 s3 s4 t1 t2 t3 t4) (coB s1 s2 s3 s4 t1 t2 t3 t4) (coC s1 s2 s3 s4 t1 t2 t3 t4) (coD s1 s2 s3 s4 t1 t2 t3 t4) (coC s1 s2 s3 s4 t1 t2 t3 t4)), .int .i64 (ofP (coA s1 s2 s3 s4 t1 t2 t3 t4) (coB s1 s2 s3 s4 t1 t2 t3 t4) (coC s1 s2 s3 s4 t1 t2 t3 t4) (coD s1 s2 s3 s4 t1 t2 t3 t4) (coD s1 s2 s3 s4 t1 t2 t3 t4)), .int .i64 (ofC (coA s1 s2 s3 s4 t1 t2 t3 t4) (coB s1 s2 s3 s4 t1 t2 t3 t4) (coC s1 s2 s3 s4 t1 t2 t3 t4) (coD s1 s2 s3 s4 t1 t2 t3 t4))]) (by simp [results, Tryz.results148, go_sem, cr0, cr1, cr2, cr3, cr4]) rfl ⟨by rw [yx HR], below_set5 hB (by omega) _ _ _ _ _⟩
def TkAt (w : World) (b : Nat) (v : Value) (lim mode A B C D coast fr : Int) : Prop := w.cell? ⟨b, 0, none⟩ = some v ∧ w.cell? ⟨b, 1, none⟩ = some (.int .i64 lim) ∧ w.cell? ⟨b, 2, none⟩ = some (.int .i64 mode) ∧ w.cell? ⟨b, 3, none⟩ = some (.int .i64 A) ∧ w.cell? ⟨b, 4, none⟩ = some (.int .i64 B) ∧ w.cell? ⟨b, 5, none⟩ = some (.int .i64 C) ∧ w.cell? ⟨b, 6, none⟩ = some (.int .i64 D) ∧ w.cell? ⟨b, 7, none⟩ = some (.int .i64 coast) ∧ w.cell? ⟨b, 8, none⟩ = some (.int .i64 fr)
theorem cellK {w w' : World} {a : Addr} {v : Value} (h : w.cell? a = some v) (hB : Below w.heap.size w w') : w'.cell? a = some v := (hB.cell (World.block_lt_of_cell? w a h)).trans h
theorem TkAt.kept {w w' : World} {b : Nat} {v : Value} {lim mode A B C D coast fr : Int} (h : TkAt w b v lim mode A B C D coast fr) (hB : Below w.heap.size w w') : TkAt w' b v lim mode A B C D coast fr := by
  obtain ⟨h0, h1, h2, h3, h4, h5, h6, h7, h8⟩ := h
  exact ⟨cellK h0 hB, cellK h1 hB, cellK h2 hB, cellK h3 hB, cellK h4 hB, cellK h5 hB, cellK h6 hB, cellK h7 hB, cellK h8 hB⟩
theorem tkAt_new (w : World) (v : Value) (lim mode A B C D coast fr : Int) (t : TypeId) : TkAt (w.alloc (.cells #[v, .int .i64 lim, .int .i64 mode, .int .i64 A, .int .i64 B, .int .i64 C, .int .i64 D, .int .i64 coast, .int .i64 fr] t)) w.heap.size v lim mode A B C D coast fr := by
  refine ⟨?_, ?_, ?_, ?_, ?_, ?_, ?_, ?_, ?_⟩ <;> simp
theorem TkAt.lt {w : World} {b : Nat} {v : Value} {lim mode A B C D coast fr : Int} (h : TkAt w b v lim mode A B C D coast fr) : b < w.heap.size := World.block_lt_of_cell? w _ h.1
set_option maxHeartbeats 2000000 in
set_option maxRecDepth 100000 in
theorem implTrack_any (L : List St) (lim mode A B C D coast fr : Int) (a : Option Addr) (c : Nat) (p : Addr) (w : World) (hn : L.length ≤ 1048576) (hcap : L.length ≤ c) (hc9 : c ≤ 9223372036854775807) (hS : Stars w a L L.length) (hE : ErrSky p w) :
    Calls Tryz.prog 48 #[.agg #[.slice a L.length c, .int .i64 lim, .int .i64 mode, .int .i64 A, .int .i64 B, .int .i64 C, .int .i64 D, .int .i64 coast, .int .i64 fr]] w fun e w' => e = .returned (.bool (trackB ⟨L, lim, mode, A, B, C, D, coast, fr⟩)) ∧ Below w.heap.size w w' := by
  have B0 := below1 w (.cells #[.slice a L.length c, .int .i64 lim, .int .i64 mode, .int .i64 A, .int .i64 B, .int .i64 C, .int .i64 D, .int .i64 coast, .int .i64 fr] 37)
  have T0 := tkAt_new w (.slice a L.length c) lim mode A B C D coast fr 37
  have cS := yz (skyRight_any L a c p _ hn hcap hc9 (hS.kept B0) (hE.kept B0))
  have HB0 := yz B0
  have HT0 := yz T0
  clear B0 T0 hS hE hn hcap hc9
  go_enter Tryz.func48, Tryz.ntmps48
  go_wp2_with fail
  refine (yx cS).mono ?_
  rintro e w1 ⟨rfl, hx⟩
  have T1 := yz ((yx HT0).kept hx)
  have B1 := yz (below_call (yx HB0) hx)
  clear hx cS HT0 HB0
  obtain ⟨c0, c1, c2, c3, c4, c5, c6, c7, c8⟩ := yx T1
  cases hk : skyB L
  · have HO := yz (track_no1 (t := ⟨L, lim, mode, A, B, C, D, coast, fr⟩) hk)
    go_wp2_with fail
    go_ret
    exact ⟨by rw [yx HO]; rfl, yx B1⟩
  by_cases q1 : lim < 1
  · have HO := yz (track_no2 (t := ⟨L, lim, mode, A, B, C, D, coast, fr⟩) (span_low (by show ¬ 1 ≤ lim; omega)))
    go_wp2_with fail
    go_ret
    exact ⟨by rw [yx HO]; rfl, yx B1⟩
  by_cases q2 : (5 : Int) < lim
  · have HO := yz (track_no2 (t := ⟨L, lim, mode, A, B, C, D, coast, fr⟩) (span_high (by show ¬ lim ≤ 5; omega)))
    go_wp2_with fail
    go_ret
    exact ⟨by rw [yx HO]; rfl, yx B1⟩
  by_cases q3 : fr < 0
  · have HO := yz (track_no3 (t := ⟨L, lim, mode, A, B, C, D, coast, fr⟩) (span_low (by show ¬ 0 ≤ fr; omega)))
    go_wp2_with fail
    go_ret
    exact ⟨by rw [yx HO]; rfl, yx B1⟩
  by_cases q4 : (1000000 : Int) < fr
  · have HO := yz (track_no3 (t := ⟨L, lim, mode, A, B, C, D, coast, fr⟩) (span_high (by show ¬ fr ≤ 1000000; omega)))
    go_wp2_with fail
    go_ret
    exact ⟨by rw [yx HO]; rfl, yx B1⟩
  have HH := yz (track_head (t := ⟨L, lim, mode, A, B, C, D, coast, fr⟩) hk (span_yes (by show 1 ≤ lim; omega) (by show lim ≤ 5; omega)) (span_yes (by show 0 ≤ fr; omega) (by show fr ≤ 1000000; omega)))
  clear hk
  by_cases m0 : mode = 0
  · have HO : Hid (trackB ⟨L, lim, mode, A, B, C, D, coast, fr⟩ = (eqT A B C D 0 0 0 0 && decide (coast = 0))) := yz (by rw [yx HH, mode_0 m0])
    have hq := fun W => eql_turn A B C D 0 0 0 0 W
    cases hz : eqT A B C D 0 0 0 0
    · rw [hz] at HO hq
      go_wp2_with fail
      go_ret
      exact ⟨by rw [yx HO]; rfl, yx B1⟩
    · rw [hz] at HO hq
      go_wp2_with fail
      go_ret
      exact ⟨by rw [yx HO]; rfl, yx B1⟩
  by_cases m1 : mode = 1
  · have HO : Hid (trackB ⟨L, lim, mode, A, B, C, D, coast, fr⟩ = (rightT A B C D && decide (coast = 0))) := yz (by rw [yx HH, mode_1 m1])
    subst m1
    go_wp2_with fail
    refine (turnRight_any A B C D _).mono ?_
    rintro e w2 ⟨rfl, hx⟩
    have B2 := yz (below_call (yx B1) hx)
    obtain ⟨d0, d1, d2, d3, d4, d5, d6, d7, d8⟩ := (yx T1).kept hx
    clear hx c0 c1 c2 c3 c4 c5 c6 c7 c8
    cases hz : rightT A B C D
    · rw [hz] at HO
      go_wp2_with fail
      go_ret
      exact ⟨by rw [yx HO]; rfl, yx B2⟩
    · rw [hz] at HO
      go_wp2_with fail
      go_ret
      exact ⟨by rw [yx HO]; rfl, yx B2⟩
  by_cases m2 : mode = 2
  · have HO : Hid (trackB ⟨L, lim, mode, A, B, C, D, coast, fr⟩ = (rightT A B C D && spanB 1 lim coast)) := yz (by rw [yx HH, mode_2 m2])
    subst m2
    go_wp2_with fail
    refine (turnRight_any A B C D _).mono ?_
    rintro e w2 ⟨rfl, hx⟩
    have B2 := yz (below_call (yx B1) hx)
    obtain ⟨d0, d1, d2, d3, d4, d5, d6, d7, d8⟩ := (yx T1).kept hx
    clear hx c0 c1 c2 c3 c4 c5 c6 c7 c8
    cases hz : rightT A B C D
    · rw [hz] at HO
      go_wp2_with fail
      go_ret
      exact ⟨by rw [yx HO]; rfl, yx B2⟩
    · rw [hz] at HO
      by_cases u1 : 1 ≤ coast
      · have HU : Hid (spanB 1 lim coast = decide (coast ≤ lim)) := yz (by unfold spanB; rw [decide_eq_true u1]; rfl)
        go_wp2_with fail
        go_ret
        exact ⟨by rw [yx HO, yx HU]; rfl, yx B2⟩
      · have HU : Hid (spanB 1 lim coast = false) := yz (span_low u1)
        go_wp2_with fail
        go_ret
        exact ⟨by rw [yx HO, yx HU]; rfl, yx B2⟩
  · have HO : Hid (trackB ⟨L, lim, mode, A, B, C, D, coast, fr⟩ = false) := yz (by rw [yx HH, mode_n m0 m1 m2])
    go_wp2_with fail
    go_ret
    exact ⟨by rw [yx HO]; rfl, yx B1⟩
end Go.Proofs.YteoonaanoenjiaaGreatDoor
