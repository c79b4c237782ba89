/- Several texts in one: LkM, ModI, ModK, ModQ, ModF, ModR, ModS, LkA, TfA, TsB. -/
import Derived.BigRegion
import Derived.Test.YtofpjlhoppofdaaGreatDoorQDeskFaultOwn8
import Derived.Test.YtofpjlhoppofdaaGreatDoorQDeskFaultOwn6
import Derived.Test.YtofpjlhoppofdaaGreatDoorQDeskFaultOwn2
import Derived.Test.YtofpjlhoppofdaaGreatDoorQDeskFaultOwn4
import Derived.Test.YtofpjlhoppofdaaGreatDoorQDeskFaultOwn5
import Derived.Test.YtofpjlhoppofdaaGreatDoorQDeskFaultOwn7
namespace Go.Proofs.YtofpjlhoppofdaaGreatDoor
open Go.RowKit Go.Sort
set_option linter.unusedVariables false
theorem fitsI_congr {L : List St} {S : List D3} {ids ids' : List Int} (s : Sg) {n : Nat} (h : ∀ i, i < n → ids.getD i 0 = ids'.getD i 0) : fitsI L S ids s n = fitsI L S ids' s n := by
  unfold fitsI
  apply range_all_congr
  intro i hi
  have e1 := h i hi
  have e2 : sgOf L S ids i = sgOf L S ids' i := by unfold sgOf; rw [e1]
  rw [e1, e2]
  congr 2
  apply range_all_congr
  intro j hj
  have e3 := h j (by omega)
  have e4 : sgOf L S ids j = sgOf L S ids' j := by unfold sgOf; rw [e3]
  rw [e3, e4]
theorem namedI_congr {L : List St} {S : List D3} {ids ids' : List Int} {n : Nat} (h : ∀ i, i < n → ids.getD i 0 = ids'.getD i 0) : namedI L S ids n = namedI L S ids' n := by
  unfold namedI
  apply range_all_congr
  intro i hi
  have e1 := h i hi
  have e2 : sgOf L S ids i = sgOf L S ids' i := by unfold sgOf; rw [e1]
  rw [e1, e2, fitsI_congr _ (fun j hj => h j (by omega))]
theorem snoc_lt (ids : List Int) (a : Int) {i : Nat} (h : i < ids.length) : (ids ++ [a]).getD i 0 = ids.getD i 0 := by rw [List.getD_eq_getElem?_getD, List.getD_eq_getElem?_getD, List.getElem?_append_left h]
theorem snoc_at (ids : List Int) (a : Int) : (ids ++ [a]).getD ids.length 0 = a := by rw [List.getD_eq_getElem?_getD, List.getElem?_append_right (Nat.le_refl _), Nat.sub_self]; rfl
theorem small_nz {x y z : Int} (h : smallB x y z = true) : zeroD (x, y, z) = false := by
  have := (rightB_iff.1 (small_iff h).1).2
  unfold zeroD
  exact decide_eq_false this
theorem star_nz {L : List St} (h : skyB L = true) {a : Int} (ha : a ∈ L.map (·.1)) : zeroD (atV L L.length a) = false := by
  obtain ⟨s, hs, rfl⟩ := List.mem_map.1 ha
  obtain ⟨i, hi, rfl⟩ := List.getElem_of_mem hs
  have e : L[i] = stA L i := by unfold stA; rw [List.getD_eq_getElem?_getD, List.getElem?_eq_getElem hi]; rfl
  rw [e, at_own h hi]
  exact small_nz (ok_small ((sky_ok h).2 i hi))
theorem named_snoc {L : List St} {S : List D3} {ids : List Int} {a : Int} (hk : skyB L = true) (h : namedI L S ids ids.length = true) (h2 : a = 0 ∨ (a ∈ L.map (·.1) ∧ fitF L S ids a = true)) : namedI L S (ids ++ [a]) (ids ++ [a]).length = true := by
  have e0 : (ids ++ [a]).length = ids.length + 1 := by simp
  rw [e0]
  unfold namedI
  rw [range_all_succ]
  have e1 : ((List.range ids.length).all fun i => decide ((ids ++ [a]).getD i 0 = 0) || (!zeroD (atV L L.length ((ids ++ [a]).getD i 0)) && fitsI L S (ids ++ [a]) (sgOf L S (ids ++ [a]) i) i)) = true := by
    have := namedI_congr (L := L) (S := S) (ids := ids ++ [a]) (ids' := ids) (n := ids.length) (fun i hi => snoc_lt ids a hi)
    unfold namedI at this h
    rw [this]
    exact h
  rw [e1, Bool.true_and, snoc_at]
  rcases h2 with rfl | ⟨hm, hf⟩
  · rfl
  · have e2 : sgOf L S (ids ++ [a]) ids.length = (vA S ids.length, (a, atV L L.length a)) := by unfold sgOf; rw [snoc_at]
    rw [e2, star_nz hk hm, fitsI_congr _ (fun i hi => snoc_lt ids a hi)]
    unfold fitF at hf
    rw [hf]
    simp
theorem named_all {L : List St} {S : List D3} (hk : skyB L = true) : ∀ (r : Nat) (ids l : List Int), namedI L S ids ids.length = true → l ∈ allN (fitF L S) (L.map (·.1)) r ids → namedI L S l l.length = true
  | 0, ids, l, h, hl => by
    simp only [allN, List.mem_singleton] at hl
    subst hl
    exact h
  | r + 1, ids, l, h, hl => by
    simp only [allN, List.mem_append, List.mem_flatMap] at hl
    rcases hl with ⟨a, ha, hl⟩ | hl
    · have := List.mem_filter.1 ha
      exact named_all hk r _ l (named_snoc hk h (.inr this)) hl
    · exact named_all hk r _ l (named_snoc hk h (.inl rfl)) hl
theorem foldG_mem : ∀ (X : List (List Int)) (g : List Int × Nat), (g.2 = 0 → cntN g.1 < 3) → (X.foldl stepG g).2 ≠ 0 → (X.foldl stepG g).1 ∈ X ∨ (g.2 ≠ 0 ∧ (X.foldl stepG g).1 = g.1)
  | [], g, _, h => .inr ⟨h, rfl⟩
  | x :: X, g, hg, h => by
    rw [List.foldl_cons] at h ⊢
    by_cases c1 : cntN x < 3 ∨ cntN x < cntN g.1
    · have e : stepG g x = g := by unfold stepG; rw [if_pos c1]
      rw [e] at h ⊢
      rcases foldG_mem X g hg h with h1 | h1
      · exact .inl (List.mem_cons_of_mem _ h1)
      · exact .inr h1
    · by_cases c2 : cntN g.1 < cntN x
      · have e : stepG g x = (x, 1) := by unfold stepG; rw [if_neg c1, if_pos c2]
        rw [e] at h ⊢
        rcases foldG_mem X (x, 1) (fun h => by cases h) h with h1 | ⟨_, h1⟩
        · exact .inl (List.mem_cons_of_mem _ h1)
        · rw [h1]; exact .inl (List.mem_cons_self ..)
      · have e : stepG g x = (g.1, g.2 + 1) := by unfold stepG; rw [if_neg c1, if_neg c2]
        have hne : g.2 ≠ 0 := fun e0 => by have := hg e0; omega
        rw [e] at h ⊢
        rcases foldG_mem X (g.1, g.2 + 1) (fun h => by cases h) h with h1 | ⟨_, h1⟩
        · exact .inl (List.mem_cons_of_mem _ h1)
        · exact .inr ⟨hne, h1⟩
theorem found_named {L : List St} {S : List D3} (hk : skyB L = true) (hp : spotsB S = true) (h0 : idCode L S = 0) : namedB L S (idIds L S) = true := by
  have hg := great_same L S
  have h2 : (greatR L S).2 = 1 := by
    rw [hg.2.2] at h0
    by_cases a : (greatR L S).2 = 0
    · rw [if_pos a] at h0; cases h0
    · rw [if_neg a] at h0
      by_cases b : 1 < (greatR L S).2
      · rw [if_pos b] at h0; cases h0
      · omega
  rw [hg.1, if_pos h2]
  have hm : (greatR L S).1 ∈ allN (fitF L S) (L.map (·.1)) S.length [] := by
    rcases foldG_mem _ ([], 0) (fun _ => by decide) (show (greatR L S).2 ≠ 0 by omega) with h | ⟨h, _⟩
    · exact h
    · exact absurd rfl h
  have hn := named_all hk S.length [] _ rfl hm
  have hl := allN_long _ _ _ _ _ hm
  unfold namedB
  rw [hk, hp, ← named_eq, hn, decide_eq_true (by simpa using hl)]
  rfl
theorem for_found {L : List St} {S : List D3} (hk : skyB L = true) (hp : spotsB S = true) (h0 : idCode L S = 0) : (if (sightsTo L S (idIds L S) (idIds L S).length).length < 2 then ((0, 0, 0, 0), 10) else firstT (sightsTo L S (idIds L S) (idIds L S).length) (turnsTo 625)) = forV L S (idIds L S) := by
  have hn := found_named hk hp h0
  have h12 := (sky_ok hk).1
  have h6 := (spots_ok hp).1
  have hl := (named_parts hn).2.2.1
  unfold forV
  rw [if_neg (show ¬ (400 < L.length ∨ 400 < S.length ∨ 400 < (idIds L S).length) by omega), if_pos hn]
theorem cross_dot {v1 v2 v3 p1 p2 p3 q1 q2 q3 : Int} (hv : ¬ (v1 = 0 ∧ v2 = 0 ∧ v3 = 0)) (a1 : v2 * p3 - v3 * p2 = 0) (a2 : v3 * p1 - v1 * p3 = 0) (a3 : v1 * p2 - v2 * p1 = 0) (b1 : v2 * q3 - v3 * q2 = 0) (b2 : v3 * q1 - v1 * q3 = 0) (b3 : v1 * q2 - v2 * q1 = 0)
    (hp : 0 < dot v1 v2 v3 p1 p2 p3) (hq : 0 < dot v1 v2 v3 q1 q2 q3) : (p2 * q3 - p3 * q2 = 0 ∧ p3 * q1 - p1 * q3 = 0 ∧ p1 * q2 - p2 * q1 = 0) ∧ 0 < dot p1 p2 p3 q1 q2 q3 := by
  have hvv := sq_pos hv
  obtain ⟨V, hV⟩ : ∃ V, dot v1 v2 v3 v1 v2 v3 = V := ⟨_, rfl⟩
  obtain ⟨P, hP⟩ : ∃ P, dot v1 v2 v3 p1 p2 p3 = P := ⟨_, rfl⟩
  obtain ⟨Q, hQ⟩ : ∃ Q, dot v1 v2 v3 q1 q2 q3 = Q := ⟨_, rfl⟩
  have x1 : V * p1 = P * v1 := by rw [← hV, ← hP]; unfold dot; grind
  have x2 : V * p2 = P * v2 := by rw [← hV, ← hP]; unfold dot; grind
  have x3 : V * p3 = P * v3 := by rw [← hV, ← hP]; unfold dot; grind
  have y1 : V * q1 = Q * v1 := by rw [← hV, ← hQ]; unfold dot; grind
  have y2 : V * q2 = Q * v2 := by rw [← hV, ← hQ]; unfold dot; grind
  have y3 : V * q3 = Q * v3 := by rw [← hV, ← hQ]; unfold dot; grind
  rw [hV] at hvv
  rw [hP] at hp
  rw [hQ] at hq
  have hVV := Int.mul_pos hvv hvv
  have z : ∀ x : Int, V * V * x = 0 → x = 0 := fun x h => by
    rcases Int.mul_eq_zero.1 h with e | e
    · omega
    · exact e
  refine ⟨⟨z _ (by grind), z _ (by grind), z _ (by grind)⟩, ?_⟩
  have e : V * V * dot p1 p2 p3 q1 q2 q3 = P * Q * V := by
    rw [← hV] at *
    unfold dot at *
    grind
  have hpos := Int.mul_pos (Int.mul_pos hp hq) hvv
  rw [← e] at hpos
  rcases Int.lt_or_le 0 (dot p1 p2 p3 q1 q2 q3) with h | h
  · exact h
  · have := Int.mul_le_mul_of_nonneg_left h (Int.le_of_lt hVV)
    simp at this
    omega
theorem same_parts {a1 a2 a3 b1 b2 b3 : Int} (h : sameB a1 a2 a3 b1 b2 b3 = true) : rightB a1 a2 a3 = true ∧ rightB b1 b2 b3 = true ∧ (a2 * b3 - a3 * b2 = 0 ∧ a3 * b1 - a1 * b3 = 0 ∧ a1 * b2 - a2 * b1 = 0) ∧ 0 < dot a1 a2 a3 b1 b2 b3 := by
  unfold sameB at h
  simp only [Bool.and_eq_true, decide_eq_true_eq] at h
  obtain ⟨⟨⟨ra, rb⟩, hz⟩, hd⟩ := h
  have a := (rightB_iff.1 ra).1
  have b := (rightB_iff.1 rb).1
  rw [dotW_eq (A := 1000000) (B := 1000000) (withinB_iff.2 a) (withinB_iff.2 b) (by omega)] at hd
  rw [(crW_eq a.2.1 a.2.2 b.2.1 b.2.2 (by omega)).1, (crW_eq a.2.2 a.1 b.2.2 b.1 (by omega)).1, (crW_eq a.1 a.2.1 b.1 b.2.1 (by omega)).1] at hz
  unfold zeroB at hz
  exact ⟨ra, rb, of_decide_eq_true hz, hd⟩
theorem same_mk {a1 a2 a3 b1 b2 b3 : Int} (ra : rightB a1 a2 a3 = true) (rb : rightB b1 b2 b3 = true) (hc : a2 * b3 - a3 * b2 = 0 ∧ a3 * b1 - a1 * b3 = 0 ∧ a1 * b2 - a2 * b1 = 0) (hd : 0 < dot a1 a2 a3 b1 b2 b3) : sameB a1 a2 a3 b1 b2 b3 = true := by
  have a := (rightB_iff.1 ra).1
  have b := (rightB_iff.1 rb).1
  unfold sameB
  rw [ra, rb, (crW_eq a.2.1 a.2.2 b.2.1 b.2.2 (by omega)).1, (crW_eq a.2.2 a.1 b.2.2 b.1 (by omega)).1, (crW_eq a.1 a.2.1 b.1 b.2.1 (by omega)).1, dotW_eq (A := 1000000) (B := 1000000) (withinB_iff.2 a) (withinB_iff.2 b) (by omega), hc.1, hc.2.1, hc.2.2]
  simp [zeroB, hd]
theorem sq_zero3 {x y z : Int} (h : x * x + y * y + z * z = 0) : x = 0 ∧ y = 0 ∧ z = 0 := by
  have h1 := sqn x
  have h2 := sqn y
  have h3 := sqn z
  have e1 : x * x = 0 := by omega
  have e2 : y * y = 0 := by omega
  have e3 : z * z = 0 := by omega
  refine ⟨?_, ?_, ?_⟩
  · rcases Int.mul_eq_zero.1 e1 with e | e <;> exact e
  · rcases Int.mul_eq_zero.1 e2 with e | e <;> exact e
  · rcases Int.mul_eq_zero.1 e3 with e | e <;> exact e
theorem ap_same {a b c d s1 s2 s3 t1 t2 t3 : Int} (ht : rightT a b c d = true) (hs : rightB s1 s2 s3 = true) (hu : rightB t1 t2 t3 = true)
    (h : (apY a b c d s1 s2 s3 * apZ a b c d t1 t2 t3 - apZ a b c d s1 s2 s3 * apY a b c d t1 t2 t3 = 0 ∧ apZ a b c d s1 s2 s3 * apX a b c d t1 t2 t3 - apX a b c d s1 s2 s3 * apZ a b c d t1 t2 t3 = 0 ∧ apX a b c d s1 s2 s3 * apY a b c d t1 t2 t3 - apY a b c d s1 s2 s3 * apX a b c d t1 t2 t3 = 0) ∧ 0 < dot (apX a b c d s1 s2 s3) (apY a b c d s1 s2 s3) (apZ a b c d s1 s2 s3) (apX a b c d t1 t2 t3) (apY a b c d t1 t2 t3) (apZ a b c d t1 t2 t3)) : sameB s1 s2 s3 t1 t2 t3 = true := by
  have hp := nT_pos (rightT_ne ht)
  obtain ⟨⟨h1, h2, h3⟩, h4⟩ := h
  have d1 := ap_dot a b c d s1 s2 s3 t1 t2 t3
  have d2 := ap_dot a b c d s1 s2 s3 s1 s2 s3
  have d3 := ap_dot a b c d t1 t2 t3 t1 t2 t3
  generalize apX a b c d s1 s2 s3 = p1 at *
  generalize apY a b c d s1 s2 s3 = p2 at *
  generalize apZ a b c d s1 s2 s3 = p3 at *
  generalize apX a b c d t1 t2 t3 = q1 at *
  generalize apY a b c d t1 t2 t3 = q2 at *
  generalize apZ a b c d t1 t2 t3 = q3 at *
  generalize nT a b c d = N at *
  have hNN := Int.mul_pos hp hp
  have hN4 := Int.mul_pos hNN hNN
  have lag : dot p1 p2 p3 p1 p2 p3 * dot q1 q2 q3 q1 q2 q3 = dot p1 p2 p3 q1 q2 q3 * dot p1 p2 p3 q1 q2 q3 := by
    have e : dot p1 p2 p3 p1 p2 p3 * dot q1 q2 q3 q1 q2 q3 - dot p1 p2 p3 q1 q2 q3 * dot p1 p2 p3 q1 q2 q3 = (p2 * q3 - p3 * q2) * (p2 * q3 - p3 * q2) + (p3 * q1 - p1 * q3) * (p3 * q1 - p1 * q3) + (p1 * q2 - p2 * q1) * (p1 * q2 - p2 * q1) := by unfold dot; grind
    rw [h1, h2, h3] at e
    omega
  rw [d1, d2, d3] at lag
  have e0 : N * N * (N * N) * (dot s1 s2 s3 s1 s2 s3 * dot t1 t2 t3 t1 t2 t3 - dot s1 s2 s3 t1 t2 t3 * dot s1 s2 s3 t1 t2 t3) = 0 := by
    generalize dot s1 s2 s3 s1 s2 s3 = x at *
    generalize dot t1 t2 t3 t1 t2 t3 = y at *
    generalize dot s1 s2 s3 t1 t2 t3 = z at *
    grind
  have e1 : dot s1 s2 s3 s1 s2 s3 * dot t1 t2 t3 t1 t2 t3 - dot s1 s2 s3 t1 t2 t3 * dot s1 s2 s3 t1 t2 t3 = 0 := by
    rcases Int.mul_eq_zero.1 e0 with e | e
    · omega
    · exact e
  have e2 : (s2 * t3 - s3 * t2) * (s2 * t3 - s3 * t2) + (s3 * t1 - s1 * t3) * (s3 * t1 - s1 * t3) + (s1 * t2 - s2 * t1) * (s1 * t2 - s2 * t1) = 0 := by
    rw [← e1]; unfold dot; grind
  refine same_mk hs hu (sq_zero3 e2) ?_
  rw [d1] at h4
  rcases Int.lt_or_le 0 (dot s1 s2 s3 t1 t2 t3) with h | h
  · exact h
  · have := Int.mul_le_mul_of_nonneg_left h (Int.le_of_lt hNN)
    simp at this
    omega
theorem sky_apart {L : List St} (h : skyB L = true) {i j : Nat} (hi : i < L.length) (hj : j < i) : sameS (stA L i) (stA L j) = false := by
  have := (sky_ok h).2 i hi
  unfold okAt at this
  simp only [Bool.and_eq_true] at this
  have h2 : takenB L (stA L i) i = false := by simpa using this.2
  unfold takenB at h2
  rw [List.any_eq_false] at h2
  have := h2 j (List.mem_range.2 hj)
  simpa using this
theorem hit_one {L : List St} {a b c d : Int} {v : D3} (hk : skyB L = true) (ht : rightT a b c d = true) {i j : Nat} (hi : i < L.length) (hj : j < i) (h1 : sameD v (apD a b c d (stA L i).2) = true) : sameD v (apD a b c d (stA L j).2) = false := by
  cases h2 : sameD v (apD a b c d (stA L j).2)
  · rfl
  · exfalso
    unfold sameD apD at h1 h2
    obtain ⟨rv, _, ⟨b1, b2, b3⟩, b4⟩ := same_parts h1
    obtain ⟨_, _, ⟨c1, c2, c3⟩, c4⟩ := same_parts h2
    have := cross_dot (rightB_iff.1 rv).2 b1 b2 b3 c1 c2 c3 b4 c4
    have e := ap_same ht (small_iff (ok_small ((sky_ok hk).2 i hi))).1 (small_iff (ok_small ((sky_ok hk).2 j (by omega)))).1 this
    have := sky_apart hk hi hj
    unfold sameS at this
    rw [this] at e
    cases e
theorem hits_none {L : List St} {a b c d : Int} {v : D3} : ∀ k, (∀ j, j < k → sameD v (apD a b c d (stA L j).2) = false) → hitsTo L a b c d v k = 0
  | 0, _ => rfl
  | k + 1, h => by
    unfold hitsTo
    rw [hits_none k (fun j hj => h j (by omega)), h k (by omega)]
    rfl
theorem id_pos {L : List St} (h : skyB L = true) {i : Nat} (hi : i < L.length) : (stA L i).1 ≠ 0 := by
  have := (sky_ok h).2 i hi
  unfold okAt idB at this
  simp only [Bool.and_eq_true, decide_eq_true_eq] at this
  omega
theorem hits_id {L : List St} {a b c d : Int} {v : D3} (hk : skyB L = true) (ht : rightT a b c d = true) : ∀ k, k ≤ L.length → hitsTo L a b c d v k = if idTo L a b c d v k ≠ 0 then 1 else 0
  | 0, _ => rfl
  | k + 1, h => by
    unfold hitsTo idTo
    cases hs : sameD v (apD a b c d (stA L k).2)
    · rw [hits_id hk ht k (by omega)]
      simp
    · rw [hits_none k (fun j hj => hit_one hk ht (show k < L.length by omega) hj hs)]
      simp [id_pos hk (show k < L.length by omega)]
theorem hits_cnt {L : List St} {a b c d : Int} {S : List D3} (hk : skyB L = true) (ht : rightT a b c d = true) (hp : spotsB S = true) : hitsOf L a b c d S L.length S.length = cntN (matchL L a b c d S) := by
  rw [match_yes hk ht hp]
  have : ∀ i, i ≤ S.length → hitsOf L a b c d S L.length i = cntN ((S.map (fun v => idTo L a b c d v L.length)).take i) := by
    intro i
    induction i with
    | zero => intro _; rfl
    | succ i ih =>
      intro hi
      have hi' : i < (S.map (fun v => idTo L a b c d v L.length)).length := by rw [List.length_map]; omega
      rw [cntN_take _ hi', ← ih (by omega)]
      show hitsOf L a b c d S L.length i + hitsTo L a b c d (vA S i) L.length = _
      rw [hits_id hk ht _ (Nat.le_refl _)]
      have e : (S.map (fun v => idTo L a b c d v L.length)).getD i 0 = idTo L a b c d (vA S i) L.length := by
        unfold vA
        rw [List.getD_eq_getElem?_getD, List.getElem?_map, List.getElem?_eq_getElem (show i < S.length by omega), List.getD_eq_getElem?_getD, List.getElem?_eq_getElem (show i < S.length by omega)]
        rfl
      rw [e]
  have h := this S.length (Nat.le_refl _)
  rw [h, List.take_of_length_le (by rw [List.length_map]; exact Nat.le_refl _)]
end Go.Proofs.YtofpjlhoppofdaaGreatDoor
namespace Go.Proofs.YtofpjlhoppofdaaGreatDoor
open Go.RowKit Go.Sort
set_option linter.unusedVariables false
set_option linter.unusedSimpArgs false
end Go.Proofs.YtofpjlhoppofdaaGreatDoor
namespace Go.Proofs.YtofpjlhoppofdaaGreatDoor
open Go.RowKit Go.Sort
set_option linter.unusedVariables false
def coV1 (g1 g2 g3 g4 a b c d : Int) : Int := coP g1 g2 g3 g4 a b c d (coA g1 g2 g3 g4 a b c d)
def coV2 (g1 g2 g3 g4 a b c d : Int) : Int := coP g1 g2 g3 g4 a b c d (coB g1 g2 g3 g4 a b c d)
def coV3 (g1 g2 g3 g4 a b c d : Int) : Int := coP g1 g2 g3 g4 a b c d (coC g1 g2 g3 g4 a b c d)
def coV4 (g1 g2 g3 g4 a b c d : Int) : Int := coP g1 g2 g3 g4 a b c d (coD g1 g2 g3 g4 a b c d)
def turnedT (t : Tk) (g1 g2 g3 g4 : Int) : Tk := if t.mode = 0 then t else if coK g1 g2 g3 g4 t.A t.B t.C t.D = 0 then { t with A := coV1 g1 g2 g3 g4 t.A t.B t.C t.D, B := coV2 g1 g2 g3 g4 t.A t.B t.C t.D, C := coV3 g1 g2 g3 g4 t.A t.B t.C t.D, D := coV4 g1 g2 g3 g4 t.A t.B t.C t.D } else lostT t
theorem l03Compose_v (g1 g2 g3 g4 a b c d : Int) (w : World) (hg : rightT g1 g2 g3 g4 = true) (ht : rightT a b c d = true) :
    Calls Tryz.prog 110 #[.agg #[.int .i64 g1, .int .i64 g2, .int .i64 g3, .int .i64 g4], .agg #[.int .i64 a, .int .i64 b, .int .i64 c, .int .i64 d]] w fun e w' => e = .returned (.agg #[.int .i64 (coV1 g1 g2 g3 g4 a b c d), .int .i64 (coV2 g1 g2 g3 g4 a b c d), .int .i64 (coV3 g1 g2 g3 g4 a b c d), .int .i64 (coV4 g1 g2 g3 g4 a b c d), .int .i64 (coK g1 g2 g3 g4 a b c d)]) ∧ Below w.heap.size w w' := by
  refine (l03Compose_any g1 g2 g3 g4 a b c d w (rightT_iff.1 hg).1 (rightT_iff.1 ht).1).mono fun e w' h => ⟨?_, h.2⟩
  rw [h.1, ← co_ok (by unfold coR; rw [hg, ht]; rfl)]
  rfl
def gyroOk (t : Tk) (g1 g2 g3 g4 : Int) : Bool := trackB t && rightT g1 g2 g3 g4
def gyroT (t : Tk) (g1 g2 g3 g4 : Int) : Tk := if gyroOk t g1 g2 g3 g4 = true then turnedT t g1 g2 g3 g4 else zeroK
def gyroC (t : Tk) (g1 g2 g3 g4 : Int) : Int := if gyroOk t g1 g2 g3 g4 = true then 0 else 1
theorem Copied.off {w : World} {B : Nat} {L : List St} {a : Option Addr} {cap : Nat} (h : Copied w B L a cap) {b : Nat} (hne : ∀ x, a = some x → x.block ≠ b) (o : Nat) (y : Value) : Copied (w.setCell ⟨b, o, none⟩ y) B L a cap := by
  obtain ⟨h1, h2⟩ := h
  refine ⟨h1, ?_⟩
  rcases h2 with h2 | ⟨g, c', cur, e, hg, hh, r⟩
  · exact .inl h2
  · injection e with e1 e2 e3
    exact .inr ⟨g, c', cur, by rw [e1, e2, e3], hg, by rw [Below.heap_setCell w ⟨b, o, none⟩ y g (fun e => hne _ e1 e)]; exact hh, r⟩
theorem res_sgyro (T : Array Value) (X : World) (b : Nat) (v : Value) (lim mode A B C D coast fr code : Int) (hT : T.getD 4 undef = .pointer (some ⟨b, 0, none⟩)) (h : TkO X b v lim mode A B C D coast fr code) : (results Tryz.f67 T).run Tryz.prog X = .ok (.agg #[v, .int .i64 lim, .int .i64 mode, .int .i64 A, .int .i64 B, .int .i64 C, .int .i64 D, .int .i64 coast, .int .i64 fr, .int .i64 code]) X := by
  obtain ⟨⟨h0, h1, h2, h3, h4, h5, h6, h7, h8⟩, h9⟩ := h
  simp only [Array.getD_eq_getD_getElem?] at hT
  simp [results, Tryz.results67, go_sem, hT, h0, h1, h2, h3, h4, h5, h6, h7, h8, h9]
set_option maxHeartbeats 4000000 in
set_option maxRecDepth 100000 in
theorem specGyro_any (L : List St) (lim mode A B C D coast fr g1 g2 g3 g4 : Int) (ad : Option Addr) (c : Nat) (w : World) (hn : L.length ≤ 1048576) (hS : Stars w ad L L.length) :
    Calls Tryz.prog 67 #[.agg #[.slice ad L.length c, .int .i64 lim, .int .i64 mode, .int .i64 A, .int .i64 B, .int .i64 C, .int .i64 D, .int .i64 coast, .int .i64 fr], .agg #[.int .i64 g1, .int .i64 g2, .int .i64 g3, .int .i64 g4]] w fun e w' => OutT w' w.heap.size (gyroT ⟨L, lim, mode, A, B, C, D, coast, fr⟩ g1 g2 g3 g4) (gyroC ⟨L, lim, mode, A, B, C, D, coast, fr⟩ g1 g2 g3 g4) e ∧ Below w.heap.size w w' := by
  have B0 := below3 w (.cells #[.slice ad L.length c, .int .i64 lim, .int .i64 mode, .int .i64 A, .int .i64 B, .int .i64 C, .int .i64 D, .int .i64 coast, .int .i64 fr] 48) (.cells #[.int .i64 g1, .int .i64 g2, .int .i64 g3, .int .i64 g4] 46) (.cells #[.slice none 0 0, .int .i64 0, .int .i64 0, .int .i64 0, .int .i64 0, .int .i64 0, .int .i64 0, .int .i64 0, .int .i64 0, .int .i64 0] 50)
  have Z2 := below2 (w.alloc (.cells #[.slice ad L.length c, .int .i64 lim, .int .i64 mode, .int .i64 A, .int .i64 B, .int .i64 C, .int .i64 D, .int .i64 coast, .int .i64 fr] 48)) (.cells #[.int .i64 g1, .int .i64 g2, .int .i64 g3, .int .i64 g4] 46) (.cells #[.slice none 0 0, .int .i64 0, .int .i64 0, .int .i64 0, .int .i64 0, .int .i64 0, .int .i64 0, .int .i64 0, .int .i64 0, .int .i64 0] 50)
  have T0 := (tkAt_new w (.slice ad L.length c) lim mode A B C D coast fr 48).kept Z2
  have U0 := (by simpa using turnAt_new (w.alloc (.cells #[.slice ad L.length c, .int .i64 lim, .int .i64 mode, .int .i64 A, .int .i64 B, .int .i64 C, .int .i64 D, .int .i64 coast, .int .i64 fr] 48)) g1 g2 g3 g4 46 : TurnAt ((w.alloc (.cells #[.slice ad L.length c, .int .i64 lim, .int .i64 mode, .int .i64 A, .int .i64 B, .int .i64 C, .int .i64 D, .int .i64 coast, .int .i64 fr] 48)).alloc (.cells #[.int .i64 g1, .int .i64 g2, .int .i64 g3, .int .i64 g4] 46)) (w.heap.size + 1) g1 g2 g3 g4).alloc (.cells #[.slice none 0 0, .int .i64 0, .int .i64 0, .int .i64 0, .int .i64 0, .int .i64 0, .int .i64 0, .int .i64 0, .int .i64 0, .int .i64 0] 50)
  have R0 := (by simpa using tkO_new ((w.alloc (.cells #[.slice ad L.length c, .int .i64 lim, .int .i64 mode, .int .i64 A, .int .i64 B, .int .i64 C, .int .i64 D, .int .i64 coast, .int .i64 fr] 48)).alloc (.cells #[.int .i64 g1, .int .i64 g2, .int .i64 g3, .int .i64 g4] 46)) (.slice none 0 0) 0 0 0 0 0 0 0 0 0 50 : TkO (((w.alloc (.cells #[.slice ad L.length c, .int .i64 lim, .int .i64 mode, .int .i64 A, .int .i64 B, .int .i64 C, .int .i64 D, .int .i64 coast, .int .i64 fr] 48)).alloc (.cells #[.int .i64 g1, .int .i64 g2, .int .i64 g3, .int .i64 g4] 46)).alloc (.cells #[.slice none 0 0, .int .i64 0, .int .i64 0, .int .i64 0, .int .i64 0, .int .i64 0, .int .i64 0, .int .i64 0, .int .i64 0, .int .i64 0] 50)) (w.heap.size + 1 + 1) (.slice none 0 0) 0 0 0 0 0 0 0 0 0)
  have G0 := (by simpa using freeK_new ((w.alloc (.cells #[.slice ad L.length c, .int .i64 lim, .int .i64 mode, .int .i64 A, .int .i64 B, .int .i64 C, .int .i64 D, .int .i64 coast, .int .i64 fr] 48)).alloc (.cells #[.int .i64 g1, .int .i64 g2, .int .i64 g3, .int .i64 g4] 46)) #[.slice none 0 0, .int .i64 0, .int .i64 0, .int .i64 0, .int .i64 0, .int .i64 0, .int .i64 0, .int .i64 0, .int .i64 0, .int .i64 0] 50 : FreeK (((w.alloc (.cells #[.slice ad L.length c, .int .i64 lim, .int .i64 mode, .int .i64 A, .int .i64 B, .int .i64 C, .int .i64 D, .int .i64 coast, .int .i64 fr] 48)).alloc (.cells #[.int .i64 g1, .int .i64 g2, .int .i64 g3, .int .i64 g4] 46)).alloc (.cells #[.slice none 0 0, .int .i64 0, .int .i64 0, .int .i64 0, .int .i64 0, .int .i64 0, .int .i64 0, .int .i64 0, .int .i64 0, .int .i64 0] 50)) (w.heap.size + 1 + 1))
  have hsz : w.heap.size + 3 ≤ (((w.alloc (.cells #[.slice ad L.length c, .int .i64 lim, .int .i64 mode, .int .i64 A, .int .i64 B, .int .i64 C, .int .i64 D, .int .i64 coast, .int .i64 fr] 48)).alloc (.cells #[.int .i64 g1, .int .i64 g2, .int .i64 g3, .int .i64 g4] 46)).alloc (.cells #[.slice none 0 0, .int .i64 0, .int .i64 0, .int .i64 0, .int .i64 0, .int .i64 0, .int .i64 0, .int .i64 0, .int .i64 0, .int .i64 0] 50)).heap.size := by simp
  have S0 := hS.kept B0
  have cR := yz (fun W h => specTrack_any L lim mode A B C D coast fr ad c W hn h)
  have cC := yz (fun W h => l07Copy_any L lim mode A B C D coast fr ad c W hn h)
  have HB := yz B0
  have HT := yz T0
  have HU := yz U0
  have HR := yz R0
  have HG := yz G0
  have HS := yz S0
  clear B0 T0 U0 R0 G0 S0 Z2 hS
  go_enter Tryz.func67, Tryz.ntmps67
  go_wp2_with fail
  generalize hW : ((w.alloc (.cells #[.slice ad L.length c, .int .i64 lim, .int .i64 mode, .int .i64 A, .int .i64 B, .int .i64 C, .int .i64 D, .int .i64 coast, .int .i64 fr] 48)).alloc (.cells #[.int .i64 g1, .int .i64 g2, .int .i64 g3, .int .i64 g4] 46)).alloc (.cells #[.slice none 0 0, .int .i64 0, .int .i64 0, .int .i64 0, .int .i64 0, .int .i64 0, .int .i64 0, .int .i64 0, .int .i64 0, .int .i64 0] 50) = W at *
  clear hW
  refine (yy cR _ (yy HS)).mono ?_
  rintro e w1 ⟨rfl, hx⟩
  have B1 := yz (below_call (yy HB) hx)
  have T1 := yz ((yy HT).kept hx)
  have U1 := yz ((yy HU).kept (yy HU).lt hx)
  have R1 := yz ((yy HR).kept hx)
  have G1 := yz ((yy HG).kept (yy HR).lt hx)
  have S1 := yz ((yy HS).kept hx)
  have hsz1 : w.heap.size + 3 ≤ w1.heap.size := Nat.le_trans hsz hx.size
  clear hx HB HT HU HR HG HS hsz cR
  have hill : gyroOk ⟨L, lim, mode, A, B, C, D, coast, fr⟩ g1 g2 g3 g4 = false → Hid (gyroT ⟨L, lim, mode, A, B, C, D, coast, fr⟩ g1 g2 g3 g4 = zeroK) ∧ Hid (gyroC ⟨L, lim, mode, A, B, C, D, coast, fr⟩ g1 g2 g3 g4 = 1) := fun h => ⟨yz (by unfold gyroT; rw [h]; rfl), yz (by unfold gyroC; rw [h]; rfl)⟩
  cases hk : trackB ⟨L, lim, mode, A, B, C, D, coast, fr⟩
  · obtain ⟨HO1, HO2⟩ := hill (by unfold gyroOk; rw [hk]; rfl)
    clear hill
    go_wp2_with fail
    refine (l07Ill_any 1 _).mono ?_
    rintro e w2 ⟨rfl, hx⟩
    have B2 := yz (below_call (yy B1) hx)
    have R2 := yz ((yy R1).kept hx)
    have G2 := yz ((yy G1).kept (yy R1).lt hx)
    clear hx B1 R1 G1
    obtain ⟨⟨r0, r1, r2, r3, r4, r5, r6, r7, r8⟩, r9⟩ := yy R2
    have g0 := yy G2 0
    have g1 := yy G2 1
    have g2 := yy G2 2
    have g3 := yy G2 3
    have g4 := yy G2 4
    have g5 := yy G2 5
    have g6 := yy G2 6
    have g7 := yy G2 7
    have g8 := yy G2 8
    have g9 := yy G2 9
    go_wp2_with fail
    clear r0 r1 r2 r3 r4 r5 r6 r7 r8 r9 g0 g1 g2 g3 g4 g5 g6 g7 g8 g9
    refine bodyPost_ret (v := .agg #[.slice none 0 0, .int .i64 0, .int .i64 0, .int .i64 0, .int .i64 0, .int .i64 0, .int .i64 0, .int .i64 0, .int .i64 0, .int .i64 1]) ?_ rfl ⟨?_, ?_⟩
    · refine res_sgyro _ _ (w.heap.size + 1 + 1) _ 0 0 0 0 0 0 0 0 1 rfl ?_
      exact tkO_set10 (yy R2) _ _ _ _ _ _ _ _ _ _
    · rw [yy HO1, yy HO2]
      exact outT_ill _ _ _
    · iterate 10 (refine belowSet ?_ (show w.heap.size ≤ w.heap.size + 1 + 1 by omega) _ _)
      exact yy B2
  obtain ⟨u0, u1, u2, u3⟩ := yy U1
  go_wp2_with fail
  clear u0 u1 u2 u3
  refine (specTRight_any g1 g2 g3 g4 _).mono ?_
  rintro e w2 ⟨rfl, hx⟩
  have B2 := yz (below_call (yy B1) hx)
  have T2 := yz ((yy T1).kept hx)
  have U2 := yz ((yy U1).kept (yy U1).lt hx)
  have R2 := yz ((yy R1).kept hx)
  have G2 := yz ((yy G1).kept (yy R1).lt hx)
  have S2 := yz ((yy S1).kept hx)
  have hsz2 : w.heap.size + 3 ≤ w2.heap.size := Nat.le_trans hsz1 hx.size
  clear hx B1 T1 U1 R1 G1 S1 hsz1
  cases hg : rightT g1 g2 g3 g4
  · obtain ⟨HO1, HO2⟩ := hill (by unfold gyroOk; rw [hg, Bool.and_false])
    clear hill
    go_wp2_with fail
    refine (l07Ill_any 1 _).mono ?_
    rintro e w3 ⟨rfl, hx⟩
    have B3 := yz (below_call (yy B2) hx)
    have R3 := yz ((yy R2).kept hx)
    have G3 := yz ((yy G2).kept (yy R2).lt hx)
    clear hx B2 R2 G2
    obtain ⟨⟨r0, r1, r2, r3, r4, r5, r6, r7, r8⟩, r9⟩ := yy R3
    have g0 := yy G3 0
    have g1 := yy G3 1
    have g2 := yy G3 2
    have g3 := yy G3 3
    have g4 := yy G3 4
    have g5 := yy G3 5
    have g6 := yy G3 6
    have g7 := yy G3 7
    have g8 := yy G3 8
    have g9 := yy G3 9
    go_wp2_with fail
    clear r0 r1 r2 r3 r4 r5 r6 r7 r8 r9 g0 g1 g2 g3 g4 g5 g6 g7 g8 g9
    refine bodyPost_ret (v := .agg #[.slice none 0 0, .int .i64 0, .int .i64 0, .int .i64 0, .int .i64 0, .int .i64 0, .int .i64 0, .int .i64 0, .int .i64 0, .int .i64 1]) ?_ rfl ⟨?_, ?_⟩
    · refine res_sgyro _ _ (w.heap.size + 1 + 1) _ 0 0 0 0 0 0 0 0 1 rfl ?_
      exact tkO_set10 (yy R3) _ _ _ _ _ _ _ _ _ _
    · rw [yy HO1, yy HO2]
      exact outT_ill _ _ _
    · iterate 10 (refine belowSet ?_ (show w.heap.size ≤ w.heap.size + 1 + 1 by omega) _ _)
      exact yy B3
  have hgt : mode ≠ 0 → rightT A B C D = true := fun h => track_turn hk h
  have HO1 : Hid (gyroT ⟨L, lim, mode, A, B, C, D, coast, fr⟩ g1 g2 g3 g4 = turnedT ⟨L, lim, mode, A, B, C, D, coast, fr⟩ g1 g2 g3 g4) := yz (by unfold gyroT gyroOk; rw [hk, hg]; rfl)
  have HO2 : Hid (gyroC ⟨L, lim, mode, A, B, C, D, coast, fr⟩ g1 g2 g3 g4 = 0) := yz (by unfold gyroC gyroOk; rw [hk, hg]; rfl)
  clear hill hk
  obtain ⟨s0, s1, s2, s3, s4, s5, s6, s7, s8⟩ := yy T2
  go_wp2_with fail
  clear s0 s1 s2 s3 s4 s5 s6 s7 s8
  refine (yy cC _ (yy S2)).mono ?_
  rintro e w3 ⟨a, cap, rfl, hC, hx⟩
  have Z3 := below1 w3 (.cells #[.slice a L.length cap, .int .i64 lim, .int .i64 mode, .int .i64 A, .int .i64 B, .int .i64 C, .int .i64 D, .int .i64 coast, .int .i64 fr] 48)
  have C3 := yz ((hC.low (B' := w.heap.size + 1 + 1 + 1) (by omega)).kept Z3)
  have hC9 := hC.low (B' := w.heap.size + 1 + 1 + 1) (by omega)
  have B3 := yz (below_call (below_call (yy B2) hx) Z3)
  have T3 := yz (((yy T2).kept hx).kept Z3)
  have U3 := yz (((yy U2).kept (yy U2).lt hx).kept ((yy U2).kept (yy U2).lt hx).lt Z3)
  have R3 := yz (((yy R2).kept hx).kept Z3)
  have G3 := yz (((yy G2).kept (yy R2).lt hx).kept ((yy R2).kept hx).lt Z3)
  have Q3 := yz (tkAt_new w3 (.slice a L.length cap) lim mode A B C D coast fr 48)
  have F3 := yz (freeK_new w3 #[.slice a L.length cap, .int .i64 lim, .int .i64 mode, .int .i64 A, .int .i64 B, .int .i64 C, .int .i64 D, .int .i64 coast, .int .i64 fr] 48)
  have hq : w.heap.size + 3 ≤ w3.heap.size := Nat.le_trans hsz2 hx.size
  have hqr : ∀ x, a = some x → x.block < w3.heap.size := fun x e => by
    rcases hC.2 with ⟨h1, _⟩ | ⟨g, c', cur, e', hb, hh, r⟩
    · injection h1 with h1; rw [h1] at e; cases e
    · injection e' with e1; rw [e1] at e; cases e; exact (Array.getElem?_eq_some_iff.1 hh).1
  clear hx hC Z3 B2 T2 U2 R2 G2 S2 hsz2 cC hC9
  by_cases hm : mode = 0
  · have HO3 : Hid (turnedT ⟨L, lim, mode, A, B, C, D, coast, fr⟩ g1 g2 g3 g4 = ⟨L, lim, mode, A, B, C, D, coast, fr⟩) := yz (by unfold turnedT; rw [if_pos hm])
    obtain ⟨s0, s1, s2, s3, s4, s5, s6, s7, s8⟩ := yy T3
    obtain ⟨q0, q1, q2, q3, q4, q5, q6, q7, q8⟩ := yy Q3
    obtain ⟨⟨r0, r1, r2, r3, r4, r5, r6, r7, r8⟩, r9⟩ := yy R3
    have f0 := yy G3 0
    have f1 := yy G3 1
    have f2 := yy G3 2
    have f3 := yy G3 3
    have f4 := yy G3 4
    have f5 := yy G3 5
    have f6 := yy G3 6
    have f7 := yy G3 7
    have f8 := yy G3 8
    have f9 := yy G3 9
    subst hm
    go_wp2_with fail
    clear s0 s1 s2 s3 s4 s5 s6 s7 s8 q0 q1 q2 q3 q4 q5 q6 q7 q8 r0 r1 r2 r3 r4 r5 r6 r7 r8 r9 f0 f1 f2 f3 f4 f5 f6 f7 f8 f9
    refine bodyPost_ret (v := .agg #[.slice a L.length cap, .int .i64 lim, .int .i64 0, .int .i64 A, .int .i64 B, .int .i64 C, .int .i64 D, .int .i64 coast, .int .i64 fr, .int .i64 0]) ?_ rfl ⟨?_, ?_⟩
    · refine res_sgyro _ _ (w.heap.size + 1 + 1) _ lim 0 A B C D coast fr 0 rfl ?_
      exact tkO_set10 (yy R3) _ _ _ _ _ _ _ _ _ _
    · rw [yy HO1, yy HO2, yy HO3]
      refine ⟨a, cap, rfl, ?_⟩
      refine Copied.low (B := w.heap.size + 1 + 1 + 1) ?_ (by omega)
      iterate 10 (refine Copied.far ?_ (Nat.lt_succ_self (w.heap.size + 1 + 1)) _ _)
      exact yy C3
    · iterate 10 (refine belowSet ?_ (show w.heap.size ≤ w.heap.size + 1 + 1 by omega) _ _)
      exact yy B3
  have cX := yz (fun W => l03Compose_v g1 g2 g3 g4 A B C D W hg (hgt hm))
  have hO3 : coK g1 g2 g3 g4 A B C D = 0 → Hid (turnedT ⟨L, lim, mode, A, B, C, D, coast, fr⟩ g1 g2 g3 g4 = ⟨L, lim, mode, coV1 g1 g2 g3 g4 A B C D, coV2 g1 g2 g3 g4 A B C D, coV3 g1 g2 g3 g4 A B C D, coV4 g1 g2 g3 g4 A B C D, coast, fr⟩) := fun h => yz (by unfold turnedT; rw [if_neg hm, if_pos h])
  have hO4 : coK g1 g2 g3 g4 A B C D ≠ 0 → Hid (turnedT ⟨L, lim, mode, A, B, C, D, coast, fr⟩ g1 g2 g3 g4 = ⟨L, lim, 0, 0, 0, 0, 0, 0, fr⟩) := fun h => yz (by unfold turnedT; rw [if_neg hm, if_neg h]; rfl)
  generalize coV1 g1 g2 g3 g4 A B C D = P1 at *
  generalize coV2 g1 g2 g3 g4 A B C D = P2 at *
  generalize coV3 g1 g2 g3 g4 A B C D = P3 at *
  generalize coV4 g1 g2 g3 g4 A B C D = P4 at *
  generalize coK g1 g2 g3 g4 A B C D = Pk at *
  obtain ⟨s0, s1, s2, s3, s4, s5, s6, s7, s8⟩ := yy T3
  obtain ⟨u0, u1, u2, u3⟩ := yy U3
  go_wp2_with fail
  clear s0 s1 s2 s3 s4 s5 s6 s7 s8 u0 u1 u2 u3
  generalize hV3 : w3.alloc (.cells #[.slice a L.length cap, .int .i64 lim, .int .i64 mode, .int .i64 A, .int .i64 B, .int .i64 C, .int .i64 D, .int .i64 coast, .int .i64 fr] 48) = V3 at *
  generalize hqb : w3.heap.size = qb at *
  clear hV3 hqb
  refine (yy cX _).mono ?_
  rintro e w4 ⟨rfl, hx⟩
  have Z4 := below1 w4 (.cells #[.int .i64 P1, .int .i64 P2, .int .i64 P3, .int .i64 P4, .int .i64 Pk] 97)
  have B4 := yz (below_call (below_call (yy B3) hx) Z4)
  have Q4 := yz (((yy Q3).kept hx).kept Z4)
  have F4 := yz (((yy F3).kept (yy Q3).lt hx).kept ((yy Q3).kept hx).lt Z4)
  have R4 := yz (((yy R3).kept hx).kept Z4)
  have G4 := yz (((yy G3).kept (yy R3).lt hx).kept ((yy R3).kept hx).lt Z4)
  have C4 := yz (((yy C3).kept hx).kept Z4)
  have O4 := outAt_new w4 P1 P2 P3 P4 Pk 97
  clear hx Z4 B3 T3 U3 Q3 F3 R3 G3 C3 cX
  obtain ⟨o0, o1, o2, o3, o4⟩ := O4
  by_cases hk : Pk = 0
  · have HO3 := hO3 hk
    clear hO3 hO4
    subst hk
    obtain ⟨q0, q1, q2, q3, q4, q5, q6, q7, q8⟩ := yy Q4
    obtain ⟨⟨r0, r1, r2, r3, r4, r5, r6, r7, r8⟩, r9⟩ := yy R4
    have e3 := yy F4 3
    have e4 := yy F4 4
    have e5 := yy F4 5
    have e6 := yy F4 6
    have f0 := yy G4 0
    have f1 := yy G4 1
    have f2 := yy G4 2
    have f3 := yy G4 3
    have f4 := yy G4 4
    have f5 := yy G4 5
    have f6 := yy G4 6
    have f7 := yy G4 7
    have f8 := yy G4 8
    have f9 := yy G4 9
    have hne1 : w.heap.size + 1 + 1 ≠ qb := by omega
    have hne2 : qb ≠ w.heap.size + 1 + 1 := by omega
    go_wp2_with fail
    clear q0 q1 q2 q3 q4 q5 q6 q7 q8 r0 r1 r2 r3 r4 r5 r6 r7 r8 r9 e3 e4 e5 e6 f0 f1 f2 f3 f4 f5 f6 f7 f8 f9 o0 o1 o2 o3 o4
    refine bodyPost_ret (v := .agg #[.slice a L.length cap, .int .i64 lim, .int .i64 mode, .int .i64 P1, .int .i64 P2, .int .i64 P3, .int .i64 P4, .int .i64 coast, .int .i64 fr, .int .i64 0]) ?_ rfl ⟨?_, ?_⟩
    · refine res_sgyro _ _ (w.heap.size + 1 + 1) _ lim mode P1 P2 P3 P4 coast fr 0 rfl ?_
      refine tkO_set10 (lim0 := 0) (mode0 := 0) (A0 := 0) (B0 := 0) (C0 := 0) (D0 := 0) (coast0 := 0) (fr0 := 0) (code0 := 0) (u := .slice none 0 0) ?_ _ lim mode P1 P2 P3 P4 coast fr 0
      iterate 4 (refine TkO.far ?_ hne1 _ _)
      exact yy R4
    · rw [yy HO1, yy HO2, yy HO3]
      refine ⟨a, cap, rfl, ?_⟩
      refine Copied.low (B := w.heap.size + 1 + 1 + 1) ?_ (by omega)
      iterate 10 (refine Copied.far ?_ (Nat.lt_succ_self (w.heap.size + 1 + 1)) _ _)
      iterate 4 (refine Copied.off ?_ (fun x e => Nat.ne_of_lt (hqr x e)) _ _)
      exact yy C4
    · iterate 10 (refine belowSet ?_ (show w.heap.size ≤ w.heap.size + 1 + 1 by omega) _ _)
      iterate 4 (refine belowSet ?_ (show w.heap.size ≤ qb by omega) _ _)
      exact yy B4
  · have HO3 := hO4 hk
    clear hO3 hO4
    obtain ⟨q0, q1, q2, q3, q4, q5, q6, q7, q8⟩ := yy Q4
    go_wp2_with fail
    clear q0 q1 q2 q3 q4 q5 q6 q7 q8 o0 o1 o2 o3 o4
    refine (l07Lost_any lim mode A B C D coast fr a L.length cap _).mono ?_
    rintro e w5 ⟨rfl, hx⟩
    have B5 := yz (below_call (yy B4) hx)
    have R5 := yz ((yy R4).kept hx)
    have G5 := yz ((yy G4).kept (yy R4).lt hx)
    have C5 := yz ((yy C4).kept hx)
    clear hx B4 R4 G4 C4
    obtain ⟨⟨r0, r1, r2, r3, r4, r5, r6, r7, r8⟩, r9⟩ := yy R5
    have g0 := yy G5 0
    have g1 := yy G5 1
    have g2 := yy G5 2
    have g3 := yy G5 3
    have g4 := yy G5 4
    have g5 := yy G5 5
    have g6 := yy G5 6
    have g7 := yy G5 7
    have g8 := yy G5 8
    have g9 := yy G5 9
    go_wp2_with fail
    clear r0 r1 r2 r3 r4 r5 r6 r7 r8 r9 g0 g1 g2 g3 g4 g5 g6 g7 g8 g9
    refine bodyPost_ret (v := .agg #[.slice a L.length cap, .int .i64 lim, .int .i64 0, .int .i64 0, .int .i64 0, .int .i64 0, .int .i64 0, .int .i64 0, .int .i64 fr, .int .i64 0]) ?_ rfl ⟨?_, ?_⟩
    · refine res_sgyro _ _ (w.heap.size + 1 + 1) _ lim 0 0 0 0 0 0 fr 0 rfl ?_
      exact tkO_set10 (yy R5) _ _ _ _ _ _ _ _ _ _
    · rw [yy HO1, yy HO2, yy HO3]
      refine ⟨a, cap, rfl, ?_⟩
      refine Copied.low (B := w.heap.size + 1 + 1 + 1) ?_ (by omega)
      iterate 10 (refine Copied.far ?_ (Nat.lt_succ_self (w.heap.size + 1 + 1)) _ _)
      exact yy C5
    · iterate 10 (refine belowSet ?_ (show w.heap.size ≤ w.heap.size + 1 + 1 by omega) _ _)
      exact yy B5
end Go.Proofs.YtofpjlhoppofdaaGreatDoor
namespace Go.Proofs.YtofpjlhoppofdaaGreatDoor
open Go.RowKit Go.Sort
set_option linter.unusedVariables false
set_option linter.unusedSimpArgs false
theorem TurnAt.far {w : World} {b : Nat} {p q r s : Int} (h : TurnAt w b p q r s) {b' : Nat} (hne : b ≠ b') (o : Nat) (x : Value) : TurnAt (w.setCell ⟨b', o, none⟩ x) b p q r s := by
  obtain ⟨h0, h1, h2, h3⟩ := h
  refine ⟨?_, ?_, ?_, ?_⟩ <;> (rw [World.cell?_setCell_far _ _ _ _ (Ne.symm hne)]; assumption)
def trackT (t : Tk) (p q r s : Int) : Tk := { t with mode := 1, A := p, B := q, C := r, D := s, coast := 0 }
def unseenT (t : Tk) : Tk := if t.mode = 0 then t else if t.lim < t.coast + 1 then lostT t else { t with mode := 2, coast := t.coast + 1 }
set_option maxHeartbeats 2000000 in
set_option maxRecDepth 100000 in
theorem l07Track_any (lim mode A B C D coast fr p q r s : Int) (a : Option Addr) (n c : Nat) (w : World) :
    Calls Tryz.prog 144 #[.agg #[.slice a n c, .int .i64 lim, .int .i64 mode, .int .i64 A, .int .i64 B, .int .i64 C, .int .i64 D, .int .i64 coast, .int .i64 fr], .agg #[.int .i64 p, .int .i64 q, .int .i64 r, .int .i64 s]] w fun e w' => e = .returned (.agg #[.slice a n c, .int .i64 lim, .int .i64 1, .int .i64 p, .int .i64 q, .int .i64 r, .int .i64 s, .int .i64 0, .int .i64 fr, .int .i64 0]) ∧ Below w.heap.size w w' := by
  go_enter Tryz.func144, Tryz.ntmps144
  go_wp2
  exact bodyPost_ret (v := .agg #[.slice a n c, .int .i64 lim, .int .i64 1, .int .i64 p, .int .i64 q, .int .i64 r, .int .i64 s, .int .i64 0, .int .i64 fr, .int .i64 0]) (by simp [results, Tryz.results144, go_sem]) rfl ⟨rfl, below3 _ _ _ _⟩
end Go.Proofs.YtofpjlhoppofdaaGreatDoor
namespace Go.Proofs.YtofpjlhoppofdaaGreatDoor
open Go.RowKit Go.Sort
set_option linter.unusedVariables false
def outV (r : T4 × Int) : Value := .agg #[.int .i64 r.1.1, .int .i64 r.1.2.1, .int .i64 r.1.2.2.1, .int .i64 r.1.2.2.2, .int .i64 r.2]
theorem below_set5' {w w1 : World} {b : Nat} (h : Below w.heap.size w w1) (hb : w.heap.size ≤ b) (x y z u v : Value) : Below w.heap.size w (((((w1.setCell ⟨b, 0, none⟩ x).setCell ⟨b, 1, none⟩ y).setCell ⟨b, 2, none⟩ z).setCell ⟨b, 3, none⟩ u).setCell ⟨b, 4, none⟩ v) := ((((h.setCell hb _).setCell hb _).setCell hb _).setCell hb _).setCell hb _
set_option maxHeartbeats 4000000 in
set_option maxRecDepth 100000 in
theorem specTurns_any (w : World) :
    Calls Tryz.prog 172 #[] w fun e w' => (∃ v, e = .returned v ∧ w'.ownsRow w.heap.size 46 4 v (turnsTo 625).length (flatT (turnsTo 625))) ∧ Below w.heap.size w w' := by
  obtain ⟨i0, hinf, hz0, hz1, hz2⟩ := info_parts info_turn
  have hm8 : 1000 ≤ maxLen := by decide +kernel
  have HO0 := yz (ownT_none w w.heap.size (Nat.le_refl _))
  have HB0 := yz (below1 w (.cells #[] 46))
  go_enter Tryz.func172, Tryz.ntmps172
  go_wp2_with fail
  generalize w.alloc (.cells #[] 46) = W0 at HO0 HB0 ⊢
  go_loopw [1, 2] (fun v kk wr => ∃ i : Nat, i ≤ 5 ∧ kk = .int .i64 ((i : Int) - 2) ∧ Hid (wr.ownsRow w.heap.size 46 4 v (turnsTo (i * 125)).length (flatT (turnsTo (i * 125)))) ∧ Hid (Below w.heap.size w wr)) (fun _ kk _ => (3 - intOf kk).toNat)
  case atStart => exact ⟨0, by omega, rfl, HO0, HB0⟩
  case round =>
    clear HO0 HB0
    obtain ⟨i, hi, rfl, HO1, HB1⟩ := hrel
    by_cases hi5 : i < 5
    · have hi2 : (i : Int) - 2 ≤ 2 := by omega
      go_wp2_with fail
      go_loopw [1, 3] (fun v kk wr => ∃ j : Nat, j ≤ 5 ∧ kk = .int .i64 ((j : Int) - 2) ∧ Hid (wr.ownsRow w.heap.size 46 4 v (turnsTo (i * 125 + j * 25)).length (flatT (turnsTo (i * 125 + j * 25)))) ∧ Hid (Below w.heap.size w wr)) (fun _ kk _ => (3 - intOf kk).toNat)
      case atStart => exact ⟨0, by omega, rfl, yz (by have h := yy HO1; simpa using h), HB1⟩
      case round =>
        clear HO1 HB1
        obtain ⟨j, hj, rfl, HO2, HB2⟩ := hrel
        by_cases hj5 : j < 5
        · have hj2 : (j : Int) - 2 ≤ 2 := by omega
          go_wp2_with fail
          go_loopw [1, 4] (fun v kk wr => ∃ l : Nat, l ≤ 5 ∧ kk = .int .i64 ((l : Int) - 2) ∧ Hid (wr.ownsRow w.heap.size 46 4 v (turnsTo (i * 125 + j * 25 + l * 5)).length (flatT (turnsTo (i * 125 + j * 25 + l * 5)))) ∧ Hid (Below w.heap.size w wr)) (fun _ kk _ => (3 - intOf kk).toNat)
          case atStart => exact ⟨0, by omega, rfl, yz (by have h := yy HO2; simpa using h), HB2⟩
          case round =>
            clear HO2 HB2
            obtain ⟨l, hl, rfl, HO3, HB3⟩ := hrel
            by_cases hl5 : l < 5
            · have hl2 : (l : Int) - 2 ≤ 2 := by omega
              go_wp2_with fail
              go_loopw [1, 5] (fun v kk wr => ∃ m : Nat, m ≤ 5 ∧ kk = .int .i64 ((m : Int) - 2) ∧ Hid (wr.ownsRow w.heap.size 46 4 v (turnsTo (i * 125 + j * 25 + l * 5 + m)).length (flatT (turnsTo (i * 125 + j * 25 + l * 5 + m)))) ∧ Hid (Below w.heap.size w wr)) (fun _ kk _ => (3 - intOf kk).toNat)
              case atStart => exact ⟨0, by omega, rfl, yz (by have h := yy HO3; simpa using h), HB3⟩
              case round =>
                clear HO3 HB3
                obtain ⟨m, hm, rfl, HO4, HB4⟩ := hrel
                by_cases hm5 : m < 5
                · have hm2 : (m : Int) - 2 ≤ 2 := by omega
                  have hta := tOf_at i j l m hj5 hl5 hm5
                  have hpl := turns_len (i * 125 + j * 25 + l * 5 + m)
                  have HSN := yz (turns_snoc (i * 125 + j * 25 + l * 5 + m))
                  rw [hta] at HSN
                  clear hta
                  generalize hke : i * 125 + j * 25 + l * 5 + m = k at *
                  have hkb : k < 625 := by omega
                  have HKE : Hid (i * 125 + j * 25 + l * 5 + (m + 1) = k + 1) := yz (by omega)
                  clear hke
                  have Z := below1 wr (.cells #[.int .i64 ((i : Int) - 2), .int .i64 ((j : Int) - 2), .int .i64 ((l : Int) - 2), .int .i64 ((m : Int) - 2)] 46)
                  have HBa := yz (below_call (yy HB4) Z)
                  have HOa := yz (oKept (yy HO4) Z)
                  have TA1 := turnAt_new wr ((i : Int) - 2) ((j : Int) - 2) ((l : Int) - 2) ((m : Int) - 2) 46
                  clear Z HO4 HB4
                  go_wp2_with fail
                  obtain ⟨p, hp⟩ : ∃ p, p = (i : Int) - 2 := ⟨_, rfl⟩
                  obtain ⟨q, hq⟩ : ∃ p, p = (j : Int) - 2 := ⟨_, rfl⟩
                  obtain ⟨r, hr⟩ : ∃ p, p = (l : Int) - 2 := ⟨_, rfl⟩
                  obtain ⟨s, hs⟩ : ∃ p, p = (m : Int) - 2 := ⟨_, rfl⟩
                  generalize wr.alloc (.cells #[.int .i64 ((i : Int) - 2), .int .i64 ((j : Int) - 2), .int .i64 ((l : Int) - 2), .int .i64 ((m : Int) - 2)] 46) = W1 at HBa HOa TA1 ⊢
                  refine (specTRight_any _ _ _ _ _).mono ?_
                  rintro e W2 ⟨rfl, hx⟩
                  have TA2 := TA1.kept TA1.lt hx
                  have HBb := yz (below_call (yy HBa) hx)
                  have HOb := yz (oKept (yy HOa) hx)
                  clear hx TA1 HBa HOa
                  rw [← hp, ← hq, ← hr, ← hs] at HSN
                  rw [← hp, ← hq, ← hr, ← hs] at TA2
                  have HG : Hid (goodT (p, q, r, s) = rightT ((i : Int) - 2) ((j : Int) - 2) ((l : Int) - 2) ((m : Int) - 2)) := yz (by rw [← hp, ← hq, ← hr, ← hs]; rfl)
                  generalize wr.heap.size = tb at *
                  cases hrt : rightT ((i : Int) - 2) ((j : Int) - 2) ((l : Int) - 2) ((m : Int) - 2)
                  · rw [hrt] at HG
                    rw [yy HG, if_neg (by simp), List.append_nil] at HSN
                    have HO3 : Hid (W2.ownsRow w.heap.size 46 4 u1 (turnsTo (i * 125 + j * 25 + l * 5 + (m + 1))).length (flatT (turnsTo (i * 125 + j * 25 + l * 5 + (m + 1))))) := yz (by rw [yy HKE, yy HSN]; exact yy HOb)
                    clear hp hq hr hs
                    go_wp2_with fail
                    go_roundw
                    case rel => exact ⟨m + 1, by omega, by go_num, HO3, HBb⟩
                    case measure => simp [intOf] <;> omega
                  · rw [hrt] at HG
                    rw [yy HG, if_pos rfl] at HSN
                    obtain ⟨e0, e1, e2, e3⟩ := TA2
                    have Z1 := below1 W2 (.cells #[.int .i64 p, .int .i64 q, .int .i64 r, .int .i64 s] 46)
                    have hown := oKept (yy HOb) Z1
                    have B3 := below_call (yy HBb) Z1
                    have hsz := (yy HBb).size
                    have HP := yz hp
                    have HQ := yz hq
                    have HR := yz hr
                    have HS := yz hs
                    clear Z1 HOb HBb hp hq hr hs
                    generalize turnsTo k = Pk at *
                    go_wp2_with (at_builtin; refine wpList_append_own _ rfl _ _ 219 rfl w.heap.size 46 i0 (.agg #[.int .i64 0, .int .i64 0, .int .i64 0, .int .i64 0]) 4 32 Tryz.underlying219 hinf hz0 hz1 hz2 rfl (by decide) _ _ _ rfl hown ⟨W2.heap.size, 0, none⟩ 1 1 (flatT [(p, q, r, s)]) rfl rfl ?d2 (fun u hu => flatT_cell hu) ?d3 ?d4 ?d5 ?_)
                    case d2 => first | exact fun j u h => h | exact new_cells _ _ _
                    case d3 => omega
                    case d4 => omega
                    case d5 => first | omega | (simp; omega)
                    intro v7 V7 hown7 hgrow7 _
                    have HB8 := yz (oBelow B3 hown hgrow7 (by simp; omega))
                    have HO8 : Hid (V7.ownsRow w.heap.size 46 4 v7 (turnsTo (i * 125 + j * 25 + l * 5 + (m + 1))).length (flatT (turnsTo (i * 125 + j * 25 + l * 5 + (m + 1))))) := yz (by rw [yy HKE, yy HSN, flatT_app, List.length_append]; exact hown7)
                    clear hown7 hgrow7 hown B3 e0 e1 e2 e3
                    go_wp2_with fail
                    go_roundw
                    case rel => exact ⟨m + 1, by omega, by go_num, HO8, HB8⟩
                    case measure => simp [intOf] <;> omega
                · have hm2 : ¬ (m : Int) - 2 ≤ 2 := by omega
                  have hm5' : m = 5 := by omega
                  subst hm5'
                  have HOx : Hid (wr.ownsRow w.heap.size 46 4 u1 (turnsTo (i * 125 + j * 25 + (l + 1) * 5)).length (flatT (turnsTo (i * 125 + j * 25 + (l + 1) * 5)))) := yz (by rw [show i * 125 + j * 25 + (l + 1) * 5 = i * 125 + j * 25 + l * 5 + 5 by omega]; exact yy HO4)
                  go_wp2_with fail
                  go_roundw
                  case rel => exact ⟨l + 1, by omega, by go_num, HOx, HB4⟩
                  case measure => simp [intOf] <;> omega
            · have hl2 : ¬ (l : Int) - 2 ≤ 2 := by omega
              have hl5' : l = 5 := by omega
              subst hl5'
              have HOx : Hid (wr.ownsRow w.heap.size 46 4 u1 (turnsTo (i * 125 + (j + 1) * 25)).length (flatT (turnsTo (i * 125 + (j + 1) * 25)))) := yz (by rw [show i * 125 + (j + 1) * 25 = i * 125 + j * 25 + 5 * 5 by omega]; exact yy HO3)
              go_wp2_with fail
              go_roundw
              case rel => exact ⟨j + 1, by omega, by go_num, HOx, HB3⟩
              case measure => simp [intOf] <;> omega
        · have hj2 : ¬ (j : Int) - 2 ≤ 2 := by omega
          have hj5' : j = 5 := by omega
          subst hj5'
          have HOx : Hid (wr.ownsRow w.heap.size 46 4 u1 (turnsTo ((i + 1) * 125)).length (flatT (turnsTo ((i + 1) * 125)))) := yz (by rw [show (i + 1) * 125 = i * 125 + 5 * 25 by omega]; exact yy HO2)
          go_wp2_with fail
          go_roundw
          case rel => exact ⟨i + 1, by omega, by go_num, HOx, HB2⟩
          case measure => simp [intOf] <;> omega
    · have hi2 : ¬ (i : Int) - 2 ≤ 2 := by omega
      have hi5' : i = 5 := by omega
      subst hi5'
      go_wp2_with fail
      go_ret
      exact ⟨⟨_, rfl, yy HO1⟩, yy HB1⟩
end Go.Proofs.YtofpjlhoppofdaaGreatDoor
