/- A node of the specification's search. -/
import Derived.Test.YtjdehbpgdplolaaDoorIeC
namespace Go.Proofs.YtjdehbpgdplolaaDoor
open Go.RowKit Go.Sort
set_option linter.unusedVariables false

theorem map_at {L : List St} {i : Nat} (hi : i < L.length) : (L.map (·.1)).getD i 0 = (stA L i).1 := by
  unfold stA
  rw [List.getD_eq_getElem?_getD, List.getElem?_map, List.getD_eq_getElem?_getD, List.getElem?_eq_getElem hi]
  rfl
theorem star_small {L : List St} (hk : skyB L = true) {i : Nat} (hi : i < L.length) : smallB (atV L L.length (stA L i).1).1 (atV L L.length (stA L i).1).2.1 (atV L L.length (stA L i).1).2.2 = true ∧ (stA L i).1 ≠ 0 := by
  rw [at_own hk hi]
  have h := (sky_ok hk).2 i hi
  unfold okAt at h
  simp only [Bool.and_eq_true] at h
  refine ⟨?_, fun e => ?_⟩
  · simp_all
  · have : idB (stA L i).1 = true := by simp_all
    rw [e] at this
    exact absurd this (by decide)

set_option maxHeartbeats 8000000 in
set_option maxRecDepth 100000 in
theorem from_node (L : List St) (S : List D3) (ar br : Option Addr) (cr dr x r : Nat) (hk : skyB L = true) (hsp : spotsB S = true) (hdr : S.length ≤ dr) (hd9 : dr ≤ 9223372036854775807) (ih : FromOk L S ar br cr dr x r)
    (ids : List Int) (s : SeN) (ir : Option Addr) (er : Nat) (w : World) (hl : ids.length + (r + 1) = S.length) (hsm : smallI L ids) (hmany : s.many + 13 ^ (r + 1) ≤ 100000000) (hc6 : s.count ≤ 6) (he : ir = none → er = 0) (hI : IdsAt w x ir ids) (hst : SeSt w x L S ar br cr dr s) (hp : ¬ cntN ids + (r + 1) < s.count) :
    Calls Tryd.prog 38 #[.pointer (some ⟨x, 0, none⟩), .slice ir ids.length er, .int .i64 (cntN ids : Int)] w fun e w' => (∃ v, e = .returned v) ∧ SeSt w' x L S ar br cr dr (fromN (fitF L S) (L.map (·.1)) (r + 1) ids s) ∧ w.grownBy w' (some x) := by
  have hn12 : L.length ≤ 12 := (sky_ok hk).1
  have hm6 : S.length ≤ 6 := (spots_ok hsp).1
  have hAl : (L.map (·.1)).length = L.length := List.length_map _
  have HF := hide (fromN_node (F := fitF L S) (A := L.map (·.1)) hp)
  have HIH := hide ih
  have HE := hide he
  have HSM := hide hsm
  have HS := hide hst
  have HI0 := hide hI
  have cF : Hid (∀ (id : Int) (W : World), smallB (atV L L.length id).1 (atV L L.length id).2.1 (atV L L.length id).2.2 = true → Stars W ar L L.length → Dirs W br S S.length → Nums W ir ids ids.length → Calls Tryd.prog 48 #[.slice ar L.length cr, .slice br (ids.length + 1) dr, .slice ir ids.length er, .int .i64 id] W fun e w' => e = .returned (.bool (fitF L S ids id)) ∧ Below W.heap.size W w') :=
    hide (fun id W h1 h2 h3 h4 => l06Fits_any L S ids ids.length id ar br ir cr dr er W (by omega) hn12 h2 (h3.less (by omega)) h4 (fun i hi => okV_wide ((spots_ok hsp).2 i (by omega))) h1 (fun i hi h0 => hsm i hi h0))
  have HMB : Hid (∀ i, i ≤ L.length → (loopN (fitF L S) (L.map (·.1)) r ids s i).many + 13 ^ r ≤ 100000000) := hide (fun i hi => by
    have h1 := loopN_many (fitF L S) (L.map (·.1)) (by omega) r ids s i (by omega)
    have h2 : i * 13 ^ r ≤ 12 * 13 ^ r := Nat.mul_le_mul_right _ (by omega)
    rw [Nat.pow_succ] at hmany
    omega)
  have HCB : Hid (∀ i, i ≤ L.length → (loopN (fitF L S) (L.map (·.1)) r ids s i).count ≤ 6) := hide (fun i hi => loop_count (fitF L S) (L.map (·.1)) r ids s hc6 (by omega) i (by omega))
  have hc := cntN_le ids
  have hkm : ids.length + 1 ≤ S.length := by omega
  have hk6 : ids.length ≤ 6 := by omega
  have hq : ¬ (cntN ids + S.length - ids.length < s.count) := by omega
  obtain ⟨⟨v, h1, h2⟩, hf, hs, hd, a1, a2⟩ := hst
  obtain ⟨c0, c1, c2, c3, c4⟩ := h1
  have r1 := cell_regrown c1
  have r3 := cell_regrown c3
  clear h2 hf hs hd a1 a2 c0 c1 c2 c3 c4 hI ih he hsm hmany hp
  have hq' : ¬ (cntN ids : Int) + (S.length : Int) - (ids.length : Int) < (s.count : Int) := by omega
  have hne : ¬ (ids.length : Int) = (S.length : Int) := by omega
  have e31 : ((ids.length : Int) == (S.length : Int)) = false := by rw [beq_eq_false_iff_ne]; exact hne
  go_enter Tryd.func38, Tryd.ntmps38
  go_wp2_with fail
  refine wp_region_quiet_below (by kernel_rfl) (by kernel_rfl) ?_
  repeat (go_big_quiet_step (fail))
  refine wpQuiet_nil ?_
  intro _ hw'
  obtain ⟨⟨dq, osq⟩, hw''⟩ := hw'
  subst hw''
  have hx := below_regrown w dq osq
  generalize grow (redrawn w dq) osq = w1 at hx ⊢
  have S1 := hide ((unhide HS).kept hx)
  have I1 := hide ((unhide HI0).grown (grownB1 (x := x) hx))
  have G1 := hide (grownB1 (x := x) hx)
  clear hx r1 r3 HS
  obtain ⟨⟨v, h1, h2⟩, hf, hs, hd, a1, a2⟩ := unhide S1
  obtain ⟨c0, c1, c2, c3, c4⟩ := h1
  clear h2 hf hs hd a1 a2
  go_wp2_with fail
  go_loopw [7] (fun i wr => ∃ k : Nat, k ≤ L.length ∧ i = .int .i64 k ∧ Hid (SeSt wr x L S ar br cr dr (loopN (fitF L S) (L.map (·.1)) r ids s k)) ∧ Hid (w.grownBy wr (some x))) (fun i _ => L.length - (intOf i).toNat)
  case atStart => exact ⟨0, Nat.zero_le _, rfl, hide (by rw [loopN_zero]; exact unhide S1), G1⟩
  case round =>
    clear c0 c1 c2 c3 c4 S1 G1 I1
    obtain ⟨k, hkl, rfl, HSt, HG⟩ := hrel
    have HI := hide ((unhide HI0).grown (unhide HG))
    obtain ⟨⟨v, h1, h2⟩, hf, hs, hd, a1, a2⟩ := unhide HSt
    obtain ⟨c0, c1, c2, c3, c4⟩ := h1
    by_cases hkn : k < L.length
    · obtain ⟨⟨s1, s2, s3, s4⟩, hst⟩ : ∃ q, stA L k = q := ⟨_, rfl⟩
      have hsm1 := star_small hk hkn
      have HMA : Hid ((L.map (·.1)).getD k 0 = s1) := hide (by rw [map_at hkn, hst])
      rw [hst] at hsm1
      have HST := hide hst
      have hkn2 : (k : Int) < (L.length : Int) := by omega
      rcases hs with hs | ⟨b, o, rfl, hb, hcs⟩
      · omega
      have d0 := (hcs k hkn).1
      rw [hst] at d0
      have HS2 : Hid (Stars wr (some ⟨b, o, none⟩) L L.length) := hide (.inr ⟨b, o, rfl, hb, hcs⟩)
      have HD2 := hide hd
      have cFi := hide (fun (W : World) (hB : Below wr.heap.size wr W) => unhide cF s1 W hsm1.1 ((unhide HS2).kept hB) ((unhide HD2).kept hB) ((unhide HI).nums.kept hB))
      have HS1 := hide hsm1
      clear hcs hst h2 hf hd a1 a2 hsm1
      go_wp2_with fail
      have q0 := cell_regrown c0
      have q1 := cell_regrown c1
      have hkd : (ids.length : Int) + 1 ≤ (dr : Int) := by omega
      cases hfit : fitF L S ids s1
      · rw [hfit] at cFi
        refine wp_region_quiet_below (by kernel_rfl) (by kernel_rfl) ?_
        repeat (go_big_quiet_step (first | (with_reducible exact Calls.regrown_of (unhide cFi _ (below_regrown _ _ _)))))
        refine wpQuiet_nil ?_
        intro _ hw'
        obtain ⟨⟨dq2, osq2⟩, hw''⟩ := hw'
        subst hw''
        have hx := below_regrown wr dq2 osq2
        generalize grow (redrawn wr dq2) osq2 = W2 at hx ⊢
        have HR : Hid (loopN (fitF L S) (L.map (·.1)) r ids s (k + 1) = loopN (fitF L S) (L.map (·.1)) r ids s k) := hide (by rw [loopN_succ _ _ _ _ _ (by omega), unhide HMA, hfit]; rfl)
        have S5 : Hid (SeSt W2 x L S (some ⟨b, o, none⟩) br cr dr (loopN (fitF L S) (L.map (·.1)) r ids s (k + 1))) := hide (by rw [unhide HR]; exact (unhide HSt).kept hx)
        have G5 := hide (gxTrans (unhide HG) (grownB1 (x := x) hx))
        clear hx c0 c1 c2 c3 c4 d0 q0 q1 HSt HG HI cFi
        go_wp2_with fail
        go_roundw
        case rel => first | exact ⟨k + 1, by omega, by go_num, S5, G5⟩ | exact ⟨k + 1, by omega, by go_num, S5⟩
        case measure => simp [intOf]; omega
      · rw [hfit] at cFi
        refine wp_region_quiet_below (by kernel_rfl) (by kernel_rfl) ?_
        repeat (go_big_quiet_step (first | (with_reducible exact Calls.regrown_of (unhide cFi _ (below_regrown _ _ _)))))
        refine wpQuiet_nil ?_
        intro _ hw'
        obtain ⟨⟨dq2, osq2⟩, hw''⟩ := hw'
        subst hw''
        have hx := below_regrown wr dq2 osq2
        generalize grow (redrawn wr dq2) osq2 = W2 at hx ⊢
        have HR : Hid (loopN (fitF L S) (L.map (·.1)) r ids s (k + 1) = fromN (fitF L S) (L.map (·.1)) r (ids ++ [s1]) (loopN (fitF L S) (L.map (·.1)) r ids s k)) := hide (by rw [loopN_succ _ _ _ _ _ (by omega), unhide HMA, hfit]; rfl)
        replace HSt := hide ((unhide HSt).kept hx)
        replace HG := hide (gxTrans (unhide HG) (grownB1 (x := x) hx))
        replace HI := hide ((unhide HI).grown (grownB1 (x := x) hx))
        clear hx c0 c1 c2 c3 c4 d0 q0 q1 cFi HS2 HD2
        have hlx : x < W2.heap.size := by obtain ⟨⟨_, hh, _⟩, _⟩ := unhide HSt; exact hh.lt
        have HN := hide (ownI_none W2 W2.heap.size (Nat.le_refl _))
        have IA := hide ((unhide HI).grown (grownB1 (x := x) (below1 W2 (.cells #[] 2))))
        go_wp2_with (at_builtin; refine wpList_copyIds _ rfl _ _ rfl W2.heap.size W2.heap.size rfl (unhide HN) x ir er ids rfl (unhide HE) (unhide IA) hk6 ?d1 ?_)
        try case d1 => simp
        intro v1 V1 ho1 hg1
        obtain ⟨av, cv, rfl⟩ := own_form ho1
        have HB1 : Hid (Below W2.heap.size W2 V1) := hide ((below1 W2 (.cells #[] 2)).trans ⟨hg1.os, hg1.tape, hg1.output, hg1.size, fun k hk' => hg1.block k (by simp; omega) (fun e => by have := Option.some.inj e; omega)⟩)
        have O4 := hide (ownK ho1 (below1 V1 (.cells #[.int .i64 s1] 2)))
        have HC1 : Hid ((V1.alloc (.cells #[.int .i64 s1] 2)).cell? ⟨V1.heap.size, 0, none⟩ = some (.int .i64 s1)) := hide (by simp)
        clear ho1 hg1 IA HN
        go_wp2_with (at_builtin; refine wpList_oneMore _ rfl _ _ rfl W2.heap.size (.slice av ids.length cv) ids rfl (unhide O4) V1.heap.size s1 rfl (unhide HC1) hk6 ?d2 ?_)
        try case d2 => have := (unhide HB1).size; simp; omega
        intro v2 V2 ho2 hg2
        obtain ⟨aw, cw, rfl⟩ := own_form ho2
        have hrow : ∀ g, Value.ownBlock (.slice av ids.length cv) = some g → W2.heap.size ≤ g := fun g e => own_ge (unhide O4) g e
        have hB2 : Below W2.heap.size W2 V2 := (below_call (unhide HB1) (below1 V1 (.cells #[.int .i64 s1] 2))).trans ⟨hg2.os, hg2.tape, hg2.output, by have := (unhide HB1).size; have := hg2.size; simp at this ⊢; omega, fun k hk' => hg2.block k (by have := (unhide HB1).size; simp; omega) (fun e => by have := hrow k e.symm; omega)⟩
        have S5 := hide ((unhide HSt).kept hB2)
        have G5 := hide (gxTrans (unhide HG) (grownB1 (x := x) hB2))
        have I5 := hide (ids_own (ids := ids ++ [s1]) (by rw [List.length_append, List.length_singleton]; exact ho2) hlx)
        have E5 := hide (own_cap0 ho2)
        have M5 := hide (small_snoc (unhide HSM) (fun _ => (unhide HS1).1))
        have C5 : Hid ((cntN (ids ++ [s1]) : Int) = (cntN ids : Int) + 1) := hide (by rw [cntN_snoc]; rw [if_pos (unhide HS1).2]; omega)
        clear ho2 hg2 hrow hB2 HB1 O4 HC1 HSt HI HG hlx
        have cI := hide (fun (h1 : _) (h2 : _) => unhide HIH (ids ++ [s1]) (loopN (fitF L S) (L.map (·.1)) r ids s k) aw cw V2 (by rw [List.length_append, List.length_singleton]; omega) (unhide M5) h1 h2 (unhide E5) (unhide I5) (unhide S5))
        rw [unhide C5, List.length_append, List.length_singleton] at cI
        go_wp2_with fail
        refine (unhide cI (unhide HMB k (by omega)) (unhide HCB k (by omega))).mono ?_
        rintro e W6 ⟨⟨ve, rfl⟩, hS6, hG6⟩
        have S6 : Hid (SeSt W6 x L S (some ⟨b, o, none⟩) br cr dr (loopN (fitF L S) (L.map (·.1)) r ids s (k + 1))) := hide (by rw [unhide HR]; exact hS6)
        have G6 := hide (gxTrans (unhide G5) hG6)
        clear hS6 hG6 S5 G5 I5 E5 M5 C5 cI
        go_wp2_with fail
        go_roundw
        case rel => first | exact ⟨k + 1, by omega, by go_num, S6, G6⟩ | exact ⟨k + 1, by omega, by go_num, S6⟩ | exact ⟨.int .i64 ((k : Int) + 1), _, _, _, _, _, _, _, _, _, _, _, _, _, _, _, _, _, _, _, _, _, _, _, _, _, _, _, _, _, _, _, _, _, _, _, _, _, _, _, _, _, _, ⟨k + 1, by omega, by go_num, S6, G6⟩, rfl⟩
        case measure => simp [intOf]; omega
    · obtain rfl : k = L.length := by omega
      clear h2 hf hs hd a1 a2
      have hlx : x < wr.heap.size := by obtain ⟨⟨_, hh, _⟩, _⟩ := unhide HSt; exact hh.lt
      have HN := hide (ownI_none wr wr.heap.size (Nat.le_refl _))
      have IA := hide ((unhide HI).grown (grownB1 (x := x) (below1 wr (.cells #[] 2))))
      go_wp2_with (at_builtin; (refine wpList_copyIds _ rfl _ _ rfl wr.heap.size wr.heap.size rfl (unhide HN) x ir er ids rfl (unhide HE) (unhide IA) hk6 ?d3 ?_))
      try case d3 => simp
      intro v1 V1 ho1 hg1
      obtain ⟨av, cv, rfl⟩ := own_form ho1
      have HB1 : Hid (Below wr.heap.size wr V1) := hide ((below1 wr (.cells #[] 2)).trans ⟨hg1.os, hg1.tape, hg1.output, hg1.size, fun k hk' => hg1.block k (by simp; omega) (fun e => by have := Option.some.inj e; omega)⟩)
      have O4 := hide (ownK ho1 (below1 V1 (.cells #[.int .i64 0] 2)))
      have HC1 : Hid ((V1.alloc (.cells #[.int .i64 0] 2)).cell? ⟨V1.heap.size, 0, none⟩ = some (.int .i64 0)) := hide (by simp)
      clear ho1 hg1 IA HN
      go_wp2_with (at_builtin; refine wpList_oneMore _ rfl _ _ rfl wr.heap.size (.slice av ids.length cv) ids rfl (unhide O4) V1.heap.size 0 rfl (unhide HC1) hk6 ?d4 ?_)
      try case d4 => have := (unhide HB1).size; simp; omega
      intro v2 V2 ho2 hg2
      obtain ⟨aw, cw, rfl⟩ := own_form ho2
      have hrow : ∀ g, Value.ownBlock (.slice av ids.length cv) = some g → wr.heap.size ≤ g := fun g e => own_ge (unhide O4) g e
      have hB2 : Below wr.heap.size wr V2 := (below_call (unhide HB1) (below1 V1 (.cells #[.int .i64 0] 2))).trans ⟨hg2.os, hg2.tape, hg2.output, by have := (unhide HB1).size; have := hg2.size; simp at this ⊢; omega, fun k hk' => hg2.block k (by have := (unhide HB1).size; simp; omega) (fun e => by have := hrow k e.symm; omega)⟩
      have S5 := hide ((unhide HSt).kept hB2)
      have G5 := hide (gxTrans (unhide HG) (grownB1 (x := x) hB2))
      have I5 := hide (ids_own (ids := ids ++ [0]) (by rw [List.length_append, List.length_singleton]; exact ho2) hlx)
      have E5 := hide (own_cap0 ho2)
      have M5 := hide (small_snoc (unhide HSM) (fun h => absurd rfl h))
      have C5 : Hid ((cntN (ids ++ [0]) : Int) = (cntN ids : Int)) := hide (by rw [cntN_snoc]; simp)
      clear ho2 hg2 hrow hB2 HB1 O4 HC1 HSt HI HG hlx
      have cI := hide (fun (h1 : _) (h2 : _) => unhide HIH (ids ++ [0]) (loopN (fitF L S) (L.map (·.1)) r ids s L.length) aw cw V2 (by rw [List.length_append, List.length_singleton]; omega) (unhide M5) h1 h2 (unhide E5) (unhide I5) (unhide S5))
      rw [unhide C5, List.length_append, List.length_singleton] at cI
      go_wp2_with fail
      refine (unhide cI (unhide HMB _ (Nat.le_refl _)) (unhide HCB _ (Nat.le_refl _))).mono ?_
      rintro e W6 ⟨⟨ve, rfl⟩, hS6, hG6⟩
      have S6 := hide hS6
      have G6 := hide (gxTrans (unhide G5) hG6)
      clear hS6 hG6 S5 G5 I5 E5 M5 C5 cI
      go_wp2_with fail
      go_end0
      refine ⟨⟨_, rfl⟩, ?_, unhide G6⟩
      rw [unhide HF, hAl]
      exact unhide S6
end Go.Proofs.YtjdehbpgdplolaaDoor
