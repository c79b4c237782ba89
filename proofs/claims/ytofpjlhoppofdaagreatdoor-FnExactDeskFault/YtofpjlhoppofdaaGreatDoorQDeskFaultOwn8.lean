/- Several texts in one: IeD, IeE, IeF, IeG, IeH, IeI, IeJ, IeK, IeL, IeN, IeO, IeQ, IeR, IeS, IeT, IeU, IeV, TsD, TfM. -/
import Derived.Deep.RegionHeld
import Derived.Deep.DeepCutAuto
import Derived.Maps.OwnSet
import Derived.Maps.Views
import Derived.RangeFuncNested
import Derived.RangeFuncBound
import Derived.RangeFuncCalls
import Derived.RangeFuncLeaves
import Derived.Shelf.Abstract
import Derived.Shelf.RegionOpen
import Derived.WalkKit
import Derived.OwnWalkIn
import Derived.TacticsInMore
import Derived.LoopNIn
import Derived.LoopIn
import Derived.Maps.OwnIn
import Derived.BigRegionIn
import Derived.Test.YtofpjlhoppofdaaGreatDoorQDeskFaultOwn7
import Derived.Test.YtofpjlhoppofdaaGreatDoorQDeskFaultOwn5
import Derived.Test.YtofpjlhoppofdaaGreatDoorQDeskFaultOwn6
namespace Go.Proofs.YtofpjlhoppofdaaGreatDoor
open Go.RowKit Go.Sort
set_option linter.unusedVariables false
theorem map_at {L : List St} {i : Nat} (hi : i < L.length) : (L.map (·.1)).getD i 0 = (stA L i).1 := by
  unfold stA
  rw [List.getD_eq_getElem?_getD, List.getElem?_map, List.getD_eq_getElem?_getD, List.getElem?_eq_getElem hi]
  rfl
theorem star_small {L : List St} (hk : skyB L = true) {i : Nat} (hi : i < L.length) : smallB (atV L L.length (stA L i).1).1 (atV L L.length (stA L i).1).2.1 (atV L L.length (stA L i).1).2.2 = true ∧ (stA L i).1 ≠ 0 := by
  rw [at_own hk hi]
  have h := (sky_ok hk).2 i hi
  unfold okAt at h
  simp only [Bool.and_eq_true] at h
  refine ⟨?_, fun e => ?_⟩
  · simp_all
  · have : idB (stA L i).1 = true := by simp_all
    rw [e] at this
    exact absurd this (by decide)
set_option maxHeartbeats 8000000 in
set_option maxRecDepth 100000 in
theorem from_node (L : List St) (S : List D3) (ar br : Option Addr) (cr dr x r : Nat) (hk : skyB L = true) (hsp : spotsB S = true) (hdr : S.length ≤ dr) (hd9 : dr ≤ 9223372036854775807) (ih : FromOk L S ar br cr dr x r)
    (ids : List Int) (s : SeN) (ir : Option Addr) (er : Nat) (w : World) (hl : ids.length + (r + 1) = S.length) (hsm : smallI L ids) (hmany : s.many + 13 ^ (r + 1) ≤ 100000000) (hc6 : s.count ≤ 6) (he : ir = none → er = 0) (hI : IdsAt w x ir ids) (hst : SeSt w x L S ar br cr dr s) (hp : ¬ cntN ids + (r + 1) < s.count) :
    Calls Tryz.prog 115 #[.pointer (some ⟨x, 0, none⟩), .slice ir ids.length er, .int .i64 (cntN ids : Int)] w fun e w' => (∃ v, e = .returned v) ∧ SeSt w' x L S ar br cr dr (fromN (fitF L S) (L.map (·.1)) (r + 1) ids s) ∧ w.grownBy w' (some x) := by
  have hn12 : L.length ≤ 12 := (sky_ok hk).1
  have hm6 : S.length ≤ 6 := (spots_ok hsp).1
  have hAl : (L.map (·.1)).length = L.length := List.length_map _
  have HF := yz (fromN_node (F := fitF L S) (A := L.map (·.1)) hp)
  have HIH := yz ih
  have HE := yz he
  have HSM := yz hsm
  have HS := yz hst
  have HI0 := yz hI
  have cF : Hid (∀ (id : Int) (W : World), smallB (atV L L.length id).1 (atV L L.length id).2.1 (atV L L.length id).2.2 = true → Stars W ar L L.length → Dirs W br S S.length → Nums W ir ids ids.length → Calls Tryz.prog 146 #[.slice ar L.length cr, .slice br (ids.length + 1) dr, .slice ir ids.length er, .int .i64 id] W fun e w' => e = .returned (.bool (fitF L S ids id)) ∧ Below W.heap.size W w') :=
    yz (fun id W h1 h2 h3 h4 => l06Fits_any L S ids ids.length id ar br ir cr dr er W (by omega) hn12 h2 (h3.less (by omega)) h4 (fun i hi => okV_wide ((spots_ok hsp).2 i (by omega))) h1 (fun i hi h0 => hsm i hi h0))
  have HMB : Hid (∀ i, i ≤ L.length → (loopN (fitF L S) (L.map (·.1)) r ids s i).many + 13 ^ r ≤ 100000000) := yz (fun i hi => by
    have h1 := loopN_many (fitF L S) (L.map (·.1)) (by omega) r ids s i (by omega)
    have h2 : i * 13 ^ r ≤ 12 * 13 ^ r := Nat.mul_le_mul_right _ (by omega)
    rw [Nat.pow_succ] at hmany
    omega)
  have HCB : Hid (∀ i, i ≤ L.length → (loopN (fitF L S) (L.map (·.1)) r ids s i).count ≤ 6) := yz (fun i hi => loop_count (fitF L S) (L.map (·.1)) r ids s hc6 (by omega) i (by omega))
  have hc := cntN_le ids
  have hkm : ids.length + 1 ≤ S.length := by omega
  have hk6 : ids.length ≤ 6 := by omega
  have hq : ¬ (cntN ids + S.length - ids.length < s.count) := by omega
  obtain ⟨⟨v, h1, h2⟩, hf, hs, hd, a1, a2⟩ := hst
  obtain ⟨c0, c1, c2, c3, c4⟩ := h1
  have r1 := cell_regrown c1
  have r3 := cell_regrown c3
  clear h2 hf hs hd a1 a2 c0 c1 c2 c3 c4 hI ih he hsm hmany hp
  have hq' : ¬ (cntN ids : Int) + (S.length : Int) - (ids.length : Int) < (s.count : Int) := by omega
  have hne : ¬ (ids.length : Int) = (S.length : Int) := by omega
  have e31 : ((ids.length : Int) == (S.length : Int)) = false := by rw [beq_eq_false_iff_ne]; exact hne
  go_enter Tryz.func115, Tryz.ntmps115
  go_wp2_with fail
  refine wp_region_quiet_below (by kernel_rfl) (by kernel_rfl) ?_
  repeat (go_big_quiet_step (fail))
  refine wpQuiet_nil ?_
  intro _ hw'
  obtain ⟨⟨dq, osq⟩, hw''⟩ := hw'
  subst hw''
  have hx := below_regrown w dq osq
  generalize grow (redrawn w dq) osq = w1 at hx ⊢
  have S1 := yz ((yy HS).kept hx)
  have I1 := yz ((yy HI0).grown (grownB1 (x := x) hx))
  have G1 := yz (grownB1 (x := x) hx)
  clear hx r1 r3 HS
  obtain ⟨⟨v, h1, h2⟩, hf, hs, hd, a1, a2⟩ := yy S1
  obtain ⟨c0, c1, c2, c3, c4⟩ := h1
  clear h2 hf hs hd a1 a2
  go_wp2_with fail
  go_loopw [7] (fun i wr => ∃ k : Nat, k ≤ L.length ∧ i = .int .i64 k ∧ Hid (SeSt wr x L S ar br cr dr (loopN (fitF L S) (L.map (·.1)) r ids s k)) ∧ Hid (w.grownBy wr (some x))) (fun i _ => L.length - (intOf i).toNat)
  case atStart => exact ⟨0, Nat.zero_le _, rfl, yz (by rw [loopN_zero]; exact yy S1), G1⟩
  case round =>
    clear c0 c1 c2 c3 c4 S1 G1 I1
    obtain ⟨k, hkl, rfl, HSt, HG⟩ := hrel
    have HI := yz ((yy HI0).grown (yy HG))
    obtain ⟨⟨v, h1, h2⟩, hf, hs, hd, a1, a2⟩ := yy HSt
    obtain ⟨c0, c1, c2, c3, c4⟩ := h1
    by_cases hkn : k < L.length
    · obtain ⟨⟨s1, s2, s3, s4⟩, hst⟩ : ∃ q, stA L k = q := ⟨_, rfl⟩
      have hsm1 := star_small hk hkn
      have HMA : Hid ((L.map (·.1)).getD k 0 = s1) := yz (by rw [map_at hkn, hst])
      rw [hst] at hsm1
      have HST := yz hst
      have hkn2 : (k : Int) < (L.length : Int) := by omega
      rcases hs with hs | ⟨b, o, rfl, hb, hcs⟩
      · omega
      have d0 := (hcs k hkn).1
      rw [hst] at d0
      have HS2 : Hid (Stars wr (some ⟨b, o, none⟩) L L.length) := yz (.inr ⟨b, o, rfl, hb, hcs⟩)
      have HD2 := yz hd
      have cFi := yz (fun (W : World) (hB : Below wr.heap.size wr W) => yy cF s1 W hsm1.1 ((yy HS2).kept hB) ((yy HD2).kept hB) ((yy HI).nums.kept hB))
      have HS1 := yz hsm1
      clear hcs hst h2 hf hd a1 a2 hsm1
      go_wp2_with fail
      have q0 := cell_regrown c0
      have q1 := cell_regrown c1
      have hkd : (ids.length : Int) + 1 ≤ (dr : Int) := by omega
      cases hfit : fitF L S ids s1
      · rw [hfit] at cFi
        refine wp_region_quiet_below (by kernel_rfl) (by kernel_rfl) ?_
        repeat (go_big_quiet_step (first | (with_reducible exact Calls.regrown_of (yy cFi _ (below_regrown _ _ _)))))
        refine wpQuiet_nil ?_
        intro _ hw'
        obtain ⟨⟨dq2, osq2⟩, hw''⟩ := hw'
        subst hw''
        have hx := below_regrown wr dq2 osq2
        generalize grow (redrawn wr dq2) osq2 = W2 at hx ⊢
        have HR : Hid (loopN (fitF L S) (L.map (·.1)) r ids s (k + 1) = loopN (fitF L S) (L.map (·.1)) r ids s k) := yz (by rw [loopN_succ _ _ _ _ _ (by omega), yy HMA, hfit]; rfl)
        have S5 : Hid (SeSt W2 x L S (some ⟨b, o, none⟩) br cr dr (loopN (fitF L S) (L.map (·.1)) r ids s (k + 1))) := yz (by rw [yy HR]; exact (yy HSt).kept hx)
        have G5 := yz (gxTrans (yy HG) (grownB1 (x := x) hx))
        clear hx c0 c1 c2 c3 c4 d0 q0 q1 HSt HG HI cFi
        go_wp2_with fail
        go_roundw
        case rel => first | exact ⟨k + 1, by omega, by go_num, S5, G5⟩ | exact ⟨k + 1, by omega, by go_num, S5⟩
        case measure => simp [intOf]; omega
      · rw [hfit] at cFi
        refine wp_region_quiet_below (by kernel_rfl) (by kernel_rfl) ?_
        repeat (go_big_quiet_step (first | (with_reducible exact Calls.regrown_of (yy cFi _ (below_regrown _ _ _)))))
        refine wpQuiet_nil ?_
        intro _ hw'
        obtain ⟨⟨dq2, osq2⟩, hw''⟩ := hw'
        subst hw''
        have hx := below_regrown wr dq2 osq2
        generalize grow (redrawn wr dq2) osq2 = W2 at hx ⊢
        have HR : Hid (loopN (fitF L S) (L.map (·.1)) r ids s (k + 1) = fromN (fitF L S) (L.map (·.1)) r (ids ++ [s1]) (loopN (fitF L S) (L.map (·.1)) r ids s k)) := yz (by rw [loopN_succ _ _ _ _ _ (by omega), yy HMA, hfit]; rfl)
        replace HSt := yz ((yy HSt).kept hx)
        replace HG := yz (gxTrans (yy HG) (grownB1 (x := x) hx))
        replace HI := yz ((yy HI).grown (grownB1 (x := x) hx))
        clear hx c0 c1 c2 c3 c4 d0 q0 q1 cFi HS2 HD2
        have hlx : x < W2.heap.size := by obtain ⟨⟨_, hh, _⟩, _⟩ := yy HSt; exact hh.lt
        have HN := yz (ownI_none W2 W2.heap.size (Nat.le_refl _))
        have IA := yz ((yy HI).grown (grownB1 (x := x) (below1 W2 (.cells #[] 2))))
        go_wp2_with (at_builtin; refine wpList_copyIds _ rfl _ _ rfl W2.heap.size W2.heap.size rfl (yy HN) x ir er ids rfl (yy HE) (yy IA) hk6 ?d1 ?_)
        try case d1 => simp
        intro v1 V1 ho1 hg1
        obtain ⟨av, cv, rfl⟩ := own_form ho1
        have HB1 : Hid (Below W2.heap.size W2 V1) := yz ((below1 W2 (.cells #[] 2)).trans ⟨hg1.os, hg1.tape, hg1.output, hg1.size, fun k hk' => hg1.block k (by simp; omega) (fun e => by have := Option.some.inj e; omega)⟩)
        have O4 := yz (ownK ho1 (below1 V1 (.cells #[.int .i64 s1] 2)))
        have HC1 : Hid ((V1.alloc (.cells #[.int .i64 s1] 2)).cell? ⟨V1.heap.size, 0, none⟩ = some (.int .i64 s1)) := yz (by simp)
        clear ho1 hg1 IA HN
        go_wp2_with (at_builtin; refine wpList_oneMore _ rfl _ _ rfl W2.heap.size (.slice av ids.length cv) ids rfl (yy O4) V1.heap.size s1 rfl (yy HC1) hk6 ?d2 ?_)
        try case d2 => have := (yy HB1).size; simp; omega
        intro v2 V2 ho2 hg2
        obtain ⟨aw, cw, rfl⟩ := own_form ho2
        have hrow : ∀ g, Value.ownBlock (.slice av ids.length cv) = some g → W2.heap.size ≤ g := fun g e => own_ge (yy O4) g e
        have hB2 : Below W2.heap.size W2 V2 := (below_call (yy HB1) (below1 V1 (.cells #[.int .i64 s1] 2))).trans ⟨hg2.os, hg2.tape, hg2.output, by have := (yy HB1).size; have := hg2.size; simp at this ⊢; omega, fun k hk' => hg2.block k (by have := (yy HB1).size; simp; omega) (fun e => by have := hrow k e.symm; omega)⟩
        have S5 := yz ((yy HSt).kept hB2)
        have G5 := yz (gxTrans (yy HG) (grownB1 (x := x) hB2))
        have I5 := yz (ids_own (ids := ids ++ [s1]) (by rw [List.length_append, List.length_singleton]; exact ho2) hlx)
        have E5 := yz (own_cap0 ho2)
        have M5 := yz (small_snoc (yy HSM) (fun _ => (yy HS1).1))
        have C5 : Hid ((cntN (ids ++ [s1]) : Int) = (cntN ids : Int) + 1) := yz (by rw [cntN_snoc]; rw [if_pos (yy HS1).2]; omega)
        clear ho2 hg2 hrow hB2 HB1 O4 HC1 HSt HI HG hlx
        have cI := yz (fun (h1 : _) (h2 : _) => yy HIH (ids ++ [s1]) (loopN (fitF L S) (L.map (·.1)) r ids s k) aw cw V2 (by rw [List.length_append, List.length_singleton]; omega) (yy M5) h1 h2 (yy E5) (yy I5) (yy S5))
        rw [yy C5, List.length_append, List.length_singleton] at cI
        go_wp2_with fail
        refine (yy cI (yy HMB k (by omega)) (yy HCB k (by omega))).mono ?_
        rintro e W6 ⟨⟨ve, rfl⟩, hS6, hG6⟩
        have S6 : Hid (SeSt W6 x L S (some ⟨b, o, none⟩) br cr dr (loopN (fitF L S) (L.map (·.1)) r ids s (k + 1))) := yz (by rw [yy HR]; exact hS6)
        have G6 := yz (gxTrans (yy G5) hG6)
        clear hS6 hG6 S5 G5 I5 E5 M5 C5 cI
        go_wp2_with fail
        go_roundw
        case rel => first | exact ⟨k + 1, by omega, by go_num, S6, G6⟩ | exact ⟨k + 1, by omega, by go_num, S6⟩ | exact ⟨.int .i64 ((k : Int) + 1), _, _, _, _, _, _, _, _, _, _, _, _, _, _, _, _, _, _, _, _, _, _, _, _, _, _, _, _, _, _, _, _, _, _, _, _, _, _, _, _, _, _, ⟨k + 1, by omega, by go_num, S6, G6⟩, rfl⟩
        case measure => simp [intOf]; omega
    · obtain rfl : k = L.length := by omega
      clear h2 hf hs hd a1 a2
      have hlx : x < wr.heap.size := by obtain ⟨⟨_, hh, _⟩, _⟩ := yy HSt; exact hh.lt
      have HN := yz (ownI_none wr wr.heap.size (Nat.le_refl _))
      have IA := yz ((yy HI).grown (grownB1 (x := x) (below1 wr (.cells #[] 2))))
      go_wp2_with (at_builtin; (refine wpList_copyIds _ rfl _ _ rfl wr.heap.size wr.heap.size rfl (yy HN) x ir er ids rfl (yy HE) (yy IA) hk6 ?d3 ?_))
      try case d3 => simp
      intro v1 V1 ho1 hg1
      obtain ⟨av, cv, rfl⟩ := own_form ho1
      have HB1 : Hid (Below wr.heap.size wr V1) := yz ((below1 wr (.cells #[] 2)).trans ⟨hg1.os, hg1.tape, hg1.output, hg1.size, fun k hk' => hg1.block k (by simp; omega) (fun e => by have := Option.some.inj e; omega)⟩)
      have O4 := yz (ownK ho1 (below1 V1 (.cells #[.int .i64 0] 2)))
      have HC1 : Hid ((V1.alloc (.cells #[.int .i64 0] 2)).cell? ⟨V1.heap.size, 0, none⟩ = some (.int .i64 0)) := yz (by simp)
      clear ho1 hg1 IA HN
      go_wp2_with (at_builtin; refine wpList_oneMore _ rfl _ _ rfl wr.heap.size (.slice av ids.length cv) ids rfl (yy O4) V1.heap.size 0 rfl (yy HC1) hk6 ?d4 ?_)
      try case d4 => have := (yy HB1).size; simp; omega
      intro v2 V2 ho2 hg2
      obtain ⟨aw, cw, rfl⟩ := own_form ho2
      have hrow : ∀ g, Value.ownBlock (.slice av ids.length cv) = some g → wr.heap.size ≤ g := fun g e => own_ge (yy O4) g e
      have hB2 : Below wr.heap.size wr V2 := (below_call (yy HB1) (below1 V1 (.cells #[.int .i64 0] 2))).trans ⟨hg2.os, hg2.tape, hg2.output, by have := (yy HB1).size; have := hg2.size; simp at this ⊢; omega, fun k hk' => hg2.block k (by have := (yy HB1).size; simp; omega) (fun e => by have := hrow k e.symm; omega)⟩
      have S5 := yz ((yy HSt).kept hB2)
      have G5 := yz (gxTrans (yy HG) (grownB1 (x := x) hB2))
      have I5 := yz (ids_own (ids := ids ++ [0]) (by rw [List.length_append, List.length_singleton]; exact ho2) hlx)
      have E5 := yz (own_cap0 ho2)
      have M5 := yz (small_snoc (yy HSM) (fun h => absurd rfl h))
      have C5 : Hid ((cntN (ids ++ [0]) : Int) = (cntN ids : Int)) := yz (by rw [cntN_snoc]; simp)
      clear ho2 hg2 hrow hB2 HB1 O4 HC1 HSt HI HG hlx
      have cI := yz (fun (h1 : _) (h2 : _) => yy HIH (ids ++ [0]) (loopN (fitF L S) (L.map (·.1)) r ids s L.length) aw cw V2 (by rw [List.length_append, List.length_singleton]; omega) (yy M5) h1 h2 (yy E5) (yy I5) (yy S5))
      rw [yy C5, List.length_append, List.length_singleton] at cI
      go_wp2_with fail
      refine (yy cI (yy HMB _ (Nat.le_refl _)) (yy HCB _ (Nat.le_refl _))).mono ?_
      rintro e W6 ⟨⟨ve, rfl⟩, hS6, hG6⟩
      have S6 := yz hS6
      have G6 := yz (gxTrans (yy G5) hG6)
      clear hS6 hG6 S5 G5 I5 E5 M5 C5 cI
      go_wp2_with fail
      go_end0
      refine ⟨⟨_, rfl⟩, ?_, yy G6⟩
      rw [yy HF, hAl]
      exact yy S6
end Go.Proofs.YtofpjlhoppofdaaGreatDoor
namespace Go.Proofs.YtofpjlhoppofdaaGreatDoor
open Go.RowKit Go.Sort
set_option linter.unusedVariables false
set_option linter.unusedSimpArgs false
theorem from_all (L : List St) (S : List D3) (ar br : Option Addr) (cr dr x : Nat) (hk : skyB L = true) (hsp : spotsB S = true) (hdr : S.length ≤ dr) (hd9 : dr ≤ 9223372036854775807) : ∀ r, FromOk L S ar br cr dr x r
  | 0 => fun ids s ir er w hl hsm hm hc he hI hst => by
    by_cases hp : cntN ids + 0 < s.count
    · exact from_prune L S ar br cr dr x 0 (spots_ok hsp).1 ids s ir er w hl hc hst hp
    · exact from_leaf L S ar br cr dr x (spots_ok hsp).1 ids s ir er w hl (by simpa using hm) hc he hI hst hp
  | r + 1 => fun ids s ir er w hl hsm hm hc he hI hst => by
    by_cases hp : cntN ids + (r + 1) < s.count
    · exact from_prune L S ar br cr dr x (r + 1) (spots_ok hsp).1 ids s ir er w hl hc hst hp
    · exact from_node L S ar br cr dr x r hk hsp hdr hd9 (from_all L S ar br cr dr x hk hsp hdr hd9 r) ids s ir er w hl hsm hm hc he hI hst hp
def idR (L : List St) (S : List D3) : SeN := fromN (fitF L S) (L.map (·.1)) S.length [] ⟨[], 3, 0⟩
def idIds (L : List St) (S : List D3) : List Int := if (idR L S).many = 1 then (idR L S).best else []
def idCnt (L : List St) (S : List D3) : Int := if (idR L S).many = 1 then ((idR L S).count : Int) else 0
def idCode (L : List St) (S : List D3) : Int := if (idR L S).many = 0 then 6 else if 1 < (idR L S).many then 11 else 0
def OutI (w' : World) (B : Nat) (ids : List Int) (cnt code : Int) (e : Ending) : Prop := ∃ v, e = .returned (.agg #[v, .int .i64 cnt, .int .i64 code]) ∧ w'.ownsRow B 2 1 v ids.length (intL ids)
def IdO (w : World) (b : Nat) (v : Value) (c k : Int) : Prop := w.cell? ⟨b, 0, none⟩ = some v ∧ w.cell? ⟨b, 1, none⟩ = some (.int .i64 c) ∧ w.cell? ⟨b, 2, none⟩ = some (.int .i64 k)
theorem IdO.grown {w w' : World} {b : Nat} {v : Value} {c k : Int} {row : Option Nat} (h : IdO w b v c k) (hg : w.grownBy w' row) (hne : some b ≠ row) : IdO w' b v c k := ⟨cellG5 h.1 hg hne, cellG5 h.2.1 hg hne, cellG5 h.2.2 hg hne⟩
theorem IdO.kept {w w' : World} {b : Nat} {v : Value} {c k : Int} (h : IdO w b v c k) (hB : Below w.heap.size w w') : IdO w' b v c k := ⟨cellK5 h.1 hB, cellK5 h.2.1 hB, cellK5 h.2.2 hB⟩
theorem idO_set {w : World} {b : Nat} {v0 : Value} {c0 k0 : Int} (h : IdO w b v0 c0 k0) (v : Value) (c k : Int) : IdO (((w.setCell ⟨b, 0, none⟩ v).setCell ⟨b, 1, none⟩ (.int .i64 c)).setCell ⟨b, 2, none⟩ (.int .i64 k)) b v c k := by
  obtain ⟨h0, h1, h2⟩ := h
  refine ⟨?_, ?_, ?_⟩ <;> simp [go_sem, h0, h1, h2]
theorem res_l06 (T : Array Value) (X : World) (b : Nat) (v : Value) (c k : Int) (hT : T.getD 4 undef = .pointer (some ⟨b, 0, none⟩)) (h : IdO X b v c k) : (results Tryz.f76 T).run Tryz.prog X = .ok (.agg #[v, .int .i64 c, .int .i64 k]) X := by
  obtain ⟨h0, h1, h2⟩ := h
  simp only [Array.getD_eq_getD_getElem?] at hT
  simp [results, Tryz.results76, go_sem, hT, h0, h1, h2]
theorem ownFarI {w : World} {B b n : Nat} {v : Value} {xs : List Value} (h : w.ownsRow B 2 1 v n xs) (hb : b < B) (o : Nat) (y : Value) : (w.setCell ⟨b, o, none⟩ y).ownsRow B 2 1 v n xs := by
  obtain ⟨h1, h2⟩ := h
  refine ⟨h1, ?_⟩
  rcases h2 with h2 | ⟨g, c', cur, e, hg, hh, r⟩
  · exact .inl h2
  · exact .inr ⟨g, c', cur, e, hg, by rw [Below.heap_setCell w ⟨b, o, none⟩ y g (by show g ≠ b; omega)]; exact hh, r⟩
set_option maxHeartbeats 4000000 in
set_option maxRecDepth 100000 in
theorem l06Identify_any (L : List St) (S : List D3) (ar br : Option Addr) (cr dr : Nat) (w : World) (hk : skyB L = true) (hsp : spotsB S = true) (hdr : S.length ≤ dr) (hd9 : dr ≤ 9223372036854775807) (hS : Stars w ar L L.length) (hD : Dirs w br S S.length) (hA : ∀ y, ar = some y → y.block < w.heap.size) (hB : ∀ y, br = some y → y.block < w.heap.size) :
    Calls Tryz.prog 76 #[.slice ar L.length cr, .slice br S.length dr] w fun e w' => OutI w' w.heap.size (idIds L S) (idCnt L S) (idCode L S) e ∧ Below w.heap.size w w' := by
  have B0 := below2 w (.cells #[.slice none 0 0, .int .i64 0, .int .i64 0] 87) (.cells #[.slice ar L.length cr, .slice br S.length dr, .slice none 0 0, .int .i64 3, .int .i64 0] 162)
  have R0 : IdO ((w.alloc (.cells #[.slice none 0 0, .int .i64 0, .int .i64 0] 87)).alloc (.cells #[.slice ar L.length cr, .slice br S.length dr, .slice none 0 0, .int .i64 3, .int .i64 0] 162)) w.heap.size (.slice none 0 0) 0 0 := IdO.kept (w := w.alloc (.cells #[.slice none 0 0, .int .i64 0, .int .i64 0] 87)) (by refine ⟨?_, ?_, ?_⟩ <;> simp) (below1 _ _)
  have F0 : FreeX ((w.alloc (.cells #[.slice none 0 0, .int .i64 0, .int .i64 0] 87)).alloc (.cells #[.slice ar L.length cr, .slice br S.length dr, .slice none 0 0, .int .i64 3, .int .i64 0] 162)) w.heap.size := FreeX.kept (w := w.alloc (.cells #[.slice none 0 0, .int .i64 0, .int .i64 0] 87)) (fun i => by simp) (by simp) (below1 _ _)
  have St0 : SeSt ((w.alloc (.cells #[.slice none 0 0, .int .i64 0, .int .i64 0] 87)).alloc (.cells #[.slice ar L.length cr, .slice br S.length dr, .slice none 0 0, .int .i64 3, .int .i64 0] 162)) (w.heap.size + 1) L S ar br cr dr ⟨[], 3, 0⟩ := by
    refine ⟨⟨.slice none 0 0, ?_, World.ownsRow_nil _ _ _ _⟩, ?_, hS.kept B0, hD.kept B0, fun y e => by have := hA y e; omega, fun y e => by have := hB y e; omega⟩
    · refine ⟨?_, ?_, ?_, ?_, ?_⟩ <;> simp
    · intro i; simp
  have cM := yz (from_all L S ar br cr dr (w.heap.size + 1) hk hsp hdr hd9 S.length [] ⟨[], 3, 0⟩ none 0 _ (by simp) (fun i hi => absurd hi (by simp)) (by have h6 := (spots_ok hsp).1; have : 13 ^ S.length ≤ 13 ^ 6 := Nat.pow_le_pow_right (by decide) h6; simp only; omega) (by decide) (fun _ => rfl) (.inl ⟨rfl, rfl⟩) St0)
  have HB := yz B0
  have HR := yz R0
  have HF := yz F0
  have hsz : ((w.alloc (.cells #[.slice none 0 0, .int .i64 0, .int .i64 0] 87)).alloc (.cells #[.slice ar L.length cr, .slice br S.length dr, .slice none 0 0, .int .i64 3, .int .i64 0] 162)).heap.size = w.heap.size + 2 := by simp
  clear B0 R0 F0 St0 hS hD hA hB
  go_enter Tryz.func76, Tryz.ntmps76
  go_wp2_with fail
  generalize hW : (w.alloc (.cells #[.slice none 0 0, .int .i64 0, .int .i64 0] 87)).alloc (.cells #[.slice ar L.length cr, .slice br S.length dr, .slice none 0 0, .int .i64 3, .int .i64 0] 162) = W at *
  clear hW
  refine (yy cM).mono ?_
  rintro e w1 ⟨⟨ve, rfl⟩, hS1, hG1⟩
  have HI : Hid (fromN (fitF L S) (L.map (·.1)) S.length [] ⟨[], 3, 0⟩ = idR L S) := yz rfl
  rw [yy HI] at hS1
  have B1 : Hid (Below w.heap.size w w1) := yz ((yy HB).trans ⟨hG1.os, hG1.tape, hG1.output, by have := hG1.size; omega, fun k hk' => hG1.block k (by omega) (fun e => by have := Option.some.inj e; omega)⟩)
  have R1 := yz ((yy HR).grown hG1 (fun e => by have := Option.some.inj e; omega))
  have F1 := yz ((yy HF).grown (by omega) hG1 (fun e => by have := Option.some.inj e; omega))
  obtain ⟨⟨vb, h1, h2⟩, hf, hs, hd, a1, a2⟩ := hS1
  have O1 := yz h2
  obtain ⟨av, cv, rfl⟩ := own_form h2
  have H1 := yz h1
  clear hf hs hd a1 a2 h2 hG1 HB HR HF cM
  have hO1 : (idR L S).many = 0 → Hid (idIds L S = [] ∧ idCnt L S = 0 ∧ idCode L S = 6) := fun h => yz (by unfold idIds idCnt idCode; rw [if_neg (by omega), if_neg (by omega), if_pos h]; exact ⟨rfl, rfl, rfl⟩)
  have hO2 : 1 < (idR L S).many → Hid (idIds L S = [] ∧ idCnt L S = 0 ∧ idCode L S = 11) := fun h => yz (by unfold idIds idCnt idCode; rw [if_neg (by omega), if_neg (by omega), if_neg (by omega), if_pos h]; exact ⟨rfl, rfl, rfl⟩)
  have hO3 : (idR L S).many = 1 → Hid (idIds L S = (idR L S).best ∧ idCnt L S = ((idR L S).count : Int) ∧ idCode L S = 0) := fun h => yz (by unfold idIds idCnt idCode; rw [if_pos h, if_pos h, if_neg (by omega), if_neg (by omega)]; exact ⟨rfl, rfl, rfl⟩)
  generalize idR L S = s at *
  obtain ⟨bst, ct, mn⟩ := s
  dsimp only at h1 O1 hO1 hO2 hO3
  obtain ⟨c0, c1, c2, c3, c4⟩ := h1
  obtain ⟨r0, r1, r2⟩ := yy R1
  have f0 := yy F1 0
  have f1 := yy F1 1
  have f2 := yy F1 2
  by_cases m0 : mn = 0
  · have HO := hO1 m0
    subst m0
    clear hO1 hO2 hO3
    go_wp2_with fail
    clear c0 c1 c2 c3 c4 r0 r1 r2 f0 f1 f2
    refine bodyPost_ret (v := .agg #[.slice none 0 0, .int .i64 0, .int .i64 6]) (res_l06 _ _ w.heap.size _ 0 6 rfl (idO_set (yy R1) _ _ _)) rfl ⟨?_, ((((yy B1).setCell (Nat.le_refl _) _).setCell (Nat.le_refl _) _).setCell (Nat.le_refl _) _)⟩
    rw [(yy HO).1, (yy HO).2.1, (yy HO).2.2]
    exact ⟨_, rfl, World.ownsRow_nil _ _ _ _⟩
  by_cases m1 : 1 < mn
  · have HO := hO2 m1
    have m0' : ¬ (mn : Int) = 0 := by omega
    have m1' : (1 : Int) < (mn : Int) := by omega
    clear hO1 hO2 hO3
    go_wp2_with fail
    clear c0 c1 c2 c3 c4 r0 r1 r2 f0 f1 f2
    refine bodyPost_ret (v := .agg #[.slice none 0 0, .int .i64 0, .int .i64 11]) (res_l06 _ _ w.heap.size _ 0 11 rfl (idO_set (yy R1) _ _ _)) rfl ⟨?_, ((((yy B1).setCell (Nat.le_refl _) _).setCell (Nat.le_refl _) _).setCell (Nat.le_refl _) _)⟩
    rw [(yy HO).1, (yy HO).2.1, (yy HO).2.2]
    exact ⟨_, rfl, World.ownsRow_nil _ _ _ _⟩
  · obtain rfl : mn = 1 := by omega
    have HO := hO3 rfl
    clear hO1 hO2 hO3 m0 m1
    go_wp2_with fail
    refine wp_region_held_drew (S := (fun w' => w'.cell? ⟨w.heap.size + 1, 2, none⟩ = some (.slice av bst.length cv) ∧ w'.cell? ⟨w.heap.size + 1, 3, none⟩ = some (.int .i64 (ct : Int)))) (by kernel_rfl) ?_ (fun hHeld => ?_)
    · exact ⟨c2, c3⟩
    refine wpAnyH_take (i := 0) (v := ?_) rfl (by kernel_rfl) (by kernel_rfl) (by kernel_rfl) (fun _ _ _ h => h) (Or.inl ⟨by rfl, ?_⟩) (by assumption) ?_
    rotate_left
    · intro W0 hSw; (try dsimp only at hSw); go_simp <;> with_reducible rfl
    try simp only [Act.put, List.setIfInBounds_toArray, List.set_cons_zero, List.set_cons_succ]
    refine wpAnyH_take (i := 1) (v := ?_) rfl (by kernel_rfl) (by kernel_rfl) (by kernel_rfl) (fun _ _ _ h => h) (Or.inl ⟨by rfl, ?_⟩) (by assumption) ?_
    rotate_left
    · intro W0 hSw; (try dsimp only at hSw); go_simp <;> with_reducible rfl
    try simp only [Act.put, List.setIfInBounds_toArray, List.set_cons_zero, List.set_cons_succ]
    refine wpAnyH_take (i := 2) (v := ?_) rfl (by kernel_rfl) (by kernel_rfl) (by kernel_rfl) (fun _ _ _ h => h) (Or.inl ⟨by rfl, ?_⟩) (by assumption) ?_
    rotate_left
    · intro W0 hSw; (try dsimp only at hSw); go_simp <;> with_reducible rfl
    try simp only [Act.put, List.setIfInBounds_toArray, List.set_cons_zero, List.set_cons_succ]
    refine wpAnyH_take (i := 3) (v := ?_) rfl (by kernel_rfl) (by kernel_rfl) (by kernel_rfl) (fun _ _ _ h => h) (Or.inl ⟨by rfl, ?_⟩) (by assumption) ?_
    rotate_left
    · intro W0 hSw; (try dsimp only at hSw); go_simp <;> with_reducible rfl
    try simp only [Act.put, List.setIfInBounds_toArray, List.set_cons_zero, List.set_cons_succ]
    refine wpAnyH_take (i := 4) (v := ?_) rfl (by kernel_rfl) (by kernel_rfl) (by kernel_rfl) (fun _ _ _ h => h) (Or.inl ⟨by rfl, ?_⟩) (by assumption) ?_
    rotate_left
    · intro W0 hSw; (try dsimp only at hSw); go_simp <;> with_reducible rfl
    try simp only [Act.put, List.setIfInBounds_toArray, List.set_cons_zero, List.set_cons_succ]
    refine wpAnyH_take (i := 5) (v := ?_) rfl (by kernel_rfl) (by kernel_rfl) (by kernel_rfl) (fun _ _ _ h => h) (Or.inl ⟨by rfl, ?_⟩) (by assumption) ?_
    rotate_left
    · intro W0 hSw; (try dsimp only at hSw); go_simp <;> with_reducible rfl
    try simp only [Act.put, List.setIfInBounds_toArray, List.set_cons_zero, List.set_cons_succ]
    refine wpAnyH_take (i := 6) (v := ?_) rfl (by kernel_rfl) (by kernel_rfl) (by kernel_rfl) (fun _ _ _ h => h) (Or.inl ⟨by rfl, ?_⟩) (by assumption) ?_
    rotate_left
    · intro W0 hSw; (try dsimp only at hSw); go_simp <;> with_reducible rfl
    try simp only [Act.put, List.setIfInBounds_toArray, List.set_cons_zero, List.set_cons_succ]
    refine wpAnyH_take (i := 7) (v := ?_) rfl (by kernel_rfl) (by kernel_rfl) (by kernel_rfl) (fun _ _ _ h => h) (Or.inl ⟨by rfl, ?_⟩) (by assumption) ?_
    rotate_left
    · intro W0 hSw; (try dsimp only at hSw); go_simp <;> with_reducible rfl
    try simp only [Act.put, List.setIfInBounds_toArray, List.set_cons_zero, List.set_cons_succ]
    refine wpAnyH_take (i := 8) (v := ?_) rfl (by kernel_rfl) (by kernel_rfl) (by kernel_rfl) (fun _ _ _ h => h) (Or.inl ⟨by rfl, ?_⟩) (by assumption) ?_
    rotate_left
    · intro W0 hSw; (try dsimp only at hSw); go_simp <;> with_reducible rfl
    try simp only [Act.put, List.setIfInBounds_toArray, List.set_cons_zero, List.set_cons_succ]
    have R1d : IdO w1.drew w.heap.size (.slice none 0 0) 0 0 := yy R1
    have F1d : FreeX w1.drew w.heap.size := yy F1
    have B1d : Below w.heap.size w w1.drew := (yy B1).drew
    have O1d := ownK (yy O1) (Below.refl w1.heap.size w1).drew
    have d2 : w1.drew.cell? ⟨w.heap.size + 1, 2, none⟩ = some (.slice av bst.length cv) := c2
    have d3 : w1.drew.cell? ⟨w.heap.size + 1, 3, none⟩ = some (.int .i64 (ct : Int)) := c3
    generalize hV : w1.drew = V at *
    clear hV c0 c1 c2 c3 c4 r0 r1 r2 f0 f1 f2
    obtain ⟨r0, r1, r2⟩ := R1d
    have f0 := F1d 0
    have f1 := F1d 1
    have f2 := F1d 2
    refine wpAnyH_ready (rs := [9]) (by kernel_rfl) (by simp) ?_
    refine AllReadyH.cons rfl (fun K hK => ?_) AllReadyH.nil
    go_simp
    refine hK.out _ _ ?_ (fun hHeld1 => ?_)
    · refine ⟨?_, ?_⟩
      · rw [World.cell?_setCell_far _ _ _ _ (by show w.heap.size ≠ w.heap.size + 1; omega), World.cell?_setCell_far _ _ _ _ (by show w.heap.size ≠ w.heap.size + 1; omega), World.cell?_setCell_far _ _ _ _ (by show w.heap.size ≠ w.heap.size + 1; omega)]
        exact d2
      · rw [World.cell?_setCell_far _ _ _ _ (by show w.heap.size ≠ w.heap.size + 1; omega), World.cell?_setCell_far _ _ _ _ (by show w.heap.size ≠ w.heap.size + 1; omega), World.cell?_setCell_far _ _ _ _ (by show w.heap.size ≠ w.heap.size + 1; omega)]
        exact d3
    clear hK K hHeld
    refine wpAnyH_done (by kernel_rfl) ?_ _
    clear hHeld1
    go_wp2_with fail
    refine bodyPost_ret (v := .agg #[.slice av bst.length cv, .int .i64 (ct : Int), .int .i64 0]) (res_l06 _ _ w.heap.size _ (ct : Int) 0 rfl (idO_set ⟨r0, r1, r2⟩ _ _ _)) rfl ⟨?_, (((B1d.setCell (Nat.le_refl _) _).setCell (Nat.le_refl _) _).setCell (Nat.le_refl _) _)⟩
    rw [(yy HO).1, (yy HO).2.1, (yy HO).2.2]
    exact ⟨_, rfl, oLower (ownFarI (ownFarI (ownFarI O1d (by omega) _ _) (by omega) _ _) (by omega) _ _) (by omega)⟩
end Go.Proofs.YtofpjlhoppofdaaGreatDoor
namespace Go.Proofs.YtofpjlhoppofdaaGreatDoor
open Go.RowKit Go.Sort
set_option linter.unusedVariables false
def idOk (L : List St) (S : List D3) : Bool := skyB L && spotsB S
def identL (L : List St) (S : List D3) : List Int := if 400 < L.length ∨ 400 < S.length then [] else if idOk L S = true then idIds L S else []
def identC (L : List St) (S : List D3) : Int := if 400 < L.length ∨ 400 < S.length then 0 else if idOk L S = true then idCnt L S else 0
def identK (L : List St) (S : List D3) : Int := if 400 < L.length ∨ 400 < S.length then 2 else if idOk L S = true then idCode L S else 1
theorem ident_big {L : List St} {S : List D3} (h : 400 < L.length ∨ 400 < S.length) : identL L S = [] ∧ identC L S = 0 ∧ identK L S = 2 := by unfold identL identC identK; rw [if_pos h, if_pos h, if_pos h]; exact ⟨rfl, rfl, rfl⟩
theorem ident_no {L : List St} {S : List D3} (h : ¬ (400 < L.length ∨ 400 < S.length)) (h1 : idOk L S = false) : identL L S = [] ∧ identC L S = 0 ∧ identK L S = 1 := by unfold identL identC identK; rw [if_neg h, if_neg h, if_neg h, h1]; exact ⟨rfl, rfl, rfl⟩
theorem ident_yes {L : List St} {S : List D3} (h : ¬ (400 < L.length ∨ 400 < S.length)) (h1 : idOk L S = true) : identL L S = idIds L S ∧ identC L S = idCnt L S ∧ identK L S = idCode L S := by unfold identL identC identK; rw [if_neg h, if_neg h, if_neg h, if_pos h1, if_pos h1, if_pos h1]; exact ⟨rfl, rfl, rfl⟩
theorem res_sident (T : Array Value) (X : World) (b : Nat) (v : Value) (c k : Int) (hT : T.getD 4 undef = .pointer (some ⟨b, 0, none⟩)) (h : IdO X b v c k) : (results Tryz.f42 T).run Tryz.prog X = .ok (.agg #[v, .int .i64 c, .int .i64 k]) X := by
  obtain ⟨h0, h1, h2⟩ := h
  simp only [Array.getD_eq_getD_getElem?] at hT
  simp [results, Tryz.results42, go_sem, hT, h0, h1, h2]
theorem outI_none {w' : World} {B : Nat} {L : List St} {S : List D3} {k : Int} (h : identL L S = [] ∧ identC L S = 0 ∧ identK L S = k) : OutI w' B (identL L S) (identC L S) (identK L S) (.returned (.agg #[.slice none 0 0, .int .i64 0, .int .i64 k])) := by
  rw [h.1, h.2.1, h.2.2]
  exact ⟨_, rfl, World.ownsRow_nil _ _ _ _⟩
set_option maxHeartbeats 4000000 in
set_option maxRecDepth 100000 in
theorem specIdentify_any (L : List St) (S : List D3) (ar br : Option Addr) (cr dr : Nat) (w : World) (hn : L.length ≤ 1048576) (hm : S.length ≤ 1048576) (hdr : S.length ≤ dr) (hd9 : dr ≤ 9223372036854775807) (hS : Stars w ar L L.length) (hD : Dirs w br S S.length) (hA : ∀ y, ar = some y → y.block < w.heap.size) (hB : ∀ y, br = some y → y.block < w.heap.size) :
    Calls Tryz.prog 42 #[.slice ar L.length cr, .slice br S.length dr] w fun e w' => OutI w' w.heap.size (identL L S) (identC L S) (identK L S) e ∧ Below w.heap.size w w' := by
  have B0 := below1 w (.cells #[.slice none 0 0, .int .i64 0, .int .i64 0] 87)
  by_cases hbig : 400 < L.length ∨ 400 < S.length
  · have HO := yz (ident_big hbig)
    by_cases h4 : 400 < L.length
    · have h4' : (400 : Int) < (L.length : Int) := by omega
      go_enter Tryz.func42, Tryz.ntmps42
      go_wp2
      exact bodyPost_ret (v := .agg #[.slice none 0 0, .int .i64 0, .int .i64 2]) (by simp [results, Tryz.results42, go_sem]) rfl ⟨outI_none (yy HO), below1 _ _⟩
    · have h4' : ¬ (400 : Int) < (L.length : Int) := by omega
      have h5' : (400 : Int) < (S.length : Int) := by omega
      go_enter Tryz.func42, Tryz.ntmps42
      go_wp2
      exact bodyPost_ret (v := .agg #[.slice none 0 0, .int .i64 0, .int .i64 2]) (by simp [results, Tryz.results42, go_sem]) rfl ⟨outI_none (yy HO), below1 _ _⟩
  have h4' : ¬ (400 : Int) < (L.length : Int) := by omega
  have h5' : ¬ (400 : Int) < (S.length : Int) := by omega
  have R0 : IdO (w.alloc (.cells #[.slice none 0 0, .int .i64 0, .int .i64 0] 87)) w.heap.size (.slice none 0 0) 0 0 := by refine ⟨?_, ?_, ?_⟩ <;> simp
  have F0 : FreeX (w.alloc (.cells #[.slice none 0 0, .int .i64 0, .int .i64 0] 87)) w.heap.size := fun i => by simp
  have hsz : w.heap.size + 1 ≤ (w.alloc (.cells #[.slice none 0 0, .int .i64 0, .int .i64 0] 87)).heap.size := by simp
  have cS := yz (fun (W : World) h => specSky_any L ar cr W hn h)
  have cD := yz (fun (W : World) h => specSpotsRight_any S br dr W hm h)
  have HB := yz B0
  have HR := yz R0
  have HF := yz F0
  have HS := yz (hS.kept B0)
  have HD := yz (hD.kept B0)
  clear B0 R0 F0 hS hD
  go_enter Tryz.func42, Tryz.ntmps42
  go_wp2_with fail
  generalize hW : w.alloc (.cells #[.slice none 0 0, .int .i64 0, .int .i64 0] 87) = W at *
  clear hW
  refine (yy cS _ (yy HS)).mono ?_
  rintro e w1 ⟨rfl, hx⟩
  have B1 := yz (below_call (yy HB) hx)
  have R1 := yz ((yy HR).kept hx)
  have F1 := yz ((yy HF).kept (by omega) hx)
  have S1 := yz ((yy HS).kept hx)
  have D1 := yz ((yy HD).kept hx)
  have hsz1 : w.heap.size + 1 ≤ w1.heap.size := Nat.le_trans hsz hx.size
  clear hx HB HR HF HS HD hsz cS
  cases hk : skyB L
  · have HO := yz (ident_no hbig (by unfold idOk; rw [hk]; rfl))
    obtain ⟨r0, r1, r2⟩ := yy R1
    have f0 := yy F1 0
    have f1 := yy F1 1
    have f2 := yy F1 2
    go_wp2_with fail
    clear r0 r1 r2 f0 f1 f2
    exact bodyPost_ret (v := .agg #[.slice none 0 0, .int .i64 0, .int .i64 1]) (res_sident _ _ w.heap.size _ 0 1 rfl (idO_set (yy R1) _ _ _)) rfl ⟨outI_none (yy HO), ((((yy B1).setCell (Nat.le_refl _) _).setCell (Nat.le_refl _) _).setCell (Nat.le_refl _) _)⟩
  go_wp2_with fail
  refine (yy cD _ (yy D1)).mono ?_
  rintro e w2 ⟨rfl, hx⟩
  have B2 := yz (below_call (yy B1) hx)
  have R2 := yz ((yy R1).kept hx)
  have F2 := yz ((yy F1).kept (by omega) hx)
  have S2 := yz ((yy S1).kept hx)
  have D2 := yz ((yy D1).kept hx)
  have hsz2 : w.heap.size + 1 ≤ w2.heap.size := Nat.le_trans hsz1 hx.size
  clear hx B1 R1 F1 S1 D1 hsz1 cD
  cases hp : spotsB S
  · have HO := yz (ident_no hbig (by unfold idOk; rw [hp, Bool.and_false]))
    obtain ⟨r0, r1, r2⟩ := yy R2
    have f0 := yy F2 0
    have f1 := yy F2 1
    have f2 := yy F2 2
    go_wp2_with fail
    clear r0 r1 r2 f0 f1 f2
    exact bodyPost_ret (v := .agg #[.slice none 0 0, .int .i64 0, .int .i64 1]) (res_sident _ _ w.heap.size _ 0 1 rfl (idO_set (yy R2) _ _ _)) rfl ⟨outI_none (yy HO), ((((yy B2).setCell (Nat.le_refl _) _).setCell (Nat.le_refl _) _).setCell (Nat.le_refl _) _)⟩
  have HO := yz (ident_yes hbig (by unfold idOk; rw [hk, hp]; rfl))
  have cI := yz (l06Identify_any L S ar br cr dr w2 hk hp hdr hd9 (yy S2) (yy D2) (fun y e => by have := hA y e; omega) (fun y e => by have := hB y e; omega))
  clear hk hp
  go_wp2_with fail
  refine (yy cI).mono ?_
  rintro e w3 ⟨⟨v, rfl, ho⟩, hx⟩
  obtain ⟨av, cv, rfl⟩ := own_form ho
  have B3 := yz (below_call (yy B2) hx)
  have R3 := yz ((yy R2).kept hx)
  have F3 := yz ((yy F2).kept (by omega) hx)
  have O3 := yz ho
  clear hx ho B2 R2 F2 S2 D2 cI
  rw [← (yy HO).1] at O3
  rw [← (yy HO).1, ← (yy HO).2.1, ← (yy HO).2.2]
  obtain ⟨r0, r1, r2⟩ := yy R3
  have f0 := yy F3 0
  have f1 := yy F3 1
  have f2 := yy F3 2
  go_wp2_with fail
  clear r0 r1 r2 f0 f1 f2
  refine bodyPost_ret (v := .agg #[.slice av (identL L S).length cv, .int .i64 (identC L S), .int .i64 (identK L S)]) (res_sident _ _ w.heap.size _ (identC L S) (identK L S) rfl (idO_set (yy R3) _ _ _)) rfl ⟨⟨_, rfl, ?_⟩, ((((yy B3).setCell (Nat.le_refl _) _).setCell (Nat.le_refl _) _).setCell (Nat.le_refl _) _)⟩
  exact oLower (ownFarI (ownFarI (ownFarI (yy O3) (by omega) _ _) (by omega) _ _) (by omega) _ _) (by omega)
def stV (s : St) : Value := .agg #[.int .i64 s.1, .int .i64 s.2.1, .int .i64 s.2.2.1, .int .i64 s.2.2.2]
def starD (s : St) : DataW Unit := .agg [.lit (.int .i64 s.1), .lit (.int .i64 s.2.1), .lit (.int .i64 s.2.2.1), .lit (.int .i64 s.2.2.2)]
def starE (v : Value) : Option (DataW Unit × List MemPlace) := match v with
  | .agg ⟨[.int .i64 a, .int .i64 b, .int .i64 c, .int .i64 d]⟩ => some (starD (a, b, c, d), [])
  | _ => none
theorem starE_mk (s : St) : starE (stV s) = some (starD s, []) := rfl
theorem starE_inv {v : Value} {s : St} {ps : List MemPlace} (h : starE v = some (starD s, ps)) : v = stV s := by
  unfold starE at h
  split at h
  · simp only [Option.some.injEq, Prod.mk.injEq, starD, DataW.agg.injEq, List.cons.injEq, DataW.lit.injEq, Lit.int.injEq, true_and, and_true] at h
    obtain ⟨⟨h1, h2, h3, h4⟩, _⟩ := h
    subst h1 h2 h3 h4
    rfl
  · cases h
def zeroSt : St := (0, 0, 0, 0)
def nameSt (L : List St) (ids : List Int) (i : Nat) : St := if ids.getD i 0 ≠ 0 then (ids.getD i 0, atV L L.length (ids.getD i 0)) else zeroSt
def MapIs (D : DataW Unit) (L : List St) (ids : List Int) : Prop := ∀ i : Nat, i < 7 → Maps.has D (.int .i64 (i : Int)) = decide (ids.getD i 0 ≠ 0) ∧ D.atKey (.int .i64 (i : Int)) (starD zeroSt) = starD (nameSt L ids i)
def NamedAt (w : World) (b n : Nat) (L : List St) (ids : List Int) : Prop := ∃ D, w.ownsMap Tryz.prog 3 starE b n D ∧ MapIs D L ids
theorem wf_nat (i : Nat) (h : i < 7) : (Lit.int .i64 (i : Int)).wf = true := by
  rcases (by omega : i = 0 ∨ i = 1 ∨ i = 2 ∨ i = 3 ∨ i = 4 ∨ i = 5 ∨ i = 6) with rfl | rfl | rfl | rfl | rfl | rfl | rfl <;> decide
theorem keyI (i : Nat) (h : i < 7) : keyOf Tryz.prog 3 (.int .i64 (i : Int)) = some (.int .i64 (i : Int)) := Maps.keyOf_int_mk Tryz.underlying3 (wf_nat i h)
theorem zeroStar (w : World) : (zeroValue 78).run Tryz.prog w = .ok (stV zeroSt) w := by kernel_rfl
theorem NamedAt.look {w : World} {b n : Nat} {L : List St} {ids : List Int} (h : NamedAt w b n L ids) (i : Nat) (hi : i < 7) : (Instr.lookup 176 (.map (some b)) (.int .i64 (i : Int)) false).run Tryz.prog w = .ok (stV (nameSt L ids i)) w := by
  obtain ⟨D, hD, hM⟩ := h
  obtain ⟨v, ps, hr, hv⟩ := hD.lookup (Maps.int_keyed Tryz.underlying3) Tryz.underlying176 (zeroStar w) (starE_mk zeroSt) (keyI i hi)
  rw [(hM i hi).2] at hv
  rw [starE_inv hv] at hr
  exact hr
theorem NamedAt.kept {w w' : World} {b n : Nat} {L : List St} {ids : List Int} {row : Option Nat} (h : NamedAt w b n L ids) (hg : w.grownBy w' row) (hne : some b ≠ row) : NamedAt w' b n L ids := by
  obtain ⟨D, hD, hM⟩ := h
  exact ⟨D, hD.kept hg hne, hM⟩
theorem NamedAt.below {w w' : World} {b n : Nat} {L : List St} {ids : List Int} (h : NamedAt w b n L ids) (hB : Below w.heap.size w w') : NamedAt w' b n L ids := h.kept (row := none) ⟨hB.os, hB.tape, hB.output, hB.size, fun k hk _ => hB.block k hk⟩ (by simp)
def SrAt (w : World) (b : Nat) (v0 v1 v2 : Value) : Prop := w.cell? ⟨b, 0, none⟩ = some v0 ∧ w.cell? ⟨b, 1, none⟩ = some v1 ∧ w.cell? ⟨b, 2, none⟩ = some v2
theorem SrAt.kept {w w' : World} {b : Nat} {v0 v1 v2 : Value} (h : SrAt w b v0 v1 v2) (hB : Below w.heap.size w w') : SrAt w' b v0 v1 v2 := ⟨cellK5 h.1 hB, cellK5 h.2.1 hB, cellK5 h.2.2 hB⟩
end Go.Proofs.YtofpjlhoppofdaaGreatDoor
namespace Go.Proofs.YtofpjlhoppofdaaGreatDoor
open Go.RowKit Go.Sort
set_option linter.unusedVariables false
set_option linter.unusedSimpArgs false
end Go.Proofs.YtofpjlhoppofdaaGreatDoor
namespace Go.Proofs.YtofpjlhoppofdaaGreatDoor
open Go.RowKit Go.Sort
set_option linter.unusedVariables false
theorem cntN_take (ids : List Int) {i : Nat} (hi : i < ids.length) : cntN (ids.take (i + 1)) = cntN (ids.take i) + if ids.getD i 0 ≠ 0 then 1 else 0 := by
  rw [List.take_succ_eq_append_getElem hi, cntN_snoc]
  have e : ids.getD i 0 = ids[i] := by rw [List.getD_eq_getElem?_getD, List.getElem?_eq_getElem hi]; rfl
  rw [e]
def greatR (L : List St) (S : List D3) : List Int × Nat := (allN (fitF L S) (L.map (·.1)) S.length []).foldl stepG ([], 0)
theorem great_same (L : List St) (S : List D3) : idIds L S = (if (greatR L S).2 = 1 then (greatR L S).1 else []) ∧ idCnt L S = (if (greatR L S).2 = 1 then (cntN (greatR L S).1 : Int) else 0) ∧ idCode L S = (if (greatR L S).2 = 0 then 6 else if 1 < (greatR L S).2 then 11 else 0) := by
  have h := sameN_all (fitF L S) (L.map (·.1)) S.length
  unfold idIds idCnt idCode
  change SameN (idR L S) (greatR L S) at h
  rcases h with ⟨h1, h2, h3⟩ | ⟨h1, h2, h3, h4, h5⟩
  · rw [h1, h3]
    exact ⟨rfl, rfl, rfl⟩
  · rw [h4]
    refine ⟨?_, ?_, rfl⟩
    · split
      · rename_i e; exact h5 e
      · rfl
    · split
      · rw [h3]
      · rfl
end Go.Proofs.YtofpjlhoppofdaaGreatDoor
namespace Go.Proofs.YtofpjlhoppofdaaGreatDoor
open Go.RowKit Go.Sort Go.Shelf
set_option linter.unusedVariables false
attribute [local go_sem] Oper.semAt_some
structure KpX (p q : Nat) (W W' : World) : Prop where
  size : W.heap.size ≤ W'.heap.size
  os : W'.os = W.os
  tape : W'.tape = W.tape
  output : W'.output = W.output
  same : ∀ k o, W.heap[k]? = some o → (o.isCells = true ∨ o.isWalk = true) → k ≠ p → k ≠ q → W'.heap[k]? = some o
theorem KpX.trans {p q : Nat} {A B C : World} (h : KpX p q A B) (k : KpX p q B C) : KpX p q A C := ⟨Nat.le_trans h.size k.size, k.os.trans h.os, k.tape.trans h.tape, k.output.trans h.output, fun i o hi ho h1 h2 => k.same i o (h.same i o hi ho h1 h2) ho h1 h2⟩
end Go.Proofs.YtofpjlhoppofdaaGreatDoor
namespace Go.Proofs.YtofpjlhoppofdaaGreatDoor
open Go.RowKit Go.Sort
set_option linter.unusedVariables false
theorem key_ne {i j : Nat} (h : i ≠ j) : (Lit.int .i64 (i : Int)) ≠ Lit.int .i64 (j : Int) := fun e => h (by injection e with _ e; omega)
theorem getD_snoc_lt (ids : List Int) (a : Int) {i : Nat} (h : i < ids.length) : (ids ++ [a]).getD i 0 = ids.getD i 0 := by rw [List.getD_eq_getElem?_getD, List.getD_eq_getElem?_getD, List.getElem?_append_left h]
theorem getD_snoc_at (ids : List Int) (a : Int) : (ids ++ [a]).getD ids.length 0 = a := by rw [List.getD_eq_getElem?_getD, List.getElem?_append_right (Nat.le_refl _), Nat.sub_self]; rfl
theorem getD_snoc_gt (ids : List Int) (a : Int) {i : Nat} (h : ids.length < i) : (ids ++ [a]).getD i 0 = 0 := by
  rw [List.getD_eq_getElem?_getD, List.getElem?_append_right (by omega), List.getElem?_eq_none (by simp; omega)]
  rfl
theorem getD_end (ids : List Int) {i : Nat} (h : ids.length ≤ i) : ids.getD i 0 = 0 := by rw [List.getD_eq_getElem?_getD, List.getElem?_eq_none h]; rfl
theorem MapIs.put {D : DataW Unit} {L : List St} {ids : List Int} {a : Int} (h : MapIs D L ids) (hm : Maps.IsMap D) (ha : a ≠ 0) : MapIs (D.put (.int .i64 (ids.length : Int)) (starD (a, atV L L.length a))) L (ids ++ [a]) := fun i hi => by
  by_cases e : i = ids.length
  · subst e
    rw [Maps.has_put_same hm (by trivial), Maps.atKey_put_same hm (by trivial)]
    unfold nameSt
    rw [getD_snoc_at, if_pos ha]
    exact ⟨by simp [ha], rfl⟩
  · rw [Maps.has_put_other (key_ne e), Maps.atKey_put_other (key_ne e)]
    have h1 := h i hi
    unfold nameSt at h1 ⊢
    have e2 : (ids ++ [a]).getD i 0 = ids.getD i 0 := by
      rcases Nat.lt_or_gt_of_ne e with h2 | h2
      · exact getD_snoc_lt ids a h2
      · rw [getD_snoc_gt ids a h2, getD_end ids (by omega)]
    rw [e2]
    exact h1
end Go.Proofs.YtofpjlhoppofdaaGreatDoor
namespace Go.Proofs.YtofpjlhoppofdaaGreatDoor
open Go.RowKit Go.Sort Go.Shelf
set_option linter.unusedVariables false
attribute [local go_sem] Oper.semAt_some
structure KpM (b p q : Nat) (W W' : World) : Prop where
  size : W.heap.size ≤ W'.heap.size
  os : W'.os = W.os
  tape : W'.tape = W.tape
  output : W'.output = W.output
  same : ∀ k o, W.heap[k]? = some o → (o.isCells = true ∨ o.isWalk = true) → k ≠ b → k ≠ p → k ≠ q → W'.heap[k]? = some o
theorem KpM.trans {b p q : Nat} {A B C : World} (h : KpM b p q A B) (k : KpM b p q B C) : KpM b p q A C := ⟨Nat.le_trans h.size k.size, k.os.trans h.os, k.tape.trans h.tape, k.output.trans h.output, fun i o hi ho h0 h1 h2 => k.same i o (h.same i o hi ho h0 h1 h2) ho h0 h1 h2⟩
theorem KpM.cell {b p q : Nat} {A B : World} (h : KpM b p q A B) {a : Addr} {v : Value} (hc : A.cell? a = some v) (h0 : a.block ≠ b) (h1 : a.block ≠ p) (h2 : a.block ≠ q) : B.cell? a = some v := by
  obtain ⟨o, ho, hi⟩ := cells_of_cell hc
  have e := h.same a.block o ho (.inl hi) h0 h1 h2
  rw [← hc]
  exact World.cell?_of_block (e.trans ho.symm)
attribute [local go_sem] Oper.semAt_some
attribute [local go_sem] Oper.semAt_some
attribute [local go_sem] Oper.semAt_some
structure BoxAt (W : World) (p q : Nat) (G : List Int × Nat) : Prop where
  most : ∃ v, W.heap[p]? = some (.cells #[v] 85 (0, 0)) ∧ ((G.1 = [] ∧ v = .slice none 0 0) ∨ ∃ g, v = .slice (some ⟨g, 0, none⟩) G.1.length G.1.length ∧ p ≤ g ∧ g ≠ p ∧ g ≠ q ∧ RowV W 2 g (G.1.length * 1) (numV G.1))
  alike : W.heap[q]? = some (.cells #[.int .i64 (wrap64 (G.2 : Int))] 2 (0, 0))
  len : G.1.length ≤ 6
structure GrJ (p q l d : Nat) (rec : Loop) (w0 : World) (pre : List (List Int)) (W : World) : Prop where
  box : BoxAt W p q (pre.foldl stepG ([], 0))
  rc : W.heap[l]? = some (.loop rec)
  df : W.heap[d]? = some (.deferred (some []))
  bel : Below w0.heap.size w0 W
theorem heap_kept {W W' : World} {k : Nat} {o : Obj} {row : Option Nat} (h : W.heap[k]? = some o) (hg : W.grownBy W' row) (hne : some k ≠ row) : W'.heap[k]? = some o := (hg.block k (Array.getElem?_eq_some_iff.1 h).1 hne).trans h
theorem BoxAt.grown {W W' : World} {p q : Nat} {G : List Int × Nat} {row : Option Nat} (h : BoxAt W p q G) (hg : W.grownBy W' row) (hne : ∀ k cs t f, W.heap[k]? = some (.cells cs t f) → some k ≠ row) : BoxAt W' p q G := by
  obtain ⟨⟨v, h1, h2⟩, h3, h4⟩ := h
  refine ⟨⟨v, heap_kept h1 hg (hne _ _ _ _ h1), ?_⟩, heap_kept h3 hg (hne _ _ _ _ h3), h4⟩
  rcases h2 with h2 | ⟨g, e, n0, n1, n2, cur, hc, hr⟩
  · exact .inl h2
  · exact .inr ⟨g, e, n0, n1, n2, cur, heap_kept hc hg (hne _ _ _ _ hc), hr⟩
theorem GrJ.below {p q l d : Nat} {rec : Loop} {w0 : World} (pre : List (List Int)) (W W' : World) (h : GrJ p q l d rec w0 pre W) (hB : Below W.heap.size W W') : GrJ p q l d rec w0 pre W' := by
  have hg : W.grownBy W' none := ⟨hB.os, hB.tape, hB.output, hB.size, fun k hk _ => hB.block k hk⟩
  exact ⟨h.box.grown hg (fun k cs t f hk e => by cases e), heap_kept h.rc hg (by simp), heap_kept h.df hg (by simp), below_call h.bel hB⟩
attribute [local go_sem] Oper.semAt_some
end Go.Proofs.YtofpjlhoppofdaaGreatDoor
namespace Go.Proofs.YtofpjlhoppofdaaGreatDoor
open Go.RowKit Go.Sort
set_option linter.unusedVariables false
theorem allN_long (F : List Int → Int → Bool) (A : List Int) : ∀ (r : Nat) (ids l : List Int), l ∈ allN F A r ids → l.length = ids.length + r
  | 0, ids, l, h => by
    simp only [allN, List.mem_singleton] at h
    subst h
    omega
  | r + 1, ids, l, h => by
    simp only [allN, List.mem_append, List.mem_flatMap] at h
    rcases h with ⟨a, _, h⟩ | h
    · have := allN_long F A r _ l h
      rw [List.length_append] at this
      simp at this
      omega
    · have := allN_long F A r _ l h
      rw [List.length_append] at this
      simp at this
      omega
theorem foldG_long (m : Nat) : ∀ (X : List (List Int)) (g : List Int × Nat), (∀ l ∈ X, l.length ≤ m) → g.1.length ≤ m → (X.foldl stepG g).1.length ≤ m
  | [], g, _, h => h
  | x :: X, g, hX, h => by
    rw [List.foldl_cons]
    refine foldG_long m X _ (fun l hl => hX l (List.mem_cons_of_mem _ hl)) ?_
    unfold stepG
    split
    · exact h
    · split
      · exact hX x (List.mem_cons_self ..)
      · exact h
theorem identL_len (L : List St) (S : List D3) : (identL L S).length ≤ 6 := by
  by_cases hb : 400 < L.length ∨ 400 < S.length
  · rw [(ident_big hb).1]; simp
  · cases ho : idOk L S
    · rw [(ident_no hb ho).1]; simp
    · rw [(ident_yes hb ho).1, (great_same L S).1]
      have hp : spotsB S = true := by unfold idOk at ho; simp at ho; exact ho.2
      have h6 := (spots_ok hp).1
      split
      · refine Nat.le_trans (foldG_long S.length _ _ (fun l hl => ?_) (by simp)) h6
        have := allN_long _ _ _ _ _ hl
        simp at this
        omega
      · simp
theorem PRow.sliceI {w : World} {t : TypeId} {c lo hi n : Nat} {v : Value} {f : Nat → Value} (h : PRow w t c lo hi n v f) : ∃ a k, v = .slice a n k := by
  rcases h with ⟨rfl, a, k, rfl⟩ | ⟨g, k, rfl, _⟩
  · exact ⟨a, k, rfl⟩
  · exact ⟨_, k, rfl⟩
theorem prow_outI {w' : World} {B : Nat} {ids : List Int} {cnt code : Int} {e : Ending} (h : OutI w' B ids cnt code e) : ∃ a k, e = .returned (.agg #[.slice a ids.length k, .int .i64 cnt, .int .i64 code]) ∧ PRow w' 2 1 B w'.heap.size ids.length (.slice a ids.length k) (valInt64S (fun j => ids.getD j 0) (fun _ => false)) := by
  obtain ⟨v, he, ho⟩ := h
  have hp : PRow w' 2 1 B w'.heap.size ids.length v (valInt64S (fun j => ids.getD j 0) (fun _ => false)) := PRow.of ho (fun j h => by
    have h' : j < ids.length := by omega
    show (ids.map (fun z => Value.int .i64 z))[j]? = some (.int .i64 (ids.getD j 0))
    rw [List.getElem?_map, List.getElem?_eq_getElem h', List.getD_eq_getElem?_getD, List.getElem?_eq_getElem h']
    rfl)
  obtain ⟨a, k, rfl⟩ := hp.sliceI
  exact ⟨a, k, he, hp⟩
def tA (L : List T4) (i : Nat) : T4 := L.getD i (0, 0, 0, 0)
theorem flatT_at : ∀ (S : List T4) (k : Nat) (b : T4), S[k]? = some b → ∀ j u, (turn4 b)[j]? = some u → (flatT S)[k * 4 + j]? = some u := by
  intro S
  induction S with
  | nil => intro k b h; simp at h
  | cons x S ih =>
    intro k b h j u hu
    have e : flatT (x :: S) = turn4 x ++ flatT S := by unfold flatT; simp
    have hj : j < 4 := (List.getElem?_eq_some_iff.1 hu).1
    rw [e]
    cases k with
    | zero =>
      simp at h
      subst h
      rw [List.getElem?_append_left (by show _ < 4; omega)]
      simpa using hu
    | succ k =>
      rw [List.getElem?_append_right (by show 4 ≤ _; omega)]
      rw [show (k + 1) * 4 + j - (turn4 x).length = k * 4 + j by show _ - 4 = _; omega]
      exact ih k b (by simpa using h) j u hu
def Turn4s (w : World) (g : Nat) (L : List T4) : Prop := g < w.heap.size ∧ ∀ k, k < L.length → w.cell? ⟨g, k * 4, none⟩ = some (.int .i64 (tA L k).1) ∧ w.cell? ⟨g, k * 4 + 1, none⟩ = some (.int .i64 (tA L k).2.1) ∧ w.cell? ⟨g, k * 4 + 2, none⟩ = some (.int .i64 (tA L k).2.2.1) ∧ w.cell? ⟨g, k * 4 + 3, none⟩ = some (.int .i64 (tA L k).2.2.2)
theorem Turn4s.kept {w w' : World} {g : Nat} {L : List T4} (h : Turn4s w g L) (hB : Below w.heap.size w w') : Turn4s w' g L := by
  refine ⟨Nat.lt_of_lt_of_le h.1 hB.size, fun k hk => ?_⟩
  obtain ⟨h0, h1, h2, h3⟩ := h.2 k hk
  exact ⟨by rw [hB.cell (p := ⟨g, k * 4, none⟩) h.1]; exact h0, by rw [hB.cell (p := ⟨g, k * 4 + 1, none⟩) h.1]; exact h1, by rw [hB.cell (p := ⟨g, k * 4 + 2, none⟩) h.1]; exact h2, by rw [hB.cell (p := ⟨g, k * 4 + 3, none⟩) h.1]; exact h3⟩
theorem turn4s_of {w : World} {B : Nat} {v : Value} {L : List T4} (h : w.ownsRow B 46 4 v L.length (flatT L)) (h0 : 0 < L.length) : ∃ g c, v = .slice (some ⟨g, 0, none⟩) L.length c ∧ B ≤ g ∧ Turn4s w g L := by
  rcases h.2 with ⟨h1, h0'⟩ | ⟨g, cap, cur, hv, hb, hg, hnc, hcm, hcs, htake⟩
  · omega
  · refine ⟨g, cap, hv, hb, (Array.getElem?_eq_some_iff.1 hg).1, fun k hk => ?_⟩
    have hk' : L[k]? = some (tA L k) := by unfold tA; rw [List.getD, List.getElem?_eq_getElem hk]; rfl
    have cl : ∀ j u, (turn4 (tA L k))[j]? = some u → w.cell? ⟨g, k * 4 + j, none⟩ = some u := by
      intro j u hu
      have hj : j < 4 := (List.getElem?_eq_some_iff.1 hu).1
      have e := flatT_at L k _ hk' j u hu
      rw [cell_of_row w g _ cur _ _ hg]
      rw [← htake, List.getElem?_take, if_pos (by omega)] at e
      simpa using e
    exact ⟨cl 0 _ rfl, cl 1 _ rfl, cl 2 _ rfl, cl 3 _ rfl⟩
end Go.Proofs.YtofpjlhoppofdaaGreatDoor
namespace Go.Proofs.YtofpjlhoppofdaaGreatDoor
open Go.RowKit
set_option linter.unusedVariables false
def bringsB (t : T4) (s : Sg) : Bool := sameD s.1 (apD t.1 t.2.1 t.2.2.1 t.2.2.2 s.2.2)
def explB (A : List Sg) (t : T4) : Bool := A.all (bringsB t)
def firstT (A : List Sg) (T : List T4) : T4 × Int := match T.find? (explB A) with | some t => (t, 0) | none => ((0, 0, 0, 0), 6)
theorem tA_get {T : List T4} {k : Nat} (hk : k < T.length) : T[k]? = some (tA T k) := by unfold tA; rw [List.getD_eq_getElem?_getD, List.getElem?_eq_getElem hk]; rfl
theorem first_at {A : List Sg} {T : List T4} {k : Nat} (hk : k < T.length) (h : ∀ j, j < k → explB A (tA T j) = false) (h1 : explB A (tA T k) = true) : firstT A T = (tA T k, 0) := by
  unfold firstT
  have : T.find? (explB A) = some (tA T k) := by
    rw [List.find?_eq_some_iff_getElem]
    refine ⟨h1, k, hk, ?_, fun j hj => ?_⟩
    · have := tA_get hk
      rw [List.getElem?_eq_getElem hk] at this
      exact Option.some.inj this
    · have e := tA_get (T := T) (k := j) (by omega)
      rw [List.getElem?_eq_getElem (by omega)] at e
      rw [Option.some.inj e, h j hj]
      rfl
  rw [this]
theorem first_none {A : List Sg} {T : List T4} (h : ∀ j, j < T.length → explB A (tA T j) = false) : firstT A T = ((0, 0, 0, 0), 6) := by
  unfold firstT
  have : T.find? (explB A) = none := by
    rw [List.find?_eq_none]
    intro x hx
    obtain ⟨j, hj, rfl⟩ := List.getElem_of_mem hx
    have e := tA_get (T := T) (k := j) hj
    rw [List.getElem?_eq_getElem hj] at e
    rw [Option.some.inj e, h j hj]
    simp
  rw [this]
def forV (L : List St) (S : List D3) (ids : List Int) : T4 × Int :=
  if 400 < L.length ∨ 400 < S.length ∨ 400 < ids.length then ((0, 0, 0, 0), 2)
  else if namedB L S ids = true then (if (sightsTo L S ids ids.length).length < 2 then ((0, 0, 0, 0), 10) else firstT (sightsTo L S ids ids.length) (turnsTo 625))
  else ((0, 0, 0, 0), 1)
theorem named_parts {L : List St} {S : List D3} {ids : List Int} (h : namedB L S ids = true) : skyB L = true ∧ spotsB S = true ∧ ids.length = S.length ∧ allFit (sightsTo L S ids ids.length) (sightsTo L S ids ids.length).length = true := by
  unfold namedB at h
  simp only [Bool.and_eq_true, decide_eq_true_eq] at h
  exact ⟨h.1.1.1, h.1.1.2, h.1.2, h.2⟩
theorem named_each {L : List St} {S : List D3} {ids : List Int} (h : namedB L S ids = true) {j : Nat} (hj : j < ids.length) (h0 : ids.getD j 0 ≠ 0) : smallB (atV L L.length (ids.getD j 0)).1 (atV L L.length (ids.getD j 0)).2.1 (atV L L.length (ids.getD j 0)).2.2 = true ∧ wideD (vA S j) = true := by
  obtain ⟨h1, h2, h3, h4⟩ := named_parts h
  rw [← named_eq] at h4
  unfold namedI at h4
  have h5 := List.all_eq_true.1 h4 j (List.mem_range.2 hj)
  rw [decide_eq_false h0, Bool.false_or, Bool.and_eq_true] at h5
  exact ⟨at_small h1 (by simpa using h5.1), okV_wide ((spots_ok h2).2 j (by omega))⟩
def turnedI (L : List St) (S : List D3) (ids : List Int) (t : T4) (n : Nat) : Bool := (List.range n).all fun j => decide (ids.getD j 0 = 0) || bringsB t (sgOf L S ids j)
theorem turned_eq (L : List St) (S : List D3) (ids : List Int) (t : T4) (n : Nat) : turnedI L S ids t n = explB (sightsTo L S ids n) t := (sights_all L S ids (bringsB t) n).symm
theorem turnedI_no {L : List St} {S : List D3} {ids : List Int} {t : T4} {n j : Nat} (hj : j < n) (h : (decide (ids.getD j 0 = 0) || bringsB t (sgOf L S ids j)) = false) : turnedI L S ids t n = false := by
  unfold turnedI
  rw [List.all_eq_false]
  exact ⟨j, List.mem_range.2 hj, by rw [h]; simp⟩
theorem turnedI_yes {L : List St} {S : List D3} {ids : List Int} {t : T4} {n : Nat} (h : ∀ j, j < n → (decide (ids.getD j 0 = 0) || bringsB t (sgOf L S ids j)) = true) : turnedI L S ids t n = true := by
  unfold turnedI
  rw [List.all_eq_true]
  exact fun j hj => h j (List.mem_range.1 hj)
theorem sights_count (L : List St) (S : List D3) (ids : List Int) (k : Nat) : (sightsTo L S ids (k + 1)).length = (sightsTo L S ids k).length + if ids.getD k 0 ≠ 0 then 1 else 0 := by
  rw [sights_snoc, List.length_append]
  split <;> rfl
theorem turns_right {m k : Nat} (hk : k < (turnsTo m).length) : rightT (tA (turnsTo m) k).1 (tA (turnsTo m) k).2.1 (tA (turnsTo m) k).2.2.1 (tA (turnsTo m) k).2.2.2 = true := by
  have hm : tA (turnsTo m) k ∈ turnsTo m := by unfold tA; rw [List.getD_eq_getElem?_getD, List.getElem?_eq_getElem hk]; exact List.getElem_mem hk
  generalize tA (turnsTo m) k = t at hm ⊢
  unfold turnsTo at hm
  exact (List.mem_filter.1 hm).2
set_option maxRecDepth 1000000 in
theorem turns_some : 0 < (turnsTo 625).length := by
  have h : (tOf 624).1 = 2 := by decide +kernel
  have hg : goodT (tOf 563) = true := by decide +kernel
  have hm : tOf 563 ∈ turnsTo 625 := by
    unfold turnsTo
    rw [List.mem_filter]
    exact ⟨List.mem_map.2 ⟨563, List.mem_range.2 (by omega), rfl⟩, hg⟩
  exact List.length_pos_of_mem hm
end Go.Proofs.YtofpjlhoppofdaaGreatDoor
