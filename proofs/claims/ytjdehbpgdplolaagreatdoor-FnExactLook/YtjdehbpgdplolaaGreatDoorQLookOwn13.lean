/- Several texts in one: IeC, IeD, IeE, IeF, IeG. -/
import Derived.Deep.RegionHeld
import Derived.Deep.DeepCutAuto
import Derived.Maps.OwnSet
import Derived.Maps.Views
import Derived.Test.YtjdehbpgdplolaaGreatDoorQLookOwn12
namespace Go.Proofs.YtjdehbpgdplolaaGreatDoor
open Go.RowKit Go.Sort
set_option linter.unusedVariables false

theorem intL_snoc (ids : List Int) (a : Int) : intL ids ++ [.int .i64 a] = intL (ids ++ [a]) := by unfold intL; rw [List.map_append]; rfl
theorem ids_own {w : World} {B x cap : Nat} {a : Option Addr} {ids : List Int} (h : w.ownsRow B 2 1 (.slice a ids.length cap) ids.length (intL ids)) (hx : x < B) : IdsAt w x a ids := by
  rcases h.2 with ⟨h1, h0⟩ | ⟨g, c', cur, e, hb, hg, hnc, hcm, hcs, htake⟩
  · injection h1 with h1
    exact .inl ⟨List.eq_nil_of_length_eq_zero h0, h1⟩
  · injection e with e1
    refine .inr ⟨g, e1, by omega, (Array.getElem?_eq_some_iff.1 hg).1, fun i hi => ?_⟩
    rw [cell_of_row w g i cur _ _ hg]
    have e4 : cur[i]? = (intL ids)[i]? := by
      rw [← htake, List.getElem?_take, if_pos (by omega)]
      simp
    rw [e4]
    unfold intL
    rw [List.getElem?_map, List.getElem?_eq_getElem hi, List.getD_eq_getElem?_getD, List.getElem?_eq_getElem hi]
    rfl
theorem own_cap0 {w : World} {B n cap : Nat} {a : Option Addr} {xs : List Value} (h : w.ownsRow B 2 1 (.slice a n cap) n xs) (ha : a = none) : cap = 0 := by
  rcases h.2 with ⟨h1, h0⟩ | ⟨g, c', cur, e, _⟩
  · injection h1
  · injection e with e1; rw [ha] at e1; cases e1
theorem gxOwn {w w1 w2 : World} {x : Nat} {row : Option Nat} (h : w.grownBy w1 (some x)) (hg : w1.grownBy w2 row) (hb : ∀ g, row = some g → w.heap.size ≤ g) : w.grownBy w2 (some x) := ⟨hg.os.trans h.os, hg.tape.trans h.tape, hg.output.trans h.output, Nat.le_trans h.size hg.size, fun k hk hn => (hg.block k (Nat.lt_of_lt_of_le hk h.size) (fun e => by have := hb k e.symm; omega)).trans (h.block k hk hn)⟩
theorem own_ge {w : World} {B n : Nat} {v : Value} {xs : List Value} (h : w.ownsRow B 2 1 v n xs) (g : Nat) (e : v.ownBlock = some g) : B ≤ g := by
  rcases h.2 with ⟨h1, _⟩ | ⟨g', c', cur, e', hb, _⟩
  · rw [h1] at e; cases e
  · rw [e'] at e; simp [Value.ownBlock] at e; omega
theorem below_of_gx {w w1 : World} {row : Option Nat} (hg : w.grownBy w1 row) (h : ∀ g, row = some g → w.heap.size ≤ g) : Below w.heap.size w w1 := ⟨hg.os, hg.tape, hg.output, hg.size, fun k hk => hg.block k hk (fun e => by have := h k e.symm; omega)⟩
/-- ids copied, one more put behind them: what is appended to lies anew -/
theorem wpList_oneMore (w : World) {ops : Array Oper} {rest : List Oper} {o : Oper} {a : Act} {Q : Exit → Act → World → Prop} (hgd : o.guard = none) (s x : Operand)
    (ho : o.op = .call { callee := .builtin .append, args := #[s, x], argTypes := #[74, 74] })
    (base : Nat) (v : Value) (ids : List Int) (hs : a.eval s = v) (hown : w.ownsRow base 2 1 v ids.length (intL ids)) (g : Nat) (z : Int) (hx : a.eval x = .slice (some ⟨g, 0, none⟩) 1 1) (hc : w.cell? ⟨g, 0, none⟩ = some (.int .i64 z)) (hk : ids.length ≤ 6) (hbase : base ≤ w.heap.size)
    (h : ∀ v' w', w'.ownsRow base 2 1 v' (ids ++ [z]).length (intL (ids ++ [z])) → w.grownBy w' v.ownBlock → wpList Tryz.prog ops Q rest (a.put o.dst v') w') : wpList Tryz.prog ops Q (o :: rest) a w := by
  obtain ⟨i0, hinf, hz0, hz1, hz2⟩ := info_parts info_i64
  have hm : 7 ≤ maxLen := by decide +kernel
  refine wpList_append_own w hgd s x 74 ho base 2 i0 (.int .i64 0) 1 8 Tryz.underlying74 hinf hz0 hz1 hz2 rfl (by decide) v ids.length (intL ids) hs hown ⟨g, 0, none⟩ 1 1 [.int .i64 z] hx rfl ?_ (fun u hu => by rw [List.mem_singleton.1 hu]; rfl) (by omega) (by omega) hbase ?_
  · intro j u hj
    match j, hj with
    | 0, hj =>
      obtain rfl : Value.int .i64 z = u := by simpa using hj
      have hA : (⟨g, 0, none⟩ : Addr).add 0 = ⟨g, 0, none⟩ := by unfold Addr.add; split <;> simp_all
      rw [hA]
      exact hc
    | j + 1, hj => simp at hj
  · intro v' w' h2 h3 _
    rw [intL_snoc] at h2
    exact h v' w' (by rw [List.length_append]; exact h2) h3
theorem small_snoc {L : List St} {ids : List Int} {a : Int} (h : smallI L ids) (ha : a ≠ 0 → smallB (atV L L.length a).1 (atV L L.length a).2.1 (atV L L.length a).2.2 = true) : smallI L (ids ++ [a]) := by
  intro i hi h0
  rw [List.length_append, List.length_singleton] at hi
  by_cases e : i < ids.length
  · have e1 : (ids ++ [a]).getD i 0 = ids.getD i 0 := by rw [List.getD_eq_getElem?_getD, List.getD_eq_getElem?_getD, List.getElem?_append_left e]
    rw [e1] at h0 ⊢
    exact h i e h0
  · have e1 : (ids ++ [a]).getD i 0 = a := by
      rw [List.getD_eq_getElem?_getD, List.getElem?_append_right (by omega), show i - ids.length = 0 by omega]
      rfl
    rw [e1] at h0 ⊢
    exact ha h0
theorem fold_count (F : List Int → Int → Bool) (A : List Int) : ∀ (r : Nat) (ids : List Int) (s : SeN), s.count ≤ 6 → ids.length + r ≤ 6 → (fromN F A r ids s).count ≤ 6 := by
  intro r ids s h1 h2
  rw [fromN_eq]
  have hall : ∀ l ∈ allN F A r ids, cntN l ≤ 6 := fun l hl => by have := allN_cnt F A r ids l hl; have := cntN_le ids; omega
  generalize allN F A r ids = M at hall
  induction M generalizing s with
  | nil => exact h1
  | cons l M ih =>
    rw [List.foldl_cons]
    refine ih (stepSe s l) ?_ (fun x hx => hall x (by simp [hx]))
    have h3 := stepSe_count s l
    have h4 := hall l (by simp)
    omega
theorem loop_count (F : List Int → Int → Bool) (A : List Int) (r : Nat) (ids : List Int) (s : SeN) (h1 : s.count ≤ 6) (h2 : ids.length + 1 + r ≤ 6) : ∀ i, i ≤ A.length → (loopN F A r ids s i).count ≤ 6
  | 0, _ => h1
  | i + 1, h => by
    rw [loopN_succ F A r ids s (by omega)]
    have h3 := loop_count F A r ids s h1 h2 i (by omega)
    split
    · exact fold_count F A r _ _ h3 (by rw [List.length_append, List.length_singleton]; omega)
    · exact h3
end Go.Proofs.YtjdehbpgdplolaaGreatDoor

namespace Go.Proofs.YtjdehbpgdplolaaGreatDoor
open Go.RowKit Go.Sort
set_option linter.unusedVariables false

theorem map_at {L : List St} {i : Nat} (hi : i < L.length) : (L.map (·.1)).getD i 0 = (stA L i).1 := by
  unfold stA
  rw [List.getD_eq_getElem?_getD, List.getElem?_map, List.getD_eq_getElem?_getD, List.getElem?_eq_getElem hi]
  rfl
theorem star_small {L : List St} (hk : skyB L = true) {i : Nat} (hi : i < L.length) : smallB (atV L L.length (stA L i).1).1 (atV L L.length (stA L i).1).2.1 (atV L L.length (stA L i).1).2.2 = true ∧ (stA L i).1 ≠ 0 := by
  rw [at_own hk hi]
  have h := (sky_ok hk).2 i hi
  unfold okAt at h
  simp only [Bool.and_eq_true] at h
  refine ⟨?_, fun e => ?_⟩
  · simp_all
  · have : idB (stA L i).1 = true := by simp_all
    rw [e] at this
    exact absurd this (by decide)

set_option maxHeartbeats 8000000 in
set_option maxRecDepth 100000 in
theorem from_node (L : List St) (S : List D3) (ar br : Option Addr) (cr dr x r : Nat) (hk : skyB L = true) (hsp : spotsB S = true) (hdr : S.length ≤ dr) (hd9 : dr ≤ 9223372036854775807) (ih : FromOk L S ar br cr dr x r)
    (ids : List Int) (s : SeN) (ir : Option Addr) (er : Nat) (w : World) (hl : ids.length + (r + 1) = S.length) (hsm : smallI L ids) (hmany : s.many + 13 ^ (r + 1) ≤ 100000000) (hc6 : s.count ≤ 6) (he : ir = none → er = 0) (hI : IdsAt w x ir ids) (hst : SeSt w x L S ar br cr dr s) (hp : ¬ cntN ids + (r + 1) < s.count) :
    Calls Tryz.prog 67 #[.pointer (some ⟨x, 0, none⟩), .slice ir ids.length er, .int .i64 (cntN ids : Int)] w fun e w' => (∃ v, e = .returned v) ∧ SeSt w' x L S ar br cr dr (fromN (fitF L S) (L.map (·.1)) (r + 1) ids s) ∧ w.grownBy w' (some x) := by
  have hn12 : L.length ≤ 12 := (sky_ok hk).1
  have hm6 : S.length ≤ 6 := (spots_ok hsp).1
  have hAl : (L.map (·.1)).length = L.length := List.length_map _
  have HF := hide (fromN_node (F := fitF L S) (A := L.map (·.1)) hp)
  have HIH := hide ih
  have HE := hide he
  have HSM := hide hsm
  have HS := hide hst
  have HI0 := hide hI
  have cF : Hid (∀ (id : Int) (W : World), smallB (atV L L.length id).1 (atV L L.length id).2.1 (atV L L.length id).2.2 = true → Stars W ar L L.length → Dirs W br S S.length → Nums W ir ids ids.length → Calls Tryz.prog 83 #[.slice ar L.length cr, .slice br (ids.length + 1) dr, .slice ir ids.length er, .int .i64 id] W fun e w' => e = .returned (.bool (fitF L S ids id)) ∧ Below W.heap.size W w') :=
    hide (fun id W h1 h2 h3 h4 => l06Fits_any L S ids ids.length id ar br ir cr dr er W (by omega) hn12 h2 (h3.less (by omega)) h4 (fun i hi => okV_wide ((spots_ok hsp).2 i (by omega))) h1 (fun i hi h0 => hsm i hi h0))
  have HMB : Hid (∀ i, i ≤ L.length → (loopN (fitF L S) (L.map (·.1)) r ids s i).many + 13 ^ r ≤ 100000000) := hide (fun i hi => by
    have h1 := loopN_many (fitF L S) (L.map (·.1)) (by omega) r ids s i (by omega)
    have h2 : i * 13 ^ r ≤ 12 * 13 ^ r := Nat.mul_le_mul_right _ (by omega)
    rw [Nat.pow_succ] at hmany
    omega)
  have HCB : Hid (∀ i, i ≤ L.length → (loopN (fitF L S) (L.map (·.1)) r ids s i).count ≤ 6) := hide (fun i hi => loop_count (fitF L S) (L.map (·.1)) r ids s hc6 (by omega) i (by omega))
  have hc := cntN_le ids
  have hkm : ids.length + 1 ≤ S.length := by omega
  have hk6 : ids.length ≤ 6 := by omega
  have hq : ¬ (cntN ids + S.length - ids.length < s.count) := by omega
  obtain ⟨⟨v, h1, h2⟩, hf, hs, hd, a1, a2⟩ := hst
  obtain ⟨c0, c1, c2, c3, c4⟩ := h1
  have r1 := cell_regrown c1
  have r3 := cell_regrown c3
  clear h2 hf hs hd a1 a2 c0 c1 c2 c3 c4 hI ih he hsm hmany hp
  have hq' : ¬ (cntN ids : Int) + (S.length : Int) - (ids.length : Int) < (s.count : Int) := by omega
  have hne : ¬ (ids.length : Int) = (S.length : Int) := by omega
  have e31 : ((ids.length : Int) == (S.length : Int)) = false := by rw [beq_eq_false_iff_ne]; exact hne
  go_enter Tryz.func67, Tryz.ntmps67
  go_wp2_with fail
  refine wp_region_quiet_below (by kernel_rfl) (by kernel_rfl) ?_
  repeat (go_big_quiet_step (fail))
  refine wpQuiet_nil ?_
  intro _ hw'
  obtain ⟨⟨dq, osq⟩, hw''⟩ := hw'
  subst hw''
  have hx := below_regrown w dq osq
  generalize grow (redrawn w dq) osq = w1 at hx ⊢
  have S1 := hide ((unhide HS).kept hx)
  have I1 := hide ((unhide HI0).grown (grownB1 (x := x) hx))
  have G1 := hide (grownB1 (x := x) hx)
  clear hx r1 r3 HS
  obtain ⟨⟨v, h1, h2⟩, hf, hs, hd, a1, a2⟩ := unhide S1
  obtain ⟨c0, c1, c2, c3, c4⟩ := h1
  clear h2 hf hs hd a1 a2
  go_wp2_with fail
  go_loopw [7] (fun i wr => ∃ k : Nat, k ≤ L.length ∧ i = .int .i64 k ∧ Hid (SeSt wr x L S ar br cr dr (loopN (fitF L S) (L.map (·.1)) r ids s k)) ∧ Hid (w.grownBy wr (some x))) (fun i _ => L.length - (intOf i).toNat)
  case atStart => exact ⟨0, Nat.zero_le _, rfl, hide (by rw [loopN_zero]; exact unhide S1), G1⟩
  case round =>
    clear c0 c1 c2 c3 c4 S1 G1 I1
    obtain ⟨k, hkl, rfl, HSt, HG⟩ := hrel
    have HI := hide ((unhide HI0).grown (unhide HG))
    obtain ⟨⟨v, h1, h2⟩, hf, hs, hd, a1, a2⟩ := unhide HSt
    obtain ⟨c0, c1, c2, c3, c4⟩ := h1
    by_cases hkn : k < L.length
    · obtain ⟨⟨s1, s2, s3, s4⟩, hst⟩ : ∃ q, stA L k = q := ⟨_, rfl⟩
      have hsm1 := star_small hk hkn
      have HMA : Hid ((L.map (·.1)).getD k 0 = s1) := hide (by rw [map_at hkn, hst])
      rw [hst] at hsm1
      have HST := hide hst
      have hkn2 : (k : Int) < (L.length : Int) := by omega
      rcases hs with hs | ⟨b, o, rfl, hb, hcs⟩
      · omega
      have d0 := (hcs k hkn).1
      rw [hst] at d0
      have HS2 : Hid (Stars wr (some ⟨b, o, none⟩) L L.length) := hide (.inr ⟨b, o, rfl, hb, hcs⟩)
      have HD2 := hide hd
      have cFi := hide (fun (W : World) (hB : Below wr.heap.size wr W) => unhide cF s1 W hsm1.1 ((unhide HS2).kept hB) ((unhide HD2).kept hB) ((unhide HI).nums.kept hB))
      have HS1 := hide hsm1
      clear hcs hst h2 hf hd a1 a2 hsm1
      go_wp2_with fail
      have q0 := cell_regrown c0
      have q1 := cell_regrown c1
      have hkd : (ids.length : Int) + 1 ≤ (dr : Int) := by omega
      cases hfit : fitF L S ids s1
      · rw [hfit] at cFi
        refine wp_region_quiet_below (by kernel_rfl) (by kernel_rfl) ?_
        repeat (go_big_quiet_step (first | (with_reducible exact Calls.regrown_of (unhide cFi _ (below_regrown _ _ _)))))
        refine wpQuiet_nil ?_
        intro _ hw'
        obtain ⟨⟨dq2, osq2⟩, hw''⟩ := hw'
        subst hw''
        have hx := below_regrown wr dq2 osq2
        generalize grow (redrawn wr dq2) osq2 = W2 at hx ⊢
        have HR : Hid (loopN (fitF L S) (L.map (·.1)) r ids s (k + 1) = loopN (fitF L S) (L.map (·.1)) r ids s k) := hide (by rw [loopN_succ _ _ _ _ _ (by omega), unhide HMA, hfit]; rfl)
        have S5 : Hid (SeSt W2 x L S (some ⟨b, o, none⟩) br cr dr (loopN (fitF L S) (L.map (·.1)) r ids s (k + 1))) := hide (by rw [unhide HR]; exact (unhide HSt).kept hx)
        have G5 := hide (gxTrans (unhide HG) (grownB1 (x := x) hx))
        clear hx c0 c1 c2 c3 c4 d0 q0 q1 HSt HG HI cFi
        go_wp2_with fail
        go_roundw
        case rel => first | exact ⟨k + 1, by omega, by go_num, S5, G5⟩ | exact ⟨k + 1, by omega, by go_num, S5⟩
        case measure => simp [intOf]; omega
      · rw [hfit] at cFi
        refine wp_region_quiet_below (by kernel_rfl) (by kernel_rfl) ?_
        repeat (go_big_quiet_step (first | (with_reducible exact Calls.regrown_of (unhide cFi _ (below_regrown _ _ _)))))
        refine wpQuiet_nil ?_
        intro _ hw'
        obtain ⟨⟨dq2, osq2⟩, hw''⟩ := hw'
        subst hw''
        have hx := below_regrown wr dq2 osq2
        generalize grow (redrawn wr dq2) osq2 = W2 at hx ⊢
        have HR : Hid (loopN (fitF L S) (L.map (·.1)) r ids s (k + 1) = fromN (fitF L S) (L.map (·.1)) r (ids ++ [s1]) (loopN (fitF L S) (L.map (·.1)) r ids s k)) := hide (by rw [loopN_succ _ _ _ _ _ (by omega), unhide HMA, hfit]; rfl)
        replace HSt := hide ((unhide HSt).kept hx)
        replace HG := hide (gxTrans (unhide HG) (grownB1 (x := x) hx))
        replace HI := hide ((unhide HI).grown (grownB1 (x := x) hx))
        clear hx c0 c1 c2 c3 c4 d0 q0 q1 cFi HS2 HD2
        have hlx : x < W2.heap.size := by obtain ⟨⟨_, hh, _⟩, _⟩ := unhide HSt; exact hh.lt
        have HN := hide (ownI_none W2 W2.heap.size (Nat.le_refl _))
        have IA := hide ((unhide HI).grown (grownB1 (x := x) (below1 W2 (.cells #[] 2))))
        go_wp2_with (at_builtin; refine wpList_copyIds _ rfl _ _ rfl W2.heap.size W2.heap.size rfl (unhide HN) x ir er ids rfl (unhide HE) (unhide IA) hk6 ?d1 ?_)
        try case d1 => simp
        intro v1 V1 ho1 hg1
        obtain ⟨av, cv, rfl⟩ := own_form ho1
        have HB1 : Hid (Below W2.heap.size W2 V1) := hide ((below1 W2 (.cells #[] 2)).trans ⟨hg1.os, hg1.tape, hg1.output, hg1.size, fun k hk' => hg1.block k (by simp; omega) (fun e => by have := Option.some.inj e; omega)⟩)
        have O4 := hide (ownK ho1 (below1 V1 (.cells #[.int .i64 s1] 2)))
        have HC1 : Hid ((V1.alloc (.cells #[.int .i64 s1] 2)).cell? ⟨V1.heap.size, 0, none⟩ = some (.int .i64 s1)) := hide (by simp)
        clear ho1 hg1 IA HN
        go_wp2_with (at_builtin; refine wpList_oneMore _ rfl _ _ rfl W2.heap.size (.slice av ids.length cv) ids rfl (unhide O4) V1.heap.size s1 rfl (unhide HC1) hk6 ?d2 ?_)
        try case d2 => have := (unhide HB1).size; simp; omega
        intro v2 V2 ho2 hg2
        obtain ⟨aw, cw, rfl⟩ := own_form ho2
        have hrow : ∀ g, Value.ownBlock (.slice av ids.length cv) = some g → W2.heap.size ≤ g := fun g e => own_ge (unhide O4) g e
        have hB2 : Below W2.heap.size W2 V2 := (below_call (unhide HB1) (below1 V1 (.cells #[.int .i64 s1] 2))).trans ⟨hg2.os, hg2.tape, hg2.output, by have := (unhide HB1).size; have := hg2.size; simp at this ⊢; omega, fun k hk' => hg2.block k (by have := (unhide HB1).size; simp; omega) (fun e => by have := hrow k e.symm; omega)⟩
        have S5 := hide ((unhide HSt).kept hB2)
        have G5 := hide (gxTrans (unhide HG) (grownB1 (x := x) hB2))
        have I5 := hide (ids_own (ids := ids ++ [s1]) (by rw [List.length_append, List.length_singleton]; exact ho2) hlx)
        have E5 := hide (own_cap0 ho2)
        have M5 := hide (small_snoc (unhide HSM) (fun _ => (unhide HS1).1))
        have C5 : Hid ((cntN (ids ++ [s1]) : Int) = (cntN ids : Int) + 1) := hide (by rw [cntN_snoc]; rw [if_pos (unhide HS1).2]; omega)
        clear ho2 hg2 hrow hB2 HB1 O4 HC1 HSt HI HG hlx
        have cI := hide (fun (h1 : _) (h2 : _) => unhide HIH (ids ++ [s1]) (loopN (fitF L S) (L.map (·.1)) r ids s k) aw cw V2 (by rw [List.length_append, List.length_singleton]; omega) (unhide M5) h1 h2 (unhide E5) (unhide I5) (unhide S5))
        rw [unhide C5, List.length_append, List.length_singleton] at cI
        go_wp2_with fail
        refine (unhide cI (unhide HMB k (by omega)) (unhide HCB k (by omega))).mono ?_
        rintro e W6 ⟨⟨ve, rfl⟩, hS6, hG6⟩
        have S6 : Hid (SeSt W6 x L S (some ⟨b, o, none⟩) br cr dr (loopN (fitF L S) (L.map (·.1)) r ids s (k + 1))) := hide (by rw [unhide HR]; exact hS6)
        have G6 := hide (gxTrans (unhide G5) hG6)
        clear hS6 hG6 S5 G5 I5 E5 M5 C5 cI
        go_wp2_with fail
        go_roundw
        case rel => first | exact ⟨k + 1, by omega, by go_num, S6, G6⟩ | exact ⟨k + 1, by omega, by go_num, S6⟩ | exact ⟨.int .i64 ((k : Int) + 1), _, _, _, _, _, _, _, _, _, _, _, _, _, _, _, _, _, _, _, _, _, _, _, _, _, _, _, _, _, _, _, _, _, _, _, _, _, _, _, _, _, _, ⟨k + 1, by omega, by go_num, S6, G6⟩, rfl⟩
        case measure => simp [intOf]; omega
    · obtain rfl : k = L.length := by omega
      clear h2 hf hs hd a1 a2
      have hlx : x < wr.heap.size := by obtain ⟨⟨_, hh, _⟩, _⟩ := unhide HSt; exact hh.lt
      have HN := hide (ownI_none wr wr.heap.size (Nat.le_refl _))
      have IA := hide ((unhide HI).grown (grownB1 (x := x) (below1 wr (.cells #[] 2))))
      go_wp2_with (at_builtin; (refine wpList_copyIds _ rfl _ _ rfl wr.heap.size wr.heap.size rfl (unhide HN) x ir er ids rfl (unhide HE) (unhide IA) hk6 ?d3 ?_))
      try case d3 => simp
      intro v1 V1 ho1 hg1
      obtain ⟨av, cv, rfl⟩ := own_form ho1
      have HB1 : Hid (Below wr.heap.size wr V1) := hide ((below1 wr (.cells #[] 2)).trans ⟨hg1.os, hg1.tape, hg1.output, hg1.size, fun k hk' => hg1.block k (by simp; omega) (fun e => by have := Option.some.inj e; omega)⟩)
      have O4 := hide (ownK ho1 (below1 V1 (.cells #[.int .i64 0] 2)))
      have HC1 : Hid ((V1.alloc (.cells #[.int .i64 0] 2)).cell? ⟨V1.heap.size, 0, none⟩ = some (.int .i64 0)) := hide (by simp)
      clear ho1 hg1 IA HN
      go_wp2_with (at_builtin; refine wpList_oneMore _ rfl _ _ rfl wr.heap.size (.slice av ids.length cv) ids rfl (unhide O4) V1.heap.size 0 rfl (unhide HC1) hk6 ?d4 ?_)
      try case d4 => have := (unhide HB1).size; simp; omega
      intro v2 V2 ho2 hg2
      obtain ⟨aw, cw, rfl⟩ := own_form ho2
      have hrow : ∀ g, Value.ownBlock (.slice av ids.length cv) = some g → wr.heap.size ≤ g := fun g e => own_ge (unhide O4) g e
      have hB2 : Below wr.heap.size wr V2 := (below_call (unhide HB1) (below1 V1 (.cells #[.int .i64 0] 2))).trans ⟨hg2.os, hg2.tape, hg2.output, by have := (unhide HB1).size; have := hg2.size; simp at this ⊢; omega, fun k hk' => hg2.block k (by have := (unhide HB1).size; simp; omega) (fun e => by have := hrow k e.symm; omega)⟩
      have S5 := hide ((unhide HSt).kept hB2)
      have G5 := hide (gxTrans (unhide HG) (grownB1 (x := x) hB2))
      have I5 := hide (ids_own (ids := ids ++ [0]) (by rw [List.length_append, List.length_singleton]; exact ho2) hlx)
      have E5 := hide (own_cap0 ho2)
      have M5 := hide (small_snoc (unhide HSM) (fun h => absurd rfl h))
      have C5 : Hid ((cntN (ids ++ [0]) : Int) = (cntN ids : Int)) := hide (by rw [cntN_snoc]; simp)
      clear ho2 hg2 hrow hB2 HB1 O4 HC1 HSt HI HG hlx
      have cI := hide (fun (h1 : _) (h2 : _) => unhide HIH (ids ++ [0]) (loopN (fitF L S) (L.map (·.1)) r ids s L.length) aw cw V2 (by rw [List.length_append, List.length_singleton]; omega) (unhide M5) h1 h2 (unhide E5) (unhide I5) (unhide S5))
      rw [unhide C5, List.length_append, List.length_singleton] at cI
      go_wp2_with fail
      refine (unhide cI (unhide HMB _ (Nat.le_refl _)) (unhide HCB _ (Nat.le_refl _))).mono ?_
      rintro e W6 ⟨⟨ve, rfl⟩, hS6, hG6⟩
      have S6 := hide hS6
      have G6 := hide (gxTrans (unhide G5) hG6)
      clear hS6 hG6 S5 G5 I5 E5 M5 C5 cI
      go_wp2_with fail
      go_end0
      refine ⟨⟨_, rfl⟩, ?_, unhide G6⟩
      rw [unhide HF, hAl]
      exact unhide S6
end Go.Proofs.YtjdehbpgdplolaaGreatDoor

namespace Go.Proofs.YtjdehbpgdplolaaGreatDoor
open Go.RowKit Go.Sort
set_option linter.unusedVariables false
set_option linter.unusedSimpArgs false

theorem from_all (L : List St) (S : List D3) (ar br : Option Addr) (cr dr x : Nat) (hk : skyB L = true) (hsp : spotsB S = true) (hdr : S.length ≤ dr) (hd9 : dr ≤ 9223372036854775807) : ∀ r, FromOk L S ar br cr dr x r
  | 0 => fun ids s ir er w hl hsm hm hc he hI hst => by
    by_cases hp : cntN ids + 0 < s.count
    · exact from_prune L S ar br cr dr x 0 (spots_ok hsp).1 ids s ir er w hl hc hst hp
    · exact from_leaf L S ar br cr dr x (spots_ok hsp).1 ids s ir er w hl (by simpa using hm) hc he hI hst hp
  | r + 1 => fun ids s ir er w hl hsm hm hc he hI hst => by
    by_cases hp : cntN ids + (r + 1) < s.count
    · exact from_prune L S ar br cr dr x (r + 1) (spots_ok hsp).1 ids s ir er w hl hc hst hp
    · exact from_node L S ar br cr dr x r hk hsp hdr hd9 (from_all L S ar br cr dr x hk hsp hdr hd9 r) ids s ir er w hl hsm hm hc he hI hst hp
/-- what the search finds from the start -/
def idR (L : List St) (S : List D3) : SeN := fromN (fitF L S) (L.map (·.1)) S.length [] ⟨[], 3, 0⟩
def idIds (L : List St) (S : List D3) : List Int := if (idR L S).many = 1 then (idR L S).best else []
def idCnt (L : List St) (S : List D3) : Int := if (idR L S).many = 1 then ((idR L S).count : Int) else 0
def idCode (L : List St) (S : List D3) : Int := if (idR L S).many = 0 then 6 else if 1 < (idR L S).many then 11 else 0
/-- what is answered: a naming of its own, how many, a code -/
def OutI (w' : World) (B : Nat) (ids : List Int) (cnt code : Int) (e : Ending) : Prop := ∃ v, e = .returned (.agg #[v, .int .i64 cnt, .int .i64 code]) ∧ w'.ownsRow B 2 1 v ids.length (intL ids)
def IdO (w : World) (b : Nat) (v : Value) (c k : Int) : Prop := w.cell? ⟨b, 0, none⟩ = some v ∧ w.cell? ⟨b, 1, none⟩ = some (.int .i64 c) ∧ w.cell? ⟨b, 2, none⟩ = some (.int .i64 k)
theorem IdO.grown {w w' : World} {b : Nat} {v : Value} {c k : Int} {row : Option Nat} (h : IdO w b v c k) (hg : w.grownBy w' row) (hne : some b ≠ row) : IdO w' b v c k := ⟨cellG5 h.1 hg hne, cellG5 h.2.1 hg hne, cellG5 h.2.2 hg hne⟩
theorem IdO.kept {w w' : World} {b : Nat} {v : Value} {c k : Int} (h : IdO w b v c k) (hB : Below w.heap.size w w') : IdO w' b v c k := ⟨cellK5 h.1 hB, cellK5 h.2.1 hB, cellK5 h.2.2 hB⟩
theorem idO_set {w : World} {b : Nat} {v0 : Value} {c0 k0 : Int} (h : IdO w b v0 c0 k0) (v : Value) (c k : Int) : IdO (((w.setCell ⟨b, 0, none⟩ v).setCell ⟨b, 1, none⟩ (.int .i64 c)).setCell ⟨b, 2, none⟩ (.int .i64 k)) b v c k := by
  obtain ⟨h0, h1, h2⟩ := h
  refine ⟨?_, ?_, ?_⟩ <;> simp [go_sem, h0, h1, h2]
theorem res_l06 (T : Array Value) (X : World) (b : Nat) (v : Value) (c k : Int) (hT : T.getD 4 undef = .pointer (some ⟨b, 0, none⟩)) (h : IdO X b v c k) : (results Tryz.f44 T).run Tryz.prog X = .ok (.agg #[v, .int .i64 c, .int .i64 k]) X := by
  obtain ⟨h0, h1, h2⟩ := h
  simp only [Array.getD_eq_getD_getElem?] at hT
  simp [results, Tryz.results44, go_sem, hT, h0, h1, h2]
theorem ownFarI {w : World} {B b n : Nat} {v : Value} {xs : List Value} (h : w.ownsRow B 2 1 v n xs) (hb : b < B) (o : Nat) (y : Value) : (w.setCell ⟨b, o, none⟩ y).ownsRow B 2 1 v n xs := by
  obtain ⟨h1, h2⟩ := h
  refine ⟨h1, ?_⟩
  rcases h2 with h2 | ⟨g, c', cur, e, hg, hh, r⟩
  · exact .inl h2
  · exact .inr ⟨g, c', cur, e, hg, by rw [Below.heap_setCell w ⟨b, o, none⟩ y g (by show g ≠ b; omega)]; exact hh, r⟩

set_option maxHeartbeats 4000000 in
set_option maxRecDepth 100000 in
theorem l06Identify_any (L : List St) (S : List D3) (ar br : Option Addr) (cr dr : Nat) (w : World) (hk : skyB L = true) (hsp : spotsB S = true) (hdr : S.length ≤ dr) (hd9 : dr ≤ 9223372036854775807) (hS : Stars w ar L L.length) (hD : Dirs w br S S.length) (hA : ∀ y, ar = some y → y.block < w.heap.size) (hB : ∀ y, br = some y → y.block < w.heap.size) :
    Calls Tryz.prog 44 #[.slice ar L.length cr, .slice br S.length dr] w fun e w' => OutI w' w.heap.size (idIds L S) (idCnt L S) (idCode L S) e ∧ Below w.heap.size w w' := by
  have B0 := below2 w (.cells #[.slice none 0 0, .int .i64 0, .int .i64 0] 79) (.cells #[.slice ar L.length cr, .slice br S.length dr, .slice none 0 0, .int .i64 3, .int .i64 0] 104)
  have R0 : IdO ((w.alloc (.cells #[.slice none 0 0, .int .i64 0, .int .i64 0] 79)).alloc (.cells #[.slice ar L.length cr, .slice br S.length dr, .slice none 0 0, .int .i64 3, .int .i64 0] 104)) w.heap.size (.slice none 0 0) 0 0 := IdO.kept (w := w.alloc (.cells #[.slice none 0 0, .int .i64 0, .int .i64 0] 79)) (by refine ⟨?_, ?_, ?_⟩ <;> simp) (below1 _ _)
  have F0 : FreeX ((w.alloc (.cells #[.slice none 0 0, .int .i64 0, .int .i64 0] 79)).alloc (.cells #[.slice ar L.length cr, .slice br S.length dr, .slice none 0 0, .int .i64 3, .int .i64 0] 104)) w.heap.size := FreeX.kept (w := w.alloc (.cells #[.slice none 0 0, .int .i64 0, .int .i64 0] 79)) (fun i => by simp) (by simp) (below1 _ _)
  have St0 : SeSt ((w.alloc (.cells #[.slice none 0 0, .int .i64 0, .int .i64 0] 79)).alloc (.cells #[.slice ar L.length cr, .slice br S.length dr, .slice none 0 0, .int .i64 3, .int .i64 0] 104)) (w.heap.size + 1) L S ar br cr dr ⟨[], 3, 0⟩ := by
    refine ⟨⟨.slice none 0 0, ?_, World.ownsRow_nil _ _ _ _⟩, ?_, hS.kept B0, hD.kept B0, fun y e => by have := hA y e; omega, fun y e => by have := hB y e; omega⟩
    · refine ⟨?_, ?_, ?_, ?_, ?_⟩ <;> simp
    · intro i; simp
  have cM := hide (from_all L S ar br cr dr (w.heap.size + 1) hk hsp hdr hd9 S.length [] ⟨[], 3, 0⟩ none 0 _ (by simp) (fun i hi => absurd hi (by simp)) (by have h6 := (spots_ok hsp).1; have : 13 ^ S.length ≤ 13 ^ 6 := Nat.pow_le_pow_right (by decide) h6; simp only; omega) (by decide) (fun _ => rfl) (.inl ⟨rfl, rfl⟩) St0)
  have HB := hide B0
  have HR := hide R0
  have HF := hide F0
  have hsz : ((w.alloc (.cells #[.slice none 0 0, .int .i64 0, .int .i64 0] 79)).alloc (.cells #[.slice ar L.length cr, .slice br S.length dr, .slice none 0 0, .int .i64 3, .int .i64 0] 104)).heap.size = w.heap.size + 2 := by simp
  clear B0 R0 F0 St0 hS hD hA hB
  go_enter Tryz.func44, Tryz.ntmps44
  go_wp2_with fail
  generalize hW : (w.alloc (.cells #[.slice none 0 0, .int .i64 0, .int .i64 0] 79)).alloc (.cells #[.slice ar L.length cr, .slice br S.length dr, .slice none 0 0, .int .i64 3, .int .i64 0] 104) = W at *
  clear hW
  refine (unhide cM).mono ?_
  rintro e w1 ⟨⟨ve, rfl⟩, hS1, hG1⟩
  have HI : Hid (fromN (fitF L S) (L.map (·.1)) S.length [] ⟨[], 3, 0⟩ = idR L S) := hide rfl
  rw [unhide HI] at hS1
  have B1 : Hid (Below w.heap.size w w1) := hide ((unhide HB).trans ⟨hG1.os, hG1.tape, hG1.output, by have := hG1.size; omega, fun k hk' => hG1.block k (by omega) (fun e => by have := Option.some.inj e; omega)⟩)
  have R1 := hide ((unhide HR).grown hG1 (fun e => by have := Option.some.inj e; omega))
  have F1 := hide ((unhide HF).grown (by omega) hG1 (fun e => by have := Option.some.inj e; omega))
  obtain ⟨⟨vb, h1, h2⟩, hf, hs, hd, a1, a2⟩ := hS1
  have O1 := hide h2
  obtain ⟨av, cv, rfl⟩ := own_form h2
  have H1 := hide h1
  clear hf hs hd a1 a2 h2 hG1 HB HR HF cM
  have hO1 : (idR L S).many = 0 → Hid (idIds L S = [] ∧ idCnt L S = 0 ∧ idCode L S = 6) := fun h => hide (by unfold idIds idCnt idCode; rw [if_neg (by omega), if_neg (by omega), if_pos h]; exact ⟨rfl, rfl, rfl⟩)
  have hO2 : 1 < (idR L S).many → Hid (idIds L S = [] ∧ idCnt L S = 0 ∧ idCode L S = 11) := fun h => hide (by unfold idIds idCnt idCode; rw [if_neg (by omega), if_neg (by omega), if_neg (by omega), if_pos h]; exact ⟨rfl, rfl, rfl⟩)
  have hO3 : (idR L S).many = 1 → Hid (idIds L S = (idR L S).best ∧ idCnt L S = ((idR L S).count : Int) ∧ idCode L S = 0) := fun h => hide (by unfold idIds idCnt idCode; rw [if_pos h, if_pos h, if_neg (by omega), if_neg (by omega)]; exact ⟨rfl, rfl, rfl⟩)
  generalize idR L S = s at *
  obtain ⟨bst, ct, mn⟩ := s
  dsimp only at h1 O1 hO1 hO2 hO3
  obtain ⟨c0, c1, c2, c3, c4⟩ := h1
  obtain ⟨r0, r1, r2⟩ := unhide R1
  have f0 := unhide F1 0
  have f1 := unhide F1 1
  have f2 := unhide F1 2
  by_cases m0 : mn = 0
  · have HO := hO1 m0
    subst m0
    clear hO1 hO2 hO3
    go_wp2_with fail
    clear c0 c1 c2 c3 c4 r0 r1 r2 f0 f1 f2
    refine bodyPost_ret (v := .agg #[.slice none 0 0, .int .i64 0, .int .i64 6]) (res_l06 _ _ w.heap.size _ 0 6 rfl (idO_set (unhide R1) _ _ _)) rfl ⟨?_, ((((unhide B1).setCell (Nat.le_refl _) _).setCell (Nat.le_refl _) _).setCell (Nat.le_refl _) _)⟩
    rw [(unhide HO).1, (unhide HO).2.1, (unhide HO).2.2]
    exact ⟨_, rfl, World.ownsRow_nil _ _ _ _⟩
  by_cases m1 : 1 < mn
  · have HO := hO2 m1
    have m0' : ¬ (mn : Int) = 0 := by omega
    have m1' : (1 : Int) < (mn : Int) := by omega
    clear hO1 hO2 hO3
    go_wp2_with fail
    clear c0 c1 c2 c3 c4 r0 r1 r2 f0 f1 f2
    refine bodyPost_ret (v := .agg #[.slice none 0 0, .int .i64 0, .int .i64 11]) (res_l06 _ _ w.heap.size _ 0 11 rfl (idO_set (unhide R1) _ _ _)) rfl ⟨?_, ((((unhide B1).setCell (Nat.le_refl _) _).setCell (Nat.le_refl _) _).setCell (Nat.le_refl _) _)⟩
    rw [(unhide HO).1, (unhide HO).2.1, (unhide HO).2.2]
    exact ⟨_, rfl, World.ownsRow_nil _ _ _ _⟩
  · obtain rfl : mn = 1 := by omega
    have HO := hO3 rfl
    clear hO1 hO2 hO3 m0 m1
    go_wp2_with fail
    refine wp_region_held_drew (S := (fun w' => w'.cell? ⟨w.heap.size + 1, 2, none⟩ = some (.slice av bst.length cv) ∧ w'.cell? ⟨w.heap.size + 1, 3, none⟩ = some (.int .i64 (ct : Int)))) (by kernel_rfl) ?_ (fun hHeld => ?_)
    · exact ⟨c2, c3⟩
    refine wpAnyH_take (i := 0) (v := ?_) rfl (by kernel_rfl) (by kernel_rfl) (by kernel_rfl) (fun _ _ _ h => h) (Or.inl ⟨by rfl, ?_⟩) (by assumption) ?_
    rotate_left
    · intro W0 hSw; (try dsimp only at hSw); go_simp <;> with_reducible rfl
    try simp only [Act.put, List.setIfInBounds_toArray, List.set_cons_zero, List.set_cons_succ]
    refine wpAnyH_take (i := 1) (v := ?_) rfl (by kernel_rfl) (by kernel_rfl) (by kernel_rfl) (fun _ _ _ h => h) (Or.inl ⟨by rfl, ?_⟩) (by assumption) ?_
    rotate_left
    · intro W0 hSw; (try dsimp only at hSw); go_simp <;> with_reducible rfl
    try simp only [Act.put, List.setIfInBounds_toArray, List.set_cons_zero, List.set_cons_succ]
    refine wpAnyH_take (i := 2) (v := ?_) rfl (by kernel_rfl) (by kernel_rfl) (by kernel_rfl) (fun _ _ _ h => h) (Or.inl ⟨by rfl, ?_⟩) (by assumption) ?_
    rotate_left
    · intro W0 hSw; (try dsimp only at hSw); go_simp <;> with_reducible rfl
    try simp only [Act.put, List.setIfInBounds_toArray, List.set_cons_zero, List.set_cons_succ]
    refine wpAnyH_take (i := 3) (v := ?_) rfl (by kernel_rfl) (by kernel_rfl) (by kernel_rfl) (fun _ _ _ h => h) (Or.inl ⟨by rfl, ?_⟩) (by assumption) ?_
    rotate_left
    · intro W0 hSw; (try dsimp only at hSw); go_simp <;> with_reducible rfl
    try simp only [Act.put, List.setIfInBounds_toArray, List.set_cons_zero, List.set_cons_succ]
    refine wpAnyH_take (i := 4) (v := ?_) rfl (by kernel_rfl) (by kernel_rfl) (by kernel_rfl) (fun _ _ _ h => h) (Or.inl ⟨by rfl, ?_⟩) (by assumption) ?_
    rotate_left
    · intro W0 hSw; (try dsimp only at hSw); go_simp <;> with_reducible rfl
    try simp only [Act.put, List.setIfInBounds_toArray, List.set_cons_zero, List.set_cons_succ]
    refine wpAnyH_take (i := 5) (v := ?_) rfl (by kernel_rfl) (by kernel_rfl) (by kernel_rfl) (fun _ _ _ h => h) (Or.inl ⟨by rfl, ?_⟩) (by assumption) ?_
    rotate_left
    · intro W0 hSw; (try dsimp only at hSw); go_simp <;> with_reducible rfl
    try simp only [Act.put, List.setIfInBounds_toArray, List.set_cons_zero, List.set_cons_succ]
    refine wpAnyH_take (i := 6) (v := ?_) rfl (by kernel_rfl) (by kernel_rfl) (by kernel_rfl) (fun _ _ _ h => h) (Or.inl ⟨by rfl, ?_⟩) (by assumption) ?_
    rotate_left
    · intro W0 hSw; (try dsimp only at hSw); go_simp <;> with_reducible rfl
    try simp only [Act.put, List.setIfInBounds_toArray, List.set_cons_zero, List.set_cons_succ]
    refine wpAnyH_take (i := 7) (v := ?_) rfl (by kernel_rfl) (by kernel_rfl) (by kernel_rfl) (fun _ _ _ h => h) (Or.inl ⟨by rfl, ?_⟩) (by assumption) ?_
    rotate_left
    · intro W0 hSw; (try dsimp only at hSw); go_simp <;> with_reducible rfl
    try simp only [Act.put, List.setIfInBounds_toArray, List.set_cons_zero, List.set_cons_succ]
    refine wpAnyH_take (i := 8) (v := ?_) rfl (by kernel_rfl) (by kernel_rfl) (by kernel_rfl) (fun _ _ _ h => h) (Or.inl ⟨by rfl, ?_⟩) (by assumption) ?_
    rotate_left
    · intro W0 hSw; (try dsimp only at hSw); go_simp <;> with_reducible rfl
    try simp only [Act.put, List.setIfInBounds_toArray, List.set_cons_zero, List.set_cons_succ]
    have R1d : IdO w1.drew w.heap.size (.slice none 0 0) 0 0 := unhide R1
    have F1d : FreeX w1.drew w.heap.size := unhide F1
    have B1d : Below w.heap.size w w1.drew := (unhide B1).drew
    have O1d := ownK (unhide O1) (Below.refl w1.heap.size w1).drew
    have d2 : w1.drew.cell? ⟨w.heap.size + 1, 2, none⟩ = some (.slice av bst.length cv) := c2
    have d3 : w1.drew.cell? ⟨w.heap.size + 1, 3, none⟩ = some (.int .i64 (ct : Int)) := c3
    generalize hV : w1.drew = V at *
    clear hV c0 c1 c2 c3 c4 r0 r1 r2 f0 f1 f2
    obtain ⟨r0, r1, r2⟩ := R1d
    have f0 := F1d 0
    have f1 := F1d 1
    have f2 := F1d 2
    refine wpAnyH_ready (rs := [9]) (by kernel_rfl) (by simp) ?_
    refine AllReadyH.cons rfl (fun K hK => ?_) AllReadyH.nil
    go_simp
    refine hK.out _ _ ?_ (fun hHeld1 => ?_)
    · refine ⟨?_, ?_⟩
      · rw [World.cell?_setCell_far _ _ _ _ (by show w.heap.size ≠ w.heap.size + 1; omega), World.cell?_setCell_far _ _ _ _ (by show w.heap.size ≠ w.heap.size + 1; omega), World.cell?_setCell_far _ _ _ _ (by show w.heap.size ≠ w.heap.size + 1; omega)]
        exact d2
      · rw [World.cell?_setCell_far _ _ _ _ (by show w.heap.size ≠ w.heap.size + 1; omega), World.cell?_setCell_far _ _ _ _ (by show w.heap.size ≠ w.heap.size + 1; omega), World.cell?_setCell_far _ _ _ _ (by show w.heap.size ≠ w.heap.size + 1; omega)]
        exact d3
    clear hK K hHeld
    refine wpAnyH_done (by kernel_rfl) ?_ _
    clear hHeld1
    go_wp2_with fail
    refine bodyPost_ret (v := .agg #[.slice av bst.length cv, .int .i64 (ct : Int), .int .i64 0]) (res_l06 _ _ w.heap.size _ (ct : Int) 0 rfl (idO_set ⟨r0, r1, r2⟩ _ _ _)) rfl ⟨?_, (((B1d.setCell (Nat.le_refl _) _).setCell (Nat.le_refl _) _).setCell (Nat.le_refl _) _)⟩
    rw [(unhide HO).1, (unhide HO).2.1, (unhide HO).2.2]
    exact ⟨_, rfl, oLower (ownFarI (ownFarI (ownFarI O1d (by omega) _ _) (by omega) _ _) (by omega) _ _) (by omega)⟩
end Go.Proofs.YtjdehbpgdplolaaGreatDoor

namespace Go.Proofs.YtjdehbpgdplolaaGreatDoor
open Go.RowKit Go.Sort
set_option linter.unusedVariables false

def idOk (L : List St) (S : List D3) : Bool := skyB L && spotsB S
def identL (L : List St) (S : List D3) : List Int := if 400 < L.length ∨ 400 < S.length then [] else if idOk L S = true then idIds L S else []
def identC (L : List St) (S : List D3) : Int := if 400 < L.length ∨ 400 < S.length then 0 else if idOk L S = true then idCnt L S else 0
def identK (L : List St) (S : List D3) : Int := if 400 < L.length ∨ 400 < S.length then 2 else if idOk L S = true then idCode L S else 1
theorem ident_big {L : List St} {S : List D3} (h : 400 < L.length ∨ 400 < S.length) : identL L S = [] ∧ identC L S = 0 ∧ identK L S = 2 := by unfold identL identC identK; rw [if_pos h, if_pos h, if_pos h]; exact ⟨rfl, rfl, rfl⟩
theorem ident_no {L : List St} {S : List D3} (h : ¬ (400 < L.length ∨ 400 < S.length)) (h1 : idOk L S = false) : identL L S = [] ∧ identC L S = 0 ∧ identK L S = 1 := by unfold identL identC identK; rw [if_neg h, if_neg h, if_neg h, h1]; exact ⟨rfl, rfl, rfl⟩
theorem ident_yes {L : List St} {S : List D3} (h : ¬ (400 < L.length ∨ 400 < S.length)) (h1 : idOk L S = true) : identL L S = idIds L S ∧ identC L S = idCnt L S ∧ identK L S = idCode L S := by unfold identL identC identK; rw [if_neg h, if_neg h, if_neg h, if_pos h1, if_pos h1, if_pos h1]; exact ⟨rfl, rfl, rfl⟩
theorem outI_none {w' : World} {B : Nat} {L : List St} {S : List D3} {k : Int} (h : identL L S = [] ∧ identC L S = 0 ∧ identK L S = k) : OutI w' B (identL L S) (identC L S) (identK L S) (.returned (.agg #[.slice none 0 0, .int .i64 0, .int .i64 k])) := by
  rw [h.1, h.2.1, h.2.2]
  exact ⟨_, rfl, World.ownsRow_nil _ _ _ _⟩

end Go.Proofs.YtjdehbpgdplolaaGreatDoor

namespace Go.Proofs.YtjdehbpgdplolaaGreatDoor
open Go.RowKit Go.Sort
set_option linter.unusedVariables false

def stV (s : St) : Value := .agg #[.int .i64 s.1, .int .i64 s.2.1, .int .i64 s.2.2.1, .int .i64 s.2.2.2]
def starD (s : St) : DataW Unit := .agg [.lit (.int .i64 s.1), .lit (.int .i64 s.2.1), .lit (.int .i64 s.2.2.1), .lit (.int .i64 s.2.2.2)]
/-- how a star within the map reads -/
def starE (v : Value) : Option (DataW Unit × List MemPlace) := match v with
  | .agg ⟨[.int .i64 a, .int .i64 b, .int .i64 c, .int .i64 d]⟩ => some (starD (a, b, c, d), [])
  | _ => none
theorem starE_mk (s : St) : starE (stV s) = some (starD s, []) := rfl
theorem starE_inv {v : Value} {s : St} {ps : List MemPlace} (h : starE v = some (starD s, ps)) : v = stV s := by
  unfold starE at h
  split at h
  · simp only [Option.some.injEq, Prod.mk.injEq, starD, DataW.agg.injEq, List.cons.injEq, DataW.lit.injEq, Lit.int.injEq, true_and, and_true] at h
    obtain ⟨⟨h1, h2, h3, h4⟩, _⟩ := h
    subst h1 h2 h3 h4
    rfl
  · cases h
def zeroSt : St := (0, 0, 0, 0)
/-- who is named at place i -/
def nameSt (L : List St) (ids : List Int) (i : Nat) : St := if ids.getD i 0 ≠ 0 then (ids.getD i 0, atV L L.length (ids.getD i 0)) else zeroSt
def MapIs (D : DataW Unit) (L : List St) (ids : List Int) : Prop := ∀ i : Nat, i < 7 → Maps.has D (.int .i64 (i : Int)) = decide (ids.getD i 0 ≠ 0) ∧ D.atKey (.int .i64 (i : Int)) (starD zeroSt) = starD (nameSt L ids i)
/-- block b is the map of who is named -/
def NamedAt (w : World) (b n : Nat) (L : List St) (ids : List Int) : Prop := ∃ D, w.ownsMap Tryz.prog 3 starE b n D ∧ MapIs D L ids
theorem wf_nat (i : Nat) (h : i < 7) : (Lit.int .i64 (i : Int)).wf = true := by
  rcases (by omega : i = 0 ∨ i = 1 ∨ i = 2 ∨ i = 3 ∨ i = 4 ∨ i = 5 ∨ i = 6) with rfl | rfl | rfl | rfl | rfl | rfl | rfl <;> decide
theorem keyI (i : Nat) (h : i < 7) : keyOf Tryz.prog 3 (.int .i64 (i : Int)) = some (.int .i64 (i : Int)) := Maps.keyOf_int_mk Tryz.underlying3 (wf_nat i h)
theorem zeroStar (w : World) : (zeroValue 85).run Tryz.prog w = .ok (stV zeroSt) w := by kernel_rfl
/-- what is looked up at place i -/
theorem NamedAt.look {w : World} {b n : Nat} {L : List St} {ids : List Int} (h : NamedAt w b n L ids) (i : Nat) (hi : i < 7) : (Instr.lookup 156 (.map (some b)) (.int .i64 (i : Int)) false).run Tryz.prog w = .ok (stV (nameSt L ids i)) w := by
  obtain ⟨D, hD, hM⟩ := h
  obtain ⟨v, ps, hr, hv⟩ := hD.lookup (Maps.int_keyed Tryz.underlying3) Tryz.underlying156 (zeroStar w) (starE_mk zeroSt) (keyI i hi)
  rw [(hM i hi).2] at hv
  rw [starE_inv hv] at hr
  exact hr
theorem NamedAt.lookOk {w : World} {b n : Nat} {L : List St} {ids : List Int} (h : NamedAt w b n L ids) (i : Nat) (hi : i < 7) : (Instr.lookup 156 (.map (some b)) (.int .i64 (i : Int)) true).run Tryz.prog w = .ok (.tuple #[stV (nameSt L ids i), .bool (decide (ids.getD i 0 ≠ 0))]) w := by
  obtain ⟨D, hD, hM⟩ := h
  obtain ⟨v, ps, hr, hv⟩ := hD.look_ok (Maps.int_keyed Tryz.underlying3) Tryz.underlying156 (zeroStar w) (starE_mk zeroSt) (keyI i hi)
  rw [(hM i hi).2] at hv
  rw [starE_inv hv, (hM i hi).1] at hr
  exact hr
theorem NamedAt.kept {w w' : World} {b n : Nat} {L : List St} {ids : List Int} {row : Option Nat} (h : NamedAt w b n L ids) (hg : w.grownBy w' row) (hne : some b ≠ row) : NamedAt w' b n L ids := by
  obtain ⟨D, hD, hM⟩ := h
  exact ⟨D, hD.kept hg hne, hM⟩
end Go.Proofs.YtjdehbpgdplolaaGreatDoor
