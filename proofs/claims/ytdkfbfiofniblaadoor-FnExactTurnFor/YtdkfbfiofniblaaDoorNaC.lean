/- Named: the program's. -/
import Derived.Test.YtdkfbfiofniblaaDoorNaB
namespace Go.Proofs.YtdkfbfiofniblaaDoor
open Go.RowKit Go.Sort
set_option linter.unusedVariables false

theorem named_no1 {L : List St} {S : List D3} {ids : List Int} (h : skyB L = false) : namedB L S ids = false := by unfold namedB; rw [h]; rfl
theorem named_no2 {L : List St} {S : List D3} {ids : List Int} (h : spotsB S = false) : namedB L S ids = false := by unfold namedB; rw [h, Bool.and_false]; rfl
theorem named_no3 {L : List St} {S : List D3} {ids : List Int} (h : ids.length ≠ S.length) : namedB L S ids = false := by unfold namedB; rw [decide_eq_false h, Bool.and_false]; rfl
theorem named_yes {L : List St} {S : List D3} {ids : List Int} (h1 : skyB L = true) (h2 : spotsB S = true) (h3 : ids.length = S.length) : namedB L S ids = allFit (sightsTo L S ids ids.length) (sightsTo L S ids ids.length).length := by unfold namedB; rw [h1, h2, decide_eq_true h3]; rfl
theorem allFit_yes {A : List Sg} {n : Nat} (h : ∀ i, i < n → (!zeroD (sgA A i).2.2 && fitsB A (sgA A i) i) = true) : allFit A n = true := by
  unfold allFit
  rw [List.all_eq_true]
  exact fun i hi => h i (List.mem_range.1 hi)
theorem allFit_no {A : List Sg} {n i : Nat} (hi : i < n) (h : (!zeroD (sgA A i).2.2 && fitsB A (sgA A i) i) = false) : allFit A n = false := by
  unfold allFit
  rw [List.all_eq_false]
  exact ⟨i, List.mem_range.2 hi, by rw [h]; simp⟩
theorem own_capMax {w : World} {B : Nat} {a : Option Addr} {c n m : Nat} {t : TypeId} {xs : List Value} (h : w.ownsRow B t m (.slice a n c) n xs) : c ≤ maxLen := by
  rcases h.2 with ⟨h1, h0⟩ | ⟨g, cap, cur, hv, hb, hg, hnc, hcm, hcs, htake⟩
  · injection h1 with _ e2 e3
    omega
  · injection hv with e1 e2 e3
    omega
set_option maxHeartbeats 4000000 in
set_option maxRecDepth 100000 in
theorem implNamed_any (L : List St) (S : List D3) (ids : List Int) (ar br ir : Option Addr) (cr dr er : Nat) (p : Addr) (w : World) (hn : L.length ≤ 1048576) (hcap : L.length ≤ cr) (hc9 : cr ≤ 9223372036854775807) (hn2 : S.length ≤ 1048576) (hcap2 : S.length ≤ dr) (hd9 : dr ≤ 9223372036854775807) (hn3 : ids.length ≤ 1048576) (hS : Stars w ar L L.length) (hD : Dirs w br S S.length) (hI : Nums w ir ids ids.length) (hE : ErrSky p w) :
    Calls Tryd.prog 13 #[.slice ar L.length cr, .slice br S.length dr, .slice ir ids.length er] w fun e w' => e = .returned (.bool (namedB L S ids)) ∧ Below w.heap.size w w' := by
  have cK := hide (fun (W : World) hW hE => skyRight_any L ar cr p W hn hcap hc9 hW hE)
  have cP := hide (fun (W : World) hW => spotsRight_any S br dr W hn2 hcap2 hd9 hW)
  have cO : Hid (skyB L = true → S.length ≤ 6 → ids.length = S.length → ∀ W : World, Stars W ar L L.length → Dirs W br S S.length → Nums W ir ids ids.length → ErrSky p W → Calls Tryd.prog 39 #[.slice ar L.length cr, .slice br S.length dr, .slice ir ids.length er] W fun e w' => (∃ v, e = .returned v ∧ w'.ownsRow W.heap.size 70 7 v (sightsTo L S ids ids.length).length (flatSg (sightsTo L S ids ids.length))) ∧ Below W.heap.size W w') := hide (fun hk hm hl W h1 h2 h3 h4 => sightsOf_any L S ids ids.length ar br ir cr dr er p W hk hn hcap hc9 hm hl h1 h2 h3 h4)
  have H1 : Hid (skyB L = false → namedB L S ids = false) := hide named_no1
  have H2 : Hid (spotsB S = false → namedB L S ids = false) := hide named_no2
  have H3 : Hid (ids.length ≠ S.length → namedB L S ids = false) := hide named_no3
  have H4 : Hid (skyB L = true → spotsB S = true → ids.length = S.length → namedB L S ids = allFit (sightsTo L S ids ids.length) (sightsTo L S ids ids.length).length) := hide named_yes
  have H6 : Hid (spotsB S = true → S.length ≤ 6) := hide (fun h => (spots_ok h).1)
  have hAL := sights_len L S ids ids.length
  have HS := hide hS
  have HD := hide hD
  have HI := hide hI
  have HE := hide hE
  clear hS hD hI hE
  generalize namedB L S ids = R at *
  generalize sightsTo L S ids ids.length = A at *
  generalize S.length = m at *
  generalize ids.length = k at *
  generalize L.length = n at *
  go_enter Tryd.func13, Tryd.ntmps13
  go_wp2_with fail
  refine (unhide cK _ (unhide HS) (unhide HE)).mono ?_
  rintro e W1 ⟨rfl, hx⟩
  have B1 := hide hx
  clear hx
  cases hk : skyB L
  · obtain rfl := unhide H1 hk
    go_wp2_with fail
    go_ret
    exact ⟨rfl, unhide B1⟩
  go_wp2_with fail
  refine (unhide cP _ ((unhide HD).kept (unhide B1))).mono ?_
  rintro e W2 ⟨rfl, hx⟩
  have B2 := hide (below_call (unhide B1) hx)
  clear hx B1
  cases hp : spotsB S
  · obtain rfl := unhide H2 hp
    go_wp2_with fail
    go_ret
    exact ⟨rfl, unhide B2⟩
  by_cases hl0 : k ≠ m
  · obtain rfl := unhide H3 hl0
    have hl' : ¬ (k : Int) = (m : Int) := by omega
    have hl2 : ((k : Int) == (m : Int)) = false := by simp; omega
    go_wp2_with fail
    go_ret
    exact ⟨rfl, unhide B2⟩
  have hl : k = m := Decidable.not_not.1 hl0
  clear hl0
  have HR := hide (unhide H4 hk hp hl)
  have hm6 := unhide H6 hp
  have cO' := hide (unhide cO hk hm6 hl)
  subst hl
  clear hk hp H1 H2 H3 H4 H6 cK cP cO
  go_wp2_with fail
  refine (unhide cO' _ ((unhide HS).kept (unhide B2)) ((unhide HD).kept (unhide B2)) ((unhide HI).kept (unhide B2)) ((unhide HE).kept (unhide B2))).mono ?_
  rintro e W3 ⟨⟨v3, rfl, ho⟩, hx⟩
  obtain ⟨a3, c3, rfl⟩ := oSlice ho
  have hcap3 := own_cap ho (by omega)
  have HSG := hide (sights_own ho)
  have B3 := hide (below_call (unhide B2) hx)
  have hc39 : c3 ≤ 9223372036854775807 := Nat.le_trans (own_capMax ho) (by decide +kernel)
  clear ho hx B2 cO'
  generalize hal : A.length = al at *
  clear hal
  have cF : Hid (∀ (s : Sg) (i : Nat) (a : Option Addr) (W : World), i ≤ al → Sights W a A i → Calls Tryd.prog 40 #[sgV s, .slice a i c3] W fun e w' => e = .returned (.bool (fitsB A s i)) ∧ Below W.heap.size W w') := hide (fun s i a W hi hs => fitsBehind_any A i s a c3 W (by omega) (by omega) hc39 hs)
  go_wp2_with fail
  rcases unhide HSG with h0 | ⟨sb, so, rfl, hsb, hsc⟩
  · subst h0
    have HY : Hid (R = true) := hide (by rw [unhide HR]; rfl)
    refine wp_loop_rounds 1 ?_
    rw [rounds_succ]
    go_wp2_with fail
    go_ret
    exact ⟨by rw [unhide HY]; rfl, unhide B3⟩
  have HSC := hide hsc
  clear hsc
  have hsb3 : sb < W3.heap.size := hsb
  go_loopw [31] (fun kk wr => ∃ i : Nat, i ≤ al ∧ kk = .int .i64 i ∧ Hid (∀ j, j < i → (!zeroD (sgA A j).2.2 && fitsB A (sgA A j) j) = true) ∧ Hid (Below W3.heap.size W3 wr)) (fun kk _ => al - (intOf kk).toNat)
  case atStart => exact ⟨0, by omega, rfl, hide (fun j hj => absurd hj (Nat.not_lt_zero _)), hide (Below.refl _ _)⟩
  case round =>
    obtain ⟨i, hi, rfl, HF, HB⟩ := hrel
    by_cases hin : i < al
    · have hin2 : (i : Int) < (al : Int) := by omega
      obtain ⟨t, ht⟩ : ∃ t, sgA A i = t := ⟨_, rfl⟩
      have hst := ((unhide HSC) i hin).kept (unhide HB)
      rw [ht] at hst
      have HT := hide ht
      clear ht
      have HSi : Hid (Sights wr (some ⟨sb, so, none⟩) A i) := hide ((((unhide HSG).less (Nat.le_of_lt hin))).kept (unhide HB))
      have cFi := hide (fun W h => unhide cF t i (some ⟨sb, so, none⟩) W (Nat.le_of_lt hin) h)
      have HOK : Hid ((!zeroD (sgA A i).2.2 && fitsB A (sgA A i) i) = (!zeroD t.2.2 && fitsB A t i)) := hide (by rw [unhide HT])
      have Z := below1 wr (.cells #[.int .i64 t.1.1, .int .i64 t.1.2.1, .int .i64 t.1.2.2, .int .i64 t.2.1, .int .i64 t.2.2.1, .int .i64 t.2.2.2.1, .int .i64 t.2.2.2.2] 70)
      have T1 := sgAt_new wr t 70
      have HB1 := hide (below_call (unhide HB) Z)
      have HS1 := hide ((unhide HSi).kept Z)
      clear Z HB HSi
      generalize hfv : fitsB A t i = fv at *
      clear hfv
      obtain ⟨⟨b1, b2, b3⟩, b4, b5, b6, b7⟩ := t
      have cFj : Hid (∀ (W : World), Sights W (some ⟨sb, so, none⟩) A i → Calls Tryd.prog 40 #[.agg #[.int .i64 b1, .int .i64 b2, .int .i64 b3, .int .i64 b4, .int .i64 b5, .int .i64 b6, .int .i64 b7], .slice (some ⟨sb, so, none⟩) i c3] W fun e w' => e = .returned (.bool fv) ∧ Below W.heap.size W w') := cFi
      clear cFi
      have HOK' : Hid ((!zeroD (sgA A i).2.2 && fitsB A (sgA A i) i) = (!eqB b5 b6 b7 0 0 0 && fv)) := HOK
      clear HOK
      have he := fun W => eql_vec b5 b6 b7 0 0 0 W
      obtain ⟨c0, c1, c2, c3', c4, c5, c6⟩ := hst
      simp only at c0 c1 c2 c3' c4 c5 c6 T1 HB1 HS1
      go_wp2_with fail
      clear c0 c1 c2 c3' c4 c5 c6
      generalize wr.alloc (.cells #[.int .i64 b1, .int .i64 b2, .int .i64 b3, .int .i64 b4, .int .i64 b5, .int .i64 b6, .int .i64 b7] 70) = W4 at T1 HB1 HS1 ⊢
      generalize wr.heap.size = tb at *
      obtain ⟨x0, x1, x2, x3, x4, x5, x6⟩ := T1
      simp only [Nat.zero_add] at x0 x1 x2 x3 x4 x5 x6
      have r0 := cell_regrown x0
      have r1 := cell_regrown x1
      have r2 := cell_regrown x2
      have r3 := cell_regrown x3
      have r4 := cell_regrown x4
      have r5 := cell_regrown x5
      have r6 := cell_regrown x6
      clear x0 x1 x2 x3 x4 x5 x6
      have hic : (i : Int) ≤ (c3 : Int) := by omega
      cases hz : eqB b5 b6 b7 0 0 0
      · rw [hz] at he HOK'
        rw [Bool.not_false, Bool.true_and] at HOK'
        refine wp_region_quiet_below (by kernel_rfl) (by kernel_rfl) ?_
        repeat (go_big_quiet_step (first | (with_reducible exact Calls.regrown_of (unhide cFj _ ((unhide HS1).kept (below_regrown _ _ _))))))
        refine wpQuiet_nil ?_
        intro _ hw'
        obtain ⟨⟨dq, osq⟩, hw''⟩ := hw'
        subst hw''
        have hx := below_call (unhide HB1) (below_regrown W4 dq osq)
        generalize grow (redrawn W4 dq) osq = W5 at hx ⊢
        have HB5 := hide hx
        clear hx r0 r1 r2 r3 r4 r5 r6 he cFj HS1 HB1
        cases fv
        · have HNO : Hid (R = false) := hide (by rw [unhide HR]; exact allFit_no hin (unhide HOK'))
          go_wp2_with fail
          go_ret
          exact ⟨by rw [unhide HNO]; rfl, (unhide B3).trans ((unhide HB5).mono (unhide B3).size)⟩
        · go_wp2_with fail
          go_roundw
          case rel => exact ⟨i + 1, by omega, by go_num, hide (fun l hl => by
            by_cases e : l = i
            · rw [e]; exact unhide HOK'
            · exact unhide HF l (by omega)), HB5⟩
          case measure => simp [intOf] <;> omega
      · rw [hz] at he HOK'
        have HNO : Hid (R = false) := hide (by rw [unhide HR]; exact allFit_no hin (unhide HOK'))
        refine wp_region_quiet_below (by kernel_rfl) (by kernel_rfl) ?_
        repeat (go_big_quiet_step (fail))
        refine wpQuiet_nil ?_
        intro _ hw'
        obtain ⟨⟨dq, osq⟩, hw''⟩ := hw'
        subst hw''
        have hx := below_call (unhide HB1) (below_regrown W4 dq osq)
        generalize grow (redrawn W4 dq) osq = W5 at hx ⊢
        go_wp2_with fail
        go_ret
        exact ⟨by rw [unhide HNO]; rfl, (unhide B3).trans (hx.mono (unhide B3).size)⟩
    · have hin' : i = al := by omega
      subst hin'
      have HY : Hid (R = true) := hide (by rw [unhide HR]; exact allFit_yes (unhide HF))
      go_wp2_with fail
      go_ret
      exact ⟨by rw [unhide HY]; rfl, (unhide B3).trans ((unhide HB).mono (unhide B3).size)⟩
end Go.Proofs.YtdkfbfiofniblaaDoor
