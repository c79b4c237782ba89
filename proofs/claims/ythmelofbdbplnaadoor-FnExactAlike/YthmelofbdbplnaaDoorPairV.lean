/- Alike: the program's. -/
import Derived.Test.YthmelofbdbplnaaDoorPairUa
namespace Go.Proofs.YthmelofbdbplnaaDoor
open Go.RowKit Go.Sort
set_option linter.unusedVariables false

/-- what the two loops of Alike find -/
def AlikeCut (a b : V3) (S : List Sp) (f t : Nat) : Prop := f ≤ t ∧ t ≤ S.length ∧ S.filter (fun s => decide (cosA a b s = 0)) = (S.drop f).take (t - f)
theorem spA_part (S : List Sp) {f t i : Nat} (hi : i < t - f) (ht : t ≤ S.length) : spA ((S.drop f).take (t - f)) i = spA S (f + i) := by
  unfold spA
  rw [List.getD, List.getD, List.getElem?_take_of_lt hi, List.getElem?_drop]
theorem SpOff.vecs {w : World} {b o : Nat} {s : Sp} (h : SpOff w b o s) : (w.cell? ⟨b, o + 2, none⟩ = some (.int .i64 s.2.1.1) ∧ w.cell? ⟨b, o + 3, none⟩ = some (.int .i64 s.2.1.2.1) ∧ w.cell? ⟨b, o + 4, none⟩ = some (.int .i64 s.2.1.2.2)) ∧ (w.cell? ⟨b, o + 5, none⟩ = some (.int .i64 s.2.2.1) ∧ w.cell? ⟨b, o + 6, none⟩ = some (.int .i64 s.2.2.2.1) ∧ w.cell? ⟨b, o + 7, none⟩ = some (.int .i64 s.2.2.2.2)) := by
  obtain ⟨h0, h1, h2, h3, h4, h5, h6, h7⟩ := h
  exact ⟨⟨h2, h3, h4⟩, h5, h6, h7⟩

set_option maxHeartbeats 16000000 in
set_option maxRecDepth 100000 in
theorem alike_any (L : List St) (ar : Option Addr) (c : Nat) (a1 a2 a3 b1 b2 b3 : Int) (p : Addr) (w : World) (hn : L.length ≤ 1048576) (hcap : L.length ≤ c) (hc : c ≤ maxLen) (hS : Stars w ar L L.length) (hE : ErrSky p w) :
    Calls Tryd.prog 16 #[.slice ar L.length c, .agg #[.int .i64 a1, .int .i64 a2, .int .i64 a3], .agg #[.int .i64 b1, .int .i64 b2, .int .i64 b3]] w fun e w' => (∃ v, e = .returned v ∧ w'.ownsRow w.heap.size 50 2 v (alikeR L (a1, a2, a3) (b1, b2, b3)).length (flatP (alikeR L (a1, a2, a3) (b1, b2, b3)))) ∧ Below w.heap.size w w' := by
  have c9 : c ≤ 9223372036854775807 := by unfold maxLen at hc; omega
  have cK := hide (fun (W : World) hW hEW => skyRight_any L ar c p W hn hcap c9 hW hEW)
  have cA := hide (fun W => isWide_any a1 a2 a3 W)
  have cB := hide (fun W => isWide_any b1 b2 b3 W)
  have cS : Hid (skyB L = true → ∀ W : World, Stars W ar L L.length → Calls Tryd.prog 22 #[.slice ar L.length c] W fun e w' => (∃ v, e = .returned v ∧ SpansIn w' W.heap.size v (allS L L.length)) ∧ Below W.heap.size W w') := hide (fun hk W hW => by
    rcases hW with h0 | ⟨b, o, rfl, hb, hcs⟩
    · exact spansOf_zero L ar c W h0
    · exact spansOf_any L b o c W (sky_ok hk).1 hb hcs hcap hc)
  have HF : Hid (skyB L = true → (allS L L.length).length ≤ 200 ∧ (wideV (a1, a2, a3) = true → wideV (b1, b2, b3) = true → (alikeR L (a1, a2, a3) (b1, b2, b3) = ((allS L L.length).filter (fun s => decide (cosA (a1, a2, a3) (b1, b2, b3) s = 0))).map Prod.fst) ∧ ∀ f t, f ≤ t → t ≤ (allS L L.length).length → (∀ i, i < f → 0 < cosA (a1, a2, a3) (b1, b2, b3) (spA (allS L L.length) i)) → (f = (allS L L.length).length ∨ cosA (a1, a2, a3) (b1, b2, b3) (spA (allS L L.length) f) ≤ 0) → (∀ i, f ≤ i → i < t → cosA (a1, a2, a3) (b1, b2, b3) (spA (allS L L.length) i) = 0) → (t = (allS L L.length).length ∨ cosA (a1, a2, a3) (b1, b2, b3) (spA (allS L L.length) t) ≠ 0) → (allS L L.length).filter (fun s => decide (cosA (a1, a2, a3) (b1, b2, b3) s = 0)) = ((allS L L.length).drop f).take (t - f))) := hide (fun hk => ⟨allS_len L (sky_ok hk).1, fun ha hb => ⟨alike_yes hk ha hb, fun f t hft ht h1 h2 h3 h4 => alike_row ha hb (small_of hk (allS_map hk L.length (Nat.le_refl _)).2) (all_sorted hk L.length (Nat.le_refl _)) hft ht h1 h2 h3 h4⟩⟩)
  have HN : Hid (skyB L = false → alikeR L (a1, a2, a3) (b1, b2, b3) = []) := hide alike_no1
  have HNa : Hid (wideB a1 a2 a3 = false → alikeR L (a1, a2, a3) (b1, b2, b3) = []) := hide (fun h => alike_no2 (b := (b1, b2, b3)) (show wideV (a1, a2, a3) = false from h))
  have HNb : Hid (wideB b1 b2 b3 = false → alikeR L (a1, a2, a3) (b1, b2, b3) = []) := hide (fun h => alike_no3 (a := (a1, a2, a3)) (show wideV (b1, b2, b3) = false from h))
  have HS := hide hS
  have HE := hide hE
  clear hS hE hc c9
  generalize alikeR L (a1, a2, a3) (b1, b2, b3) = R at *
  generalize allS L L.length = S at *
  generalize L.length = n at *
  have A0 := hide ((vecAt_new w a1 a2 a3 36).alloc (by simp) (.cells #[.int .i64 b1, .int .i64 b2, .int .i64 b3] 36))
  have D0 := vecAt_new (w.alloc (.cells #[.int .i64 a1, .int .i64 a2, .int .i64 a3] 36)) b1 b2 b3 36
  have e1 : (w.alloc (.cells #[.int .i64 a1, .int .i64 a2, .int .i64 a3] 36)).heap.size = w.heap.size + 1 := by simp
  rw [e1] at D0
  have D0' := hide D0
  have B0 := hide (below2 w (.cells #[.int .i64 a1, .int .i64 a2, .int .i64 a3] 36) (.cells #[.int .i64 b1, .int .i64 b2, .int .i64 b3] 36))
  clear e1 D0
  go_enter Tryd.func16, Tryd.ntmps16
  go_wp2_with fail
  generalize (w.alloc (.cells #[.int .i64 a1, .int .i64 a2, .int .i64 a3] 36)).alloc (.cells #[.int .i64 b1, .int .i64 b2, .int .i64 b3] 36) = W0 at A0 D0' B0 ⊢
  refine (unhide cK _ ((unhide HS).kept (unhide B0)) ((unhide HE).kept (unhide B0))).mono ?_
  rintro e W1 ⟨rfl, hx⟩
  have A1 := hide ((unhide A0).kept (vlt (unhide A0)) hx)
  have D1 := hide ((unhide D0').kept (vlt (unhide D0')) hx)
  have B1 := hide (below_call (unhide B0) hx)
  clear hx A0 D0' B0
  cases hk : skyB L
  · obtain rfl := unhide HN hk
    go_wp2_with fail
    go_ret
    exact ⟨⟨_, rfl, World.ownsRow_nil _ _ _ _⟩, unhide B1⟩
  have cS' := hide (unhide cS hk)
  have HF' := hide (unhide HF hk)
  clear hk cS HN HF
  obtain ⟨x0, x1, x2⟩ := unhide A1
  go_wp2_with fail
  refine (unhide cA _).mono ?_
  rintro e W2 ⟨rfl, hx⟩
  have A2 := hide ((unhide A1).kept (vlt (unhide A1)) hx)
  have D2 := hide ((unhide D1).kept (vlt (unhide D1)) hx)
  have B2 := hide (below_call (unhide B1) hx)
  clear hx A1 D1 B1 x0 x1 x2
  cases ha : wideB a1 a2 a3
  · obtain rfl := unhide HNa ha
    go_wp2_with fail
    go_ret
    exact ⟨⟨_, rfl, World.ownsRow_nil _ _ _ _⟩, unhide B2⟩
  obtain ⟨x0, x1, x2⟩ := unhide D2
  go_wp2_with fail
  refine (unhide cB _).mono ?_
  rintro e W3 ⟨rfl, hx⟩
  have A3 := hide ((unhide A2).kept (vlt (unhide A2)) hx)
  have D3 := hide ((unhide D2).kept (vlt (unhide D2)) hx)
  have B3 := hide (below_call (unhide B2) hx)
  clear hx A2 D2 B2 x0 x1 x2
  cases hb : wideB b1 b2 b3
  · obtain rfl := unhide HNb hb
    go_wp2_with fail
    go_ret
    exact ⟨⟨_, rfl, World.ownsRow_nil _ _ _ _⟩, unhide B3⟩
  obtain ⟨hlen, hcut⟩ := unhide HF'
  have HC := hide (hcut ha hb)
  clear ha hb HNa HNb HF' hcut
  go_wp2_with fail
  refine (unhide cS' _ ((unhide HS).kept (unhide B3))).mono ?_
  rintro e W4 ⟨⟨v, rfl, hs⟩, hx⟩
  have A4 := hide ((unhide A3).kept (vlt (unhide A3)) hx)
  have D4 := hide ((unhide D3).kept (vlt (unhide D3)) hx)
  have B4 := hide (below_call (unhide B3) hx)
  have hz3 := (unhide B3).size
  clear hx A3 D3 B3
  rcases hs with ⟨rfl, hS0⟩ | ⟨g, cap, rfl, ⟨hg, hcp, hcp2⟩, hr⟩
  · subst hS0
    have HR : Hid (R = []) := hide (by rw [(unhide HC).1]; rfl)
    obtain rfl := unhide HR
    clear HC
    go_wp2_with fail
    go_loopw [8] (fun i wr => i = .int .i64 0 ∧ Hid (Below w.heap.size w wr)) (fun _ _ => 0)
    case atStart => exact ⟨rfl, B4⟩
    case round =>
      obtain ⟨rfl, HB⟩ := hrel
      go_wp2_with fail
      refine wp_region_quiet_below (by kernel_rfl) (by kernel_rfl) ?_
      repeat (go_big_quiet_step (fail))
      refine wpQuiet_nil ?_
      intro _ hw'
      obtain ⟨⟨dq, osq⟩, hw''⟩ := hw'
      subst hw''
      have hx := below_regrown wr dq osq
      have HB2 := hide (below_call (unhide HB) hx)
      generalize grow (redrawn wr dq) osq = W5 at hx HB2 ⊢
      clear hx HB
      go_wp2_with fail
      go_loopw [9] (fun i wr => i = .int .i64 0 ∧ Hid (Below w.heap.size w wr)) (fun _ _ => 0)
      case atStart => exact ⟨rfl, HB2⟩
      case round =>
        clear HB2
        obtain ⟨rfl, HB⟩ := hrel
        go_wp2_with fail
        refine wp_region_quiet_below (by kernel_rfl) (by kernel_rfl) ?_
        repeat (go_big_quiet_step (fail))
        refine wpQuiet_nil ?_
        intro _ hw'
        obtain ⟨⟨dq, osq⟩, hw''⟩ := hw'
        subst hw''
        have hx := below_regrown wr dq osq
        have HB2 := hide (below_call (unhide HB) hx)
        generalize grow (redrawn wr dq) osq = W5 at hx HB2 ⊢
        clear hx HB
        go_wp2_with fail
        refine (pairsIn_none _).mono ?_
        rintro e W6 ⟨rfl, hw⟩
        rw [hw]
        go_wp2_with fail
        go_ret
        exact ⟨⟨_, rfl, World.ownsRow_nil _ _ _ _⟩, unhide HB2⟩
  · have HR := hide hr
    clear hr
    obtain ⟨ns, hns⟩ : ∃ ns, S.length = ns := ⟨_, rfl⟩
    have HNS := hide hns
    rw [hns] at hlen hcp HR HC ⊢
    clear hns
    have hcp3 : cap ≤ 2 ^ 63 - 1 := by unfold maxLen at hcp2; exact hcp2
    clear hcp2
    go_wp2_with fail
    go_loopw [8] (fun i wr => ∃ k : Nat, k ≤ ns ∧ i = .int .i64 k ∧ Hid (∀ i, i < k → 0 < cosA (a1, a2, a3) (b1, b2, b3) (spA S i)) ∧ Hid (RowAt wr 56 g (ns * 8) (cellF (spA S))) ∧ Hid (VecAt wr w.heap.size a1 a2 a3) ∧ Hid (VecAt wr (w.heap.size + 1) b1 b2 b3) ∧ Hid (Below w.heap.size w wr)) (fun i _ => ns - (intOf i).toNat)
    case atStart => exact ⟨0, by omega, rfl, hide (fun i hi => absurd hi (Nat.not_lt_zero _)), HR, A4, D4, B4⟩
    case round =>
      clear HR A4 D4 B4
      obtain ⟨k, hk, rfl, HK, HR, HA, HD, HB⟩ := hrel
      by_cases hkl : k < ns
      · have hkn2 : (k : Int) < (ns : Int) := by omega
        have s1 := ((unhide HR).span (i := k) (by omega)).vecs
        obtain ⟨sp, hsp⟩ : ∃ sp, sp = spA S k := ⟨_, rfl⟩
        rw [← hsp] at s1
        have HSP := hide hsp
        clear hsp
        obtain ⟨⟨p1, p2⟩, ⟨y1, y2, y3⟩, z1, z2, z3⟩ := sp
        obtain ⟨⟨s2, s3, s4⟩, s5, s6, s7⟩ := s1
        obtain ⟨u0, u1, u2⟩ := unhide HA
        obtain ⟨v0, v1, v2⟩ := unhide HD
        have rs2 := cell_regrown s2
        have rs3 := cell_regrown s3
        have rs4 := cell_regrown s4
        have rs5 := cell_regrown s5
        have rs6 := cell_regrown s6
        have rs7 := cell_regrown s7
        have ru0 := cell_regrown u0
        have ru1 := cell_regrown u1
        have ru2 := cell_regrown u2
        have rv0 := cell_regrown v0
        have rv1 := cell_regrown v1
        have rv2 := cell_regrown v2
        clear s2 s3 s4 s5 s6 s7 u0 u1 u2 v0 v1 v2
        have cC := hide (fun W => cosCmp_any a1 a2 a3 b1 b2 b3 y1 y2 y3 z1 z2 z3 W)
        have HCV : Hid (cosA (a1, a2, a3) (b1, b2, b3) (spA S k) = cosI a1 a2 a3 b1 b2 b3 y1 y2 y3 z1 z2 z3) := hide (by rw [← unhide HSP]; rfl)
        generalize cosI a1 a2 a3 b1 b2 b3 y1 y2 y3 z1 z2 z3 = cc at *
        go_wp2_with fail
        refine wp_region_quiet_below (by kernel_rfl) (by kernel_rfl) ?_
        repeat (go_big_quiet_step (first | (with_reducible exact Calls.regrown_of (unhide cC _))))
        refine wpQuiet_nil ?_
        intro _ hw'
        obtain ⟨⟨dq, osq⟩, hw''⟩ := hw'
        subst hw''
        have hx := below_regrown wr dq osq
        have HR2 := hide ((unhide HR).kept hx)
        have HA2 := hide ((unhide HA).kept (vlt (unhide HA)) hx)
        have HD2 := hide ((unhide HD).kept (vlt (unhide HD)) hx)
        have HB2 := hide (below_call (unhide HB) hx)
        generalize grow (redrawn wr dq) osq = W5 at hx HR2 HA2 HD2 HB2 ⊢
        clear hx HR HA HD HB
        clear rs2 rs3 rs4 rs5 rs6 rs7 ru0 ru1 ru2 rv0 rv1 rv2
        by_cases hc0 : 0 < cc
        · have HK2 : Hid (∀ i, i < k + 1 → 0 < cosA (a1, a2, a3) (b1, b2, b3) (spA S i)) := hide (fun i hi => by
            by_cases e : i = k
            · rw [e, unhide HCV]; exact hc0
            · exact unhide HK i (by omega))
          go_wp2_with fail
          go_roundw
          case rel => exact ⟨k + 1, by omega, by go_num, HK2, HR2, HA2, HD2, HB2⟩
          case measure => simp [intOf] <;> omega
        · have h2 : cosA (a1, a2, a3) (b1, b2, b3) (spA S k) ≤ 0 := by rw [unhide HCV]; omega
          have H2 := hide h2
          clear h2 HCV HSP cC
          go_wp2_with fail
          go_loopw [9] (fun i wr => ∃ t : Nat, k ≤ t ∧ t ≤ ns ∧ i = .int .i64 t ∧ Hid (∀ i, k ≤ i → i < t → cosA (a1, a2, a3) (b1, b2, b3) (spA S i) = 0) ∧ Hid (RowAt wr 56 g (ns * 8) (cellF (spA S))) ∧ Hid (VecAt wr w.heap.size a1 a2 a3) ∧ Hid (VecAt wr (w.heap.size + 1) b1 b2 b3) ∧ Hid (Below w.heap.size w wr)) (fun i _ => ns - (intOf i).toNat)
          case atStart => exact ⟨k, Nat.le_refl _, hk, rfl, hide (fun i h1 h2 => absurd h2 (by omega)), HR2, HA2, HD2, HB2⟩
          case round =>
            clear HR2 HA2 HD2 HB2
            obtain ⟨t, hkt, htn, rfl, HT, HR, HA, HD, HB⟩ := hrel
            by_cases htl : t < ns
            · have hkn2 : (t : Int) < (ns : Int) := by omega
              have s1 := ((unhide HR).span (i := t) (by omega)).vecs
              obtain ⟨sp, hsp⟩ : ∃ sp, sp = spA S t := ⟨_, rfl⟩
              rw [← hsp] at s1
              have HSP := hide hsp
              clear hsp
              obtain ⟨⟨p1, p2⟩, ⟨y1, y2, y3⟩, z1, z2, z3⟩ := sp
              obtain ⟨⟨s2, s3, s4⟩, s5, s6, s7⟩ := s1
              obtain ⟨u0, u1, u2⟩ := unhide HA
              obtain ⟨v0, v1, v2⟩ := unhide HD
              have rs2 := cell_regrown s2
              have rs3 := cell_regrown s3
              have rs4 := cell_regrown s4
              have rs5 := cell_regrown s5
              have rs6 := cell_regrown s6
              have rs7 := cell_regrown s7
              have ru0 := cell_regrown u0
              have ru1 := cell_regrown u1
              have ru2 := cell_regrown u2
              have rv0 := cell_regrown v0
              have rv1 := cell_regrown v1
              have rv2 := cell_regrown v2
              clear s2 s3 s4 s5 s6 s7 u0 u1 u2 v0 v1 v2
              have cC := hide (fun W => cosCmp_any a1 a2 a3 b1 b2 b3 y1 y2 y3 z1 z2 z3 W)
              have HCV : Hid (cosA (a1, a2, a3) (b1, b2, b3) (spA S t) = cosI a1 a2 a3 b1 b2 b3 y1 y2 y3 z1 z2 z3) := hide (by rw [← unhide HSP]; rfl)
              generalize cosI a1 a2 a3 b1 b2 b3 y1 y2 y3 z1 z2 z3 = cc at *
              go_wp2_with fail
              refine wp_region_quiet_below (by kernel_rfl) (by kernel_rfl) ?_
              repeat (go_big_quiet_step (first | (with_reducible exact Calls.regrown_of (unhide cC _))))
              refine wpQuiet_nil ?_
              intro _ hw'
              obtain ⟨⟨dq, osq⟩, hw''⟩ := hw'
              subst hw''
              have hx := below_regrown wr dq osq
              have HR2 := hide ((unhide HR).kept hx)
              have HA2 := hide ((unhide HA).kept (vlt (unhide HA)) hx)
              have HD2 := hide ((unhide HD).kept (vlt (unhide HD)) hx)
              have HB2 := hide (below_call (unhide HB) hx)
              generalize grow (redrawn wr dq) osq = W5 at hx HR2 HA2 HD2 HB2 ⊢
              clear hx HR HA HD HB
              clear rs2 rs3 rs4 rs5 rs6 rs7 ru0 ru1 ru2 rv0 rv1 rv2
              by_cases hc0 : cc = 0
              · subst hc0
                have HT2 : Hid (∀ i, k ≤ i → i < t + 1 → cosA (a1, a2, a3) (b1, b2, b3) (spA S i) = 0) := hide (fun i h1 h2 => by
                  by_cases e : i = t
                  · rw [e, unhide HCV]
                  · exact unhide HT i h1 (by omega))
                go_wp2_with fail
                go_roundw
                case rel => exact ⟨t + 1, by omega, by omega, by go_num, HT2, HR2, HA2, HD2, HB2⟩
                case measure => simp [intOf] <;> omega
              · have hc0' : (cc == 0) = false := by simp [hc0]
                have h4 : cosA (a1, a2, a3) (b1, b2, b3) (spA S t) ≠ 0 := by rw [unhide HCV]; exact hc0
                have H4 := hide h4
                clear h4
                have HP := hide ((unhide HC).2 k t hkt htn (unhide HK) (.inr (unhide H2)) (unhide HT) (.inr (unhide H4)))
                have HRE : Hid (R = ((S.drop k).take (t - k)).map Prod.fst) := hide (by rw [(unhide HC).1, unhide HP])
                have hpl : ((S.drop k).take (t - k)).length = t - k := by rw [List.length_take, List.length_drop]; have := unhide HNS; omega
                have cP : Hid (∀ o ln cc : Nat, ln = t - k → (o = k * 8 ∨ ln = 0) → Calls Tryd.prog 21 #[.slice (some ⟨g, o, none⟩) ln cc] W5 fun e w' => (∃ v, e = .returned v ∧ w'.ownsRow w.heap.size 50 2 v R.length (flatP R)) ∧ Below W5.heap.size W5 w') := hide (fun o ln cc hln ho => by
                  subst hln
                  have h := pairsIn_any ((S.drop k).take (t - k)) g o cc W5 (by omega) (fun i hi => by
                    rw [hpl] at hi
                    rw [spA_part S hi (by have := unhide HNS; omega)]
                    have hh := (unhide HR2).span (i := k + i) (by omega)
                    rcases ho with rfl | h0
                    · rw [show k * 8 + i * 8 = (k + i) * 8 by omega]; exact hh
                    · omega)
                  rw [hpl] at h
                  refine h.mono fun e w' h => ?_
                  obtain ⟨⟨v, he, ho⟩, hb⟩ := h
                  refine ⟨⟨v, he, ?_⟩, hb⟩
                  rw [unhide HRE, List.length_map, hpl]
                  exact own_less ho (unhide HB2).size)
                clear HP HRE hpl HC HK HT HR2 HA2 HD2
                have i1 : (0 : Int) ≤ (k : Int) := by omega
                have i2 : (k : Int) ≤ (t : Int) := by omega
                have i3 : (t : Int) ≤ (cap : Int) := by omega
                go_wp2_with fail
                all_goals
                  (with_reducible refine (unhide cP _ _ _ ?_ ?_).mono ?_)
                  · omega
                  · omega
                  rintro e W6 ⟨⟨v6, rfl, ho⟩, hx⟩
                  have B6 := hide (below_call (unhide HB2) hx)
                  have O6 := hide ho
                  clear hx ho
                  go_wp2_with fail
                  go_ret
                  exact ⟨⟨v6, rfl, unhide O6⟩, unhide B6⟩
            · have hte : t = ns := by omega
              have hkn2 : decide ((t : Int) < (ns : Int)) = false := by simp; omega
              go_wp2_with fail
              refine wp_region_quiet_below (by kernel_rfl) (by kernel_rfl) ?_
              repeat (go_big_quiet_step (fail))
              refine wpQuiet_nil ?_
              intro _ hw'
              obtain ⟨⟨dq, osq⟩, hw''⟩ := hw'
              subst hw''
              have hx := below_regrown wr dq osq
              have HR2 := hide ((unhide HR).kept hx)
              have HA2 := hide ((unhide HA).kept (vlt (unhide HA)) hx)
              have HD2 := hide ((unhide HD).kept (vlt (unhide HD)) hx)
              have HB2 := hide (below_call (unhide HB) hx)
              generalize grow (redrawn wr dq) osq = W5 at hx HR2 HA2 HD2 HB2 ⊢
              clear hx HR HA HD HB
              have HP := hide ((unhide HC).2 k t hkt htn (unhide HK) (.inr (unhide H2)) (unhide HT) (.inl (by omega)))
              have HRE : Hid (R = ((S.drop k).take (t - k)).map Prod.fst) := hide (by rw [(unhide HC).1, unhide HP])
              have hpl : ((S.drop k).take (t - k)).length = t - k := by rw [List.length_take, List.length_drop]; have := unhide HNS; omega
              have cP : Hid (∀ o ln cc : Nat, ln = t - k → (o = k * 8 ∨ ln = 0) → Calls Tryd.prog 21 #[.slice (some ⟨g, o, none⟩) ln cc] W5 fun e w' => (∃ v, e = .returned v ∧ w'.ownsRow w.heap.size 50 2 v R.length (flatP R)) ∧ Below W5.heap.size W5 w') := hide (fun o ln cc hln ho => by
                subst hln
                have h := pairsIn_any ((S.drop k).take (t - k)) g o cc W5 (by omega) (fun i hi => by
                  rw [hpl] at hi
                  rw [spA_part S hi (by have := unhide HNS; omega)]
                  have hh := (unhide HR2).span (i := k + i) (by omega)
                  rcases ho with rfl | h0
                  · rw [show k * 8 + i * 8 = (k + i) * 8 by omega]; exact hh
                  · omega)
                rw [hpl] at h
                refine h.mono fun e w' h => ?_
                obtain ⟨⟨v, he, ho⟩, hb⟩ := h
                refine ⟨⟨v, he, ?_⟩, hb⟩
                rw [unhide HRE, List.length_map, hpl]
                exact own_less ho (unhide HB2).size)
              clear HP HRE hpl HC HK HT HR2 HA2 HD2
              have i1 : (0 : Int) ≤ (k : Int) := by omega
              have i2 : (k : Int) ≤ (t : Int) := by omega
              have i3 : (t : Int) ≤ (cap : Int) := by omega
              go_wp2_with fail
              all_goals
                (with_reducible refine (unhide cP _ _ _ ?_ ?_).mono ?_)
                · omega
                · omega
                rintro e W6 ⟨⟨v6, rfl, ho⟩, hx⟩
                have B6 := hide (below_call (unhide HB2) hx)
                have O6 := hide ho
                clear hx ho
                go_wp2_with fail
                go_ret
                exact ⟨⟨v6, rfl, unhide O6⟩, unhide B6⟩
      · have hke : k = ns := by omega
        have hkn2 : decide ((k : Int) < (ns : Int)) = false := by simp; omega
        go_wp2_with fail
        refine wp_region_quiet_below (by kernel_rfl) (by kernel_rfl) ?_
        repeat (go_big_quiet_step (fail))
        refine wpQuiet_nil ?_
        intro _ hw'
        obtain ⟨⟨dq, osq⟩, hw''⟩ := hw'
        subst hw''
        have hx := below_regrown wr dq osq
        have HR2 := hide ((unhide HR).kept hx)
        have HA2 := hide ((unhide HA).kept (vlt (unhide HA)) hx)
        have HD2 := hide ((unhide HD).kept (vlt (unhide HD)) hx)
        have HB2 := hide (below_call (unhide HB) hx)
        generalize grow (redrawn wr dq) osq = W5 at hx HR2 HA2 HD2 HB2 ⊢
        clear hx HR HA HD HB
        go_wp2_with fail
        go_loopw [9] (fun i wr => ∃ t : Nat, k ≤ t ∧ t = ns ∧ i = .int .i64 t ∧ Hid (∀ i, k ≤ i → i < t → cosA (a1, a2, a3) (b1, b2, b3) (spA S i) = 0) ∧ Hid (RowAt wr 56 g (ns * 8) (cellF (spA S))) ∧ Hid (VecAt wr w.heap.size a1 a2 a3) ∧ Hid (VecAt wr (w.heap.size + 1) b1 b2 b3) ∧ Hid (Below w.heap.size w wr)) (fun i _ => ns - (intOf i).toNat)
        case atStart => exact ⟨k, Nat.le_refl _, hke, rfl, hide (fun i h1 h2 => absurd h2 (by omega)), HR2, HA2, HD2, HB2⟩
        case round =>
          clear HR2 HA2 HD2 HB2
          obtain ⟨t, hkt, hte, rfl, HT, HR, HA, HD, HB⟩ := hrel
          have htn : t ≤ ns := by omega
          have hkn3 : decide ((t : Int) < (ns : Int)) = false := by simp; omega
          go_wp2_with fail
          refine wp_region_quiet_below (by kernel_rfl) (by kernel_rfl) ?_
          repeat (go_big_quiet_step (fail))
          refine wpQuiet_nil ?_
          intro _ hw'
          obtain ⟨⟨dq, osq⟩, hw''⟩ := hw'
          subst hw''
          have hx := below_regrown wr dq osq
          have HR2 := hide ((unhide HR).kept hx)
          have HA2 := hide ((unhide HA).kept (vlt (unhide HA)) hx)
          have HD2 := hide ((unhide HD).kept (vlt (unhide HD)) hx)
          have HB2 := hide (below_call (unhide HB) hx)
          generalize grow (redrawn wr dq) osq = W5 at hx HR2 HA2 HD2 HB2 ⊢
          clear hx HR HA HD HB
          have HP := hide ((unhide HC).2 k t hkt htn (unhide HK) (.inl (by omega)) (unhide HT) (.inl (by omega)))
          have HRE : Hid (R = ((S.drop k).take (t - k)).map Prod.fst) := hide (by rw [(unhide HC).1, unhide HP])
          have hpl : ((S.drop k).take (t - k)).length = t - k := by rw [List.length_take, List.length_drop]; have := unhide HNS; omega
          have cP : Hid (∀ o ln cc : Nat, ln = t - k → (o = k * 8 ∨ ln = 0) → Calls Tryd.prog 21 #[.slice (some ⟨g, o, none⟩) ln cc] W5 fun e w' => (∃ v, e = .returned v ∧ w'.ownsRow w.heap.size 50 2 v R.length (flatP R)) ∧ Below W5.heap.size W5 w') := hide (fun o ln cc hln ho => by
            subst hln
            have h := pairsIn_any ((S.drop k).take (t - k)) g o cc W5 (by omega) (fun i hi => by
              rw [hpl] at hi
              rw [spA_part S hi (by have := unhide HNS; omega)]
              have hh := (unhide HR2).span (i := k + i) (by omega)
              rcases ho with rfl | h0
              · rw [show k * 8 + i * 8 = (k + i) * 8 by omega]; exact hh
              · omega)
            rw [hpl] at h
            refine h.mono fun e w' h => ?_
            obtain ⟨⟨v, he, ho⟩, hb⟩ := h
            refine ⟨⟨v, he, ?_⟩, hb⟩
            rw [unhide HRE, List.length_map, hpl]
            exact own_less ho (unhide HB2).size)
          clear HP HRE hpl HC HK HT HR2 HA2 HD2
          have i1 : (0 : Int) ≤ (k : Int) := by omega
          have i2 : (k : Int) ≤ (t : Int) := by omega
          have i3 : (t : Int) ≤ (cap : Int) := by omega
          go_wp2_with fail
          all_goals
            (with_reducible refine (unhide cP _ _ _ ?_ ?_).mono ?_)
            · omega
            · omega
            rintro e W6 ⟨⟨v6, rfl, ho⟩, hx⟩
            have B6 := hide (below_call (unhide HB2) hx)
            have O6 := hide ho
            clear hx ho
            go_wp2_with fail
            go_ret
            exact ⟨⟨v6, rfl, unhide O6⟩, unhide B6⟩
end Go.Proofs.YthmelofbdbplnaaDoor
