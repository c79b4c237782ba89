/- Several texts in one: TfB, PairV. -/
import Derived.Test.YthoiooefclbecaaGreatDoorQFnSkyOwn34
import Derived.Test.YthoiooefclbecaaGreatDoorQFnSkyOwn18
import Derived.Test.YthoiooefclbecaaGreatDoorQFnSkyOwn21
namespace Go.Proofs.YthoiooefclbecaaGreatDoor
set_option linter.unusedVariables false
set_option linter.unusedSimpArgs false
set_option maxRecDepth 100000
set_option maxHeartbeats 8000000
section
open Go.RowKit Go.Sort
theorem kA (S : List Sp) {f t i : Nat} (hi : i < t - f) (ht : t ≤ S.length) : spA ((S.drop f).take (t - f)) i = spA S (f + i) := by
 unfold spA
 rw [List.getD, List.getD, List.getElem?_take_of_lt hi, List.getElem?_drop]
theorem jM.vecs {w : World} {b o : Nat} {s : Sp} (h : jM w b o s) : (w.cell? ⟨b, o + 2, none⟩ = some (.int .i64 s.2.1.1) ∧ w.cell? ⟨b, o + 3, none⟩ = some (.int .i64 s.2.1.2.1) ∧ w.cell? ⟨b, o + 4, none⟩ = some (.int .i64 s.2.1.2.2)) ∧ (w.cell? ⟨b, o + 5, none⟩ = some (.int .i64 s.2.2.1) ∧ w.cell? ⟨b, o + 6, none⟩ = some (.int .i64 s.2.2.2.1) ∧ w.cell? ⟨b, o + 7, none⟩ = some (.int .i64 s.2.2.2.2)) := by
 obtain ⟨h0, h1, h2, h3, h4, h5, h6, h7⟩ := h
 exact ⟨⟨h2, h3, h4⟩, h5, h6, h7⟩
theorem pW (L : List St) (ar : Option Addr) (c : Nat) (a1 a2 a3 b1 b2 b3 : Int) (p : Addr) (w : World) (hn : L.length ≤ 1048576) (hcap : L.length ≤ c) (hc : c ≤ maxLen) (hS : aA w ar L L.length) (hE : aU p w) :
  Calls Tryz.prog 19 #[.slice ar L.length c, .agg #[.int .i64 a1, .int .i64 a2, .int .i64 a3], .agg #[.int .i64 b1, .int .i64 b2, .int .i64 b3]] w fun e w' => (∃ v, e = .returned v ∧ w'.ownsRow w.heap.size 52 2 v (aP L (a1, a2, a3) (b1, b2, b3)).length (aD (aP L (a1, a2, a3) (b1, b2, b3)))) ∧ Below w.heap.size w w' := by
 have c9 : c ≤ 9223372036854775807 := by unfold maxLen at hc; omega
 have cK := yz (fun (W : World) hW hEW => ct L ar c p W hn hcap c9 hW hEW)
 have cA := yz (fun W => ei a1 a2 a3 W)
 have cB := yz (fun W => ei b1 b2 b3 W)
 have cS : Hid (aB L = true → ∀ W : World, aA W ar L L.length → Calls Tryz.prog 44 #[.slice ar L.length c] W fun e w' => (∃ v, e = .returned v ∧ eA w' W.heap.size v (bp L L.length)) ∧ Below W.heap.size W w') := yz (fun hk W hW => by
  rcases hW with h0 | ⟨b, o, rfl, hb, hcs⟩
  ·exact hZ L ar c W h0
  ·exact je L b o c W (aQ hk).1 hb hcs hcap hc)
 have HF : Hid (aB L = true → (bp L L.length).length ≤ 200 ∧ (bM (a1, a2, a3) = true → bM (b1, b2, b3) = true → (aP L (a1, a2, a3) (b1, b2, b3) = ((bp L L.length).filter (fun s => decide (bZ (a1, a2, a3) (b1, b2, b3) s = 0))).map Prod.fst) ∧ ∀ f t, f ≤ t → t ≤ (bp L L.length).length → (∀ i, i < f → 0 < bZ (a1, a2, a3) (b1, b2, b3) (spA (bp L L.length) i)) → (f = (bp L L.length).length ∨ bZ (a1, a2, a3) (b1, b2, b3) (spA (bp L L.length) f) ≤ 0) → (∀ i, f ≤ i → i < t → bZ (a1, a2, a3) (b1, b2, b3) (spA (bp L L.length) i) = 0) → (t = (bp L L.length).length ∨ bZ (a1, a2, a3) (b1, b2, b3) (spA (bp L L.length) t) ≠ 0) → (bp L L.length).filter (fun s => decide (bZ (a1, a2, a3) (b1, b2, b3) s = 0)) = ((bp L L.length).drop f).take (t - f))) := yz (fun hk => ⟨mJ L (aQ hk).1, fun ha hb => ⟨ik hk ha hb, fun f t hft ht h1 h2 h3 h4 => pX ha hb (nV hk (ed hk L.length (Nat.le_refl _)).2) (gl hk L.length (Nat.le_refl _)) hft ht h1 h2 h3 h4⟩⟩)
 have HN : Hid (aB L = false → aP L (a1, a2, a3) (b1, b2, b3) = []) := yz li
 have HNa : Hid (aO a1 a2 a3 = false → aP L (a1, a2, a3) (b1, b2, b3) = []) := yz (fun h => lj (b := (b1, b2, b3)) (show bM (a1, a2, a3) = false from h))
 have HNb : Hid (aO b1 b2 b3 = false → aP L (a1, a2, a3) (b1, b2, b3) = []) := yz (fun h => lk (a := (a1, a2, a3)) (show bM (b1, b2, b3) = false from h))
 have HS := yz hS
 have HE := yz hE
 clear hS hE hc c9
 generalize aP L (a1, a2, a3) (b1, b2, b3) = R at *
 generalize bp L L.length = S at *
 generalize L.length = n at *
 have A0 := yz ((aw w a1 a2 a3 33).alloc (by simp) (.cells #[.int .i64 b1, .int .i64 b2, .int .i64 b3] 33))
 have D0 := aw (w.alloc (.cells #[.int .i64 a1, .int .i64 a2, .int .i64 a3] 33)) b1 b2 b3 33
 have e1 : (w.alloc (.cells #[.int .i64 a1, .int .i64 a2, .int .i64 a3] 33)).heap.size = w.heap.size + 1 := by simp
 rw [e1] at D0
 have D0' := yz D0
 have B0 := yz (be w (.cells #[.int .i64 a1, .int .i64 a2, .int .i64 a3] 33) (.cells #[.int .i64 b1, .int .i64 b2, .int .i64 b3] 33))
 clear e1 D0
 go_enter Tryz.func19, Tryz.ntmps19
 go_wp2_with fail
 generalize (w.alloc (.cells #[.int .i64 a1, .int .i64 a2, .int .i64 a3] 33)).alloc (.cells #[.int .i64 b1, .int .i64 b2, .int .i64 b3] 33) = W0 at A0 D0' B0 ⊢
 refine (yy cK _ ((yy HS).kept (yy B0)) ((yy HE).kept (yy B0))).mono ?_
 rintro e W1 ⟨rfl, hx⟩
 have A1 := yz ((yy A0).kept (vlt (yy A0)) hx)
 have D1 := yz ((yy D0').kept (vlt (yy D0')) hx)
 have B1 := yz (ak (yy B0) hx)
 clear hx A0 D0' B0
 cases hk : aB L
 ·obtain rfl := yy HN hk
  go_wp2_with fail
  go_ret
  exact ⟨⟨_, rfl, World.ownsRow_nil _ _ _ _⟩, yy B1⟩
 have cS' := yz (yy cS hk)
 have HF' := yz (yy HF hk)
 clear hk cS HN HF
 obtain ⟨x0, x1, x2⟩ := yy A1
 go_wp2_with fail
 refine (yy cA _).mono ?_
 rintro e W2 ⟨rfl, hx⟩
 have A2 := yz ((yy A1).kept (vlt (yy A1)) hx)
 have D2 := yz ((yy D1).kept (vlt (yy D1)) hx)
 have B2 := yz (ak (yy B1) hx)
 clear hx A1 D1 B1 x0 x1 x2
 cases ha : aO a1 a2 a3
 ·obtain rfl := yy HNa ha
  go_wp2_with fail
  go_ret
  exact ⟨⟨_, rfl, World.ownsRow_nil _ _ _ _⟩, yy B2⟩
 obtain ⟨x0, x1, x2⟩ := yy D2
 go_wp2_with fail
 refine (yy cB _).mono ?_
 rintro e W3 ⟨rfl, hx⟩
 have A3 := yz ((yy A2).kept (vlt (yy A2)) hx)
 have D3 := yz ((yy D2).kept (vlt (yy D2)) hx)
 have B3 := yz (ak (yy B2) hx)
 clear hx A2 D2 B2 x0 x1 x2
 cases hb : aO b1 b2 b3
 ·obtain rfl := yy HNb hb
  go_wp2_with fail
  go_ret
  exact ⟨⟨_, rfl, World.ownsRow_nil _ _ _ _⟩, yy B3⟩
 obtain ⟨hlen, hcut⟩ := yy HF'
 have HC := yz (hcut ha hb)
 clear ha hb HNa HNb HF' hcut
 go_wp2_with fail
 refine (yy cS' _ ((yy HS).kept (yy B3))).mono ?_
 rintro e W4 ⟨⟨v, rfl, hs⟩, hx⟩
 have A4 := yz ((yy A3).kept (vlt (yy A3)) hx)
 have D4 := yz ((yy D3).kept (vlt (yy D3)) hx)
 have B4 := yz (ak (yy B3) hx)
 have hz3 := (yy B3).size
 clear hx A3 D3 B3
 rcases hs with ⟨rfl, hS0⟩ | ⟨g, cap, rfl, ⟨hg, hcp, hcp2⟩, hr⟩
 ·subst hS0
  have HR : Hid (R = []) := yz (by rw [(yy HC).1]; rfl)
  obtain rfl := yy HR
  clear HC
  go_wp2_with fail
  go_loopw [8] (fun i wr => i = .int .i64 0 ∧ Hid (Below w.heap.size w wr)) (fun _ _ => 0)
  case atStart => exact ⟨rfl, B4⟩
  case round =>
   obtain ⟨rfl, HB⟩ := hrel
   go_wp2_with fail
   refine wp_region_quiet_below (by kernel_rfl) (by kernel_rfl) ?_
   repeat (go_big_quiet_step (fail))
   refine wpQuiet_nil ?_
   intro _ hw'
   obtain ⟨⟨dq, osq⟩, hw''⟩ := hw'
   subst hw''
   have hx := below_regrown wr dq osq
   have HB2 := yz (ak (yy HB) hx)
   generalize grow (redrawn wr dq) osq = W5 at hx HB2 ⊢
   clear hx HB
   go_wp2_with fail
   go_loopw [9] (fun i wr => i = .int .i64 0 ∧ Hid (Below w.heap.size w wr)) (fun _ _ => 0)
   case atStart => exact ⟨rfl, HB2⟩
   case round =>
    clear HB2
    obtain ⟨rfl, HB⟩ := hrel
    go_wp2_with fail
    refine wp_region_quiet_below (by kernel_rfl) (by kernel_rfl) ?_
    repeat (go_big_quiet_step (fail))
    refine wpQuiet_nil ?_
    intro _ hw'
    obtain ⟨⟨dq, osq⟩, hw''⟩ := hw'
    subst hw''
    have hx := below_regrown wr dq osq
    have HB2 := yz (ak (yy HB) hx)
    generalize grow (redrawn wr dq) osq = W5 at hx HB2 ⊢
    clear hx HB
    go_wp2_with fail
    refine (hI _).mono ?_
    rintro e W6 ⟨rfl, hw⟩
    rw [hw]
    go_wp2_with fail
    go_ret
    exact ⟨⟨_, rfl, World.ownsRow_nil _ _ _ _⟩, yy HB2⟩
 ·have HR := yz hr
  clear hr
  obtain ⟨ns, hns⟩ : ∃ ns, S.length = ns := ⟨_, rfl⟩
  have HNS := yz hns
  rw [hns] at hlen hcp HR HC ⊢
  clear hns
  have hcp3 : cap ≤ 2 ^ 63 - 1 := by unfold maxLen at hcp2; exact hcp2
  clear hcp2
  go_wp2_with fail
  go_loopw [8] (fun i wr => ∃ k : Nat, k ≤ ns ∧ i = .int .i64 k ∧ Hid (∀ i, i < k → 0 < bZ (a1, a2, a3) (b1, b2, b3) (spA S i)) ∧ Hid (aZ wr 92 g (ns * 8) (bz (spA S))) ∧ Hid (av wr w.heap.size a1 a2 a3) ∧ Hid (av wr (w.heap.size + 1) b1 b2 b3) ∧ Hid (Below w.heap.size w wr)) (fun i _ => ns - (intOf i).toNat)
  case atStart => exact ⟨0, by omega, rfl, yz (fun i hi => absurd hi (Nat.not_lt_zero _)), HR, A4, D4, B4⟩
  case round =>
   clear HR A4 D4 B4
   obtain ⟨k, hk, rfl, HK, HR, HA, HD, HB⟩ := hrel
   by_cases hkl : k < ns
   ·have hkn2 : (k : Int) < (ns : Int) := by omega
    have s1 := ((yy HR).span (i := k) (by omega)).vecs
    obtain ⟨sp, hsp⟩ : ∃ sp, sp = spA S k := ⟨_, rfl⟩
    rw [← hsp] at s1
    have HSP := yz hsp
    clear hsp
    obtain ⟨⟨p1, p2⟩, ⟨y1, y2, y3⟩, z1, z2, z3⟩ := sp
    obtain ⟨⟨s2, s3, s4⟩, s5, s6, s7⟩ := s1
    obtain ⟨u0, u1, u2⟩ := yy HA
    obtain ⟨v0, v1, v2⟩ := yy HD
    have rs2 := cell_regrown s2
    have rs3 := cell_regrown s3
    have rs4 := cell_regrown s4
    have rs5 := cell_regrown s5
    have rs6 := cell_regrown s6
    have rs7 := cell_regrown s7
    have ru0 := cell_regrown u0
    have ru1 := cell_regrown u1
    have ru2 := cell_regrown u2
    have rv0 := cell_regrown v0
    have rv1 := cell_regrown v1
    have rv2 := cell_regrown v2
    clear s2 s3 s4 s5 s6 s7 u0 u1 u2 v0 v1 v2
    have cC := yz (fun W => eT a1 a2 a3 b1 b2 b3 y1 y2 y3 z1 z2 z3 W)
    have HCV : Hid (bZ (a1, a2, a3) (b1, b2, b3) (spA S k) = dH a1 a2 a3 b1 b2 b3 y1 y2 y3 z1 z2 z3) := yz (by rw [← yy HSP]; rfl)
    generalize dH a1 a2 a3 b1 b2 b3 y1 y2 y3 z1 z2 z3 = cc at *
    go_wp2_with fail
    refine wp_region_quiet_below (by kernel_rfl) (by kernel_rfl) ?_
    repeat (go_big_quiet_step (first | (with_reducible exact Calls.regrown_of (yy cC _))))
    refine wpQuiet_nil ?_
    intro _ hw'
    obtain ⟨⟨dq, osq⟩, hw''⟩ := hw'
    subst hw''
    have hx := below_regrown wr dq osq
    have HR2 := yz ((yy HR).kept hx)
    have HA2 := yz ((yy HA).kept (vlt (yy HA)) hx)
    have HD2 := yz ((yy HD).kept (vlt (yy HD)) hx)
    have HB2 := yz (ak (yy HB) hx)
    generalize grow (redrawn wr dq) osq = W5 at hx HR2 HA2 HD2 HB2 ⊢
    clear hx HR HA HD HB
    clear rs2 rs3 rs4 rs5 rs6 rs7 ru0 ru1 ru2 rv0 rv1 rv2
    by_cases hc0 : 0 < cc
    ·have HK2 : Hid (∀ i, i < k + 1 → 0 < bZ (a1, a2, a3) (b1, b2, b3) (spA S i)) := yz (fun i hi => by
      by_cases e : i = k
      ·rw [e, yy HCV]; exact hc0
      ·exact yy HK i (by omega))
     go_wp2_with fail
     go_roundw
     case rel => exact ⟨k + 1, by omega, by go_num, HK2, HR2, HA2, HD2, HB2⟩
     case measure => simp [intOf] <;> omega
    ·have h2 : bZ (a1, a2, a3) (b1, b2, b3) (spA S k) ≤ 0 := by rw [yy HCV]; omega
     have H2 := yz h2
     clear h2 HCV HSP cC
     go_wp2_with fail
     go_loopw [9] (fun i wr => ∃ t : Nat, k ≤ t ∧ t ≤ ns ∧ i = .int .i64 t ∧ Hid (∀ i, k ≤ i → i < t → bZ (a1, a2, a3) (b1, b2, b3) (spA S i) = 0) ∧ Hid (aZ wr 92 g (ns * 8) (bz (spA S))) ∧ Hid (av wr w.heap.size a1 a2 a3) ∧ Hid (av wr (w.heap.size + 1) b1 b2 b3) ∧ Hid (Below w.heap.size w wr)) (fun i _ => ns - (intOf i).toNat)
     case atStart => exact ⟨k, Nat.le_refl _, hk, rfl, yz (fun i h1 h2 => absurd h2 (by omega)), HR2, HA2, HD2, HB2⟩
     case round =>
      clear HR2 HA2 HD2 HB2
      obtain ⟨t, hkt, htn, rfl, HT, HR, HA, HD, HB⟩ := hrel
      by_cases htl : t < ns
      ·have hkn2 : (t : Int) < (ns : Int) := by omega
       have s1 := ((yy HR).span (i := t) (by omega)).vecs
       obtain ⟨sp, hsp⟩ : ∃ sp, sp = spA S t := ⟨_, rfl⟩
       rw [← hsp] at s1
       have HSP := yz hsp
       clear hsp
       obtain ⟨⟨p1, p2⟩, ⟨y1, y2, y3⟩, z1, z2, z3⟩ := sp
       obtain ⟨⟨s2, s3, s4⟩, s5, s6, s7⟩ := s1
       obtain ⟨u0, u1, u2⟩ := yy HA
       obtain ⟨v0, v1, v2⟩ := yy HD
       have rs2 := cell_regrown s2
       have rs3 := cell_regrown s3
       have rs4 := cell_regrown s4
       have rs5 := cell_regrown s5
       have rs6 := cell_regrown s6
       have rs7 := cell_regrown s7
       have ru0 := cell_regrown u0
       have ru1 := cell_regrown u1
       have ru2 := cell_regrown u2
       have rv0 := cell_regrown v0
       have rv1 := cell_regrown v1
       have rv2 := cell_regrown v2
       clear s2 s3 s4 s5 s6 s7 u0 u1 u2 v0 v1 v2
       have cC := yz (fun W => eT a1 a2 a3 b1 b2 b3 y1 y2 y3 z1 z2 z3 W)
       have HCV : Hid (bZ (a1, a2, a3) (b1, b2, b3) (spA S t) = dH a1 a2 a3 b1 b2 b3 y1 y2 y3 z1 z2 z3) := yz (by rw [← yy HSP]; rfl)
       generalize dH a1 a2 a3 b1 b2 b3 y1 y2 y3 z1 z2 z3 = cc at *
       go_wp2_with fail
       refine wp_region_quiet_below (by kernel_rfl) (by kernel_rfl) ?_
       repeat (go_big_quiet_step (first | (with_reducible exact Calls.regrown_of (yy cC _))))
       refine wpQuiet_nil ?_
       intro _ hw'
       obtain ⟨⟨dq, osq⟩, hw''⟩ := hw'
       subst hw''
       have hx := below_regrown wr dq osq
       have HR2 := yz ((yy HR).kept hx)
       have HA2 := yz ((yy HA).kept (vlt (yy HA)) hx)
       have HD2 := yz ((yy HD).kept (vlt (yy HD)) hx)
       have HB2 := yz (ak (yy HB) hx)
       generalize grow (redrawn wr dq) osq = W5 at hx HR2 HA2 HD2 HB2 ⊢
       clear hx HR HA HD HB
       clear rs2 rs3 rs4 rs5 rs6 rs7 ru0 ru1 ru2 rv0 rv1 rv2
       by_cases hc0 : cc = 0
       ·subst hc0
        have HT2 : Hid (∀ i, k ≤ i → i < t + 1 → bZ (a1, a2, a3) (b1, b2, b3) (spA S i) = 0) := yz (fun i h1 h2 => by
         by_cases e : i = t
         ·rw [e, yy HCV]
         ·exact yy HT i h1 (by omega))
        go_wp2_with fail
        go_roundw
        case rel => exact ⟨t + 1, by omega, by omega, by go_num, HT2, HR2, HA2, HD2, HB2⟩
        case measure => simp [intOf] <;> omega
       ·have hc0' : (cc == 0) = false := by simp [hc0]
        have h4 : bZ (a1, a2, a3) (b1, b2, b3) (spA S t) ≠ 0 := by rw [yy HCV]; exact hc0
        have H4 := yz h4
        clear h4
        have HP := yz ((yy HC).2 k t hkt htn (yy HK) (.inr (yy H2)) (yy HT) (.inr (yy H4)))
        have HRE : Hid (R = ((S.drop k).take (t - k)).map Prod.fst) := yz (by rw [(yy HC).1, yy HP])
        have hpl : ((S.drop k).take (t - k)).length = t - k := by rw [List.length_take, List.length_drop]; have := yy HNS; omega
        have cP : Hid (∀ o ln cc : Nat, ln = t - k → (o = k * 8 ∨ ln = 0) → Calls Tryz.prog 43 #[.slice (some ⟨g, o, none⟩) ln cc] W5 fun e w' => (∃ v, e = .returned v ∧ w'.ownsRow w.heap.size 52 2 v R.length (aD R)) ∧ Below W5.heap.size W5 w') := yz (fun o ln cc hln ho => by
         subst hln
         have h := eF ((S.drop k).take (t - k)) g o cc W5 (by omega) (fun i hi => by
          rw [hpl] at hi
          rw [kA S hi (by have := yy HNS; omega)]
          have hh := (yy HR2).span (i := k + i) (by omega)
          rcases ho with rfl | h0
          ·rw [show k * 8 + i * 8 = (k + i) * 8 by omega]; exact hh
          ·omega)
         rw [hpl] at h
         refine h.mono fun e w' h => ?_
         obtain ⟨⟨v, he, ho⟩, hb⟩ := h
         refine ⟨⟨v, he, ?_⟩, hb⟩
         rw [yy HRE, List.length_map, hpl]
         exact cM ho (yy HB2).size)
        clear HP HRE hpl HC HK HT HR2 HA2 HD2
        have i1 : (0 : Int) ≤ (k : Int) := by omega
        have i2 : (k : Int) ≤ (t : Int) := by omega
        have i3 : (t : Int) ≤ (cap : Int) := by omega
        go_wp2_with fail
        all_goals
         (with_reducible refine (yy cP _ _ _ ?_ ?_).mono ?_)
         ·omega
         ·omega
         rintro e W6 ⟨⟨v6, rfl, ho⟩, hx⟩
         have B6 := yz (ak (yy HB2) hx)
         have O6 := yz ho
         clear hx ho
         go_wp2_with fail
         go_ret
         exact ⟨⟨v6, rfl, yy O6⟩, yy B6⟩
      ·have hte : t = ns := by omega
       have hkn2 : decide ((t : Int) < (ns : Int)) = false := by simp; omega
       go_wp2_with fail
       refine wp_region_quiet_below (by kernel_rfl) (by kernel_rfl) ?_
       repeat (go_big_quiet_step (fail))
       refine wpQuiet_nil ?_
       intro _ hw'
       obtain ⟨⟨dq, osq⟩, hw''⟩ := hw'
       subst hw''
       have hx := below_regrown wr dq osq
       have HR2 := yz ((yy HR).kept hx)
       have HA2 := yz ((yy HA).kept (vlt (yy HA)) hx)
       have HD2 := yz ((yy HD).kept (vlt (yy HD)) hx)
       have HB2 := yz (ak (yy HB) hx)
       generalize grow (redrawn wr dq) osq = W5 at hx HR2 HA2 HD2 HB2 ⊢
       clear hx HR HA HD HB
       have HP := yz ((yy HC).2 k t hkt htn (yy HK) (.inr (yy H2)) (yy HT) (.inl (by omega)))
       have HRE : Hid (R = ((S.drop k).take (t - k)).map Prod.fst) := yz (by rw [(yy HC).1, yy HP])
       have hpl : ((S.drop k).take (t - k)).length = t - k := by rw [List.length_take, List.length_drop]; have := yy HNS; omega
       have cP : Hid (∀ o ln cc : Nat, ln = t - k → (o = k * 8 ∨ ln = 0) → Calls Tryz.prog 43 #[.slice (some ⟨g, o, none⟩) ln cc] W5 fun e w' => (∃ v, e = .returned v ∧ w'.ownsRow w.heap.size 52 2 v R.length (aD R)) ∧ Below W5.heap.size W5 w') := yz (fun o ln cc hln ho => by
        subst hln
        have h := eF ((S.drop k).take (t - k)) g o cc W5 (by omega) (fun i hi => by
         rw [hpl] at hi
         rw [kA S hi (by have := yy HNS; omega)]
         have hh := (yy HR2).span (i := k + i) (by omega)
         rcases ho with rfl | h0
         ·rw [show k * 8 + i * 8 = (k + i) * 8 by omega]; exact hh
         ·omega)
        rw [hpl] at h
        refine h.mono fun e w' h => ?_
        obtain ⟨⟨v, he, ho⟩, hb⟩ := h
        refine ⟨⟨v, he, ?_⟩, hb⟩
        rw [yy HRE, List.length_map, hpl]
        exact cM ho (yy HB2).size)
       clear HP HRE hpl HC HK HT HR2 HA2 HD2
       have i1 : (0 : Int) ≤ (k : Int) := by omega
       have i2 : (k : Int) ≤ (t : Int) := by omega
       have i3 : (t : Int) ≤ (cap : Int) := by omega
       go_wp2_with fail
       all_goals
        (with_reducible refine (yy cP _ _ _ ?_ ?_).mono ?_)
        ·omega
        ·omega
        rintro e W6 ⟨⟨v6, rfl, ho⟩, hx⟩
        have B6 := yz (ak (yy HB2) hx)
        have O6 := yz ho
        clear hx ho
        go_wp2_with fail
        go_ret
        exact ⟨⟨v6, rfl, yy O6⟩, yy B6⟩
   ·have hke : k = ns := by omega
    have hkn2 : decide ((k : Int) < (ns : Int)) = false := by simp; omega
    go_wp2_with fail
    refine wp_region_quiet_below (by kernel_rfl) (by kernel_rfl) ?_
    repeat (go_big_quiet_step (fail))
    refine wpQuiet_nil ?_
    intro _ hw'
    obtain ⟨⟨dq, osq⟩, hw''⟩ := hw'
    subst hw''
    have hx := below_regrown wr dq osq
    have HR2 := yz ((yy HR).kept hx)
    have HA2 := yz ((yy HA).kept (vlt (yy HA)) hx)
    have HD2 := yz ((yy HD).kept (vlt (yy HD)) hx)
    have HB2 := yz (ak (yy HB) hx)
    generalize grow (redrawn wr dq) osq = W5 at hx HR2 HA2 HD2 HB2 ⊢
    clear hx HR HA HD HB
    go_wp2_with fail
    go_loopw [9] (fun i wr => ∃ t : Nat, k ≤ t ∧ t = ns ∧ i = .int .i64 t ∧ Hid (∀ i, k ≤ i → i < t → bZ (a1, a2, a3) (b1, b2, b3) (spA S i) = 0) ∧ Hid (aZ wr 92 g (ns * 8) (bz (spA S))) ∧ Hid (av wr w.heap.size a1 a2 a3) ∧ Hid (av wr (w.heap.size + 1) b1 b2 b3) ∧ Hid (Below w.heap.size w wr)) (fun i _ => ns - (intOf i).toNat)
    case atStart => exact ⟨k, Nat.le_refl _, hke, rfl, yz (fun i h1 h2 => absurd h2 (by omega)), HR2, HA2, HD2, HB2⟩
    case round =>
     clear HR2 HA2 HD2 HB2
     obtain ⟨t, hkt, hte, rfl, HT, HR, HA, HD, HB⟩ := hrel
     have htn : t ≤ ns := by omega
     have hkn3 : decide ((t : Int) < (ns : Int)) = false := by simp; omega
     go_wp2_with fail
     refine wp_region_quiet_below (by kernel_rfl) (by kernel_rfl) ?_
     repeat (go_big_quiet_step (fail))
     refine wpQuiet_nil ?_
     intro _ hw'
     obtain ⟨⟨dq, osq⟩, hw''⟩ := hw'
     subst hw''
     have hx := below_regrown wr dq osq
     have HR2 := yz ((yy HR).kept hx)
     have HA2 := yz ((yy HA).kept (vlt (yy HA)) hx)
     have HD2 := yz ((yy HD).kept (vlt (yy HD)) hx)
     have HB2 := yz (ak (yy HB) hx)
     generalize grow (redrawn wr dq) osq = W5 at hx HR2 HA2 HD2 HB2 ⊢
     clear hx HR HA HD HB
     have HP := yz ((yy HC).2 k t hkt htn (yy HK) (.inl (by omega)) (yy HT) (.inl (by omega)))
     have HRE : Hid (R = ((S.drop k).take (t - k)).map Prod.fst) := yz (by rw [(yy HC).1, yy HP])
     have hpl : ((S.drop k).take (t - k)).length = t - k := by rw [List.length_take, List.length_drop]; have := yy HNS; omega
     have cP : Hid (∀ o ln cc : Nat, ln = t - k → (o = k * 8 ∨ ln = 0) → Calls Tryz.prog 43 #[.slice (some ⟨g, o, none⟩) ln cc] W5 fun e w' => (∃ v, e = .returned v ∧ w'.ownsRow w.heap.size 52 2 v R.length (aD R)) ∧ Below W5.heap.size W5 w') := yz (fun o ln cc hln ho => by
      subst hln
      have h := eF ((S.drop k).take (t - k)) g o cc W5 (by omega) (fun i hi => by
       rw [hpl] at hi
       rw [kA S hi (by have := yy HNS; omega)]
       have hh := (yy HR2).span (i := k + i) (by omega)
       rcases ho with rfl | h0
       ·rw [show k * 8 + i * 8 = (k + i) * 8 by omega]; exact hh
       ·omega)
      rw [hpl] at h
      refine h.mono fun e w' h => ?_
      obtain ⟨⟨v, he, ho⟩, hb⟩ := h
      refine ⟨⟨v, he, ?_⟩, hb⟩
      rw [yy HRE, List.length_map, hpl]
      exact cM ho (yy HB2).size)
     clear HP HRE hpl HC HK HT HR2 HA2 HD2
     have i1 : (0 : Int) ≤ (k : Int) := by omega
     have i2 : (k : Int) ≤ (t : Int) := by omega
     have i3 : (t : Int) ≤ (cap : Int) := by omega
     go_wp2_with fail
     all_goals
      (with_reducible refine (yy cP _ _ _ ?_ ?_).mono ?_)
      ·omega
      ·omega
      rintro e W6 ⟨⟨v6, rfl, ho⟩, hx⟩
      have B6 := yz (ak (yy HB2) hx)
      have O6 := yz ho
      clear hx ho
      go_wp2_with fail
      go_ret
      exact ⟨⟨v6, rfl, yy O6⟩, yy B6⟩
end
end Go.Proofs.YthoiooefclbecaaGreatDoor
