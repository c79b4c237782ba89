/- Several texts in one: SkyD, SkyE, SkyF, SkyG, SkyI, NaM, IeM, IeP, FrC, NaA, WideT, IdA, IdB, IdC, RowF, MarkS, MaA, TsA, MaB. -/
import Derived.OwnWalk
import Derived.Laws.OwnMore
import Derived.Laws.BytesArg
import Derived.BigRegion
import Derived.Lib.QuietBelow
import Derived.Deep.QuietTactic
import Derived.BigQuiet
import Derived.Test.YthoiooefclbecaaGreatDoorQFnSkyOwn2
import Derived.Test.YthoiooefclbecaaGreatDoorQFnSkyOwn1
import Derived.Test.YthoiooefclbecaaGreatDoorQFnSkyOwn3
namespace Go.Proofs.YthoiooefclbecaaGreatDoor
set_option linter.unusedVariables false
set_option linter.unusedSimpArgs false
set_option maxRecDepth 100000
set_option maxHeartbeats 8000000
section
open Go.RowKit Go.Sort
def ez (L : List St) : Value := if 12 < L.length then aY pS else match (List.range L.length).find? (fun i => !cx L i) with | none => .nilIface | some i => dw L i
theorem iN {L : List St} (hl : L.length ≤ 12) (h : kY L L.length) : ez L = .nilIface := by
 unfold ez
 rw [if_neg (by omega)]
 have : (List.range L.length).find? (fun i => !cx L i) = none := by
  rw [List.find?_eq_none]
  intro j hj
  rw [h j (List.mem_range.1 hj)]
  simp
 rw [this]
theorem qK {L : List St} {k : Nat} (hl : L.length ≤ 12) (hk : k < L.length) (h : kY L k) (h1 : cx L k = false) : ez L = dw L k := by
 unfold ez
 rw [if_neg (by omega)]
 have : (List.range L.length).find? (fun i => !cx L i) = some k := by
  rw [List.find?_range_eq_some]
  refine ⟨by rw [h1]; rfl, List.mem_range.2 hk, fun j hj => ?_⟩
  rw [h j hj]
  rfl
 rw [this]
theorem lP {L : List St} (h : aB L = false) : ∃ why, ez L = aY why := by
 unfold ez
 split
 ·exact ⟨_, rfl⟩
 ·rename_i hl
  cases hf : (List.range L.length).find? (fun i => !cx L i) with
  | none =>
   exfalso
   rw [List.find?_eq_none] at hf
   have : aB L = true := mz (by omega) (fun j hj => by have := hf j (List.mem_range.2 hj); simpa using this)
   rw [h] at this
   cases this
  | some i =>
   rw [List.find?_range_eq_some] at hf
   exact pT (by simpa using hf.1)
theorem kN {L : List St} (h : aB L = true) : ez L = .nilIface := iN (aQ h).1 (aQ h).2
theorem fd (L : List St) (a : Option Addr) (c : Nat) (w : World) (hn : L.length ≤ 1048576) (hcap : L.length ≤ c) (hc9 : c ≤ 9223372036854775807) (hS : aA w a L L.length) :
  Calls Tryz.prog 50 #[.slice a L.length c] w fun e w' => e = .returned (ez L) ∧ Below w.heap.size w w' := by
 obtain ⟨n, hnl⟩ : ∃ n, L.length = n := ⟨_, rfl⟩
 rw [hnl] at hn hcap hS ⊢
 have HL := yz hnl
 clear hnl
 by_cases h12 : 12 < n
 ·have h12' : (12 : Int) < (n : Int) := by omega
  have HO : Hid (ez L = aY pS) := yz (by unfold ez; rw [if_pos (by rw [yy HL]; exact h12)])
  clear hS
  go_enter Tryz.func50, Tryz.ntmps50
  go_wp2
  go_ret
  exact ⟨by rw [yy HO]; rfl, Below.refl _ _⟩
 have h12' : ¬ (12 : Int) < (n : Int) := by omega
 rcases hS with rfl | ⟨b, o, rfl, hb, hc⟩
 ·have HO : Hid (ez L = .nilIface) := yz (iN (by rw [yy HL]; omega) (by rw [yy HL]; intro j hj; omega))
  go_enter Tryz.func50, Tryz.ntmps50
  go_wp2_with fail
  refine wp_loop_rounds 1 ?_
  rw [rounds_succ]
  go_wp2_with fail
  go_ret
  exact ⟨by rw [yy HO]; rfl, Below.refl _ _⟩
 have HC := yz hc
 have HS : Hid (aA w (some ⟨b, o, none⟩) L n) := yz (.inr ⟨b, o, rfl, hb, hc⟩)
 clear hc
 go_enter Tryz.func50, Tryz.ntmps50
 go_wp2_with fail
 go_loopw [13] (fun i wr => ∃ k : Nat, k ≤ n ∧ i = .int .i64 k ∧ Hid (kY L k) ∧ Hid (Below w.heap.size w wr)) (fun i _ => n - (intOf i).toNat)
 case atStart => exact ⟨0, by omega, rfl, yz (fun j hj => absurd hj (Nat.not_lt_zero _)), yz (Below.refl _ _)⟩
 case round =>
  obtain ⟨k, hk, rfl, HF, HB⟩ := hrel
  by_cases hkn : k < n
  ·obtain ⟨⟨s1, s2, s3, s4⟩, hs⟩ : ∃ s, stA L k = s := ⟨_, rfl⟩
   have hst := ((yy HC) k hkn).kept hb (yy HB)
   rw [hs] at hst
   obtain ⟨c0, c1, c2, c3⟩ := hst
   have HT := yz hs
   clear hs
   have B1 := yz ((yy HB).alloc (yy HB).size (.cells #[.int .i64 s1, .int .i64 s2, .int .i64 s3, .int .i64 s4] 62))
   have N1 := yz (bQ wr (s1, s2, s3, s4) 62)
   go_wp2_with fail
   clear c0 c1 c2 c3
   have hb1 := yy B1
   have hn1 := yy N1
   generalize hwe : wr.alloc (.cells #[.int .i64 s1, .int .i64 s2, .int .i64 s3, .int .i64 s4] 62) = W1 at hb1 hn1 ⊢
   have HB1 := yz hb1
   clear hwe hb1 B1 N1
   obtain ⟨c0, c1, c2, c3⟩ := hn1
   simp only [Nat.zero_add] at c0 c1 c2 c3
   have r0 := cell_regrown c0
   have r1 := cell_regrown c1
   have r2 := cell_regrown c2
   have r3 := cell_regrown c3
   clear c0 c1 c2 c3
   have cW := yz (fun (W : World) (hW : aA W (some ⟨b, o, none⟩) L k) => lf L k s1 s2 s3 s4 (some ⟨b, o, none⟩) k W (by omega) (yy HT) hW)
   have HSk := yz (((yy HS).less (Nat.le_of_lt hkn)).kept (yy HB1))
   have hkc : (k : Int) ≤ (c : Int) := by omega
   refine wp_region_quiet_below (by kernel_rfl) (by kernel_rfl) ?_
   repeat (quiet_step (first | (with_reducible exact Calls.regrown_of (yy cW _ ((yy HSk).kept (below_regrown _ _ _))))))
   refine wpQuiet_nil ?_
   intro _ hw'
   obtain ⟨⟨dq, osq⟩, hw''⟩ := hw'
   subst hw''
   have hx := ak (yy HB1) (below_regrown W1 dq osq)
   generalize grow (redrawn W1 dq) osq = W2 at hx ⊢
   have HB2 := yz hx
   clear hx HB1 HB cW HSk r0 r1 r2 r3
   cases hok : cx L k
   ·obtain ⟨why, hwhy⟩ := pT hok
    have HO := yz (qK (by rw [yy HL]; omega) (by rw [yy HL]; exact hkn) (yy HF) hok)
    rw [hwhy] at HO ⊢
    unfold aY at HO ⊢
    clear hok hwhy
    go_wp2_with fail
    go_ret
    exact ⟨by rw [yy HO]; rfl, yy HB2⟩
   ·rw [sK hok]
    have HF2 := yz (ml (yy HF) hok)
    clear hok
    go_wp2_with fail
    go_roundw
    case rel => exact ⟨k + 1, by omega, by go_num, HF2, HB2⟩
    case measure => simp [intOf]; omega
  ·have hkn' : k = n := by omega
   subst hkn'
   have HO := yz (iN (L := L) (by rw [yy HL]; omega) (by rw [yy HL]; exact yy HF))
   go_wp2_with fail
   go_ret
   exact ⟨by rw [yy HO]; rfl, yy HB⟩
theorem ct (L : List St) (a : Option Addr) (c : Nat) (p : Addr) (w : World) (hn : L.length ≤ 1048576) (hcap : L.length ≤ c) (hc9 : c ≤ 9223372036854775807) (hS : aA w a L L.length) (hE : aU p w) :
  Calls Tryz.prog 13 #[.slice a L.length c] w fun e w' => e = .returned (.bool (aB L)) ∧ Below w.heap.size w w' := by
 have r0 := cell_regrown (show w.cell? ⟨0, 0, none⟩ = some (.iface 153 (.pointer (some p))) from hE)
 have HS := yz hS
 have HE := yz hE
 clear hS hE
 cases hk : aB L
 ·obtain ⟨why, hwhy⟩ := lP hk
  have cW : Hid (∀ W : World, aA W a L L.length → Calls Tryz.prog 50 #[.slice a L.length c] W fun e w' => e = .returned (.iface 112 (.agg #[.string why])) ∧ Below W.heap.size W w') := yz (fun W hW => (fd L a c W hn hcap hc9 hW).mono fun e w' h => ⟨by rw [h.1, hwhy]; rfl, h.2⟩)
  have cI := yz (fun (W : World) (hW : aU p W) => nu why p W hW)
  clear hwhy hk
  go_enter Tryz.func13, Tryz.ntmps13
  go_wp2_with fail
  refine wp_region_quiet_below (by kernel_rfl) (by kernel_rfl) ?_
  repeat (quiet_step (first | (with_reducible exact Calls.regrown_of (yy cW _ ((yy HS).kept (below_regrown _ _ _)))) | (with_reducible exact Calls.regrown_of (yy cI _ ((yy HE).kept (below_regrown _ _ _))))))
  refine wpQuiet_nil ?_
  intro _ hw'
  obtain ⟨⟨dq, osq⟩, hw''⟩ := hw'
  subst hw''
  have hx := below_regrown w dq osq
  go_wp2_with fail
  go_ret
  exact ⟨rfl, hx⟩
 ·have cW : Hid (∀ W : World, aA W a L L.length → Calls Tryz.prog 50 #[.slice a L.length c] W fun e w' => e = .returned .nilIface ∧ Below W.heap.size W w') := yz (fun W hW => (fd L a c W hn hcap hc9 hW).mono fun e w' h => ⟨by rw [h.1, kN hk], h.2⟩)
  have cI : Hid (∀ W : World, Calls Tryz.prog 42 #[.nilIface, .iface 153 (.pointer (some p))] W fun e w' => e = .returned (.bool false) ∧ Below W.heap.size W w') := yz (fun W => (rt p W).mono fun e w' h => ⟨h.1, by rw [h.2]; exact Below.refl _ _⟩)
  clear hk
  go_enter Tryz.func13, Tryz.ntmps13
  go_wp2_with fail
  refine wp_region_quiet_below (by kernel_rfl) (by kernel_rfl) ?_
  repeat (quiet_step (first | (with_reducible exact Calls.regrown_of (yy cW _ ((yy HS).kept (below_regrown _ _ _)))) | (with_reducible exact Calls.regrown_of (yy cI _))))
  refine wpQuiet_nil ?_
  intro _ hw'
  obtain ⟨⟨dq, osq⟩, hw''⟩ := hw'
  subst hw''
  have hx := below_regrown w dq osq
  go_wp2_with fail
  go_ret
  exact ⟨rfl, hx⟩
theorem mV (a1 a2 a3 b1 b2 b3 : Int) : eqB a1 a2 a3 b1 b2 b3 = eqI b1 b2 b3 a1 a2 a3 := by
 unfold eqB eqI
 congr 1
 apply propext
 constructor <;> rintro ⟨h1, h2, h3⟩ <;> exact ⟨h1.symm, h2.symm, h3.symm⟩
theorem nE {L : List St} {i : Nat} {s1 s2 s3 s4 : Int} (hs : stA L i = (s1, s2, s3, s4)) (h : idB s1 = false) : cx L i = false := by unfold cx; rw [hs]; simp [h]
theorem rF {L : List St} {i : Nat} (h : upB L i = false) : cx L i = false := by unfold cx; simp [h]
theorem gZ {L : List St} {i : Nat} {s1 s2 s3 s4 : Int} (hs : stA L i = (s1, s2, s3, s4)) (h : aF s2 s3 s4 = false) : cx L i = false := by unfold cx; rw [hs]; simp [h]
theorem nF {L : List St} {i : Nat} {s1 s2 s3 s4 : Int} (hs : stA L i = (s1, s2, s3, s4)) (h : cy s2 s3 s4 = false) : cx L i = false := by unfold cx; rw [hs]; simp [h]
theorem rG {L : List St} {i : Nat} (h : dh L (stA L i) i = true) : cx L i = false := by unfold cx; simp [h]
theorem nG {L : List St} {i : Nat} {s1 s2 s3 s4 : Int} (hs : stA L i = (s1, s2, s3, s4)) (h1 : idB s1 = true) (h2 : upB L i = true) (h3 : aF s2 s3 s4 = true) (h4 : cy s2 s3 s4 = true) (h5 : dh L (stA L i) i = false) : cx L i = true := by
 unfold cx
 rw [h5, h2, hs]
 simp [h1, h3, h4]
theorem bL (L : List St) (a : Option Addr) (c : Nat) (w : World) (hn : L.length ≤ 1048576) (hS : aA w a L L.length) :
  Calls Tryz.prog 14 #[.slice a L.length c] w fun e w' => e = .returned (.bool (aB L)) ∧ Below w.heap.size w w' := by
 obtain ⟨n, hnl⟩ : ∃ n, L.length = n := ⟨_, rfl⟩
 rw [hnl] at hn hS ⊢
 have HL := yz hnl
 clear hnl
 by_cases h12 : 12 < n
 ·have h12' : (12 : Int) < (n : Int) := by omega
  have HO : Hid (aB L = false) := yz (rP (by rw [yy HL]; exact h12))
  clear hS
  go_enter Tryz.func14, Tryz.ntmps14
  go_wp2
  go_ret
  exact ⟨by rw [yy HO]; rfl, Below.refl _ _⟩
 have h12' : ¬ (12 : Int) < (n : Int) := by omega
 rcases hS with rfl | ⟨b, o, rfl, hb, hc⟩
 ·have HO : Hid (aB L = true) := yz (mz (by rw [yy HL]; omega) (by rw [yy HL]; intro j hj; omega))
  go_enter Tryz.func14, Tryz.ntmps14
  go_wp2_with fail
  refine wp_loop_rounds 1 ?_
  rw [rounds_succ]
  go_wp2_with fail
  go_ret
  exact ⟨by rw [yy HO]; rfl, Below.refl _ _⟩
 have HC := yz hc
 clear hc
 go_enter Tryz.func14, Tryz.ntmps14
 go_wp2_with fail
 go_loopw [3] (fun i wr => ∃ k : Nat, k ≤ n ∧ i = .int .i64 k ∧ Hid (kY L k) ∧ Hid (Below w.heap.size w wr)) (fun i _ => n - (intOf i).toNat)
 case atStart => exact ⟨0, by omega, rfl, yz (fun j hj => absurd hj (Nat.not_lt_zero _)), yz (Below.refl _ _)⟩
 case round =>
  obtain ⟨k, hk, rfl, HF, HB⟩ := hrel
  by_cases hkn : k < n
  ·obtain ⟨⟨s1, s2, s3, s4⟩, hs⟩ : ∃ s, stA L k = s := ⟨_, rfl⟩
   have hst := ((yy HC) k hkn).kept hb (yy HB)
   rw [hs] at hst
   obtain ⟨c0, c1, c2, c3⟩ := hst
   have HT := yz hs
   clear hs
   have hkn2 : (k : Int) < (n : Int) := by omega
   have B1 := yz ((yy HB).alloc (yy HB).size (.cells #[.int .i64 s2, .int .i64 s3, .int .i64 s4] 33))
   have N1 := yz (aw wr s2 s3 s4 33)
   rcases Nat.eq_zero_or_pos k with hk0 | hk0
   ·subst hk0
    go_wp2_with fail
    clear c0 c1 c2 c3
    have hb1 := yy B1
    have hn1 := yy N1
    generalize hwe : wr.alloc (.cells #[.int .i64 s2, .int .i64 s3, .int .i64 s4] 33) = W1 at hb1 hn1 ⊢
    generalize hwb : wr.heap.size = vb at hn1 ⊢
    have HB1 := yz hb1
    have HN1 := yz hn1
    clear hwe hwb hb1 hn1 B1 N1 HB
    obtain ⟨v0, v1, v2⟩ := yy HN1
    have r0 := cell_regrown v0
    have r1 := cell_regrown v1
    have r2 := cell_regrown v2
    clear v0 v1 v2
    have hst := ((yy HC) (0) hkn).kept hb (yy HB1)
    rw [yy HT] at hst
    have hst1 := hst.1
    simp only [Nat.zero_mul, Nat.add_zero] at hst1
    have q0 := cell_regrown hst1
    clear hst hst1
    have cI : Hid (∀ W : World, Calls Tryz.prog 51 #[.int .i64 s1, .int .i64 1, .int .i64 9999] W fun e w' => e = .returned (.bool (idB s1)) ∧ Below W.heap.size W w') := yz (fun W => (bF s1 1 9999 W).mono fun e w' h => ⟨h.1, by rw [h.2]; exact Below.refl _ _⟩)
    have cR := yz (fun W => cY s2 s3 s4 W)
    have cW := yz (fun W => cJ 10 s2 s3 s4 W (by omega) (by omega))
    cases hid : idB s1
    ·have HO : Hid (aB L = false) := yz (eJ (k := 0) (by rw [yy HL]; exact hkn) (nE (yy HT) hid))
     rw [hid] at cI
     refine wp_region_quiet_below (by kernel_rfl) (by kernel_rfl) ?_
     repeat (go_big_quiet_step (first | (with_reducible exact Calls.regrown_of (yy cI _))))
     refine wpQuiet_nil ?_
     intro _ hw'
     obtain ⟨⟨dq, osq⟩, hw''⟩ := hw'
     subst hw''
     have hx := ak (yy HB1) (below_regrown W1 dq osq)
     go_wp2_with fail
     go_ret
     exact ⟨by rw [yy HO]; rfl, hx⟩
    ·rw [hid] at cI
     have HU : Hid (upB L 0 = true) := yz rfl
     cases hr : ax s2 s3 s4
     ·have HO : Hid (aB L = false) := yz (eJ (k := 0) (by rw [yy HL]; exact hkn) (gZ (yy HT) (by unfold aF; rw [hr]; rfl)))
      rw [hr] at cR
      refine wp_region_quiet_below (by kernel_rfl) (by kernel_rfl) ?_
      repeat (go_big_quiet_step (first | (with_reducible exact Calls.regrown_of (yy cI _)) | (with_reducible exact Calls.regrown_of (yy cR _))))
      refine wpQuiet_nil ?_
      intro _ hw'
      obtain ⟨⟨dq, osq⟩, hw''⟩ := hw'
      subst hw''
      have hx := ak (yy HB1) (below_regrown W1 dq osq)
      go_wp2_with fail
      go_ret
      exact ⟨by rw [yy HO]; rfl, hx⟩
     ·rw [hr] at cR
      have cP := yz (fun W => eY s2 s3 s4 W hr)
      cases hwi : az 10 s2 s3 s4
      ·have HO : Hid (aB L = false) := yz (eJ (k := 0) (by rw [yy HL]; exact hkn) (gZ (yy HT) (by unfold aF; rw [hwi]; simp)))
       rw [hwi] at cW
       refine wp_region_quiet_below (by kernel_rfl) (by kernel_rfl) ?_
       repeat (go_big_quiet_step (first | (with_reducible exact Calls.regrown_of (yy cI _)) | (with_reducible exact Calls.regrown_of (yy cR _)) | (with_reducible exact Calls.regrown_of (yy cW _))))
       refine wpQuiet_nil ?_
       intro _ hw'
       obtain ⟨⟨dq, osq⟩, hw''⟩ := hw'
       subst hw''
       have hx := ak (yy HB1) (below_regrown W1 dq osq)
       go_wp2_with fail
       go_ret
       exact ⟨by rw [yy HO]; rfl, hx⟩
      ·rw [hwi] at cW
       have hq := fun W => fL (wrap64 (s2.tdiv (gI s2 s3 s4))) (wrap64 (s3.tdiv (gI s2 s3 s4))) (wrap64 (s4.tdiv (gI s2 s3 s4))) s2 s3 s4 W
       have hq2 : eqB (wrap64 (s2.tdiv (gI s2 s3 s4))) (wrap64 (s3.tdiv (gI s2 s3 s4))) (wrap64 (s4.tdiv (gI s2 s3 s4))) s2 s3 s4 = cy s2 s3 s4 := by rw [mV]; unfold cy prI; rw [hr]; rfl
       rw [hq2] at hq
       clear hq2
       generalize wrap64 (s2.tdiv (gI s2 s3 s4)) = t2 at cP hq
       generalize wrap64 (s3.tdiv (gI s2 s3 s4)) = t3 at cP hq
       generalize wrap64 (s4.tdiv (gI s2 s3 s4)) = t4 at cP hq
       cases hpr : cy s2 s3 s4
       ·have HO : Hid (aB L = false) := yz (eJ (k := 0) (by rw [yy HL]; exact hkn) (nF (yy HT) hpr))
        rw [hpr] at hq
        refine wp_region_quiet_below (by kernel_rfl) (by kernel_rfl) ?_
        repeat (go_big_quiet_step (first | (with_reducible exact Calls.regrown_of (yy cI _)) | (with_reducible exact Calls.regrown_of (yy cR _)) | (with_reducible exact Calls.regrown_of (yy cW _)) | (with_reducible exact Calls.regrown_of (yy cP _))))
        refine wpQuiet_nil ?_
        intro _ hw'
        obtain ⟨⟨dq, osq⟩, hw''⟩ := hw'
        subst hw''
        have hx := ak (yy HB1) (below_regrown W1 dq osq)
        go_wp2_with fail
        go_ret
        exact ⟨by rw [yy HO]; rfl, hx⟩
       ·rw [hpr] at hq
        have HM : Hid (aF s2 s3 s4 = true) := yz (by unfold aF; rw [hr, hwi]; rfl)
        have HI := yz hid
        have HPR := yz hpr
        refine wp_region_quiet_below (by kernel_rfl) (by kernel_rfl) ?_
        repeat (go_big_quiet_step (first | (with_reducible exact Calls.regrown_of (yy cI _)) | (with_reducible exact Calls.regrown_of (yy cR _)) | (with_reducible exact Calls.regrown_of (yy cW _)) | (with_reducible exact Calls.regrown_of (yy cP _))))
        refine wpQuiet_nil ?_
        intro _ hw'
        obtain ⟨⟨dq, osq⟩, hw''⟩ := hw'
        subst hw''
        have hx := below_regrown W1 dq osq
        have hb2 := ak (yy HB1) hx
        have hn2 := (yy HN1).kept (vlt (yy HN1)) hx
        generalize grow (redrawn W1 dq) osq = W2 at hb2 hn2 hx ⊢
        have HB2 := yz hb2
        have HN2 := yz hn2
        clear hx hb2 hn2 r0 r1 r2 q0 hq cI cR cW cP hid hpr hwi hr HB1 HN1
        go_wp2_with fail
        go_loopw [5] (fun i wr => ∃ m : Nat, m ≤ 0 ∧ i = .int .i64 m ∧ Hid (iv L (stA L (0)) m) ∧ Hid (Below w.heap.size w wr) ∧ Hid (av wr vb s2 s3 s4)) (fun i _ => (0) - (intOf i).toNat)
        case atStart => exact ⟨0, by omega, rfl, yz (fun j hj => absurd hj (Nat.not_lt_zero _)), HB2, HN2⟩
        case round =>
         obtain ⟨m, hm, rfl, HE, HB3, HN3⟩ := hrel
         by_cases hmk : m < 0
         ·omega
         ·have hmk' : m = 0 := by omega
          subst hmk'
          have HF2 := yz (ml (yy HF) (nG (yy HT) (yy HI) (yy HU) (yy HM) (yy HPR) (kJ (yy HE))))
          go_wp2_with fail
          go_roundw
          case rel => exact ⟨0 + 1, by omega, by go_num, HF2, HB3⟩
          case measure => simp [intOf]; omega
   ·obtain ⟨j, hkj⟩ : ∃ j, k = j + 1 := ⟨k - 1, by omega⟩
    have HK : Hid (k - 1 = j) := yz (by omega)
    have HKJ := yz hkj
    have hjk : j < k := by omega
    clear hkj
    obtain ⟨⟨p1, p2, p3, p4⟩, hp⟩ : ∃ s, stA L j = s := ⟨_, rfl⟩
    have HP := yz hp
    clear hp
    go_wp2_with fail
    clear c0 c1 c2 c3
    have hb1 := yy B1
    have hn1 := yy N1
    generalize hwe : wr.alloc (.cells #[.int .i64 s2, .int .i64 s3, .int .i64 s4] 33) = W1 at hb1 hn1 ⊢
    generalize hwb : wr.heap.size = vb at hn1 ⊢
    have HB1 := yz hb1
    have HN1 := yz hn1
    clear hwe hwb hb1 hn1 B1 N1 HB
    obtain ⟨v0, v1, v2⟩ := yy HN1
    have r0 := cell_regrown v0
    have r1 := cell_regrown v1
    have r2 := cell_regrown v2
    clear v0 v1 v2
    have hst := ((yy HC) (k) hkn).kept hb (yy HB1)
    rw [yy HT] at hst
    have q0 := cell_regrown hst.1
    clear hst
    have hst := ((yy HC) j (by omega)).kept hb (yy HB1)
    rw [yy HP] at hst
    have q1 := cell_regrown hst.1
    clear hst
    have hj1 : (k : Int) - 1 = (j : Int) := by have := yy HKJ; omega
    have hj2 : (0 : Int) < (k : Int) := by omega
    have hj3 : (j : Int) < (n : Int) := by omega
    have cI : Hid (∀ W : World, Calls Tryz.prog 51 #[.int .i64 s1, .int .i64 1, .int .i64 9999] W fun e w' => e = .returned (.bool (idB s1)) ∧ Below W.heap.size W w') := yz (fun W => (bF s1 1 9999 W).mono fun e w' h => ⟨h.1, by rw [h.2]; exact Below.refl _ _⟩)
    have cR := yz (fun W => cY s2 s3 s4 W)
    have cW := yz (fun W => cJ 10 s2 s3 s4 W (by omega) (by omega))
    cases hid : idB s1
    ·have HO : Hid (aB L = false) := yz (eJ (k := k) (by rw [yy HL]; exact hkn) (nE (yy HT) hid))
     rw [hid] at cI
     refine wp_region_quiet_below (by kernel_rfl) (by kernel_rfl) ?_
     repeat (go_big_quiet_step (first | (with_reducible exact Calls.regrown_of (yy cI _))))
     refine wpQuiet_nil ?_
     intro _ hw'
     obtain ⟨⟨dq, osq⟩, hw''⟩ := hw'
     subst hw''
     have hx := ak (yy HB1) (below_regrown W1 dq osq)
     go_wp2_with fail
     go_ret
     exact ⟨by rw [yy HO]; rfl, hx⟩
    ·rw [hid] at cI
     by_cases hup : s1 ≤ p1
     ·have HO : Hid (aB L = false) := yz (eJ (k := k) (by rw [yy HL]; exact hkn) (rF (by unfold upB; rw [yy HK, yy HT]; simp [yy HP]; omega)))
      refine wp_region_quiet_below (by kernel_rfl) (by kernel_rfl) ?_
      repeat (go_big_quiet_step (first | (with_reducible exact Calls.regrown_of (yy cI _))))
      refine wpQuiet_nil ?_
      intro _ hw'
      obtain ⟨⟨dq, osq⟩, hw''⟩ := hw'
      subst hw''
      have hx := ak (yy HB1) (below_regrown W1 dq osq)
      go_wp2_with fail
      go_ret
      exact ⟨by rw [yy HO]; rfl, hx⟩
     have HU : Hid (upB L k = true) := yz (by unfold upB; rw [yy HK, yy HT]; simp [yy HP]; omega)
     have hup2 : decide (s1 ≤ p1) = false := by simp; omega
     clear hup
     cases hr : ax s2 s3 s4
     ·have HO : Hid (aB L = false) := yz (eJ (k := k) (by rw [yy HL]; exact hkn) (gZ (yy HT) (by unfold aF; rw [hr]; rfl)))
      rw [hr] at cR
      refine wp_region_quiet_below (by kernel_rfl) (by kernel_rfl) ?_
      repeat (go_big_quiet_step (first | (with_reducible exact Calls.regrown_of (yy cI _)) | (with_reducible exact Calls.regrown_of (yy cR _))))
      refine wpQuiet_nil ?_
      intro _ hw'
      obtain ⟨⟨dq, osq⟩, hw''⟩ := hw'
      subst hw''
      have hx := ak (yy HB1) (below_regrown W1 dq osq)
      go_wp2_with fail
      go_ret
      exact ⟨by rw [yy HO]; rfl, hx⟩
     ·rw [hr] at cR
      have cP := yz (fun W => eY s2 s3 s4 W hr)
      cases hwi : az 10 s2 s3 s4
      ·have HO : Hid (aB L = false) := yz (eJ (k := k) (by rw [yy HL]; exact hkn) (gZ (yy HT) (by unfold aF; rw [hwi]; simp)))
       rw [hwi] at cW
       refine wp_region_quiet_below (by kernel_rfl) (by kernel_rfl) ?_
       repeat (go_big_quiet_step (first | (with_reducible exact Calls.regrown_of (yy cI _)) | (with_reducible exact Calls.regrown_of (yy cR _)) | (with_reducible exact Calls.regrown_of (yy cW _))))
       refine wpQuiet_nil ?_
       intro _ hw'
       obtain ⟨⟨dq, osq⟩, hw''⟩ := hw'
       subst hw''
       have hx := ak (yy HB1) (below_regrown W1 dq osq)
       go_wp2_with fail
       go_ret
       exact ⟨by rw [yy HO]; rfl, hx⟩
      ·rw [hwi] at cW
       have hq := fun W => fL (wrap64 (s2.tdiv (gI s2 s3 s4))) (wrap64 (s3.tdiv (gI s2 s3 s4))) (wrap64 (s4.tdiv (gI s2 s3 s4))) s2 s3 s4 W
       have hq2 : eqB (wrap64 (s2.tdiv (gI s2 s3 s4))) (wrap64 (s3.tdiv (gI s2 s3 s4))) (wrap64 (s4.tdiv (gI s2 s3 s4))) s2 s3 s4 = cy s2 s3 s4 := by rw [mV]; unfold cy prI; rw [hr]; rfl
       rw [hq2] at hq
       clear hq2
       generalize wrap64 (s2.tdiv (gI s2 s3 s4)) = t2 at cP hq
       generalize wrap64 (s3.tdiv (gI s2 s3 s4)) = t3 at cP hq
       generalize wrap64 (s4.tdiv (gI s2 s3 s4)) = t4 at cP hq
       cases hpr : cy s2 s3 s4
       ·have HO : Hid (aB L = false) := yz (eJ (k := k) (by rw [yy HL]; exact hkn) (nF (yy HT) hpr))
        rw [hpr] at hq
        refine wp_region_quiet_below (by kernel_rfl) (by kernel_rfl) ?_
        repeat (go_big_quiet_step (first | (with_reducible exact Calls.regrown_of (yy cI _)) | (with_reducible exact Calls.regrown_of (yy cR _)) | (with_reducible exact Calls.regrown_of (yy cW _)) | (with_reducible exact Calls.regrown_of (yy cP _))))
        refine wpQuiet_nil ?_
        intro _ hw'
        obtain ⟨⟨dq, osq⟩, hw''⟩ := hw'
        subst hw''
        have hx := ak (yy HB1) (below_regrown W1 dq osq)
        go_wp2_with fail
        go_ret
        exact ⟨by rw [yy HO]; rfl, hx⟩
       ·rw [hpr] at hq
        have HM : Hid (aF s2 s3 s4 = true) := yz (by unfold aF; rw [hr, hwi]; rfl)
        have HI := yz hid
        have HPR := yz hpr
        refine wp_region_quiet_below (by kernel_rfl) (by kernel_rfl) ?_
        repeat (go_big_quiet_step (first | (with_reducible exact Calls.regrown_of (yy cI _)) | (with_reducible exact Calls.regrown_of (yy cR _)) | (with_reducible exact Calls.regrown_of (yy cW _)) | (with_reducible exact Calls.regrown_of (yy cP _))))
        refine wpQuiet_nil ?_
        intro _ hw'
        obtain ⟨⟨dq, osq⟩, hw''⟩ := hw'
        subst hw''
        have hx := below_regrown W1 dq osq
        have hb2 := ak (yy HB1) hx
        have hn2 := (yy HN1).kept (vlt (yy HN1)) hx
        generalize grow (redrawn W1 dq) osq = W2 at hb2 hn2 hx ⊢
        have HB2 := yz hb2
        have HN2 := yz hn2
        clear hx hb2 hn2 r0 r1 r2 q0 hq cI cR cW cP hid hpr hwi hr HB1 HN1 q1 hup2
        go_wp2_with fail
        go_loopw [5] (fun i wr => ∃ m : Nat, m ≤ k ∧ i = .int .i64 m ∧ Hid (iv L (stA L (k)) m) ∧ Hid (Below w.heap.size w wr) ∧ Hid (av wr vb s2 s3 s4)) (fun i _ => (k) - (intOf i).toNat)
        case atStart => exact ⟨0, by omega, rfl, yz (fun j hj => absurd hj (Nat.not_lt_zero _)), HB2, HN2⟩
        case round =>
         obtain ⟨m, hm, rfl, HE, HB3, HN3⟩ := hrel
         by_cases hmk : m < k
         ·obtain ⟨⟨t1, t2, t3, t4⟩, ht⟩ : ∃ s, stA L m = s := ⟨_, rfl⟩
          have hst := ((yy HC) m (by omega)).kept hb (yy HB3)
          rw [ht] at hst
          have hmn : (m : Int) < (n : Int) := by omega
          have hmj : (m : Int) < (k : Int) := by omega
          obtain ⟨_, g1, g2, g3⟩ := hst
          have k1 := cell_regrown g1
          have k2 := cell_regrown g2
          have k3 := cell_regrown g3
          clear g1 g2 g3
          obtain ⟨v0, v1, v2⟩ := yy HN3
          have r0 := cell_regrown v0
          have r1 := cell_regrown v1
          have r2 := cell_regrown v2
          clear v0 v1 v2
          have HQ : Hid (lI (stA L k) (stA L m) = (eqB (crW t3 t4 s3 s4) (crW t4 t2 s4 s2) (crW t2 t3 s2 s3) 0 0 0 && decide (0 < aR t2 t3 t4 s2 s3 s4))) := yz (by
           have hsm := ck ((yy HF) m (by omega))
           rw [ht] at hsm
           have e := sB hsm (yy HM)
           rw [pf hsm (yy HM)] at e
           rw [ht, yy HT]
           exact e.symm)
          have cE := yz (fun W => nw t2 t3 t4 s2 s3 s4 W)
          generalize (eqB (crW t3 t4 s3 s4) (crW t4 t2 s4 s2) (crW t2 t3 s2 s3) 0 0 0 && decide (0 < aR t2 t3 t4 s2 s3 s4)) = y at HQ cE
          clear ht
          go_wp2_with fail
          refine wp_region_quiet_below (by kernel_rfl) (by kernel_rfl) ?_
          repeat (go_big_quiet_step (first | (with_reducible exact Calls.regrown_of (yy cE _))))
          refine wpQuiet_nil ?_
          intro _ hw'
          obtain ⟨⟨dq, osq⟩, hw''⟩ := hw'
          subst hw''
          have hx := below_regrown wr dq osq
          have hb4 := ak (yy HB3) hx
          have hn4 := (yy HN3).kept (vlt (yy HN3)) hx
          generalize grow (redrawn wr dq) osq = W4 at hx hb4 hn4 ⊢
          have HB4 := yz hb4
          have HN4 := yz hn4
          clear hx hb4 hn4 r0 r1 r2 k1 k2 k3 cE HB3 HN3
          cases y
          ·go_wp2_with fail
           go_roundw
           case rel => exact ⟨m + 1, by omega, by go_num, yz (lx (yy HE) (yy HQ)), HB4, HN4⟩
           case measure => simp [intOf]; omega
          ·have HO : Hid (aB L = false) := yz (eJ (k := k) (by rw [yy HL]; exact hkn) (rG (lN hmk (yy HQ))))
           go_wp2_with fail
           go_ret
           exact ⟨by rw [yy HO]; rfl, yy HB4⟩
         ·have hmk' : m = k := by omega
          subst hmk'
          have HF2 := yz (ml (yy HF) (nG (yy HT) (yy HI) (yy HU) (yy HM) (yy HPR) (kJ (yy HE))))
          go_wp2_with fail
          go_roundw
          case rel => exact ⟨m + 1, by omega, by go_num, HF2, HB3⟩
          case measure => simp [intOf]; omega
  ·have hkn' : k = n := by omega
   subst hkn'
   have HO := yz (mz (L := L) (by rw [yy HL]; omega) (by rw [yy HL]; exact yy HF))
   go_wp2_with fail
   go_ret
   exact ⟨by rw [yy HO]; rfl, yy HB⟩
def iP (w : World) (b o : Nat) : Prop := w.frozen? ⟨b, o, none⟩ = false ∧ w.frozen? ⟨b, o + 1, none⟩ = false ∧ w.frozen? ⟨b, o + 2, none⟩ = false ∧ w.frozen? ⟨b, o + 3, none⟩ = false
theorem iP.kept {w w' : World} {b o : Nat} (h : iP w b o) (hb : b < w.heap.size) (hB : Below w.heap.size w w') : iP w' b o := by
 obtain ⟨h0, h1, h2, h3⟩ := h
 exact ⟨by rw [hB.frozen (p := ⟨b, o, none⟩) hb]; exact h0, by rw [hB.frozen (p := ⟨b, o + 1, none⟩) hb]; exact h1, by rw [hB.frozen (p := ⟨b, o + 2, none⟩) hb]; exact h2, by rw [hB.frozen (p := ⟨b, o + 3, none⟩) hb]; exact h3⟩
theorem fG (w : World) (s : St) (t : TypeId) : iP (w.alloc (.cells #[.int .i64 s.1, .int .i64 s.2.1, .int .i64 s.2.2.1, .int .i64 s.2.2.2] t)) w.heap.size 0 := by
 refine ⟨?_, ?_, ?_, ?_⟩ <;> simp
def gk (w : World) (b n : Nat) (L : List St) (k : Nat) : Prop := ∃ cur : Array Value, w.heap[b]? = some (.cells cur 62 (0, 0)) ∧ cur.size = n * 4 ∧
 ∀ j, j < k → cur[j * 4]? = some (.int .i64 (stA L j).1) ∧ cur[j * 4 + 1]? = some (.int .i64 (stA L j).2.1) ∧ cur[j * 4 + 2]? = some (.int .i64 (stA L j).2.2.1) ∧ cur[j * 4 + 3]? = some (.int .i64 (stA L j).2.2.2)
theorem gk.lt {w : World} {b n k : Nat} {L : List St} (h : gk w b n L k) : b < w.heap.size := by
 obtain ⟨cur, hc, _⟩ := h
 exact (Array.getElem?_eq_some_iff.1 hc).1
theorem gk.kept {w w' : World} {b n k : Nat} {L : List St} (h : gk w b n L k) (hB : Below w.heap.size w w') : gk w' b n L k := by
 have hl := h.lt
 obtain ⟨cur, hc, r⟩ := h
 exact ⟨cur, by rw [hB.block b hl]; exact hc, r⟩
theorem gk.stars {w : World} {b n k : Nat} {L : List St} (h : gk w b n L k) : aA w (some ⟨b, 0, none⟩) L k := by
 have hl := h.lt
 obtain ⟨cur, hc, _, hs⟩ := h
 refine .inr ⟨b, 0, rfl, hl, fun i hi => ?_⟩
 obtain ⟨h0, h1, h2, h3⟩ := hs i hi
 rw [Nat.zero_add]
 exact ⟨by rw [cell_of_row w b _ cur _ _ hc]; exact h0, by rw [cell_of_row w b _ cur _ _ hc]; exact h1, by rw [cell_of_row w b _ cur _ _ hc]; exact h2, by rw [cell_of_row w b _ cur _ _ hc]; exact h3⟩
theorem gk.free {w : World} {b n k : Nat} {L : List St} (h : gk w b n L k) (i : Nat) : w.frozen? ⟨b, i, none⟩ = false := by
 obtain ⟨cur, hc, _⟩ := h
 exact frozen_of_row w b i cur _ hc
def set4 (w : World) (b o : Nat) (s : St) : World := (((w.setCell ⟨b, o, none⟩ (.int .i64 s.1)).setCell ⟨b, o + 1, none⟩ (.int .i64 s.2.1)).setCell ⟨b, o + 2, none⟩ (.int .i64 s.2.2.1)).setCell ⟨b, o + 3, none⟩ (.int .i64 s.2.2.2)
theorem gk.step {w : World} {b n k : Nat} {L : List St} (h : gk w b n L k) (hk : k < n) : gk (set4 w b (k * 4) (stA L k)) b n L (k + 1) := by
 obtain ⟨cur, hc, hn, hs⟩ := h
 have e1 := heap_setCell_same w b (k * 4) cur _ (.int .i64 (stA L k).1) hc
 have e2 := heap_setCell_same _ b (k * 4 + 1) _ _ (.int .i64 (stA L k).2.1) e1
 have e3 := heap_setCell_same _ b (k * 4 + 2) _ _ (.int .i64 (stA L k).2.2.1) e2
 have e4 := heap_setCell_same _ b (k * 4 + 3) _ _ (.int .i64 (stA L k).2.2.2) e3
 refine ⟨_, e4, by simpa using hn, fun j hj => ?_⟩
 by_cases e : j = k
 ·subst e
  refine ⟨?_, ?_, ?_, ?_⟩ <;> simp [Array.getElem?_setIfInBounds] <;> omega
 ·obtain ⟨h0, h1, h2, h3⟩ := hs j (by omega)
  refine ⟨?_, ?_, ?_, ?_⟩
  ·simp only [Array.getElem?_setIfInBounds]
   rw [if_neg (by omega), if_neg (by omega), if_neg (by omega), if_neg (by omega)]; exact h0
  ·simp only [Array.getElem?_setIfInBounds]
   rw [if_neg (by omega), if_neg (by omega), if_neg (by omega), if_neg (by omega)]; exact h1
  ·simp only [Array.getElem?_setIfInBounds]
   rw [if_neg (by omega), if_neg (by omega), if_neg (by omega), if_neg (by omega)]; exact h2
  ·simp only [Array.getElem?_setIfInBounds]
   rw [if_neg (by omega), if_neg (by omega), if_neg (by omega), if_neg (by omega)]; exact h3
theorem iA : (Tryz.prog.info? 62).map (fun i => (i.zero, i.size, i.bytes)) = some (some (.agg #[.int .i64 0, .int .i64 0, .int .i64 0, .int .i64 0]), 4, 32) := by kernel_rfl
def iD (L : List St) (id : Int) (k : Nat) : Prop := ∀ j, j < k → (stA L j).1 ≠ id
def atV (L : List St) (n : Nat) (id : Int) : Int × Int × Int := match (List.range n).find? (fun j => decide ((stA L j).1 = id)) with | none => (0, 0, 0) | some j => (stA L j).2
theorem jx {L : List St} {n : Nat} {id : Int} (h : iD L id n) : atV L n id = (0, 0, 0) := by
 unfold atV
 have : (List.range n).find? (fun j => decide ((stA L j).1 = id)) = none := by
  rw [List.find?_eq_none]
  intro j hj
  simp [h j (List.mem_range.1 hj)]
 rw [this]
theorem ov {L : List St} {n k : Nat} {id : Int} (hk : k < n) (h : iD L id k) (h1 : (stA L k).1 = id) : atV L n id = (stA L k).2 := by
 unfold atV
 have : (List.range n).find? (fun j => decide ((stA L j).1 = id)) = some k := by
  rw [List.find?_range_eq_some]
  exact ⟨by simp [h1], List.mem_range.2 hk, fun j hj => by simp [h j hj]⟩
 rw [this]
theorem lB {L : List St} {k : Nat} {id : Int} (h : iD L id k) (h1 : (stA L k).1 ≠ id) : iD L id (k + 1) := by
 intro j hj
 by_cases e : j = k
 ·rw [e]; exact h1
 ·exact h j (by omega)
def bo (L : List St) (id : Int) : Int × Int × Int := if aB L = true then atV L L.length id else (0, 0, 0)
def dP (v : Int × Int × Int) : Value := .agg #[.int .i64 v.1, .int .i64 v.2.1, .int .i64 v.2.2]
theorem iB (L : List St) (n : Nat) (id : Int) (a : Option Addr) (c : Nat) (w : World) (hn : n ≤ 1048576) (hS : aA w a L n) :
  Calls Tryz.prog 63 #[.slice a n c, .int .i64 id] w fun e w' => e = .returned (dP (atV L n id)) ∧ Below w.heap.size w w' := by
 rcases hS with rfl | ⟨b, o, rfl, hb, hc⟩
 ·have HO : Hid (atV L 0 id = (0, 0, 0)) := yz (jx (fun j hj => absurd hj (Nat.not_lt_zero _)))
  go_enter Tryz.func63, Tryz.ntmps63
  go_wp2_with fail
  refine wp_loop_rounds 1 ?_
  rw [rounds_succ]
  go_wp2_with fail
  exact bodyPost_ret (v := .agg #[.int .i64 0, .int .i64 0, .int .i64 0]) (by simp [results, Tryz.results63, go_sem]) rfl ⟨by rw [yy HO]; rfl, am _ _⟩
 go_enter Tryz.func63, Tryz.ntmps63
 go_wp2_with fail
 have hv := aw w 0 0 0 33
 have hf := aV w 0 0 0 33
 have hB := am w (.cells #[.int .i64 0, .int .i64 0, .int .i64 0] 33)
 generalize w.alloc (.cells #[.int .i64 0, .int .i64 0, .int .i64 0] 33) = W at hv hf hB ⊢
 have HC : Hid (∀ i, i < n → dA W b (o + i * 4) (stA L i)) := yz (fun i hi => (hc i hi).kept hb hB)
 have HB := yz hB
 clear hc hB
 obtain ⟨v0, v1, v2⟩ := hv
 obtain ⟨f0, f1, f2⟩ := hf
 go_loop [5] (fun i => ∃ k : Nat, k ≤ n ∧ i = .int .i64 k ∧ Hid (iD L id k)) (fun i => n - (intOf i).toNat)
 case atStart => exact ⟨0, by omega, rfl, yz (fun j hj => absurd hj (Nat.not_lt_zero _))⟩
 case round =>
  obtain ⟨k, hk, rfl, HF⟩ := hrel
  by_cases hkn : k < n
  ·obtain ⟨⟨s1, s2, s3, s4⟩, hs⟩ : ∃ s, stA L k = s := ⟨_, rfl⟩
   have hst := (yy HC) k hkn
   rw [hs] at hst
   obtain ⟨c0, c1, c2, c3⟩ := hst
   have HT := yz hs
   clear hs
   by_cases hq : s1 = id
   ·have HO : Hid (atV L n id = (s2, s3, s4)) := yz (by rw [ov hkn (yy HF) (by rw [yy HT]; exact hq), yy HT])
    have hq' : (s1 == id) = true := by simp [hq]
    clear hq
    go_wp2_with fail
    exact bodyPost_ret (v := .agg #[.int .i64 s2, .int .i64 s3, .int .i64 s4]) (by simp [results, Tryz.results63, go_sem, v0, v1, v2]) rfl ⟨by rw [yy HO]; rfl, aJ (yy HB) (Nat.le_refl _) _ _ _⟩
   ·have HF2 := yz (lB (yy HF) (by rw [yy HT]; exact hq))
    have hq' : (s1 == id) = false := by simp [hq]
    clear hq
    go_wp2_with fail
    go_round
    case rel => exact ⟨k + 1, by omega, by go_num, HF2⟩
    case measure => simp [intOf]; omega
  ·have hkn' : k = n := by omega
   subst hkn'
   have HO := yz (jx (yy HF))
   go_wp2_with fail
   exact bodyPost_ret (v := .agg #[.int .i64 0, .int .i64 0, .int .i64 0]) (by simp [results, Tryz.results63, go_sem, v0, v1, v2]) rfl ⟨by rw [yy HO]; rfl, aJ (yy HB) (Nat.le_refl _) _ _ _⟩
theorem du (L : List St) (id : Int) (a : Option Addr) (c : Nat) (w : World) (hn : L.length ≤ 1048576) (hS : aA w a L L.length) :
  Calls Tryz.prog 25 #[.slice a L.length c, .int .i64 id] w fun e w' => e = .returned (dP (bo L id)) ∧ Below w.heap.size w w' := by
 have cS := yz (fun (W : World) hW => bL L a c W hn hW)
 have cA := yz (fun (W : World) hW => iB L L.length id a c W hn hW)
 have HS := yz hS
 clear hS
 have HV := yz (show bo L id = if aB L = true then atV L L.length id else (0, 0, 0) from rfl)
 have H12 : Hid (aB L = true → L.length ≤ 12) := yz (fun h => (aQ h).1)
 generalize L.length = n at *
 have V0 := yz (aw w 0 0 0 33)
 have F0 := yz (aV w 0 0 0 33)
 have B0 := yz (am w (.cells #[.int .i64 0, .int .i64 0, .int .i64 0] 33))
 by_cases hbig : (400 : Int) < (n : Int)
 ·have hk : ¬ aB L = true := fun h => by have := yy H12 h; omega
  rw [if_neg hk] at HV
  clear hk
  go_enter Tryz.func25, Tryz.ntmps25
  go_wp2_with fail
  exact bodyPost_ret (v := .agg #[.int .i64 0, .int .i64 0, .int .i64 0]) (by simp [results, Tryz.results25, go_sem]) rfl ⟨by rw [yy HV]; rfl, yy B0⟩
 have hbig' : decide ((400 : Int) < (n : Int)) = false := by simpa using hbig
 go_enter Tryz.func25, Tryz.ntmps25
 go_wp2_with fail
 refine (yy cS _ ((yy HS).kept (yy B0))).mono ?_
 rintro e w1 ⟨rfl, hx⟩
 have HB := yz (ak (yy B0) hx)
 have V1 := yz ((yy V0).kept (by simp) hx)
 have F1 := yz ((yy F0).kept (by simp) hx)
 clear hx V0 F0 B0
 cases hk : aB L
 ·rw [hk] at HV
  obtain ⟨v0, v1, v2⟩ := yy V1
  obtain ⟨f0, f1, f2⟩ := yy F1
  clear hk
  go_wp2_with fail
  exact bodyPost_ret (v := .agg #[.int .i64 0, .int .i64 0, .int .i64 0]) (by simp [results, Tryz.results25, go_sem, v0, v1, v2]) rfl ⟨by rw [yy HV]; rfl, aJ (yy HB) (Nat.le_refl _) _ _ _⟩
 ·rw [hk] at HV
  clear hk
  go_wp2_with fail
  refine (yy cA _ ((yy HS).kept (yy HB))).mono ?_
  rintro e w2 ⟨rfl, hx⟩
  have HB2 := yz (ak (yy HB) hx)
  obtain ⟨v0, v1, v2⟩ := (yy V1).kept (vlt (yy V1)) hx
  obtain ⟨f0, f1, f2⟩ := (yy F1).kept (vlt (yy V1)) hx
  clear hx HB V1 F1
  obtain ⟨⟨t1, t2, t3⟩, ht⟩ : ∃ v, atV L n id = v := ⟨_, rfl⟩
  have HV2 : Hid (bo L id = (t1, t2, t3)) := yz (by rw [yy HV, ht]; rfl)
  rw [ht]
  unfold dP
  clear ht
  go_wp2_with fail
  exact bodyPost_ret (v := .agg #[.int .i64 t1, .int .i64 t2, .int .i64 t3]) (by simp [results, Tryz.results25, go_sem, v0, v1, v2]) rfl ⟨by rw [yy HV2]; rfl, aJ (yy HB2) (Nat.le_refl _) _ _ _⟩
theorem ph (L : List St) (id : Int) (a : Option Addr) (c : Nat) (p : Addr) (w : World) (hn : L.length ≤ 1048576) (hcap : L.length ≤ c) (hc9 : c ≤ 9223372036854775807) (hS : aA w a L L.length) (hE : aU p w) :
  Calls Tryz.prog 24 #[.slice a L.length c, .int .i64 id] w fun e w' => e = .returned (dP (bo L id)) ∧ Below w.heap.size w w' := by
 have cS := yz (fun (W : World) hW hE => ct L a c p W hn hcap hc9 hW hE)
 have HS := yz hS
 have HE := yz hE
 clear hS hE
 have HV := yz (show bo L id = if aB L = true then atV L L.length id else (0, 0, 0) from rfl)
 generalize L.length = n at *
 have V0 := yz (aw w 0 0 0 33)
 have F0 := yz (aV w 0 0 0 33)
 have B0 := yz (am w (.cells #[.int .i64 0, .int .i64 0, .int .i64 0] 33))
 go_enter Tryz.func24, Tryz.ntmps24
 go_wp2_with fail
 refine (yy cS _ ((yy HS).kept (yy B0)) ((yy HE).kept (yy B0))).mono ?_
 rintro e w1 ⟨rfl, hx⟩
 have HB := yz (ak (yy B0) hx)
 have V1 := yz ((yy V0).kept (by simp) hx)
 have F1 := yz ((yy F0).kept (by simp) hx)
 clear hx V0 F0 B0
 cases hk : aB L
 ·rw [hk] at HV
  obtain ⟨v0, v1, v2⟩ := yy V1
  obtain ⟨f0, f1, f2⟩ := yy F1
  clear hk
  go_wp2_with fail
  exact bodyPost_ret (v := .agg #[.int .i64 0, .int .i64 0, .int .i64 0]) (by simp [results, Tryz.results24, go_sem, v0, v1, v2]) rfl ⟨by rw [yy HV]; rfl, aJ (yy HB) (Nat.le_refl _) _ _ _⟩
 rw [hk] at HV
 have HV' : Hid (bo L id = atV L n id) := yz (by rw [yy HV]; rfl)
 clear hk HV
 rcases yy HS with rfl | ⟨b, o, rfl, hb, hc⟩
 ·have HO : Hid (atV L 0 id = (0, 0, 0)) := yz (jx (fun j hj => absurd hj (Nat.not_lt_zero _)))
  obtain ⟨v0, v1, v2⟩ := yy V1
  obtain ⟨f0, f1, f2⟩ := yy F1
  go_wp2_with fail
  refine wp_loop_rounds 1 ?_
  rw [rounds_succ]
  go_wp2_with fail
  exact bodyPost_ret (v := .agg #[.int .i64 0, .int .i64 0, .int .i64 0]) (by simp [results, Tryz.results24, go_sem, v0, v1, v2]) rfl ⟨by rw [yy HV', yy HO]; rfl, aJ (yy HB) (Nat.le_refl _) _ _ _⟩
 have HC := yz hc
 clear hc
 go_wp2_with fail
 go_loopw [13] (fun i wr => ∃ k : Nat, k ≤ n ∧ i = .int .i64 k ∧ Hid (iD L id k) ∧ Hid (Below w.heap.size w wr) ∧ Hid (av wr w.heap.size 0 0 0) ∧ Hid (bd wr w.heap.size)) (fun i _ => n - (intOf i).toNat)
 case atStart => exact ⟨0, by omega, rfl, yz (fun j hj => absurd hj (Nat.not_lt_zero _)), HB, V1, F1⟩
 case round =>
  clear HB V1 F1
  obtain ⟨k, hk, rfl, HF, HB, V1, F1⟩ := hrel
  by_cases hkn : k < n
  ·obtain ⟨⟨s1, s2, s3, s4⟩, hs⟩ : ∃ s, stA L k = s := ⟨_, rfl⟩
   have hst := ((yy HC) k hkn).kept hb (yy HB)
   rw [hs] at hst
   obtain ⟨c0, c1, c2, c3⟩ := hst
   have HT := yz hs
   clear hs
   have B2 := yz ((yy HB).alloc (yy HB).size (.cells #[.int .i64 s1, .int .i64 s2, .int .i64 s3, .int .i64 s4] 62))
   have V2 := yz ((yy V1).kept (vlt (yy V1)) (am wr (.cells #[.int .i64 s1, .int .i64 s2, .int .i64 s3, .int .i64 s4] 62)))
   have F2 := yz ((yy F1).kept (vlt (yy V1)) (am wr (.cells #[.int .i64 s1, .int .i64 s2, .int .i64 s3, .int .i64 s4] 62)))
   obtain ⟨v0, v1, v2⟩ := yy V2
   obtain ⟨f0, f1, f2⟩ := yy F2
   by_cases hq : s1 = id
   ·have HO : Hid (atV L n id = (s2, s3, s4)) := yz (by rw [ov hkn (yy HF) (by rw [yy HT]; exact hq), yy HT])
    have hq' : (s1 == id) = true := by simp [hq]
    clear hq
    go_wp2_with fail
    exact bodyPost_ret (v := .agg #[.int .i64 s2, .int .i64 s3, .int .i64 s4]) (by simp [results, Tryz.results24, go_sem, v0, v1, v2]) rfl ⟨by rw [yy HV', yy HO]; rfl, aJ (yy B2) (Nat.le_refl _) _ _ _⟩
   ·have HF2 := yz (lB (yy HF) (by rw [yy HT]; exact hq))
    have hq' : (s1 == id) = false := by simp [hq]
    clear hq
    go_wp2_with fail
    go_roundw
    case rel => exact ⟨k + 1, by omega, by go_num, HF2, B2, V2, F2⟩
    case measure => simp [intOf]; omega
  ·have hkn' : k = n := by omega
   subst hkn'
   have HO := yz (jx (yy HF))
   obtain ⟨v0, v1, v2⟩ := yy V1
   obtain ⟨f0, f1, f2⟩ := yy F1
   go_wp2_with fail
   exact bodyPost_ret (v := .agg #[.int .i64 0, .int .i64 0, .int .i64 0]) (by simp [results, Tryz.results24, go_sem, v0, v1, v2]) rfl ⟨by rw [yy HV', yy HO]; rfl, aJ (yy HB) (Nat.le_refl _) _ _ _⟩
end
section
open Go.RowKit
abbrev Sg := D3 × St
def sgA (A : List Sg) (i : Nat) : Sg := A.getD i ((0, 0, 0), (0, 0, 0, 0))
end
section
def qT (ids : List Int) : Nat := ids.countP (fun x => decide (x ≠ 0))
structure SeN where
 best : List Int
 count : Nat
 many : Nat
def tE (g : List Int × Nat) (l : List Int) : List Int × Nat :=
 if qT l < 3 ∨ qT l < qT g.1 then g else if qT g.1 < qT l then (l, 1) else (g.1, g.2 + 1)
end
section
open Go.RowKit Go.Sort
def Blk (w : World) (b : Nat) (cs : List Value) (t : TypeId) : Prop := w.heap[b]? = some (.cells cs.toArray t (0, 0))
theorem Blk.lt {w : World} {b : Nat} {cs : List Value} {t : TypeId} (h : Blk w b cs t) : b < w.heap.size := (Array.getElem?_eq_some_iff.1 h).1
theorem Blk.kept {w w' : World} {b : Nat} {cs : List Value} {t : TypeId} (h : Blk w b cs t) (hB : Below w.heap.size w w') : Blk w' b cs t := (hB.block b h.lt).trans h
theorem bj (w : World) (cs : List Value) (t : TypeId) : Blk (w.alloc (.cells cs.toArray t)) w.heap.size cs t := heap_alloc_new w _
theorem Blk.alloc {w : World} {b : Nat} {cs : List Value} {t : TypeId} (h : Blk w b cs t) (o : Obj) : Blk (w.alloc o) b cs t := h.kept (am _ _)
theorem Blk.cell {w : World} {b : Nat} {cs : List Value} {t : TypeId} (h : Blk w b cs t) (i : Nat) (v : Value) (hv : cs[i]? = some v) : w.cell? ⟨b, i, none⟩ = some v := by
 rw [cell_of_row w b i _ _ _ h]; simpa using hv
theorem Blk.free {w : World} {b : Nat} {cs : List Value} {t : TypeId} (h : Blk w b cs t) (i : Nat) : w.frozen? ⟨b, i, none⟩ = false := frozen_of_row w b i _ _ h
theorem Blk.set {w : World} {b : Nat} {cs : List Value} {t : TypeId} (h : Blk w b cs t) (i : Nat) (v : Value) : Blk (w.setCell ⟨b, i, none⟩ v) b (cs.set i v) t := by
 have := heap_setCell_same w b i _ _ v h
 unfold Blk
 rw [this]
 simp
theorem Blk.other {w : World} {b : Nat} {cs : List Value} {t : TypeId} (h : Blk w b cs t) (a : Addr) (v : Value) (hne : b ≠ a.block) : Blk (w.setCell a v) b cs t := by
 unfold Blk
 rw [heap_setCell_other w a b v hne]
 exact h
theorem Blk.drewn {w : World} {b : Nat} {cs : List Value} {t : TypeId} (h : Blk w b cs t) : Blk w.drew b cs t := h
def ji (w : World) (b n : Nat) (f : Nat → Int) : Prop := ∀ j, j < n → w.cell? ⟨b, j, none⟩ = some (.int .u8 (f j)) ∧ w.frozen? ⟨b, j, none⟩ = false
theorem ji.kept {w w' : World} {b n : Nat} {f : Nat → Int} (h : ji w b n f) (hb : b < w.heap.size) (hB : Below w.heap.size w w') : ji w' b n f := fun j hj =>
 ⟨by rw [hB.cell (p := ⟨b, j, none⟩) hb]; exact (h j hj).1, by rw [hB.frozen (p := ⟨b, j, none⟩) hb]; exact (h j hj).2⟩
theorem ji.drewn {w : World} {b n : Nat} {f : Nat → Int} (h : ji w b n f) : ji w.drew b n f := h
theorem ji.congr {w : World} {b n : Nat} {f f' : Nat → Int} (h : ji w b n f) (e : ∀ j, j < n → f j = f' j) : ji w b n f' := fun j hj => ⟨by rw [(h j hj).1, e j hj], (h j hj).2⟩
theorem ji.set {w : World} {b n : Nat} {f : Nat → Int} (h : ji w b n f) (i : Nat) (hi : i < n) (v : Int) : ji (w.setCell ⟨b, i, none⟩ (.int .u8 v)) b n (fun j => if j = i then v else f j) := fun j hj => by
 refine ⟨?_, ?_⟩
 ·show _ = some (Value.int .u8 (if j = i then v else f j))
  by_cases e : j = i
  ·subst e
   rw [if_pos rfl, World.cell?_setCell_same _ _ _ (h j hj).1]
  ·rw [if_neg e, World.cell?_setCell_other _ _ _ _ (fun h => e (by simpa using (congrArg Addr.off h).symm)), (h j hj).1]
 ·rw [← (h j hj).2]
  simp
theorem bcs3 {w : World} {b : Nat} {t : TypeId} {x0 x1 x2 : Value} {r : List Value} (h : Blk w b (x0 :: x1 :: x2 :: r) t) : w.cell? ⟨b, 0, none⟩ = some x0 ∧ w.cell? ⟨b, 1, none⟩ = some x1 ∧ w.cell? ⟨b, 2, none⟩ = some x2 := ⟨h.cell 0 _ rfl, h.cell 1 _ rfl, h.cell 2 _ rfl⟩
theorem bcs4 {w : World} {b : Nat} {t : TypeId} {x0 x1 x2 x3 : Value} {r : List Value} (h : Blk w b (x0 :: x1 :: x2 :: x3 :: r) t) : w.cell? ⟨b, 0, none⟩ = some x0 ∧ w.cell? ⟨b, 1, none⟩ = some x1 ∧ w.cell? ⟨b, 2, none⟩ = some x2 ∧ w.cell? ⟨b, 3, none⟩ = some x3 := ⟨h.cell 0 _ rfl, h.cell 1 _ rfl, h.cell 2 _ rfl, h.cell 3 _ rfl⟩
def pU (w : World) (b o : Nat) (s : Sg) : Prop := w.cell? ⟨b, o, none⟩ = some (.int .i64 s.1.1) ∧ w.cell? ⟨b, o + 1, none⟩ = some (.int .i64 s.1.2.1) ∧ w.cell? ⟨b, o + 2, none⟩ = some (.int .i64 s.1.2.2) ∧ w.cell? ⟨b, o + 3, none⟩ = some (.int .i64 s.2.1) ∧ w.cell? ⟨b, o + 4, none⟩ = some (.int .i64 s.2.2.1) ∧ w.cell? ⟨b, o + 5, none⟩ = some (.int .i64 s.2.2.2.1) ∧ w.cell? ⟨b, o + 6, none⟩ = some (.int .i64 s.2.2.2.2)
theorem pU.lt {w : World} {b o : Nat} {s : Sg} (h : pU w b o s) : b < w.heap.size := World.block_lt_of_cell? w _ h.1
theorem pU.kept {w w' : World} {b o : Nat} {s : Sg} (h : pU w b o s) (hB : Below w.heap.size w w') : pU w' b o s := by
 have hb := h.lt
 obtain ⟨h0, h1, h2, h3, h4, h5, h6⟩ := h
 exact ⟨by rw [hB.cell (p := ⟨b, o, none⟩) hb]; exact h0, by rw [hB.cell (p := ⟨b, o + 1, none⟩) hb]; exact h1, by rw [hB.cell (p := ⟨b, o + 2, none⟩) hb]; exact h2, by rw [hB.cell (p := ⟨b, o + 3, none⟩) hb]; exact h3, by rw [hB.cell (p := ⟨b, o + 4, none⟩) hb]; exact h4, by rw [hB.cell (p := ⟨b, o + 5, none⟩) hb]; exact h5, by rw [hB.cell (p := ⟨b, o + 6, none⟩) hb]; exact h6⟩
def ij (w : World) (a : Option Addr) (A : List Sg) (n : Nat) : Prop := n = 0 ∨ ∃ b o, a = some ⟨b, o, none⟩ ∧ b < w.heap.size ∧ ∀ i, i < n → pU w b (o + i * 7) (sgA A i)
theorem ij.kept {w w' : World} {a : Option Addr} {A : List Sg} {n : Nat} (h : ij w a A n) (hB : Below w.heap.size w w') : ij w' a A n := by
 rcases h with h | ⟨b, o, ha, hb, hc⟩
 ·exact .inl h
 ·exact .inr ⟨b, o, ha, Nat.lt_of_lt_of_le hb hB.size, fun i hi => (hc i hi).kept hB⟩
theorem ij.less {w : World} {a : Option Addr} {A : List Sg} {n m : Nat} (h : ij w a A n) (hm : m ≤ n) : ij w a A m := by
 rcases h with h | ⟨b, o, ha, hb, hc⟩
 ·exact .inl (by omega)
 ·exact .inr ⟨b, o, ha, hb, fun i hi => hc i (by omega)⟩
theorem iW (x y z : Int) (w : World) :
  Calls Tryz.prog 61 #[.agg #[.int .i64 x, .int .i64 y, .int .i64 z]] w fun e w' => e = .returned (.bool (aO x y z)) ∧ Below w.heap.size w w' := by
 have A0 := aw w x y z 33
 have B0 := am w (.cells #[.int .i64 x, .int .i64 y, .int .i64 z] 33)
 have cR := yz (fun W => cY x y z W)
 have cW := yz (fun W => cJ 1800 x y z W (by omega) (by omega))
 have HW : Hid (aO x y z = (ax x y z && az 1800 x y z)) := yz rfl
 generalize aO x y z = wv at *
 generalize az 1800 x y z = wi at *
 go_enter Tryz.func61, Tryz.ntmps61
 go_wp2_with fail
 refine (yy cR _).mono ?_
 rintro e w1 ⟨rfl, hx⟩
 obtain ⟨c0, c1, c2⟩ := A0.kept (World.block_lt_of_cell? _ _ A0.1) hx
 have B1 := ak B0 hx
 clear hx B0 A0
 cases hr : ax x y z
 ·rw [hr] at HW
  go_wp2_with fail
  go_ret
  exact ⟨by rw [yy HW]; rfl, B1⟩
 ·rw [hr] at HW
  go_wp2_with fail
  refine (yy cW _).mono ?_
  rintro e w2 ⟨rfl, hx⟩
  have B2 := ak B1 hx
  clear hx B1
  go_wp2_with fail
  go_ret
  exact ⟨by rw [yy HW]; rfl, B2⟩
def pr (w : World) (b o : Nat) (v : D3) : Prop := w.cell? ⟨b, o, none⟩ = some (.int .i64 v.1) ∧ w.cell? ⟨b, o + 1, none⟩ = some (.int .i64 v.2.1) ∧ w.cell? ⟨b, o + 2, none⟩ = some (.int .i64 v.2.2)
def mH (w : World) (a : Option Addr) (L : List D3) (n : Nat) : Prop := n = 0 ∨ ∃ b o, a = some ⟨b, o, none⟩ ∧ b < w.heap.size ∧ ∀ i, i < n → pr w b (o + i * 3) (vA L i)
theorem pr.kept {w w' : World} {b o : Nat} {s : D3} (h : pr w b o s) (hb : b < w.heap.size) (hB : Below w.heap.size w w') : pr w' b o s := by
 obtain ⟨h0, h1, h2⟩ := h
 exact ⟨by rw [hB.cell (p := ⟨b, o, none⟩) hb]; exact h0, by rw [hB.cell (p := ⟨b, o + 1, none⟩) hb]; exact h1, by rw [hB.cell (p := ⟨b, o + 2, none⟩) hb]; exact h2⟩
theorem mH.kept {w w' : World} {a : Option Addr} {L : List D3} {n : Nat} (h : mH w a L n) (hB : Below w.heap.size w w') : mH w' a L n := by
 rcases h with h | ⟨b, o, ha, hb, hc⟩
 ·exact .inl h
 ·exact .inr ⟨b, o, ha, Nat.lt_of_lt_of_le hb hB.size, fun i hi => (hc i hi).kept hb hB⟩
theorem mH.less {w : World} {a : Option Addr} {L : List D3} {n m : Nat} (h : mH w a L n) (hm : m ≤ n) : mH w a L m := by
 rcases h with h | ⟨b, o, ha, hb, hc⟩
 ·exact .inl (by omega)
 ·exact .inr ⟨b, o, ha, hb, fun i hi => hc i (by omega)⟩
def jk (w : World) (b n : Nat) (L : List D3) (k : Nat) : Prop := ∃ cur : Array Value, w.heap[b]? = some (.cells cur 33 (0, 0)) ∧ cur.size = n * 3 ∧
 ∀ j, j < k → cur[j * 3]? = some (.int .i64 (vA L j).1) ∧ cur[j * 3 + 1]? = some (.int .i64 (vA L j).2.1) ∧ cur[j * 3 + 2]? = some (.int .i64 (vA L j).2.2)
theorem jk.lt {w : World} {b n k : Nat} {L : List D3} (h : jk w b n L k) : b < w.heap.size := by
 obtain ⟨cur, hc, _⟩ := h
 exact (Array.getElem?_eq_some_iff.1 hc).1
theorem jk.kept {w w' : World} {b n k : Nat} {L : List D3} (h : jk w b n L k) (hB : Below w.heap.size w w') : jk w' b n L k := by
 have hl := h.lt
 obtain ⟨cur, hc, r⟩ := h
 exact ⟨cur, by rw [hB.block b hl]; exact hc, r⟩
theorem jk.dirs {w : World} {b n k : Nat} {L : List D3} (h : jk w b n L k) : mH w (some ⟨b, 0, none⟩) L k := by
 have hl := h.lt
 obtain ⟨cur, hc, _, hs⟩ := h
 refine .inr ⟨b, 0, rfl, hl, fun i hi => ?_⟩
 obtain ⟨h0, h1, h2⟩ := hs i hi
 rw [Nat.zero_add]
 exact ⟨by rw [cell_of_row w b _ cur _ _ hc]; exact h0, by rw [cell_of_row w b _ cur _ _ hc]; exact h1, by rw [cell_of_row w b _ cur _ _ hc]; exact h2⟩
theorem jk.free {w : World} {b n k : Nat} {L : List D3} (h : jk w b n L k) (i : Nat) : w.frozen? ⟨b, i, none⟩ = false := by
 obtain ⟨cur, hc, _⟩ := h
 exact frozen_of_row w b i cur _ hc
def set3 (w : World) (b o : Nat) (s : D3) : World := ((w.setCell ⟨b, o, none⟩ (.int .i64 s.1)).setCell ⟨b, o + 1, none⟩ (.int .i64 s.2.1)).setCell ⟨b, o + 2, none⟩ (.int .i64 s.2.2)
theorem jk.step {w : World} {b n k : Nat} {L : List D3} (h : jk w b n L k) (hk : k < n) : jk (set3 w b (k * 3) (vA L k)) b n L (k + 1) := by
 obtain ⟨cur, hc, hn, hs⟩ := h
 have e1 := heap_setCell_same w b (k * 3) cur _ (.int .i64 (vA L k).1) hc
 have e2 := heap_setCell_same _ b (k * 3 + 1) _ _ (.int .i64 (vA L k).2.1) e1
 have e3 := heap_setCell_same _ b (k * 3 + 2) _ _ (.int .i64 (vA L k).2.2) e2
 refine ⟨_, e3, by simpa using hn, fun j hj => ?_⟩
 by_cases e : j = k
 ·subst e
  refine ⟨?_, ?_, ?_⟩ <;> simp [Array.getElem?_setIfInBounds] <;> omega
 ·obtain ⟨h0, h1, h2⟩ := hs j (by omega)
  refine ⟨?_, ?_, ?_⟩
  ·simp only [Array.getElem?_setIfInBounds]
   rw [if_neg (by omega), if_neg (by omega), if_neg (by omega)]; exact h0
  ·simp only [Array.getElem?_setIfInBounds]
   rw [if_neg (by omega), if_neg (by omega), if_neg (by omega)]; exact h1
  ·simp only [Array.getElem?_setIfInBounds]
   rw [if_neg (by omega), if_neg (by omega), if_neg (by omega)]; exact h2
end
section
open Go.RowKit
def aZ (w : World) (t : TypeId) (g m : Nat) (f : Nat → Int) : Prop := ∃ cur : Array Value, w.heap[g]? = some (.cells cur t (0, 0)) ∧ ∀ j, j < m → cur[j]? = some (.int .i64 (f j))
theorem aZ.lt {w : World} {t : TypeId} {g m : Nat} {f : Nat → Int} (h : aZ w t g m f) : g < w.heap.size := by
 obtain ⟨cur, hc, _⟩ := h
 exact (Array.getElem?_eq_some_iff.1 hc).1
theorem aZ.same {w w' : World} {t : TypeId} {g m : Nat} {f : Nat → Int} (h : aZ w t g m f) (e : w'.heap[g]? = w.heap[g]?) : aZ w' t g m f := by
 obtain ⟨cur, hc, hs⟩ := h
 exact ⟨cur, by rw [e]; exact hc, hs⟩
theorem aZ.kept {w w' : World} {t : TypeId} {g m : Nat} {f : Nat → Int} (h : aZ w t g m f) (hB : Below w.heap.size w w') : aZ w' t g m f := h.same (hB.block g h.lt)
theorem aZ.congr {w : World} {t : TypeId} {g m : Nat} {f f' : Nat → Int} (h : aZ w t g m f) (e : ∀ j, j < m → f j = f' j) : aZ w t g m f' := by
 obtain ⟨cur, hc, hs⟩ := h
 exact ⟨cur, hc, fun j hj => by rw [hs j hj, e j hj]⟩
theorem aZ.cell {w : World} {t : TypeId} {g m j : Nat} {f : Nat → Int} (h : aZ w t g m f) (hj : j < m) : w.cell? ⟨g, j, none⟩ = some (.int .i64 (f j)) := by
 obtain ⟨cur, hc, hs⟩ := h
 rw [cell_of_row w g j cur t _ hc]
 exact hs j hj
theorem aZ.free {w : World} {t : TypeId} {g m : Nat} {f : Nat → Int} (h : aZ w t g m f) (j : Nat) : w.frozen? ⟨g, j, none⟩ = false := by
 obtain ⟨cur, hc, _⟩ := h
 exact frozen_of_row w g j cur t hc
theorem aZ.set {w : World} {t : TypeId} {g m : Nat} {f : Nat → Int} (h : aZ w t g m f) (i : Nat) (v : Int) : aZ (w.setCell ⟨g, i, none⟩ (.int .i64 v)) t g m (fun j => if j = i then v else f j) := by
 obtain ⟨cur, hc, hs⟩ := h
 refine ⟨_, heap_setCell_same w g i cur t (.int .i64 v) hc, fun j hj => ?_⟩
 have := hs j hj
 rw [Array.getElem?_setIfInBounds]
 by_cases e : i = j
 ·subst e
  simp [(Array.getElem?_eq_some_iff.1 this).1]
 ·have e' : ¬ j = i := fun h => e (Eq.symm h)
  simp [e, e', this]
theorem qm (w : World) (row : Option Nat) : w.grownBy w row := ⟨rfl, rfl, rfl, Nat.le_refl _, fun _ _ _ => rfl⟩
theorem aX {w w1 : World} {g : Nat} (h : w.grownBy w1 (some g)) (i : Nat) (v : Value) : w.grownBy (w1.setCell ⟨g, i, none⟩ v) (some g) :=
 ⟨h.os, h.tape, h.output, by simpa [World.setCell] using h.size, fun k hk hne => by rw [Below.heap_setCell _ _ _ _ (fun e => hne (by rw [e]))]; exact h.block k hk hne⟩
theorem oF {B : Nat} {w w1 w2 : World} {g : Nat} (h : Below B w w1) (hB : B ≤ w1.heap.size) (hg : w1.grownBy w2 (some g)) (hb : B ≤ g) : Below B w w2 :=
 h.trans ⟨hg.os, hg.tape, hg.output, hg.size, fun k hk => hg.block k (by omega) (fun e => by have := Option.some.inj e; omega)⟩
theorem oE {w w1 : World} {b : Nat} (h : Below w.heap.size w w1) : w.grownBy w1 (some b) := ⟨h.os, h.tape, h.output, h.size, fun k hk _ => h.block k hk⟩
theorem jA {a b c : World} {row : Option Nat} (h : a.grownBy b row) (k : b.grownBy c row) : a.grownBy c row :=
 ⟨k.os.trans h.os, k.tape.trans h.tape, k.output.trans h.output, Nat.le_trans h.size k.size, fun i hi hn => (k.block i (Nat.lt_of_lt_of_le hi h.size) hn).trans (h.block i hi hn)⟩
end
section
open Go.RowKit Go.Sort
theorem eb.made {w' : World} {B b n : Nat} {v : Value} {t : TypeId} {c : Nat} {xs : List Value} {f : Nat → Value} (h : w'.ownsRow B t c (.slice (some ⟨b, 0, none⟩) n n) n xs) (hf : ∀ j, j < n * c → xs[j]? = some (f j)) : eb w' t b (n * c) f := by
 rcases h.2 with ⟨h', _⟩ | ⟨g, cap, cur, hv, _, hg, _, _, _, htake⟩
 ·simp at h'
 ·simp only [Value.slice.injEq, Option.some.injEq, Addr.mk.injEq, and_true, true_and] at hv
  obtain ⟨rfl, rfl⟩ := hv
  refine ⟨cur, hg, fun j hj => ?_⟩
  have e := hf j hj
  rw [← htake, List.getElem?_take, if_pos hj] at e
  simpa using e
theorem aG.same {w w' : World} {b : Nat} {p q r s : Int} (h : aG w b p q r s) (e : w'.heap[b]? = w.heap[b]?) : aG w' b p q r s := by
 obtain ⟨h0, h1, h2, h3⟩ := h
 exact ⟨(World.cell?_of_block (a := ⟨b, _, none⟩) e).trans h0, (World.cell?_of_block (a := ⟨b, _, none⟩) e).trans h1, (World.cell?_of_block (a := ⟨b, _, none⟩) e).trans h2, (World.cell?_of_block (a := ⟨b, _, none⟩) e).trans h3⟩
structure MSt (w wr : World) (g m : Nat) (a b c d : Int) (f : Nat → Value) : Prop where
 row : eb wr 2 g (m * 1) f
 tur : aG wr w.heap.size a b c d
 bel : Below w.heap.size w wr
 lo : w.heap.size < g
theorem MSt.kept {w wr wy : World} {g m : Nat} {a b c d : Int} {f : Nat → Value} (h : MSt w wr g m a b c d f) (hB : Below wr.heap.size wr wy) : MSt w wy g m a b c d f :=
 ⟨h.row.kept hB, h.tur.kept h.tur.lt hB, ak h.bel hB, h.lo⟩
theorem MSt.set {w wr : World} {g m : Nat} {a b c d : Int} {f : Nat → Value} (h : MSt w wr g m a b c d f) (i : Nat) (v : Value) : MSt w (wr.setCell ⟨g, i, none⟩ v) g m a b c d (fun j => if j = i then v else f j) :=
 ⟨h.row.set i v, h.tur.same (heap_setCell_other wr ⟨g, i, none⟩ w.heap.size v (by have := h.lo; show w.heap.size ≠ g; omega)), h.bel.setCell (by have := h.lo; show w.heap.size ≤ g; omega) _, h.lo⟩
theorem MSt.congr {w wr : World} {g m : Nat} {a b c d : Int} {f f' : Nat → Value} (h : MSt w wr g m a b c d f) (e : ∀ j, j < m → f j = f' j) : MSt w wr g m a b c d f' := ⟨h.row.congr (fun j hj => e j (by omega)), h.tur, h.bel, h.lo⟩
abbrev T4 := Int × Int × Int × Int
def fg (xs : List Int) : List Value := xs.map (fun z => .int .i64 z)
end
end Go.Proofs.YthoiooefclbecaaGreatDoor
