/- Several texts in one: ModO. -/
import Derived.Test.YtgiodlllokdcdaaGreatDoorQFnModeOwn25
namespace Go.Proofs.YtgiodlllokdcdaaGreatDoor
set_option linter.unusedVariables false
set_option linter.unusedSimpArgs false
set_option maxRecDepth 100000
set_option maxHeartbeats 8000000
section
open Go.RowKit Go.Sort
def iO (L : List St) (lim : Int) : Bool := aT L && cb 1 5 lim
def fi (L : List St) (lim : Int) : Tk := if 400 < L.length then ez else if iO L lim = true then ⟨L, lim, 0, 0, 0, 0, 0, 0, 0⟩ else ez
def gu (L : List St) (lim : Int) : Int := if 400 < L.length then 2 else if iO L lim = true then 0 else 1
theorem nF (L : List St) (lim : Int) : aG ⟨L, lim, 0, 0, 0, 0, 0, 0, 0⟩ = iO L lim := by
 unfold iO
 cases h1 : aT L
 ·exact kn h1
 ·cases h2 : cb 1 5 lim
  ·exact fW h2
  ·rw [iZ h1 h2 rfl, qN rfl]; rfl
theorem gW (L : List St) (lim : Int) (b o c : Nat) (w : World) (hn : L.length ≤ 1048576) (hS : aH w (some ⟨b, o, none⟩) L L.length) :
  Calls Tryz.prog 17 #[.slice (some ⟨b, o, none⟩) L.length c, .int .i64 lim] w fun e w' => mG w' w.heap.size (fi L lim) (gu L lim) e ∧ Below w.heap.size w w' := by
 have B0 := an w (.cells #[.slice none 0 0, .int .i64 0, .int .i64 0, .int .i64 0, .int .i64 0, .int .i64 0, .int .i64 0, .int .i64 0, .int .i64 0, .int .i64 0] 32)
 have R0 := iB w (.slice none 0 0) 0 0 0 0 0 0 0 0 0 32
 have G0 := ce w #[.slice none 0 0, .int .i64 0, .int .i64 0, .int .i64 0, .int .i64 0, .int .i64 0, .int .i64 0, .int .i64 0, .int .i64 0, .int .i64 0] 32
 have S0 := hS.kept B0
 have hsz : w.heap.size + 1 ≤ (w.alloc (.cells #[.slice none 0 0, .int .i64 0, .int .i64 0, .int .i64 0, .int .i64 0, .int .i64 0, .int .i64 0, .int .i64 0, .int .i64 0, .int .i64 0] 32)).heap.size := by simp
 have cR := yz (fun W h => gX L (some ⟨b, o, none⟩) c W hn h)
 have HB := yz B0
 have HR := yz R0
 have HG := yz G0
 have HS := yz S0
 clear B0 R0 G0 S0 hS
 by_cases h4 : 400 < L.length
 ·have h4' : (400 : Int) < (L.length : Int) := by omega
  have HO1 : Hid (fi L lim = ez) := yz (by unfold fi; rw [if_pos h4])
  have HO2 : Hid (gu L lim = 2) := yz (by unfold gu; rw [if_pos h4])
  clear h4
  go_enter Tryz.func17, Tryz.ntmps17
  go_wp2_with fail
  refine (cu 2 _).mono ?_
  rintro e w2 ⟨rfl, hx⟩
  have B2 := yz (aj (yy HB) hx)
  have R2 := yz ((yy HR).kept hx)
  have G2 := yz ((yy HG).kept (yy HR).lt hx)
  clear hx HB HR HG
  obtain ⟨⟨r0, r1, r2, r3, r4, r5, r6, r7, r8⟩, r9⟩ := yy R2
  have g0 := yy G2 0
  have g1 := yy G2 1
  have g2 := yy G2 2
  have g3 := yy G2 3
  have g4 := yy G2 4
  have g5 := yy G2 5
  have g6 := yy G2 6
  have g7 := yy G2 7
  have g8 := yy G2 8
  have g9 := yy G2 9
  go_wp2_with fail
  clear r0 r1 r2 r3 r4 r5 r6 r7 r8 r9 g0 g1 g2 g3 g4 g5 g6 g7 g8 g9
  refine bodyPost_ret (v := .agg #[.slice none 0 0, .int .i64 0, .int .i64 0, .int .i64 0, .int .i64 0, .int .i64 0, .int .i64 0, .int .i64 0, .int .i64 0, .int .i64 2]) ?_ rfl ⟨?_, ?_⟩
  ·refine jA _ _ w.heap.size _ 0 0 0 0 0 0 0 0 2 rfl ?_
   exact bj (yy R2) _ _ _ _ _ _ _ _ _ _
  ·rw [yy HO1, yy HO2]
   exact bz _ _ _
  ·iterate 10 (refine aB ?_ (Nat.le_refl w.heap.size) _ _)
   exact yy B2
 have h4' : ¬ (400 : Int) < (L.length : Int) := by omega
 go_enter Tryz.func17, Tryz.ntmps17
 go_wp2_with fail
 refine (yy cR _ (yy HS)).mono ?_
 rintro e w1 ⟨rfl, hx⟩
 have B1 := yz (aj (yy HB) hx)
 have R1 := yz ((yy HR).kept hx)
 have G1 := yz ((yy HG).kept (yy HR).lt hx)
 have S1 := yz ((yy HS).kept hx)
 have hsz1 : w.heap.size + 1 ≤ w1.heap.size := Nat.le_trans hsz hx.size
 clear hx HB HR HG HS hsz cR
 have hill : iO L lim = false → Hid (fi L lim = ez) ∧ Hid (gu L lim = 1) := fun h => ⟨yz (by unfold fi; rw [if_neg h4, h]; rfl), yz (by unfold gu; rw [if_neg h4, h]; rfl)⟩
 cases hk : aT L
 ·obtain ⟨HO1, HO2⟩ := hill (by unfold iO; rw [hk]; rfl)
  clear hill
  go_wp2_with fail
  refine (cu 1 _).mono ?_
  rintro e w2 ⟨rfl, hx⟩
  have B2 := yz (aj (yy B1) hx)
  have R2 := yz ((yy R1).kept hx)
  have G2 := yz ((yy G1).kept (yy R1).lt hx)
  clear hx B1 R1 G1
  obtain ⟨⟨r0, r1, r2, r3, r4, r5, r6, r7, r8⟩, r9⟩ := yy R2
  have g0 := yy G2 0
  have g1 := yy G2 1
  have g2 := yy G2 2
  have g3 := yy G2 3
  have g4 := yy G2 4
  have g5 := yy G2 5
  have g6 := yy G2 6
  have g7 := yy G2 7
  have g8 := yy G2 8
  have g9 := yy G2 9
  go_wp2_with fail
  clear r0 r1 r2 r3 r4 r5 r6 r7 r8 r9 g0 g1 g2 g3 g4 g5 g6 g7 g8 g9
  refine bodyPost_ret (v := .agg #[.slice none 0 0, .int .i64 0, .int .i64 0, .int .i64 0, .int .i64 0, .int .i64 0, .int .i64 0, .int .i64 0, .int .i64 0, .int .i64 1]) ?_ rfl ⟨?_, ?_⟩
  ·refine jA _ _ w.heap.size _ 0 0 0 0 0 0 0 0 1 rfl ?_
   exact bj (yy R2) _ _ _ _ _ _ _ _ _ _
  ·rw [yy HO1, yy HO2]
   exact bz _ _ _
  ·iterate 10 (refine aB ?_ (Nat.le_refl w.heap.size) _ _)
   exact yy B2
 go_wp2_with fail
 refine (fz lim 1 5 _).mono ?_
 rintro e w2 ⟨rfl, hw⟩
 rw [hw]
 clear hw w2
 cases hl : cb 1 5 lim
 ·obtain ⟨HO1, HO2⟩ := hill (by unfold iO; rw [hk, hl]; rfl)
  clear hill
  go_wp2_with fail
  refine (cu 1 _).mono ?_
  rintro e w2 ⟨rfl, hx⟩
  have B2 := yz (aj (yy B1) hx)
  have R2 := yz ((yy R1).kept hx)
  have G2 := yz ((yy G1).kept (yy R1).lt hx)
  clear hx B1 R1 G1
  obtain ⟨⟨r0, r1, r2, r3, r4, r5, r6, r7, r8⟩, r9⟩ := yy R2
  have g0 := yy G2 0
  have g1 := yy G2 1
  have g2 := yy G2 2
  have g3 := yy G2 3
  have g4 := yy G2 4
  have g5 := yy G2 5
  have g6 := yy G2 6
  have g7 := yy G2 7
  have g8 := yy G2 8
  have g9 := yy G2 9
  go_wp2_with fail
  clear r0 r1 r2 r3 r4 r5 r6 r7 r8 r9 g0 g1 g2 g3 g4 g5 g6 g7 g8 g9
  refine bodyPost_ret (v := .agg #[.slice none 0 0, .int .i64 0, .int .i64 0, .int .i64 0, .int .i64 0, .int .i64 0, .int .i64 0, .int .i64 0, .int .i64 0, .int .i64 1]) ?_ rfl ⟨?_, ?_⟩
  ·refine jA _ _ w.heap.size _ 0 0 0 0 0 0 0 0 1 rfl ?_
   exact bj (yy R2) _ _ _ _ _ _ _ _ _ _
  ·rw [yy HO1, yy HO2]
   exact bz _ _ _
  ·iterate 10 (refine aB ?_ (Nat.le_refl w.heap.size) _ _)
   exact yy B2
 have HO1 : Hid (fi L lim = ⟨L, lim, 0, 0, 0, 0, 0, 0, 0⟩) := yz (by unfold fi iO; rw [if_neg h4, hk, hl]; rfl)
 have HO2 : Hid (gu L lim = 0) := yz (by unfold gu iO; rw [if_neg h4, hk, hl]; rfl)
 clear hill hk hl h4
 have Z1 := an w1 (.cells #[] 80)
 have S2 := (yy S1).kept Z1
 have B2 := yz (aj (yy B1) Z1)
 have R2 := yz ((yy R1).kept Z1)
 have G2 := yz ((yy G1).kept (yy R1).lt Z1)
 have N2 := fR w1 (w.heap.size + 1) hsz1
 have hcells := yz (kK S2)
 have HN := yz N2
 clear Z1 S2 B1 R1 G1 S1 N2
 obtain ⟨i0, hinf, hz0, hz1, hz2⟩ := info_parts ip
 go_wp2_with (at_builtin; refine wpList_append_own _ rfl _ _ 23 rfl (w.heap.size + 1) 80 i0 (.agg #[.int .i64 0, .int .i64 0, .int .i64 0, .int .i64 0]) 4 32 Tryz.underlying23 hinf hz0 hz1 hz2 rfl (by decide) _ _ _ rfl (yy HN) ⟨b, o, none⟩ L.length c (aS L) rfl (dG L) (yy hcells) (fun u hu => dX hu) ?d1 ?d2 ?d3 ?_)
 case d1 =>
  have : 1048576 ≤ maxLen := by decide +kernel
  omega
 case d2 => omega
 case d3 => simp; omega
 intro v' w3 ho hg _
 obtain ⟨a, cap, rfl, hC⟩ := gG ho
 have hne : ∀ g, Value.ownBlock (.slice (some ⟨w1.heap.size, 0, none⟩) 0 0) = some g → w.heap.size + 1 ≤ g := fun g e => by simp [Value.ownBlock] at e; omega
 have B3 := yz (bP (yy B2) hg (yy B2).size (fun g e => by have := hne g e; omega))
 have R3 := yz ((yy R2).grown hg (fun e => by have := hne _ e.symm; omega))
 have G3 := yz ((yy G2).grown (yy R2).lt hg (fun e => by have := hne _ e.symm; omega))
 have C3 := yz hC
 clear ho hg hC hne B2 R2 G2 HN hcells
 obtain ⟨⟨r0, r1, r2, r3, r4, r5, r6, r7, r8⟩, r9⟩ := yy R3
 have g0 := yy G3 0
 have g1 := yy G3 1
 have g2 := yy G3 2
 have g3 := yy G3 3
 have g4 := yy G3 4
 have g5 := yy G3 5
 have g6 := yy G3 6
 have g7 := yy G3 7
 have g8 := yy G3 8
 have g9 := yy G3 9
 go_wp2_with fail
 clear r0 r1 r2 r3 r4 r5 r6 r7 r8 r9 g0 g1 g2 g3 g4 g5 g6 g7 g8 g9
 refine bodyPost_ret (v := .agg #[.slice a L.length cap, .int .i64 lim, .int .i64 0, .int .i64 0, .int .i64 0, .int .i64 0, .int .i64 0, .int .i64 0, .int .i64 0, .int .i64 0]) ?_ rfl ⟨?_, ?_⟩
 ·refine jA _ _ w.heap.size _ lim 0 0 0 0 0 0 0 0 rfl ?_
  exact bj (yy R3) _ _ _ _ _ _ _ _ _ _
 ·rw [yy HO1, yy HO2]
  refine ⟨a, cap, rfl, ?_⟩
  refine aq.low (B := w.heap.size + 1) ?_ (by omega)
  iterate 10 (refine aq.far ?_ (Nat.lt_succ_self w.heap.size) _ _)
  exact yy C3
 ·iterate 10 (refine aB ?_ (Nat.le_refl w.heap.size) _ _)
  exact yy B3
theorem pJ (L : List St) (lim : Int) (b o c : Nat) (p : Addr) (w : World) (hn : L.length ≤ 1048576) (hcap : L.length ≤ c) (hc9 : c ≤ 9223372036854775807) (hE : aY p w) (hS : aH w (some ⟨b, o, none⟩) L L.length) :
  Calls Tryz.prog 16 #[.slice (some ⟨b, o, none⟩) L.length c, .int .i64 lim] w fun e w' => mG w' w.heap.size (fi L lim) (gu L lim) e ∧ Below w.heap.size w w' := by
 have B0 := an w (.cells #[.slice none 0 0, .int .i64 0, .int .i64 0, .int .i64 0, .int .i64 0, .int .i64 0, .int .i64 0, .int .i64 0, .int .i64 0, .int .i64 0] 32)
 have R0 := iB w (.slice none 0 0) 0 0 0 0 0 0 0 0 0 32
 have G0 := ce w #[.slice none 0 0, .int .i64 0, .int .i64 0, .int .i64 0, .int .i64 0, .int .i64 0, .int .i64 0, .int .i64 0, .int .i64 0, .int .i64 0] 32
 by_cases h4 : 400 < L.length
 ·have h4' : (400 : Int) < (L.length : Int) := by omega
  have HO1 : Hid (fi L lim = ez) := yz (by unfold fi; rw [if_pos h4])
  have HO2 : Hid (gu L lim = 2) := yz (by unfold gu; rw [if_pos h4])
  have B2 := yz B0
  have R2 := yz R0
  have G2 := yz G0
  clear h4 B0 R0 G0
  go_enter Tryz.func16, Tryz.ntmps16
  obtain ⟨⟨r0, r1, r2, r3, r4, r5, r6, r7, r8⟩, r9⟩ := yy R2
  have g0 := yy G2 0
  have g1 := yy G2 1
  have g2 := yy G2 2
  have g3 := yy G2 3
  have g4 := yy G2 4
  have g5 := yy G2 5
  have g6 := yy G2 6
  have g7 := yy G2 7
  have g8 := yy G2 8
  have g9 := yy G2 9
  go_wp2_with fail
  clear r0 r1 r2 r3 r4 r5 r6 r7 r8 r9 g0 g1 g2 g3 g4 g5 g6 g7 g8 g9
  refine bodyPost_ret (v := .agg #[.slice none 0 0, .int .i64 0, .int .i64 0, .int .i64 0, .int .i64 0, .int .i64 0, .int .i64 0, .int .i64 0, .int .i64 0, .int .i64 2]) (by simp [results, Tryz.results16, go_sem]) rfl ⟨?_, ?_⟩
  ·rw [yy HO1, yy HO2]
   exact bz _ _ _
  ·exact an _ _
 have h4' : ¬ (400 : Int) < (L.length : Int) := by omega
 have Z0 := an (w.alloc (.cells #[.slice none 0 0, .int .i64 0, .int .i64 0, .int .i64 0, .int .i64 0, .int .i64 0, .int .i64 0, .int .i64 0, .int .i64 0, .int .i64 0] 32)) (.cells #[.slice (some ⟨b, o, none⟩) L.length c, .int .i64 lim, .int .i64 0, .int .i64 0, .int .i64 0, .int .i64 0, .int .i64 0, .int .i64 0, .int .i64 0] 27)
 have T0 := (by simpa using ck (w.alloc (.cells #[.slice none 0 0, .int .i64 0, .int .i64 0, .int .i64 0, .int .i64 0, .int .i64 0, .int .i64 0, .int .i64 0, .int .i64 0, .int .i64 0] 32)) (.slice (some ⟨b, o, none⟩) L.length c) lim 0 0 0 0 0 0 0 27 : dj ((w.alloc (.cells #[.slice none 0 0, .int .i64 0, .int .i64 0, .int .i64 0, .int .i64 0, .int .i64 0, .int .i64 0, .int .i64 0, .int .i64 0, .int .i64 0] 32)).alloc (.cells #[.slice (some ⟨b, o, none⟩) L.length c, .int .i64 lim, .int .i64 0, .int .i64 0, .int .i64 0, .int .i64 0, .int .i64 0, .int .i64 0, .int .i64 0] 27)) (w.heap.size + 1) (.slice (some ⟨b, o, none⟩) L.length c) lim 0 0 0 0 0 0 0)
 have hsz : w.heap.size + 2 ≤ ((w.alloc (.cells #[.slice none 0 0, .int .i64 0, .int .i64 0, .int .i64 0, .int .i64 0, .int .i64 0, .int .i64 0, .int .i64 0, .int .i64 0, .int .i64 0] 32)).alloc (.cells #[.slice (some ⟨b, o, none⟩) L.length c, .int .i64 lim, .int .i64 0, .int .i64 0, .int .i64 0, .int .i64 0, .int .i64 0, .int .i64 0, .int .i64 0] 27)).heap.size := by simp
 have HB := yz (aj B0 Z0)
 have HR := yz (R0.kept Z0)
 have HG := yz (G0.kept R0.lt Z0)
 have HT := yz T0
 have HS := yz ((hS.kept B0).kept Z0)
 have cR := yz (dT L lim 0 0 0 0 0 0 0 (some ⟨b, o, none⟩) c p _ hn hcap hc9 (yy HS) ((hE.kept B0).kept Z0))
 have cC := yz (fun W h => gy L lim 0 0 0 0 0 0 0 (some ⟨b, o, none⟩) c W hn h)
 rw [nF] at cR
 clear B0 R0 G0 Z0 T0 hS hE
 go_enter Tryz.func16, Tryz.ntmps16
 go_wp2_with fail
 generalize hW : (w.alloc (.cells #[.slice none 0 0, .int .i64 0, .int .i64 0, .int .i64 0, .int .i64 0, .int .i64 0, .int .i64 0, .int .i64 0, .int .i64 0, .int .i64 0] 32)).alloc (.cells #[.slice (some ⟨b, o, none⟩) L.length c, .int .i64 lim, .int .i64 0, .int .i64 0, .int .i64 0, .int .i64 0, .int .i64 0, .int .i64 0, .int .i64 0] 27) = W at *
 clear hW
 refine (yy cR).mono ?_
 rintro e w1 ⟨rfl, hx⟩
 have B1 := yz (aj (yy HB) hx)
 have T1 := yz ((yy HT).kept hx)
 have R1 := yz ((yy HR).kept hx)
 have G1 := yz ((yy HG).kept (yy HR).lt hx)
 have S1 := yz ((yy HS).kept hx)
 have hsz1 : w.heap.size + 2 ≤ w1.heap.size := Nat.le_trans hsz hx.size
 clear hx HB HT HR HG HS hsz cR
 cases hk : iO L lim
 ·have HO1 : Hid (fi L lim = ez) := yz (by unfold fi; rw [if_neg h4, hk]; rfl)
  have HO2 : Hid (gu L lim = 1) := yz (by unfold gu; rw [if_neg h4, hk]; rfl)
  have B2 := B1
  have R2 := R1
  have G2 := G1
  clear B1 R1 G1
  obtain ⟨⟨r0, r1, r2, r3, r4, r5, r6, r7, r8⟩, r9⟩ := yy R2
  have g0 := yy G2 0
  have g1 := yy G2 1
  have g2 := yy G2 2
  have g3 := yy G2 3
  have g4 := yy G2 4
  have g5 := yy G2 5
  have g6 := yy G2 6
  have g7 := yy G2 7
  have g8 := yy G2 8
  have g9 := yy G2 9
  go_wp2_with fail
  clear r0 r1 r2 r3 r4 r5 r6 r7 r8 r9 g0 g1 g2 g3 g4 g5 g6 g7 g8 g9
  refine bodyPost_ret (v := .agg #[.slice none 0 0, .int .i64 0, .int .i64 0, .int .i64 0, .int .i64 0, .int .i64 0, .int .i64 0, .int .i64 0, .int .i64 0, .int .i64 1]) ?_ rfl ⟨?_, ?_⟩
  ·refine qd _ _ w.heap.size _ 0 0 0 0 0 0 0 0 1 rfl ?_
   exact bj (yy R2) _ _ _ _ _ _ _ _ _ _
  ·rw [yy HO1, yy HO2]
   exact bz _ _ _
  ·iterate 10 (refine aB ?_ (Nat.le_refl w.heap.size) _ _)
   exact yy B2
 ·have HO1 : Hid (fi L lim = ⟨L, lim, 0, 0, 0, 0, 0, 0, 0⟩) := yz (by unfold fi; rw [if_neg h4, hk]; rfl)
  have HO2 : Hid (gu L lim = 0) := yz (by unfold gu; rw [if_neg h4, hk]; rfl)
  clear hk h4
  obtain ⟨s0, s1, s2, s3, s4, s5, s6, s7, s8⟩ := yy T1
  go_wp2_with fail
  clear s0 s1 s2 s3 s4 s5 s6 s7 s8
  refine (yy cC _ (yy S1)).mono ?_
  rintro e w2 ⟨a, cap, rfl, hC, hx⟩
  have B2 := yz (aj (yy B1) hx)
  have R2 := yz ((yy R1).kept hx)
  have G2 := yz ((yy G1).kept (yy R1).lt hx)
  have C2 := yz (hC.low (B' := w.heap.size + 1) (by omega))
  clear hx hC B1 R1 G1 T1 S1 cC
  go_wp2_with fail
  refine (jL lim 0 0 0 0 0 0 0 a L.length cap _).mono ?_
  rintro e w3 ⟨rfl, hx⟩
  have B3 := yz (aj (yy B2) hx)
  have R3 := yz ((yy R2).kept hx)
  have G3 := yz ((yy G2).kept (yy R2).lt hx)
  have C3 := yz ((yy C2).kept hx)
  clear hx B2 R2 G2 C2
  obtain ⟨⟨r0, r1, r2, r3, r4, r5, r6, r7, r8⟩, r9⟩ := yy R3
  have g0 := yy G3 0
  have g1 := yy G3 1
  have g2 := yy G3 2
  have g3 := yy G3 3
  have g4 := yy G3 4
  have g5 := yy G3 5
  have g6 := yy G3 6
  have g7 := yy G3 7
  have g8 := yy G3 8
  have g9 := yy G3 9
  go_wp2_with fail
  clear r0 r1 r2 r3 r4 r5 r6 r7 r8 r9 g0 g1 g2 g3 g4 g5 g6 g7 g8 g9
  refine bodyPost_ret (v := .agg #[.slice a L.length cap, .int .i64 lim, .int .i64 0, .int .i64 0, .int .i64 0, .int .i64 0, .int .i64 0, .int .i64 0, .int .i64 0, .int .i64 0]) ?_ rfl ⟨?_, ?_⟩
  ·refine qd _ _ w.heap.size _ lim 0 0 0 0 0 0 0 0 rfl ?_
   exact bj (yy R3) _ _ _ _ _ _ _ _ _ _
  ·rw [yy HO1, yy HO2]
   refine ⟨a, cap, rfl, ?_⟩
   refine aq.low (B := w.heap.size + 1) ?_ (by omega)
   iterate 10 (refine aq.far ?_ (Nat.lt_succ_self w.heap.size) _ _)
   exact yy C3
  ·iterate 10 (refine aB ?_ (Nat.le_refl w.heap.size) _ _)
   exact yy B3
end
end Go.Proofs.YtgiodlllokdcdaaGreatDoor
