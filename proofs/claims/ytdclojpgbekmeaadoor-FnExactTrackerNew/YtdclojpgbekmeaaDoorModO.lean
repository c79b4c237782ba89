/- TrackerNew: the specification's and the program's. -/
import Derived.Test.YtdclojpgbekmeaaDoorModK
namespace Go.Proofs.YtdclojpgbekmeaaDoor
open Go.RowKit Go.Sort
set_option linter.unusedVariables false

def newOk (L : List St) (lim : Int) : Bool := skyB L && spanB 1 5 lim
def newT (L : List St) (lim : Int) : Tk := if 400 < L.length then zeroK else if newOk L lim = true then ⟨L, lim, 0, 0, 0, 0, 0, 0, 0⟩ else zeroK
def newC (L : List St) (lim : Int) : Int := if 400 < L.length then 2 else if newOk L lim = true then 0 else 1
theorem new_track (L : List St) (lim : Int) : trackB ⟨L, lim, 0, 0, 0, 0, 0, 0, 0⟩ = newOk L lim := by
  unfold newOk
  cases h1 : skyB L
  · exact track_no1 h1
  · cases h2 : spanB 1 5 lim
    · exact track_no2 h2
    · rw [track_head h1 h2 rfl, mode_0 rfl]; rfl

set_option maxHeartbeats 2000000 in
set_option maxRecDepth 100000 in
theorem specNew_any (L : List St) (lim : Int) (b o c : Nat) (w : World) (hn : L.length ≤ 1048576) (hS : Stars w (some ⟨b, o, none⟩) L L.length) :
    Calls Tryd.prog 13 #[.slice (some ⟨b, o, none⟩) L.length c, .int .i64 lim] w fun e w' => OutT w' w.heap.size (newT L lim) (newC L lim) e ∧ Below w.heap.size w w' := by
  have B0 := below1 w (.cells #[.slice none 0 0, .int .i64 0, .int .i64 0, .int .i64 0, .int .i64 0, .int .i64 0, .int .i64 0, .int .i64 0, .int .i64 0, .int .i64 0] 38)
  have R0 := tkO_new w (.slice none 0 0) 0 0 0 0 0 0 0 0 0 38
  have G0 := freeK_new w #[.slice none 0 0, .int .i64 0, .int .i64 0, .int .i64 0, .int .i64 0, .int .i64 0, .int .i64 0, .int .i64 0, .int .i64 0, .int .i64 0] 38
  have S0 := hS.kept B0
  have hsz : w.heap.size + 1 ≤ (w.alloc (.cells #[.slice none 0 0, .int .i64 0, .int .i64 0, .int .i64 0, .int .i64 0, .int .i64 0, .int .i64 0, .int .i64 0, .int .i64 0, .int .i64 0] 38)).heap.size := by simp
  have cR := hide (fun W h => specSky_any L (some ⟨b, o, none⟩) c W hn h)
  have HB := hide B0
  have HR := hide R0
  have HG := hide G0
  have HS := hide S0
  clear B0 R0 G0 S0 hS
  by_cases h4 : 400 < L.length
  · have h4' : (400 : Int) < (L.length : Int) := by omega
    have HO1 : Hid (newT L lim = zeroK) := hide (by unfold newT; rw [if_pos h4])
    have HO2 : Hid (newC L lim = 2) := hide (by unfold newC; rw [if_pos h4])
    clear h4
    go_enter Tryd.func13, Tryd.ntmps13
    go_wp2_with fail
    refine (l07Ill_any 2 _).mono ?_
    rintro e w2 ⟨rfl, hx⟩
    have B2 := hide (below_call (unhide HB) hx)
    have R2 := hide ((unhide HR).kept hx)
    have G2 := hide ((unhide HG).kept (unhide HR).lt hx)
    clear hx HB HR HG
    obtain ⟨⟨r0, r1, r2, r3, r4, r5, r6, r7, r8⟩, r9⟩ := unhide R2
    have g0 := unhide G2 0
    have g1 := unhide G2 1
    have g2 := unhide G2 2
    have g3 := unhide G2 3
    have g4 := unhide G2 4
    have g5 := unhide G2 5
    have g6 := unhide G2 6
    have g7 := unhide G2 7
    have g8 := unhide G2 8
    have g9 := unhide G2 9
    go_wp2_with fail
    clear r0 r1 r2 r3 r4 r5 r6 r7 r8 r9 g0 g1 g2 g3 g4 g5 g6 g7 g8 g9
    refine bodyPost_ret (v := .agg #[.slice none 0 0, .int .i64 0, .int .i64 0, .int .i64 0, .int .i64 0, .int .i64 0, .int .i64 0, .int .i64 0, .int .i64 0, .int .i64 2]) ?_ rfl ⟨?_, ?_⟩
    · refine res_snew _ _ w.heap.size _ 0 0 0 0 0 0 0 0 2 rfl ?_
      exact tkO_set10 (unhide R2) _ _ _ _ _ _ _ _ _ _
    · rw [unhide HO1, unhide HO2]
      exact outT_ill _ _ _
    · iterate 10 (refine belowSet ?_ (Nat.le_refl w.heap.size) _ _)
      exact unhide B2
  have h4' : ¬ (400 : Int) < (L.length : Int) := by omega
  go_enter Tryd.func13, Tryd.ntmps13
  go_wp2_with fail
  refine (unhide cR _ (unhide HS)).mono ?_
  rintro e w1 ⟨rfl, hx⟩
  have B1 := hide (below_call (unhide HB) hx)
  have R1 := hide ((unhide HR).kept hx)
  have G1 := hide ((unhide HG).kept (unhide HR).lt hx)
  have S1 := hide ((unhide HS).kept hx)
  have hsz1 : w.heap.size + 1 ≤ w1.heap.size := Nat.le_trans hsz hx.size
  clear hx HB HR HG HS hsz cR
  have hill : newOk L lim = false → Hid (newT L lim = zeroK) ∧ Hid (newC L lim = 1) := fun h => ⟨hide (by unfold newT; rw [if_neg h4, h]; rfl), hide (by unfold newC; rw [if_neg h4, h]; rfl)⟩
  cases hk : skyB L
  · obtain ⟨HO1, HO2⟩ := hill (by unfold newOk; rw [hk]; rfl)
    clear hill
    go_wp2_with fail
    refine (l07Ill_any 1 _).mono ?_
    rintro e w2 ⟨rfl, hx⟩
    have B2 := hide (below_call (unhide B1) hx)
    have R2 := hide ((unhide R1).kept hx)
    have G2 := hide ((unhide G1).kept (unhide R1).lt hx)
    clear hx B1 R1 G1
    obtain ⟨⟨r0, r1, r2, r3, r4, r5, r6, r7, r8⟩, r9⟩ := unhide R2
    have g0 := unhide G2 0
    have g1 := unhide G2 1
    have g2 := unhide G2 2
    have g3 := unhide G2 3
    have g4 := unhide G2 4
    have g5 := unhide G2 5
    have g6 := unhide G2 6
    have g7 := unhide G2 7
    have g8 := unhide G2 8
    have g9 := unhide G2 9
    go_wp2_with fail
    clear r0 r1 r2 r3 r4 r5 r6 r7 r8 r9 g0 g1 g2 g3 g4 g5 g6 g7 g8 g9
    refine bodyPost_ret (v := .agg #[.slice none 0 0, .int .i64 0, .int .i64 0, .int .i64 0, .int .i64 0, .int .i64 0, .int .i64 0, .int .i64 0, .int .i64 0, .int .i64 1]) ?_ rfl ⟨?_, ?_⟩
    · refine res_snew _ _ w.heap.size _ 0 0 0 0 0 0 0 0 1 rfl ?_
      exact tkO_set10 (unhide R2) _ _ _ _ _ _ _ _ _ _
    · rw [unhide HO1, unhide HO2]
      exact outT_ill _ _ _
    · iterate 10 (refine belowSet ?_ (Nat.le_refl w.heap.size) _ _)
      exact unhide B2
  go_wp2_with fail
  refine (l02Span_any lim 1 5 _).mono ?_
  rintro e w2 ⟨rfl, hw⟩
  rw [hw]
  clear hw w2
  cases hl : spanB 1 5 lim
  · obtain ⟨HO1, HO2⟩ := hill (by unfold newOk; rw [hk, hl]; rfl)
    clear hill
    go_wp2_with fail
    refine (l07Ill_any 1 _).mono ?_
    rintro e w2 ⟨rfl, hx⟩
    have B2 := hide (below_call (unhide B1) hx)
    have R2 := hide ((unhide R1).kept hx)
    have G2 := hide ((unhide G1).kept (unhide R1).lt hx)
    clear hx B1 R1 G1
    obtain ⟨⟨r0, r1, r2, r3, r4, r5, r6, r7, r8⟩, r9⟩ := unhide R2
    have g0 := unhide G2 0
    have g1 := unhide G2 1
    have g2 := unhide G2 2
    have g3 := unhide G2 3
    have g4 := unhide G2 4
    have g5 := unhide G2 5
    have g6 := unhide G2 6
    have g7 := unhide G2 7
    have g8 := unhide G2 8
    have g9 := unhide G2 9
    go_wp2_with fail
    clear r0 r1 r2 r3 r4 r5 r6 r7 r8 r9 g0 g1 g2 g3 g4 g5 g6 g7 g8 g9
    refine bodyPost_ret (v := .agg #[.slice none 0 0, .int .i64 0, .int .i64 0, .int .i64 0, .int .i64 0, .int .i64 0, .int .i64 0, .int .i64 0, .int .i64 0, .int .i64 1]) ?_ rfl ⟨?_, ?_⟩
    · refine res_snew _ _ w.heap.size _ 0 0 0 0 0 0 0 0 1 rfl ?_
      exact tkO_set10 (unhide R2) _ _ _ _ _ _ _ _ _ _
    · rw [unhide HO1, unhide HO2]
      exact outT_ill _ _ _
    · iterate 10 (refine belowSet ?_ (Nat.le_refl w.heap.size) _ _)
      exact unhide B2
  have HO1 : Hid (newT L lim = ⟨L, lim, 0, 0, 0, 0, 0, 0, 0⟩) := hide (by unfold newT newOk; rw [if_neg h4, hk, hl]; rfl)
  have HO2 : Hid (newC L lim = 0) := hide (by unfold newC newOk; rw [if_neg h4, hk, hl]; rfl)
  clear hill hk hl h4
  have Z1 := below1 w1 (.cells #[] 60)
  have S2 := (unhide S1).kept Z1
  have B2 := hide (below_call (unhide B1) Z1)
  have R2 := hide ((unhide R1).kept Z1)
  have G2 := hide ((unhide G1).kept (unhide R1).lt Z1)
  have N2 := ownS_none w1 (w.heap.size + 1) hsz1
  have hcells := hide (stars_cells S2)
  have HN := hide N2
  clear Z1 S2 B1 R1 G1 S1 N2
  obtain ⟨i0, hinf, hz0, hz1, hz2⟩ := info_parts info_star
  go_wp2_with (at_builtin; refine wpList_append_own _ rfl _ _ 29 rfl (w.heap.size + 1) 60 i0 (.agg #[.int .i64 0, .int .i64 0, .int .i64 0, .int .i64 0]) 4 32 Tryd.underlying29 hinf hz0 hz1 hz2 rfl (by decide) _ _ _ rfl (unhide HN) ⟨b, o, none⟩ L.length c (flatSt L) rfl (flatSt_len L) (unhide hcells) (fun u hu => flatSt_one hu) ?d1 ?d2 ?d3 ?_)
  case d1 => have : 1048576 ≤ maxLen := by decide +kernel
             omega
  case d2 => omega
  case d3 => simp; omega
  intro v' w3 ho hg _
  obtain ⟨a, cap, rfl, hC⟩ := copied_form ho
  have hne : ∀ g, Value.ownBlock (.slice (some ⟨w1.heap.size, 0, none⟩) 0 0) = some g → w.heap.size + 1 ≤ g := fun g e => by simp [Value.ownBlock] at e; omega
  have B3 := hide (belowR (unhide B2) hg (unhide B2).size (fun g e => by have := hne g e; omega))
  have R3 := hide ((unhide R2).grown hg (fun e => by have := hne _ e.symm; omega))
  have G3 := hide ((unhide G2).grown (unhide R2).lt hg (fun e => by have := hne _ e.symm; omega))
  have C3 := hide hC
  clear ho hg hC hne B2 R2 G2 HN hcells
  obtain ⟨⟨r0, r1, r2, r3, r4, r5, r6, r7, r8⟩, r9⟩ := unhide R3
  have g0 := unhide G3 0
  have g1 := unhide G3 1
  have g2 := unhide G3 2
  have g3 := unhide G3 3
  have g4 := unhide G3 4
  have g5 := unhide G3 5
  have g6 := unhide G3 6
  have g7 := unhide G3 7
  have g8 := unhide G3 8
  have g9 := unhide G3 9
  go_wp2_with fail
  clear r0 r1 r2 r3 r4 r5 r6 r7 r8 r9 g0 g1 g2 g3 g4 g5 g6 g7 g8 g9
  refine bodyPost_ret (v := .agg #[.slice a L.length cap, .int .i64 lim, .int .i64 0, .int .i64 0, .int .i64 0, .int .i64 0, .int .i64 0, .int .i64 0, .int .i64 0, .int .i64 0]) ?_ rfl ⟨?_, ?_⟩
  · refine res_snew _ _ w.heap.size _ lim 0 0 0 0 0 0 0 0 rfl ?_
    exact tkO_set10 (unhide R3) _ _ _ _ _ _ _ _ _ _
  · rw [unhide HO1, unhide HO2]
    refine ⟨a, cap, rfl, ?_⟩
    refine Copied.low (B := w.heap.size + 1) ?_ (by omega)
    iterate 10 (refine Copied.far ?_ (Nat.lt_succ_self w.heap.size) _ _)
    exact unhide C3
  · iterate 10 (refine belowSet ?_ (Nat.le_refl w.heap.size) _ _)
    exact unhide B3

set_option maxHeartbeats 2000000 in
set_option maxRecDepth 100000 in
theorem implNew_any (L : List St) (lim : Int) (b o c : Nat) (p : Addr) (w : World) (hn : L.length ≤ 1048576) (hcap : L.length ≤ c) (hc9 : c ≤ 9223372036854775807) (hE : ErrSky p w) (hS : Stars w (some ⟨b, o, none⟩) L L.length) :
    Calls Tryd.prog 15 #[.slice (some ⟨b, o, none⟩) L.length c, .int .i64 lim] w fun e w' => OutT w' w.heap.size (newT L lim) (newC L lim) e ∧ Below w.heap.size w w' := by
  have B0 := below1 w (.cells #[.slice none 0 0, .int .i64 0, .int .i64 0, .int .i64 0, .int .i64 0, .int .i64 0, .int .i64 0, .int .i64 0, .int .i64 0, .int .i64 0] 38)
  have R0 := tkO_new w (.slice none 0 0) 0 0 0 0 0 0 0 0 0 38
  have G0 := freeK_new w #[.slice none 0 0, .int .i64 0, .int .i64 0, .int .i64 0, .int .i64 0, .int .i64 0, .int .i64 0, .int .i64 0, .int .i64 0, .int .i64 0] 38
  by_cases h4 : 400 < L.length
  · have h4' : (400 : Int) < (L.length : Int) := by omega
    have HO1 : Hid (newT L lim = zeroK) := hide (by unfold newT; rw [if_pos h4])
    have HO2 : Hid (newC L lim = 2) := hide (by unfold newC; rw [if_pos h4])
    have B2 := hide B0
    have R2 := hide R0
    have G2 := hide G0
    clear h4 B0 R0 G0
    go_enter Tryd.func15, Tryd.ntmps15
    obtain ⟨⟨r0, r1, r2, r3, r4, r5, r6, r7, r8⟩, r9⟩ := unhide R2
    have g0 := unhide G2 0
    have g1 := unhide G2 1
    have g2 := unhide G2 2
    have g3 := unhide G2 3
    have g4 := unhide G2 4
    have g5 := unhide G2 5
    have g6 := unhide G2 6
    have g7 := unhide G2 7
    have g8 := unhide G2 8
    have g9 := unhide G2 9
    go_wp2_with fail
    clear r0 r1 r2 r3 r4 r5 r6 r7 r8 r9 g0 g1 g2 g3 g4 g5 g6 g7 g8 g9
    refine bodyPost_ret (v := .agg #[.slice none 0 0, .int .i64 0, .int .i64 0, .int .i64 0, .int .i64 0, .int .i64 0, .int .i64 0, .int .i64 0, .int .i64 0, .int .i64 2]) (by simp [results, Tryd.results15, go_sem]) rfl ⟨?_, ?_⟩
    · rw [unhide HO1, unhide HO2]
      exact outT_ill _ _ _
    · exact below1 _ _
  have h4' : ¬ (400 : Int) < (L.length : Int) := by omega
  have Z0 := below1 (w.alloc (.cells #[.slice none 0 0, .int .i64 0, .int .i64 0, .int .i64 0, .int .i64 0, .int .i64 0, .int .i64 0, .int .i64 0, .int .i64 0, .int .i64 0] 38)) (.cells #[.slice (some ⟨b, o, none⟩) L.length c, .int .i64 lim, .int .i64 0, .int .i64 0, .int .i64 0, .int .i64 0, .int .i64 0, .int .i64 0, .int .i64 0] 32)
  have T0 := (by simpa using tkAt_new (w.alloc (.cells #[.slice none 0 0, .int .i64 0, .int .i64 0, .int .i64 0, .int .i64 0, .int .i64 0, .int .i64 0, .int .i64 0, .int .i64 0, .int .i64 0] 38)) (.slice (some ⟨b, o, none⟩) L.length c) lim 0 0 0 0 0 0 0 32 : TkAt ((w.alloc (.cells #[.slice none 0 0, .int .i64 0, .int .i64 0, .int .i64 0, .int .i64 0, .int .i64 0, .int .i64 0, .int .i64 0, .int .i64 0, .int .i64 0] 38)).alloc (.cells #[.slice (some ⟨b, o, none⟩) L.length c, .int .i64 lim, .int .i64 0, .int .i64 0, .int .i64 0, .int .i64 0, .int .i64 0, .int .i64 0, .int .i64 0] 32)) (w.heap.size + 1) (.slice (some ⟨b, o, none⟩) L.length c) lim 0 0 0 0 0 0 0)
  have hsz : w.heap.size + 2 ≤ ((w.alloc (.cells #[.slice none 0 0, .int .i64 0, .int .i64 0, .int .i64 0, .int .i64 0, .int .i64 0, .int .i64 0, .int .i64 0, .int .i64 0, .int .i64 0] 38)).alloc (.cells #[.slice (some ⟨b, o, none⟩) L.length c, .int .i64 lim, .int .i64 0, .int .i64 0, .int .i64 0, .int .i64 0, .int .i64 0, .int .i64 0, .int .i64 0] 32)).heap.size := by simp
  have HB := hide (below_call B0 Z0)
  have HR := hide (R0.kept Z0)
  have HG := hide (G0.kept R0.lt Z0)
  have HT := hide T0
  have HS := hide ((hS.kept B0).kept Z0)
  have cR := hide (implTrack_any L lim 0 0 0 0 0 0 0 (some ⟨b, o, none⟩) c p _ hn hcap hc9 (unhide HS) ((hE.kept B0).kept Z0))
  have cC := hide (fun W h => workOf_any L lim 0 0 0 0 0 0 0 b o c W hn h)
  rw [new_track] at cR
  clear B0 R0 G0 Z0 T0 hS hE
  go_enter Tryd.func15, Tryd.ntmps15
  go_wp2_with fail
  generalize hW : (w.alloc (.cells #[.slice none 0 0, .int .i64 0, .int .i64 0, .int .i64 0, .int .i64 0, .int .i64 0, .int .i64 0, .int .i64 0, .int .i64 0, .int .i64 0] 38)).alloc (.cells #[.slice (some ⟨b, o, none⟩) L.length c, .int .i64 lim, .int .i64 0, .int .i64 0, .int .i64 0, .int .i64 0, .int .i64 0, .int .i64 0, .int .i64 0] 32) = W at *
  clear hW
  refine (unhide cR).mono ?_
  rintro e w1 ⟨rfl, hx⟩
  have B1 := hide (below_call (unhide HB) hx)
  have T1 := hide ((unhide HT).kept hx)
  have R1 := hide ((unhide HR).kept hx)
  have G1 := hide ((unhide HG).kept (unhide HR).lt hx)
  have S1 := hide ((unhide HS).kept hx)
  have hsz1 : w.heap.size + 2 ≤ w1.heap.size := Nat.le_trans hsz hx.size
  clear hx HB HT HR HG HS hsz cR
  cases hk : newOk L lim
  · have HO1 : Hid (newT L lim = zeroK) := hide (by unfold newT; rw [if_neg h4, hk]; rfl)
    have HO2 : Hid (newC L lim = 1) := hide (by unfold newC; rw [if_neg h4, hk]; rfl)
    have B2 := B1
    have R2 := R1
    have G2 := G1
    clear B1 R1 G1
    obtain ⟨⟨r0, r1, r2, r3, r4, r5, r6, r7, r8⟩, r9⟩ := unhide R2
    have g0 := unhide G2 0
    have g1 := unhide G2 1
    have g2 := unhide G2 2
    have g3 := unhide G2 3
    have g4 := unhide G2 4
    have g5 := unhide G2 5
    have g6 := unhide G2 6
    have g7 := unhide G2 7
    have g8 := unhide G2 8
    have g9 := unhide G2 9
    go_wp2_with fail
    clear r0 r1 r2 r3 r4 r5 r6 r7 r8 r9 g0 g1 g2 g3 g4 g5 g6 g7 g8 g9
    refine bodyPost_ret (v := .agg #[.slice none 0 0, .int .i64 0, .int .i64 0, .int .i64 0, .int .i64 0, .int .i64 0, .int .i64 0, .int .i64 0, .int .i64 0, .int .i64 1]) ?_ rfl ⟨?_, ?_⟩
    · refine res_inew _ _ w.heap.size _ 0 0 0 0 0 0 0 0 1 rfl ?_
      exact tkO_set10 (unhide R2) _ _ _ _ _ _ _ _ _ _
    · rw [unhide HO1, unhide HO2]
      exact outT_ill _ _ _
    · iterate 10 (refine belowSet ?_ (Nat.le_refl w.heap.size) _ _)
      exact unhide B2
  · have HO1 : Hid (newT L lim = ⟨L, lim, 0, 0, 0, 0, 0, 0, 0⟩) := hide (by unfold newT; rw [if_neg h4, hk]; rfl)
    have HO2 : Hid (newC L lim = 0) := hide (by unfold newC; rw [if_neg h4, hk]; rfl)
    clear hk h4
    obtain ⟨s0, s1, s2, s3, s4, s5, s6, s7, s8⟩ := unhide T1
    go_wp2_with fail
    clear s0 s1 s2 s3 s4 s5 s6 s7 s8
    refine (unhide cC _ (unhide S1)).mono ?_
    rintro e w2 ⟨a, cap, rfl, hC, hx⟩
    have B2 := hide (below_call (unhide B1) hx)
    have R2 := hide ((unhide R1).kept hx)
    have G2 := hide ((unhide G1).kept (unhide R1).lt hx)
    have C2 := hide (hC.low (B' := w.heap.size + 1) (by omega))
    clear hx hC B1 R1 G1 T1 S1 cC
    go_wp2_with fail
    refine (told_any lim 0 0 0 0 0 0 0 a L.length cap _).mono ?_
    rintro e w3 ⟨rfl, hx⟩
    have B3 := hide (below_call (unhide B2) hx)
    have R3 := hide ((unhide R2).kept hx)
    have G3 := hide ((unhide G2).kept (unhide R2).lt hx)
    have C3 := hide ((unhide C2).kept hx)
    clear hx B2 R2 G2 C2
    obtain ⟨⟨r0, r1, r2, r3, r4, r5, r6, r7, r8⟩, r9⟩ := unhide R3
    have g0 := unhide G3 0
    have g1 := unhide G3 1
    have g2 := unhide G3 2
    have g3 := unhide G3 3
    have g4 := unhide G3 4
    have g5 := unhide G3 5
    have g6 := unhide G3 6
    have g7 := unhide G3 7
    have g8 := unhide G3 8
    have g9 := unhide G3 9
    go_wp2_with fail
    clear r0 r1 r2 r3 r4 r5 r6 r7 r8 r9 g0 g1 g2 g3 g4 g5 g6 g7 g8 g9
    refine bodyPost_ret (v := .agg #[.slice a L.length cap, .int .i64 lim, .int .i64 0, .int .i64 0, .int .i64 0, .int .i64 0, .int .i64 0, .int .i64 0, .int .i64 0, .int .i64 0]) ?_ rfl ⟨?_, ?_⟩
    · refine res_inew _ _ w.heap.size _ lim 0 0 0 0 0 0 0 0 rfl ?_
      exact tkO_set10 (unhide R3) _ _ _ _ _ _ _ _ _ _
    · rw [unhide HO1, unhide HO2]
      refine ⟨a, cap, rfl, ?_⟩
      refine Copied.low (B := w.heap.size + 1) ?_ (by omega)
      iterate 10 (refine Copied.far ?_ (Nat.lt_succ_self w.heap.size) _ _)
      exact unhide C3
    · iterate 10 (refine belowSet ?_ (Nat.le_refl w.heap.size) _ _)
      exact unhide B3
end Go.Proofs.YtdclojpgbekmeaaDoor
