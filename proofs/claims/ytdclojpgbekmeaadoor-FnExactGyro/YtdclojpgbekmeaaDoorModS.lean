/- Gyro: the program's. -/
import Derived.Test.YtdclojpgbekmeaaDoorModR
namespace Go.Proofs.YtdclojpgbekmeaaDoor
open Go.RowKit Go.Sort
set_option linter.unusedVariables false
set_option linter.unusedSimpArgs false

theorem TurnAt.far {w : World} {b : Nat} {p q r s : Int} (h : TurnAt w b p q r s) {b' : Nat} (hne : b ≠ b') (o : Nat) (x : Value) : TurnAt (w.setCell ⟨b', o, none⟩ x) b p q r s := by
  obtain ⟨h0, h1, h2, h3⟩ := h
  refine ⟨?_, ?_, ?_, ?_⟩ <;> (rw [World.cell?_setCell_far _ _ _ _ (Ne.symm hne)]; assumption)
set_option maxHeartbeats 4000000 in
set_option maxRecDepth 100000 in
theorem implGyro_any (L : List St) (lim mode A B C D coast fr g1 g2 g3 g4 : Int) (b o c : Nat) (p : Addr) (w : World) (hn : L.length ≤ 1048576) (hcap : L.length ≤ c) (hc9 : c ≤ 9223372036854775807) (hE : ErrSky p w) (hS : Stars w (some ⟨b, o, none⟩) L L.length) :
    Calls Tryd.prog 23 #[.agg #[.slice (some ⟨b, o, none⟩) L.length c, .int .i64 lim, .int .i64 mode, .int .i64 A, .int .i64 B, .int .i64 C, .int .i64 D, .int .i64 coast, .int .i64 fr], .agg #[.int .i64 g1, .int .i64 g2, .int .i64 g3, .int .i64 g4]] w fun e w' => OutT w' w.heap.size (gyroT ⟨L, lim, mode, A, B, C, D, coast, fr⟩ g1 g2 g3 g4) (gyroC ⟨L, lim, mode, A, B, C, D, coast, fr⟩ g1 g2 g3 g4) e ∧ Below w.heap.size w w' := by
  have B0 := below3 w (.cells #[.slice (some ⟨b, o, none⟩) L.length c, .int .i64 lim, .int .i64 mode, .int .i64 A, .int .i64 B, .int .i64 C, .int .i64 D, .int .i64 coast, .int .i64 fr] 32) (.cells #[.int .i64 g1, .int .i64 g2, .int .i64 g3, .int .i64 g4] 30) (.cells #[.slice none 0 0, .int .i64 0, .int .i64 0, .int .i64 0, .int .i64 0, .int .i64 0, .int .i64 0, .int .i64 0, .int .i64 0, .int .i64 0] 38)
  have Z2 := below2 (w.alloc (.cells #[.slice (some ⟨b, o, none⟩) L.length c, .int .i64 lim, .int .i64 mode, .int .i64 A, .int .i64 B, .int .i64 C, .int .i64 D, .int .i64 coast, .int .i64 fr] 32)) (.cells #[.int .i64 g1, .int .i64 g2, .int .i64 g3, .int .i64 g4] 30) (.cells #[.slice none 0 0, .int .i64 0, .int .i64 0, .int .i64 0, .int .i64 0, .int .i64 0, .int .i64 0, .int .i64 0, .int .i64 0, .int .i64 0] 38)
  have T0 := (tkAt_new w (.slice (some ⟨b, o, none⟩) L.length c) lim mode A B C D coast fr 32).kept Z2
  have U0 := (by simpa using turnAt_new (w.alloc (.cells #[.slice (some ⟨b, o, none⟩) L.length c, .int .i64 lim, .int .i64 mode, .int .i64 A, .int .i64 B, .int .i64 C, .int .i64 D, .int .i64 coast, .int .i64 fr] 32)) g1 g2 g3 g4 30 : TurnAt ((w.alloc (.cells #[.slice (some ⟨b, o, none⟩) L.length c, .int .i64 lim, .int .i64 mode, .int .i64 A, .int .i64 B, .int .i64 C, .int .i64 D, .int .i64 coast, .int .i64 fr] 32)).alloc (.cells #[.int .i64 g1, .int .i64 g2, .int .i64 g3, .int .i64 g4] 30)) (w.heap.size + 1) g1 g2 g3 g4).alloc (.cells #[.slice none 0 0, .int .i64 0, .int .i64 0, .int .i64 0, .int .i64 0, .int .i64 0, .int .i64 0, .int .i64 0, .int .i64 0, .int .i64 0] 38)
  have R0 := (by simpa using tkO_new ((w.alloc (.cells #[.slice (some ⟨b, o, none⟩) L.length c, .int .i64 lim, .int .i64 mode, .int .i64 A, .int .i64 B, .int .i64 C, .int .i64 D, .int .i64 coast, .int .i64 fr] 32)).alloc (.cells #[.int .i64 g1, .int .i64 g2, .int .i64 g3, .int .i64 g4] 30)) (.slice none 0 0) 0 0 0 0 0 0 0 0 0 38 : TkO (((w.alloc (.cells #[.slice (some ⟨b, o, none⟩) L.length c, .int .i64 lim, .int .i64 mode, .int .i64 A, .int .i64 B, .int .i64 C, .int .i64 D, .int .i64 coast, .int .i64 fr] 32)).alloc (.cells #[.int .i64 g1, .int .i64 g2, .int .i64 g3, .int .i64 g4] 30)).alloc (.cells #[.slice none 0 0, .int .i64 0, .int .i64 0, .int .i64 0, .int .i64 0, .int .i64 0, .int .i64 0, .int .i64 0, .int .i64 0, .int .i64 0] 38)) (w.heap.size + 1 + 1) (.slice none 0 0) 0 0 0 0 0 0 0 0 0)
  have G0 := (by simpa using freeK_new ((w.alloc (.cells #[.slice (some ⟨b, o, none⟩) L.length c, .int .i64 lim, .int .i64 mode, .int .i64 A, .int .i64 B, .int .i64 C, .int .i64 D, .int .i64 coast, .int .i64 fr] 32)).alloc (.cells #[.int .i64 g1, .int .i64 g2, .int .i64 g3, .int .i64 g4] 30)) #[.slice none 0 0, .int .i64 0, .int .i64 0, .int .i64 0, .int .i64 0, .int .i64 0, .int .i64 0, .int .i64 0, .int .i64 0, .int .i64 0] 38 : FreeK (((w.alloc (.cells #[.slice (some ⟨b, o, none⟩) L.length c, .int .i64 lim, .int .i64 mode, .int .i64 A, .int .i64 B, .int .i64 C, .int .i64 D, .int .i64 coast, .int .i64 fr] 32)).alloc (.cells #[.int .i64 g1, .int .i64 g2, .int .i64 g3, .int .i64 g4] 30)).alloc (.cells #[.slice none 0 0, .int .i64 0, .int .i64 0, .int .i64 0, .int .i64 0, .int .i64 0, .int .i64 0, .int .i64 0, .int .i64 0, .int .i64 0] 38)) (w.heap.size + 1 + 1))
  have hsz : w.heap.size + 3 ≤ (((w.alloc (.cells #[.slice (some ⟨b, o, none⟩) L.length c, .int .i64 lim, .int .i64 mode, .int .i64 A, .int .i64 B, .int .i64 C, .int .i64 D, .int .i64 coast, .int .i64 fr] 32)).alloc (.cells #[.int .i64 g1, .int .i64 g2, .int .i64 g3, .int .i64 g4] 30)).alloc (.cells #[.slice none 0 0, .int .i64 0, .int .i64 0, .int .i64 0, .int .i64 0, .int .i64 0, .int .i64 0, .int .i64 0, .int .i64 0, .int .i64 0] 38)).heap.size := by simp
  have S0 := hS.kept B0
  have cR := hide (implTrack_any L lim mode A B C D coast fr (some ⟨b, o, none⟩) c p _ hn hcap hc9 S0 (hE.kept B0))
  have cC := hide (fun W h => workOf_any L lim mode A B C D coast fr b o c W hn h)
  have HB := hide B0
  have HT := hide T0
  have HU := hide U0
  have HR := hide R0
  have HG := hide G0
  have HS := hide S0
  clear B0 T0 U0 R0 G0 S0 Z2 hS
  go_enter Tryd.func23, Tryd.ntmps23
  go_wp2_with fail
  generalize hW : ((w.alloc (.cells #[.slice (some ⟨b, o, none⟩) L.length c, .int .i64 lim, .int .i64 mode, .int .i64 A, .int .i64 B, .int .i64 C, .int .i64 D, .int .i64 coast, .int .i64 fr] 32)).alloc (.cells #[.int .i64 g1, .int .i64 g2, .int .i64 g3, .int .i64 g4] 30)).alloc (.cells #[.slice none 0 0, .int .i64 0, .int .i64 0, .int .i64 0, .int .i64 0, .int .i64 0, .int .i64 0, .int .i64 0, .int .i64 0, .int .i64 0] 38) = W at *
  clear hW
  refine (unhide cR).mono ?_
  rintro e w1 ⟨rfl, hx⟩
  have B1 := hide (below_call (unhide HB) hx)
  have T1 := hide ((unhide HT).kept hx)
  have U1 := hide ((unhide HU).kept (unhide HU).lt hx)
  have R1 := hide ((unhide HR).kept hx)
  have G1 := hide ((unhide HG).kept (unhide HR).lt hx)
  have S1 := hide ((unhide HS).kept hx)
  have hsz1 : w.heap.size + 3 ≤ w1.heap.size := Nat.le_trans hsz hx.size
  clear hx HB HT HU HR HG HS hsz cR
  have hill : gyroOk ⟨L, lim, mode, A, B, C, D, coast, fr⟩ g1 g2 g3 g4 = false → Hid (gyroT ⟨L, lim, mode, A, B, C, D, coast, fr⟩ g1 g2 g3 g4 = zeroK) ∧ Hid (gyroC ⟨L, lim, mode, A, B, C, D, coast, fr⟩ g1 g2 g3 g4 = 1) := fun h => ⟨hide (by unfold gyroT; rw [h]; rfl), hide (by unfold gyroC; rw [h]; rfl)⟩
  cases hk : trackB ⟨L, lim, mode, A, B, C, D, coast, fr⟩
  · obtain ⟨HO1, HO2⟩ := hill (by unfold gyroOk; rw [hk]; rfl)
    clear hill
    have B2 := B1
    have R2 := R1
    have G2 := G1
    clear B1 R1 G1
    obtain ⟨⟨r0, r1, r2, r3, r4, r5, r6, r7, r8⟩, r9⟩ := unhide R2
    have g0 := unhide G2 0
    have g1 := unhide G2 1
    have g2 := unhide G2 2
    have g3 := unhide G2 3
    have g4 := unhide G2 4
    have g5 := unhide G2 5
    have g6 := unhide G2 6
    have g7 := unhide G2 7
    have g8 := unhide G2 8
    have g9 := unhide G2 9
    go_wp2_with fail
    clear r0 r1 r2 r3 r4 r5 r6 r7 r8 r9 g0 g1 g2 g3 g4 g5 g6 g7 g8 g9
    refine bodyPost_ret (v := .agg #[.slice none 0 0, .int .i64 0, .int .i64 0, .int .i64 0, .int .i64 0, .int .i64 0, .int .i64 0, .int .i64 0, .int .i64 0, .int .i64 1]) ?_ rfl ⟨?_, ?_⟩
    · refine res_igyro _ _ (w.heap.size + 1 + 1) _ 0 0 0 0 0 0 0 0 1 rfl ?_
      exact tkO_set10 (unhide R2) _ _ _ _ _ _ _ _ _ _
    · rw [unhide HO1, unhide HO2]
      exact outT_ill _ _ _
    · iterate 10 (refine belowSet ?_ (show w.heap.size ≤ w.heap.size + 1 + 1 by omega) _ _)
      exact unhide B2
  obtain ⟨u0, u1, u2, u3⟩ := unhide U1
  go_wp2_with fail
  clear u0 u1 u2 u3
  refine (turnRight_any g1 g2 g3 g4 _).mono ?_
  rintro e w2 ⟨rfl, hx⟩
  have B2 := hide (below_call (unhide B1) hx)
  have T2 := hide ((unhide T1).kept hx)
  have U2 := hide ((unhide U1).kept (unhide U1).lt hx)
  have R2 := hide ((unhide R1).kept hx)
  have G2 := hide ((unhide G1).kept (unhide R1).lt hx)
  have S2 := hide ((unhide S1).kept hx)
  have hsz2 : w.heap.size + 3 ≤ w2.heap.size := Nat.le_trans hsz1 hx.size
  clear hx B1 T1 U1 R1 G1 S1 hsz1
  cases hg : rightT g1 g2 g3 g4
  · obtain ⟨HO1, HO2⟩ := hill (by unfold gyroOk; rw [hg, Bool.and_false])
    clear hill
    have B3 := B2
    have R3 := R2
    have G3 := G2
    clear B2 R2 G2
    obtain ⟨⟨r0, r1, r2, r3, r4, r5, r6, r7, r8⟩, r9⟩ := unhide R3
    have g0 := unhide G3 0
    have g1 := unhide G3 1
    have g2 := unhide G3 2
    have g3 := unhide G3 3
    have g4 := unhide G3 4
    have g5 := unhide G3 5
    have g6 := unhide G3 6
    have g7 := unhide G3 7
    have g8 := unhide G3 8
    have g9 := unhide G3 9
    go_wp2_with fail
    clear r0 r1 r2 r3 r4 r5 r6 r7 r8 r9 g0 g1 g2 g3 g4 g5 g6 g7 g8 g9
    refine bodyPost_ret (v := .agg #[.slice none 0 0, .int .i64 0, .int .i64 0, .int .i64 0, .int .i64 0, .int .i64 0, .int .i64 0, .int .i64 0, .int .i64 0, .int .i64 1]) ?_ rfl ⟨?_, ?_⟩
    · refine res_igyro _ _ (w.heap.size + 1 + 1) _ 0 0 0 0 0 0 0 0 1 rfl ?_
      exact tkO_set10 (unhide R3) _ _ _ _ _ _ _ _ _ _
    · rw [unhide HO1, unhide HO2]
      exact outT_ill _ _ _
    · iterate 10 (refine belowSet ?_ (show w.heap.size ≤ w.heap.size + 1 + 1 by omega) _ _)
      exact unhide B3
  have HO1 : Hid (gyroT ⟨L, lim, mode, A, B, C, D, coast, fr⟩ g1 g2 g3 g4 = turnedT ⟨L, lim, mode, A, B, C, D, coast, fr⟩ g1 g2 g3 g4) := hide (by unfold gyroT gyroOk; rw [hk, hg]; rfl)
  have HO2 : Hid (gyroC ⟨L, lim, mode, A, B, C, D, coast, fr⟩ g1 g2 g3 g4 = 0) := hide (by unfold gyroC gyroOk; rw [hk, hg]; rfl)
  have HL : Hid ((turnedT ⟨L, lim, mode, A, B, C, D, coast, fr⟩ g1 g2 g3 g4).L = L) := hide (turned_L _ _ _ _ _)
  have cB := hide (fun (W : World) (a : Option Addr) (cap : Nat) => turnedBy_any L lim mode A B C D coast fr g1 g2 g3 g4 a L.length cap W)
  generalize hT2 : turnedT ⟨L, lim, mode, A, B, C, D, coast, fr⟩ g1 g2 g3 g4 = t2 at *
  obtain ⟨L2, lim2, mode2, A2, B2', C2, D2, coast2, fr2⟩ := t2
  unfold tkV at cB
  dsimp only at cB HL
  clear hT2 hill hk
  have CT : Hid (TkAt w2 w.heap.size (.slice (some ⟨b, o, none⟩) L.length c) lim mode A B C D coast fr ∧ TurnAt w2 (w.heap.size + 1) g1 g2 g3 g4) := hide ⟨unhide T2, unhide U2⟩
  go_wp2_with fail
  refine wp_region_held_drew (S := (fun w' => (w'.cell? ⟨w.heap.size, 0, none⟩ = some (.slice (some ⟨b, o, none⟩) L.length c) ∧ w'.cell? ⟨w.heap.size, 1, none⟩ = some (.int .i64 lim) ∧ w'.cell? ⟨w.heap.size, 2, none⟩ = some (.int .i64 mode) ∧ w'.cell? ⟨w.heap.size, 3, none⟩ = some (.int .i64 A) ∧ w'.cell? ⟨w.heap.size, 4, none⟩ = some (.int .i64 B) ∧ w'.cell? ⟨w.heap.size, 5, none⟩ = some (.int .i64 C) ∧ w'.cell? ⟨w.heap.size, 6, none⟩ = some (.int .i64 D) ∧ w'.cell? ⟨w.heap.size, 7, none⟩ = some (.int .i64 coast) ∧ w'.cell? ⟨w.heap.size, 8, none⟩ = some (.int .i64 fr)) ∧ w'.cell? ⟨w.heap.size + 1, 0, none⟩ = some (.int .i64 g1) ∧ w'.cell? ⟨w.heap.size + 1, 1, none⟩ = some (.int .i64 g2) ∧ w'.cell? ⟨w.heap.size + 1, 2, none⟩ = some (.int .i64 g3) ∧ w'.cell? ⟨w.heap.size + 1, 3, none⟩ = some (.int .i64 g4))) (by kernel_rfl) ?_ (fun hHeld => ?_)
  · exact unhide CT
  refine wpAnyH_take (i := 0) (v := ?_) rfl (by kernel_rfl) (by kernel_rfl) (by kernel_rfl) (fun _ _ _ h => h) (Or.inl ⟨by rfl, ?_⟩) (by assumption) ?_
  rotate_left
  · intro W0 hSw; (try dsimp only at hSw); go_simp <;> with_reducible rfl
  try simp only [Act.put, List.setIfInBounds_toArray, List.set_cons_zero, List.set_cons_succ]
  refine wpAnyH_take (i := 2) (v := ?_) rfl (by kernel_rfl) (by kernel_rfl) (by kernel_rfl) (fun _ _ _ h => h) (Or.inl ⟨by rfl, ?_⟩) (by assumption) ?_
  rotate_left
  · intro W0 hSw; (try dsimp only at hSw); go_simp <;> with_reducible rfl
  try simp only [Act.put, List.setIfInBounds_toArray, List.set_cons_zero, List.set_cons_succ]
  have S2d : Stars w2.drew (some ⟨b, o, none⟩) L L.length := (unhide S2).kept (Below.refl _ _).drew
  have B2d : Below w.heap.size w w2.drew := (unhide B2).drew
  have R2d : TkO w2.drew (w.heap.size + 1 + 1) (.slice none 0 0) 0 0 0 0 0 0 0 0 0 := unhide R2
  have G2d : FreeK w2.drew (w.heap.size + 1 + 1) := unhide G2
  have CTd : TkAt w2.drew w.heap.size (.slice (some ⟨b, o, none⟩) L.length c) lim mode A B C D coast fr ∧ TurnAt w2.drew (w.heap.size + 1) g1 g2 g3 g4 := unhide CT
  have hszd : w.heap.size + 3 ≤ w2.drew.heap.size := hsz2
  refine wpAnyH_ready (rs := [1]) (by kernel_rfl) (by simp) ?_
  refine AllReadyH.cons rfl (fun K hK => ?_) AllReadyH.nil
  go_simp
  refine (unhide cC _ S2d).mono ?_
  rintro e w3 ⟨a, cap, rfl, hC, hx⟩
  have C3 := hide (hC.low (B' := w.heap.size + 1 + 1 + 1) (by omega))
  have B3 := hide (below_call B2d hx)
  have R3 := hide (R2d.kept hx)
  have G3 := hide (G2d.kept R2d.lt hx)
  have CT3 := hide (show TkAt w3 w.heap.size (.slice (some ⟨b, o, none⟩) L.length c) lim mode A B C D coast fr ∧ TurnAt w3 (w.heap.size + 1) g1 g2 g3 g4 from ⟨CTd.1.kept hx, CTd.2.kept CTd.2.lt hx⟩)
  clear hx hC S2d B2d R2d G2d CTd hszd CT T2 U2 B2 R2 G2 S2 hsz2
  refine hK.out _ _ ?_ (fun hHeld1 => ?_)
  · exact unhide CT3
  clear hK K hHeld
  refine wpAnyH_ready (rs := [3]) (by kernel_rfl) (by simp) ?_
  refine AllReadyH.cons rfl (fun K hK => ?_) AllReadyH.nil
  go_simp
  refine (unhide cB _ a cap).mono ?_
  rintro e w4 ⟨rfl, hx⟩
  have C4 := hide ((unhide C3).kept hx)
  have B4 := hide (below_call (unhide B3) hx)
  have R4 := hide ((unhide R3).kept hx)
  have G4 := hide ((unhide G3).kept (unhide R3).lt hx)
  have CT4 := hide (show TkAt w4 w.heap.size (.slice (some ⟨b, o, none⟩) L.length c) lim mode A B C D coast fr ∧ TurnAt w4 (w.heap.size + 1) g1 g2 g3 g4 from ⟨(unhide CT3).1.kept hx, (unhide CT3).2.kept (unhide CT3).2.lt hx⟩)
  clear hx C3 B3 R3 G3 CT3
  refine hK.out _ _ ?_ (fun hHeld2 => ?_)
  · exact unhide CT4
  clear hK K hHeld1
  refine wpAnyH_ready (rs := [4]) (by kernel_rfl) (by simp) ?_
  refine AllReadyH.cons rfl (fun K hK => ?_) AllReadyH.nil
  go_simp
  refine (told_any lim2 mode2 A2 B2' C2 D2 coast2 fr2 a L.length cap _).mono ?_
  rintro e w5 ⟨rfl, hx⟩
  have C5 := hide ((unhide C4).kept hx)
  have B5 := hide (below_call (unhide B4) hx)
  have R5 := hide ((unhide R4).kept hx)
  have G5 := hide ((unhide G4).kept (unhide R4).lt hx)
  have CT5 := hide (show TkAt w5 w.heap.size (.slice (some ⟨b, o, none⟩) L.length c) lim mode A B C D coast fr ∧ TurnAt w5 (w.heap.size + 1) g1 g2 g3 g4 from ⟨(unhide CT4).1.kept hx, (unhide CT4).2.kept (unhide CT4).2.lt hx⟩)
  clear hx C4 B4 R4 G4 CT4
  refine hK.out _ _ ?_ (fun hHeld3 => ?_)
  · exact unhide CT5
  clear hK K hHeld2
  obtain ⟨⟨r0, r1, r2, r3, r4, r5, r6, r7, r8⟩, r9⟩ := unhide R5
  have f0 := unhide G5 0
  have f1 := unhide G5 1
  have f2 := unhide G5 2
  have f3 := unhide G5 3
  have f4 := unhide G5 4
  have f5 := unhide G5 5
  have f6 := unhide G5 6
  have f7 := unhide G5 7
  have f8 := unhide G5 8
  have f9 := unhide G5 9
  refine wpAnyH_ready (rs := [5]) (by kernel_rfl) (by simp) ?_
  refine AllReadyH.cons rfl (fun K hK => ?_) AllReadyH.nil
  go_simp
  clear r0 r1 r2 r3 r4 r5 r6 r7 r8 r9 f0 f1 f2 f3 f4 f5 f6 f7 f8 f9
  refine hK.out _ _ ?_ (fun hHeld4 => ?_)
  · show TkAt _ w.heap.size (.slice (some ⟨b, o, none⟩) L.length c) lim mode A B C D coast fr ∧ TurnAt _ (w.heap.size + 1) g1 g2 g3 g4
    refine ⟨?_, ?_⟩
    · iterate 10 (refine TkAt.far ?_ (show w.heap.size ≠ w.heap.size + 1 + 1 by omega) _ _)
      exact (unhide CT5).1
    · iterate 10 (refine TurnAt.far ?_ (show w.heap.size + 1 ≠ w.heap.size + 1 + 1 by omega) _ _)
      exact (unhide CT5).2
  clear hK K hHeld3
  refine wpAnyH_done (by kernel_rfl) ?_ _
  clear hHeld4
  go_wp2_with fail
  have hL2 : L2 = L := unhide HL
  refine bodyPost_ret (v := .agg #[.slice a L.length cap, .int .i64 lim2, .int .i64 mode2, .int .i64 A2, .int .i64 B2', .int .i64 C2, .int .i64 D2, .int .i64 coast2, .int .i64 fr2, .int .i64 0]) ?_ rfl ⟨?_, ?_⟩
  · refine res_igyro _ _ (w.heap.size + 1 + 1) _ lim2 mode2 A2 B2' C2 D2 coast2 fr2 0 rfl ?_
    exact tkO_set10 (unhide R5) _ _ _ _ _ _ _ _ _ _
  · rw [unhide HO1, unhide HO2]
    subst hL2
    refine ⟨a, cap, rfl, ?_⟩
    refine Copied.low (B := w.heap.size + 1 + 1 + 1) ?_ (by omega)
    iterate 10 (refine Copied.far ?_ (Nat.lt_succ_self (w.heap.size + 1 + 1)) _ _)
    exact unhide C5
  · iterate 10 (refine belowSet ?_ (show w.heap.size ≤ w.heap.size + 1 + 1 by omega) _ _)
    exact unhide B5
end Go.Proofs.YtdclojpgbekmeaaDoor
