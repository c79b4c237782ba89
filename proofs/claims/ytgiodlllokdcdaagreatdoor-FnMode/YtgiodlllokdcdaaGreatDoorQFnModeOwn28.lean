/- Several texts in one: ModS. -/
import Derived.Test.YtgiodlllokdcdaaGreatDoorQFnModeOwn27
import Derived.Test.YtgiodlllokdcdaaGreatDoorQFnModeOwn1
namespace Go.Proofs.YtgiodlllokdcdaaGreatDoor
set_option linter.unusedVariables false
set_option linter.unusedSimpArgs false
set_option maxRecDepth 100000
set_option maxHeartbeats 8000000
section
open Go.RowKit Go.Sort
theorem aI.far {w : World} {b : Nat} {p q r s : Int} (h : aI w b p q r s) {b' : Nat} (hne : b ≠ b') (o : Nat) (x : Value) : aI (w.setCell ⟨b', o, none⟩ x) b p q r s := by
 obtain ⟨h0, h1, h2, h3⟩ := h
 refine ⟨?_, ?_, ?_, ?_⟩ <;> (rw [World.cell?_setCell_far _ _ _ _ (Ne.symm hne)]; assumption)
theorem oA (L : List St) (lim mode A B C D coast fr g1 g2 g3 g4 : Int) (ad : Option Addr) (c : Nat) (p : Addr) (w : World) (hn : L.length ≤ 1048576) (hcap : L.length ≤ c) (hc9 : c ≤ 9223372036854775807) (hE : aY p w) (hS : aH w ad L L.length) :
  Calls Tryz.prog 12 #[.agg #[.slice ad L.length c, .int .i64 lim, .int .i64 mode, .int .i64 A, .int .i64 B, .int .i64 C, .int .i64 D, .int .i64 coast, .int .i64 fr], .agg #[.int .i64 g1, .int .i64 g2, .int .i64 g3, .int .i64 g4]] w fun e w' => mG w' w.heap.size (ed ⟨L, lim, mode, A, B, C, D, coast, fr⟩ g1 g2 g3 g4) (fx ⟨L, lim, mode, A, B, C, D, coast, fr⟩ g1 g2 g3 g4) e ∧ Below w.heap.size w w' := by
 have B0 := dp w (.cells #[.slice ad L.length c, .int .i64 lim, .int .i64 mode, .int .i64 A, .int .i64 B, .int .i64 C, .int .i64 D, .int .i64 coast, .int .i64 fr] 27) (.cells #[.int .i64 g1, .int .i64 g2, .int .i64 g3, .int .i64 g4] 25) (.cells #[.slice none 0 0, .int .i64 0, .int .i64 0, .int .i64 0, .int .i64 0, .int .i64 0, .int .i64 0, .int .i64 0, .int .i64 0, .int .i64 0] 32)
 have Z2 := aM (w.alloc (.cells #[.slice ad L.length c, .int .i64 lim, .int .i64 mode, .int .i64 A, .int .i64 B, .int .i64 C, .int .i64 D, .int .i64 coast, .int .i64 fr] 27)) (.cells #[.int .i64 g1, .int .i64 g2, .int .i64 g3, .int .i64 g4] 25) (.cells #[.slice none 0 0, .int .i64 0, .int .i64 0, .int .i64 0, .int .i64 0, .int .i64 0, .int .i64 0, .int .i64 0, .int .i64 0, .int .i64 0] 32)
 have T0 := (ck w (.slice ad L.length c) lim mode A B C D coast fr 27).kept Z2
 have U0 := (by simpa using aO (w.alloc (.cells #[.slice ad L.length c, .int .i64 lim, .int .i64 mode, .int .i64 A, .int .i64 B, .int .i64 C, .int .i64 D, .int .i64 coast, .int .i64 fr] 27)) g1 g2 g3 g4 25 : aI ((w.alloc (.cells #[.slice ad L.length c, .int .i64 lim, .int .i64 mode, .int .i64 A, .int .i64 B, .int .i64 C, .int .i64 D, .int .i64 coast, .int .i64 fr] 27)).alloc (.cells #[.int .i64 g1, .int .i64 g2, .int .i64 g3, .int .i64 g4] 25)) (w.heap.size + 1) g1 g2 g3 g4).alloc (.cells #[.slice none 0 0, .int .i64 0, .int .i64 0, .int .i64 0, .int .i64 0, .int .i64 0, .int .i64 0, .int .i64 0, .int .i64 0, .int .i64 0] 32)
 have R0 := (by simpa using iB ((w.alloc (.cells #[.slice ad L.length c, .int .i64 lim, .int .i64 mode, .int .i64 A, .int .i64 B, .int .i64 C, .int .i64 D, .int .i64 coast, .int .i64 fr] 27)).alloc (.cells #[.int .i64 g1, .int .i64 g2, .int .i64 g3, .int .i64 g4] 25)) (.slice none 0 0) 0 0 0 0 0 0 0 0 0 32 : TkO (((w.alloc (.cells #[.slice ad L.length c, .int .i64 lim, .int .i64 mode, .int .i64 A, .int .i64 B, .int .i64 C, .int .i64 D, .int .i64 coast, .int .i64 fr] 27)).alloc (.cells #[.int .i64 g1, .int .i64 g2, .int .i64 g3, .int .i64 g4] 25)).alloc (.cells #[.slice none 0 0, .int .i64 0, .int .i64 0, .int .i64 0, .int .i64 0, .int .i64 0, .int .i64 0, .int .i64 0, .int .i64 0, .int .i64 0] 32)) (w.heap.size + 1 + 1) (.slice none 0 0) 0 0 0 0 0 0 0 0 0)
 have G0 := (by simpa using ce ((w.alloc (.cells #[.slice ad L.length c, .int .i64 lim, .int .i64 mode, .int .i64 A, .int .i64 B, .int .i64 C, .int .i64 D, .int .i64 coast, .int .i64 fr] 27)).alloc (.cells #[.int .i64 g1, .int .i64 g2, .int .i64 g3, .int .i64 g4] 25)) #[.slice none 0 0, .int .i64 0, .int .i64 0, .int .i64 0, .int .i64 0, .int .i64 0, .int .i64 0, .int .i64 0, .int .i64 0, .int .i64 0] 32 : ei (((w.alloc (.cells #[.slice ad L.length c, .int .i64 lim, .int .i64 mode, .int .i64 A, .int .i64 B, .int .i64 C, .int .i64 D, .int .i64 coast, .int .i64 fr] 27)).alloc (.cells #[.int .i64 g1, .int .i64 g2, .int .i64 g3, .int .i64 g4] 25)).alloc (.cells #[.slice none 0 0, .int .i64 0, .int .i64 0, .int .i64 0, .int .i64 0, .int .i64 0, .int .i64 0, .int .i64 0, .int .i64 0, .int .i64 0] 32)) (w.heap.size + 1 + 1))
 have hsz : w.heap.size + 3 ≤ (((w.alloc (.cells #[.slice ad L.length c, .int .i64 lim, .int .i64 mode, .int .i64 A, .int .i64 B, .int .i64 C, .int .i64 D, .int .i64 coast, .int .i64 fr] 27)).alloc (.cells #[.int .i64 g1, .int .i64 g2, .int .i64 g3, .int .i64 g4] 25)).alloc (.cells #[.slice none 0 0, .int .i64 0, .int .i64 0, .int .i64 0, .int .i64 0, .int .i64 0, .int .i64 0, .int .i64 0, .int .i64 0, .int .i64 0] 32)).heap.size := by simp
 have S0 := hS.kept B0
 have cR := yz (dT L lim mode A B C D coast fr ad c p _ hn hcap hc9 S0 (hE.kept B0))
 have cC := yz (fun W h => gy L lim mode A B C D coast fr ad c W hn h)
 have HB := yz B0
 have HT := yz T0
 have HU := yz U0
 have HR := yz R0
 have HG := yz G0
 have HS := yz S0
 clear B0 T0 U0 R0 G0 S0 Z2 hS
 go_enter Tryz.func12, Tryz.ntmps12
 go_wp2_with fail
 generalize hW : ((w.alloc (.cells #[.slice ad L.length c, .int .i64 lim, .int .i64 mode, .int .i64 A, .int .i64 B, .int .i64 C, .int .i64 D, .int .i64 coast, .int .i64 fr] 27)).alloc (.cells #[.int .i64 g1, .int .i64 g2, .int .i64 g3, .int .i64 g4] 25)).alloc (.cells #[.slice none 0 0, .int .i64 0, .int .i64 0, .int .i64 0, .int .i64 0, .int .i64 0, .int .i64 0, .int .i64 0, .int .i64 0, .int .i64 0] 32) = W at *
 clear hW
 refine (yy cR).mono ?_
 rintro e w1 ⟨rfl, hx⟩
 have B1 := yz (aj (yy HB) hx)
 have T1 := yz ((yy HT).kept hx)
 have U1 := yz ((yy HU).kept (yy HU).lt hx)
 have R1 := yz ((yy HR).kept hx)
 have G1 := yz ((yy HG).kept (yy HR).lt hx)
 have S1 := yz ((yy HS).kept hx)
 have hsz1 : w.heap.size + 3 ≤ w1.heap.size := Nat.le_trans hsz hx.size
 clear hx HB HT HU HR HG HS hsz cR
 have hill : eC ⟨L, lim, mode, A, B, C, D, coast, fr⟩ g1 g2 g3 g4 = false → Hid (ed ⟨L, lim, mode, A, B, C, D, coast, fr⟩ g1 g2 g3 g4 = ez) ∧ Hid (fx ⟨L, lim, mode, A, B, C, D, coast, fr⟩ g1 g2 g3 g4 = 1) := fun h => ⟨yz (by unfold ed; rw [h]; rfl), yz (by unfold fx; rw [h]; rfl)⟩
 cases hk : aG ⟨L, lim, mode, A, B, C, D, coast, fr⟩
 ·obtain ⟨HO1, HO2⟩ := hill (by unfold eC; rw [hk]; rfl)
  clear hill
  have B2 := B1
  have R2 := R1
  have G2 := G1
  clear B1 R1 G1
  obtain ⟨⟨r0, r1, r2, r3, r4, r5, r6, r7, r8⟩, r9⟩ := yy R2
  have g0 := yy G2 0
  have g1 := yy G2 1
  have g2 := yy G2 2
  have g3 := yy G2 3
  have g4 := yy G2 4
  have g5 := yy G2 5
  have g6 := yy G2 6
  have g7 := yy G2 7
  have g8 := yy G2 8
  have g9 := yy G2 9
  go_wp2_with fail
  clear r0 r1 r2 r3 r4 r5 r6 r7 r8 r9 g0 g1 g2 g3 g4 g5 g6 g7 g8 g9
  refine bodyPost_ret (v := .agg #[.slice none 0 0, .int .i64 0, .int .i64 0, .int .i64 0, .int .i64 0, .int .i64 0, .int .i64 0, .int .i64 0, .int .i64 0, .int .i64 1]) ?_ rfl ⟨?_, ?_⟩
  ·refine kh _ _ (w.heap.size + 1 + 1) _ 0 0 0 0 0 0 0 0 1 rfl ?_
   exact bj (yy R2) _ _ _ _ _ _ _ _ _ _
  ·rw [yy HO1, yy HO2]
   exact bz _ _ _
  ·iterate 10 (refine aB ?_ (show w.heap.size ≤ w.heap.size + 1 + 1 by omega) _ _)
   exact yy B2
 obtain ⟨u0, u1, u2, u3⟩ := yy U1
 go_wp2_with fail
 clear u0 u1 u2 u3
 refine (bw g1 g2 g3 g4 _).mono ?_
 rintro e w2 ⟨rfl, hx⟩
 have B2 := yz (aj (yy B1) hx)
 have T2 := yz ((yy T1).kept hx)
 have U2 := yz ((yy U1).kept (yy U1).lt hx)
 have R2 := yz ((yy R1).kept hx)
 have G2 := yz ((yy G1).kept (yy R1).lt hx)
 have S2 := yz ((yy S1).kept hx)
 have hsz2 : w.heap.size + 3 ≤ w2.heap.size := Nat.le_trans hsz1 hx.size
 clear hx B1 T1 U1 R1 G1 S1 hsz1
 cases hg : aC g1 g2 g3 g4
 ·obtain ⟨HO1, HO2⟩ := hill (by unfold eC; rw [hg, Bool.and_false])
  clear hill
  have B3 := B2
  have R3 := R2
  have G3 := G2
  clear B2 R2 G2
  obtain ⟨⟨r0, r1, r2, r3, r4, r5, r6, r7, r8⟩, r9⟩ := yy R3
  have g0 := yy G3 0
  have g1 := yy G3 1
  have g2 := yy G3 2
  have g3 := yy G3 3
  have g4 := yy G3 4
  have g5 := yy G3 5
  have g6 := yy G3 6
  have g7 := yy G3 7
  have g8 := yy G3 8
  have g9 := yy G3 9
  go_wp2_with fail
  clear r0 r1 r2 r3 r4 r5 r6 r7 r8 r9 g0 g1 g2 g3 g4 g5 g6 g7 g8 g9
  refine bodyPost_ret (v := .agg #[.slice none 0 0, .int .i64 0, .int .i64 0, .int .i64 0, .int .i64 0, .int .i64 0, .int .i64 0, .int .i64 0, .int .i64 0, .int .i64 1]) ?_ rfl ⟨?_, ?_⟩
  ·refine kh _ _ (w.heap.size + 1 + 1) _ 0 0 0 0 0 0 0 0 1 rfl ?_
   exact bj (yy R3) _ _ _ _ _ _ _ _ _ _
  ·rw [yy HO1, yy HO2]
   exact bz _ _ _
  ·iterate 10 (refine aB ?_ (show w.heap.size ≤ w.heap.size + 1 + 1 by omega) _ _)
   exact yy B3
 have HO1 : Hid (ed ⟨L, lim, mode, A, B, C, D, coast, fr⟩ g1 g2 g3 g4 = bs ⟨L, lim, mode, A, B, C, D, coast, fr⟩ g1 g2 g3 g4) := yz (by unfold ed eC; rw [hk, hg]; rfl)
 have HO2 : Hid (fx ⟨L, lim, mode, A, B, C, D, coast, fr⟩ g1 g2 g3 g4 = 0) := yz (by unfold fx eC; rw [hk, hg]; rfl)
 have HL : Hid ((bs ⟨L, lim, mode, A, B, C, D, coast, fr⟩ g1 g2 g3 g4).L = L) := yz (qo _ _ _ _ _)
 have cB := yz (fun (W : World) (a : Option Addr) (cap : Nat) => pf L lim mode A B C D coast fr g1 g2 g3 g4 a L.length cap W)
 generalize hT2 : bs ⟨L, lim, mode, A, B, C, D, coast, fr⟩ g1 g2 g3 g4 = t2 at *
 obtain ⟨L2, lim2, mode2, A2, B2', C2, D2, coast2, fr2⟩ := t2
 unfold tkV at cB
 dsimp only at cB HL
 clear hT2 hill hk
 have CT : Hid (dj w2 w.heap.size (.slice ad L.length c) lim mode A B C D coast fr ∧ aI w2 (w.heap.size + 1) g1 g2 g3 g4) := yz ⟨yy T2, yy U2⟩
 go_wp2_with fail
 refine wp_region_held_drew (S := (fun w' => (w'.cell? ⟨w.heap.size, 0, none⟩ = some (.slice ad L.length c) ∧ w'.cell? ⟨w.heap.size, 1, none⟩ = some (.int .i64 lim) ∧ w'.cell? ⟨w.heap.size, 2, none⟩ = some (.int .i64 mode) ∧ w'.cell? ⟨w.heap.size, 3, none⟩ = some (.int .i64 A) ∧ w'.cell? ⟨w.heap.size, 4, none⟩ = some (.int .i64 B) ∧ w'.cell? ⟨w.heap.size, 5, none⟩ = some (.int .i64 C) ∧ w'.cell? ⟨w.heap.size, 6, none⟩ = some (.int .i64 D) ∧ w'.cell? ⟨w.heap.size, 7, none⟩ = some (.int .i64 coast) ∧ w'.cell? ⟨w.heap.size, 8, none⟩ = some (.int .i64 fr)) ∧ w'.cell? ⟨w.heap.size + 1, 0, none⟩ = some (.int .i64 g1) ∧ w'.cell? ⟨w.heap.size + 1, 1, none⟩ = some (.int .i64 g2) ∧ w'.cell? ⟨w.heap.size + 1, 2, none⟩ = some (.int .i64 g3) ∧ w'.cell? ⟨w.heap.size + 1, 3, none⟩ = some (.int .i64 g4))) (by kernel_rfl) ?_ (fun hHeld => ?_)
 ·exact yy CT
 refine ab 0 rfl ?_
 try simp only [Act.put, ag, ah, ai]
 refine ab 2 rfl ?_
 try simp only [Act.put, ag, ah, ai]
 have S2d : aH w2.drew ad L L.length := (yy S2).kept (Below.refl _ _).drew
 have B2d : Below w.heap.size w w2.drew := (yy B2).drew
 have R2d : TkO w2.drew (w.heap.size + 1 + 1) (.slice none 0 0) 0 0 0 0 0 0 0 0 0 := yy R2
 have G2d : ei w2.drew (w.heap.size + 1 + 1) := yy G2
 have CTd : dj w2.drew w.heap.size (.slice ad L.length c) lim mode A B C D coast fr ∧ aI w2.drew (w.heap.size + 1) g1 g2 g3 g4 := yy CT
 have hszd : w.heap.size + 3 ≤ w2.drew.heap.size := hsz2
 refine ae 1 rfl fun K hK => ?_
 go_simp
 refine (yy cC _ S2d).mono ?_
 rintro e w3 ⟨a, cap, rfl, hC, hx⟩
 have C3 := yz (hC.low (B' := w.heap.size + 1 + 1 + 1) (by omega))
 have B3 := yz (aj B2d hx)
 have R3 := yz (R2d.kept hx)
 have G3 := yz (G2d.kept R2d.lt hx)
 have CT3 := yz (show dj w3 w.heap.size (.slice ad L.length c) lim mode A B C D coast fr ∧ aI w3 (w.heap.size + 1) g1 g2 g3 g4 from ⟨CTd.1.kept hx, CTd.2.kept CTd.2.lt hx⟩)
 clear hx hC S2d B2d R2d G2d CTd hszd CT T2 U2 B2 R2 G2 S2 hsz2
 refine hK.out _ _ ?_ (fun hHeld1 => ?_)
 ·exact yy CT3
 clear hK K hHeld
 refine ae 3 rfl fun K hK => ?_
 go_simp
 refine (yy cB _ a cap).mono ?_
 rintro e w4 ⟨rfl, hx⟩
 have C4 := yz ((yy C3).kept hx)
 have B4 := yz (aj (yy B3) hx)
 have R4 := yz ((yy R3).kept hx)
 have G4 := yz ((yy G3).kept (yy R3).lt hx)
 have CT4 := yz (show dj w4 w.heap.size (.slice ad L.length c) lim mode A B C D coast fr ∧ aI w4 (w.heap.size + 1) g1 g2 g3 g4 from ⟨(yy CT3).1.kept hx, (yy CT3).2.kept (yy CT3).2.lt hx⟩)
 clear hx C3 B3 R3 G3 CT3
 refine hK.out _ _ ?_ (fun hHeld2 => ?_)
 ·exact yy CT4
 clear hK K hHeld1
 refine ae 4 rfl fun K hK => ?_
 go_simp
 refine (jL lim2 mode2 A2 B2' C2 D2 coast2 fr2 a L.length cap _).mono ?_
 rintro e w5 ⟨rfl, hx⟩
 have C5 := yz ((yy C4).kept hx)
 have B5 := yz (aj (yy B4) hx)
 have R5 := yz ((yy R4).kept hx)
 have G5 := yz ((yy G4).kept (yy R4).lt hx)
 have CT5 := yz (show dj w5 w.heap.size (.slice ad L.length c) lim mode A B C D coast fr ∧ aI w5 (w.heap.size + 1) g1 g2 g3 g4 from ⟨(yy CT4).1.kept hx, (yy CT4).2.kept (yy CT4).2.lt hx⟩)
 clear hx C4 B4 R4 G4 CT4
 refine hK.out _ _ ?_ (fun hHeld3 => ?_)
 ·exact yy CT5
 clear hK K hHeld2
 obtain ⟨⟨r0, r1, r2, r3, r4, r5, r6, r7, r8⟩, r9⟩ := yy R5
 have f0 := yy G5 0
 have f1 := yy G5 1
 have f2 := yy G5 2
 have f3 := yy G5 3
 have f4 := yy G5 4
 have f5 := yy G5 5
 have f6 := yy G5 6
 have f7 := yy G5 7
 have f8 := yy G5 8
 have f9 := yy G5 9
 refine ae 5 rfl fun K hK => ?_
 go_simp
 clear r0 r1 r2 r3 r4 r5 r6 r7 r8 r9 f0 f1 f2 f3 f4 f5 f6 f7 f8 f9
 refine hK.out _ _ ?_ (fun hHeld4 => ?_)
 ·show dj _ w.heap.size (.slice ad L.length c) lim mode A B C D coast fr ∧ aI _ (w.heap.size + 1) g1 g2 g3 g4
  refine ⟨?_, ?_⟩
  ·iterate 10 (refine dj.far ?_ (show w.heap.size ≠ w.heap.size + 1 + 1 by omega) _ _)
   exact (yy CT5).1
  ·iterate 10 (refine aI.far ?_ (show w.heap.size + 1 ≠ w.heap.size + 1 + 1 by omega) _ _)
   exact (yy CT5).2
 clear hK K hHeld3
 refine wpAnyH_done (by kernel_rfl) ?_ _
 clear hHeld4
 go_wp2_with fail
 have hL2 : L2 = L := yy HL
 refine bodyPost_ret (v := .agg #[.slice a L.length cap, .int .i64 lim2, .int .i64 mode2, .int .i64 A2, .int .i64 B2', .int .i64 C2, .int .i64 D2, .int .i64 coast2, .int .i64 fr2, .int .i64 0]) ?_ rfl ⟨?_, ?_⟩
 ·refine kh _ _ (w.heap.size + 1 + 1) _ lim2 mode2 A2 B2' C2 D2 coast2 fr2 0 rfl ?_
  exact bj (yy R5) _ _ _ _ _ _ _ _ _ _
 ·rw [yy HO1, yy HO2]
  subst hL2
  refine ⟨a, cap, rfl, ?_⟩
  refine aq.low (B := w.heap.size + 1 + 1 + 1) ?_ (by omega)
  iterate 10 (refine aq.far ?_ (Nat.lt_succ_self (w.heap.size + 1 + 1)) _ _)
  exact yy C5
 ·iterate 10 (refine aB ?_ (show w.heap.size ≤ w.heap.size + 1 + 1 by omega) _ _)
  exact yy B5
end
end Go.Proofs.YtgiodlllokdcdaaGreatDoor
