/- Reset: the program's. -/
import Derived.Test.YtdclojpgbekmeaaDoorModJ
import Derived.Test.YtdclojpgbekmeaaDoorModI
namespace Go.Proofs.YtdclojpgbekmeaaDoor
open Go.RowKit Go.Sort
set_option linter.unusedVariables false

set_option maxHeartbeats 2000000 in
set_option maxRecDepth 100000 in
theorem implReset_any (L : List St) (lim mode A B C D coast fr : Int) (b o c : Nat) (p : Addr) (w : World) (hn : L.length ≤ 1048576) (hcap : L.length ≤ c) (hc9 : c ≤ 9223372036854775807) (hE : ErrSky p w) (hS : Stars w (some ⟨b, o, none⟩) L L.length) :
    Calls Tryd.prog 26 #[.agg #[.slice (some ⟨b, o, none⟩) L.length c, .int .i64 lim, .int .i64 mode, .int .i64 A, .int .i64 B, .int .i64 C, .int .i64 D, .int .i64 coast, .int .i64 fr]] w fun e w' => OutT w' w.heap.size (resetT ⟨L, lim, mode, A, B, C, D, coast, fr⟩) (resetC ⟨L, lim, mode, A, B, C, D, coast, fr⟩) e ∧ Below w.heap.size w w' := by
  have B0 := below2 w (.cells #[.slice (some ⟨b, o, none⟩) L.length c, .int .i64 lim, .int .i64 mode, .int .i64 A, .int .i64 B, .int .i64 C, .int .i64 D, .int .i64 coast, .int .i64 fr] 32) (.cells #[.slice none 0 0, .int .i64 0, .int .i64 0, .int .i64 0, .int .i64 0, .int .i64 0, .int .i64 0, .int .i64 0, .int .i64 0, .int .i64 0] 38)
  have T0 := (tkAt_new w (.slice (some ⟨b, o, none⟩) L.length c) lim mode A B C D coast fr 32).kept (below1 _ (.cells #[.slice none 0 0, .int .i64 0, .int .i64 0, .int .i64 0, .int .i64 0, .int .i64 0, .int .i64 0, .int .i64 0, .int .i64 0, .int .i64 0] 38))
  have R0 := (by simpa using tkO_new (w.alloc (.cells #[.slice (some ⟨b, o, none⟩) L.length c, .int .i64 lim, .int .i64 mode, .int .i64 A, .int .i64 B, .int .i64 C, .int .i64 D, .int .i64 coast, .int .i64 fr] 32)) (.slice none 0 0) 0 0 0 0 0 0 0 0 0 38 : TkO ((w.alloc (.cells #[.slice (some ⟨b, o, none⟩) L.length c, .int .i64 lim, .int .i64 mode, .int .i64 A, .int .i64 B, .int .i64 C, .int .i64 D, .int .i64 coast, .int .i64 fr] 32)).alloc (.cells #[.slice none 0 0, .int .i64 0, .int .i64 0, .int .i64 0, .int .i64 0, .int .i64 0, .int .i64 0, .int .i64 0, .int .i64 0, .int .i64 0] 38)) (w.heap.size + 1) (.slice none 0 0) 0 0 0 0 0 0 0 0 0)
  have G0 := (by simpa using freeK_new (w.alloc (.cells #[.slice (some ⟨b, o, none⟩) L.length c, .int .i64 lim, .int .i64 mode, .int .i64 A, .int .i64 B, .int .i64 C, .int .i64 D, .int .i64 coast, .int .i64 fr] 32)) #[.slice none 0 0, .int .i64 0, .int .i64 0, .int .i64 0, .int .i64 0, .int .i64 0, .int .i64 0, .int .i64 0, .int .i64 0, .int .i64 0] 38 : FreeK ((w.alloc (.cells #[.slice (some ⟨b, o, none⟩) L.length c, .int .i64 lim, .int .i64 mode, .int .i64 A, .int .i64 B, .int .i64 C, .int .i64 D, .int .i64 coast, .int .i64 fr] 32)).alloc (.cells #[.slice none 0 0, .int .i64 0, .int .i64 0, .int .i64 0, .int .i64 0, .int .i64 0, .int .i64 0, .int .i64 0, .int .i64 0, .int .i64 0] 38)) (w.heap.size + 1))
  have hsz : w.heap.size + 2 ≤ ((w.alloc (.cells #[.slice (some ⟨b, o, none⟩) L.length c, .int .i64 lim, .int .i64 mode, .int .i64 A, .int .i64 B, .int .i64 C, .int .i64 D, .int .i64 coast, .int .i64 fr] 32)).alloc (.cells #[.slice none 0 0, .int .i64 0, .int .i64 0, .int .i64 0, .int .i64 0, .int .i64 0, .int .i64 0, .int .i64 0, .int .i64 0, .int .i64 0] 38)).heap.size := by simp
  have S0 := hS.kept B0
  have cR := hide (implTrack_any L lim mode A B C D coast fr (some ⟨b, o, none⟩) c p _ hn hcap hc9 S0 (hE.kept B0))
  have cC := hide (fun W h => workOf_any L lim mode A B C D coast fr b o c W hn h)
  have HB := hide B0
  have HT := hide T0
  have HR := hide R0
  have HG := hide G0
  have HS := hide S0
  clear B0 T0 R0 G0 S0 hS
  go_enter Tryd.func26, Tryd.ntmps26
  go_wp2_with fail
  generalize (w.alloc (.cells #[.slice (some ⟨b, o, none⟩) L.length c, .int .i64 lim, .int .i64 mode, .int .i64 A, .int .i64 B, .int .i64 C, .int .i64 D, .int .i64 coast, .int .i64 fr] 32)).alloc (.cells #[.slice none 0 0, .int .i64 0, .int .i64 0, .int .i64 0, .int .i64 0, .int .i64 0, .int .i64 0, .int .i64 0, .int .i64 0, .int .i64 0] 38) = W at *
  refine (unhide cR).mono ?_
  rintro e w1 ⟨rfl, hx⟩
  have B1 := hide (below_call (unhide HB) hx)
  have T1 := hide ((unhide HT).kept hx)
  have R1 := hide ((unhide HR).kept hx)
  have G1 := hide ((unhide HG).kept (unhide HR).lt hx)
  have S1 := hide ((unhide HS).kept hx)
  have hsz1 : w.heap.size + 2 ≤ w1.heap.size := Nat.le_trans hsz hx.size
  clear hx HB HT HR HG HS hsz cR
  cases hk : trackB ⟨L, lim, mode, A, B, C, D, coast, fr⟩
  · have HO1 : Hid (resetT ⟨L, lim, mode, A, B, C, D, coast, fr⟩ = zeroK) := hide (by unfold resetT; rw [hk]; rfl)
    have HO2 : Hid (resetC ⟨L, lim, mode, A, B, C, D, coast, fr⟩ = 1) := hide (by unfold resetC; rw [hk]; rfl)
    have B2 := B1
    have R2 := R1
    have G2 := G1
    clear B1 R1 G1
    obtain ⟨⟨r0, r1, r2, r3, r4, r5, r6, r7, r8⟩, r9⟩ := unhide R2
    have g0 := unhide G2 0
    have g1 := unhide G2 1
    have g2 := unhide G2 2
    have g3 := unhide G2 3
    have g4 := unhide G2 4
    have g5 := unhide G2 5
    have g6 := unhide G2 6
    have g7 := unhide G2 7
    have g8 := unhide G2 8
    have g9 := unhide G2 9
    go_wp2_with fail
    clear r0 r1 r2 r3 r4 r5 r6 r7 r8 r9 g0 g1 g2 g3 g4 g5 g6 g7 g8 g9
    refine bodyPost_ret (v := .agg #[.slice none 0 0, .int .i64 0, .int .i64 0, .int .i64 0, .int .i64 0, .int .i64 0, .int .i64 0, .int .i64 0, .int .i64 0, .int .i64 1]) ?_ rfl ⟨?_, ?_⟩
    · refine res_ireset _ _ (w.heap.size + 1) _ 0 0 0 0 0 0 0 0 1 rfl ?_
      exact tkO_set10 (unhide R2) _ _ _ _ _ _ _ _ _ _
    · rw [unhide HO1, unhide HO2]
      exact outT_ill _ _ _
    · iterate 10 (refine belowSet ?_ (show w.heap.size ≤ w.heap.size + 1 by omega) _ _)
      exact unhide B2
  · have HO1 : Hid (resetT ⟨L, lim, mode, A, B, C, D, coast, fr⟩ = ⟨L, lim, 0, 0, 0, 0, 0, 0, fr⟩) := hide (by unfold resetT; rw [hk]; rfl)
    have HO2 : Hid (resetC ⟨L, lim, mode, A, B, C, D, coast, fr⟩ = 0) := hide (by unfold resetC; rw [hk]; rfl)
    clear hk
    obtain ⟨s0, s1, s2, s3, s4, s5, s6, s7, s8⟩ := unhide T1
    go_wp2_with fail
    clear s0 s1 s2 s3 s4 s5 s6 s7 s8
    refine (unhide cC _ (unhide S1)).mono ?_
    rintro e w2 ⟨a, cap, rfl, hC, hx⟩
    have B2 := hide (below_call (unhide B1) hx)
    have R2 := hide ((unhide R1).kept hx)
    have G2 := hide ((unhide G1).kept (unhide R1).lt hx)
    have C2 := hide (hC.low (B' := w.heap.size + 2) (by omega))
    clear hx hC B1 R1 G1 T1 S1 cC
    go_wp2_with fail
    refine (wlost_any lim mode A B C D coast fr a L.length cap _).mono ?_
    rintro e w2b ⟨rfl, hx⟩
    have B2b := hide (below_call (unhide B2) hx)
    have R2b := hide ((unhide R2).kept hx)
    have G2b := hide ((unhide G2).kept (unhide R2).lt hx)
    have C2b := hide ((unhide C2).kept hx)
    clear hx B2 R2 G2 C2
    go_wp2_with fail
    refine (told_any lim 0 0 0 0 0 0 fr a L.length cap _).mono ?_
    rintro e w3 ⟨rfl, hx⟩
    have B3 := hide (below_call (unhide B2b) hx)
    have R3 := hide ((unhide R2b).kept hx)
    have G3 := hide ((unhide G2b).kept (unhide R2b).lt hx)
    have C3 := hide ((unhide C2b).kept hx)
    clear hx B2b R2b G2b C2b
    obtain ⟨⟨r0, r1, r2, r3, r4, r5, r6, r7, r8⟩, r9⟩ := unhide R3
    have g0 := unhide G3 0
    have g1 := unhide G3 1
    have g2 := unhide G3 2
    have g3 := unhide G3 3
    have g4 := unhide G3 4
    have g5 := unhide G3 5
    have g6 := unhide G3 6
    have g7 := unhide G3 7
    have g8 := unhide G3 8
    have g9 := unhide G3 9
    go_wp2_with fail
    clear r0 r1 r2 r3 r4 r5 r6 r7 r8 r9 g0 g1 g2 g3 g4 g5 g6 g7 g8 g9
    refine bodyPost_ret (v := .agg #[.slice a L.length cap, .int .i64 lim, .int .i64 0, .int .i64 0, .int .i64 0, .int .i64 0, .int .i64 0, .int .i64 0, .int .i64 fr, .int .i64 0]) ?_ rfl ⟨?_, ?_⟩
    · refine res_ireset _ _ (w.heap.size + 1) _ lim 0 0 0 0 0 0 fr 0 rfl ?_
      exact tkO_set10 (unhide R3) _ _ _ _ _ _ _ _ _ _
    · rw [unhide HO1, unhide HO2]
      refine ⟨a, cap, rfl, ?_⟩
      refine Copied.low (B := w.heap.size + 2) ?_ (by omega)
      iterate 10 (refine Copied.far ?_ (show w.heap.size + 1 < w.heap.size + 2 by omega) _ _)
      exact unhide C3
    · iterate 10 (refine belowSet ?_ (show w.heap.size ≤ w.heap.size + 1 by omega) _ _)
      exact unhide B3
end Go.Proofs.YtdclojpgbekmeaaDoor
