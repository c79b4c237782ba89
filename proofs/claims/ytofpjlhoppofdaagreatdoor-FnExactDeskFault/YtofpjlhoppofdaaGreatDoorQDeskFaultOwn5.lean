/- Several texts in one: ModB, ModJ, FrA, FrB, FrC, BlM, RowV, BlA, BlB, BlC, SpA, SpB, WideT, SpD, ObM, BlD, BlE, BlF, BlG, BlH, BlI, SpE, IdA, MaA, IdB, TsA. -/
import Derived.Lib.QuietBelow
import Derived.Deep.QuietTactic
import Derived.BigQuiet
import Derived.Laws.BytesArg
import Derived.BigRegion
import Derived.OwnWalk
import Derived.Laws.OwnMore
import Derived.Maps.AppendAt
import Derived.Deep.CutRange
import Derived.Deep.DeepCutAuto
import Derived.WalkMore
import Derived.Deep.RegionHeld
import Derived.Test.YtofpjlhoppofdaaGreatDoorQDeskFaultOwn4
import Derived.Test.YtofpjlhoppofdaaGreatDoorQDeskFaultOwn1
import Derived.Test.YtofpjlhoppofdaaGreatDoorQDeskFaultOwn3
import Derived.Test.YtofpjlhoppofdaaGreatDoorQDeskFaultOwn2
namespace Go.Proofs.YtofpjlhoppofdaaGreatDoor
open Go.RowKit Go.Sort
set_option linter.unusedVariables false
theorem l02Span_any (n lo hi : Int) (w : World) :
    Calls Tryz.prog 36 #[.int .i64 n, .int .i64 lo, .int .i64 hi] w fun e w' => e = .returned (.bool (spanB lo hi n)) ∧ w' = w := l02Is_any n lo hi w
set_option maxRecDepth 100000 in
theorem l02Time_any (n : Int) (w : World) :
    Calls Tryz.prog 113 #[.int .i64 n] w fun e w' => e = .returned (.bool (spanB 0 1000000 n)) ∧ w' = w := by
  go_enter Tryz.func113, Tryz.ntmps113
  go_wp2_with fail
  refine (l02Span_any n 0 1000000 _).mono ?_
  rintro e w1 ⟨rfl, hw⟩
  rw [hw]
  go_wp2_with fail
  go_ret
  exact ⟨rfl, rfl⟩
set_option maxHeartbeats 2000000 in
set_option maxRecDepth 100000 in
theorem specTrack_any (L : List St) (lim mode A B C D coast fr : Int) (a : Option Addr) (c : Nat) (w : World) (hn : L.length ≤ 1048576) (hS : Stars w a L L.length) :
    Calls Tryz.prog 72 #[.agg #[.slice a L.length c, .int .i64 lim, .int .i64 mode, .int .i64 A, .int .i64 B, .int .i64 C, .int .i64 D, .int .i64 coast, .int .i64 fr]] w fun e w' => e = .returned (.bool (trackB ⟨L, lim, mode, A, B, C, D, coast, fr⟩)) ∧ Below w.heap.size w w' := by
  have B0 := below1 w (.cells #[.slice a L.length c, .int .i64 lim, .int .i64 mode, .int .i64 A, .int .i64 B, .int .i64 C, .int .i64 D, .int .i64 coast, .int .i64 fr] 48)
  have T0 := tkAt_new w (.slice a L.length c) lim mode A B C D coast fr 48
  have cS := yz (specSky_any L a c _ hn (hS.kept B0))
  have HB0 := yz B0
  have HT0 := yz T0
  clear B0 T0 hS hn
  go_enter Tryz.func72, Tryz.ntmps72
  go_wp2_with fail
  refine (yy cS).mono ?_
  rintro e w1 ⟨rfl, hx⟩
  have T1 := yz ((yy HT0).kept hx)
  have B1 := yz (below_call (yy HB0) hx)
  clear hx cS HT0 HB0
  obtain ⟨c0, c1, c2, c3, c4, c5, c6, c7, c8⟩ := yy T1
  have hlt := (yy T1).lt
  cases hk : skyB L
  · have HO := yz (track_no1 (t := ⟨L, lim, mode, A, B, C, D, coast, fr⟩) hk)
    go_wp2_with fail
    go_ret
    exact ⟨by rw [yy HO]; rfl, yy B1⟩
  go_wp2_with fail
  refine (l02Span_any lim 1 5 _).mono ?_
  rintro e w2 ⟨rfl, hw⟩
  rw [hw]
  clear hw w2
  cases hl : spanB 1 5 lim
  · have HO := yz (track_no2 (t := ⟨L, lim, mode, A, B, C, D, coast, fr⟩) hl)
    go_wp2_with fail
    go_ret
    exact ⟨by rw [yy HO]; rfl, yy B1⟩
  go_wp2_with fail
  refine (l02Time_any fr _).mono ?_
  rintro e w2 ⟨rfl, hw⟩
  rw [hw]
  clear hw w2
  cases hf : spanB 0 1000000 fr
  · have HO := yz (track_no3 (t := ⟨L, lim, mode, A, B, C, D, coast, fr⟩) hf)
    go_wp2_with fail
    go_ret
    exact ⟨by rw [yy HO]; rfl, yy B1⟩
  have HH := yz (track_head (t := ⟨L, lim, mode, A, B, C, D, coast, fr⟩) hk hl hf)
  clear hk hl hf
  have Z := ((yy B1).alloc (yy B1).size (.cells #[.int .i64 0, .int .i64 0, .int .i64 0, .int .i64 0] 46))
  have T2 := yz ((yy T1).kept (below1 w1 (.cells #[.int .i64 0, .int .i64 0, .int .i64 0, .int .i64 0] 46)))
  by_cases m0 : mode = 0
  · have HO : Hid (trackB ⟨L, lim, mode, A, B, C, D, coast, fr⟩ = (eqT A B C D 0 0 0 0 && decide (coast = 0))) := yz (by rw [yy HH, mode_0 m0])
    have hq := fun W => eql_turn A B C D 0 0 0 0 W
    cases hz : eqT A B C D 0 0 0 0
    · rw [hz] at HO hq
      go_wp2_with fail
      go_ret
      exact ⟨by rw [yy HO]; rfl, Z⟩
    · rw [hz] at HO hq
      go_wp2_with fail
      go_ret
      exact ⟨by rw [yy HO]; rfl, Z⟩
  by_cases m1 : mode = 1
  · have HO : Hid (trackB ⟨L, lim, mode, A, B, C, D, coast, fr⟩ = (rightT A B C D && decide (coast = 0))) := yz (by rw [yy HH, mode_1 m1])
    subst m1
    go_wp2_with fail
    refine (specTRight_any A B C D _).mono ?_
    rintro e w2 ⟨rfl, hx⟩
    have B2 := yz (below_call Z hx)
    obtain ⟨d0, d1, d2, d3, d4, d5, d6, d7, d8⟩ := (yy T2).kept hx
    clear hx c0 c1 c2 c3 c4 c5 c6 c7 c8 Z
    cases hz : rightT A B C D
    · rw [hz] at HO
      go_wp2_with fail
      go_ret
      exact ⟨by rw [yy HO]; rfl, yy B2⟩
    · rw [hz] at HO
      go_wp2_with fail
      go_ret
      exact ⟨by rw [yy HO]; rfl, yy B2⟩
  by_cases m2 : mode = 2
  · have HO : Hid (trackB ⟨L, lim, mode, A, B, C, D, coast, fr⟩ = (rightT A B C D && spanB 1 lim coast)) := yz (by rw [yy HH, mode_2 m2])
    subst m2
    go_wp2_with fail
    refine (specTRight_any A B C D _).mono ?_
    rintro e w2 ⟨rfl, hx⟩
    have B2 := yz (below_call Z hx)
    obtain ⟨d0, d1, d2, d3, d4, d5, d6, d7, d8⟩ := (yy T2).kept hx
    clear hx c0 c1 c2 c3 c4 c5 c6 c7 c8 Z
    cases hz : rightT A B C D
    · rw [hz] at HO
      go_wp2_with fail
      go_ret
      exact ⟨by rw [yy HO]; rfl, yy B2⟩
    · rw [hz] at HO
      go_wp2_with fail
      refine (l02Span_any coast 1 lim _).mono ?_
      rintro e w3 ⟨rfl, hw⟩
      rw [hw]
      clear hw w3
      go_wp2_with fail
      go_ret
      exact ⟨by rw [yy HO]; rfl, yy B2⟩
  · have HO : Hid (trackB ⟨L, lim, mode, A, B, C, D, coast, fr⟩ = false) := yz (by rw [yy HH, mode_n m0 m1 m2])
    go_wp2_with fail
    go_ret
    exact ⟨by rw [yy HO]; rfl, Z⟩
theorem res_sreset (T : Array Value) (X : World) (b : Nat) (v : Value) (lim mode A B C D coast fr code : Int) (hT : T.getD 2 undef = .pointer (some ⟨b, 0, none⟩)) (h : TkO X b v lim mode A B C D coast fr code) : (results Tryz.f41 T).run Tryz.prog X = .ok (.agg #[v, .int .i64 lim, .int .i64 mode, .int .i64 A, .int .i64 B, .int .i64 C, .int .i64 D, .int .i64 coast, .int .i64 fr, .int .i64 code]) X := by
  obtain ⟨⟨h0, h1, h2, h3, h4, h5, h6, h7, h8⟩, h9⟩ := h
  simp only [Array.getD_eq_getD_getElem?] at hT
  simp [results, Tryz.results41, go_sem, hT, h0, h1, h2, h3, h4, h5, h6, h7, h8, h9]
theorem res_snew (T : Array Value) (X : World) (b : Nat) (v : Value) (lim mode A B C D coast fr code : Int) (hT : T.getD 4 undef = .pointer (some ⟨b, 0, none⟩)) (h : TkO X b v lim mode A B C D coast fr code) : (results Tryz.f18 T).run Tryz.prog X = .ok (.agg #[v, .int .i64 lim, .int .i64 mode, .int .i64 A, .int .i64 B, .int .i64 C, .int .i64 D, .int .i64 coast, .int .i64 fr, .int .i64 code]) X := by
  obtain ⟨⟨h0, h1, h2, h3, h4, h5, h6, h7, h8⟩, h9⟩ := h
  simp only [Array.getD_eq_getD_getElem?] at hT
  simp [results, Tryz.results18, go_sem, hT, h0, h1, h2, h3, h4, h5, h6, h7, h8, h9]
def OutT (w' : World) (B : Nat) (t : Tk) (code : Int) (e : Ending) : Prop := ∃ a cap, e = .returned (.agg #[.slice a t.L.length cap, .int .i64 t.lim, .int .i64 t.mode, .int .i64 t.A, .int .i64 t.B, .int .i64 t.C, .int .i64 t.D, .int .i64 t.coast, .int .i64 t.fr, .int .i64 code]) ∧ Copied w' B t.L a cap
theorem copied_nil (w : World) (B : Nat) : Copied w B [] none 0 := ⟨rfl, .inl ⟨rfl, rfl⟩⟩
theorem outT_ill (w : World) (B : Nat) (code : Int) : OutT w B zeroK code (.returned (.agg #[.slice none 0 0, .int .i64 0, .int .i64 0, .int .i64 0, .int .i64 0, .int .i64 0, .int .i64 0, .int .i64 0, .int .i64 0, .int .i64 code])) := ⟨none, 0, rfl, copied_nil w B⟩
def resetT (t : Tk) : Tk := if trackB t = true then lostT t else zeroK
def resetC (t : Tk) : Int := if trackB t = true then 0 else 1
theorem TkO.far {w : World} {b : Nat} {v : Value} {lim mode A B C D coast fr code : Int} (h : TkO w b v lim mode A B C D coast fr code) {b' : Nat} (hne : b ≠ b') (o : Nat) (x : Value) : TkO (w.setCell ⟨b', o, none⟩ x) b v lim mode A B C D coast fr code := ⟨h.1.far hne o x, by rw [World.cell?_setCell_far _ _ _ _ (Ne.symm hne)]; exact h.2⟩
theorem TkO.lt {w : World} {b : Nat} {v : Value} {lim mode A B C D coast fr code : Int} (h : TkO w b v lim mode A B C D coast fr code) : b < w.heap.size := h.1.lt
set_option maxHeartbeats 2000000 in
set_option maxRecDepth 100000 in
theorem specReset_any (L : List St) (lim mode A B C D coast fr : Int) (ad : Option Addr) (c : Nat) (w : World) (hn : L.length ≤ 1048576) (hS : Stars w ad L L.length) :
    Calls Tryz.prog 41 #[.agg #[.slice ad L.length c, .int .i64 lim, .int .i64 mode, .int .i64 A, .int .i64 B, .int .i64 C, .int .i64 D, .int .i64 coast, .int .i64 fr]] w fun e w' => OutT w' w.heap.size (resetT ⟨L, lim, mode, A, B, C, D, coast, fr⟩) (resetC ⟨L, lim, mode, A, B, C, D, coast, fr⟩) e ∧ Below w.heap.size w w' := by
  have B0 := below2 w (.cells #[.slice ad L.length c, .int .i64 lim, .int .i64 mode, .int .i64 A, .int .i64 B, .int .i64 C, .int .i64 D, .int .i64 coast, .int .i64 fr] 48) (.cells #[.slice none 0 0, .int .i64 0, .int .i64 0, .int .i64 0, .int .i64 0, .int .i64 0, .int .i64 0, .int .i64 0, .int .i64 0, .int .i64 0] 50)
  have T0 := (tkAt_new w (.slice ad L.length c) lim mode A B C D coast fr 48).kept (below1 _ (.cells #[.slice none 0 0, .int .i64 0, .int .i64 0, .int .i64 0, .int .i64 0, .int .i64 0, .int .i64 0, .int .i64 0, .int .i64 0, .int .i64 0] 50))
  have R0 := (by simpa using tkO_new (w.alloc (.cells #[.slice ad L.length c, .int .i64 lim, .int .i64 mode, .int .i64 A, .int .i64 B, .int .i64 C, .int .i64 D, .int .i64 coast, .int .i64 fr] 48)) (.slice none 0 0) 0 0 0 0 0 0 0 0 0 50 : TkO ((w.alloc (.cells #[.slice ad L.length c, .int .i64 lim, .int .i64 mode, .int .i64 A, .int .i64 B, .int .i64 C, .int .i64 D, .int .i64 coast, .int .i64 fr] 48)).alloc (.cells #[.slice none 0 0, .int .i64 0, .int .i64 0, .int .i64 0, .int .i64 0, .int .i64 0, .int .i64 0, .int .i64 0, .int .i64 0, .int .i64 0] 50)) (w.heap.size + 1) (.slice none 0 0) 0 0 0 0 0 0 0 0 0)
  have G0 := (by simpa using freeK_new (w.alloc (.cells #[.slice ad L.length c, .int .i64 lim, .int .i64 mode, .int .i64 A, .int .i64 B, .int .i64 C, .int .i64 D, .int .i64 coast, .int .i64 fr] 48)) #[.slice none 0 0, .int .i64 0, .int .i64 0, .int .i64 0, .int .i64 0, .int .i64 0, .int .i64 0, .int .i64 0, .int .i64 0, .int .i64 0] 50 : FreeK ((w.alloc (.cells #[.slice ad L.length c, .int .i64 lim, .int .i64 mode, .int .i64 A, .int .i64 B, .int .i64 C, .int .i64 D, .int .i64 coast, .int .i64 fr] 48)).alloc (.cells #[.slice none 0 0, .int .i64 0, .int .i64 0, .int .i64 0, .int .i64 0, .int .i64 0, .int .i64 0, .int .i64 0, .int .i64 0, .int .i64 0] 50)) (w.heap.size + 1))
  have hsz : w.heap.size + 2 ≤ ((w.alloc (.cells #[.slice ad L.length c, .int .i64 lim, .int .i64 mode, .int .i64 A, .int .i64 B, .int .i64 C, .int .i64 D, .int .i64 coast, .int .i64 fr] 48)).alloc (.cells #[.slice none 0 0, .int .i64 0, .int .i64 0, .int .i64 0, .int .i64 0, .int .i64 0, .int .i64 0, .int .i64 0, .int .i64 0, .int .i64 0] 50)).heap.size := by simp
  have S0 := hS.kept B0
  have cR := yz (fun W h => specTrack_any L lim mode A B C D coast fr ad c W hn h)
  have cC := yz (fun W h => l07Copy_any L lim mode A B C D coast fr ad c W hn h)
  have HB := yz B0
  have HT := yz T0
  have HR := yz R0
  have HG := yz G0
  have HS := yz S0
  clear B0 T0 R0 G0 S0 hS
  go_enter Tryz.func41, Tryz.ntmps41
  go_wp2_with fail
  generalize (w.alloc (.cells #[.slice ad L.length c, .int .i64 lim, .int .i64 mode, .int .i64 A, .int .i64 B, .int .i64 C, .int .i64 D, .int .i64 coast, .int .i64 fr] 48)).alloc (.cells #[.slice none 0 0, .int .i64 0, .int .i64 0, .int .i64 0, .int .i64 0, .int .i64 0, .int .i64 0, .int .i64 0, .int .i64 0, .int .i64 0] 50) = W at *
  refine (yy cR _ (yy HS)).mono ?_
  rintro e w1 ⟨rfl, hx⟩
  have B1 := yz (below_call (yy HB) hx)
  have T1 := yz ((yy HT).kept hx)
  have R1 := yz ((yy HR).kept hx)
  have G1 := yz ((yy HG).kept (yy HR).lt hx)
  have S1 := yz ((yy HS).kept hx)
  have hsz1 : w.heap.size + 2 ≤ w1.heap.size := Nat.le_trans hsz hx.size
  clear hx HB HT HR HG HS hsz cR
  cases hk : trackB ⟨L, lim, mode, A, B, C, D, coast, fr⟩
  · have HO1 : Hid (resetT ⟨L, lim, mode, A, B, C, D, coast, fr⟩ = zeroK) := yz (by unfold resetT; rw [hk]; rfl)
    have HO2 : Hid (resetC ⟨L, lim, mode, A, B, C, D, coast, fr⟩ = 1) := yz (by unfold resetC; rw [hk]; rfl)
    go_wp2_with fail
    refine (l07Ill_any 1 _).mono ?_
    rintro e w2 ⟨rfl, hx⟩
    have B2 := yz (below_call (yy B1) hx)
    have R2 := yz ((yy R1).kept hx)
    have G2 := yz ((yy G1).kept (yy R1).lt hx)
    clear hx B1 R1 G1
    obtain ⟨⟨r0, r1, r2, r3, r4, r5, r6, r7, r8⟩, r9⟩ := yy R2
    have g0 := yy G2 0
    have g1 := yy G2 1
    have g2 := yy G2 2
    have g3 := yy G2 3
    have g4 := yy G2 4
    have g5 := yy G2 5
    have g6 := yy G2 6
    have g7 := yy G2 7
    have g8 := yy G2 8
    have g9 := yy G2 9
    go_wp2_with fail
    clear r0 r1 r2 r3 r4 r5 r6 r7 r8 r9 g0 g1 g2 g3 g4 g5 g6 g7 g8 g9
    refine bodyPost_ret (v := .agg #[.slice none 0 0, .int .i64 0, .int .i64 0, .int .i64 0, .int .i64 0, .int .i64 0, .int .i64 0, .int .i64 0, .int .i64 0, .int .i64 1]) ?_ rfl ⟨?_, ?_⟩
    · refine res_sreset _ _ (w.heap.size + 1) _ 0 0 0 0 0 0 0 0 1 rfl ?_
      exact tkO_set10 (yy R2) _ _ _ _ _ _ _ _ _ _
    · rw [yy HO1, yy HO2]
      exact outT_ill _ _ _
    · iterate 10 (refine belowSet ?_ (show w.heap.size ≤ w.heap.size + 1 by omega) _ _)
      exact yy B2
  · have HO1 : Hid (resetT ⟨L, lim, mode, A, B, C, D, coast, fr⟩ = ⟨L, lim, 0, 0, 0, 0, 0, 0, fr⟩) := yz (by unfold resetT; rw [hk]; rfl)
    have HO2 : Hid (resetC ⟨L, lim, mode, A, B, C, D, coast, fr⟩ = 0) := yz (by unfold resetC; rw [hk]; rfl)
    clear hk
    obtain ⟨s0, s1, s2, s3, s4, s5, s6, s7, s8⟩ := yy T1
    go_wp2_with fail
    clear s0 s1 s2 s3 s4 s5 s6 s7 s8
    refine (yy cC _ (yy S1)).mono ?_
    rintro e w2 ⟨a, cap, rfl, hC, hx⟩
    have B2 := yz (below_call (yy B1) hx)
    have R2 := yz ((yy R1).kept hx)
    have G2 := yz ((yy G1).kept (yy R1).lt hx)
    have C2 := yz (hC.low (B' := w.heap.size + 2) (by omega))
    clear hx hC B1 R1 G1 T1 S1 cC
    go_wp2_with fail
    refine (l07Lost_any lim mode A B C D coast fr a L.length cap _).mono ?_
    rintro e w3 ⟨rfl, hx⟩
    have B3 := yz (below_call (yy B2) hx)
    have R3 := yz ((yy R2).kept hx)
    have G3 := yz ((yy G2).kept (yy R2).lt hx)
    have C3 := yz ((yy C2).kept hx)
    clear hx B2 R2 G2 C2
    obtain ⟨⟨r0, r1, r2, r3, r4, r5, r6, r7, r8⟩, r9⟩ := yy R3
    have g0 := yy G3 0
    have g1 := yy G3 1
    have g2 := yy G3 2
    have g3 := yy G3 3
    have g4 := yy G3 4
    have g5 := yy G3 5
    have g6 := yy G3 6
    have g7 := yy G3 7
    have g8 := yy G3 8
    have g9 := yy G3 9
    go_wp2_with fail
    clear r0 r1 r2 r3 r4 r5 r6 r7 r8 r9 g0 g1 g2 g3 g4 g5 g6 g7 g8 g9
    refine bodyPost_ret (v := .agg #[.slice a L.length cap, .int .i64 lim, .int .i64 0, .int .i64 0, .int .i64 0, .int .i64 0, .int .i64 0, .int .i64 0, .int .i64 fr, .int .i64 0]) ?_ rfl ⟨?_, ?_⟩
    · refine res_sreset _ _ (w.heap.size + 1) _ lim 0 0 0 0 0 0 fr 0 rfl ?_
      exact tkO_set10 (yy R3) _ _ _ _ _ _ _ _ _ _
    · rw [yy HO1, yy HO2]
      refine ⟨a, cap, rfl, ?_⟩
      refine Copied.low (B := w.heap.size + 2) ?_ (by omega)
      iterate 10 (refine Copied.far ?_ (show w.heap.size + 1 < w.heap.size + 2 by omega) _ _)
      exact yy C3
    · iterate 10 (refine belowSet ?_ (show w.heap.size ≤ w.heap.size + 1 by omega) _ _)
      exact yy B3
def frameB (wd ht : Int) (s : ByteArray) : Bool := decide (1 ≤ wd) && decide (wd ≤ 16) && decide (1 ≤ ht) && decide (ht ≤ 12) && decide ((s.size : Int) = wd * ht)
def goodB (ar : Int) (ed : Bool) (lo hi : Int) : Bool := decide (lo ≤ ar) && decide (ar ≤ hi) && !ed
def SAt (w : World) (b : Nat) (vs : List Value) : Prop := ∀ i v, vs[i]? = some v → w.cell? ⟨b, i, none⟩ = some v
theorem SAt.lt {w : World} {b : Nat} {v : Value} {vs : List Value} (h : SAt w b (v :: vs)) : b < w.heap.size := World.block_lt_of_cell? w _ (h 0 v rfl)
theorem SAt.kept {w w' : World} {b : Nat} {v : Value} {vs : List Value} (h : SAt w b (v :: vs)) (hB : Below w.heap.size w w') : SAt w' b (v :: vs) := fun i u hu => by
  rw [hB.cell (p := ⟨b, i, none⟩) h.lt]; exact h i u hu
theorem SAt.c3 {w : World} {b : Nat} {x y z : Value} (h : SAt w b [x, y, z]) : w.cell? ⟨b, 0, none⟩ = some x ∧ w.cell? ⟨b, 1, none⟩ = some y ∧ w.cell? ⟨b, 2, none⟩ = some z := ⟨h 0 x rfl, h 1 y rfl, h 2 z rfl⟩
theorem SAt.c5 {w : World} {b : Nat} {x y z u v : Value} (h : SAt w b [x, y, z, u, v]) : w.cell? ⟨b, 0, none⟩ = some x ∧ w.cell? ⟨b, 1, none⟩ = some y ∧ w.cell? ⟨b, 2, none⟩ = some z ∧ w.cell? ⟨b, 3, none⟩ = some u ∧ w.cell? ⟨b, 4, none⟩ = some v := ⟨h 0 x rfl, h 1 y rfl, h 2 z rfl, h 3 u rfl, h 4 v rfl⟩
def Blk (w : World) (b : Nat) (cs : List Value) (t : TypeId) : Prop := w.heap[b]? = some (.cells cs.toArray t (0, 0))
theorem Blk.lt {w : World} {b : Nat} {cs : List Value} {t : TypeId} (h : Blk w b cs t) : b < w.heap.size := (Array.getElem?_eq_some_iff.1 h).1
theorem Blk.kept {w w' : World} {b : Nat} {cs : List Value} {t : TypeId} (h : Blk w b cs t) (hB : Below w.heap.size w w') : Blk w' b cs t := (hB.block b h.lt).trans h
theorem blk_new (w : World) (cs : List Value) (t : TypeId) : Blk (w.alloc (.cells cs.toArray t)) w.heap.size cs t := heap_alloc_new w _
theorem Blk.alloc {w : World} {b : Nat} {cs : List Value} {t : TypeId} (h : Blk w b cs t) (o : Obj) : Blk (w.alloc o) b cs t := h.kept (below1 _ _)
theorem Blk.cell {w : World} {b : Nat} {cs : List Value} {t : TypeId} (h : Blk w b cs t) (i : Nat) (v : Value) (hv : cs[i]? = some v) : w.cell? ⟨b, i, none⟩ = some v := by
  rw [cell_of_row w b i _ _ _ h]; simpa using hv
theorem Blk.free {w : World} {b : Nat} {cs : List Value} {t : TypeId} (h : Blk w b cs t) (i : Nat) : w.frozen? ⟨b, i, none⟩ = false := frozen_of_row w b i _ _ h
theorem Blk.set {w : World} {b : Nat} {cs : List Value} {t : TypeId} (h : Blk w b cs t) (i : Nat) (v : Value) : Blk (w.setCell ⟨b, i, none⟩ v) b (cs.set i v) t := by
  have := heap_setCell_same w b i _ _ v h
  unfold Blk
  rw [this]
  simp
theorem Blk.other {w : World} {b : Nat} {cs : List Value} {t : TypeId} (h : Blk w b cs t) (a : Addr) (v : Value) (hne : b ≠ a.block) : Blk (w.setCell a v) b cs t := by
  unfold Blk
  rw [heap_setCell_other w a b v hne]
  exact h
theorem Blk.drewn {w : World} {b : Nat} {cs : List Value} {t : TypeId} (h : Blk w b cs t) : Blk w.drew b cs t := h
def BRow (w : World) (b n : Nat) (f : Nat → Int) : Prop := ∀ j, j < n → w.cell? ⟨b, j, none⟩ = some (.int .u8 (f j)) ∧ w.frozen? ⟨b, j, none⟩ = false
theorem BRow.kept {w w' : World} {b n : Nat} {f : Nat → Int} (h : BRow w b n f) (hb : b < w.heap.size) (hB : Below w.heap.size w w') : BRow w' b n f := fun j hj =>
  ⟨by rw [hB.cell (p := ⟨b, j, none⟩) hb]; exact (h j hj).1, by rw [hB.frozen (p := ⟨b, j, none⟩) hb]; exact (h j hj).2⟩
theorem BRow.drewn {w : World} {b n : Nat} {f : Nat → Int} (h : BRow w b n f) : BRow w.drew b n f := h
theorem BRow.congr {w : World} {b n : Nat} {f f' : Nat → Int} (h : BRow w b n f) (e : ∀ j, j < n → f j = f' j) : BRow w b n f' := fun j hj => ⟨by rw [(h j hj).1, e j hj], (h j hj).2⟩
theorem BRow.set {w : World} {b n : Nat} {f : Nat → Int} (h : BRow w b n f) (i : Nat) (hi : i < n) (v : Int) : BRow (w.setCell ⟨b, i, none⟩ (.int .u8 v)) b n (fun j => if j = i then v else f j) := fun j hj => by
  refine ⟨?_, ?_⟩
  · show _ = some (Value.int .u8 (if j = i then v else f j))
    by_cases e : j = i
    · subst e
      rw [if_pos rfl, World.cell?_setCell_same _ _ _ (h j hj).1]
    · rw [if_neg e, World.cell?_setCell_other _ _ _ _ (fun h => e (by simpa using (congrArg Addr.off h).symm)), (h j hj).1]
  · rw [← (h j hj).2]
    simp
def lessI (f d : ByteArray) (j : Nat) : Int := if byteN f j < byteN d j then 0 else (byteN f j : Int) - (byteN d j : Int)
def lessS (f d : ByteArray) : ByteArray := strOfNums ((List.range f.size).map (lessI f d))
theorem BRow.conv {w : World} {b : Nat} {f d : ByteArray} (h : BRow w b f.size (lessI f d)) (cap : Nat) :
    (convert 55 9 (.slice (some ⟨b, 0, none⟩) f.size cap)).run Tryz.prog w = .ok (.string (lessS f d)) w := by
  refine run_convert_bytes_arg (P := Tryz.prog) _ 55 5 Tryz.underlying55 Tryz.underlying5 b 0 f.size cap ((List.range f.size).map (lessI f d)) (by simp) ?_ 9 Tryz.underlying9
  intro i hi
  rw [Nat.zero_add, (h i hi).1]
  congr 2
  rw [List.getD, List.getElem?_map, List.getElem?_range hi]
  rfl
theorem bcs3 {w : World} {b : Nat} {t : TypeId} {x0 x1 x2 : Value} {r : List Value} (h : Blk w b (x0 :: x1 :: x2 :: r) t) : w.cell? ⟨b, 0, none⟩ = some x0 ∧ w.cell? ⟨b, 1, none⟩ = some x1 ∧ w.cell? ⟨b, 2, none⟩ = some x2 := ⟨h.cell 0 _ rfl, h.cell 1 _ rfl, h.cell 2 _ rfl⟩
theorem bcs4 {w : World} {b : Nat} {t : TypeId} {x0 x1 x2 x3 : Value} {r : List Value} (h : Blk w b (x0 :: x1 :: x2 :: x3 :: r) t) : w.cell? ⟨b, 0, none⟩ = some x0 ∧ w.cell? ⟨b, 1, none⟩ = some x1 ∧ w.cell? ⟨b, 2, none⟩ = some x2 ∧ w.cell? ⟨b, 3, none⟩ = some x3 := ⟨h.cell 0 _ rfl, h.cell 1 _ rfl, h.cell 2 _ rfl, h.cell 3 _ rfl⟩
theorem bcs5 {w : World} {b : Nat} {t : TypeId} {x0 x1 x2 x3 x4 : Value} {r : List Value} (h : Blk w b (x0 :: x1 :: x2 :: x3 :: x4 :: r) t) : w.cell? ⟨b, 0, none⟩ = some x0 ∧ w.cell? ⟨b, 1, none⟩ = some x1 ∧ w.cell? ⟨b, 2, none⟩ = some x2 ∧ w.cell? ⟨b, 3, none⟩ = some x3 ∧ w.cell? ⟨b, 4, none⟩ = some x4 := ⟨h.cell 0 _ rfl, h.cell 1 _ rfl, h.cell 2 _ rfl, h.cell 3 _ rfl, h.cell 4 _ rfl⟩
theorem bcs9 {w : World} {b : Nat} {t : TypeId} {x0 x1 x2 x3 x4 x5 x6 x7 x8 : Value} {r : List Value} (h : Blk w b (x0 :: x1 :: x2 :: x3 :: x4 :: x5 :: x6 :: x7 :: x8 :: r) t) : w.cell? ⟨b, 0, none⟩ = some x0 ∧ w.cell? ⟨b, 1, none⟩ = some x1 ∧ w.cell? ⟨b, 2, none⟩ = some x2 ∧ w.cell? ⟨b, 3, none⟩ = some x3 ∧ w.cell? ⟨b, 4, none⟩ = some x4 ∧ w.cell? ⟨b, 5, none⟩ = some x5 ∧ w.cell? ⟨b, 6, none⟩ = some x6 ∧ w.cell? ⟨b, 7, none⟩ = some x7 ∧ w.cell? ⟨b, 8, none⟩ = some x8 := ⟨h.cell 0 _ rfl, h.cell 1 _ rfl, h.cell 2 _ rfl, h.cell 3 _ rfl, h.cell 4 _ rfl, h.cell 5 _ rfl, h.cell 6 _ rfl, h.cell 7 _ rfl, h.cell 8 _ rfl⟩
theorem bcs10 {w : World} {b : Nat} {t : TypeId} {x0 x1 x2 x3 x4 x5 x6 x7 x8 x9 : Value} {r : List Value} (h : Blk w b (x0 :: x1 :: x2 :: x3 :: x4 :: x5 :: x6 :: x7 :: x8 :: x9 :: r) t) : w.cell? ⟨b, 0, none⟩ = some x0 ∧ w.cell? ⟨b, 1, none⟩ = some x1 ∧ w.cell? ⟨b, 2, none⟩ = some x2 ∧ w.cell? ⟨b, 3, none⟩ = some x3 ∧ w.cell? ⟨b, 4, none⟩ = some x4 ∧ w.cell? ⟨b, 5, none⟩ = some x5 ∧ w.cell? ⟨b, 6, none⟩ = some x6 ∧ w.cell? ⟨b, 7, none⟩ = some x7 ∧ w.cell? ⟨b, 8, none⟩ = some x8 ∧ w.cell? ⟨b, 9, none⟩ = some x9 := ⟨h.cell 0 _ rfl, h.cell 1 _ rfl, h.cell 2 _ rfl, h.cell 3 _ rfl, h.cell 4 _ rfl, h.cell 5 _ rfl, h.cell 6 _ rfl, h.cell 7 _ rfl, h.cell 8 _ rfl, h.cell 9 _ rfl⟩
theorem bfs3 {w : World} {b : Nat} {t : TypeId} {cs : List Value} (h : Blk w b cs t) : w.frozen? ⟨b, 0, none⟩ = false ∧ w.frozen? ⟨b, 1, none⟩ = false ∧ w.frozen? ⟨b, 2, none⟩ = false := ⟨h.free 0, h.free 1, h.free 2⟩
theorem bfs5 {w : World} {b : Nat} {t : TypeId} {cs : List Value} (h : Blk w b cs t) : w.frozen? ⟨b, 0, none⟩ = false ∧ w.frozen? ⟨b, 1, none⟩ = false ∧ w.frozen? ⟨b, 2, none⟩ = false ∧ w.frozen? ⟨b, 3, none⟩ = false ∧ w.frozen? ⟨b, 4, none⟩ = false := ⟨h.free 0, h.free 1, h.free 2, h.free 3, h.free 4⟩
theorem bfs9 {w : World} {b : Nat} {t : TypeId} {cs : List Value} (h : Blk w b cs t) : w.frozen? ⟨b, 0, none⟩ = false ∧ w.frozen? ⟨b, 1, none⟩ = false ∧ w.frozen? ⟨b, 2, none⟩ = false ∧ w.frozen? ⟨b, 3, none⟩ = false ∧ w.frozen? ⟨b, 4, none⟩ = false ∧ w.frozen? ⟨b, 5, none⟩ = false ∧ w.frozen? ⟨b, 6, none⟩ = false ∧ w.frozen? ⟨b, 7, none⟩ = false ∧ w.frozen? ⟨b, 8, none⟩ = false := ⟨h.free 0, h.free 1, h.free 2, h.free 3, h.free 4, h.free 5, h.free 6, h.free 7, h.free 8⟩
theorem bfs10 {w : World} {b : Nat} {t : TypeId} {cs : List Value} (h : Blk w b cs t) : w.frozen? ⟨b, 0, none⟩ = false ∧ w.frozen? ⟨b, 1, none⟩ = false ∧ w.frozen? ⟨b, 2, none⟩ = false ∧ w.frozen? ⟨b, 3, none⟩ = false ∧ w.frozen? ⟨b, 4, none⟩ = false ∧ w.frozen? ⟨b, 5, none⟩ = false ∧ w.frozen? ⟨b, 6, none⟩ = false ∧ w.frozen? ⟨b, 7, none⟩ = false ∧ w.frozen? ⟨b, 8, none⟩ = false ∧ w.frozen? ⟨b, 9, none⟩ = false := ⟨h.free 0, h.free 1, h.free 2, h.free 3, h.free 4, h.free 5, h.free 6, h.free 7, h.free 8, h.free 9⟩
end Go.Proofs.YtofpjlhoppofdaaGreatDoor
namespace Go.Proofs.YtofpjlhoppofdaaGreatDoor
set_option linter.unusedVariables false
structure Fr where
  wd : Nat
  ht : Nat
  px : Nat → Nat
  lv : Int
def Fr.n (f : Fr) : Nat := f.wd * f.ht
def cnt (T : Nat → Bool) : Nat → Nat
  | 0 => 0
  | n + 1 => cnt T n + if T n = true then 1 else 0
theorem cnt_le (T : Nat → Bool) : ∀ n, cnt T n ≤ n
  | 0 => Nat.le_refl _
  | n + 1 => by unfold cnt; have := cnt_le T n; split <;> omega
structure Good (f : Fr) (c : Nat) (s : (Nat → Bool) × List Nat) : Prop where
  num : cnt s.1 f.n = c + s.2.length
  lies : ∀ j ∈ s.2, j < f.n
theorem Good.len {f : Fr} {c : Nat} {s : (Nat → Bool) × List Nat} (h : Good f c s) : c + s.2.length ≤ f.n := by rw [← h.num]; exact cnt_le _ _
structure Bl where
  ar : Nat
  su : Nat
  sx : Nat
  sy : Nat
  ed : Bool
end Go.Proofs.YtofpjlhoppofdaaGreatDoor
namespace Go.Proofs.YtofpjlhoppofdaaGreatDoor
open Go.RowKit
set_option linter.unusedVariables false
def RowV (w : World) (t : TypeId) (g m : Nat) (f : Nat → Value) : Prop := ∃ cur : Array Value, w.heap[g]? = some (.cells cur t (0, 0)) ∧ ∀ j, j < m → cur[j]? = some (f j)
theorem RowV.lt {w : World} {t : TypeId} {g m : Nat} {f : Nat → Value} (h : RowV w t g m f) : g < w.heap.size := by
  obtain ⟨cur, hc, _⟩ := h
  exact (Array.getElem?_eq_some_iff.1 hc).1
theorem RowV.same {w w' : World} {t : TypeId} {g m : Nat} {f : Nat → Value} (h : RowV w t g m f) (e : w'.heap[g]? = w.heap[g]?) : RowV w' t g m f := by
  obtain ⟨cur, hc, hs⟩ := h
  exact ⟨cur, by rw [e]; exact hc, hs⟩
theorem RowV.kept {w w' : World} {t : TypeId} {g m : Nat} {f : Nat → Value} (h : RowV w t g m f) (hB : Below w.heap.size w w') : RowV w' t g m f := h.same (hB.block g h.lt)
theorem RowV.congr {w : World} {t : TypeId} {g m : Nat} {f f' : Nat → Value} (h : RowV w t g m f) (e : ∀ j, j < m → f j = f' j) : RowV w t g m f' := by
  obtain ⟨cur, hc, hs⟩ := h
  exact ⟨cur, hc, fun j hj => by rw [hs j hj, e j hj]⟩
theorem RowV.cell {w : World} {t : TypeId} {g m j : Nat} {f : Nat → Value} (h : RowV w t g m f) (hj : j < m) : w.cell? ⟨g, j, none⟩ = some (f j) := by
  obtain ⟨cur, hc, hs⟩ := h
  rw [cell_of_row w g j cur t _ hc]
  exact hs j hj
theorem RowV.free {w : World} {t : TypeId} {g m : Nat} {f : Nat → Value} (h : RowV w t g m f) (j : Nat) : w.frozen? ⟨g, j, none⟩ = false := by
  obtain ⟨cur, hc, _⟩ := h
  exact frozen_of_row w g j cur t hc
theorem RowV.set {w : World} {t : TypeId} {g m : Nat} {f : Nat → Value} (h : RowV w t g m f) (i : Nat) (v : Value) : RowV (w.setCell ⟨g, i, none⟩ v) t g m (fun j => if j = i then v else f j) := by
  obtain ⟨cur, hc, hs⟩ := h
  refine ⟨_, heap_setCell_same w g i cur t v hc, fun j hj => ?_⟩
  have := hs j hj
  rw [Array.getElem?_setIfInBounds]
  by_cases e : i = j
  · subst e
    simp [(Array.getElem?_eq_some_iff.1 this).1]
  · have e' : ¬ j = i := fun h => e (Eq.symm h)
    simp [e, e', this]
structure Apart (lo hi : Nat) (w w' : World) : Prop where
  os : w'.os = w.os
  tape : w'.tape = w.tape
  output : w'.output = w.output
  size : w.heap.size ≤ w'.heap.size
  block : ∀ k, k < w.heap.size → (k < lo ∨ hi ≤ k) → w'.heap[k]? = w.heap[k]?
theorem Apart.refl (lo hi : Nat) (w : World) : Apart lo hi w w := ⟨rfl, rfl, rfl, Nat.le_refl _, fun _ _ _ => rfl⟩
theorem Apart.of {lo hi g : Nat} {w w' : World} (h : w.grownBy w' (some g)) (h1 : lo ≤ g) (h2 : g < hi) : Apart lo hi w w' := ⟨h.os, h.tape, h.output, h.size, fun k hk hne => h.block k hk (fun e => by have := Option.some.inj e; omega)⟩
theorem Apart.below {B lo hi : Nat} {w w1 w2 : World} (h : Below B w w1) (ha : Apart lo hi w1 w2) (h1 : B ≤ lo) (h2 : B ≤ w1.heap.size) : Below B w w2 :=
  h.trans ⟨ha.os, ha.tape, ha.output, ha.size, fun k hk => ha.block k (by omega) (.inl (by omega))⟩
def PRow (w : World) (t : TypeId) (c lo hi n : Nat) (v : Value) (f : Nat → Value) : Prop := (n = 0 ∧ ∃ a cap, v = .slice a 0 cap) ∨ ∃ g cap, v = .slice (some ⟨g, 0, none⟩) n cap ∧ lo ≤ g ∧ g < hi ∧ RowV w t g (n * c) f
theorem PRow.kept {w w' : World} {t : TypeId} {c lo hi n : Nat} {v : Value} {f : Nat → Value} (h : PRow w t c lo hi n v f) (hB : Below w.heap.size w w') : PRow w' t c lo hi n v f := by
  rcases h with h | ⟨g, cap, hv, h1, h2, hr⟩
  · exact .inl h
  · exact .inr ⟨g, cap, hv, h1, h2, hr.kept hB⟩
theorem PRow.apart {w w' : World} {t : TypeId} {c lo hi l h n : Nat} {v : Value} {f : Nat → Value} (hp : PRow w t c lo hi n v f) (ha : Apart l h w w') (hd : hi ≤ l ∨ h ≤ lo) : PRow w' t c lo hi n v f := by
  rcases hp with hp | ⟨g, cap, hv, h1, h2, hr⟩
  · exact .inl hp
  · exact .inr ⟨g, cap, hv, h1, h2, hr.same (ha.block g hr.lt (by omega))⟩
theorem PRow.wide {w : World} {t : TypeId} {c lo hi lo' hi' n : Nat} {v : Value} {f : Nat → Value} (h : PRow w t c lo hi n v f) (h1 : lo' ≤ lo) (h2 : hi ≤ hi') : PRow w t c lo' hi' n v f := by
  rcases h with h | ⟨g, cap, hv, g1, g2, hr⟩
  · exact .inl h
  · exact .inr ⟨g, cap, hv, by omega, by omega, hr⟩
theorem PRow.of {w : World} {t : TypeId} {c B n : Nat} {v : Value} {xs : List Value} {f : Nat → Value} (h : w.ownsRow B t c v n xs) (hf : ∀ j, j < n * c → xs[j]? = some (f j)) : PRow w t c B w.heap.size n v f := by
  rcases h.2 with ⟨h1, h0⟩ | ⟨g, cap, cur, hv, hb, hg, hnc, hcm, hcs, htake⟩
  · exact .inl ⟨h0, _, _, h1⟩
  · refine .inr ⟨g, cap, hv, hb, (Array.getElem?_eq_some_iff.1 hg).1, cur, hg, fun j hj => ?_⟩
    have e := hf j hj
    rw [← htake, List.getElem?_take, if_pos hj] at e
    simpa using e
end Go.Proofs.YtofpjlhoppofdaaGreatDoor
namespace Go.Proofs.YtofpjlhoppofdaaGreatDoor
open Go.RowKit Go.Sort
set_option linter.unusedVariables false
def nums (l : List Nat) : List Value := l.map fun (n : Nat) => Value.int .i64 (n : Int)
theorem Blk.grown {w w2 : World} {b : Nat} {cs : List Value} {t : TypeId} {row : Option Nat} (h : Blk w b cs t) (hg : w.grownBy w2 row) (hne : some b ≠ row) : Blk w2 b cs t := (hg.block b h.lt hne).trans h
theorem RowV.grown {w w2 : World} {t : TypeId} {g m : Nat} {f : Nat → Value} {row : Option Nat} (h : RowV w t g m f) (hg : w.grownBy w2 row) (hne : some g ≠ row) : RowV w2 t g m f := h.same (hg.block g h.lt hne)
theorem RowV.drewn {w : World} {t : TypeId} {g m : Nat} {f : Nat → Value} (h : RowV w t g m f) : RowV w.drew t g m f := h.same rfl
theorem own_kept {w w' : World} {B : Nat} {t : TypeId} {v : Value} {n m : Nat} {xs : List Value} (h : w.ownsRow B t m v n xs) (hB : Below w.heap.size w w') : w'.ownsRow B t m v n xs :=
  h.kept (row := none) ⟨hB.os, hB.tape, hB.output, hB.size, fun k hk _ => hB.block k hk⟩ (by cases hv : v.ownBlock <;> simp)
theorem RowV.other {w : World} {t : TypeId} {g m : Nat} {f : Nat → Value} (h : RowV w t g m f) (a : Addr) (v : Value) (hne : g ≠ a.block) : RowV (w.setCell a v) t g m f := h.same (heap_setCell_other w a g v hne)
theorem own_slice {w : World} {B : Nat} {t : TypeId} {v : Value} {n m : Nat} {xs : List Value} (h : w.ownsRow B t m v n xs) : ∃ a c, v = .slice a n c := by
  rcases h.2 with ⟨h1, h0⟩ | ⟨g, cap, cur, hv, _⟩
  · exact ⟨none, 0, by rw [h1, h0]⟩
  · exact ⟨_, cap, hv⟩
theorem own_lower {w : World} {B B' n m : Nat} {t : TypeId} {v : Value} {xs : List Value} (h : w.ownsRow B t m v n xs) (hb : B' ≤ B) : w.ownsRow B' t m v n xs := by
  obtain ⟨h1, h2⟩ := h
  refine ⟨h1, ?_⟩
  rcases h2 with h2 | ⟨g, cap, cur, e, hg, r⟩
  · exact .inl h2
  · exact .inr ⟨g, cap, cur, e, by omega, r⟩
theorem new_list (w : World) (vs : List Value) (t : TypeId) : ∀ (j : Nat) (u : Value), vs[j]? = some u → (w.alloc (.cells vs.toArray t)).cell? ((⟨w.heap.size, 0, none⟩ : Addr).add j) = some u := by
  intro j u hj
  have e : (⟨w.heap.size, 0, none⟩ : Addr).add j = ⟨w.heap.size, j, none⟩ := by cases j <;> simp [Addr.add]
  rw [e]
  simp [hj]
def weighB (su sx sy : Int) : Bool := decide (1 ≤ su ∧ su ≤ 10000 ∧ 0 ≤ sx ∧ sx ≤ 15 * su ∧ 0 ≤ sy ∧ sy ≤ 11 * su)
def focB (fo : Int) : Bool := decide (1 ≤ fo ∧ fo ≤ 40)
def spX (sx wd su : Int) : Int := 2 * sx - (wd - 1) * su
def spZ (fo su : Int) : Int := 2 * fo * su
def spOk (su sx sy wd ht : Int) (s : ByteArray) (fo : Int) : Bool := weighB su sx sy && frameB wd ht s && focB fo
def spI (ok : Bool) (x y z c : Int) : Int := if ok then prI true (gI x y z) c else 0
set_option maxRecDepth 100000 in
theorem l04Wide_any (x y z : Int) (w : World) :
    Calls Tryz.prog 114 #[.agg #[.int .i64 x, .int .i64 y, .int .i64 z]] w fun e w' => e = .returned (.bool (wideB x y z)) ∧ Below w.heap.size w w' := by
  have A0 := vecAt_new w x y z 76
  have B0 := below1 w (.cells #[.int .i64 x, .int .i64 y, .int .i64 z] 76)
  have cR := yz (fun W => specRight_any x y z W)
  have cW := yz (fun W => l02Within_any 1800 x y z W (by omega) (by omega))
  have HW : Hid (wideB x y z = (rightB x y z && withinB 1800 x y z)) := yz rfl
  generalize wideB x y z = wv at *
  generalize withinB 1800 x y z = wi at *
  go_enter Tryz.func114, Tryz.ntmps114
  go_wp2_with fail
  refine (yy cR _).mono ?_
  rintro e w1 ⟨rfl, hx⟩
  obtain ⟨c0, c1, c2⟩ := A0.kept (World.block_lt_of_cell? _ _ A0.1) hx
  have B1 := below_call B0 hx
  clear hx B0 A0
  cases hr : rightB x y z
  · rw [hr] at HW
    go_wp2_with fail
    go_ret
    exact ⟨by rw [yy HW]; rfl, B1⟩
  · rw [hr] at HW
    go_wp2_with fail
    refine (yy cW _).mono ?_
    rintro e w2 ⟨rfl, hx⟩
    have B2 := below_call B1 hx
    clear hx B1
    go_wp2_with fail
    go_ret
    exact ⟨by rw [yy HW]; rfl, B2⟩
theorem info_vec : (Tryz.prog.info? 76).map (fun i => (i.zero, i.size, i.bytes)) = some (some (.agg #[.int .i64 0, .int .i64 0, .int .i64 0]), 3, 24) := by kernel_rfl
def vec3 (v : Int × Int × Int) : List Value := [.int .i64 v.1, .int .i64 v.2.1, .int .i64 v.2.2]
def flatV (S : List (Int × Int × Int)) : List Value := S.flatMap vec3
theorem flatV_app (A B : List (Int × Int × Int)) : flatV (A ++ B) = flatV A ++ flatV B := by unfold flatV; rw [List.flatMap_append]
theorem flatV_cell {S : List (Int × Int × Int)} {v : Value} (h : v ∈ flatV S) : v.oneCell' = true := by
  unfold flatV at h
  rw [List.mem_flatMap] at h
  obtain ⟨p, _, hp⟩ := h
  simp [vec3] at hp
  rcases hp with rfl | rfl | rfl <;> rfl
theorem ownV_none (w : World) (B : Nat) (h : B ≤ w.heap.size) : (w.alloc (.cells #[] 76)).ownsRow B 76 3 (.slice (some ⟨w.heap.size, 0, none⟩) 0 0) 0 (flatV []) :=
  ⟨rfl, .inr ⟨_, 0, #[], rfl, h, Array.getElem?_push_size, Nat.le_refl _, Nat.zero_le _, rfl, rfl⟩⟩
def spT (wd ht : Int) (s : ByteArray) (fo : Int) (b : Bl) : Int × Int × Int :=
  (spI (spOk b.su b.sx b.sy wd ht s fo) (spX b.sx wd b.su) (spX b.sy ht b.su) (spZ fo b.su) (spX b.sx wd b.su), spI (spOk b.su b.sx b.sy wd ht s fo) (spX b.sx wd b.su) (spX b.sy ht b.su) (spZ fo b.su) (spX b.sy ht b.su), spI (spOk b.su b.sx b.sy wd ht s fo) (spX b.sx wd b.su) (spX b.sy ht b.su) (spZ fo b.su) (spZ fo b.su))
def keepS (wd ht : Int) (s : ByteArray) (fo : Int) (b : Bl) : Bool := goodB b.ar b.ed 1 20 && wideB (spT wd ht s fo b).1 (spT wd ht s fo b).2.1 (spT wd ht s fo b).2.2
end Go.Proofs.YtofpjlhoppofdaaGreatDoor
namespace Go.Proofs.YtofpjlhoppofdaaGreatDoor
open Go.RowKit
set_option linter.unusedVariables false
end Go.Proofs.YtofpjlhoppofdaaGreatDoor
namespace Go.Proofs.YtofpjlhoppofdaaGreatDoor
open Go.RowKit Go.Sort
set_option linter.unusedVariables false
end Go.Proofs.YtofpjlhoppofdaaGreatDoor
namespace Go.Proofs.YtofpjlhoppofdaaGreatDoor
open Go.RowKit Go.Sort
set_option linter.unusedVariables false
set_option linter.unusedSimpArgs false
end Go.Proofs.YtofpjlhoppofdaaGreatDoor
namespace Go.Proofs.YtofpjlhoppofdaaGreatDoor
open Go.RowKit Go.Sort
set_option linter.unusedVariables false
def DirAt (w : World) (b o : Nat) (v : D3) : Prop := w.cell? ⟨b, o, none⟩ = some (.int .i64 v.1) ∧ w.cell? ⟨b, o + 1, none⟩ = some (.int .i64 v.2.1) ∧ w.cell? ⟨b, o + 2, none⟩ = some (.int .i64 v.2.2)
def Dirs (w : World) (a : Option Addr) (L : List D3) (n : Nat) : Prop := n = 0 ∨ ∃ b o, a = some ⟨b, o, none⟩ ∧ b < w.heap.size ∧ ∀ i, i < n → DirAt w b (o + i * 3) (vA L i)
theorem DirAt.kept {w w' : World} {b o : Nat} {s : D3} (h : DirAt w b o s) (hb : b < w.heap.size) (hB : Below w.heap.size w w') : DirAt w' b o s := by
  obtain ⟨h0, h1, h2⟩ := h
  exact ⟨by rw [hB.cell (p := ⟨b, o, none⟩) hb]; exact h0, by rw [hB.cell (p := ⟨b, o + 1, none⟩) hb]; exact h1, by rw [hB.cell (p := ⟨b, o + 2, none⟩) hb]; exact h2⟩
theorem Dirs.kept {w w' : World} {a : Option Addr} {L : List D3} {n : Nat} (h : Dirs w a L n) (hB : Below w.heap.size w w') : Dirs w' a L n := by
  rcases h with h | ⟨b, o, ha, hb, hc⟩
  · exact .inl h
  · exact .inr ⟨b, o, ha, Nat.lt_of_lt_of_le hb hB.size, fun i hi => (hc i hi).kept hb hB⟩
theorem Dirs.less {w : World} {a : Option Addr} {L : List D3} {n m : Nat} (h : Dirs w a L n) (hm : m ≤ n) : Dirs w a L m := by
  rcases h with h | ⟨b, o, ha, hb, hc⟩
  · exact .inl (by omega)
  · exact .inr ⟨b, o, ha, hb, fun i hi => hc i (by omega)⟩
theorem vltD {w : World} {b : Nat} {x y z : Int} (h : VecAt w b x y z) : b < w.heap.size := World.block_lt_of_cell? w _ h.1
theorem info_i64 : (Tryz.prog.info? 2).map (fun i => (i.zero, i.size, i.bytes)) = some (some (.int .i64 0), 1, 8) := by kernel_rfl
theorem RowV.made {w' : World} {B b n : Nat} {v : Value} {t : TypeId} {c : Nat} {xs : List Value} {f : Nat → Value} (h : w'.ownsRow B t c (.slice (some ⟨b, 0, none⟩) n n) n xs) (hf : ∀ j, j < n * c → xs[j]? = some (f j)) : RowV w' t b (n * c) f := by
  rcases h.2 with ⟨h', _⟩ | ⟨g, cap, cur, hv, _, hg, _, _, _, htake⟩
  · simp at h'
  · simp only [Value.slice.injEq, Option.some.injEq, Addr.mk.injEq, and_true, true_and] at hv
    obtain ⟨rfl, rfl⟩ := hv
    refine ⟨cur, hg, fun j hj => ?_⟩
    have e := hf j hj
    rw [← htake, List.getElem?_take, if_pos hj] at e
    simpa using e
theorem TurnAt.same {w w' : World} {b : Nat} {p q r s : Int} (h : TurnAt w b p q r s) (e : w'.heap[b]? = w.heap[b]?) : TurnAt w' b p q r s := by
  obtain ⟨h0, h1, h2, h3⟩ := h
  exact ⟨(World.cell?_of_block (a := ⟨b, _, none⟩) e).trans h0, (World.cell?_of_block (a := ⟨b, _, none⟩) e).trans h1, (World.cell?_of_block (a := ⟨b, _, none⟩) e).trans h2, (World.cell?_of_block (a := ⟨b, _, none⟩) e).trans h3⟩
structure MSt (w wr : World) (g m : Nat) (a b c d : Int) (f : Nat → Value) : Prop where
  row : RowV wr 2 g (m * 1) f
  tur : TurnAt wr w.heap.size a b c d
  bel : Below w.heap.size w wr
  lo : w.heap.size < g
theorem MSt.kept {w wr wy : World} {g m : Nat} {a b c d : Int} {f : Nat → Value} (h : MSt w wr g m a b c d f) (hB : Below wr.heap.size wr wy) : MSt w wy g m a b c d f :=
  ⟨h.row.kept hB, h.tur.kept h.tur.lt hB, below_call h.bel hB, h.lo⟩
theorem MSt.set {w wr : World} {g m : Nat} {a b c d : Int} {f : Nat → Value} (h : MSt w wr g m a b c d f) (i : Nat) (v : Value) : MSt w (wr.setCell ⟨g, i, none⟩ v) g m a b c d (fun j => if j = i then v else f j) :=
  ⟨h.row.set i v, h.tur.same (heap_setCell_other wr ⟨g, i, none⟩ w.heap.size v (by have := h.lo; show w.heap.size ≠ g; omega)), h.bel.setCell (by have := h.lo; show w.heap.size ≤ g; omega) _, h.lo⟩
theorem MSt.congr {w wr : World} {g m : Nat} {a b c d : Int} {f f' : Nat → Value} (h : MSt w wr g m a b c d f) (e : ∀ j, j < m → f j = f' j) : MSt w wr g m a b c d f' := ⟨h.row.congr (fun j hj => e j (by omega)), h.tur, h.bel, h.lo⟩
theorem same_of_right {a1 a2 a3 b1 b2 b3 : Int} (ha : rightB a1 a2 a3 = true) (hb : rightB b1 b2 b3 = true) :
    (eqB (crW a2 a3 b2 b3) (crW a3 a1 b3 b1) (crW a1 a2 b1 b2) 0 0 0 && decide (0 < dotW a1 a2 a3 b1 b2 b3)) = sameB a1 a2 a3 b1 b2 b3 := by
  unfold sameB
  rw [ha, hb]
  rfl
theorem l02Same_right (p q : D3) (w : World) (hp : rightB p.1 p.2.1 p.2.2 = true) (hq : rightB q.1 q.2.1 q.2.2 = true) :
    Calls Tryz.prog 64 #[.agg #[.int .i64 p.1, .int .i64 p.2.1, .int .i64 p.2.2], .agg #[.int .i64 q.1, .int .i64 q.2.1, .int .i64 q.2.2]] w fun e w' => e = .returned (.bool (sameD p q)) ∧ Below w.heap.size w w' := by
  refine (l02Same_any _ _ _ _ _ _ w).mono fun e w' h => ?_
  rw [same_of_right hp hq] at h
  exact h
set_option maxHeartbeats 4000000 in
set_option maxRecDepth 100000 in
theorem specSpotsRight_any (L : List D3) (a : Option Addr) (c : Nat) (w : World) (hn : L.length ≤ 1048576) (hS : Dirs w a L L.length) :
    Calls Tryz.prog 75 #[.slice a L.length c] w fun e w' => e = .returned (.bool (spotsB L)) ∧ Below w.heap.size w w' := by
  obtain ⟨n, hnl⟩ : ∃ n, L.length = n := ⟨_, rfl⟩
  rw [hnl] at hn hS ⊢
  have HL := yz hnl
  clear hnl
  by_cases h12 : 6 < n
  · have h12' : (6 : Int) < (n : Int) := by omega
    have HO : Hid (spotsB L = false) := yz (spots_long (by rw [yy HL]; exact h12))
    clear hS
    go_enter Tryz.func75, Tryz.ntmps75
    go_wp2
    go_ret
    exact ⟨by rw [yy HO]; rfl, Below.refl _ _⟩
  have h12' : ¬ (6 : Int) < (n : Int) := by omega
  rcases hS with rfl | ⟨b, o, rfl, hb, hc⟩
  · have HO : Hid (spotsB L = true) := yz (spots_yes (by rw [yy HL]; omega) (by rw [yy HL]; intro j hj; omega))
    go_enter Tryz.func75, Tryz.ntmps75
    go_wp2_with fail
    refine wp_loop_rounds 1 ?_
    rw [rounds_succ]
    go_wp2_with fail
    go_ret
    exact ⟨by rw [yy HO]; rfl, Below.refl _ _⟩
  have HC := yz hc
  clear hc
  go_enter Tryz.func75, Tryz.ntmps75
  go_wp2_with fail
  go_loopw [3] (fun i wr => ∃ k : Nat, k ≤ n ∧ i = .int .i64 k ∧ Hid (okVTo L k) ∧ Hid (Below w.heap.size w wr)) (fun i _ => n - (intOf i).toNat)
  case atStart => exact ⟨0, by omega, rfl, yz (fun j hj => absurd hj (Nat.not_lt_zero _)), yz (Below.refl _ _)⟩
  case round =>
    obtain ⟨k, hk, rfl, HF, HB⟩ := hrel
    by_cases hkn : k < n
    · have hkn2 : (k : Int) < (n : Int) := by omega
      obtain ⟨⟨s2, s3, s4⟩, hs⟩ : ∃ s, vA L k = s := ⟨_, rfl⟩
      have hst := ((yy HC) k hkn).kept hb (yy HB)
      rw [hs] at hst
      obtain ⟨c0, c1, c2⟩ := hst
      have HT := yz hs
      clear hs
      have HO : Hid (okV L k = (wideB s2 s3 s4 && !amongB L (s2, s3, s4) k)) := yz (by unfold okV wideD; rw [yy HT])
      go_wp2_with fail
      refine (l04Wide_any s2 s3 s4 _).mono ?_
      rintro e W2 ⟨rfl, hx⟩
      have HB2 := yz (below_call (yy HB) hx)
      clear hx c0 c1 c2 HB
      cases hwd : wideB s2 s3 s4
      · rw [hwd] at HO
        have HO' : Hid (okV L k = false) := HO
        go_wp2_with fail
        go_ret
        exact ⟨by rw [spots_no (by rw [yy HL]; exact hkn) (yy HO')]; rfl, yy HB2⟩
      rw [hwd, Bool.true_and] at HO
      have HWD := yz hwd
      clear hwd
      go_wp2_with fail
      go_loopw [4] (fun i wr => ∃ j : Nat, j ≤ k ∧ i = .int .i64 j ∧ Hid (asideTo L (s2, s3, s4) j) ∧ Hid (Below w.heap.size w wr)) (fun i _ => k - (intOf i).toNat)
      case atStart => exact ⟨0, by omega, rfl, yz (fun j hj => absurd hj (Nat.not_lt_zero _)), HB2⟩
      case round =>
        clear HB2
        obtain ⟨j, hj, rfl, HN, HB3⟩ := hrel
        by_cases hjk : j < k
        · have hjk2 : (j : Int) < (k : Int) := by omega
          have hjn2 : (j : Int) < (n : Int) := by omega
          have HWJ := yz (okV_wide (yy HF j hjk))
          obtain ⟨⟨t2, t3, t4⟩, ht⟩ : ∃ s, vA L j = s := ⟨_, rfl⟩
          have hst := ((yy HC) k hkn).kept hb (yy HB3)
          have htt := ((yy HC) j (by omega)).kept hb (yy HB3)
          rw [yy HT] at hst
          rw [ht] at htt HWJ
          obtain ⟨c0, c1, c2⟩ := hst
          obtain ⟨d0, d1, d2⟩ := htt
          have HTJ := yz ht
          clear ht
          have cS : Hid (∀ W : World, Calls Tryz.prog 64 #[.agg #[.int .i64 t2, .int .i64 t3, .int .i64 t4], .agg #[.int .i64 s2, .int .i64 s3, .int .i64 s4]] W fun e w' => e = .returned (.bool (sameD (s2, s3, s4) (t2, t3, t4))) ∧ Below W.heap.size W w') := yz (fun W => by
            rw [sameD_turned (p := (s2, s3, s4)) (q := (t2, t3, t4)) (yy HWD) (yy HWJ)]
            exact l02Same_right (t2, t3, t4) (s2, s3, s4) W (wide_iff (yy HWJ)).1 (wide_iff (yy HWD)).1)
          have HSM : Hid (sameD (s2, s3, s4) (vA L j) = sameD (s2, s3, s4) (t2, t3, t4)) := yz (by rw [yy HTJ])
          generalize sameD (s2, s3, s4) (t2, t3, t4) = sm at *
          have r0 := cell_regrown c0
          have r1 := cell_regrown c1
          have r2 := cell_regrown c2
          have q0 := cell_regrown d0
          have q1 := cell_regrown d1
          have q2 := cell_regrown d2
          clear c0 c1 c2 d0 d1 d2
          go_wp2_with fail
          refine wp_region_quiet_below (by kernel_rfl) (by kernel_rfl) ?_
          repeat (go_big_quiet_step (first | (with_reducible exact Calls.regrown_of (yy cS _))))
          refine wpQuiet_nil ?_
          intro _ hw'
          obtain ⟨⟨dq, osq⟩, hw''⟩ := hw'
          subst hw''
          have hx := below_call (yy HB3) (below_regrown wr dq osq)
          generalize grow (redrawn wr dq) osq = W4 at hx ⊢
          have HB4 := yz hx
          clear hx HB3 cS r0 r1 r2 q0 q1 q2
          cases sm
          · go_wp2_with fail
            go_roundw
            case rel => exact ⟨j + 1, by omega, by go_num, yz (aside_step (yy HN) (yy HSM)), HB4⟩
            case measure => simp [intOf]; omega
          · have HO' : Hid (okV L k = false) := yz (by rw [yy HO, among_yes hjk (yy HSM)]; rfl)
            go_wp2_with fail
            go_ret
            exact ⟨by rw [spots_no (by rw [yy HL]; exact hkn) (yy HO')]; rfl, yy HB4⟩
        · have hjk' : j = k := by omega
          subst hjk'
          have HO' : Hid (okV L j = true) := yz (by rw [yy HO, among_no (yy HN)]; rfl)
          go_wp2_with fail
          go_roundw
          case rel => exact ⟨j + 1, by omega, by go_num, yz (okV_step (yy HF) (yy HO')), HB3⟩
          case measure => simp [intOf]; omega
    · have hkn' : k = n := by omega
      have HO : Hid (spotsB L = true) := yz (spots_yes (by rw [yy HL]; omega) (by rw [yy HL, ← hkn']; exact yy HF))
      go_wp2_with fail
      go_ret
      exact ⟨by rw [yy HO]; rfl, yy HB⟩
theorem oKept {w w' : World} {B : Nat} {t : TypeId} {v : Value} {n m : Nat} {xs : List Value} (h : w.ownsRow B t m v n xs) (hB : Below w.heap.size w w') : w'.ownsRow B t m v n xs :=
  h.kept (row := none) ⟨hB.os, hB.tape, hB.output, hB.size, fun k hk _ => hB.block k hk⟩ (by cases hv : v.ownBlock <;> simp)
theorem oBelow {B : Nat} {w w1 w2 : World} {v : Value} {t : TypeId} {n m : Nat} {xs : List Value} (h : Below B w w1) (ho : w1.ownsRow B t m v n xs) (hg : w1.grownBy w2 v.ownBlock) (hB : B ≤ w1.heap.size) : Below B w w2 :=
  h.trans ⟨hg.os, hg.tape, hg.output, hg.size, fun k hk => hg.block k (by omega) (fun e => by have := (ho.lt k e.symm).1; omega)⟩
theorem new_cells (w : World) (vs : List Value) (t : TypeId) : ∀ (j : Nat) (u : Value), vs[j]? = some u → (w.alloc (.cells vs.toArray t)).cell? ((⟨w.heap.size, 0, none⟩ : Addr).add j) = some u := by
  intro j u hj
  have e : (⟨w.heap.size, 0, none⟩ : Addr).add j = ⟨w.heap.size, j, none⟩ := by cases j <;> simp [Addr.add]
  rw [e]
  simp [hj]
abbrev T4 := Int × Int × Int × Int
theorem info_turn : (Tryz.prog.info? 46).map (fun i => (i.zero, i.size, i.bytes)) = some (some (.agg #[.int .i64 0, .int .i64 0, .int .i64 0, .int .i64 0]), 4, 32) := by kernel_rfl
def turn4 (t : T4) : List Value := [.int .i64 t.1, .int .i64 t.2.1, .int .i64 t.2.2.1, .int .i64 t.2.2.2]
def flatT (S : List T4) : List Value := S.flatMap turn4
theorem flatT_app (A B : List T4) : flatT (A ++ B) = flatT A ++ flatT B := by unfold flatT; rw [List.flatMap_append]
theorem flatT_cell {S : List T4} {v : Value} (h : v ∈ flatT S) : v.oneCell' = true := by
  unfold flatT at h
  rw [List.mem_flatMap] at h
  obtain ⟨p, _, hp⟩ := h
  simp [turn4] at hp
  rcases hp with rfl | rfl | rfl | rfl <;> rfl
def tOf (n : Nat) : T4 := ((n : Int) / 125 - 2, (n : Int) / 25 % 5 - 2, (n : Int) / 5 % 5 - 2, (n : Int) % 5 - 2)
def goodT (t : T4) : Bool := rightT t.1 t.2.1 t.2.2.1 t.2.2.2
def turnsTo (k : Nat) : List T4 := ((List.range k).map tOf).filter goodT
theorem turns_len (k : Nat) : (turnsTo k).length ≤ k := by
  have h := List.length_filter_le goodT ((List.range k).map tOf)
  rw [List.length_map, List.length_range] at h
  exact h
theorem turns_snoc (k : Nat) : turnsTo (k + 1) = turnsTo k ++ (if goodT (tOf k) = true then [tOf k] else []) := by
  unfold turnsTo
  rw [List.range_succ, List.map_append, List.filter_append]
  congr 1
  cases h : goodT (tOf k)
  · rw [List.map_singleton, List.filter_cons_of_neg (by simp [h])]; rfl
  · rw [List.map_singleton, List.filter_cons_of_pos h]; rfl
theorem tOf_at (a b c d : Nat) (hb : b < 5) (hc : c < 5) (hd : d < 5) : tOf (a * 125 + b * 25 + c * 5 + d) = ((a : Int) - 2, (b : Int) - 2, (c : Int) - 2, (d : Int) - 2) := by
  unfold tOf
  have e1 : ((a * 125 + b * 25 + c * 5 + d : Nat) : Int) / 125 = a := by omega
  have e2 : ((a * 125 + b * 25 + c * 5 + d : Nat) : Int) / 25 % 5 = b := by omega
  have e3 : ((a * 125 + b * 25 + c * 5 + d : Nat) : Int) / 5 % 5 = c := by omega
  have e4 : ((a * 125 + b * 25 + c * 5 + d : Nat) : Int) % 5 = d := by omega
  rw [e1, e2, e3, e4]
theorem ownT_none (w : World) (B : Nat) (h : B ≤ w.heap.size) : (w.alloc (.cells #[] 46)).ownsRow B 46 4 (.slice (some ⟨w.heap.size, 0, none⟩) 0 0) 0 (flatT []) :=
  ⟨rfl, .inr ⟨_, 0, #[], rfl, h, Array.getElem?_push_size, Nat.le_refl _, Nat.zero_le _, rfl, rfl⟩⟩
end Go.Proofs.YtofpjlhoppofdaaGreatDoor
