/- Several texts in one: ModR, ModS, LkA. -/
import Derived.BigRegion
import Derived.Test.YteoonaanoenjiaaGreatDoorQObeyOwn18
import Derived.Test.YteoonaanoenjiaaGreatDoorQObeyOwn1
namespace Go.Proofs.YteoonaanoenjiaaGreatDoor
open Go.RowKit Go.Sort
set_option linter.unusedVariables false
def gyroOk (t : Tk) (g1 g2 g3 g4 : Int) : Bool := trackB t && rightT g1 g2 g3 g4
def gyroT (t : Tk) (g1 g2 g3 g4 : Int) : Tk := if gyroOk t g1 g2 g3 g4 = true then turnedT t g1 g2 g3 g4 else zeroK
def gyroC (t : Tk) (g1 g2 g3 g4 : Int) : Int := if gyroOk t g1 g2 g3 g4 = true then 0 else 1
theorem turned_L (t : Tk) (g1 g2 g3 g4 : Int) : (turnedT t g1 g2 g3 g4).L = t.L := by
  unfold turnedT
  split
  · rfl
  · split <;> rfl
theorem Copied.off {w : World} {B : Nat} {L : List St} {a : Option Addr} {cap : Nat} (h : Copied w B L a cap) {b : Nat} (hne : ∀ x, a = some x → x.block ≠ b) (o : Nat) (y : Value) : Copied (w.setCell ⟨b, o, none⟩ y) B L a cap := by
  obtain ⟨h1, h2⟩ := h
  refine ⟨h1, ?_⟩
  rcases h2 with h2 | ⟨g, c', cur, e, hg, hh, r⟩
  · exact .inl h2
  · injection e with e1 e2 e3
    exact .inr ⟨g, c', cur, by rw [e1, e2, e3], hg, by rw [Below.heap_setCell w ⟨b, o, none⟩ y g (fun e => hne _ e1 e)]; exact hh, r⟩
theorem res_sgyro (T : Array Value) (X : World) (b : Nat) (v : Value) (lim mode A B C D coast fr code : Int) (hT : T.getD 4 undef = .pointer (some ⟨b, 0, none⟩)) (h : TkO X b v lim mode A B C D coast fr code) : (results Tryz.f63 T).run Tryz.prog X = .ok (.agg #[v, .int .i64 lim, .int .i64 mode, .int .i64 A, .int .i64 B, .int .i64 C, .int .i64 D, .int .i64 coast, .int .i64 fr, .int .i64 code]) X := by
  obtain ⟨⟨h0, h1, h2, h3, h4, h5, h6, h7, h8⟩, h9⟩ := h
  simp only [Array.getD_eq_getD_getElem?] at hT
  simp [results, Tryz.results63, go_sem, hT, h0, h1, h2, h3, h4, h5, h6, h7, h8, h9]
theorem res_igyro (T : Array Value) (X : World) (b : Nat) (v : Value) (lim mode A B C D coast fr code : Int) (hT : T.getD 4 undef = .pointer (some ⟨b, 0, none⟩)) (h : TkO X b v lim mode A B C D coast fr code) : (results Tryz.f70 T).run Tryz.prog X = .ok (.agg #[v, .int .i64 lim, .int .i64 mode, .int .i64 A, .int .i64 B, .int .i64 C, .int .i64 D, .int .i64 coast, .int .i64 fr, .int .i64 code]) X := by
  obtain ⟨⟨h0, h1, h2, h3, h4, h5, h6, h7, h8⟩, h9⟩ := h
  simp only [Array.getD_eq_getD_getElem?] at hT
  simp [results, Tryz.results70, go_sem, hT, h0, h1, h2, h3, h4, h5, h6, h7, h8, h9]
set_option maxHeartbeats 4000000 in
set_option maxRecDepth 100000 in
theorem specGyro_any (L : List St) (lim mode A B C D coast fr g1 g2 g3 g4 : Int) (ad : Option Addr) (c : Nat) (w : World) (hn : L.length ≤ 1048576) (hS : Stars w ad L L.length) :
    Calls Tryz.prog 63 #[.agg #[.slice ad L.length c, .int .i64 lim, .int .i64 mode, .int .i64 A, .int .i64 B, .int .i64 C, .int .i64 D, .int .i64 coast, .int .i64 fr], .agg #[.int .i64 g1, .int .i64 g2, .int .i64 g3, .int .i64 g4]] w fun e w' => OutT w' w.heap.size (gyroT ⟨L, lim, mode, A, B, C, D, coast, fr⟩ g1 g2 g3 g4) (gyroC ⟨L, lim, mode, A, B, C, D, coast, fr⟩ g1 g2 g3 g4) e ∧ Below w.heap.size w w' := by
  have B0 := below3 w (.cells #[.slice ad L.length c, .int .i64 lim, .int .i64 mode, .int .i64 A, .int .i64 B, .int .i64 C, .int .i64 D, .int .i64 coast, .int .i64 fr] 37) (.cells #[.int .i64 g1, .int .i64 g2, .int .i64 g3, .int .i64 g4] 35) (.cells #[.slice none 0 0, .int .i64 0, .int .i64 0, .int .i64 0, .int .i64 0, .int .i64 0, .int .i64 0, .int .i64 0, .int .i64 0, .int .i64 0] 39)
  have Z2 := below2 (w.alloc (.cells #[.slice ad L.length c, .int .i64 lim, .int .i64 mode, .int .i64 A, .int .i64 B, .int .i64 C, .int .i64 D, .int .i64 coast, .int .i64 fr] 37)) (.cells #[.int .i64 g1, .int .i64 g2, .int .i64 g3, .int .i64 g4] 35) (.cells #[.slice none 0 0, .int .i64 0, .int .i64 0, .int .i64 0, .int .i64 0, .int .i64 0, .int .i64 0, .int .i64 0, .int .i64 0, .int .i64 0] 39)
  have T0 := (tkAt_new w (.slice ad L.length c) lim mode A B C D coast fr 37).kept Z2
  have U0 := (by simpa using turnAt_new (w.alloc (.cells #[.slice ad L.length c, .int .i64 lim, .int .i64 mode, .int .i64 A, .int .i64 B, .int .i64 C, .int .i64 D, .int .i64 coast, .int .i64 fr] 37)) g1 g2 g3 g4 35 : TurnAt ((w.alloc (.cells #[.slice ad L.length c, .int .i64 lim, .int .i64 mode, .int .i64 A, .int .i64 B, .int .i64 C, .int .i64 D, .int .i64 coast, .int .i64 fr] 37)).alloc (.cells #[.int .i64 g1, .int .i64 g2, .int .i64 g3, .int .i64 g4] 35)) (w.heap.size + 1) g1 g2 g3 g4).alloc (.cells #[.slice none 0 0, .int .i64 0, .int .i64 0, .int .i64 0, .int .i64 0, .int .i64 0, .int .i64 0, .int .i64 0, .int .i64 0, .int .i64 0] 39)
  have R0 := (by simpa using tkO_new ((w.alloc (.cells #[.slice ad L.length c, .int .i64 lim, .int .i64 mode, .int .i64 A, .int .i64 B, .int .i64 C, .int .i64 D, .int .i64 coast, .int .i64 fr] 37)).alloc (.cells #[.int .i64 g1, .int .i64 g2, .int .i64 g3, .int .i64 g4] 35)) (.slice none 0 0) 0 0 0 0 0 0 0 0 0 39 : TkO (((w.alloc (.cells #[.slice ad L.length c, .int .i64 lim, .int .i64 mode, .int .i64 A, .int .i64 B, .int .i64 C, .int .i64 D, .int .i64 coast, .int .i64 fr] 37)).alloc (.cells #[.int .i64 g1, .int .i64 g2, .int .i64 g3, .int .i64 g4] 35)).alloc (.cells #[.slice none 0 0, .int .i64 0, .int .i64 0, .int .i64 0, .int .i64 0, .int .i64 0, .int .i64 0, .int .i64 0, .int .i64 0, .int .i64 0] 39)) (w.heap.size + 1 + 1) (.slice none 0 0) 0 0 0 0 0 0 0 0 0)
  have G0 := (by simpa using freeK_new ((w.alloc (.cells #[.slice ad L.length c, .int .i64 lim, .int .i64 mode, .int .i64 A, .int .i64 B, .int .i64 C, .int .i64 D, .int .i64 coast, .int .i64 fr] 37)).alloc (.cells #[.int .i64 g1, .int .i64 g2, .int .i64 g3, .int .i64 g4] 35)) #[.slice none 0 0, .int .i64 0, .int .i64 0, .int .i64 0, .int .i64 0, .int .i64 0, .int .i64 0, .int .i64 0, .int .i64 0, .int .i64 0] 39 : FreeK (((w.alloc (.cells #[.slice ad L.length c, .int .i64 lim, .int .i64 mode, .int .i64 A, .int .i64 B, .int .i64 C, .int .i64 D, .int .i64 coast, .int .i64 fr] 37)).alloc (.cells #[.int .i64 g1, .int .i64 g2, .int .i64 g3, .int .i64 g4] 35)).alloc (.cells #[.slice none 0 0, .int .i64 0, .int .i64 0, .int .i64 0, .int .i64 0, .int .i64 0, .int .i64 0, .int .i64 0, .int .i64 0, .int .i64 0] 39)) (w.heap.size + 1 + 1))
  have hsz : w.heap.size + 3 ≤ (((w.alloc (.cells #[.slice ad L.length c, .int .i64 lim, .int .i64 mode, .int .i64 A, .int .i64 B, .int .i64 C, .int .i64 D, .int .i64 coast, .int .i64 fr] 37)).alloc (.cells #[.int .i64 g1, .int .i64 g2, .int .i64 g3, .int .i64 g4] 35)).alloc (.cells #[.slice none 0 0, .int .i64 0, .int .i64 0, .int .i64 0, .int .i64 0, .int .i64 0, .int .i64 0, .int .i64 0, .int .i64 0, .int .i64 0] 39)).heap.size := by simp
  have S0 := hS.kept B0
  have cR := yz (fun W h => specTrack_any L lim mode A B C D coast fr ad c W hn h)
  have cC := yz (fun W h => l07Copy_any L lim mode A B C D coast fr ad c W hn h)
  have HB := yz B0
  have HT := yz T0
  have HU := yz U0
  have HR := yz R0
  have HG := yz G0
  have HS := yz S0
  clear B0 T0 U0 R0 G0 S0 Z2 hS
  go_enter Tryz.func63, Tryz.ntmps63
  go_wp2_with fail
  generalize hW : ((w.alloc (.cells #[.slice ad L.length c, .int .i64 lim, .int .i64 mode, .int .i64 A, .int .i64 B, .int .i64 C, .int .i64 D, .int .i64 coast, .int .i64 fr] 37)).alloc (.cells #[.int .i64 g1, .int .i64 g2, .int .i64 g3, .int .i64 g4] 35)).alloc (.cells #[.slice none 0 0, .int .i64 0, .int .i64 0, .int .i64 0, .int .i64 0, .int .i64 0, .int .i64 0, .int .i64 0, .int .i64 0, .int .i64 0] 39) = W at *
  clear hW
  refine (yx cR _ (yx HS)).mono ?_
  rintro e w1 ⟨rfl, hx⟩
  have B1 := yz (below_call (yx HB) hx)
  have T1 := yz ((yx HT).kept hx)
  have U1 := yz ((yx HU).kept (yx HU).lt hx)
  have R1 := yz ((yx HR).kept hx)
  have G1 := yz ((yx HG).kept (yx HR).lt hx)
  have S1 := yz ((yx HS).kept hx)
  have hsz1 : w.heap.size + 3 ≤ w1.heap.size := Nat.le_trans hsz hx.size
  clear hx HB HT HU HR HG HS hsz cR
  have hill : gyroOk ⟨L, lim, mode, A, B, C, D, coast, fr⟩ g1 g2 g3 g4 = false → Hid (gyroT ⟨L, lim, mode, A, B, C, D, coast, fr⟩ g1 g2 g3 g4 = zeroK) ∧ Hid (gyroC ⟨L, lim, mode, A, B, C, D, coast, fr⟩ g1 g2 g3 g4 = 1) := fun h => ⟨yz (by unfold gyroT; rw [h]; rfl), yz (by unfold gyroC; rw [h]; rfl)⟩
  cases hk : trackB ⟨L, lim, mode, A, B, C, D, coast, fr⟩
  · obtain ⟨HO1, HO2⟩ := hill (by unfold gyroOk; rw [hk]; rfl)
    clear hill
    go_wp2_with fail
    refine (l07Ill_any 1 _).mono ?_
    rintro e w2 ⟨rfl, hx⟩
    have B2 := yz (below_call (yx B1) hx)
    have R2 := yz ((yx R1).kept hx)
    have G2 := yz ((yx G1).kept (yx R1).lt hx)
    clear hx B1 R1 G1
    obtain ⟨⟨r0, r1, r2, r3, r4, r5, r6, r7, r8⟩, r9⟩ := yx R2
    have g0 := yx G2 0
    have g1 := yx G2 1
    have g2 := yx G2 2
    have g3 := yx G2 3
    have g4 := yx G2 4
    have g5 := yx G2 5
    have g6 := yx G2 6
    have g7 := yx G2 7
    have g8 := yx G2 8
    have g9 := yx G2 9
    go_wp2_with fail
    clear r0 r1 r2 r3 r4 r5 r6 r7 r8 r9 g0 g1 g2 g3 g4 g5 g6 g7 g8 g9
    refine bodyPost_ret (v := .agg #[.slice none 0 0, .int .i64 0, .int .i64 0, .int .i64 0, .int .i64 0, .int .i64 0, .int .i64 0, .int .i64 0, .int .i64 0, .int .i64 1]) ?_ rfl ⟨?_, ?_⟩
    · refine res_sgyro _ _ (w.heap.size + 1 + 1) _ 0 0 0 0 0 0 0 0 1 rfl ?_
      exact tkO_set10 (yx R2) _ _ _ _ _ _ _ _ _ _
    · rw [yx HO1, yx HO2]
      exact outT_ill _ _ _
    · iterate 10 (refine belowSet ?_ (show w.heap.size ≤ w.heap.size + 1 + 1 by omega) _ _)
      exact yx B2
  obtain ⟨u0, u1, u2, u3⟩ := yx U1
  go_wp2_with fail
  clear u0 u1 u2 u3
  refine (specTRight_any g1 g2 g3 g4 _).mono ?_
  rintro e w2 ⟨rfl, hx⟩
  have B2 := yz (below_call (yx B1) hx)
  have T2 := yz ((yx T1).kept hx)
  have U2 := yz ((yx U1).kept (yx U1).lt hx)
  have R2 := yz ((yx R1).kept hx)
  have G2 := yz ((yx G1).kept (yx R1).lt hx)
  have S2 := yz ((yx S1).kept hx)
  have hsz2 : w.heap.size + 3 ≤ w2.heap.size := Nat.le_trans hsz1 hx.size
  clear hx B1 T1 U1 R1 G1 S1 hsz1
  cases hg : rightT g1 g2 g3 g4
  · obtain ⟨HO1, HO2⟩ := hill (by unfold gyroOk; rw [hg, Bool.and_false])
    clear hill
    go_wp2_with fail
    refine (l07Ill_any 1 _).mono ?_
    rintro e w3 ⟨rfl, hx⟩
    have B3 := yz (below_call (yx B2) hx)
    have R3 := yz ((yx R2).kept hx)
    have G3 := yz ((yx G2).kept (yx R2).lt hx)
    clear hx B2 R2 G2
    obtain ⟨⟨r0, r1, r2, r3, r4, r5, r6, r7, r8⟩, r9⟩ := yx R3
    have g0 := yx G3 0
    have g1 := yx G3 1
    have g2 := yx G3 2
    have g3 := yx G3 3
    have g4 := yx G3 4
    have g5 := yx G3 5
    have g6 := yx G3 6
    have g7 := yx G3 7
    have g8 := yx G3 8
    have g9 := yx G3 9
    go_wp2_with fail
    clear r0 r1 r2 r3 r4 r5 r6 r7 r8 r9 g0 g1 g2 g3 g4 g5 g6 g7 g8 g9
    refine bodyPost_ret (v := .agg #[.slice none 0 0, .int .i64 0, .int .i64 0, .int .i64 0, .int .i64 0, .int .i64 0, .int .i64 0, .int .i64 0, .int .i64 0, .int .i64 1]) ?_ rfl ⟨?_, ?_⟩
    · refine res_sgyro _ _ (w.heap.size + 1 + 1) _ 0 0 0 0 0 0 0 0 1 rfl ?_
      exact tkO_set10 (yx R3) _ _ _ _ _ _ _ _ _ _
    · rw [yx HO1, yx HO2]
      exact outT_ill _ _ _
    · iterate 10 (refine belowSet ?_ (show w.heap.size ≤ w.heap.size + 1 + 1 by omega) _ _)
      exact yx B3
  have hgt : mode ≠ 0 → rightT A B C D = true := fun h => track_turn hk h
  have HO1 : Hid (gyroT ⟨L, lim, mode, A, B, C, D, coast, fr⟩ g1 g2 g3 g4 = turnedT ⟨L, lim, mode, A, B, C, D, coast, fr⟩ g1 g2 g3 g4) := yz (by unfold gyroT gyroOk; rw [hk, hg]; rfl)
  have HO2 : Hid (gyroC ⟨L, lim, mode, A, B, C, D, coast, fr⟩ g1 g2 g3 g4 = 0) := yz (by unfold gyroC gyroOk; rw [hk, hg]; rfl)
  clear hill hk
  obtain ⟨s0, s1, s2, s3, s4, s5, s6, s7, s8⟩ := yx T2
  go_wp2_with fail
  clear s0 s1 s2 s3 s4 s5 s6 s7 s8
  refine (yx cC _ (yx S2)).mono ?_
  rintro e w3 ⟨a, cap, rfl, hC, hx⟩
  have Z3 := below1 w3 (.cells #[.slice a L.length cap, .int .i64 lim, .int .i64 mode, .int .i64 A, .int .i64 B, .int .i64 C, .int .i64 D, .int .i64 coast, .int .i64 fr] 37)
  have C3 := yz ((hC.low (B' := w.heap.size + 1 + 1 + 1) (by omega)).kept Z3)
  have hC9 := hC.low (B' := w.heap.size + 1 + 1 + 1) (by omega)
  have B3 := yz (below_call (below_call (yx B2) hx) Z3)
  have T3 := yz (((yx T2).kept hx).kept Z3)
  have U3 := yz (((yx U2).kept (yx U2).lt hx).kept ((yx U2).kept (yx U2).lt hx).lt Z3)
  have R3 := yz (((yx R2).kept hx).kept Z3)
  have G3 := yz (((yx G2).kept (yx R2).lt hx).kept ((yx R2).kept hx).lt Z3)
  have Q3 := yz (tkAt_new w3 (.slice a L.length cap) lim mode A B C D coast fr 37)
  have F3 := yz (freeK_new w3 #[.slice a L.length cap, .int .i64 lim, .int .i64 mode, .int .i64 A, .int .i64 B, .int .i64 C, .int .i64 D, .int .i64 coast, .int .i64 fr] 37)
  have hq : w.heap.size + 3 ≤ w3.heap.size := Nat.le_trans hsz2 hx.size
  have hqr : ∀ x, a = some x → x.block < w3.heap.size := fun x e => by
    rcases hC.2 with ⟨h1, _⟩ | ⟨g, c', cur, e', hb, hh, r⟩
    · injection h1 with h1; rw [h1] at e; cases e
    · injection e' with e1; rw [e1] at e; cases e; exact (Array.getElem?_eq_some_iff.1 hh).1
  clear hx hC Z3 B2 T2 U2 R2 G2 S2 hsz2 cC hC9
  by_cases hm : mode = 0
  · have HO3 : Hid (turnedT ⟨L, lim, mode, A, B, C, D, coast, fr⟩ g1 g2 g3 g4 = ⟨L, lim, mode, A, B, C, D, coast, fr⟩) := yz (by unfold turnedT; rw [if_pos hm])
    obtain ⟨s0, s1, s2, s3, s4, s5, s6, s7, s8⟩ := yx T3
    obtain ⟨q0, q1, q2, q3, q4, q5, q6, q7, q8⟩ := yx Q3
    obtain ⟨⟨r0, r1, r2, r3, r4, r5, r6, r7, r8⟩, r9⟩ := yx R3
    have f0 := yx G3 0
    have f1 := yx G3 1
    have f2 := yx G3 2
    have f3 := yx G3 3
    have f4 := yx G3 4
    have f5 := yx G3 5
    have f6 := yx G3 6
    have f7 := yx G3 7
    have f8 := yx G3 8
    have f9 := yx G3 9
    subst hm
    go_wp2_with fail
    clear s0 s1 s2 s3 s4 s5 s6 s7 s8 q0 q1 q2 q3 q4 q5 q6 q7 q8 r0 r1 r2 r3 r4 r5 r6 r7 r8 r9 f0 f1 f2 f3 f4 f5 f6 f7 f8 f9
    refine bodyPost_ret (v := .agg #[.slice a L.length cap, .int .i64 lim, .int .i64 0, .int .i64 A, .int .i64 B, .int .i64 C, .int .i64 D, .int .i64 coast, .int .i64 fr, .int .i64 0]) ?_ rfl ⟨?_, ?_⟩
    · refine res_sgyro _ _ (w.heap.size + 1 + 1) _ lim 0 A B C D coast fr 0 rfl ?_
      exact tkO_set10 (yx R3) _ _ _ _ _ _ _ _ _ _
    · rw [yx HO1, yx HO2, yx HO3]
      refine ⟨a, cap, rfl, ?_⟩
      refine Copied.low (B := w.heap.size + 1 + 1 + 1) ?_ (by omega)
      iterate 10 (refine Copied.far ?_ (Nat.lt_succ_self (w.heap.size + 1 + 1)) _ _)
      exact yx C3
    · iterate 10 (refine belowSet ?_ (show w.heap.size ≤ w.heap.size + 1 + 1 by omega) _ _)
      exact yx B3
  have cX := yz (fun W => l03Compose_v g1 g2 g3 g4 A B C D W hg (hgt hm))
  have hO3 : coK g1 g2 g3 g4 A B C D = 0 → Hid (turnedT ⟨L, lim, mode, A, B, C, D, coast, fr⟩ g1 g2 g3 g4 = ⟨L, lim, mode, coV1 g1 g2 g3 g4 A B C D, coV2 g1 g2 g3 g4 A B C D, coV3 g1 g2 g3 g4 A B C D, coV4 g1 g2 g3 g4 A B C D, coast, fr⟩) := fun h => yz (by unfold turnedT; rw [if_neg hm, if_pos h])
  have hO4 : coK g1 g2 g3 g4 A B C D ≠ 0 → Hid (turnedT ⟨L, lim, mode, A, B, C, D, coast, fr⟩ g1 g2 g3 g4 = ⟨L, lim, 0, 0, 0, 0, 0, 0, fr⟩) := fun h => yz (by unfold turnedT; rw [if_neg hm, if_neg h]; rfl)
  generalize coV1 g1 g2 g3 g4 A B C D = P1 at *
  generalize coV2 g1 g2 g3 g4 A B C D = P2 at *
  generalize coV3 g1 g2 g3 g4 A B C D = P3 at *
  generalize coV4 g1 g2 g3 g4 A B C D = P4 at *
  generalize coK g1 g2 g3 g4 A B C D = Pk at *
  obtain ⟨s0, s1, s2, s3, s4, s5, s6, s7, s8⟩ := yx T3
  obtain ⟨u0, u1, u2, u3⟩ := yx U3
  go_wp2_with fail
  clear s0 s1 s2 s3 s4 s5 s6 s7 s8 u0 u1 u2 u3
  generalize hV3 : w3.alloc (.cells #[.slice a L.length cap, .int .i64 lim, .int .i64 mode, .int .i64 A, .int .i64 B, .int .i64 C, .int .i64 D, .int .i64 coast, .int .i64 fr] 37) = V3 at *
  generalize hqb : w3.heap.size = qb at *
  clear hV3 hqb
  refine (yx cX _).mono ?_
  rintro e w4 ⟨rfl, hx⟩
  have Z4 := below1 w4 (.cells #[.int .i64 P1, .int .i64 P2, .int .i64 P3, .int .i64 P4, .int .i64 Pk] 156)
  have B4 := yz (below_call (below_call (yx B3) hx) Z4)
  have Q4 := yz (((yx Q3).kept hx).kept Z4)
  have F4 := yz (((yx F3).kept (yx Q3).lt hx).kept ((yx Q3).kept hx).lt Z4)
  have R4 := yz (((yx R3).kept hx).kept Z4)
  have G4 := yz (((yx G3).kept (yx R3).lt hx).kept ((yx R3).kept hx).lt Z4)
  have C4 := yz (((yx C3).kept hx).kept Z4)
  have O4 := outAt_new w4 P1 P2 P3 P4 Pk 156
  clear hx Z4 B3 T3 U3 Q3 F3 R3 G3 C3 cX
  obtain ⟨o0, o1, o2, o3, o4⟩ := O4
  by_cases hk : Pk = 0
  · have HO3 := hO3 hk
    clear hO3 hO4
    subst hk
    obtain ⟨q0, q1, q2, q3, q4, q5, q6, q7, q8⟩ := yx Q4
    obtain ⟨⟨r0, r1, r2, r3, r4, r5, r6, r7, r8⟩, r9⟩ := yx R4
    have e3 := yx F4 3
    have e4 := yx F4 4
    have e5 := yx F4 5
    have e6 := yx F4 6
    have f0 := yx G4 0
    have f1 := yx G4 1
    have f2 := yx G4 2
    have f3 := yx G4 3
    have f4 := yx G4 4
    have f5 := yx G4 5
    have f6 := yx G4 6
    have f7 := yx G4 7
    have f8 := yx G4 8
    have f9 := yx G4 9
    have hne1 : w.heap.size + 1 + 1 ≠ qb := by omega
    have hne2 : qb ≠ w.heap.size + 1 + 1 := by omega
    go_wp2_with fail
    clear q0 q1 q2 q3 q4 q5 q6 q7 q8 r0 r1 r2 r3 r4 r5 r6 r7 r8 r9 e3 e4 e5 e6 f0 f1 f2 f3 f4 f5 f6 f7 f8 f9 o0 o1 o2 o3 o4
    refine bodyPost_ret (v := .agg #[.slice a L.length cap, .int .i64 lim, .int .i64 mode, .int .i64 P1, .int .i64 P2, .int .i64 P3, .int .i64 P4, .int .i64 coast, .int .i64 fr, .int .i64 0]) ?_ rfl ⟨?_, ?_⟩
    · refine res_sgyro _ _ (w.heap.size + 1 + 1) _ lim mode P1 P2 P3 P4 coast fr 0 rfl ?_
      refine tkO_set10 (lim0 := 0) (mode0 := 0) (A0 := 0) (B0 := 0) (C0 := 0) (D0 := 0) (coast0 := 0) (fr0 := 0) (code0 := 0) (u := .slice none 0 0) ?_ _ lim mode P1 P2 P3 P4 coast fr 0
      iterate 4 (refine TkO.far ?_ hne1 _ _)
      exact yx R4
    · rw [yx HO1, yx HO2, yx HO3]
      refine ⟨a, cap, rfl, ?_⟩
      refine Copied.low (B := w.heap.size + 1 + 1 + 1) ?_ (by omega)
      iterate 10 (refine Copied.far ?_ (Nat.lt_succ_self (w.heap.size + 1 + 1)) _ _)
      iterate 4 (refine Copied.off ?_ (fun x e => Nat.ne_of_lt (hqr x e)) _ _)
      exact yx C4
    · iterate 10 (refine belowSet ?_ (show w.heap.size ≤ w.heap.size + 1 + 1 by omega) _ _)
      iterate 4 (refine belowSet ?_ (show w.heap.size ≤ qb by omega) _ _)
      exact yx B4
  · have HO3 := hO4 hk
    clear hO3 hO4
    obtain ⟨q0, q1, q2, q3, q4, q5, q6, q7, q8⟩ := yx Q4
    go_wp2_with fail
    clear q0 q1 q2 q3 q4 q5 q6 q7 q8 o0 o1 o2 o3 o4
    refine (l07Lost_any lim mode A B C D coast fr a L.length cap _).mono ?_
    rintro e w5 ⟨rfl, hx⟩
    have B5 := yz (below_call (yx B4) hx)
    have R5 := yz ((yx R4).kept hx)
    have G5 := yz ((yx G4).kept (yx R4).lt hx)
    have C5 := yz ((yx C4).kept hx)
    clear hx B4 R4 G4 C4
    obtain ⟨⟨r0, r1, r2, r3, r4, r5, r6, r7, r8⟩, r9⟩ := yx R5
    have g0 := yx G5 0
    have g1 := yx G5 1
    have g2 := yx G5 2
    have g3 := yx G5 3
    have g4 := yx G5 4
    have g5 := yx G5 5
    have g6 := yx G5 6
    have g7 := yx G5 7
    have g8 := yx G5 8
    have g9 := yx G5 9
    go_wp2_with fail
    clear r0 r1 r2 r3 r4 r5 r6 r7 r8 r9 g0 g1 g2 g3 g4 g5 g6 g7 g8 g9
    refine bodyPost_ret (v := .agg #[.slice a L.length cap, .int .i64 lim, .int .i64 0, .int .i64 0, .int .i64 0, .int .i64 0, .int .i64 0, .int .i64 0, .int .i64 fr, .int .i64 0]) ?_ rfl ⟨?_, ?_⟩
    · refine res_sgyro _ _ (w.heap.size + 1 + 1) _ lim 0 0 0 0 0 0 fr 0 rfl ?_
      exact tkO_set10 (yx R5) _ _ _ _ _ _ _ _ _ _
    · rw [yx HO1, yx HO2, yx HO3]
      refine ⟨a, cap, rfl, ?_⟩
      refine Copied.low (B := w.heap.size + 1 + 1 + 1) ?_ (by omega)
      iterate 10 (refine Copied.far ?_ (Nat.lt_succ_self (w.heap.size + 1 + 1)) _ _)
      exact yx C5
    · iterate 10 (refine belowSet ?_ (show w.heap.size ≤ w.heap.size + 1 + 1 by omega) _ _)
      exact yx B5
end Go.Proofs.YteoonaanoenjiaaGreatDoor
namespace Go.Proofs.YteoonaanoenjiaaGreatDoor
open Go.RowKit Go.Sort
set_option linter.unusedVariables false
set_option linter.unusedSimpArgs false
theorem TurnAt.far {w : World} {b : Nat} {p q r s : Int} (h : TurnAt w b p q r s) {b' : Nat} (hne : b ≠ b') (o : Nat) (x : Value) : TurnAt (w.setCell ⟨b', o, none⟩ x) b p q r s := by
  obtain ⟨h0, h1, h2, h3⟩ := h
  refine ⟨?_, ?_, ?_, ?_⟩ <;> (rw [World.cell?_setCell_far _ _ _ _ (Ne.symm hne)]; assumption)
set_option maxHeartbeats 4000000 in
set_option maxRecDepth 100000 in
theorem implGyro_any (L : List St) (lim mode A B C D coast fr g1 g2 g3 g4 : Int) (ad : Option Addr) (c : Nat) (p : Addr) (w : World) (hn : L.length ≤ 1048576) (hcap : L.length ≤ c) (hc9 : c ≤ 9223372036854775807) (hE : ErrSky p w) (hS : Stars w ad L L.length) :
    Calls Tryz.prog 70 #[.agg #[.slice ad L.length c, .int .i64 lim, .int .i64 mode, .int .i64 A, .int .i64 B, .int .i64 C, .int .i64 D, .int .i64 coast, .int .i64 fr], .agg #[.int .i64 g1, .int .i64 g2, .int .i64 g3, .int .i64 g4]] w fun e w' => OutT w' w.heap.size (gyroT ⟨L, lim, mode, A, B, C, D, coast, fr⟩ g1 g2 g3 g4) (gyroC ⟨L, lim, mode, A, B, C, D, coast, fr⟩ g1 g2 g3 g4) e ∧ Below w.heap.size w w' := by
  have B0 := below3 w (.cells #[.slice ad L.length c, .int .i64 lim, .int .i64 mode, .int .i64 A, .int .i64 B, .int .i64 C, .int .i64 D, .int .i64 coast, .int .i64 fr] 37) (.cells #[.int .i64 g1, .int .i64 g2, .int .i64 g3, .int .i64 g4] 35) (.cells #[.slice none 0 0, .int .i64 0, .int .i64 0, .int .i64 0, .int .i64 0, .int .i64 0, .int .i64 0, .int .i64 0, .int .i64 0, .int .i64 0] 39)
  have Z2 := below2 (w.alloc (.cells #[.slice ad L.length c, .int .i64 lim, .int .i64 mode, .int .i64 A, .int .i64 B, .int .i64 C, .int .i64 D, .int .i64 coast, .int .i64 fr] 37)) (.cells #[.int .i64 g1, .int .i64 g2, .int .i64 g3, .int .i64 g4] 35) (.cells #[.slice none 0 0, .int .i64 0, .int .i64 0, .int .i64 0, .int .i64 0, .int .i64 0, .int .i64 0, .int .i64 0, .int .i64 0, .int .i64 0] 39)
  have T0 := (tkAt_new w (.slice ad L.length c) lim mode A B C D coast fr 37).kept Z2
  have U0 := (by simpa using turnAt_new (w.alloc (.cells #[.slice ad L.length c, .int .i64 lim, .int .i64 mode, .int .i64 A, .int .i64 B, .int .i64 C, .int .i64 D, .int .i64 coast, .int .i64 fr] 37)) g1 g2 g3 g4 35 : TurnAt ((w.alloc (.cells #[.slice ad L.length c, .int .i64 lim, .int .i64 mode, .int .i64 A, .int .i64 B, .int .i64 C, .int .i64 D, .int .i64 coast, .int .i64 fr] 37)).alloc (.cells #[.int .i64 g1, .int .i64 g2, .int .i64 g3, .int .i64 g4] 35)) (w.heap.size + 1) g1 g2 g3 g4).alloc (.cells #[.slice none 0 0, .int .i64 0, .int .i64 0, .int .i64 0, .int .i64 0, .int .i64 0, .int .i64 0, .int .i64 0, .int .i64 0, .int .i64 0] 39)
  have R0 := (by simpa using tkO_new ((w.alloc (.cells #[.slice ad L.length c, .int .i64 lim, .int .i64 mode, .int .i64 A, .int .i64 B, .int .i64 C, .int .i64 D, .int .i64 coast, .int .i64 fr] 37)).alloc (.cells #[.int .i64 g1, .int .i64 g2, .int .i64 g3, .int .i64 g4] 35)) (.slice none 0 0) 0 0 0 0 0 0 0 0 0 39 : TkO (((w.alloc (.cells #[.slice ad L.length c, .int .i64 lim, .int .i64 mode, .int .i64 A, .int .i64 B, .int .i64 C, .int .i64 D, .int .i64 coast, .int .i64 fr] 37)).alloc (.cells #[.int .i64 g1, .int .i64 g2, .int .i64 g3, .int .i64 g4] 35)).alloc (.cells #[.slice none 0 0, .int .i64 0, .int .i64 0, .int .i64 0, .int .i64 0, .int .i64 0, .int .i64 0, .int .i64 0, .int .i64 0, .int .i64 0] 39)) (w.heap.size + 1 + 1) (.slice none 0 0) 0 0 0 0 0 0 0 0 0)
  have G0 := (by simpa using freeK_new ((w.alloc (.cells #[.slice ad L.length c, .int .i64 lim, .int .i64 mode, .int .i64 A, .int .i64 B, .int .i64 C, .int .i64 D, .int .i64 coast, .int .i64 fr] 37)).alloc (.cells #[.int .i64 g1, .int .i64 g2, .int .i64 g3, .int .i64 g4] 35)) #[.slice none 0 0, .int .i64 0, .int .i64 0, .int .i64 0, .int .i64 0, .int .i64 0, .int .i64 0, .int .i64 0, .int .i64 0, .int .i64 0] 39 : FreeK (((w.alloc (.cells #[.slice ad L.length c, .int .i64 lim, .int .i64 mode, .int .i64 A, .int .i64 B, .int .i64 C, .int .i64 D, .int .i64 coast, .int .i64 fr] 37)).alloc (.cells #[.int .i64 g1, .int .i64 g2, .int .i64 g3, .int .i64 g4] 35)).alloc (.cells #[.slice none 0 0, .int .i64 0, .int .i64 0, .int .i64 0, .int .i64 0, .int .i64 0, .int .i64 0, .int .i64 0, .int .i64 0, .int .i64 0] 39)) (w.heap.size + 1 + 1))
  have hsz : w.heap.size + 3 ≤ (((w.alloc (.cells #[.slice ad L.length c, .int .i64 lim, .int .i64 mode, .int .i64 A, .int .i64 B, .int .i64 C, .int .i64 D, .int .i64 coast, .int .i64 fr] 37)).alloc (.cells #[.int .i64 g1, .int .i64 g2, .int .i64 g3, .int .i64 g4] 35)).alloc (.cells #[.slice none 0 0, .int .i64 0, .int .i64 0, .int .i64 0, .int .i64 0, .int .i64 0, .int .i64 0, .int .i64 0, .int .i64 0, .int .i64 0] 39)).heap.size := by simp
  have S0 := hS.kept B0
  have cR := yz (implTrack_any L lim mode A B C D coast fr ad c p _ hn hcap hc9 S0 (hE.kept B0))
  have cC := yz (fun W h => workOf_any L lim mode A B C D coast fr ad c W hn h)
  have HB := yz B0
  have HT := yz T0
  have HU := yz U0
  have HR := yz R0
  have HG := yz G0
  have HS := yz S0
  clear B0 T0 U0 R0 G0 S0 Z2 hS
  go_enter Tryz.func70, Tryz.ntmps70
  go_wp2_with fail
  generalize hW : ((w.alloc (.cells #[.slice ad L.length c, .int .i64 lim, .int .i64 mode, .int .i64 A, .int .i64 B, .int .i64 C, .int .i64 D, .int .i64 coast, .int .i64 fr] 37)).alloc (.cells #[.int .i64 g1, .int .i64 g2, .int .i64 g3, .int .i64 g4] 35)).alloc (.cells #[.slice none 0 0, .int .i64 0, .int .i64 0, .int .i64 0, .int .i64 0, .int .i64 0, .int .i64 0, .int .i64 0, .int .i64 0, .int .i64 0] 39) = W at *
  clear hW
  refine (yx cR).mono ?_
  rintro e w1 ⟨rfl, hx⟩
  have B1 := yz (below_call (yx HB) hx)
  have T1 := yz ((yx HT).kept hx)
  have U1 := yz ((yx HU).kept (yx HU).lt hx)
  have R1 := yz ((yx HR).kept hx)
  have G1 := yz ((yx HG).kept (yx HR).lt hx)
  have S1 := yz ((yx HS).kept hx)
  have hsz1 : w.heap.size + 3 ≤ w1.heap.size := Nat.le_trans hsz hx.size
  clear hx HB HT HU HR HG HS hsz cR
  have hill : gyroOk ⟨L, lim, mode, A, B, C, D, coast, fr⟩ g1 g2 g3 g4 = false → Hid (gyroT ⟨L, lim, mode, A, B, C, D, coast, fr⟩ g1 g2 g3 g4 = zeroK) ∧ Hid (gyroC ⟨L, lim, mode, A, B, C, D, coast, fr⟩ g1 g2 g3 g4 = 1) := fun h => ⟨yz (by unfold gyroT; rw [h]; rfl), yz (by unfold gyroC; rw [h]; rfl)⟩
  cases hk : trackB ⟨L, lim, mode, A, B, C, D, coast, fr⟩
  · obtain ⟨HO1, HO2⟩ := hill (by unfold gyroOk; rw [hk]; rfl)
    clear hill
    have B2 := B1
    have R2 := R1
    have G2 := G1
    clear B1 R1 G1
    obtain ⟨⟨r0, r1, r2, r3, r4, r5, r6, r7, r8⟩, r9⟩ := yx R2
    have g0 := yx G2 0
    have g1 := yx G2 1
    have g2 := yx G2 2
    have g3 := yx G2 3
    have g4 := yx G2 4
    have g5 := yx G2 5
    have g6 := yx G2 6
    have g7 := yx G2 7
    have g8 := yx G2 8
    have g9 := yx G2 9
    go_wp2_with fail
    clear r0 r1 r2 r3 r4 r5 r6 r7 r8 r9 g0 g1 g2 g3 g4 g5 g6 g7 g8 g9
    refine bodyPost_ret (v := .agg #[.slice none 0 0, .int .i64 0, .int .i64 0, .int .i64 0, .int .i64 0, .int .i64 0, .int .i64 0, .int .i64 0, .int .i64 0, .int .i64 1]) ?_ rfl ⟨?_, ?_⟩
    · refine res_igyro _ _ (w.heap.size + 1 + 1) _ 0 0 0 0 0 0 0 0 1 rfl ?_
      exact tkO_set10 (yx R2) _ _ _ _ _ _ _ _ _ _
    · rw [yx HO1, yx HO2]
      exact outT_ill _ _ _
    · iterate 10 (refine belowSet ?_ (show w.heap.size ≤ w.heap.size + 1 + 1 by omega) _ _)
      exact yx B2
  obtain ⟨u0, u1, u2, u3⟩ := yx U1
  go_wp2_with fail
  clear u0 u1 u2 u3
  refine (turnRight_any g1 g2 g3 g4 _).mono ?_
  rintro e w2 ⟨rfl, hx⟩
  have B2 := yz (below_call (yx B1) hx)
  have T2 := yz ((yx T1).kept hx)
  have U2 := yz ((yx U1).kept (yx U1).lt hx)
  have R2 := yz ((yx R1).kept hx)
  have G2 := yz ((yx G1).kept (yx R1).lt hx)
  have S2 := yz ((yx S1).kept hx)
  have hsz2 : w.heap.size + 3 ≤ w2.heap.size := Nat.le_trans hsz1 hx.size
  clear hx B1 T1 U1 R1 G1 S1 hsz1
  cases hg : rightT g1 g2 g3 g4
  · obtain ⟨HO1, HO2⟩ := hill (by unfold gyroOk; rw [hg, Bool.and_false])
    clear hill
    have B3 := B2
    have R3 := R2
    have G3 := G2
    clear B2 R2 G2
    obtain ⟨⟨r0, r1, r2, r3, r4, r5, r6, r7, r8⟩, r9⟩ := yx R3
    have g0 := yx G3 0
    have g1 := yx G3 1
    have g2 := yx G3 2
    have g3 := yx G3 3
    have g4 := yx G3 4
    have g5 := yx G3 5
    have g6 := yx G3 6
    have g7 := yx G3 7
    have g8 := yx G3 8
    have g9 := yx G3 9
    go_wp2_with fail
    clear r0 r1 r2 r3 r4 r5 r6 r7 r8 r9 g0 g1 g2 g3 g4 g5 g6 g7 g8 g9
    refine bodyPost_ret (v := .agg #[.slice none 0 0, .int .i64 0, .int .i64 0, .int .i64 0, .int .i64 0, .int .i64 0, .int .i64 0, .int .i64 0, .int .i64 0, .int .i64 1]) ?_ rfl ⟨?_, ?_⟩
    · refine res_igyro _ _ (w.heap.size + 1 + 1) _ 0 0 0 0 0 0 0 0 1 rfl ?_
      exact tkO_set10 (yx R3) _ _ _ _ _ _ _ _ _ _
    · rw [yx HO1, yx HO2]
      exact outT_ill _ _ _
    · iterate 10 (refine belowSet ?_ (show w.heap.size ≤ w.heap.size + 1 + 1 by omega) _ _)
      exact yx B3
  have HO1 : Hid (gyroT ⟨L, lim, mode, A, B, C, D, coast, fr⟩ g1 g2 g3 g4 = turnedT ⟨L, lim, mode, A, B, C, D, coast, fr⟩ g1 g2 g3 g4) := yz (by unfold gyroT gyroOk; rw [hk, hg]; rfl)
  have HO2 : Hid (gyroC ⟨L, lim, mode, A, B, C, D, coast, fr⟩ g1 g2 g3 g4 = 0) := yz (by unfold gyroC gyroOk; rw [hk, hg]; rfl)
  have HL : Hid ((turnedT ⟨L, lim, mode, A, B, C, D, coast, fr⟩ g1 g2 g3 g4).L = L) := yz (turned_L _ _ _ _ _)
  have cB := yz (fun (W : World) (a : Option Addr) (cap : Nat) => turnedBy_any L lim mode A B C D coast fr g1 g2 g3 g4 a L.length cap W)
  generalize hT2 : turnedT ⟨L, lim, mode, A, B, C, D, coast, fr⟩ g1 g2 g3 g4 = t2 at *
  obtain ⟨L2, lim2, mode2, A2, B2', C2, D2, coast2, fr2⟩ := t2
  unfold tkV at cB
  dsimp only at cB HL
  clear hT2 hill hk
  have CT : Hid (TkAt w2 w.heap.size (.slice ad L.length c) lim mode A B C D coast fr ∧ TurnAt w2 (w.heap.size + 1) g1 g2 g3 g4) := yz ⟨yx T2, yx U2⟩
  go_wp2_with fail
  refine wp_region_held_drew (S := (fun w' => (w'.cell? ⟨w.heap.size, 0, none⟩ = some (.slice ad L.length c) ∧ w'.cell? ⟨w.heap.size, 1, none⟩ = some (.int .i64 lim) ∧ w'.cell? ⟨w.heap.size, 2, none⟩ = some (.int .i64 mode) ∧ w'.cell? ⟨w.heap.size, 3, none⟩ = some (.int .i64 A) ∧ w'.cell? ⟨w.heap.size, 4, none⟩ = some (.int .i64 B) ∧ w'.cell? ⟨w.heap.size, 5, none⟩ = some (.int .i64 C) ∧ w'.cell? ⟨w.heap.size, 6, none⟩ = some (.int .i64 D) ∧ w'.cell? ⟨w.heap.size, 7, none⟩ = some (.int .i64 coast) ∧ w'.cell? ⟨w.heap.size, 8, none⟩ = some (.int .i64 fr)) ∧ w'.cell? ⟨w.heap.size + 1, 0, none⟩ = some (.int .i64 g1) ∧ w'.cell? ⟨w.heap.size + 1, 1, none⟩ = some (.int .i64 g2) ∧ w'.cell? ⟨w.heap.size + 1, 2, none⟩ = some (.int .i64 g3) ∧ w'.cell? ⟨w.heap.size + 1, 3, none⟩ = some (.int .i64 g4))) (by kernel_rfl) ?_ (fun hHeld => ?_)
  · exact yx CT
  refine wpAnyH_take (i := 0) (v := ?_) rfl (by kernel_rfl) (by kernel_rfl) (by kernel_rfl) (fun _ _ _ h => h) (Or.inl ⟨by rfl, ?_⟩) (by assumption) ?_
  rotate_left
  · intro W0 hSw; (try dsimp only at hSw); go_simp <;> with_reducible rfl
  try simp only [Act.put, List.setIfInBounds_toArray, List.set_cons_zero, List.set_cons_succ]
  refine wpAnyH_take (i := 2) (v := ?_) rfl (by kernel_rfl) (by kernel_rfl) (by kernel_rfl) (fun _ _ _ h => h) (Or.inl ⟨by rfl, ?_⟩) (by assumption) ?_
  rotate_left
  · intro W0 hSw; (try dsimp only at hSw); go_simp <;> with_reducible rfl
  try simp only [Act.put, List.setIfInBounds_toArray, List.set_cons_zero, List.set_cons_succ]
  have S2d : Stars w2.drew ad L L.length := (yx S2).kept (Below.refl _ _).drew
  have B2d : Below w.heap.size w w2.drew := (yx B2).drew
  have R2d : TkO w2.drew (w.heap.size + 1 + 1) (.slice none 0 0) 0 0 0 0 0 0 0 0 0 := yx R2
  have G2d : FreeK w2.drew (w.heap.size + 1 + 1) := yx G2
  have CTd : TkAt w2.drew w.heap.size (.slice ad L.length c) lim mode A B C D coast fr ∧ TurnAt w2.drew (w.heap.size + 1) g1 g2 g3 g4 := yx CT
  have hszd : w.heap.size + 3 ≤ w2.drew.heap.size := hsz2
  refine wpAnyH_ready (rs := [1]) (by kernel_rfl) (by simp) ?_
  refine AllReadyH.cons rfl (fun K hK => ?_) AllReadyH.nil
  go_simp
  refine (yx cC _ S2d).mono ?_
  rintro e w3 ⟨a, cap, rfl, hC, hx⟩
  have C3 := yz (hC.low (B' := w.heap.size + 1 + 1 + 1) (by omega))
  have B3 := yz (below_call B2d hx)
  have R3 := yz (R2d.kept hx)
  have G3 := yz (G2d.kept R2d.lt hx)
  have CT3 := yz (show TkAt w3 w.heap.size (.slice ad L.length c) lim mode A B C D coast fr ∧ TurnAt w3 (w.heap.size + 1) g1 g2 g3 g4 from ⟨CTd.1.kept hx, CTd.2.kept CTd.2.lt hx⟩)
  clear hx hC S2d B2d R2d G2d CTd hszd CT T2 U2 B2 R2 G2 S2 hsz2
  refine hK.out _ _ ?_ (fun hHeld1 => ?_)
  · exact yx CT3
  clear hK K hHeld
  refine wpAnyH_ready (rs := [3]) (by kernel_rfl) (by simp) ?_
  refine AllReadyH.cons rfl (fun K hK => ?_) AllReadyH.nil
  go_simp
  refine (yx cB _ a cap).mono ?_
  rintro e w4 ⟨rfl, hx⟩
  have C4 := yz ((yx C3).kept hx)
  have B4 := yz (below_call (yx B3) hx)
  have R4 := yz ((yx R3).kept hx)
  have G4 := yz ((yx G3).kept (yx R3).lt hx)
  have CT4 := yz (show TkAt w4 w.heap.size (.slice ad L.length c) lim mode A B C D coast fr ∧ TurnAt w4 (w.heap.size + 1) g1 g2 g3 g4 from ⟨(yx CT3).1.kept hx, (yx CT3).2.kept (yx CT3).2.lt hx⟩)
  clear hx C3 B3 R3 G3 CT3
  refine hK.out _ _ ?_ (fun hHeld2 => ?_)
  · exact yx CT4
  clear hK K hHeld1
  refine wpAnyH_ready (rs := [4]) (by kernel_rfl) (by simp) ?_
  refine AllReadyH.cons rfl (fun K hK => ?_) AllReadyH.nil
  go_simp
  refine (told_any lim2 mode2 A2 B2' C2 D2 coast2 fr2 a L.length cap _).mono ?_
  rintro e w5 ⟨rfl, hx⟩
  have C5 := yz ((yx C4).kept hx)
  have B5 := yz (below_call (yx B4) hx)
  have R5 := yz ((yx R4).kept hx)
  have G5 := yz ((yx G4).kept (yx R4).lt hx)
  have CT5 := yz (show TkAt w5 w.heap.size (.slice ad L.length c) lim mode A B C D coast fr ∧ TurnAt w5 (w.heap.size + 1) g1 g2 g3 g4 from ⟨(yx CT4).1.kept hx, (yx CT4).2.kept (yx CT4).2.lt hx⟩)
  clear hx C4 B4 R4 G4 CT4
  refine hK.out _ _ ?_ (fun hHeld3 => ?_)
  · exact yx CT5
  clear hK K hHeld2
  obtain ⟨⟨r0, r1, r2, r3, r4, r5, r6, r7, r8⟩, r9⟩ := yx R5
  have f0 := yx G5 0
  have f1 := yx G5 1
  have f2 := yx G5 2
  have f3 := yx G5 3
  have f4 := yx G5 4
  have f5 := yx G5 5
  have f6 := yx G5 6
  have f7 := yx G5 7
  have f8 := yx G5 8
  have f9 := yx G5 9
  refine wpAnyH_ready (rs := [5]) (by kernel_rfl) (by simp) ?_
  refine AllReadyH.cons rfl (fun K hK => ?_) AllReadyH.nil
  go_simp
  clear r0 r1 r2 r3 r4 r5 r6 r7 r8 r9 f0 f1 f2 f3 f4 f5 f6 f7 f8 f9
  refine hK.out _ _ ?_ (fun hHeld4 => ?_)
  · show TkAt _ w.heap.size (.slice ad L.length c) lim mode A B C D coast fr ∧ TurnAt _ (w.heap.size + 1) g1 g2 g3 g4
    refine ⟨?_, ?_⟩
    · iterate 10 (refine TkAt.far ?_ (show w.heap.size ≠ w.heap.size + 1 + 1 by omega) _ _)
      exact (yx CT5).1
    · iterate 10 (refine TurnAt.far ?_ (show w.heap.size + 1 ≠ w.heap.size + 1 + 1 by omega) _ _)
      exact (yx CT5).2
  clear hK K hHeld3
  refine wpAnyH_done (by kernel_rfl) ?_ _
  clear hHeld4
  go_wp2_with fail
  have hL2 : L2 = L := yx HL
  refine bodyPost_ret (v := .agg #[.slice a L.length cap, .int .i64 lim2, .int .i64 mode2, .int .i64 A2, .int .i64 B2', .int .i64 C2, .int .i64 D2, .int .i64 coast2, .int .i64 fr2, .int .i64 0]) ?_ rfl ⟨?_, ?_⟩
  · refine res_igyro _ _ (w.heap.size + 1 + 1) _ lim2 mode2 A2 B2' C2 D2 coast2 fr2 0 rfl ?_
    exact tkO_set10 (yx R5) _ _ _ _ _ _ _ _ _ _
  · rw [yx HO1, yx HO2]
    subst hL2
    refine ⟨a, cap, rfl, ?_⟩
    refine Copied.low (B := w.heap.size + 1 + 1 + 1) ?_ (by omega)
    iterate 10 (refine Copied.far ?_ (Nat.lt_succ_self (w.heap.size + 1 + 1)) _ _)
    exact yx C5
  · iterate 10 (refine belowSet ?_ (show w.heap.size ≤ w.heap.size + 1 + 1 by omega) _ _)
    exact yx B5
def trackT (t : Tk) (p q r s : Int) : Tk := { t with mode := 1, A := p, B := q, C := r, D := s, coast := 0 }
def unseenT (t : Tk) : Tk := if t.mode = 0 then t else if t.lim < t.coast + 1 then lostT t else { t with mode := 2, coast := t.coast + 1 }
theorem res_unseeing (T : Array Value) (X : World) (b : Nat) (v : Value) (lim mode A B C D coast fr : Int) (hT : T.getD 2 undef = .pointer (some ⟨b, 0, none⟩)) (h : TkAt X b v lim mode A B C D coast fr) : (results Tryz.f152 T).run Tryz.prog X = .ok (.agg #[v, .int .i64 lim, .int .i64 mode, .int .i64 A, .int .i64 B, .int .i64 C, .int .i64 D, .int .i64 coast, .int .i64 fr]) X := by
  obtain ⟨h0, h1, h2, h3, h4, h5, h6, h7, h8⟩ := h
  simp only [Array.getD_eq_getD_getElem?] at hT
  simp [results, Tryz.results152, go_sem, hT, h0, h1, h2, h3, h4, h5, h6, h7, h8]
set_option maxHeartbeats 4000000 in
set_option maxRecDepth 100000 in
theorem tracking_any (lim mode A B C D coast fr p q r s : Int) (a : Option Addr) (n c : Nat) (w : World) :
    Calls Tryz.prog 150 #[.agg #[.slice a n c, .int .i64 lim, .int .i64 mode, .int .i64 A, .int .i64 B, .int .i64 C, .int .i64 D, .int .i64 coast, .int .i64 fr], .agg #[.int .i64 p, .int .i64 q, .int .i64 r, .int .i64 s]] w fun e w' => e = .returned (.agg #[.slice a n c, .int .i64 lim, .int .i64 1, .int .i64 p, .int .i64 q, .int .i64 r, .int .i64 s, .int .i64 0, .int .i64 fr]) ∧ Below w.heap.size w w' := by
  go_enter Tryz.func150, Tryz.ntmps150
  go_wp2_with fail
  go_region
  go_wp2
  exact bodyPost_ret (v := .agg #[.slice a n c, .int .i64 lim, .int .i64 1, .int .i64 p, .int .i64 q, .int .i64 r, .int .i64 s, .int .i64 0, .int .i64 fr]) (by simp [results, Tryz.results150, go_sem]) rfl ⟨rfl, (below3 _ _ _ _).drew⟩
set_option maxHeartbeats 2000000 in
set_option maxRecDepth 100000 in
theorem l07Track_any (lim mode A B C D coast fr p q r s : Int) (a : Option Addr) (n c : Nat) (w : World) :
    Calls Tryz.prog 142 #[.agg #[.slice a n c, .int .i64 lim, .int .i64 mode, .int .i64 A, .int .i64 B, .int .i64 C, .int .i64 D, .int .i64 coast, .int .i64 fr], .agg #[.int .i64 p, .int .i64 q, .int .i64 r, .int .i64 s]] w fun e w' => e = .returned (.agg #[.slice a n c, .int .i64 lim, .int .i64 1, .int .i64 p, .int .i64 q, .int .i64 r, .int .i64 s, .int .i64 0, .int .i64 fr, .int .i64 0]) ∧ Below w.heap.size w w' := by
  go_enter Tryz.func142, Tryz.ntmps142
  go_wp2
  exact bodyPost_ret (v := .agg #[.slice a n c, .int .i64 lim, .int .i64 1, .int .i64 p, .int .i64 q, .int .i64 r, .int .i64 s, .int .i64 0, .int .i64 fr, .int .i64 0]) (by simp [results, Tryz.results142, go_sem]) rfl ⟨rfl, below3 _ _ _ _⟩
set_option maxHeartbeats 4000000 in
set_option maxRecDepth 100000 in
theorem unseeing_any (L : List St) (lim mode A B C D coast fr : Int) (a : Option Addr) (n c : Nat) (w : World) (hm : mode = 0 ∨ mode = 1 ∨ mode = 2) (hc0 : 0 ≤ coast) (hc5 : coast ≤ 1000) :
    Calls Tryz.prog 152 #[.agg #[.slice a n c, .int .i64 lim, .int .i64 mode, .int .i64 A, .int .i64 B, .int .i64 C, .int .i64 D, .int .i64 coast, .int .i64 fr]] w fun e w' => e = .returned (tkV a n c (unseenT ⟨L, lim, mode, A, B, C, D, coast, fr⟩)) ∧ Below w.heap.size w w' := by
  have hw : wrap64 (coast + 1) = coast + 1 := wrap_id (by omega) (by omega)
  rcases hm with rfl | rfl | rfl
  · have HO : Hid (tkV a n c (unseenT ⟨L, lim, 0, A, B, C, D, coast, fr⟩) = .agg #[.slice a n c, .int .i64 lim, .int .i64 0, .int .i64 A, .int .i64 B, .int .i64 C, .int .i64 D, .int .i64 coast, .int .i64 fr]) := yz (by unfold unseenT tkV; rw [if_pos rfl])
    go_enter Tryz.func152, Tryz.ntmps152
    go_wp2
    rw [yx HO]
    exact bodyPost_ret (v := .agg #[.slice a n c, .int .i64 lim, .int .i64 0, .int .i64 A, .int .i64 B, .int .i64 C, .int .i64 D, .int .i64 coast, .int .i64 fr]) (by simp [results, Tryz.results152, go_sem]) rfl ⟨rfl, below2 _ _ _⟩
  · by_cases hl : lim < coast + 1
    · have HO : Hid (tkV a n c (unseenT ⟨L, lim, 1, A, B, C, D, coast, fr⟩) = .agg #[.slice a n c, .int .i64 lim, .int .i64 0, .int .i64 0, .int .i64 0, .int .i64 0, .int .i64 0, .int .i64 0, .int .i64 fr]) := yz (by unfold unseenT tkV; rw [if_neg (by show ¬ (1 : Int) = 0; omega), if_pos hl]; rfl)
      have B0 := yz (below2 w (.cells #[.slice a n c, .int .i64 lim, .int .i64 2, .int .i64 A, .int .i64 B, .int .i64 C, .int .i64 D, .int .i64 (coast + 1), .int .i64 fr] 92) (.cells #[.slice none 0 0, .int .i64 0, .int .i64 0, .int .i64 0, .int .i64 0, .int .i64 0, .int .i64 0, .int .i64 0, .int .i64 0] 92))
      have R0 := yz (by simpa using blk_new (w.alloc (.cells #[.slice a n c, .int .i64 lim, .int .i64 2, .int .i64 A, .int .i64 B, .int .i64 C, .int .i64 D, .int .i64 (coast + 1), .int .i64 fr] 92)) [.slice none 0 0, .int .i64 0, .int .i64 0, .int .i64 0, .int .i64 0, .int .i64 0, .int .i64 0, .int .i64 0, .int .i64 0] 92 : Blk ((w.alloc (.cells #[.slice a n c, .int .i64 lim, .int .i64 2, .int .i64 A, .int .i64 B, .int .i64 C, .int .i64 D, .int .i64 (coast + 1), .int .i64 fr] 92)).alloc (.cells #[.slice none 0 0, .int .i64 0, .int .i64 0, .int .i64 0, .int .i64 0, .int .i64 0, .int .i64 0, .int .i64 0, .int .i64 0] 92)) (w.heap.size + 1) [.slice none 0 0, .int .i64 0, .int .i64 0, .int .i64 0, .int .i64 0, .int .i64 0, .int .i64 0, .int .i64 0, .int .i64 0] 92)
      go_enter Tryz.func152, Tryz.ntmps152
      go_wp2_with fail
      refine (wlost_any lim 2 A B C D (coast + 1) fr a n c _).mono ?_
      rintro e w1 ⟨rfl, hx⟩
      have B1 := yz (below_call (yx B0) hx)
      have R1 := yz ((yx R0).kept hx)
      clear hx B0 R0
      obtain ⟨r0, r1, r2, r3, r4, r5, r6, r7, r8⟩ := bcs9 (yx R1)
      obtain ⟨g0, g1, g2, g3, g4, g5, g6, g7, g8⟩ := bfs9 (yx R1)
      go_wp2_with fail
      rw [yx HO]
      refine bodyPost_ret (v := .agg #[.slice a n c, .int .i64 lim, .int .i64 0, .int .i64 0, .int .i64 0, .int .i64 0, .int .i64 0, .int .i64 0, .int .i64 fr]) ?_ rfl ⟨rfl, ?_⟩
      · exact res_unseeing _ _ (w.heap.size + 1) _ lim 0 0 0 0 0 0 fr rfl (tkAt_set9 (u := .slice none 0 0) ⟨r0, r1, r2, r3, r4, r5, r6, r7, r8⟩ _ lim 0 0 0 0 0 0 fr)
      · iterate 9 (refine belowSet ?_ (show w.heap.size ≤ w.heap.size + 1 by omega) _ _)
        exact yx B1
    · have HO : Hid (tkV a n c (unseenT ⟨L, lim, 1, A, B, C, D, coast, fr⟩) = .agg #[.slice a n c, .int .i64 lim, .int .i64 2, .int .i64 A, .int .i64 B, .int .i64 C, .int .i64 D, .int .i64 (coast + 1), .int .i64 fr]) := yz (by unfold unseenT tkV; rw [if_neg (by show ¬ (1 : Int) = 0; omega), if_neg hl])
      go_enter Tryz.func152, Tryz.ntmps152
      go_wp2
      rw [yx HO]
      exact bodyPost_ret (v := .agg #[.slice a n c, .int .i64 lim, .int .i64 2, .int .i64 A, .int .i64 B, .int .i64 C, .int .i64 D, .int .i64 (coast + 1), .int .i64 fr]) (by simp [results, Tryz.results152, go_sem]) rfl ⟨rfl, below2 _ _ _⟩
  · by_cases hl : lim < coast + 1
    · have HO : Hid (tkV a n c (unseenT ⟨L, lim, 2, A, B, C, D, coast, fr⟩) = .agg #[.slice a n c, .int .i64 lim, .int .i64 0, .int .i64 0, .int .i64 0, .int .i64 0, .int .i64 0, .int .i64 0, .int .i64 fr]) := yz (by unfold unseenT tkV; rw [if_neg (by show ¬ (2 : Int) = 0; omega), if_pos hl]; rfl)
      have B0 := yz (below2 w (.cells #[.slice a n c, .int .i64 lim, .int .i64 2, .int .i64 A, .int .i64 B, .int .i64 C, .int .i64 D, .int .i64 (coast + 1), .int .i64 fr] 92) (.cells #[.slice none 0 0, .int .i64 0, .int .i64 0, .int .i64 0, .int .i64 0, .int .i64 0, .int .i64 0, .int .i64 0, .int .i64 0] 92))
      have R0 := yz (by simpa using blk_new (w.alloc (.cells #[.slice a n c, .int .i64 lim, .int .i64 2, .int .i64 A, .int .i64 B, .int .i64 C, .int .i64 D, .int .i64 (coast + 1), .int .i64 fr] 92)) [.slice none 0 0, .int .i64 0, .int .i64 0, .int .i64 0, .int .i64 0, .int .i64 0, .int .i64 0, .int .i64 0, .int .i64 0] 92 : Blk ((w.alloc (.cells #[.slice a n c, .int .i64 lim, .int .i64 2, .int .i64 A, .int .i64 B, .int .i64 C, .int .i64 D, .int .i64 (coast + 1), .int .i64 fr] 92)).alloc (.cells #[.slice none 0 0, .int .i64 0, .int .i64 0, .int .i64 0, .int .i64 0, .int .i64 0, .int .i64 0, .int .i64 0, .int .i64 0] 92)) (w.heap.size + 1) [.slice none 0 0, .int .i64 0, .int .i64 0, .int .i64 0, .int .i64 0, .int .i64 0, .int .i64 0, .int .i64 0, .int .i64 0] 92)
      go_enter Tryz.func152, Tryz.ntmps152
      go_wp2_with fail
      refine (wlost_any lim 2 A B C D (coast + 1) fr a n c _).mono ?_
      rintro e w1 ⟨rfl, hx⟩
      have B1 := yz (below_call (yx B0) hx)
      have R1 := yz ((yx R0).kept hx)
      clear hx B0 R0
      obtain ⟨r0, r1, r2, r3, r4, r5, r6, r7, r8⟩ := bcs9 (yx R1)
      obtain ⟨g0, g1, g2, g3, g4, g5, g6, g7, g8⟩ := bfs9 (yx R1)
      go_wp2_with fail
      rw [yx HO]
      refine bodyPost_ret (v := .agg #[.slice a n c, .int .i64 lim, .int .i64 0, .int .i64 0, .int .i64 0, .int .i64 0, .int .i64 0, .int .i64 0, .int .i64 fr]) ?_ rfl ⟨rfl, ?_⟩
      · exact res_unseeing _ _ (w.heap.size + 1) _ lim 0 0 0 0 0 0 fr rfl (tkAt_set9 (u := .slice none 0 0) ⟨r0, r1, r2, r3, r4, r5, r6, r7, r8⟩ _ lim 0 0 0 0 0 0 fr)
      · iterate 9 (refine belowSet ?_ (show w.heap.size ≤ w.heap.size + 1 by omega) _ _)
        exact yx B1
    · have HO : Hid (tkV a n c (unseenT ⟨L, lim, 2, A, B, C, D, coast, fr⟩) = .agg #[.slice a n c, .int .i64 lim, .int .i64 2, .int .i64 A, .int .i64 B, .int .i64 C, .int .i64 D, .int .i64 (coast + 1), .int .i64 fr]) := yz (by unfold unseenT tkV; rw [if_neg (by show ¬ (2 : Int) = 0; omega), if_neg hl])
      go_enter Tryz.func152, Tryz.ntmps152
      go_wp2
      rw [yx HO]
      exact bodyPost_ret (v := .agg #[.slice a n c, .int .i64 lim, .int .i64 2, .int .i64 A, .int .i64 B, .int .i64 C, .int .i64 D, .int .i64 (coast + 1), .int .i64 fr]) (by simp [results, Tryz.results152, go_sem]) rfl ⟨rfl, below2 _ _ _⟩
end Go.Proofs.YteoonaanoenjiaaGreatDoor
