/- Gyro: the specification's and the program's. -/
import Derived.Test.YtdclojpgbekmeaaDoorModQ
import Derived.Test.YtdclojpgbekmeaaDoorModF
namespace Go.Proofs.YtdclojpgbekmeaaDoor
open Go.RowKit Go.Sort
set_option linter.unusedVariables false

def gyroOk (t : Tk) (g1 g2 g3 g4 : Int) : Bool := trackB t && rightT g1 g2 g3 g4
def gyroT (t : Tk) (g1 g2 g3 g4 : Int) : Tk := if gyroOk t g1 g2 g3 g4 = true then turnedT t g1 g2 g3 g4 else zeroK
def gyroC (t : Tk) (g1 g2 g3 g4 : Int) : Int := if gyroOk t g1 g2 g3 g4 = true then 0 else 1
theorem turned_L (t : Tk) (g1 g2 g3 g4 : Int) : (turnedT t g1 g2 g3 g4).L = t.L := by
  unfold turnedT
  split
  · rfl
  · split <;> rfl
theorem Copied.off {w : World} {B : Nat} {L : List St} {a : Option Addr} {cap : Nat} (h : Copied w B L a cap) {b : Nat} (hne : ∀ x, a = some x → x.block ≠ b) (o : Nat) (y : Value) : Copied (w.setCell ⟨b, o, none⟩ y) B L a cap := by
  obtain ⟨h1, h2⟩ := h
  refine ⟨h1, ?_⟩
  rcases h2 with h2 | ⟨g, c', cur, e, hg, hh, r⟩
  · exact .inl h2
  · injection e with e1 e2 e3
    exact .inr ⟨g, c', cur, by rw [e1, e2, e3], hg, by rw [Below.heap_setCell w ⟨b, o, none⟩ y g (fun e => hne _ e1 e)]; exact hh, r⟩
theorem res_sgyro (T : Array Value) (X : World) (b : Nat) (v : Value) (lim mode A B C D coast fr code : Int) (hT : T.getD 4 undef = .pointer (some ⟨b, 0, none⟩)) (h : TkO X b v lim mode A B C D coast fr code) : (results Tryd.f21 T).run Tryd.prog X = .ok (.agg #[v, .int .i64 lim, .int .i64 mode, .int .i64 A, .int .i64 B, .int .i64 C, .int .i64 D, .int .i64 coast, .int .i64 fr, .int .i64 code]) X := by
  obtain ⟨⟨h0, h1, h2, h3, h4, h5, h6, h7, h8⟩, h9⟩ := h
  simp only [Array.getD_eq_getD_getElem?] at hT
  simp [results, Tryd.results21, go_sem, hT, h0, h1, h2, h3, h4, h5, h6, h7, h8, h9]
theorem res_igyro (T : Array Value) (X : World) (b : Nat) (v : Value) (lim mode A B C D coast fr code : Int) (hT : T.getD 4 undef = .pointer (some ⟨b, 0, none⟩)) (h : TkO X b v lim mode A B C D coast fr code) : (results Tryd.f23 T).run Tryd.prog X = .ok (.agg #[v, .int .i64 lim, .int .i64 mode, .int .i64 A, .int .i64 B, .int .i64 C, .int .i64 D, .int .i64 coast, .int .i64 fr, .int .i64 code]) X := by
  obtain ⟨⟨h0, h1, h2, h3, h4, h5, h6, h7, h8⟩, h9⟩ := h
  simp only [Array.getD_eq_getD_getElem?] at hT
  simp [results, Tryd.results23, go_sem, hT, h0, h1, h2, h3, h4, h5, h6, h7, h8, h9]

set_option maxHeartbeats 4000000 in
set_option maxRecDepth 100000 in
theorem specGyro_any (L : List St) (lim mode A B C D coast fr g1 g2 g3 g4 : Int) (b o c : Nat) (w : World) (hn : L.length ≤ 1048576) (hS : Stars w (some ⟨b, o, none⟩) L L.length) :
    Calls Tryd.prog 21 #[.agg #[.slice (some ⟨b, o, none⟩) L.length c, .int .i64 lim, .int .i64 mode, .int .i64 A, .int .i64 B, .int .i64 C, .int .i64 D, .int .i64 coast, .int .i64 fr], .agg #[.int .i64 g1, .int .i64 g2, .int .i64 g3, .int .i64 g4]] w fun e w' => OutT w' w.heap.size (gyroT ⟨L, lim, mode, A, B, C, D, coast, fr⟩ g1 g2 g3 g4) (gyroC ⟨L, lim, mode, A, B, C, D, coast, fr⟩ g1 g2 g3 g4) e ∧ Below w.heap.size w w' := by
  have B0 := below3 w (.cells #[.slice (some ⟨b, o, none⟩) L.length c, .int .i64 lim, .int .i64 mode, .int .i64 A, .int .i64 B, .int .i64 C, .int .i64 D, .int .i64 coast, .int .i64 fr] 32) (.cells #[.int .i64 g1, .int .i64 g2, .int .i64 g3, .int .i64 g4] 30) (.cells #[.slice none 0 0, .int .i64 0, .int .i64 0, .int .i64 0, .int .i64 0, .int .i64 0, .int .i64 0, .int .i64 0, .int .i64 0, .int .i64 0] 38)
  have Z2 := below2 (w.alloc (.cells #[.slice (some ⟨b, o, none⟩) L.length c, .int .i64 lim, .int .i64 mode, .int .i64 A, .int .i64 B, .int .i64 C, .int .i64 D, .int .i64 coast, .int .i64 fr] 32)) (.cells #[.int .i64 g1, .int .i64 g2, .int .i64 g3, .int .i64 g4] 30) (.cells #[.slice none 0 0, .int .i64 0, .int .i64 0, .int .i64 0, .int .i64 0, .int .i64 0, .int .i64 0, .int .i64 0, .int .i64 0, .int .i64 0] 38)
  have T0 := (tkAt_new w (.slice (some ⟨b, o, none⟩) L.length c) lim mode A B C D coast fr 32).kept Z2
  have U0 := (by simpa using turnAt_new (w.alloc (.cells #[.slice (some ⟨b, o, none⟩) L.length c, .int .i64 lim, .int .i64 mode, .int .i64 A, .int .i64 B, .int .i64 C, .int .i64 D, .int .i64 coast, .int .i64 fr] 32)) g1 g2 g3 g4 30 : TurnAt ((w.alloc (.cells #[.slice (some ⟨b, o, none⟩) L.length c, .int .i64 lim, .int .i64 mode, .int .i64 A, .int .i64 B, .int .i64 C, .int .i64 D, .int .i64 coast, .int .i64 fr] 32)).alloc (.cells #[.int .i64 g1, .int .i64 g2, .int .i64 g3, .int .i64 g4] 30)) (w.heap.size + 1) g1 g2 g3 g4).alloc (.cells #[.slice none 0 0, .int .i64 0, .int .i64 0, .int .i64 0, .int .i64 0, .int .i64 0, .int .i64 0, .int .i64 0, .int .i64 0, .int .i64 0] 38)
  have R0 := (by simpa using tkO_new ((w.alloc (.cells #[.slice (some ⟨b, o, none⟩) L.length c, .int .i64 lim, .int .i64 mode, .int .i64 A, .int .i64 B, .int .i64 C, .int .i64 D, .int .i64 coast, .int .i64 fr] 32)).alloc (.cells #[.int .i64 g1, .int .i64 g2, .int .i64 g3, .int .i64 g4] 30)) (.slice none 0 0) 0 0 0 0 0 0 0 0 0 38 : TkO (((w.alloc (.cells #[.slice (some ⟨b, o, none⟩) L.length c, .int .i64 lim, .int .i64 mode, .int .i64 A, .int .i64 B, .int .i64 C, .int .i64 D, .int .i64 coast, .int .i64 fr] 32)).alloc (.cells #[.int .i64 g1, .int .i64 g2, .int .i64 g3, .int .i64 g4] 30)).alloc (.cells #[.slice none 0 0, .int .i64 0, .int .i64 0, .int .i64 0, .int .i64 0, .int .i64 0, .int .i64 0, .int .i64 0, .int .i64 0, .int .i64 0] 38)) (w.heap.size + 1 + 1) (.slice none 0 0) 0 0 0 0 0 0 0 0 0)
  have G0 := (by simpa using freeK_new ((w.alloc (.cells #[.slice (some ⟨b, o, none⟩) L.length c, .int .i64 lim, .int .i64 mode, .int .i64 A, .int .i64 B, .int .i64 C, .int .i64 D, .int .i64 coast, .int .i64 fr] 32)).alloc (.cells #[.int .i64 g1, .int .i64 g2, .int .i64 g3, .int .i64 g4] 30)) #[.slice none 0 0, .int .i64 0, .int .i64 0, .int .i64 0, .int .i64 0, .int .i64 0, .int .i64 0, .int .i64 0, .int .i64 0, .int .i64 0] 38 : FreeK (((w.alloc (.cells #[.slice (some ⟨b, o, none⟩) L.length c, .int .i64 lim, .int .i64 mode, .int .i64 A, .int .i64 B, .int .i64 C, .int .i64 D, .int .i64 coast, .int .i64 fr] 32)).alloc (.cells #[.int .i64 g1, .int .i64 g2, .int .i64 g3, .int .i64 g4] 30)).alloc (.cells #[.slice none 0 0, .int .i64 0, .int .i64 0, .int .i64 0, .int .i64 0, .int .i64 0, .int .i64 0, .int .i64 0, .int .i64 0, .int .i64 0] 38)) (w.heap.size + 1 + 1))
  have hsz : w.heap.size + 3 ≤ (((w.alloc (.cells #[.slice (some ⟨b, o, none⟩) L.length c, .int .i64 lim, .int .i64 mode, .int .i64 A, .int .i64 B, .int .i64 C, .int .i64 D, .int .i64 coast, .int .i64 fr] 32)).alloc (.cells #[.int .i64 g1, .int .i64 g2, .int .i64 g3, .int .i64 g4] 30)).alloc (.cells #[.slice none 0 0, .int .i64 0, .int .i64 0, .int .i64 0, .int .i64 0, .int .i64 0, .int .i64 0, .int .i64 0, .int .i64 0, .int .i64 0] 38)).heap.size := by simp
  have S0 := hS.kept B0
  have cR := hide (fun W h => specTrack_any L lim mode A B C D coast fr (some ⟨b, o, none⟩) c W hn h)
  have cC := hide (fun W h => l07Copy_any L lim mode A B C D coast fr b o c W hn h)
  have HB := hide B0
  have HT := hide T0
  have HU := hide U0
  have HR := hide R0
  have HG := hide G0
  have HS := hide S0
  clear B0 T0 U0 R0 G0 S0 Z2 hS
  go_enter Tryd.func21, Tryd.ntmps21
  go_wp2_with fail
  generalize hW : ((w.alloc (.cells #[.slice (some ⟨b, o, none⟩) L.length c, .int .i64 lim, .int .i64 mode, .int .i64 A, .int .i64 B, .int .i64 C, .int .i64 D, .int .i64 coast, .int .i64 fr] 32)).alloc (.cells #[.int .i64 g1, .int .i64 g2, .int .i64 g3, .int .i64 g4] 30)).alloc (.cells #[.slice none 0 0, .int .i64 0, .int .i64 0, .int .i64 0, .int .i64 0, .int .i64 0, .int .i64 0, .int .i64 0, .int .i64 0, .int .i64 0] 38) = W at *
  clear hW
  refine (unhide cR _ (unhide HS)).mono ?_
  rintro e w1 ⟨rfl, hx⟩
  have B1 := hide (below_call (unhide HB) hx)
  have T1 := hide ((unhide HT).kept hx)
  have U1 := hide ((unhide HU).kept (unhide HU).lt hx)
  have R1 := hide ((unhide HR).kept hx)
  have G1 := hide ((unhide HG).kept (unhide HR).lt hx)
  have S1 := hide ((unhide HS).kept hx)
  have hsz1 : w.heap.size + 3 ≤ w1.heap.size := Nat.le_trans hsz hx.size
  clear hx HB HT HU HR HG HS hsz cR
  have hill : gyroOk ⟨L, lim, mode, A, B, C, D, coast, fr⟩ g1 g2 g3 g4 = false → Hid (gyroT ⟨L, lim, mode, A, B, C, D, coast, fr⟩ g1 g2 g3 g4 = zeroK) ∧ Hid (gyroC ⟨L, lim, mode, A, B, C, D, coast, fr⟩ g1 g2 g3 g4 = 1) := fun h => ⟨hide (by unfold gyroT; rw [h]; rfl), hide (by unfold gyroC; rw [h]; rfl)⟩
  cases hk : trackB ⟨L, lim, mode, A, B, C, D, coast, fr⟩
  · obtain ⟨HO1, HO2⟩ := hill (by unfold gyroOk; rw [hk]; rfl)
    clear hill
    go_wp2_with fail
    refine (l07Ill_any 1 _).mono ?_
    rintro e w2 ⟨rfl, hx⟩
    have B2 := hide (below_call (unhide B1) hx)
    have R2 := hide ((unhide R1).kept hx)
    have G2 := hide ((unhide G1).kept (unhide R1).lt hx)
    clear hx B1 R1 G1
    obtain ⟨⟨r0, r1, r2, r3, r4, r5, r6, r7, r8⟩, r9⟩ := unhide R2
    have g0 := unhide G2 0
    have g1 := unhide G2 1
    have g2 := unhide G2 2
    have g3 := unhide G2 3
    have g4 := unhide G2 4
    have g5 := unhide G2 5
    have g6 := unhide G2 6
    have g7 := unhide G2 7
    have g8 := unhide G2 8
    have g9 := unhide G2 9
    go_wp2_with fail
    clear r0 r1 r2 r3 r4 r5 r6 r7 r8 r9 g0 g1 g2 g3 g4 g5 g6 g7 g8 g9
    refine bodyPost_ret (v := .agg #[.slice none 0 0, .int .i64 0, .int .i64 0, .int .i64 0, .int .i64 0, .int .i64 0, .int .i64 0, .int .i64 0, .int .i64 0, .int .i64 1]) ?_ rfl ⟨?_, ?_⟩
    · refine res_sgyro _ _ (w.heap.size + 1 + 1) _ 0 0 0 0 0 0 0 0 1 rfl ?_
      exact tkO_set10 (unhide R2) _ _ _ _ _ _ _ _ _ _
    · rw [unhide HO1, unhide HO2]
      exact outT_ill _ _ _
    · iterate 10 (refine belowSet ?_ (show w.heap.size ≤ w.heap.size + 1 + 1 by omega) _ _)
      exact unhide B2
  obtain ⟨u0, u1, u2, u3⟩ := unhide U1
  go_wp2_with fail
  clear u0 u1 u2 u3
  refine (specTRight_any g1 g2 g3 g4 _).mono ?_
  rintro e w2 ⟨rfl, hx⟩
  have B2 := hide (below_call (unhide B1) hx)
  have T2 := hide ((unhide T1).kept hx)
  have U2 := hide ((unhide U1).kept (unhide U1).lt hx)
  have R2 := hide ((unhide R1).kept hx)
  have G2 := hide ((unhide G1).kept (unhide R1).lt hx)
  have S2 := hide ((unhide S1).kept hx)
  have hsz2 : w.heap.size + 3 ≤ w2.heap.size := Nat.le_trans hsz1 hx.size
  clear hx B1 T1 U1 R1 G1 S1 hsz1
  cases hg : rightT g1 g2 g3 g4
  · obtain ⟨HO1, HO2⟩ := hill (by unfold gyroOk; rw [hg, Bool.and_false])
    clear hill
    go_wp2_with fail
    refine (l07Ill_any 1 _).mono ?_
    rintro e w3 ⟨rfl, hx⟩
    have B3 := hide (below_call (unhide B2) hx)
    have R3 := hide ((unhide R2).kept hx)
    have G3 := hide ((unhide G2).kept (unhide R2).lt hx)
    clear hx B2 R2 G2
    obtain ⟨⟨r0, r1, r2, r3, r4, r5, r6, r7, r8⟩, r9⟩ := unhide R3
    have g0 := unhide G3 0
    have g1 := unhide G3 1
    have g2 := unhide G3 2
    have g3 := unhide G3 3
    have g4 := unhide G3 4
    have g5 := unhide G3 5
    have g6 := unhide G3 6
    have g7 := unhide G3 7
    have g8 := unhide G3 8
    have g9 := unhide G3 9
    go_wp2_with fail
    clear r0 r1 r2 r3 r4 r5 r6 r7 r8 r9 g0 g1 g2 g3 g4 g5 g6 g7 g8 g9
    refine bodyPost_ret (v := .agg #[.slice none 0 0, .int .i64 0, .int .i64 0, .int .i64 0, .int .i64 0, .int .i64 0, .int .i64 0, .int .i64 0, .int .i64 0, .int .i64 1]) ?_ rfl ⟨?_, ?_⟩
    · refine res_sgyro _ _ (w.heap.size + 1 + 1) _ 0 0 0 0 0 0 0 0 1 rfl ?_
      exact tkO_set10 (unhide R3) _ _ _ _ _ _ _ _ _ _
    · rw [unhide HO1, unhide HO2]
      exact outT_ill _ _ _
    · iterate 10 (refine belowSet ?_ (show w.heap.size ≤ w.heap.size + 1 + 1 by omega) _ _)
      exact unhide B3
  have hgt : mode ≠ 0 → rightT A B C D = true := fun h => track_turn hk h
  have HO1 : Hid (gyroT ⟨L, lim, mode, A, B, C, D, coast, fr⟩ g1 g2 g3 g4 = turnedT ⟨L, lim, mode, A, B, C, D, coast, fr⟩ g1 g2 g3 g4) := hide (by unfold gyroT gyroOk; rw [hk, hg]; rfl)
  have HO2 : Hid (gyroC ⟨L, lim, mode, A, B, C, D, coast, fr⟩ g1 g2 g3 g4 = 0) := hide (by unfold gyroC gyroOk; rw [hk, hg]; rfl)
  clear hill hk
  obtain ⟨s0, s1, s2, s3, s4, s5, s6, s7, s8⟩ := unhide T2
  go_wp2_with fail
  clear s0 s1 s2 s3 s4 s5 s6 s7 s8
  refine (unhide cC _ (unhide S2)).mono ?_
  rintro e w3 ⟨a, cap, rfl, hC, hx⟩
  have Z3 := below1 w3 (.cells #[.slice a L.length cap, .int .i64 lim, .int .i64 mode, .int .i64 A, .int .i64 B, .int .i64 C, .int .i64 D, .int .i64 coast, .int .i64 fr] 32)
  have C3 := hide ((hC.low (B' := w.heap.size + 1 + 1 + 1) (by omega)).kept Z3)
  have hC9 := hC.low (B' := w.heap.size + 1 + 1 + 1) (by omega)
  have B3 := hide (below_call (below_call (unhide B2) hx) Z3)
  have T3 := hide (((unhide T2).kept hx).kept Z3)
  have U3 := hide (((unhide U2).kept (unhide U2).lt hx).kept ((unhide U2).kept (unhide U2).lt hx).lt Z3)
  have R3 := hide (((unhide R2).kept hx).kept Z3)
  have G3 := hide (((unhide G2).kept (unhide R2).lt hx).kept ((unhide R2).kept hx).lt Z3)
  have Q3 := hide (tkAt_new w3 (.slice a L.length cap) lim mode A B C D coast fr 32)
  have F3 := hide (freeK_new w3 #[.slice a L.length cap, .int .i64 lim, .int .i64 mode, .int .i64 A, .int .i64 B, .int .i64 C, .int .i64 D, .int .i64 coast, .int .i64 fr] 32)
  have hq : w.heap.size + 3 ≤ w3.heap.size := Nat.le_trans hsz2 hx.size
  have hqr : ∀ x, a = some x → x.block < w3.heap.size := fun x e => by
    rcases hC.2 with ⟨h1, _⟩ | ⟨g, c', cur, e', hb, hh, r⟩
    · injection h1 with h1; rw [h1] at e; cases e
    · injection e' with e1; rw [e1] at e; cases e; exact (Array.getElem?_eq_some_iff.1 hh).1
  clear hx hC Z3 B2 T2 U2 R2 G2 S2 hsz2 cC hC9
  by_cases hm : mode = 0
  · have HO3 : Hid (turnedT ⟨L, lim, mode, A, B, C, D, coast, fr⟩ g1 g2 g3 g4 = ⟨L, lim, mode, A, B, C, D, coast, fr⟩) := hide (by unfold turnedT; rw [if_pos hm])
    obtain ⟨s0, s1, s2, s3, s4, s5, s6, s7, s8⟩ := unhide T3
    obtain ⟨q0, q1, q2, q3, q4, q5, q6, q7, q8⟩ := unhide Q3
    obtain ⟨⟨r0, r1, r2, r3, r4, r5, r6, r7, r8⟩, r9⟩ := unhide R3
    have f0 := unhide G3 0
    have f1 := unhide G3 1
    have f2 := unhide G3 2
    have f3 := unhide G3 3
    have f4 := unhide G3 4
    have f5 := unhide G3 5
    have f6 := unhide G3 6
    have f7 := unhide G3 7
    have f8 := unhide G3 8
    have f9 := unhide G3 9
    subst hm
    go_wp2_with fail
    clear s0 s1 s2 s3 s4 s5 s6 s7 s8 q0 q1 q2 q3 q4 q5 q6 q7 q8 r0 r1 r2 r3 r4 r5 r6 r7 r8 r9 f0 f1 f2 f3 f4 f5 f6 f7 f8 f9
    refine bodyPost_ret (v := .agg #[.slice a L.length cap, .int .i64 lim, .int .i64 0, .int .i64 A, .int .i64 B, .int .i64 C, .int .i64 D, .int .i64 coast, .int .i64 fr, .int .i64 0]) ?_ rfl ⟨?_, ?_⟩
    · refine res_sgyro _ _ (w.heap.size + 1 + 1) _ lim 0 A B C D coast fr 0 rfl ?_
      exact tkO_set10 (unhide R3) _ _ _ _ _ _ _ _ _ _
    · rw [unhide HO1, unhide HO2, unhide HO3]
      refine ⟨a, cap, rfl, ?_⟩
      refine Copied.low (B := w.heap.size + 1 + 1 + 1) ?_ (by omega)
      iterate 10 (refine Copied.far ?_ (Nat.lt_succ_self (w.heap.size + 1 + 1)) _ _)
      exact unhide C3
    · iterate 10 (refine belowSet ?_ (show w.heap.size ≤ w.heap.size + 1 + 1 by omega) _ _)
      exact unhide B3
  have cX := hide (fun W => l03Compose_v g1 g2 g3 g4 A B C D W hg (hgt hm))
  have hO3 : coK g1 g2 g3 g4 A B C D = 0 → Hid (turnedT ⟨L, lim, mode, A, B, C, D, coast, fr⟩ g1 g2 g3 g4 = ⟨L, lim, mode, coV1 g1 g2 g3 g4 A B C D, coV2 g1 g2 g3 g4 A B C D, coV3 g1 g2 g3 g4 A B C D, coV4 g1 g2 g3 g4 A B C D, coast, fr⟩) := fun h => hide (by unfold turnedT; rw [if_neg hm, if_pos h])
  have hO4 : coK g1 g2 g3 g4 A B C D ≠ 0 → Hid (turnedT ⟨L, lim, mode, A, B, C, D, coast, fr⟩ g1 g2 g3 g4 = ⟨L, lim, 0, 0, 0, 0, 0, 0, fr⟩) := fun h => hide (by unfold turnedT; rw [if_neg hm, if_neg h]; rfl)
  generalize coV1 g1 g2 g3 g4 A B C D = P1 at *
  generalize coV2 g1 g2 g3 g4 A B C D = P2 at *
  generalize coV3 g1 g2 g3 g4 A B C D = P3 at *
  generalize coV4 g1 g2 g3 g4 A B C D = P4 at *
  generalize coK g1 g2 g3 g4 A B C D = Pk at *
  obtain ⟨s0, s1, s2, s3, s4, s5, s6, s7, s8⟩ := unhide T3
  obtain ⟨u0, u1, u2, u3⟩ := unhide U3
  go_wp2_with fail
  clear s0 s1 s2 s3 s4 s5 s6 s7 s8 u0 u1 u2 u3
  generalize hV3 : w3.alloc (.cells #[.slice a L.length cap, .int .i64 lim, .int .i64 mode, .int .i64 A, .int .i64 B, .int .i64 C, .int .i64 D, .int .i64 coast, .int .i64 fr] 32) = V3 at *
  generalize hqb : w3.heap.size = qb at *
  clear hV3 hqb
  refine (unhide cX _).mono ?_
  rintro e w4 ⟨rfl, hx⟩
  have Z4 := below1 w4 (.cells #[.int .i64 P1, .int .i64 P2, .int .i64 P3, .int .i64 P4, .int .i64 Pk] 74)
  have B4 := hide (below_call (below_call (unhide B3) hx) Z4)
  have Q4 := hide (((unhide Q3).kept hx).kept Z4)
  have F4 := hide (((unhide F3).kept (unhide Q3).lt hx).kept ((unhide Q3).kept hx).lt Z4)
  have R4 := hide (((unhide R3).kept hx).kept Z4)
  have G4 := hide (((unhide G3).kept (unhide R3).lt hx).kept ((unhide R3).kept hx).lt Z4)
  have C4 := hide (((unhide C3).kept hx).kept Z4)
  have O4 := outAt_new w4 P1 P2 P3 P4 Pk 74
  clear hx Z4 B3 T3 U3 Q3 F3 R3 G3 C3 cX
  obtain ⟨o0, o1, o2, o3, o4⟩ := O4
  by_cases hk : Pk = 0
  · have HO3 := hO3 hk
    clear hO3 hO4
    subst hk
    obtain ⟨q0, q1, q2, q3, q4, q5, q6, q7, q8⟩ := unhide Q4
    obtain ⟨⟨r0, r1, r2, r3, r4, r5, r6, r7, r8⟩, r9⟩ := unhide R4
    have e3 := unhide F4 3
    have e4 := unhide F4 4
    have e5 := unhide F4 5
    have e6 := unhide F4 6
    have f0 := unhide G4 0
    have f1 := unhide G4 1
    have f2 := unhide G4 2
    have f3 := unhide G4 3
    have f4 := unhide G4 4
    have f5 := unhide G4 5
    have f6 := unhide G4 6
    have f7 := unhide G4 7
    have f8 := unhide G4 8
    have f9 := unhide G4 9
    have hne1 : w.heap.size + 1 + 1 ≠ qb := by omega
    have hne2 : qb ≠ w.heap.size + 1 + 1 := by omega
    go_wp2_with fail
    clear q0 q1 q2 q3 q4 q5 q6 q7 q8 r0 r1 r2 r3 r4 r5 r6 r7 r8 r9 e3 e4 e5 e6 f0 f1 f2 f3 f4 f5 f6 f7 f8 f9 o0 o1 o2 o3 o4
    refine bodyPost_ret (v := .agg #[.slice a L.length cap, .int .i64 lim, .int .i64 mode, .int .i64 P1, .int .i64 P2, .int .i64 P3, .int .i64 P4, .int .i64 coast, .int .i64 fr, .int .i64 0]) ?_ rfl ⟨?_, ?_⟩
    · refine res_sgyro _ _ (w.heap.size + 1 + 1) _ lim mode P1 P2 P3 P4 coast fr 0 rfl ?_
      refine tkO_set10 (lim0 := 0) (mode0 := 0) (A0 := 0) (B0 := 0) (C0 := 0) (D0 := 0) (coast0 := 0) (fr0 := 0) (code0 := 0) (u := .slice none 0 0) ?_ _ lim mode P1 P2 P3 P4 coast fr 0
      iterate 4 (refine TkO.far ?_ hne1 _ _)
      exact unhide R4
    · rw [unhide HO1, unhide HO2, unhide HO3]
      refine ⟨a, cap, rfl, ?_⟩
      refine Copied.low (B := w.heap.size + 1 + 1 + 1) ?_ (by omega)
      iterate 10 (refine Copied.far ?_ (Nat.lt_succ_self (w.heap.size + 1 + 1)) _ _)
      iterate 4 (refine Copied.off ?_ (fun x e => Nat.ne_of_lt (hqr x e)) _ _)
      exact unhide C4
    · iterate 10 (refine belowSet ?_ (show w.heap.size ≤ w.heap.size + 1 + 1 by omega) _ _)
      iterate 4 (refine belowSet ?_ (show w.heap.size ≤ qb by omega) _ _)
      exact unhide B4
  · have HO3 := hO4 hk
    clear hO3 hO4
    obtain ⟨q0, q1, q2, q3, q4, q5, q6, q7, q8⟩ := unhide Q4
    go_wp2_with fail
    clear q0 q1 q2 q3 q4 q5 q6 q7 q8 o0 o1 o2 o3 o4
    refine (l07Lost_any lim mode A B C D coast fr a L.length cap _).mono ?_
    rintro e w5 ⟨rfl, hx⟩
    have B5 := hide (below_call (unhide B4) hx)
    have R5 := hide ((unhide R4).kept hx)
    have G5 := hide ((unhide G4).kept (unhide R4).lt hx)
    have C5 := hide ((unhide C4).kept hx)
    clear hx B4 R4 G4 C4
    obtain ⟨⟨r0, r1, r2, r3, r4, r5, r6, r7, r8⟩, r9⟩ := unhide R5
    have g0 := unhide G5 0
    have g1 := unhide G5 1
    have g2 := unhide G5 2
    have g3 := unhide G5 3
    have g4 := unhide G5 4
    have g5 := unhide G5 5
    have g6 := unhide G5 6
    have g7 := unhide G5 7
    have g8 := unhide G5 8
    have g9 := unhide G5 9
    go_wp2_with fail
    clear r0 r1 r2 r3 r4 r5 r6 r7 r8 r9 g0 g1 g2 g3 g4 g5 g6 g7 g8 g9
    refine bodyPost_ret (v := .agg #[.slice a L.length cap, .int .i64 lim, .int .i64 0, .int .i64 0, .int .i64 0, .int .i64 0, .int .i64 0, .int .i64 0, .int .i64 fr, .int .i64 0]) ?_ rfl ⟨?_, ?_⟩
    · refine res_sgyro _ _ (w.heap.size + 1 + 1) _ lim 0 0 0 0 0 0 fr 0 rfl ?_
      exact tkO_set10 (unhide R5) _ _ _ _ _ _ _ _ _ _
    · rw [unhide HO1, unhide HO2, unhide HO3]
      refine ⟨a, cap, rfl, ?_⟩
      refine Copied.low (B := w.heap.size + 1 + 1 + 1) ?_ (by omega)
      iterate 10 (refine Copied.far ?_ (Nat.lt_succ_self (w.heap.size + 1 + 1)) _ _)
      exact unhide C5
    · iterate 10 (refine belowSet ?_ (show w.heap.size ≤ w.heap.size + 1 + 1 by omega) _ _)
      exact unhide B5
end Go.Proofs.YtdclojpgbekmeaaDoor
