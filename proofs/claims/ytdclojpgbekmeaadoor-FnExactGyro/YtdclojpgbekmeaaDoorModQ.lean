/- A tracker that is told of a turn: the steps. -/
import Derived.Test.YtdclojpgbekmeaaDoorModK
namespace Go.Proofs.YtdclojpgbekmeaaDoor
open Go.RowKit Go.Sort
set_option linter.unusedVariables false

def coV1 (g1 g2 g3 g4 a b c d : Int) : Int := coP g1 g2 g3 g4 a b c d (coA g1 g2 g3 g4 a b c d)
def coV2 (g1 g2 g3 g4 a b c d : Int) : Int := coP g1 g2 g3 g4 a b c d (coB g1 g2 g3 g4 a b c d)
def coV3 (g1 g2 g3 g4 a b c d : Int) : Int := coP g1 g2 g3 g4 a b c d (coC g1 g2 g3 g4 a b c d)
def coV4 (g1 g2 g3 g4 a b c d : Int) : Int := coP g1 g2 g3 g4 a b c d (coD g1 g2 g3 g4 a b c d)
def turnedT (t : Tk) (g1 g2 g3 g4 : Int) : Tk := if t.mode = 0 then t else if coK g1 g2 g3 g4 t.A t.B t.C t.D = 0 then { t with A := coV1 g1 g2 g3 g4 t.A t.B t.C t.D, B := coV2 g1 g2 g3 g4 t.A t.B t.C t.D, C := coV3 g1 g2 g3 g4 t.A t.B t.C t.D, D := coV4 g1 g2 g3 g4 t.A t.B t.C t.D } else lostT t
def tkV (a : Option Addr) (n c : Nat) (t : Tk) : Value := .agg #[.slice a n c, .int .i64 t.lim, .int .i64 t.mode, .int .i64 t.A, .int .i64 t.B, .int .i64 t.C, .int .i64 t.D, .int .i64 t.coast, .int .i64 t.fr]
theorem compose_v (g1 g2 g3 g4 a b c d : Int) (w : World) :
    Calls Tryd.prog 60 #[.agg #[.int .i64 g1, .int .i64 g2, .int .i64 g3, .int .i64 g4], .agg #[.int .i64 a, .int .i64 b, .int .i64 c, .int .i64 d]] w fun e w' => e = .returned (.agg #[.int .i64 (coV1 g1 g2 g3 g4 a b c d), .int .i64 (coV2 g1 g2 g3 g4 a b c d), .int .i64 (coV3 g1 g2 g3 g4 a b c d), .int .i64 (coV4 g1 g2 g3 g4 a b c d), .int .i64 (coK g1 g2 g3 g4 a b c d)]) ∧ Below w.heap.size w w' := compose_any g1 g2 g3 g4 a b c d w
theorem l03Compose_v (g1 g2 g3 g4 a b c d : Int) (w : World) (hg : rightT g1 g2 g3 g4 = true) (ht : rightT a b c d = true) :
    Calls Tryd.prog 41 #[.agg #[.int .i64 g1, .int .i64 g2, .int .i64 g3, .int .i64 g4], .agg #[.int .i64 a, .int .i64 b, .int .i64 c, .int .i64 d]] w fun e w' => e = .returned (.agg #[.int .i64 (coV1 g1 g2 g3 g4 a b c d), .int .i64 (coV2 g1 g2 g3 g4 a b c d), .int .i64 (coV3 g1 g2 g3 g4 a b c d), .int .i64 (coV4 g1 g2 g3 g4 a b c d), .int .i64 (coK g1 g2 g3 g4 a b c d)]) ∧ Below w.heap.size w w' := by
  refine (l03Compose_any g1 g2 g3 g4 a b c d w (rightT_iff.1 hg).1 (rightT_iff.1 ht).1).mono fun e w' h => ⟨?_, h.2⟩
  rw [h.1, ← co_ok (by unfold coR; rw [hg, ht]; rfl)]
  rfl
theorem res_turned (T : Array Value) (X : World) (b : Nat) (v : Value) (lim mode A B C D coast fr : Int) (hT : T.getD 4 undef = .pointer (some ⟨b, 0, none⟩)) (h : TkAt X b v lim mode A B C D coast fr) : (results Tryd.f43 T).run Tryd.prog X = .ok (.agg #[v, .int .i64 lim, .int .i64 mode, .int .i64 A, .int .i64 B, .int .i64 C, .int .i64 D, .int .i64 coast, .int .i64 fr]) X := by
  obtain ⟨h0, h1, h2, h3, h4, h5, h6, h7, h8⟩ := h
  simp only [Array.getD_eq_getD_getElem?] at hT
  simp [results, Tryd.results43, go_sem, hT, h0, h1, h2, h3, h4, h5, h6, h7, h8]
theorem tkAt_setT {w : World} {b : Nat} {u : Value} {lim mode A0 B0 C0 D0 coast fr : Int} (h : TkAt w b u lim mode A0 B0 C0 D0 coast fr) (A B C D : Int) : TkAt ((((w.setCell ⟨b, 3, none⟩ (.int .i64 A)).setCell ⟨b, 4, none⟩ (.int .i64 B)).setCell ⟨b, 5, none⟩ (.int .i64 C)).setCell ⟨b, 6, none⟩ (.int .i64 D)) b u lim mode A B C D coast fr := by
  obtain ⟨h0, h1, h2, h3, h4, h5, h6, h7, h8⟩ := h
  refine ⟨?_, ?_, ?_, ?_, ?_, ?_, ?_, ?_, ?_⟩ <;> simp [go_sem, h0, h1, h2, h3, h4, h5, h6, h7, h8]

set_option maxHeartbeats 4000000 in
set_option maxRecDepth 100000 in
theorem turnedBy_any (L : List St) (lim mode A B C D coast fr g1 g2 g3 g4 : Int) (a : Option Addr) (n c : Nat) (w : World) :
    Calls Tryd.prog 43 #[.agg #[.slice a n c, .int .i64 lim, .int .i64 mode, .int .i64 A, .int .i64 B, .int .i64 C, .int .i64 D, .int .i64 coast, .int .i64 fr], .agg #[.int .i64 g1, .int .i64 g2, .int .i64 g3, .int .i64 g4]] w fun e w' => e = .returned (tkV a n c (turnedT ⟨L, lim, mode, A, B, C, D, coast, fr⟩ g1 g2 g3 g4)) ∧ Below w.heap.size w w' := by
  by_cases hm : mode = 0
  · have HO : Hid (tkV a n c (turnedT ⟨L, lim, mode, A, B, C, D, coast, fr⟩ g1 g2 g3 g4) = .agg #[.slice a n c, .int .i64 lim, .int .i64 mode, .int .i64 A, .int .i64 B, .int .i64 C, .int .i64 D, .int .i64 coast, .int .i64 fr]) := hide (by unfold turnedT tkV; rw [if_pos hm])
    go_enter Tryd.func43, Tryd.ntmps43
    go_wp2
    rw [unhide HO]
    subst hm
    exact bodyPost_ret (v := .agg #[.slice a n c, .int .i64 lim, .int .i64 0, .int .i64 A, .int .i64 B, .int .i64 C, .int .i64 D, .int .i64 coast, .int .i64 fr]) (by simp [results, Tryd.results43, go_sem]) rfl ⟨rfl, below3 _ _ _ _⟩
  have B0 := below3 w (.cells #[.slice a n c, .int .i64 lim, .int .i64 mode, .int .i64 A, .int .i64 B, .int .i64 C, .int .i64 D, .int .i64 coast, .int .i64 fr] 68) (.cells #[.int .i64 g1, .int .i64 g2, .int .i64 g3, .int .i64 g4] 30) (.cells #[.slice none 0 0, .int .i64 0, .int .i64 0, .int .i64 0, .int .i64 0, .int .i64 0, .int .i64 0, .int .i64 0, .int .i64 0] 68)
  have Z2 := below2 (w.alloc (.cells #[.slice a n c, .int .i64 lim, .int .i64 mode, .int .i64 A, .int .i64 B, .int .i64 C, .int .i64 D, .int .i64 coast, .int .i64 fr] 68)) (.cells #[.int .i64 g1, .int .i64 g2, .int .i64 g3, .int .i64 g4] 30) (.cells #[.slice none 0 0, .int .i64 0, .int .i64 0, .int .i64 0, .int .i64 0, .int .i64 0, .int .i64 0, .int .i64 0, .int .i64 0] 68)
  have T0 := (tkAt_new w (.slice a n c) lim mode A B C D coast fr 68).kept Z2
  have F0 := (freeK_new w #[.slice a n c, .int .i64 lim, .int .i64 mode, .int .i64 A, .int .i64 B, .int .i64 C, .int .i64 D, .int .i64 coast, .int .i64 fr] 68).kept (by simp) Z2
  have R0 := (by simpa using tkAt_new ((w.alloc (.cells #[.slice a n c, .int .i64 lim, .int .i64 mode, .int .i64 A, .int .i64 B, .int .i64 C, .int .i64 D, .int .i64 coast, .int .i64 fr] 68)).alloc (.cells #[.int .i64 g1, .int .i64 g2, .int .i64 g3, .int .i64 g4] 30)) (.slice none 0 0) 0 0 0 0 0 0 0 0 68 : TkAt (((w.alloc (.cells #[.slice a n c, .int .i64 lim, .int .i64 mode, .int .i64 A, .int .i64 B, .int .i64 C, .int .i64 D, .int .i64 coast, .int .i64 fr] 68)).alloc (.cells #[.int .i64 g1, .int .i64 g2, .int .i64 g3, .int .i64 g4] 30)).alloc (.cells #[.slice none 0 0, .int .i64 0, .int .i64 0, .int .i64 0, .int .i64 0, .int .i64 0, .int .i64 0, .int .i64 0, .int .i64 0] 68)) (w.heap.size + 1 + 1) (.slice none 0 0) 0 0 0 0 0 0 0 0)
  have G0 := (by simpa using freeK_new ((w.alloc (.cells #[.slice a n c, .int .i64 lim, .int .i64 mode, .int .i64 A, .int .i64 B, .int .i64 C, .int .i64 D, .int .i64 coast, .int .i64 fr] 68)).alloc (.cells #[.int .i64 g1, .int .i64 g2, .int .i64 g3, .int .i64 g4] 30)) #[.slice none 0 0, .int .i64 0, .int .i64 0, .int .i64 0, .int .i64 0, .int .i64 0, .int .i64 0, .int .i64 0, .int .i64 0] 68 : FreeK (((w.alloc (.cells #[.slice a n c, .int .i64 lim, .int .i64 mode, .int .i64 A, .int .i64 B, .int .i64 C, .int .i64 D, .int .i64 coast, .int .i64 fr] 68)).alloc (.cells #[.int .i64 g1, .int .i64 g2, .int .i64 g3, .int .i64 g4] 30)).alloc (.cells #[.slice none 0 0, .int .i64 0, .int .i64 0, .int .i64 0, .int .i64 0, .int .i64 0, .int .i64 0, .int .i64 0, .int .i64 0] 68)) (w.heap.size + 1 + 1))
  have HB := hide B0
  have HT := hide T0
  have HF := hide F0
  have HR := hide R0
  have HG := hide G0
  have hO1 : coK g1 g2 g3 g4 A B C D = 0 → Hid (tkV a n c (turnedT ⟨L, lim, mode, A, B, C, D, coast, fr⟩ g1 g2 g3 g4) = .agg #[.slice a n c, .int .i64 lim, .int .i64 mode, .int .i64 (coV1 g1 g2 g3 g4 A B C D), .int .i64 (coV2 g1 g2 g3 g4 A B C D), .int .i64 (coV3 g1 g2 g3 g4 A B C D), .int .i64 (coV4 g1 g2 g3 g4 A B C D), .int .i64 coast, .int .i64 fr]) := fun h => hide (by unfold turnedT tkV; rw [if_neg hm, if_pos h])
  have hO2 : coK g1 g2 g3 g4 A B C D ≠ 0 → Hid (tkV a n c (turnedT ⟨L, lim, mode, A, B, C, D, coast, fr⟩ g1 g2 g3 g4) = .agg #[.slice a n c, .int .i64 lim, .int .i64 0, .int .i64 0, .int .i64 0, .int .i64 0, .int .i64 0, .int .i64 0, .int .i64 fr]) := fun h => hide (by unfold turnedT tkV; rw [if_neg hm, if_neg h]; rfl)
  have cX := hide (fun W => compose_v g1 g2 g3 g4 A B C D W)
  generalize coV1 g1 g2 g3 g4 A B C D = P1 at *
  generalize coV2 g1 g2 g3 g4 A B C D = P2 at *
  generalize coV3 g1 g2 g3 g4 A B C D = P3 at *
  generalize coV4 g1 g2 g3 g4 A B C D = P4 at *
  generalize coK g1 g2 g3 g4 A B C D = Pk at *
  clear B0 Z2 T0 F0 R0 G0
  go_enter Tryd.func43, Tryd.ntmps43
  go_wp2_with fail
  refine (unhide cX _).mono ?_
  rintro e w1 ⟨rfl, hx⟩
  have Z1 := below1 w1 (.cells #[.int .i64 P1, .int .i64 P2, .int .i64 P3, .int .i64 P4, .int .i64 Pk] 74)
  have B1 := hide (below_call (below_call (unhide HB) hx) Z1)
  have T1 := hide (((unhide HT).kept hx).kept Z1)
  have F1 := hide (((unhide HF).kept (unhide HT).lt hx).kept ((unhide HT).kept hx).lt Z1)
  have R1 := hide (((unhide HR).kept hx).kept Z1)
  have G1 := hide (((unhide HG).kept (unhide HR).lt hx).kept ((unhide HR).kept hx).lt Z1)
  have O1 := outAt_new w1 P1 P2 P3 P4 Pk 74
  clear hx Z1 HB HT HF HR HG cX
  obtain ⟨o0, o1, o2, o3, o4⟩ := O1
  by_cases hk : Pk = 0
  · have HO := hO1 hk
    clear hO1 hO2
    subst hk
    obtain ⟨s0, s1, s2, s3, s4, s5, s6, s7, s8⟩ := unhide T1
    obtain ⟨r0, r1, r2, r3, r4, r5, r6, r7, r8⟩ := unhide R1
    have f3 := unhide F1 3
    have f4 := unhide F1 4
    have f5 := unhide F1 5
    have f6 := unhide F1 6
    have g0 := unhide G1 0
    have q1 := unhide G1 1
    have q2 := unhide G1 2
    have q3 := unhide G1 3
    have q4 := unhide G1 4
    have q5 := unhide G1 5
    have q6 := unhide G1 6
    have q7 := unhide G1 7
    have q8 := unhide G1 8
    go_wp2_with fail
    clear s0 s1 s2 s3 s4 s5 s6 s7 s8 r0 r1 r2 r3 r4 r5 r6 r7 r8 f3 f4 f5 f6 g0 q1 q2 q3 q4 q5 q6 q7 q8 o0 o1 o2 o3 o4
    rw [unhide HO]
    refine bodyPost_ret (v := .agg #[.slice a n c, .int .i64 lim, .int .i64 mode, .int .i64 P1, .int .i64 P2, .int .i64 P3, .int .i64 P4, .int .i64 coast, .int .i64 fr]) ?_ rfl ⟨rfl, ?_⟩
    · refine res_turned _ _ (w.heap.size + 1 + 1) _ lim mode P1 P2 P3 P4 coast fr rfl ?_
      refine tkAt_set9 (lim0 := 0) (mode0 := 0) (A0 := 0) (B0 := 0) (C0 := 0) (D0 := 0) (coast0 := 0) (fr0 := 0) (u := .slice none 0 0) ?_ _ lim mode P1 P2 P3 P4 coast fr
      iterate 4 (refine TkAt.far ?_ (show w.heap.size + 1 + 1 ≠ w.heap.size by omega) _ _)
      exact unhide R1
    · iterate 9 (refine belowSet ?_ (show w.heap.size ≤ w.heap.size + 1 + 1 by omega) _ _)
      iterate 4 (refine belowSet ?_ (Nat.le_refl w.heap.size) _ _)
      exact unhide B1
  · have HO := hO2 hk
    clear hO1 hO2
    obtain ⟨s0, s1, s2, s3, s4, s5, s6, s7, s8⟩ := unhide T1
    go_wp2_with fail
    clear s0 s1 s2 s3 s4 s5 s6 s7 s8 o0 o1 o2 o3 o4
    refine (wlost_any lim mode A B C D coast fr a n c _).mono ?_
    rintro e w2 ⟨rfl, hx⟩
    have B2 := hide (below_call (unhide B1) hx)
    have R2 := hide ((unhide R1).kept hx)
    have G2 := hide ((unhide G1).kept (unhide R1).lt hx)
    clear hx B1 R1 G1 T1 F1
    obtain ⟨r0, r1, r2, r3, r4, r5, r6, r7, r8⟩ := unhide R2
    have q0 := unhide G2 0
    have q1 := unhide G2 1
    have q2 := unhide G2 2
    have q3 := unhide G2 3
    have q4 := unhide G2 4
    have q5 := unhide G2 5
    have q6 := unhide G2 6
    have q7 := unhide G2 7
    have q8 := unhide G2 8
    go_wp2_with fail
    clear r0 r1 r2 r3 r4 r5 r6 r7 r8 q0 q1 q2 q3 q4 q5 q6 q7 q8
    rw [unhide HO]
    refine bodyPost_ret (v := .agg #[.slice a n c, .int .i64 lim, .int .i64 0, .int .i64 0, .int .i64 0, .int .i64 0, .int .i64 0, .int .i64 0, .int .i64 fr]) ?_ rfl ⟨rfl, ?_⟩
    · refine res_turned _ _ (w.heap.size + 1 + 1) _ lim 0 0 0 0 0 0 fr rfl ?_
      exact tkAt_set9 (lim0 := 0) (mode0 := 0) (A0 := 0) (B0 := 0) (C0 := 0) (D0 := 0) (coast0 := 0) (fr0 := 0) (u := .slice none 0 0) (unhide R2) _ lim 0 0 0 0 0 0 fr
    · iterate 9 (refine belowSet ?_ (show w.heap.size ≤ w.heap.size + 1 + 1 by omega) _ _)
      exact unhide B2
end Go.Proofs.YtdclojpgbekmeaaDoor
