/- Several texts in one: ModQ. -/
import Derived.Test.YtgiodlllokdcdaaGreatDoorQFnModeOwn25
namespace Go.Proofs.YtgiodlllokdcdaaGreatDoor
set_option linter.unusedVariables false
set_option linter.unusedSimpArgs false
set_option maxRecDepth 100000
set_option maxHeartbeats 8000000
section
open Go.RowKit Go.Sort
def od (g1 g2 g3 g4 a b c d : Int) : Int := coP g1 g2 g3 g4 a b c d (coA g1 g2 g3 g4 a b c d)
def oe (g1 g2 g3 g4 a b c d : Int) : Int := coP g1 g2 g3 g4 a b c d (coB g1 g2 g3 g4 a b c d)
def og (g1 g2 g3 g4 a b c d : Int) : Int := coP g1 g2 g3 g4 a b c d (coC g1 g2 g3 g4 a b c d)
def oh (g1 g2 g3 g4 a b c d : Int) : Int := coP g1 g2 g3 g4 a b c d (coD g1 g2 g3 g4 a b c d)
def bs (t : Tk) (g1 g2 g3 g4 : Int) : Tk := if t.mode = 0 then t else if coK g1 g2 g3 g4 t.A t.B t.C t.D = 0 then { t with A := od g1 g2 g3 g4 t.A t.B t.C t.D, B := oe g1 g2 g3 g4 t.A t.B t.C t.D, C := og g1 g2 g3 g4 t.A t.B t.C t.D, D := oh g1 g2 g3 g4 t.A t.B t.C t.D } else pS t
def tkV (a : Option Addr) (n c : Nat) (t : Tk) : Value := .agg #[.slice a n c, .int .i64 t.lim, .int .i64 t.mode, .int .i64 t.A, .int .i64 t.B, .int .i64 t.C, .int .i64 t.D, .int .i64 t.coast, .int .i64 t.fr]
theorem rW (g1 g2 g3 g4 a b c d : Int) (w : World) :
  Calls Tryz.prog 78 #[.agg #[.int .i64 g1, .int .i64 g2, .int .i64 g3, .int .i64 g4], .agg #[.int .i64 a, .int .i64 b, .int .i64 c, .int .i64 d]] w fun e w' => e = .returned (.agg #[.int .i64 (od g1 g2 g3 g4 a b c d), .int .i64 (oe g1 g2 g3 g4 a b c d), .int .i64 (og g1 g2 g3 g4 a b c d), .int .i64 (oh g1 g2 g3 g4 a b c d), .int .i64 (coK g1 g2 g3 g4 a b c d)]) ∧ Below w.heap.size w w' := pp g1 g2 g3 g4 a b c d w
theorem oF (g1 g2 g3 g4 a b c d : Int) (w : World) (hg : aC g1 g2 g3 g4 = true) (ht : aC a b c d = true) :
  Calls Tryz.prog 44 #[.agg #[.int .i64 g1, .int .i64 g2, .int .i64 g3, .int .i64 g4], .agg #[.int .i64 a, .int .i64 b, .int .i64 c, .int .i64 d]] w fun e w' => e = .returned (.agg #[.int .i64 (od g1 g2 g3 g4 a b c d), .int .i64 (oe g1 g2 g3 g4 a b c d), .int .i64 (og g1 g2 g3 g4 a b c d), .int .i64 (oh g1 g2 g3 g4 a b c d), .int .i64 (coK g1 g2 g3 g4 a b c d)]) ∧ Below w.heap.size w w' := by
 refine (gR g1 g2 g3 g4 a b c d w (bE.1 hg).1 (bE.1 ht).1).mono fun e w' h => ⟨?_, h.2⟩
 rw [h.1, ← tm (by unfold coR; rw [hg, ht]; rfl)]
 rfl
theorem mh (T : Array Value) (X : World) (b : Nat) (v : Value) (lim mode A B C D coast fr : Int) (hT : T.getD 4 undef = .pointer (some ⟨b, 0, none⟩)) (h : dj X b v lim mode A B C D coast fr) : (results Tryz.f41 T).run Tryz.prog X = .ok (.agg #[v, .int .i64 lim, .int .i64 mode, .int .i64 A, .int .i64 B, .int .i64 C, .int .i64 D, .int .i64 coast, .int .i64 fr]) X := by
 obtain ⟨h0, h1, h2, h3, h4, h5, h6, h7, h8⟩ := h
 simp only [Array.getD_eq_getD_getElem?] at hT
 simp [results, Tryz.results41, go_sem, hT, h0, h1, h2, h3, h4, h5, h6, h7, h8]
theorem pf (L : List St) (lim mode A B C D coast fr g1 g2 g3 g4 : Int) (a : Option Addr) (n c : Nat) (w : World) :
  Calls Tryz.prog 41 #[.agg #[.slice a n c, .int .i64 lim, .int .i64 mode, .int .i64 A, .int .i64 B, .int .i64 C, .int .i64 D, .int .i64 coast, .int .i64 fr], .agg #[.int .i64 g1, .int .i64 g2, .int .i64 g3, .int .i64 g4]] w fun e w' => e = .returned (tkV a n c (bs ⟨L, lim, mode, A, B, C, D, coast, fr⟩ g1 g2 g3 g4)) ∧ Below w.heap.size w w' := by
 by_cases hm : mode = 0
 ·have HO : Hid (tkV a n c (bs ⟨L, lim, mode, A, B, C, D, coast, fr⟩ g1 g2 g3 g4) = .agg #[.slice a n c, .int .i64 lim, .int .i64 mode, .int .i64 A, .int .i64 B, .int .i64 C, .int .i64 D, .int .i64 coast, .int .i64 fr]) := yz (by unfold bs tkV; rw [if_pos hm])
  go_enter Tryz.func41, Tryz.ntmps41
  go_wp2
  rw [yy HO]
  subst hm
  exact bodyPost_ret (v := .agg #[.slice a n c, .int .i64 lim, .int .i64 0, .int .i64 A, .int .i64 B, .int .i64 C, .int .i64 D, .int .i64 coast, .int .i64 fr]) (by simp [results, Tryz.results41, go_sem]) rfl ⟨rfl, dp _ _ _ _⟩
 have B0 := dp w (.cells #[.slice a n c, .int .i64 lim, .int .i64 mode, .int .i64 A, .int .i64 B, .int .i64 C, .int .i64 D, .int .i64 coast, .int .i64 fr] 62) (.cells #[.int .i64 g1, .int .i64 g2, .int .i64 g3, .int .i64 g4] 25) (.cells #[.slice none 0 0, .int .i64 0, .int .i64 0, .int .i64 0, .int .i64 0, .int .i64 0, .int .i64 0, .int .i64 0, .int .i64 0] 62)
 have Z2 := aM (w.alloc (.cells #[.slice a n c, .int .i64 lim, .int .i64 mode, .int .i64 A, .int .i64 B, .int .i64 C, .int .i64 D, .int .i64 coast, .int .i64 fr] 62)) (.cells #[.int .i64 g1, .int .i64 g2, .int .i64 g3, .int .i64 g4] 25) (.cells #[.slice none 0 0, .int .i64 0, .int .i64 0, .int .i64 0, .int .i64 0, .int .i64 0, .int .i64 0, .int .i64 0, .int .i64 0] 62)
 have T0 := (ck w (.slice a n c) lim mode A B C D coast fr 62).kept Z2
 have F0 := (ce w #[.slice a n c, .int .i64 lim, .int .i64 mode, .int .i64 A, .int .i64 B, .int .i64 C, .int .i64 D, .int .i64 coast, .int .i64 fr] 62).kept (by simp) Z2
 have R0 := (by simpa using ck ((w.alloc (.cells #[.slice a n c, .int .i64 lim, .int .i64 mode, .int .i64 A, .int .i64 B, .int .i64 C, .int .i64 D, .int .i64 coast, .int .i64 fr] 62)).alloc (.cells #[.int .i64 g1, .int .i64 g2, .int .i64 g3, .int .i64 g4] 25)) (.slice none 0 0) 0 0 0 0 0 0 0 0 62 : dj (((w.alloc (.cells #[.slice a n c, .int .i64 lim, .int .i64 mode, .int .i64 A, .int .i64 B, .int .i64 C, .int .i64 D, .int .i64 coast, .int .i64 fr] 62)).alloc (.cells #[.int .i64 g1, .int .i64 g2, .int .i64 g3, .int .i64 g4] 25)).alloc (.cells #[.slice none 0 0, .int .i64 0, .int .i64 0, .int .i64 0, .int .i64 0, .int .i64 0, .int .i64 0, .int .i64 0, .int .i64 0] 62)) (w.heap.size + 1 + 1) (.slice none 0 0) 0 0 0 0 0 0 0 0)
 have G0 := (by simpa using ce ((w.alloc (.cells #[.slice a n c, .int .i64 lim, .int .i64 mode, .int .i64 A, .int .i64 B, .int .i64 C, .int .i64 D, .int .i64 coast, .int .i64 fr] 62)).alloc (.cells #[.int .i64 g1, .int .i64 g2, .int .i64 g3, .int .i64 g4] 25)) #[.slice none 0 0, .int .i64 0, .int .i64 0, .int .i64 0, .int .i64 0, .int .i64 0, .int .i64 0, .int .i64 0, .int .i64 0] 62 : ei (((w.alloc (.cells #[.slice a n c, .int .i64 lim, .int .i64 mode, .int .i64 A, .int .i64 B, .int .i64 C, .int .i64 D, .int .i64 coast, .int .i64 fr] 62)).alloc (.cells #[.int .i64 g1, .int .i64 g2, .int .i64 g3, .int .i64 g4] 25)).alloc (.cells #[.slice none 0 0, .int .i64 0, .int .i64 0, .int .i64 0, .int .i64 0, .int .i64 0, .int .i64 0, .int .i64 0, .int .i64 0] 62)) (w.heap.size + 1 + 1))
 have HB := yz B0
 have HT := yz T0
 have HF := yz F0
 have HR := yz R0
 have HG := yz G0
 have hO1 : coK g1 g2 g3 g4 A B C D = 0 → Hid (tkV a n c (bs ⟨L, lim, mode, A, B, C, D, coast, fr⟩ g1 g2 g3 g4) = .agg #[.slice a n c, .int .i64 lim, .int .i64 mode, .int .i64 (od g1 g2 g3 g4 A B C D), .int .i64 (oe g1 g2 g3 g4 A B C D), .int .i64 (og g1 g2 g3 g4 A B C D), .int .i64 (oh g1 g2 g3 g4 A B C D), .int .i64 coast, .int .i64 fr]) := fun h => yz (by unfold bs tkV; rw [if_neg hm, if_pos h])
 have hO2 : coK g1 g2 g3 g4 A B C D ≠ 0 → Hid (tkV a n c (bs ⟨L, lim, mode, A, B, C, D, coast, fr⟩ g1 g2 g3 g4) = .agg #[.slice a n c, .int .i64 lim, .int .i64 0, .int .i64 0, .int .i64 0, .int .i64 0, .int .i64 0, .int .i64 0, .int .i64 fr]) := fun h => yz (by unfold bs tkV; rw [if_neg hm, if_neg h]; rfl)
 have cX := yz (fun W => rW g1 g2 g3 g4 A B C D W)
 generalize od g1 g2 g3 g4 A B C D = P1 at *
 generalize oe g1 g2 g3 g4 A B C D = P2 at *
 generalize og g1 g2 g3 g4 A B C D = P3 at *
 generalize oh g1 g2 g3 g4 A B C D = P4 at *
 generalize coK g1 g2 g3 g4 A B C D = Pk at *
 clear B0 Z2 T0 F0 R0 G0
 go_enter Tryz.func41, Tryz.ntmps41
 go_wp2_with fail
 refine (yy cX _).mono ?_
 rintro e w1 ⟨rfl, hx⟩
 have Z1 := an w1 (.cells #[.int .i64 P1, .int .i64 P2, .int .i64 P3, .int .i64 P4, .int .i64 Pk] 48)
 have B1 := yz (aj (aj (yy HB) hx) Z1)
 have T1 := yz (((yy HT).kept hx).kept Z1)
 have F1 := yz (((yy HF).kept (yy HT).lt hx).kept ((yy HT).kept hx).lt Z1)
 have R1 := yz (((yy HR).kept hx).kept Z1)
 have G1 := yz (((yy HG).kept (yy HR).lt hx).kept ((yy HR).kept hx).lt Z1)
 have O1 := cf w1 P1 P2 P3 P4 Pk 48
 clear hx Z1 HB HT HF HR HG cX
 obtain ⟨o0, o1, o2, o3, o4⟩ := O1
 by_cases hk : Pk = 0
 ·have HO := hO1 hk
  clear hO1 hO2
  subst hk
  obtain ⟨s0, s1, s2, s3, s4, s5, s6, s7, s8⟩ := yy T1
  obtain ⟨r0, r1, r2, r3, r4, r5, r6, r7, r8⟩ := yy R1
  have f3 := yy F1 3
  have f4 := yy F1 4
  have f5 := yy F1 5
  have f6 := yy F1 6
  have g0 := yy G1 0
  have q1 := yy G1 1
  have q2 := yy G1 2
  have q3 := yy G1 3
  have q4 := yy G1 4
  have q5 := yy G1 5
  have q6 := yy G1 6
  have q7 := yy G1 7
  have q8 := yy G1 8
  go_wp2_with fail
  clear s0 s1 s2 s3 s4 s5 s6 s7 s8 r0 r1 r2 r3 r4 r5 r6 r7 r8 f3 f4 f5 f6 g0 q1 q2 q3 q4 q5 q6 q7 q8 o0 o1 o2 o3 o4
  rw [yy HO]
  refine bodyPost_ret (v := .agg #[.slice a n c, .int .i64 lim, .int .i64 mode, .int .i64 P1, .int .i64 P2, .int .i64 P3, .int .i64 P4, .int .i64 coast, .int .i64 fr]) ?_ rfl ⟨rfl, ?_⟩
  ·refine mh _ _ (w.heap.size + 1 + 1) _ lim mode P1 P2 P3 P4 coast fr rfl ?_
   refine di (lim0 := 0) (mode0 := 0) (A0 := 0) (B0 := 0) (C0 := 0) (D0 := 0) (coast0 := 0) (fr0 := 0) (u := .slice none 0 0) ?_ _ lim mode P1 P2 P3 P4 coast fr
   iterate 4 (refine dj.far ?_ (show w.heap.size + 1 + 1 ≠ w.heap.size by omega) _ _)
   exact yy R1
  ·iterate 9 (refine aB ?_ (show w.heap.size ≤ w.heap.size + 1 + 1 by omega) _ _)
   iterate 4 (refine aB ?_ (Nat.le_refl w.heap.size) _ _)
   exact yy B1
 ·have HO := hO2 hk
  clear hO1 hO2
  obtain ⟨s0, s1, s2, s3, s4, s5, s6, s7, s8⟩ := yy T1
  go_wp2_with fail
  clear s0 s1 s2 s3 s4 s5 s6 s7 s8 o0 o1 o2 o3 o4
  refine (iF lim mode A B C D coast fr a n c _).mono ?_
  rintro e w2 ⟨rfl, hx⟩
  have B2 := yz (aj (yy B1) hx)
  have R2 := yz ((yy R1).kept hx)
  have G2 := yz ((yy G1).kept (yy R1).lt hx)
  clear hx B1 R1 G1 T1 F1
  obtain ⟨r0, r1, r2, r3, r4, r5, r6, r7, r8⟩ := yy R2
  have q0 := yy G2 0
  have q1 := yy G2 1
  have q2 := yy G2 2
  have q3 := yy G2 3
  have q4 := yy G2 4
  have q5 := yy G2 5
  have q6 := yy G2 6
  have q7 := yy G2 7
  have q8 := yy G2 8
  go_wp2_with fail
  clear r0 r1 r2 r3 r4 r5 r6 r7 r8 q0 q1 q2 q3 q4 q5 q6 q7 q8
  rw [yy HO]
  refine bodyPost_ret (v := .agg #[.slice a n c, .int .i64 lim, .int .i64 0, .int .i64 0, .int .i64 0, .int .i64 0, .int .i64 0, .int .i64 0, .int .i64 fr]) ?_ rfl ⟨rfl, ?_⟩
  ·refine mh _ _ (w.heap.size + 1 + 1) _ lim 0 0 0 0 0 0 fr rfl ?_
   exact di (lim0 := 0) (mode0 := 0) (A0 := 0) (B0 := 0) (C0 := 0) (D0 := 0) (coast0 := 0) (fr0 := 0) (u := .slice none 0 0) (yy R2) _ lim 0 0 0 0 0 0 fr
  ·iterate 9 (refine aB ?_ (show w.heap.size ≤ w.heap.size + 1 + 1 by omega) _ _)
   exact yy B2
end
end Go.Proofs.YtgiodlllokdcdaaGreatDoor
