/- Several texts in one: ModQ, DeskA, SkyW, DkW, DrW. -/
import Derived.Test.YtlleafjdgblhcaaGreatDoorRows
import Derived.Deep.Slices
import Derived.Deep.Strs
import Derived.Stop.LaidErr
import Derived.LaidHandle
import Derived.LaidMore
import Derived.ProofKit
import Derived.Lay
import Derived.Test.YtlleafjdgblhcaaGreatDoorQDeskRunOwn27
import Derived.Test.YtlleafjdgblhcaaGreatDoorQDeskRunOwn2
import Derived.Test.YtlleafjdgblhcaaGreatDoorQDeskRunOwn6
namespace Go.Proofs.YtlleafjdgblhcaaGreatDoor
set_option linter.unusedVariables false
set_option linter.unusedSimpArgs false
set_option maxRecDepth 100000
set_option maxHeartbeats 8000000
section
open Go.RowKit Go.Sort
def mw (g1 g2 g3 g4 a b c d : Int) : Int := coP g1 g2 g3 g4 a b c d (coA g1 g2 g3 g4 a b c d)
def mQ (g1 g2 g3 g4 a b c d : Int) : Int := coP g1 g2 g3 g4 a b c d (coB g1 g2 g3 g4 a b c d)
def mr (g1 g2 g3 g4 a b c d : Int) : Int := coP g1 g2 g3 g4 a b c d (coC g1 g2 g3 g4 a b c d)
def lU (g1 g2 g3 g4 a b c d : Int) : Int := coP g1 g2 g3 g4 a b c d (coD g1 g2 g3 g4 a b c d)
def bO (t : Tk) (g1 g2 g3 g4 : Int) : Tk := if t.mode = 0 then t else if coK g1 g2 g3 g4 t.A t.B t.C t.D = 0 then { t with A := mw g1 g2 g3 g4 t.A t.B t.C t.D, B := mQ g1 g2 g3 g4 t.A t.B t.C t.D, C := mr g1 g2 g3 g4 t.A t.B t.C t.D, D := lU g1 g2 g3 g4 t.A t.B t.C t.D } else qq t
def tkV (a : Option Addr) (n c : Nat) (t : Tk) : Value := .agg #[.slice a n c, .int .i64 t.lim, .int .i64 t.mode, .int .i64 t.A, .int .i64 t.B, .int .i64 t.C, .int .i64 t.D, .int .i64 t.coast, .int .i64 t.fr]
theorem nj (g1 g2 g3 g4 a b c d : Int) (w : World) :
  Calls Tryz.prog 97 #[.agg #[.int .i64 g1, .int .i64 g2, .int .i64 g3, .int .i64 g4], .agg #[.int .i64 a, .int .i64 b, .int .i64 c, .int .i64 d]] w fun e w' => e = .returned (.agg #[.int .i64 (mw g1 g2 g3 g4 a b c d), .int .i64 (mQ g1 g2 g3 g4 a b c d), .int .i64 (mr g1 g2 g3 g4 a b c d), .int .i64 (lU g1 g2 g3 g4 a b c d), .int .i64 (coK g1 g2 g3 g4 a b c d)]) ∧ Below w.heap.size w w' := wk g1 g2 g3 g4 a b c d w
theorem sK (g1 g2 g3 g4 a b c d : Int) (w : World) (hg : aA g1 g2 g3 g4 = true) (ht : aA a b c d = true) :
  Calls Tryz.prog 60 #[.agg #[.int .i64 g1, .int .i64 g2, .int .i64 g3, .int .i64 g4], .agg #[.int .i64 a, .int .i64 b, .int .i64 c, .int .i64 d]] w fun e w' => e = .returned (.agg #[.int .i64 (mw g1 g2 g3 g4 a b c d), .int .i64 (mQ g1 g2 g3 g4 a b c d), .int .i64 (mr g1 g2 g3 g4 a b c d), .int .i64 (lU g1 g2 g3 g4 a b c d), .int .i64 (coK g1 g2 g3 g4 a b c d)]) ∧ Below w.heap.size w w' := by
 refine (kf g1 g2 g3 g4 a b c d w (aZ.1 hg).1 (aZ.1 ht).1).mono fun e w' h => ⟨?_, h.2⟩
 rw [h.1, ← Cq (by unfold coR; rw [hg, ht]; rfl)]
 rfl
theorem qi (T : Array Value) (X : World) (b : Nat) (v : Value) (lim mode A B C D coast fr : Int) (hT : T.getD 4 undef = .pointer (some ⟨b, 0, none⟩)) (h : dQ X b v lim mode A B C D coast fr) : (results Tryz.f139 T).run Tryz.prog X = .ok (.agg #[v, .int .i64 lim, .int .i64 mode, .int .i64 A, .int .i64 B, .int .i64 C, .int .i64 D, .int .i64 coast, .int .i64 fr]) X := by
 obtain ⟨h0, h1, h2, h3, h4, h5, h6, h7, h8⟩ := h
 simp only [Array.getD_eq_getD_getElem?] at hT
 simp [results, Tryz.results139, go_sem, hT, h0, h1, h2, h3, h4, h5, h6, h7, h8]
theorem tC (L : List St) (lim mode A B C D coast fr g1 g2 g3 g4 : Int) (a : Option Addr) (n c : Nat) (w : World) :
  Calls Tryz.prog 139 #[.agg #[.slice a n c, .int .i64 lim, .int .i64 mode, .int .i64 A, .int .i64 B, .int .i64 C, .int .i64 D, .int .i64 coast, .int .i64 fr], .agg #[.int .i64 g1, .int .i64 g2, .int .i64 g3, .int .i64 g4]] w fun e w' => e = .returned (tkV a n c (bO ⟨L, lim, mode, A, B, C, D, coast, fr⟩ g1 g2 g3 g4)) ∧ Below w.heap.size w w' := by
 by_cases hm : mode = 0
 ·have HO : Hid (tkV a n c (bO ⟨L, lim, mode, A, B, C, D, coast, fr⟩ g1 g2 g3 g4) = .agg #[.slice a n c, .int .i64 lim, .int .i64 mode, .int .i64 A, .int .i64 B, .int .i64 C, .int .i64 D, .int .i64 coast, .int .i64 fr]) := yz (by unfold bO tkV; rw [if_pos hm])
  go_enter Tryz.func139, Tryz.ntmps139
  go_wp2
  rw [yy HO]
  subst hm
  exact bodyPost_ret (v := .agg #[.slice a n c, .int .i64 lim, .int .i64 0, .int .i64 A, .int .i64 B, .int .i64 C, .int .i64 D, .int .i64 coast, .int .i64 fr]) (by simp [results, Tryz.results139, go_sem]) rfl ⟨rfl, dW _ _ _ _⟩
 have B0 := dW w (.cells #[.slice a n c, .int .i64 lim, .int .i64 mode, .int .i64 A, .int .i64 B, .int .i64 C, .int .i64 D, .int .i64 coast, .int .i64 fr] 116) (.cells #[.int .i64 g1, .int .i64 g2, .int .i64 g3, .int .i64 g4] 32) (.cells #[.slice none 0 0, .int .i64 0, .int .i64 0, .int .i64 0, .int .i64 0, .int .i64 0, .int .i64 0, .int .i64 0, .int .i64 0] 116)
 have Z2 := aO (w.alloc (.cells #[.slice a n c, .int .i64 lim, .int .i64 mode, .int .i64 A, .int .i64 B, .int .i64 C, .int .i64 D, .int .i64 coast, .int .i64 fr] 116)) (.cells #[.int .i64 g1, .int .i64 g2, .int .i64 g3, .int .i64 g4] 32) (.cells #[.slice none 0 0, .int .i64 0, .int .i64 0, .int .i64 0, .int .i64 0, .int .i64 0, .int .i64 0, .int .i64 0, .int .i64 0] 116)
 have T0 := (dy w (.slice a n c) lim mode A B C D coast fr 116).kept Z2
 have F0 := (du w #[.slice a n c, .int .i64 lim, .int .i64 mode, .int .i64 A, .int .i64 B, .int .i64 C, .int .i64 D, .int .i64 coast, .int .i64 fr] 116).kept (by simp) Z2
 have R0 := (by simpa using dy ((w.alloc (.cells #[.slice a n c, .int .i64 lim, .int .i64 mode, .int .i64 A, .int .i64 B, .int .i64 C, .int .i64 D, .int .i64 coast, .int .i64 fr] 116)).alloc (.cells #[.int .i64 g1, .int .i64 g2, .int .i64 g3, .int .i64 g4] 32)) (.slice none 0 0) 0 0 0 0 0 0 0 0 116 : dQ (((w.alloc (.cells #[.slice a n c, .int .i64 lim, .int .i64 mode, .int .i64 A, .int .i64 B, .int .i64 C, .int .i64 D, .int .i64 coast, .int .i64 fr] 116)).alloc (.cells #[.int .i64 g1, .int .i64 g2, .int .i64 g3, .int .i64 g4] 32)).alloc (.cells #[.slice none 0 0, .int .i64 0, .int .i64 0, .int .i64 0, .int .i64 0, .int .i64 0, .int .i64 0, .int .i64 0, .int .i64 0] 116)) (w.heap.size + 1 + 1) (.slice none 0 0) 0 0 0 0 0 0 0 0)
 have G0 := (by simpa using du ((w.alloc (.cells #[.slice a n c, .int .i64 lim, .int .i64 mode, .int .i64 A, .int .i64 B, .int .i64 C, .int .i64 D, .int .i64 coast, .int .i64 fr] 116)).alloc (.cells #[.int .i64 g1, .int .i64 g2, .int .i64 g3, .int .i64 g4] 32)) #[.slice none 0 0, .int .i64 0, .int .i64 0, .int .i64 0, .int .i64 0, .int .i64 0, .int .i64 0, .int .i64 0, .int .i64 0] 116 : fF (((w.alloc (.cells #[.slice a n c, .int .i64 lim, .int .i64 mode, .int .i64 A, .int .i64 B, .int .i64 C, .int .i64 D, .int .i64 coast, .int .i64 fr] 116)).alloc (.cells #[.int .i64 g1, .int .i64 g2, .int .i64 g3, .int .i64 g4] 32)).alloc (.cells #[.slice none 0 0, .int .i64 0, .int .i64 0, .int .i64 0, .int .i64 0, .int .i64 0, .int .i64 0, .int .i64 0, .int .i64 0] 116)) (w.heap.size + 1 + 1))
 have HB := yz B0
 have HT := yz T0
 have HF := yz F0
 have HR := yz R0
 have HG := yz G0
 have hO1 : coK g1 g2 g3 g4 A B C D = 0 → Hid (tkV a n c (bO ⟨L, lim, mode, A, B, C, D, coast, fr⟩ g1 g2 g3 g4) = .agg #[.slice a n c, .int .i64 lim, .int .i64 mode, .int .i64 (mw g1 g2 g3 g4 A B C D), .int .i64 (mQ g1 g2 g3 g4 A B C D), .int .i64 (mr g1 g2 g3 g4 A B C D), .int .i64 (lU g1 g2 g3 g4 A B C D), .int .i64 coast, .int .i64 fr]) := fun h => yz (by unfold bO tkV; rw [if_neg hm, if_pos h])
 have hO2 : coK g1 g2 g3 g4 A B C D ≠ 0 → Hid (tkV a n c (bO ⟨L, lim, mode, A, B, C, D, coast, fr⟩ g1 g2 g3 g4) = .agg #[.slice a n c, .int .i64 lim, .int .i64 0, .int .i64 0, .int .i64 0, .int .i64 0, .int .i64 0, .int .i64 0, .int .i64 fr]) := fun h => yz (by unfold bO tkV; rw [if_neg hm, if_neg h]; rfl)
 have cX := yz (fun W => nj g1 g2 g3 g4 A B C D W)
 generalize mw g1 g2 g3 g4 A B C D = P1 at *
 generalize mQ g1 g2 g3 g4 A B C D = P2 at *
 generalize mr g1 g2 g3 g4 A B C D = P3 at *
 generalize lU g1 g2 g3 g4 A B C D = P4 at *
 generalize coK g1 g2 g3 g4 A B C D = Pk at *
 clear B0 Z2 T0 F0 R0 G0
 go_enter Tryz.func139, Tryz.ntmps139
 go_wp2_with fail
 refine (yy cX _).mono ?_
 rintro e w1 ⟨rfl, hx⟩
 have Z1 := an w1 (.cells #[.int .i64 P1, .int .i64 P2, .int .i64 P3, .int .i64 P4, .int .i64 Pk] 94)
 have B1 := yz (ak (ak (yy HB) hx) Z1)
 have T1 := yz (((yy HT).kept hx).kept Z1)
 have F1 := yz (((yy HF).kept (yy HT).lt hx).kept ((yy HT).kept hx).lt Z1)
 have R1 := yz (((yy HR).kept hx).kept Z1)
 have G1 := yz (((yy HG).kept (yy HR).lt hx).kept ((yy HR).kept hx).lt Z1)
 have O1 := ec w1 P1 P2 P3 P4 Pk 94
 clear hx Z1 HB HT HF HR HG cX
 obtain ⟨o0, o1, o2, o3, o4⟩ := O1
 by_cases hk : Pk = 0
 ·have HO := hO1 hk
  clear hO1 hO2
  subst hk
  obtain ⟨s0, s1, s2, s3, s4, s5, s6, s7, s8⟩ := yy T1
  obtain ⟨r0, r1, r2, r3, r4, r5, r6, r7, r8⟩ := yy R1
  have f3 := yy F1 3
  have f4 := yy F1 4
  have f5 := yy F1 5
  have f6 := yy F1 6
  have g0 := yy G1 0
  have q1 := yy G1 1
  have q2 := yy G1 2
  have q3 := yy G1 3
  have q4 := yy G1 4
  have q5 := yy G1 5
  have q6 := yy G1 6
  have q7 := yy G1 7
  have q8 := yy G1 8
  go_wp2_with fail
  clear s0 s1 s2 s3 s4 s5 s6 s7 s8 r0 r1 r2 r3 r4 r5 r6 r7 r8 f3 f4 f5 f6 g0 q1 q2 q3 q4 q5 q6 q7 q8 o0 o1 o2 o3 o4
  rw [yy HO]
  refine bodyPost_ret (v := .agg #[.slice a n c, .int .i64 lim, .int .i64 mode, .int .i64 P1, .int .i64 P2, .int .i64 P3, .int .i64 P4, .int .i64 coast, .int .i64 fr]) ?_ rfl ⟨rfl, ?_⟩
  ·refine qi _ _ (w.heap.size + 1 + 1) _ lim mode P1 P2 P3 P4 coast fr rfl ?_
   refine dM (lim0 := 0) (mode0 := 0) (A0 := 0) (B0 := 0) (C0 := 0) (D0 := 0) (coast0 := 0) (fr0 := 0) (u := .slice none 0 0) ?_ _ lim mode P1 P2 P3 P4 coast fr
   iterate 4 (refine dQ.far ?_ (show w.heap.size + 1 + 1 ≠ w.heap.size by omega) _ _)
   exact yy R1
  ·iterate 9 (refine aC ?_ (show w.heap.size ≤ w.heap.size + 1 + 1 by omega) _ _)
   iterate 4 (refine aC ?_ (Nat.le_refl w.heap.size) _ _)
   exact yy B1
 ·have HO := hO2 hk
  clear hO1 hO2
  obtain ⟨s0, s1, s2, s3, s4, s5, s6, s7, s8⟩ := yy T1
  go_wp2_with fail
  clear s0 s1 s2 s3 s4 s5 s6 s7 s8 o0 o1 o2 o3 o4
  refine (kH lim mode A B C D coast fr a n c _).mono ?_
  rintro e w2 ⟨rfl, hx⟩
  have B2 := yz (ak (yy B1) hx)
  have R2 := yz ((yy R1).kept hx)
  have G2 := yz ((yy G1).kept (yy R1).lt hx)
  clear hx B1 R1 G1 T1 F1
  obtain ⟨r0, r1, r2, r3, r4, r5, r6, r7, r8⟩ := yy R2
  have q0 := yy G2 0
  have q1 := yy G2 1
  have q2 := yy G2 2
  have q3 := yy G2 3
  have q4 := yy G2 4
  have q5 := yy G2 5
  have q6 := yy G2 6
  have q7 := yy G2 7
  have q8 := yy G2 8
  go_wp2_with fail
  clear r0 r1 r2 r3 r4 r5 r6 r7 r8 q0 q1 q2 q3 q4 q5 q6 q7 q8
  rw [yy HO]
  refine bodyPost_ret (v := .agg #[.slice a n c, .int .i64 lim, .int .i64 0, .int .i64 0, .int .i64 0, .int .i64 0, .int .i64 0, .int .i64 0, .int .i64 fr]) ?_ rfl ⟨rfl, ?_⟩
  ·refine qi _ _ (w.heap.size + 1 + 1) _ lim 0 0 0 0 0 0 fr rfl ?_
   exact dM (lim0 := 0) (mode0 := 0) (A0 := 0) (B0 := 0) (C0 := 0) (D0 := 0) (coast0 := 0) (fr0 := 0) (u := .slice none 0 0) (yy R2) _ lim 0 0 0 0 0 0 fr
  ·iterate 9 (refine aC ?_ (show w.heap.size ≤ w.heap.size + 1 + 1 by omega) _ _)
   exact yy B2
end
section
open Go.RowKit
def im : List St := [(1, 0, 0, 1), (2, 1, 0, 2), (3, 0, 1, 3), (4, -1, -1, 2), (5, 2, 1, 5), (6, 1, 0, 0)]
def DC : List Int := [1, 0, 0, 1, 2, 1, 0, 2, 3, 0, 1, 3, 4, -1, -1, 2, 5, 2, 1, 5, 6, 1, 0, 0]
def fl : Obj := .cells #[.int .i64 1, .int .i64 0, .int .i64 0, .int .i64 1, .int .i64 2, .int .i64 1, .int .i64 0, .int .i64 2, .int .i64 3, .int .i64 0, .int .i64 1, .int .i64 3, .int .i64 4, .int .i64 (-1), .int .i64 (-1), .int .i64 2, .int .i64 5, .int .i64 2, .int .i64 1, .int .i64 5, .int .i64 6, .int .i64 1, .int .i64 0, .int .i64 0] 60
theorem yG (w : World) : eR (w.alloc fl) 60 w.heap.size (6 * 4) (fun j => DC.getD j 0) := by
 refine ⟨_, heap_alloc_new w fl, fun j hj => ?_⟩
 match j, hj with
 | 0, _ => rfl
 | 1, _ => rfl
 | 2, _ => rfl
 | 3, _ => rfl
 | 4, _ => rfl
 | 5, _ => rfl
 | 6, _ => rfl
 | 7, _ => rfl
 | 8, _ => rfl
 | 9, _ => rfl
 | 10, _ => rfl
 | 11, _ => rfl
 | 12, _ => rfl
 | 13, _ => rfl
 | 14, _ => rfl
 | 15, _ => rfl
 | 16, _ => rfl
 | 17, _ => rfl
 | 18, _ => rfl
 | 19, _ => rfl
 | 20, _ => rfl
 | 21, _ => rfl
 | 22, _ => rfl
 | 23, _ => rfl
 | k + 24, h => exact absurd h (by omega)
theorem rK {w : World} {g : Nat} (h : eR w 60 g (6 * 4) (fun j => DC.getD j 0)) : aR w (some ⟨g, 0, none⟩) im 6 := by
 refine .inr ⟨g, 0, rfl, h.lt, fun i hi => ?_⟩
 rw [Nat.zero_add]
 refine ⟨?_, ?_, ?_, ?_⟩
 ·rw [h.cell (j := i * 4) (by omega)]
  match i, hi with
  | 0, _ | 1, _ | 2, _ | 3, _ | 4, _ | 5, _ => rfl
 ·rw [h.cell (j := i * 4 + 1) (by omega)]
  match i, hi with
  | 0, _ | 1, _ | 2, _ | 3, _ | 4, _ | 5, _ => rfl
 ·rw [h.cell (j := i * 4 + 2) (by omega)]
  match i, hi with
  | 0, _ | 1, _ | 2, _ | 3, _ | 4, _ | 5, _ => rfl
 ·rw [h.cell (j := i * 4 + 3) (by omega)]
  match i, hi with
  | 0, _ | 1, _ | 2, _ | 3, _ | 4, _ | 5, _ => rfl
theorem uy (w : World) : Calls Tryz.prog 30 #[] w fun e w' => e = .returned (.slice (some ⟨w.heap.size, 0, none⟩) 6 6) ∧ w' = w.alloc fl := by
 go_enter Tryz.func30, Tryz.ntmps30
 go_wp2
 go_ret
 exact ⟨rfl, rfl⟩
theorem sU (w : World) : Calls Tryz.prog 9 #[] w fun e w' => e = .returned (.slice (some ⟨w.heap.size, 0, none⟩) 6 6) ∧ w' = w.alloc fl := by
 go_enter Tryz.func9, Tryz.ntmps9
 go_wp2
 go_ret
 exact ⟨rfl, rfl⟩
end
section
open Go.RowKit Go.Deep Go.ChangeShapes
theorem ws : "*" ++ "errors.errorString" = "*errors.errorString" := by decide
theorem rowE (u : TypeId) (h : Tryz.prog.typeName? 3 u = some "*errors.errorString") : u = 258 :=
 typeName_ptr_named (nm := "errors.errorString") (by rw [ws]; kernel_rfl) (by kernel_rfl) (by decide) u (by rw [ws]; exact h)
theorem mo : Tryz.prog.globalNamed "loop.example/g00577/impl.errNoSky" = some 1 := by kernel_rfl
theorem yr : (Tryz.prog.globals[1]?).map (·.type) = some 149 := by kernel_rfl
theorem li {W : World} {p : Addr} (hv : W.var? Tryz.prog "loop.example/g00577/impl.errNoSky" = some #[.iface 258 (.pointer (some p))]) : bu p W := by
 unfold bu
 rw [World.var?_cell mo hv 0]
 rfl
theorem up {H : Type} (enc : TypeId × Value → H) {W : World} {p : Addr} (hv : W.var? Tryz.prog "loop.example/g00577/impl.errNoSky" = some #[.iface 258 (.pointer (some p))]) (sp : Nat → Bool) :
  DataW.TrodVars enc Tryz.prog W sp ["loop.example/g00577/impl.errNoSky"] [tok enc (.iface 258 (.pointer (some p)))] [.cell 1 0] :=
 vars_read1 enc mo yr Tryz.underlying149 hv trivial sp
theorem eN {P : Program} {x : String × DataW Unit} {l : List (String × DataW Unit)} {w : World} (h : laidMet P (x :: l) w) : laidMet P l w := by
 obtain ⟨ps, ⟨g, t, cs, f, p, q, hg, ht, hv, hd, hr, e⟩, hn, hrows⟩ := h
 subst e
 exact ⟨q, hr, (List.nodup_append.1 hn).2.1, fun b off hb => hrows b off (List.mem_append_right _ hb)⟩
def gy : List (String × DataW Unit) := [("math/bits.deBruijn32tab", Rows.laid_math_bits_deBruijn32tab), ("math/bits.deBruijn64tab", Rows.laid_math_bits_deBruijn64tab), ("internal/strconv.uint64pow10", Rows.laid_internal_strconv_uint64pow10), ("unicode/utf8.acceptRanges", Rows.laid_unicode_utf8_acceptRanges), ("loop.example/g00577/impl.errNoSky", Rows.laid_loop_example_g00577_impl_errNoSky), ("unicode/utf8.first", Rows.laid_unicode_utf8_first)]
theorem DY {W : World} (h : laidMetH Tryz.prog gy W) : ∃ p, W.var? Tryz.prog "loop.example/g00577/impl.errNoSky" = some #[.iface 258 (.pointer (some p))] := by
 have h' : laidMet Tryz.prog gy W := h
 have h2 := eN (eN (eN (eN h')))
 obtain ⟨a, s, hv, _⟩ := laid_sentinel h2 mo yr Tryz.underlying149 rowE Tryz.underlying258 Tryz.underlying282 rfl rfl Tryz.underlying9 (by kernel_rfl) (by kernel_rfl)
 exact ⟨a, hv⟩
theorem Ei (os : Os) (args : Array Value) : laidMetH Tryz.prog gy ((World.laidAll Tryz.prog os gy).forCall (fun _ _ => 0) ⟨#[], args, []⟩).memory := by
 have h : laidMet Tryz.prog gy ((World.laidAll Tryz.prog os gy).forCall (fun _ _ => 0) ⟨#[], args, []⟩).memory := laidMet_laidAll _ (by kernel_rfl) (by kernel_rfl)
 exact h
theorem wA {W : World} (h : W.ShapedOpen Tryz.prog) : rp W := vN.s1_3 W h
end
end Go.Proofs.YtlleafjdgblhcaaGreatDoor
