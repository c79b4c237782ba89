/- Several texts in one: ModJ, FrC, BlA, BlB, BlC, SpA, SpB, SpD, BlD, BlE, BlF, BlG, BlH, BlI, SpE, IdA, MaA, IdB, IdC, L7A, IdW, L7B. -/
import Derived.Laws.BytesArg
import Derived.BigRegion
import Derived.Maps.AppendAt
import Derived.OwnWalk
import Derived.Laws.OwnMore
import Derived.Deep.CutRange
import Derived.Deep.DeepCutAuto
import Derived.WalkMore
import Derived.Deep.RegionHeld
import Derived.Lib.QuietBelow
import Derived.Deep.QuietTactic
import Derived.BigQuiet
import Derived.Test.YtlleafjdgblhcaaGreatDoorRows
import Derived.Deep.Slices
import Derived.Deep.Strs
import Derived.LaidHandle
import Derived.LaidMore
import Derived.ProofKit
import Derived.WideShapes
import Derived.Test.YtlleafjdgblhcaaGreatDoorQDeskRunOwn8
import Derived.Test.YtlleafjdgblhcaaGreatDoorQDeskRunOwn3
import Derived.Test.YtlleafjdgblhcaaGreatDoorQDeskRunOwn1
import Derived.Test.YtlleafjdgblhcaaGreatDoorQDeskRunOwn2
import Derived.Test.YtlleafjdgblhcaaGreatDoorQDeskRunOwn7
import Derived.Test.YtlleafjdgblhcaaGreatDoorQDeskRunOwn6
namespace Go.Proofs.YtlleafjdgblhcaaGreatDoor
set_option linter.unusedVariables false
set_option linter.unusedSimpArgs false
set_option maxRecDepth 100000
set_option maxHeartbeats 8000000
section
open Go.RowKit Go.Sort
theorem pX (T : Array Value) (X : World) (b : Nat) (v : Value) (lim mode A B C D coast fr code : Int) (hT : T.getD 2 undef = .pointer (some ⟨b, 0, none⟩)) (h : TkO X b v lim mode A B C D coast fr code) : (results Tryz.f22 T).run Tryz.prog X = .ok (.agg #[v, .int .i64 lim, .int .i64 mode, .int .i64 A, .int .i64 B, .int .i64 C, .int .i64 D, .int .i64 coast, .int .i64 fr, .int .i64 code]) X := by
 obtain ⟨⟨h0, h1, h2, h3, h4, h5, h6, h7, h8⟩, h9⟩ := h
 simp only [Array.getD_eq_getD_getElem?] at hT
 simp [results, Tryz.results22, go_sem, hT, h0, h1, h2, h3, h4, h5, h6, h7, h8, h9]
theorem pj (T : Array Value) (X : World) (b : Nat) (v : Value) (lim mode A B C D coast fr code : Int) (hT : T.getD 2 undef = .pointer (some ⟨b, 0, none⟩)) (h : TkO X b v lim mode A B C D coast fr code) : (results Tryz.f106 T).run Tryz.prog X = .ok (.agg #[v, .int .i64 lim, .int .i64 mode, .int .i64 A, .int .i64 B, .int .i64 C, .int .i64 D, .int .i64 coast, .int .i64 fr, .int .i64 code]) X := by
 obtain ⟨⟨h0, h1, h2, h3, h4, h5, h6, h7, h8⟩, h9⟩ := h
 simp only [Array.getD_eq_getD_getElem?] at hT
 simp [results, Tryz.results106, go_sem, hT, h0, h1, h2, h3, h4, h5, h6, h7, h8, h9]
theorem my (T : Array Value) (X : World) (b : Nat) (v : Value) (lim mode A B C D coast fr code : Int) (hT : T.getD 4 undef = .pointer (some ⟨b, 0, none⟩)) (h : TkO X b v lim mode A B C D coast fr code) : (results Tryz.f8 T).run Tryz.prog X = .ok (.agg #[v, .int .i64 lim, .int .i64 mode, .int .i64 A, .int .i64 B, .int .i64 C, .int .i64 D, .int .i64 coast, .int .i64 fr, .int .i64 code]) X := by
 obtain ⟨⟨h0, h1, h2, h3, h4, h5, h6, h7, h8⟩, h9⟩ := h
 simp only [Array.getD_eq_getD_getElem?] at hT
 simp [results, Tryz.results8, go_sem, hT, h0, h1, h2, h3, h4, h5, h6, h7, h8, h9]
theorem uV (T : Array Value) (X : World) (b : Nat) (v : Value) (lim mode A B C D coast fr code : Int) (hT : T.getD 4 undef = .pointer (some ⟨b, 0, none⟩)) (h : TkO X b v lim mode A B C D coast fr code) : (results Tryz.f29 T).run Tryz.prog X = .ok (.agg #[v, .int .i64 lim, .int .i64 mode, .int .i64 A, .int .i64 B, .int .i64 C, .int .i64 D, .int .i64 coast, .int .i64 fr, .int .i64 code]) X := by
 obtain ⟨⟨h0, h1, h2, h3, h4, h5, h6, h7, h8⟩, h9⟩ := h
 simp only [Array.getD_eq_getD_getElem?] at hT
 simp [results, Tryz.results29, go_sem, hT, h0, h1, h2, h3, h4, h5, h6, h7, h8, h9]
def ol (w' : World) (B : Nat) (t : Tk) (code : Int) (e : Ending) : Prop := ∃ a cap, e = .returned (.agg #[.slice a t.L.length cap, .int .i64 t.lim, .int .i64 t.mode, .int .i64 t.A, .int .i64 t.B, .int .i64 t.C, .int .i64 t.D, .int .i64 t.coast, .int .i64 t.fr, .int .i64 code]) ∧ az w' B t.L a cap
theorem xQ (w : World) (B : Nat) : az w B [] none 0 := ⟨rfl, .inl ⟨rfl, rfl⟩⟩
theorem bU (w : World) (B : Nat) (code : Int) : ol w B eY code (.returned (.agg #[.slice none 0 0, .int .i64 0, .int .i64 0, .int .i64 0, .int .i64 0, .int .i64 0, .int .i64 0, .int .i64 0, .int .i64 0, .int .i64 code])) := ⟨none, 0, rfl, xQ w B⟩
def dT (t : Tk) : Tk := if aD t = true then qq t else eY
def gh (t : Tk) : Int := if aD t = true then 0 else 1
theorem TkO.far {w : World} {b : Nat} {v : Value} {lim mode A B C D coast fr code : Int} (h : TkO w b v lim mode A B C D coast fr code) {b' : Nat} (hne : b ≠ b') (o : Nat) (x : Value) : TkO (w.setCell ⟨b', o, none⟩ x) b v lim mode A B C D coast fr code := ⟨h.1.far hne o x, by rw [World.cell?_setCell_far _ _ _ _ (Ne.symm hne)]; exact h.2⟩
theorem TkO.lt {w : World} {b : Nat} {v : Value} {lim mode A B C D coast fr code : Int} (h : TkO w b v lim mode A B C D coast fr code) : b < w.heap.size := h.1.lt
theorem rk (L : List St) (lim mode A B C D coast fr : Int) (ad : Option Addr) (c : Nat) (w : World) (hn : L.length ≤ 1048576) (hS : aR w ad L L.length) :
  Calls Tryz.prog 22 #[.agg #[.slice ad L.length c, .int .i64 lim, .int .i64 mode, .int .i64 A, .int .i64 B, .int .i64 C, .int .i64 D, .int .i64 coast, .int .i64 fr]] w fun e w' => ol w' w.heap.size (dT ⟨L, lim, mode, A, B, C, D, coast, fr⟩) (gh ⟨L, lim, mode, A, B, C, D, coast, fr⟩) e ∧ Below w.heap.size w w' := by
 have B0 := aO w (.cells #[.slice ad L.length c, .int .i64 lim, .int .i64 mode, .int .i64 A, .int .i64 B, .int .i64 C, .int .i64 D, .int .i64 coast, .int .i64 fr] 34) (.cells #[.slice none 0 0, .int .i64 0, .int .i64 0, .int .i64 0, .int .i64 0, .int .i64 0, .int .i64 0, .int .i64 0, .int .i64 0, .int .i64 0] 36)
 have T0 := (dy w (.slice ad L.length c) lim mode A B C D coast fr 34).kept (an _ (.cells #[.slice none 0 0, .int .i64 0, .int .i64 0, .int .i64 0, .int .i64 0, .int .i64 0, .int .i64 0, .int .i64 0, .int .i64 0, .int .i64 0] 36))
 have R0 := (by simpa using kJ (w.alloc (.cells #[.slice ad L.length c, .int .i64 lim, .int .i64 mode, .int .i64 A, .int .i64 B, .int .i64 C, .int .i64 D, .int .i64 coast, .int .i64 fr] 34)) (.slice none 0 0) 0 0 0 0 0 0 0 0 0 36 : TkO ((w.alloc (.cells #[.slice ad L.length c, .int .i64 lim, .int .i64 mode, .int .i64 A, .int .i64 B, .int .i64 C, .int .i64 D, .int .i64 coast, .int .i64 fr] 34)).alloc (.cells #[.slice none 0 0, .int .i64 0, .int .i64 0, .int .i64 0, .int .i64 0, .int .i64 0, .int .i64 0, .int .i64 0, .int .i64 0, .int .i64 0] 36)) (w.heap.size + 1) (.slice none 0 0) 0 0 0 0 0 0 0 0 0)
 have G0 := (by simpa using du (w.alloc (.cells #[.slice ad L.length c, .int .i64 lim, .int .i64 mode, .int .i64 A, .int .i64 B, .int .i64 C, .int .i64 D, .int .i64 coast, .int .i64 fr] 34)) #[.slice none 0 0, .int .i64 0, .int .i64 0, .int .i64 0, .int .i64 0, .int .i64 0, .int .i64 0, .int .i64 0, .int .i64 0, .int .i64 0] 36 : fF ((w.alloc (.cells #[.slice ad L.length c, .int .i64 lim, .int .i64 mode, .int .i64 A, .int .i64 B, .int .i64 C, .int .i64 D, .int .i64 coast, .int .i64 fr] 34)).alloc (.cells #[.slice none 0 0, .int .i64 0, .int .i64 0, .int .i64 0, .int .i64 0, .int .i64 0, .int .i64 0, .int .i64 0, .int .i64 0, .int .i64 0] 36)) (w.heap.size + 1))
 have hsz : w.heap.size + 2 ≤ ((w.alloc (.cells #[.slice ad L.length c, .int .i64 lim, .int .i64 mode, .int .i64 A, .int .i64 B, .int .i64 C, .int .i64 D, .int .i64 coast, .int .i64 fr] 34)).alloc (.cells #[.slice none 0 0, .int .i64 0, .int .i64 0, .int .i64 0, .int .i64 0, .int .i64 0, .int .i64 0, .int .i64 0, .int .i64 0, .int .i64 0] 36)).heap.size := by simp
 have S0 := hS.kept B0
 have cR := yz (fun W h => iL L lim mode A B C D coast fr ad c W hn h)
 have cC := yz (fun W h => jO L lim mode A B C D coast fr ad c W hn h)
 have HB := yz B0
 have HT := yz T0
 have HR := yz R0
 have HG := yz G0
 have HS := yz S0
 clear B0 T0 R0 G0 S0 hS
 go_enter Tryz.func22, Tryz.ntmps22
 go_wp2_with fail
 generalize (w.alloc (.cells #[.slice ad L.length c, .int .i64 lim, .int .i64 mode, .int .i64 A, .int .i64 B, .int .i64 C, .int .i64 D, .int .i64 coast, .int .i64 fr] 34)).alloc (.cells #[.slice none 0 0, .int .i64 0, .int .i64 0, .int .i64 0, .int .i64 0, .int .i64 0, .int .i64 0, .int .i64 0, .int .i64 0, .int .i64 0] 36) = W at *
 refine (yy cR _ (yy HS)).mono ?_
 rintro e w1 ⟨rfl, hx⟩
 have B1 := yz (ak (yy HB) hx)
 have T1 := yz ((yy HT).kept hx)
 have R1 := yz ((yy HR).kept hx)
 have G1 := yz ((yy HG).kept (yy HR).lt hx)
 have S1 := yz ((yy HS).kept hx)
 have hsz1 : w.heap.size + 2 ≤ w1.heap.size := Nat.le_trans hsz hx.size
 clear hx HB HT HR HG HS hsz cR
 cases hk : aD ⟨L, lim, mode, A, B, C, D, coast, fr⟩
 ·have HO1 : Hid (dT ⟨L, lim, mode, A, B, C, D, coast, fr⟩ = eY) := yz (by unfold dT; rw [hk]; rfl)
  have HO2 : Hid (gh ⟨L, lim, mode, A, B, C, D, coast, fr⟩ = 1) := yz (by unfold gh; rw [hk]; rfl)
  go_wp2_with fail
  refine (dA 1 _).mono ?_
  rintro e w2 ⟨rfl, hx⟩
  have B2 := yz (ak (yy B1) hx)
  have R2 := yz ((yy R1).kept hx)
  have G2 := yz ((yy G1).kept (yy R1).lt hx)
  clear hx B1 R1 G1
  obtain ⟨⟨r0, r1, r2, r3, r4, r5, r6, r7, r8⟩, r9⟩ := yy R2
  have g0 := yy G2 0
  have g1 := yy G2 1
  have g2 := yy G2 2
  have g3 := yy G2 3
  have g4 := yy G2 4
  have g5 := yy G2 5
  have g6 := yy G2 6
  have g7 := yy G2 7
  have g8 := yy G2 8
  have g9 := yy G2 9
  go_wp2_with fail
  clear r0 r1 r2 r3 r4 r5 r6 r7 r8 r9 g0 g1 g2 g3 g4 g5 g6 g7 g8 g9
  refine bodyPost_ret (v := .agg #[.slice none 0 0, .int .i64 0, .int .i64 0, .int .i64 0, .int .i64 0, .int .i64 0, .int .i64 0, .int .i64 0, .int .i64 0, .int .i64 1]) ?_ rfl ⟨?_, ?_⟩
  ·refine pX _ _ (w.heap.size + 1) _ 0 0 0 0 0 0 0 0 1 rfl ?_
   exact bA (yy R2) _ _ _ _ _ _ _ _ _ _
  ·rw [yy HO1, yy HO2]
   exact bU _ _ _
  ·iterate 10 (refine aC ?_ (show w.heap.size ≤ w.heap.size + 1 by omega) _ _)
   exact yy B2
 ·have HO1 : Hid (dT ⟨L, lim, mode, A, B, C, D, coast, fr⟩ = ⟨L, lim, 0, 0, 0, 0, 0, 0, fr⟩) := yz (by unfold dT; rw [hk]; rfl)
  have HO2 : Hid (gh ⟨L, lim, mode, A, B, C, D, coast, fr⟩ = 0) := yz (by unfold gh; rw [hk]; rfl)
  clear hk
  obtain ⟨s0, s1, s2, s3, s4, s5, s6, s7, s8⟩ := yy T1
  go_wp2_with fail
  clear s0 s1 s2 s3 s4 s5 s6 s7 s8
  refine (yy cC _ (yy S1)).mono ?_
  rintro e w2 ⟨a, cap, rfl, hC, hx⟩
  have B2 := yz (ak (yy B1) hx)
  have R2 := yz ((yy R1).kept hx)
  have G2 := yz ((yy G1).kept (yy R1).lt hx)
  have C2 := yz (hC.low (B' := w.heap.size + 2) (by omega))
  clear hx hC B1 R1 G1 T1 S1 cC
  go_wp2_with fail
  refine (iq lim mode A B C D coast fr a L.length cap _).mono ?_
  rintro e w3 ⟨rfl, hx⟩
  have B3 := yz (ak (yy B2) hx)
  have R3 := yz ((yy R2).kept hx)
  have G3 := yz ((yy G2).kept (yy R2).lt hx)
  have C3 := yz ((yy C2).kept hx)
  clear hx B2 R2 G2 C2
  obtain ⟨⟨r0, r1, r2, r3, r4, r5, r6, r7, r8⟩, r9⟩ := yy R3
  have g0 := yy G3 0
  have g1 := yy G3 1
  have g2 := yy G3 2
  have g3 := yy G3 3
  have g4 := yy G3 4
  have g5 := yy G3 5
  have g6 := yy G3 6
  have g7 := yy G3 7
  have g8 := yy G3 8
  have g9 := yy G3 9
  go_wp2_with fail
  clear r0 r1 r2 r3 r4 r5 r6 r7 r8 r9 g0 g1 g2 g3 g4 g5 g6 g7 g8 g9
  refine bodyPost_ret (v := .agg #[.slice a L.length cap, .int .i64 lim, .int .i64 0, .int .i64 0, .int .i64 0, .int .i64 0, .int .i64 0, .int .i64 0, .int .i64 fr, .int .i64 0]) ?_ rfl ⟨?_, ?_⟩
  ·refine pX _ _ (w.heap.size + 1) _ lim 0 0 0 0 0 0 fr 0 rfl ?_
   exact bA (yy R3) _ _ _ _ _ _ _ _ _ _
  ·rw [yy HO1, yy HO2]
   refine ⟨a, cap, rfl, ?_⟩
   refine az.low (B := w.heap.size + 2) ?_ (by omega)
   iterate 10 (refine az.far ?_ (show w.heap.size + 1 < w.heap.size + 2 by omega) _ _)
   exact yy C3
  ·iterate 10 (refine aC ?_ (show w.heap.size ≤ w.heap.size + 1 by omega) _ _)
   exact yy B3
def Blk (w : World) (b : Nat) (cs : List Value) (t : TypeId) : Prop := w.heap[b]? = some (.cells cs.toArray t (0, 0))
theorem Blk.lt {w : World} {b : Nat} {cs : List Value} {t : TypeId} (h : Blk w b cs t) : b < w.heap.size := (Array.getElem?_eq_some_iff.1 h).1
theorem Blk.kept {w w' : World} {b : Nat} {cs : List Value} {t : TypeId} (h : Blk w b cs t) (hB : Below w.heap.size w w') : Blk w' b cs t := (hB.block b h.lt).trans h
theorem ap (w : World) (cs : List Value) (t : TypeId) : Blk (w.alloc (.cells cs.toArray t)) w.heap.size cs t := heap_alloc_new w _
theorem Blk.alloc {w : World} {b : Nat} {cs : List Value} {t : TypeId} (h : Blk w b cs t) (o : Obj) : Blk (w.alloc o) b cs t := h.kept (an _ _)
theorem Blk.cell {w : World} {b : Nat} {cs : List Value} {t : TypeId} (h : Blk w b cs t) (i : Nat) (v : Value) (hv : cs[i]? = some v) : w.cell? ⟨b, i, none⟩ = some v := by
 rw [cell_of_row w b i _ _ _ h]; simpa using hv
theorem Blk.free {w : World} {b : Nat} {cs : List Value} {t : TypeId} (h : Blk w b cs t) (i : Nat) : w.frozen? ⟨b, i, none⟩ = false := frozen_of_row w b i _ _ h
theorem Blk.set {w : World} {b : Nat} {cs : List Value} {t : TypeId} (h : Blk w b cs t) (i : Nat) (v : Value) : Blk (w.setCell ⟨b, i, none⟩ v) b (cs.set i v) t := by
 have := heap_setCell_same w b i _ _ v h
 unfold Blk
 rw [this]
 simp
theorem Blk.other {w : World} {b : Nat} {cs : List Value} {t : TypeId} (h : Blk w b cs t) (a : Addr) (v : Value) (hne : b ≠ a.block) : Blk (w.setCell a v) b cs t := by
 unfold Blk
 rw [heap_setCell_other w a b v hne]
 exact h
theorem Blk.drewn {w : World} {b : Nat} {cs : List Value} {t : TypeId} (h : Blk w b cs t) : Blk w.drew b cs t := h
def me (w : World) (b n : Nat) (f : Nat → Int) : Prop := ∀ j, j < n → w.cell? ⟨b, j, none⟩ = some (.int .u8 (f j)) ∧ w.frozen? ⟨b, j, none⟩ = false
theorem me.kept {w w' : World} {b n : Nat} {f : Nat → Int} (h : me w b n f) (hb : b < w.heap.size) (hB : Below w.heap.size w w') : me w' b n f := fun j hj =>
 ⟨by rw [hB.cell (p := ⟨b, j, none⟩) hb]; exact (h j hj).1, by rw [hB.frozen (p := ⟨b, j, none⟩) hb]; exact (h j hj).2⟩
theorem me.drewn {w : World} {b n : Nat} {f : Nat → Int} (h : me w b n f) : me w.drew b n f := h
theorem me.congr {w : World} {b n : Nat} {f f' : Nat → Int} (h : me w b n f) (e : ∀ j, j < n → f j = f' j) : me w b n f' := fun j hj => ⟨by rw [(h j hj).1, e j hj], (h j hj).2⟩
theorem me.set {w : World} {b n : Nat} {f : Nat → Int} (h : me w b n f) (i : Nat) (hi : i < n) (v : Int) : me (w.setCell ⟨b, i, none⟩ (.int .u8 v)) b n (fun j => if j = i then v else f j) := fun j hj => by
 refine ⟨?_, ?_⟩
 ·show _ = some (Value.int .u8 (if j = i then v else f j))
  by_cases e : j = i
  ·subst e
   rw [if_pos rfl, World.cell?_setCell_same _ _ _ (h j hj).1]
  ·rw [if_neg e, World.cell?_setCell_other _ _ _ _ (fun h => e (by simpa using (congrArg Addr.off h).symm)), (h j hj).1]
 ·rw [← (h j hj).2]
  simp
def BP (f d : ByteArray) (j : Nat) : Int := if gu f j < gu d j then 0 else (gu f j : Int) - (gu d j : Int)
def EC (f d : ByteArray) : ByteArray := strOfNums ((List.range f.size).map (BP f d))
theorem me.conv {w : World} {b : Nat} {f d : ByteArray} (h : me w b f.size (BP f d)) (cap : Nat) :
  (convert 41 9 (.slice (some ⟨b, 0, none⟩) f.size cap)).run Tryz.prog w = .ok (.string (EC f d)) w := by
 refine run_convert_bytes_arg (P := Tryz.prog) _ 41 5 Tryz.underlying41 Tryz.underlying5 b 0 f.size cap ((List.range f.size).map (BP f d)) (by simp) ?_ 9 Tryz.underlying9
 intro i hi
 rw [Nat.zero_add, (h i hi).1]
 congr 2
 rw [List.getD, List.getElem?_map, List.getElem?_range hi]
 rfl
theorem js {w : World} {b : Nat} {t : TypeId} {x0 x1 x2 : Value} {r : List Value} (h : Blk w b (x0 :: x1 :: x2 :: r) t) : w.cell? ⟨b, 0, none⟩ = some x0 ∧ w.cell? ⟨b, 1, none⟩ = some x1 ∧ w.cell? ⟨b, 2, none⟩ = some x2 := ⟨h.cell 0 _ rfl, h.cell 1 _ rfl, h.cell 2 _ rfl⟩
theorem we {w : World} {b : Nat} {t : TypeId} {x0 x1 x2 x3 : Value} {r : List Value} (h : Blk w b (x0 :: x1 :: x2 :: x3 :: r) t) : w.cell? ⟨b, 0, none⟩ = some x0 ∧ w.cell? ⟨b, 1, none⟩ = some x1 ∧ w.cell? ⟨b, 2, none⟩ = some x2 ∧ w.cell? ⟨b, 3, none⟩ = some x3 := ⟨h.cell 0 _ rfl, h.cell 1 _ rfl, h.cell 2 _ rfl, h.cell 3 _ rfl⟩
theorem mC {w : World} {b : Nat} {t : TypeId} {x0 x1 x2 x3 x4 : Value} {r : List Value} (h : Blk w b (x0 :: x1 :: x2 :: x3 :: x4 :: r) t) : w.cell? ⟨b, 0, none⟩ = some x0 ∧ w.cell? ⟨b, 1, none⟩ = some x1 ∧ w.cell? ⟨b, 2, none⟩ = some x2 ∧ w.cell? ⟨b, 3, none⟩ = some x3 ∧ w.cell? ⟨b, 4, none⟩ = some x4 := ⟨h.cell 0 _ rfl, h.cell 1 _ rfl, h.cell 2 _ rfl, h.cell 3 _ rfl, h.cell 4 _ rfl⟩
theorem fh {w : World} {b : Nat} {t : TypeId} {x0 x1 x2 x3 x4 x5 x6 x7 x8 : Value} {r : List Value} (h : Blk w b (x0 :: x1 :: x2 :: x3 :: x4 :: x5 :: x6 :: x7 :: x8 :: r) t) : w.cell? ⟨b, 0, none⟩ = some x0 ∧ w.cell? ⟨b, 1, none⟩ = some x1 ∧ w.cell? ⟨b, 2, none⟩ = some x2 ∧ w.cell? ⟨b, 3, none⟩ = some x3 ∧ w.cell? ⟨b, 4, none⟩ = some x4 ∧ w.cell? ⟨b, 5, none⟩ = some x5 ∧ w.cell? ⟨b, 6, none⟩ = some x6 ∧ w.cell? ⟨b, 7, none⟩ = some x7 ∧ w.cell? ⟨b, 8, none⟩ = some x8 := ⟨h.cell 0 _ rfl, h.cell 1 _ rfl, h.cell 2 _ rfl, h.cell 3 _ rfl, h.cell 4 _ rfl, h.cell 5 _ rfl, h.cell 6 _ rfl, h.cell 7 _ rfl, h.cell 8 _ rfl⟩
theorem fV {w : World} {b : Nat} {t : TypeId} {x0 x1 x2 x3 x4 x5 x6 x7 x8 x9 : Value} {r : List Value} (h : Blk w b (x0 :: x1 :: x2 :: x3 :: x4 :: x5 :: x6 :: x7 :: x8 :: x9 :: r) t) : w.cell? ⟨b, 0, none⟩ = some x0 ∧ w.cell? ⟨b, 1, none⟩ = some x1 ∧ w.cell? ⟨b, 2, none⟩ = some x2 ∧ w.cell? ⟨b, 3, none⟩ = some x3 ∧ w.cell? ⟨b, 4, none⟩ = some x4 ∧ w.cell? ⟨b, 5, none⟩ = some x5 ∧ w.cell? ⟨b, 6, none⟩ = some x6 ∧ w.cell? ⟨b, 7, none⟩ = some x7 ∧ w.cell? ⟨b, 8, none⟩ = some x8 ∧ w.cell? ⟨b, 9, none⟩ = some x9 := ⟨h.cell 0 _ rfl, h.cell 1 _ rfl, h.cell 2 _ rfl, h.cell 3 _ rfl, h.cell 4 _ rfl, h.cell 5 _ rfl, h.cell 6 _ rfl, h.cell 7 _ rfl, h.cell 8 _ rfl, h.cell 9 _ rfl⟩
theorem Bo {w : World} {b : Nat} {t : TypeId} {x0 x1 x2 x3 x4 x5 x6 x7 x8 x9 x10 x11 x12 : Value} {r : List Value} (h : Blk w b (x0 :: x1 :: x2 :: x3 :: x4 :: x5 :: x6 :: x7 :: x8 :: x9 :: x10 :: x11 :: x12 :: r) t) : w.cell? ⟨b, 0, none⟩ = some x0 ∧ w.cell? ⟨b, 1, none⟩ = some x1 ∧ w.cell? ⟨b, 2, none⟩ = some x2 ∧ w.cell? ⟨b, 3, none⟩ = some x3 ∧ w.cell? ⟨b, 4, none⟩ = some x4 ∧ w.cell? ⟨b, 5, none⟩ = some x5 ∧ w.cell? ⟨b, 6, none⟩ = some x6 ∧ w.cell? ⟨b, 7, none⟩ = some x7 ∧ w.cell? ⟨b, 8, none⟩ = some x8 ∧ w.cell? ⟨b, 9, none⟩ = some x9 ∧ w.cell? ⟨b, 10, none⟩ = some x10 ∧ w.cell? ⟨b, 11, none⟩ = some x11 ∧ w.cell? ⟨b, 12, none⟩ = some x12 := ⟨h.cell 0 _ rfl, h.cell 1 _ rfl, h.cell 2 _ rfl, h.cell 3 _ rfl, h.cell 4 _ rfl, h.cell 5 _ rfl, h.cell 6 _ rfl, h.cell 7 _ rfl, h.cell 8 _ rfl, h.cell 9 _ rfl, h.cell 10 _ rfl, h.cell 11 _ rfl, h.cell 12 _ rfl⟩
theorem zI {w : World} {b : Nat} {t : TypeId} {cs : List Value} (h : Blk w b cs t) : w.frozen? ⟨b, 0, none⟩ = false ∧ w.frozen? ⟨b, 1, none⟩ = false ∧ w.frozen? ⟨b, 2, none⟩ = false := ⟨h.free 0, h.free 1, h.free 2⟩
theorem ta {w : World} {b : Nat} {t : TypeId} {cs : List Value} (h : Blk w b cs t) : w.frozen? ⟨b, 0, none⟩ = false ∧ w.frozen? ⟨b, 1, none⟩ = false ∧ w.frozen? ⟨b, 2, none⟩ = false ∧ w.frozen? ⟨b, 3, none⟩ = false ∧ w.frozen? ⟨b, 4, none⟩ = false := ⟨h.free 0, h.free 1, h.free 2, h.free 3, h.free 4⟩
theorem lI {w : World} {b : Nat} {t : TypeId} {cs : List Value} (h : Blk w b cs t) : w.frozen? ⟨b, 0, none⟩ = false ∧ w.frozen? ⟨b, 1, none⟩ = false ∧ w.frozen? ⟨b, 2, none⟩ = false ∧ w.frozen? ⟨b, 3, none⟩ = false ∧ w.frozen? ⟨b, 4, none⟩ = false ∧ w.frozen? ⟨b, 5, none⟩ = false ∧ w.frozen? ⟨b, 6, none⟩ = false ∧ w.frozen? ⟨b, 7, none⟩ = false ∧ w.frozen? ⟨b, 8, none⟩ = false := ⟨h.free 0, h.free 1, h.free 2, h.free 3, h.free 4, h.free 5, h.free 6, h.free 7, h.free 8⟩
theorem fU {w : World} {b : Nat} {t : TypeId} {cs : List Value} (h : Blk w b cs t) : w.frozen? ⟨b, 0, none⟩ = false ∧ w.frozen? ⟨b, 1, none⟩ = false ∧ w.frozen? ⟨b, 2, none⟩ = false ∧ w.frozen? ⟨b, 3, none⟩ = false ∧ w.frozen? ⟨b, 4, none⟩ = false ∧ w.frozen? ⟨b, 5, none⟩ = false ∧ w.frozen? ⟨b, 6, none⟩ = false ∧ w.frozen? ⟨b, 7, none⟩ = false ∧ w.frozen? ⟨b, 8, none⟩ = false ∧ w.frozen? ⟨b, 9, none⟩ = false := ⟨h.free 0, h.free 1, h.free 2, h.free 3, h.free 4, h.free 5, h.free 6, h.free 7, h.free 8, h.free 9⟩
def nums (l : List Nat) : List Value := l.map fun (n : Nat) => Value.int .i64 (n : Int)
theorem Blk.grown {w w2 : World} {b : Nat} {cs : List Value} {t : TypeId} {row : Option Nat} (h : Blk w b cs t) (hg : w.grownBy w2 row) (hne : some b ≠ row) : Blk w2 b cs t := (hg.block b h.lt hne).trans h
theorem cH.grown {w w2 : World} {t : TypeId} {g m : Nat} {f : Nat → Value} {row : Option Nat} (h : cH w t g m f) (hg : w.grownBy w2 row) (hne : some g ≠ row) : cH w2 t g m f := h.same (hg.block g h.lt hne)
theorem cH.drewn {w : World} {t : TypeId} {g m : Nat} {f : Nat → Value} (h : cH w t g m f) : cH w.drew t g m f := h.same rfl
theorem bm {w w' : World} {B : Nat} {t : TypeId} {v : Value} {n m : Nat} {xs : List Value} (h : w.ownsRow B t m v n xs) (hB : Below w.heap.size w w') : w'.ownsRow B t m v n xs :=
 h.kept (row := none) ⟨hB.os, hB.tape, hB.output, hB.size, fun k hk _ => hB.block k hk⟩ (by cases hv : v.ownBlock <;> simp)
theorem cH.other {w : World} {t : TypeId} {g m : Nat} {f : Nat → Value} (h : cH w t g m f) (a : Addr) (v : Value) (hne : g ≠ a.block) : cH (w.setCell a v) t g m f := h.same (heap_setCell_other w a g v hne)
theorem dD {w : World} {B : Nat} {t : TypeId} {v : Value} {n m : Nat} {xs : List Value} (h : w.ownsRow B t m v n xs) : ∃ a c, v = .slice a n c := by
 rcases h.2 with ⟨h1, h0⟩ | ⟨g, cap, cur, hv, _⟩
 ·exact ⟨none, 0, by rw [h1, h0]⟩
 ·exact ⟨_, cap, hv⟩
theorem cg {w : World} {B B' n m : Nat} {t : TypeId} {v : Value} {xs : List Value} (h : w.ownsRow B t m v n xs) (hb : B' ≤ B) : w.ownsRow B' t m v n xs := by
 obtain ⟨h1, h2⟩ := h
 refine ⟨h1, ?_⟩
 rcases h2 with h2 | ⟨g, cap, cur, e, hg, r⟩
 ·exact .inl h2
 ·exact .inr ⟨g, cap, cur, e, by omega, r⟩
theorem BH (w : World) (vs : List Value) (t : TypeId) : ∀ (j : Nat) (u : Value), vs[j]? = some u → (w.alloc (.cells vs.toArray t)).cell? ((⟨w.heap.size, 0, none⟩ : Addr).add j) = some u := by
 intro j u hj
 have e : (⟨w.heap.size, 0, none⟩ : Addr).add j = ⟨w.heap.size, j, none⟩ := by cases j <;> simp [Addr.add]
 rw [e]
 simp [hj]
def DX (su sx sy : Int) : Bool := decide (1 ≤ su ∧ su ≤ 10000 ∧ 0 ≤ sx ∧ sx ≤ 15 * su ∧ 0 ≤ sy ∧ sy ≤ 11 * su)
def focB (fo : Int) : Bool := decide (1 ≤ fo ∧ fo ≤ 40)
def spX (sx wd su : Int) : Int := 2 * sx - (wd - 1) * su
def spZ (fo su : Int) : Int := 2 * fo * su
def DU (su sx sy wd ht : Int) (s : ByteArray) (fo : Int) : Bool := DX su sx sy && Eb wd ht s && focB fo
def spI (ok : Bool) (x y z c : Int) : Int := if ok then prI true (gI x y z) c else 0
theorem vH : (Tryz.prog.info? 58).map (fun i => (i.zero, i.size, i.bytes)) = some (some (.agg #[.int .i64 0, .int .i64 0, .int .i64 0]), 3, 24) := by kernel_rfl
def CW (v : Int × Int × Int) : List Value := [.int .i64 v.1, .int .i64 v.2.1, .int .i64 v.2.2]
def ek (S : List (Int × Int × Int)) : List Value := S.flatMap CW
theorem ry (A B : List (Int × Int × Int)) : ek (A ++ B) = ek A ++ ek B := by unfold ek; rw [List.flatMap_append]
theorem oW {S : List (Int × Int × Int)} {v : Value} (h : v ∈ ek S) : v.oneCell' = true := by
 unfold ek at h
 rw [List.mem_flatMap] at h
 obtain ⟨p, _, hp⟩ := h
 simp [CW] at hp
 rcases hp with rfl | rfl | rfl <;> rfl
theorem Ax (w : World) (B : Nat) (h : B ≤ w.heap.size) : (w.alloc (.cells #[] 58)).ownsRow B 58 3 (.slice (some ⟨w.heap.size, 0, none⟩) 0 0) 0 (ek []) :=
 ⟨rfl, .inr ⟨_, 0, #[], rfl, h, Array.getElem?_push_size, Nat.le_refl _, Nat.zero_le _, rfl, rfl⟩⟩
def spT (wd ht : Int) (s : ByteArray) (fo : Int) (b : Bl) : Int × Int × Int :=
 (spI (DU b.su b.sx b.sy wd ht s fo) (spX b.sx wd b.su) (spX b.sy ht b.su) (spZ fo b.su) (spX b.sx wd b.su), spI (DU b.su b.sx b.sy wd ht s fo) (spX b.sx wd b.su) (spX b.sy ht b.su) (spZ fo b.su) (spX b.sy ht b.su), spI (DU b.su b.sx b.sy wd ht s fo) (spX b.sx wd b.su) (spX b.sy ht b.su) (spZ fo b.su) (spZ fo b.su))
def By (wd ht : Int) (s : ByteArray) (fo : Int) (b : Bl) : Bool := Ez b.ar b.ed 1 20 && cz (spT wd ht s fo b).1 (spT wd ht s fo b).2.1 (spT wd ht s fo b).2.2
end
section
open Go.RowKit Go.Sort
end
section
open Go.RowKit Go.Sort
def yv (w : World) (b o : Nat) (v : D3) : Prop := w.cell? ⟨b, o, none⟩ = some (.int .i64 v.1) ∧ w.cell? ⟨b, o + 1, none⟩ = some (.int .i64 v.2.1) ∧ w.cell? ⟨b, o + 2, none⟩ = some (.int .i64 v.2.2)
def cf (w : World) (a : Option Addr) (L : List D3) (n : Nat) : Prop := n = 0 ∨ ∃ b o, a = some ⟨b, o, none⟩ ∧ b < w.heap.size ∧ ∀ i, i < n → yv w b (o + i * 3) (vA L i)
theorem yv.kept {w w' : World} {b o : Nat} {s : D3} (h : yv w b o s) (hb : b < w.heap.size) (hB : Below w.heap.size w w') : yv w' b o s := by
 obtain ⟨h0, h1, h2⟩ := h
 exact ⟨by rw [hB.cell (p := ⟨b, o, none⟩) hb]; exact h0, by rw [hB.cell (p := ⟨b, o + 1, none⟩) hb]; exact h1, by rw [hB.cell (p := ⟨b, o + 2, none⟩) hb]; exact h2⟩
theorem cf.kept {w w' : World} {a : Option Addr} {L : List D3} {n : Nat} (h : cf w a L n) (hB : Below w.heap.size w w') : cf w' a L n := by
 rcases h with h | ⟨b, o, ha, hb, hc⟩
 ·exact .inl h
 ·exact .inr ⟨b, o, ha, Nat.lt_of_lt_of_le hb hB.size, fun i hi => (hc i hi).kept hb hB⟩
theorem cf.less {w : World} {a : Option Addr} {L : List D3} {n m : Nat} (h : cf w a L n) (hm : m ≤ n) : cf w a L m := by
 rcases h with h | ⟨b, o, ha, hb, hc⟩
 ·exact .inl (by omega)
 ·exact .inr ⟨b, o, ha, hb, fun i hi => hc i (by omega)⟩
theorem mM {w : World} {b : Nat} {x y z : Int} (h : aG w b x y z) : b < w.heap.size := World.block_lt_of_cell? w _ h.1
theorem uJ (L : List D3) (n : Nat) (x y z : Int) (a : Option Addr) (c : Nat) (w : World) (hn : n ≤ 1048576) (hS : cf w a L n) :
  Calls Tryz.prog 149 #[.agg #[.int .i64 x, .int .i64 y, .int .i64 z], .slice a n c] w fun e w' => e = .returned (.bool (jw L (x, y, z) n)) ∧ Below w.heap.size w w' := by
 rcases hS with rfl | ⟨b, o, rfl, hb, hc⟩
 ·go_enter Tryz.func149, Tryz.ntmps149
  go_wp2_with fail
  refine wp_loop_rounds 1 ?_
  rw [rounds_succ]
  go_wp2_with fail
  go_ret
  exact ⟨rfl, an _ _⟩
 ·have HC := yz hc
  clear hc
  have V0 := yz (aF w x y z 58)
  have B0 := yz (an w (.cells #[.int .i64 x, .int .i64 y, .int .i64 z] 58))
  go_enter Tryz.func149, Tryz.ntmps149
  go_wp2_with fail
  go_loopw [9] (fun i wr => ∃ k : Nat, k ≤ n ∧ i = .int .i64 k ∧ Hid (mj L (x, y, z) k) ∧ Hid (Below w.heap.size w wr) ∧ Hid (aG wr w.heap.size x y z)) (fun i _ => n - (intOf i).toNat)
  case atStart => exact ⟨0, by omega, rfl, yz (fun j hj => absurd hj (Nat.not_lt_zero _)), B0, V0⟩
  case round =>
   obtain ⟨k, hk, rfl, HF, HB, HV⟩ := hrel
   by_cases hkn : k < n
   ·obtain ⟨⟨s2, s3, s4⟩, hs⟩ : ∃ s, vA L k = s := ⟨_, rfl⟩
    have hst := ((yy HC) k hkn).kept hb (yy HB)
    rw [hs] at hst
    obtain ⟨c0, c1, c2⟩ := hst
    have HS := yz hs
    clear hs
    have V1 := yz (aG.alloc (yy HV) (mM (yy HV)) (.cells #[.int .i64 s2, .int .i64 s3, .int .i64 s4] 58))
    have B1 := yz ((yy HB).alloc (yy HB).size (.cells #[.int .i64 s2, .int .i64 s3, .int .i64 s4] 58))
    obtain ⟨v0, v1, v2⟩ := yy V1
    go_wp2_with fail
    refine (iz x y z s2 s3 s4 _).mono ?_
    rintro e w2 ⟨rfl, hx⟩
    have HV2 := yz ((yy V1).kept (mM (yy V1)) hx)
    have HB2 := yz (ak (yy B1) hx)
    clear hx c0 c1 c2 v0 v1 v2 V1 B1 HB HV
    have HR : Hid (bN (x, y, z) (vA L k) = dB x y z s2 s3 s4) := yz (by rw [yy HS]; rfl)
    cases hq : dB x y z s2 s3 s4
    ·rw [hq] at HR
     go_wp2_with fail
     go_roundw
     case rel => exact ⟨k + 1, by omega, by go_num, yz (qu (yy HF) (yy HR)), HB2, HV2⟩
     case measure => simp [intOf]; omega
    ·rw [hq] at HR
     go_wp2_with fail
     go_ret
     exact ⟨by rw [sE hkn (yy HR)]; rfl, yy HB2⟩
   ·have hkn' : k = n := by omega
    subst hkn'
    go_wp2_with fail
    go_ret
    exact ⟨by rw [ux (yy HF)]; rfl, yy HB⟩
theorem fC (L : List D3) (a : Option Addr) (c : Nat) (w : World) (hn : L.length ≤ 1048576) (hcap : L.length ≤ c) (hc9 : c ≤ 9223372036854775807) (hS : cf w a L L.length) :
  Calls Tryz.prog 127 #[.slice a L.length c] w fun e w' => e = .returned (.bool (aU L)) ∧ Below w.heap.size w w' := by
 obtain ⟨n, hnl⟩ : ∃ n, L.length = n := ⟨_, rfl⟩
 rw [hnl] at hn hcap hS ⊢
 have HL := yz hnl
 clear hnl
 by_cases h12 : 6 < n
 ·have h12' : (6 : Int) < (n : Int) := by omega
  have HO : Hid (aU L = false) := yz (oZ (by rw [yy HL]; exact h12))
  clear hS
  go_enter Tryz.func127, Tryz.ntmps127
  go_wp2
  go_ret
  exact ⟨by rw [yy HO]; rfl, Below.refl _ _⟩
 have h12' : ¬ (6 : Int) < (n : Int) := by omega
 rcases hS with rfl | ⟨b, o, rfl, hb, hc⟩
 ·have HO : Hid (aU L = true) := yz (kx (by rw [yy HL]; omega) (by rw [yy HL]; intro j hj; omega))
  go_enter Tryz.func127, Tryz.ntmps127
  go_wp2_with fail
  refine wp_loop_rounds 1 ?_
  rw [rounds_succ]
  go_wp2_with fail
  go_ret
  exact ⟨by rw [yy HO]; rfl, Below.refl _ _⟩
 have HC := yz hc
 have HS : Hid (cf w (some ⟨b, o, none⟩) L n) := yz (.inr ⟨b, o, rfl, hb, hc⟩)
 clear hc
 go_enter Tryz.func127, Tryz.ntmps127
 go_wp2_with fail
 go_loopw [10] (fun i wr => ∃ k : Nat, k ≤ n ∧ i = .int .i64 k ∧ Hid (ss L k) ∧ Hid (Below w.heap.size w wr)) (fun i _ => n - (intOf i).toNat)
 case atStart => exact ⟨0, by omega, rfl, yz (fun j hj => absurd hj (Nat.not_lt_zero _)), yz (Below.refl _ _)⟩
 case round =>
  obtain ⟨k, hk, rfl, HF, HB⟩ := hrel
  by_cases hkn : k < n
  ·obtain ⟨⟨s2, s3, s4⟩, hs⟩ : ∃ s, vA L k = s := ⟨_, rfl⟩
   have hst := ((yy HC) k hkn).kept hb (yy HB)
   rw [hs] at hst
   obtain ⟨c0, c1, c2⟩ := hst
   have HT := yz hs
   clear hs
   have B1 := yz ((yy HB).alloc (yy HB).size (.cells #[.int .i64 s2, .int .i64 s3, .int .i64 s4] 58))
   have N1 := yz (aF wr s2 s3 s4 58)
   go_wp2_with fail
   clear c0 c1 c2
   have hb1 := yy B1
   have hn1 := yy N1
   generalize hwe : wr.alloc (.cells #[.int .i64 s2, .int .i64 s3, .int .i64 s4] 58) = W1 at hb1 hn1 ⊢
   have HB1 := yz hb1
   clear hwe hb1 B1 N1
   obtain ⟨c0, c1, c2⟩ := hn1
   have r0 := cell_regrown c0
   have r1 := cell_regrown c1
   have r2 := cell_regrown c2
   clear c0 c1 c2
   have HO : Hid (okV L k = (cz s2 s3 s4 && !jw L (s2, s3, s4) k)) := yz (by unfold okV iS; rw [yy HT])
   have cW := yz (fun W => jv s2 s3 s4 W)
   have cA := yz (fun (W : World) (hW : cf W (some ⟨b, o, none⟩) L k) => uJ L k s2 s3 s4 (some ⟨b, o, none⟩) c W (by omega) hW)
   have HSk := yz (((yy HS).less (Nat.le_of_lt hkn)).kept (yy HB1))
   have hkc : (k : Int) ≤ (c : Int) := by omega
   cases hwd : cz s2 s3 s4
   ·rw [hwd] at HO cW
    have HO' : Hid (okV L k = false) := HO
    refine wp_region_quiet_below (by kernel_rfl) (by kernel_rfl) ?_
    repeat (go_big_quiet_step (first | (with_reducible exact Calls.regrown_of (yy cW _))))
    refine wpQuiet_nil ?_
    intro _ hw'
    obtain ⟨⟨dq, osq⟩, hw''⟩ := hw'
    subst hw''
    have hx := ak (yy HB1) (below_regrown W1 dq osq)
    generalize grow (redrawn W1 dq) osq = W2 at hx ⊢
    go_wp2_with fail
    go_ret
    exact ⟨by rw [ms (by rw [yy HL]; exact hkn) (yy HO')]; rfl, hx⟩
   ·rw [hwd, Bool.true_and] at HO
    rw [hwd] at cW
    generalize jw L (s2, s3, s4) k = am at *
    refine wp_region_quiet_below (by kernel_rfl) (by kernel_rfl) ?_
    repeat (go_big_quiet_step (first | (with_reducible exact Calls.regrown_of (yy cW _)) | (with_reducible exact Calls.regrown_of (yy cA _ ((yy HSk).kept (below_regrown _ _ _))))))
    refine wpQuiet_nil ?_
    intro _ hw'
    obtain ⟨⟨dq, osq⟩, hw''⟩ := hw'
    subst hw''
    have hx := ak (yy HB1) (below_regrown W1 dq osq)
    generalize grow (redrawn W1 dq) osq = W2 at hx ⊢
    have HB2 := yz hx
    clear hx HB1 HB cW cA HSk r0 r1 r2
    cases am
    ·have HO' : Hid (okV L k = true) := HO
     go_wp2_with fail
     go_roundw
     case rel => exact ⟨k + 1, by omega, by go_num, yz (vP (yy HF) (yy HO')), HB2⟩
     case measure => simp [intOf]; omega
    ·have HO' : Hid (okV L k = false) := HO
     go_wp2_with fail
     go_ret
     exact ⟨by rw [ms (by rw [yy HL]; exact hkn) (yy HO')]; rfl, yy HB2⟩
  ·have hkn' : k = n := by omega
   have HO : Hid (aU L = true) := yz (kx (by rw [yy HL]; omega) (by rw [yy HL, ← hkn']; exact yy HF))
   go_wp2_with fail
   go_ret
   exact ⟨by rw [yy HO]; rfl, yy HB⟩
theorem kp : (Tryz.prog.info? 2).map (fun i => (i.zero, i.size, i.bytes)) = some (some (.int .i64 0), 1, 8) := by kernel_rfl
theorem cH.made {w' : World} {B b n : Nat} {v : Value} {t : TypeId} {c : Nat} {xs : List Value} {f : Nat → Value} (h : w'.ownsRow B t c (.slice (some ⟨b, 0, none⟩) n n) n xs) (hf : ∀ j, j < n * c → xs[j]? = some (f j)) : cH w' t b (n * c) f := by
 rcases h.2 with ⟨h', _⟩ | ⟨g, cap, cur, hv, _, hg, _, _, _, htake⟩
 ·simp at h'
 ·simp only [Value.slice.injEq, Option.some.injEq, Addr.mk.injEq, and_true, true_and] at hv
  obtain ⟨rfl, rfl⟩ := hv
  refine ⟨cur, hg, fun j hj => ?_⟩
  have e := hf j hj
  rw [← htake, List.getElem?_take, if_pos hj] at e
  simpa using e
theorem jt {w w' : World} (h : w.grownBy w' none) : Below w.heap.size w w' := ⟨h.os, h.tape, h.output, h.size, fun k hk => h.block k hk (by simp)⟩
theorem jQ (a b c d : Int) (v : D3) (w : World) (ht : aA a b c d = true) (hv : aL v.1 v.2.1 v.2.2 = true) :
  Calls Tryz.prog 134 #[.agg #[.int .i64 a, .int .i64 b, .int .i64 c, .int .i64 d], .agg #[.int .i64 v.1, .int .i64 v.2.1, .int .i64 v.2.2]] w fun e w' => e = .returned (.agg #[.int .i64 (apD a b c d v).1, .int .i64 (apD a b c d v).2.1, .int .i64 (apD a b c d v).2.2]) ∧ Below w.heap.size w w' := by
 refine (rR a b c d v.1 v.2.1 v.2.2 w).mono fun e w' h => ?_
 have hr : apR a b c d v.1 v.2.1 v.2.2 = true := by unfold apR; rw [ht, nP hv]; rfl
 rw [hr] at h
 exact h
theorem aJ.same {w w' : World} {b : Nat} {p q r s : Int} (h : aJ w b p q r s) (e : w'.heap[b]? = w.heap[b]?) : aJ w' b p q r s := by
 obtain ⟨h0, h1, h2, h3⟩ := h
 exact ⟨(World.cell?_of_block (a := ⟨b, _, none⟩) e).trans h0, (World.cell?_of_block (a := ⟨b, _, none⟩) e).trans h1, (World.cell?_of_block (a := ⟨b, _, none⟩) e).trans h2, (World.cell?_of_block (a := ⟨b, _, none⟩) e).trans h3⟩
structure MSt (w wr : World) (g m : Nat) (a b c d : Int) (f : Nat → Value) : Prop where
 row : cH wr 2 g (m * 1) f
 tur : aJ wr w.heap.size a b c d
 bel : Below w.heap.size w wr
 lo : w.heap.size < g
theorem MSt.kept {w wr wy : World} {g m : Nat} {a b c d : Int} {f : Nat → Value} (h : MSt w wr g m a b c d f) (hB : Below wr.heap.size wr wy) : MSt w wy g m a b c d f :=
 ⟨h.row.kept hB, h.tur.kept h.tur.lt hB, ak h.bel hB, h.lo⟩
theorem MSt.set {w wr : World} {g m : Nat} {a b c d : Int} {f : Nat → Value} (h : MSt w wr g m a b c d f) (i : Nat) (v : Value) : MSt w (wr.setCell ⟨g, i, none⟩ v) g m a b c d (fun j => if j = i then v else f j) :=
 ⟨h.row.set i v, h.tur.same (heap_setCell_other wr ⟨g, i, none⟩ w.heap.size v (by have := h.lo; show w.heap.size ≠ g; omega)), h.bel.setCell (by have := h.lo; show w.heap.size ≤ g; omega) _, h.lo⟩
theorem MSt.congr {w wr : World} {g m : Nat} {a b c d : Int} {f f' : Nat → Value} (h : MSt w wr g m a b c d f) (e : ∀ j, j < m → f j = f' j) : MSt w wr g m a b c d f' := ⟨h.row.congr (fun j hj => e j (by omega)), h.tur, h.bel, h.lo⟩
def lS (S : List D3) (fin : D3 → Int) (i : Nat) (x : Int) (j : Nat) : Value := .int .i64 (if j < i then fin (vA S j) else if j = i then x else 0)
theorem oA (L : List St) (S : List D3) (ar br : Option Addr) (cr dr : Nat) (a b c d : Int) (p : Addr) (w : World) (hn : L.length ≤ 1048576) (hcap : L.length ≤ cr) (hc9 : cr ≤ 9223372036854775807) (hn2 : S.length ≤ 1048576) (hcap2 : S.length ≤ dr) (hd9 : dr ≤ 9223372036854775807) (hS : aR w ar L L.length) (hD : cf w br S S.length) (hE : bu p w) :
  Calls Tryz.prog 176 #[.slice ar L.length cr, .agg #[.int .i64 a, .int .i64 b, .int .i64 c, .int .i64 d], .slice br S.length dr] w fun e w' => (∃ v, e = .returned v ∧ jb w' 2 1 w.heap.size w'.heap.size (bH L a b c d S).length v (fun j => .int .i64 ((bH L a b c d S).getD j 0))) ∧ Below w.heap.size w w' := by
 obtain ⟨i0, hinf, hz0, hz1, hz2⟩ := info_parts kp
 have cK := yz (fun (W : World) hW hE => eO L ar cr p W hn hcap hc9 hW hE)
 have cP := yz (fun (W : World) hW => fC S br dr W hn2 hcap2 hd9 hW)
 have H1 : Hid (aV L = false → bH L a b c d S = []) := yz zS
 have H2 : Hid (aA a b c d = false → bH L a b c d S = []) := yz Al
 have H3 : Hid (aU S = false → bH L a b c d S = []) := yz zQ
 have H4 : Hid (aV L = true → aA a b c d = true → aU S = true → bH L a b c d S = S.map (fun v => eH L a b c d v L.length)) := yz rr
 have H5 : Hid (aV L = true → L.length ≤ 12 ∧ ∀ j, j < L.length → aL (stA L j).2.1 (stA L j).2.2.1 (stA L j).2.2.2 = true) := yz (fun h => ⟨(bQ h).1, fun j hj => fa ((bQ h).2 j hj)⟩)
 have H6 : Hid (aU S = true → S.length ≤ 6) := yz (fun h => (bK h).1)
 have HS := yz hS
 have HD := yz hD
 have HE := yz hE
 clear hS hD hE
 generalize bH L a b c d S = R at *
 generalize hml : S.length = m at *
 have HML := yz hml
 clear hml
 generalize L.length = n at *
 clear hcap hcap2 hc9 hd9
 have T0 := aH w a b c d 32
 have B0 := an w (.cells #[.int .i64 a, .int .i64 b, .int .i64 c, .int .i64 d] 32)
 go_enter Tryz.func176, Tryz.ntmps176
 go_wp2_with fail
 generalize w.alloc (.cells #[.int .i64 a, .int .i64 b, .int .i64 c, .int .i64 d] 32) = W0 at T0 B0 ⊢
 refine (yy cK _ ((yy HS).kept B0) ((yy HE).kept B0)).mono ?_
 rintro e W1 ⟨rfl, hx⟩
 have T1 := T0.kept T0.lt hx
 have B1 := ak B0 hx
 clear hx T0 B0
 cases hk : aV L
 ·obtain rfl := yy H1 hk
  go_wp2_with fail
  go_ret
  exact ⟨⟨_, rfl, .inl ⟨rfl, _, _, rfl⟩⟩, B1⟩
 have wT := T1
 obtain ⟨t0, t1, t2, t3⟩ := wT
 go_wp2_with fail
 clear t0 t1 t2 t3
 refine (bj a b c d _).mono ?_
 rintro e W2 ⟨rfl, hx⟩
 have T2 := T1.kept T1.lt hx
 have B2 := ak B1 hx
 clear hx T1 B1
 cases hr : aA a b c d
 ·obtain rfl := yy H2 hr
  go_wp2_with fail
  go_ret
  exact ⟨⟨_, rfl, .inl ⟨rfl, _, _, rfl⟩⟩, B2⟩
 go_wp2_with fail
 refine (yy cP _ ((yy HD).kept B2)).mono ?_
 rintro e W3 ⟨rfl, hx⟩
 have T3 := T2.kept T2.lt hx
 have B3 := ak B2 hx
 clear hx T2 B2
 cases hp : aU S
 ·obtain rfl := yy H3 hp
  go_wp2_with fail
  go_ret
  exact ⟨⟨_, rfl, .inl ⟨rfl, _, _, rfl⟩⟩, B3⟩
 have HR := yz (yy H4 hk hr hp)
 obtain ⟨hn12, hsm⟩ := yy H5 hk
 have hm6 := yy H6 hp
 have HSM := yz hsm
 have HRT := yz hr
 clear hsm hk hr hp H1 H2 H3 H4 H5 H6 cK cP
 go_wp2_with (at_make; refine wpList_make_full _ rfl _ _ 67 rfl W3.heap.size 2 i0 (.int .i64 0) 1 Tryz.underlying67 hinf hz0 hz1 .i64 .i64 _ _ m rfl rfl rfl rfl (by rw [hz2]; omega) (by unfold maxLen; omega) (Nat.le_refl _) ?_; intro w0 hown0 hgrow0)
 have hg3 : w.heap.size < W3.heap.size := T3.lt
 have hzero : ∀ j, j < m * 1 → (madeCells (Value.int .i64 0).cells (m * 1)).toList[j]? = some (lS S (fun v => eH L a b c d v n) 0 0 j) := by
  intro j hj
  have e : (Value.int .i64 0).cells = #[.int .i64 0] := rfl
  rw [e, toList_madeCells_one]
  have : lS S (fun v => eH L a b c d v n) 0 0 j = .int .i64 0 := by unfold lS; rw [if_neg (by omega)]; split <;> rfl
  rw [this]
  simp at hj
  simp [hj]
 have HM : Hid (MSt w w0 W3.heap.size m a b c d (lS S (fun v => eH L a b c d v n) 0 0)) := yz ⟨cH.made (v := .nilIface) hown0 hzero, T3.kept T3.lt (jt hgrow0), ak B3 (jt hgrow0), hg3⟩
 clear hzero hown0 hgrow0 T3 B3 hg3
 generalize W3.heap.size = g at *
 clear W3
 go_loopw [30] (fun kk wr => ∃ i : Nat, i ≤ m ∧ kk = .int .i64 i ∧ Hid (MSt w wr g m a b c d (lS S (fun v => eH L a b c d v n) i 0))) (fun kk _ => m - (intOf kk).toNat)
 case atStart => exact ⟨0, by omega, rfl, HM⟩
 case round =>
  clear HM
  obtain ⟨i, hi, rfl, HM⟩ := hrel
  by_cases him : i < m
  ·have him2 : (i : Int) < (m : Int) := by omega
   rcases yy HD with h | ⟨bb, bo, rfl, hbb, hbc⟩
   ·omega
   have hst := (hbc i him).kept hbb (yy HM).bel
   clear hbc
   obtain ⟨⟨v1, v2, v3⟩, hv⟩ : ∃ v, vA S i = v := ⟨_, rfl⟩
   rw [hv] at hst
   obtain ⟨c0, c1, c2⟩ := hst
   have HV := yz hv
   clear hv
   have Z := an wr (.cells #[.int .i64 v1, .int .i64 v2, .int .i64 v3] 58)
   have HM1 := yz ((yy HM).kept Z)
   have HV1 := yz (aF wr v1 v2 v3 58)
   have hvg : g < wr.heap.size := (yy HM).row.lt
   clear Z HM
   go_wp2_with fail
   clear c0 c1 c2
   generalize wr.alloc (.cells #[.int .i64 v1, .int .i64 v2, .int .i64 v3] 58) = W1 at HM1 HV1 ⊢
   generalize wr.heap.size = vb at *
   rcases yy HS with h0 | ⟨sb, so, rfl, hsb, hsc⟩
   ·subst h0
    refine wp_loop_rounds 1 ?_
    rw [rounds_succ]
    have HM2 : Hid (MSt w W1 g m a b c d (lS S (fun v => eH L a b c d v 0) (i + 1) 0)) := yz ((yy HM1).congr (fun j hj => by
     unfold lS
     by_cases h : j < i
     ·rw [if_pos h, if_pos (by omega)]
     ·rw [if_neg h]
      by_cases h2 : j = i
      ·rw [if_pos h2, if_pos (by omega)]; rfl
      ·rw [if_neg h2, if_neg (by omega)]
       split <;> rfl))
    go_wp2_with fail
    go_roundw
    case rel => exact ⟨i + 1, by omega, by go_num, HM2⟩
    case measure => simp [intOf]; omega
   have HSC := yz hsc
   clear hsc
   go_loopw [37] (fun kk wr => ∃ k : Nat, k ≤ n ∧ kk = .int .i64 k ∧ Hid (MSt w wr g m a b c d (lS S (fun v => eH L a b c d v n) i (eH L a b c d (v1, v2, v3) k))) ∧ Hid (aG wr vb v1 v2 v3)) (fun kk _ => n - (intOf kk).toNat)
   case atStart => exact ⟨0, by omega, rfl, HM1, HV1⟩
   case round =>
    clear HM1 HV1
    obtain ⟨k, hk, rfl, HM, HV1⟩ := hrel
    by_cases hkn : k < n
    ·have hkn2 : (k : Int) < (n : Int) := by omega
     have hst := (yy HSC k hkn).kept hsb (yy HM).bel
     have hsm := yy HSM k hkn
     have HID : Hid (eH L a b c d (v1, v2, v3) (k + 1) = if bN (v1, v2, v3) (apD a b c d (stA L k).2) = true then (stA L k).1 else eH L a b c d (v1, v2, v3) k) := yz rfl
     obtain ⟨⟨s1, s2, s3, s4⟩, hs⟩ : ∃ s, stA L k = s := ⟨_, rfl⟩
     rw [hs] at hst hsm HID
     clear hs
     obtain ⟨c0, c1, c2, c3⟩ := hst
     have cA := yz (fun W => jQ a b c d (s2, s3, s4) W (yy HRT) hsm)
     have HID' : Hid (eH L a b c d (v1, v2, v3) (k + 1) = if bN (v1, v2, v3) (apD a b c d (s2, s3, s4)) = true then s1 else eH L a b c d (v1, v2, v3) k) := HID
     clear HID hsm
     generalize apD a b c d (s2, s3, s4) = q at *
     obtain ⟨q1, q2, q3⟩ := q
     have cS : Hid (∀ W : World, Calls Tryz.prog 165 #[.agg #[.int .i64 v1, .int .i64 v2, .int .i64 v3], .agg #[.int .i64 q1, .int .i64 q2, .int .i64 q3]] W fun e w' => e = .returned (.bool (bN (v1, v2, v3) (q1, q2, q3))) ∧ Below W.heap.size W w') := yz (fun W => iz v1 v2 v3 q1 q2 q3 W)
     generalize bN (v1, v2, v3) (q1, q2, q3) = sm at *
     simp only at cA
     have Z := an wr (.cells #[.int .i64 s1, .int .i64 s2, .int .i64 s3, .int .i64 s4] 60)
     have HM2 := yz ((yy HM).kept Z)
     have HV2 := yz ((yy HV1).kept (mM (yy HV1)) Z)
     have N2 := fk wr (s1, s2, s3, s4) 60
     clear Z HM HV1
     go_wp2_with fail
     clear c0 c1 c2 c3
     generalize wr.alloc (.cells #[.int .i64 s1, .int .i64 s2, .int .i64 s3, .int .i64 s4] 60) = W2 at HM2 HV2 N2 ⊢
     have HN2 := yz N2
     obtain ⟨c0, c1, c2, c3⟩ := N2
     simp only [Nat.zero_add] at c0 c1 c2 c3
     obtain ⟨d0, d1, d2⟩ := yy HV2
     obtain ⟨e0, e1, e2, e3⟩ := (yy HM2).tur
     have r0 := cell_regrown c0
     have r1 := cell_regrown c1
     have r2 := cell_regrown c2
     have r3 := cell_regrown c3
     have x0 := cell_regrown d0
     have x1 := cell_regrown d1
     have x2 := cell_regrown d2
     have y0 := cell_regrown e0
     have y1 := cell_regrown e1
     have y2 := cell_regrown e2
     have y3 := cell_regrown e3
     have hsl := World.block_lt_of_cell? _ _ c0
     clear c0 c1 c2 c3 d0 d1 d2 e0 e1 e2 e3
     generalize wr.heap.size = sb2 at *
     refine wp_region_quiet_below (by kernel_rfl) (by kernel_rfl) ?_
     repeat (go_big_quiet_step (first | (with_reducible exact Calls.regrown_of (yy cA _)) | (with_reducible exact Calls.regrown_of (yy cS _))))
     refine wpQuiet_nil ?_
     intro _ hw'
     obtain ⟨⟨dq, osq⟩, hw''⟩ := hw'
     subst hw''
     have hx := below_regrown W2 dq osq
     have HM3 := yz ((yy HM2).kept hx)
     have HV3 := yz ((yy HV2).kept (mM (yy HV2)) hx)
     have N3 := (yy HN2).kept hsl hx
     generalize grow (redrawn W2 dq) osq = W3 at hx HM3 HV3 N3 ⊢
     clear hx cA cS r0 r1 r2 r3 x0 x1 x2 y0 y1 y2 y3 HM2 HV2 HN2
     cases sm
     ·rw [if_neg (by simp)] at HID'
      have HM4 : Hid (MSt w W3 g m a b c d (lS S (fun v => eH L a b c d v n) i (eH L a b c d (v1, v2, v3) (k + 1)))) := yz (by rw [yy HID']; exact yy HM3)
      go_wp2_with fail
      go_roundw
      case rel => exact ⟨k + 1, by omega, by go_num, HM4, HV3⟩
      case measure => simp [intOf]; omega
     ·rw [if_pos rfl] at HID'
      obtain ⟨c0, c1, c2, c3⟩ := N3
      simp only [Nat.zero_add] at c0 c1 c2 c3
      have f0 := (yy HM3).row.cell (j := i) (by omega)
      have f1 := (yy HM3).row.free i
      have HM4 : Hid (MSt w (W3.setCell ⟨g, i, none⟩ (.int .i64 s1)) g m a b c d (lS S (fun v => eH L a b c d v n) i (eH L a b c d (v1, v2, v3) (k + 1)))) := yz (((yy HM3).set i (.int .i64 s1)).congr (fun j hj => by
       rw [yy HID']
       unfold lS
       by_cases h : j = i
       ·rw [if_pos h, if_neg (by omega), if_pos h]
       ·rw [if_neg h, if_neg h, if_neg h]))
      have HV4 : Hid (aG (W3.setCell ⟨g, i, none⟩ (.int .i64 s1)) vb v1 v2 v3) := yz (by
       have e := heap_setCell_other W3 ⟨g, i, none⟩ vb (.int .i64 s1) (by show vb ≠ g; omega)
       obtain ⟨h0, h1, h2⟩ := yy HV3
       exact ⟨(World.cell?_of_block (a := ⟨vb, _, none⟩) e).trans h0, (World.cell?_of_block (a := ⟨vb, _, none⟩) e).trans h1, (World.cell?_of_block (a := ⟨vb, _, none⟩) e).trans h2⟩)
      clear HM3 HV3
      go_wp2_with fail
      go_roundw
      case rel => exact ⟨k + 1, by omega, by go_num, HM4, HV4⟩
      case measure => simp [intOf]; omega
    ·have hkn' : k = n := by omega
     have HM2 : Hid (MSt w wr g m a b c d (lS S (fun v => eH L a b c d v n) (i + 1) 0)) := yz ((yy HM).congr (fun j hj => by
      unfold lS
      by_cases h : j < i
      ·rw [if_pos h, if_pos (by omega)]
      ·rw [if_neg h]
       by_cases h2 : j = i
       ·rw [if_pos h2, if_pos (by omega), h2, yy HV, hkn']
       ·rw [if_neg h2, if_neg (by omega)]
        split <;> rfl))
     clear HM
     go_wp2_with fail
     go_roundw
     case rel => exact ⟨i + 1, by omega, by go_num, HM2⟩
     case measure => simp [intOf]; omega
  ·have him' : i = m := by omega
   subst him'
   have HP : Hid (jb wr 2 1 w.heap.size wr.heap.size R.length (.slice (some ⟨g, 0, none⟩) i i) (fun j => .int .i64 (R.getD j 0))) := yz (by
    have hl : R.length = i := by rw [yy HR, List.length_map]; exact yy HML
    rw [hl]
    refine .inr ⟨g, i, rfl, Nat.le_of_lt (yy HM).lo, (yy HM).row.lt, (yy HM).row.congr (fun j hj => ?_)⟩
    have hj' : j < S.length := by rw [yy HML]; omega
    unfold lS
    rw [if_pos (by omega), yy HR, List.getD_eq_getElem?_getD, List.getElem?_map, List.getElem?_eq_getElem hj']
    unfold vA
    rw [List.getD_eq_getElem?_getD, List.getElem?_eq_getElem hj']
    rfl)
   go_wp2_with fail
   go_ret
   exact ⟨⟨_, rfl, yy HP⟩, (yy HM).bel⟩
theorem qO {a1 a2 a3 b1 b2 b3 : Int} (ha : ax a1 a2 a3 = true) (hb : ax b1 b2 b3 = true) :
  (eqB (crW a2 a3 b2 b3) (crW a3 a1 b3 b1) (crW a1 a2 b1 b2) 0 0 0 && decide (0 < bx a1 a2 a3 b1 b2 b3)) = dB a1 a2 a3 b1 b2 b3 := by
 unfold dB
 rw [ha, hb]
 rfl
theorem qW (p q : D3) (w : World) (hp : ax p.1 p.2.1 p.2.2 = true) (hq : ax q.1 q.2.1 q.2.2 = true) :
  Calls Tryz.prog 35 #[.agg #[.int .i64 p.1, .int .i64 p.2.1, .int .i64 p.2.2], .agg #[.int .i64 q.1, .int .i64 q.2.1, .int .i64 q.2.2]] w fun e w' => e = .returned (.bool (bN p q)) ∧ Below w.heap.size w w' := by
 refine (kr _ _ _ _ _ _ w).mono fun e w' h => ?_
 rw [qO hp hq] at h
 exact h
theorem ic (L : List D3) (a : Option Addr) (c : Nat) (w : World) (hn : L.length ≤ 1048576) (hS : cf w a L L.length) :
  Calls Tryz.prog 46 #[.slice a L.length c] w fun e w' => e = .returned (.bool (aU L)) ∧ Below w.heap.size w w' := by
 obtain ⟨n, hnl⟩ : ∃ n, L.length = n := ⟨_, rfl⟩
 rw [hnl] at hn hS ⊢
 have HL := yz hnl
 clear hnl
 by_cases h12 : 6 < n
 ·have h12' : (6 : Int) < (n : Int) := by omega
  have HO : Hid (aU L = false) := yz (oZ (by rw [yy HL]; exact h12))
  clear hS
  go_enter Tryz.func46, Tryz.ntmps46
  go_wp2
  go_ret
  exact ⟨by rw [yy HO]; rfl, Below.refl _ _⟩
 have h12' : ¬ (6 : Int) < (n : Int) := by omega
 rcases hS with rfl | ⟨b, o, rfl, hb, hc⟩
 ·have HO : Hid (aU L = true) := yz (kx (by rw [yy HL]; omega) (by rw [yy HL]; intro j hj; omega))
  go_enter Tryz.func46, Tryz.ntmps46
  go_wp2_with fail
  refine wp_loop_rounds 1 ?_
  rw [rounds_succ]
  go_wp2_with fail
  go_ret
  exact ⟨by rw [yy HO]; rfl, Below.refl _ _⟩
 have HC := yz hc
 clear hc
 go_enter Tryz.func46, Tryz.ntmps46
 go_wp2_with fail
 go_loopw [3] (fun i wr => ∃ k : Nat, k ≤ n ∧ i = .int .i64 k ∧ Hid (ss L k) ∧ Hid (Below w.heap.size w wr)) (fun i _ => n - (intOf i).toNat)
 case atStart => exact ⟨0, by omega, rfl, yz (fun j hj => absurd hj (Nat.not_lt_zero _)), yz (Below.refl _ _)⟩
 case round =>
  obtain ⟨k, hk, rfl, HF, HB⟩ := hrel
  by_cases hkn : k < n
  ·have hkn2 : (k : Int) < (n : Int) := by omega
   obtain ⟨⟨s2, s3, s4⟩, hs⟩ : ∃ s, vA L k = s := ⟨_, rfl⟩
   have hst := ((yy HC) k hkn).kept hb (yy HB)
   rw [hs] at hst
   obtain ⟨c0, c1, c2⟩ := hst
   have HT := yz hs
   clear hs
   have HO : Hid (okV L k = (cz s2 s3 s4 && !jw L (s2, s3, s4) k)) := yz (by unfold okV iS; rw [yy HT])
   go_wp2_with fail
   refine (wt s2 s3 s4 _).mono ?_
   rintro e W2 ⟨rfl, hx⟩
   have HB2 := yz (ak (yy HB) hx)
   clear hx c0 c1 c2 HB
   cases hwd : cz s2 s3 s4
   ·rw [hwd] at HO
    have HO' : Hid (okV L k = false) := HO
    go_wp2_with fail
    go_ret
    exact ⟨by rw [ms (by rw [yy HL]; exact hkn) (yy HO')]; rfl, yy HB2⟩
   rw [hwd, Bool.true_and] at HO
   have HWD := yz hwd
   clear hwd
   go_wp2_with fail
   go_loopw [4] (fun i wr => ∃ j : Nat, j ≤ k ∧ i = .int .i64 j ∧ Hid (mj L (s2, s3, s4) j) ∧ Hid (Below w.heap.size w wr)) (fun i _ => k - (intOf i).toNat)
   case atStart => exact ⟨0, by omega, rfl, yz (fun j hj => absurd hj (Nat.not_lt_zero _)), HB2⟩
   case round =>
    clear HB2
    obtain ⟨j, hj, rfl, HN, HB3⟩ := hrel
    by_cases hjk : j < k
    ·have hjk2 : (j : Int) < (k : Int) := by omega
     have hjn2 : (j : Int) < (n : Int) := by omega
     have HWJ := yz (lW (yy HF j hjk))
     obtain ⟨⟨t2, t3, t4⟩, ht⟩ : ∃ s, vA L j = s := ⟨_, rfl⟩
     have hst := ((yy HC) k hkn).kept hb (yy HB3)
     have htt := ((yy HC) j (by omega)).kept hb (yy HB3)
     rw [yy HT] at hst
     rw [ht] at htt HWJ
     obtain ⟨c0, c1, c2⟩ := hst
     obtain ⟨d0, d1, d2⟩ := htt
     have HTJ := yz ht
     clear ht
     have cS : Hid (∀ W : World, Calls Tryz.prog 35 #[.agg #[.int .i64 t2, .int .i64 t3, .int .i64 t4], .agg #[.int .i64 s2, .int .i64 s3, .int .i64 s4]] W fun e w' => e = .returned (.bool (bN (s2, s3, s4) (t2, t3, t4))) ∧ Below W.heap.size W w') := yz (fun W => by
      rw [tB (p := (s2, s3, s4)) (q := (t2, t3, t4)) (yy HWD) (yy HWJ)]
      exact qW (t2, t3, t4) (s2, s3, s4) W (gv (yy HWJ)).1 (gv (yy HWD)).1)
     have HSM : Hid (bN (s2, s3, s4) (vA L j) = bN (s2, s3, s4) (t2, t3, t4)) := yz (by rw [yy HTJ])
     generalize bN (s2, s3, s4) (t2, t3, t4) = sm at *
     have r0 := cell_regrown c0
     have r1 := cell_regrown c1
     have r2 := cell_regrown c2
     have q0 := cell_regrown d0
     have q1 := cell_regrown d1
     have q2 := cell_regrown d2
     clear c0 c1 c2 d0 d1 d2
     go_wp2_with fail
     refine wp_region_quiet_below (by kernel_rfl) (by kernel_rfl) ?_
     repeat (go_big_quiet_step (first | (with_reducible exact Calls.regrown_of (yy cS _))))
     refine wpQuiet_nil ?_
     intro _ hw'
     obtain ⟨⟨dq, osq⟩, hw''⟩ := hw'
     subst hw''
     have hx := ak (yy HB3) (below_regrown wr dq osq)
     generalize grow (redrawn wr dq) osq = W4 at hx ⊢
     have HB4 := yz hx
     clear hx HB3 cS r0 r1 r2 q0 q1 q2
     cases sm
     ·go_wp2_with fail
      go_roundw
      case rel => exact ⟨j + 1, by omega, by go_num, yz (qu (yy HN) (yy HSM)), HB4⟩
      case measure => simp [intOf]; omega
     ·have HO' : Hid (okV L k = false) := yz (by rw [yy HO, sE hjk (yy HSM)]; rfl)
      go_wp2_with fail
      go_ret
      exact ⟨by rw [ms (by rw [yy HL]; exact hkn) (yy HO')]; rfl, yy HB4⟩
    ·have hjk' : j = k := by omega
     subst hjk'
     have HO' : Hid (okV L j = true) := yz (by rw [yy HO, ux (yy HN)]; rfl)
     go_wp2_with fail
     go_roundw
     case rel => exact ⟨j + 1, by omega, by go_num, yz (vP (yy HF) (yy HO')), HB3⟩
     case measure => simp [intOf]; omega
  ·have hkn' : k = n := by omega
   have HO : Hid (aU L = true) := yz (kx (by rw [yy HL]; omega) (by rw [yy HL, ← hkn']; exact yy HF))
   go_wp2_with fail
   go_ret
   exact ⟨by rw [yy HO]; rfl, yy HB⟩
def tI (w : World) (b n : Nat) (L : List D3) (k : Nat) : Prop := ∃ cur : Array Value, w.heap[b]? = some (.cells cur 58 (0, 0)) ∧ cur.size = n * 3 ∧
 ∀ j, j < k → cur[j * 3]? = some (.int .i64 (vA L j).1) ∧ cur[j * 3 + 1]? = some (.int .i64 (vA L j).2.1) ∧ cur[j * 3 + 2]? = some (.int .i64 (vA L j).2.2)
theorem tI.lt {w : World} {b n k : Nat} {L : List D3} (h : tI w b n L k) : b < w.heap.size := by
 obtain ⟨cur, hc, _⟩ := h
 exact (Array.getElem?_eq_some_iff.1 hc).1
theorem tI.kept {w w' : World} {b n k : Nat} {L : List D3} (h : tI w b n L k) (hB : Below w.heap.size w w') : tI w' b n L k := by
 have hl := h.lt
 obtain ⟨cur, hc, r⟩ := h
 exact ⟨cur, by rw [hB.block b hl]; exact hc, r⟩
theorem tI.dirs {w : World} {b n k : Nat} {L : List D3} (h : tI w b n L k) : cf w (some ⟨b, 0, none⟩) L k := by
 have hl := h.lt
 obtain ⟨cur, hc, _, hs⟩ := h
 refine .inr ⟨b, 0, rfl, hl, fun i hi => ?_⟩
 obtain ⟨h0, h1, h2⟩ := hs i hi
 rw [Nat.zero_add]
 exact ⟨by rw [cell_of_row w b _ cur _ _ hc]; exact h0, by rw [cell_of_row w b _ cur _ _ hc]; exact h1, by rw [cell_of_row w b _ cur _ _ hc]; exact h2⟩
theorem tI.free {w : World} {b n k : Nat} {L : List D3} (h : tI w b n L k) (i : Nat) : w.frozen? ⟨b, i, none⟩ = false := by
 obtain ⟨cur, hc, _⟩ := h
 exact frozen_of_row w b i cur _ hc
def gx (w : World) (a : Option Addr) (ids : List Int) (n : Nat) : Prop := n = 0 ∨ ∃ b o, a = some ⟨b, o, none⟩ ∧ b < w.heap.size ∧ ∀ i, i < n → w.cell? ⟨b, o + i, none⟩ = some (.int .i64 (ids.getD i 0))
theorem gx.kept {w w' : World} {a : Option Addr} {L : List Int} {n : Nat} (h : gx w a L n) (hB : Below w.heap.size w w') : gx w' a L n := by
 rcases h with h | ⟨b, o, ha, hb, hc⟩
 ·exact .inl h
 ·exact .inr ⟨b, o, ha, Nat.lt_of_lt_of_le hb hB.size, fun i hi => by rw [hB.cell (p := ⟨b, o + i, none⟩) hb]; exact hc i hi⟩
def qJ (ids : List Int) (j : Nat) : Value := .int .i64 (ids.getD j 0)
theorem mb {w : World} {g n : Nat} {ids : List Int} (h : cH w 2 g (n * 1) (qJ ids)) : gx w (some ⟨g, 0, none⟩) ids n :=
 .inr ⟨g, 0, rfl, h.lt, fun i hi => by rw [Nat.zero_add]; exact h.cell (by omega)⟩
end
section
open Go.RowKit Go.Deep Go.ChangeShapes
end
end Go.Proofs.YtlleafjdgblhcaaGreatDoor
