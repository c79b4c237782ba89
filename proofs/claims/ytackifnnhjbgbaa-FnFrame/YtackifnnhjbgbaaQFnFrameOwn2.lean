/- Several texts in one: FrB, FrC, RowV, DrF, BlA, VecD, VecF, VecG, SpA, SpB, VecE, VecI, WideT, FrD. -/
import Derived.Laws.BytesArg
import Derived.BigRegion
import Derived.OwnWalk
import Derived.Laws.OwnMore
import Derived.Deep.RegionHeld
import Derived.WalkMore
import Derived.Deep.RegionWith
import Derived.Deep.QuietTactic
import Derived.BigQuiet
import Derived.Lib.QuietBelow
import Derived.Deep.DeepCutAuto
import Derived.Test.YtackifnnhjbgbaaQFnFrameOwn1
namespace Go.Proofs.Ytackifnnhjbgbaa
set_option linter.unusedVariables false
set_option linter.unusedSimpArgs false
set_option maxRecDepth 100000
set_option maxHeartbeats 8000000
section
open Go.RowKit Go.Sort
def SAt (w : World) (b : Nat) (vs : List Value) : Prop := ∀ i v, vs[i]? = some v → w.cell? ⟨b, i, none⟩ = some v
theorem SAt.lt {w : World} {b : Nat} {v : Value} {vs : List Value} (h : SAt w b (v :: vs)) : b < w.heap.size := World.block_lt_of_cell? w _ (h 0 v rfl)
theorem SAt.kept {w w' : World} {b : Nat} {v : Value} {vs : List Value} (h : SAt w b (v :: vs)) (hB : Below w.heap.size w w') : SAt w' b (v :: vs) := fun i u hu => by
 rw [hB.cell (p := ⟨b, i, none⟩) h.lt]; exact h i u hu
theorem SAt.c3 {w : World} {b : Nat} {x y z : Value} (h : SAt w b [x, y, z]) : w.cell? ⟨b, 0, none⟩ = some x ∧ w.cell? ⟨b, 1, none⟩ = some y ∧ w.cell? ⟨b, 2, none⟩ = some z := ⟨h 0 x rfl, h 1 y rfl, h 2 z rfl⟩
theorem SAt.c5 {w : World} {b : Nat} {x y z u v : Value} (h : SAt w b [x, y, z, u, v]) : w.cell? ⟨b, 0, none⟩ = some x ∧ w.cell? ⟨b, 1, none⟩ = some y ∧ w.cell? ⟨b, 2, none⟩ = some z ∧ w.cell? ⟨b, 3, none⟩ = some u ∧ w.cell? ⟨b, 4, none⟩ = some v := ⟨h 0 x rfl, h 1 y rfl, h 2 z rfl, h 3 u rfl, h 4 v rfl⟩
def Blk (w : World) (b : Nat) (cs : List Value) (t : TypeId) : Prop := w.heap[b]? = some (.cells cs.toArray t (0, 0))
theorem Blk.lt {w : World} {b : Nat} {cs : List Value} {t : TypeId} (h : Blk w b cs t) : b < w.heap.size := (Array.getElem?_eq_some_iff.1 h).1
theorem Blk.kept {w w' : World} {b : Nat} {cs : List Value} {t : TypeId} (h : Blk w b cs t) (hB : Below w.heap.size w w') : Blk w' b cs t := (hB.block b h.lt).trans h
theorem al (w : World) (cs : List Value) (t : TypeId) : Blk (w.alloc (.cells cs.toArray t)) w.heap.size cs t := heap_alloc_new w _
theorem Blk.alloc {w : World} {b : Nat} {cs : List Value} {t : TypeId} (h : Blk w b cs t) (o : Obj) : Blk (w.alloc o) b cs t := h.kept (an _ _)
theorem Blk.cell {w : World} {b : Nat} {cs : List Value} {t : TypeId} (h : Blk w b cs t) (i : Nat) (v : Value) (hv : cs[i]? = some v) : w.cell? ⟨b, i, none⟩ = some v := by
 rw [cell_of_row w b i _ _ _ h]; simpa using hv
theorem Blk.free {w : World} {b : Nat} {cs : List Value} {t : TypeId} (h : Blk w b cs t) (i : Nat) : w.frozen? ⟨b, i, none⟩ = false := frozen_of_row w b i _ _ h
theorem Blk.set {w : World} {b : Nat} {cs : List Value} {t : TypeId} (h : Blk w b cs t) (i : Nat) (v : Value) : Blk (w.setCell ⟨b, i, none⟩ v) b (cs.set i v) t := by
 have := heap_setCell_same w b i _ _ v h
 unfold Blk
 rw [this]
 simp
theorem Blk.other {w : World} {b : Nat} {cs : List Value} {t : TypeId} (h : Blk w b cs t) (a : Addr) (v : Value) (hne : b ≠ a.block) : Blk (w.setCell a v) b cs t := by
 unfold Blk
 rw [heap_setCell_other w a b v hne]
 exact h
theorem Blk.drewn {w : World} {b : Nat} {cs : List Value} {t : TypeId} (h : Blk w b cs t) : Blk w.drew b cs t := h
def bh (w : World) (b n : Nat) (f : Nat → Int) : Prop := ∀ j, j < n → w.cell? ⟨b, j, none⟩ = some (.int .u8 (f j)) ∧ w.frozen? ⟨b, j, none⟩ = false
theorem bh.kept {w w' : World} {b n : Nat} {f : Nat → Int} (h : bh w b n f) (hb : b < w.heap.size) (hB : Below w.heap.size w w') : bh w' b n f := fun j hj =>
 ⟨by rw [hB.cell (p := ⟨b, j, none⟩) hb]; exact (h j hj).1, by rw [hB.frozen (p := ⟨b, j, none⟩) hb]; exact (h j hj).2⟩
theorem bh.drewn {w : World} {b n : Nat} {f : Nat → Int} (h : bh w b n f) : bh w.drew b n f := h
theorem bh.congr {w : World} {b n : Nat} {f f' : Nat → Int} (h : bh w b n f) (e : ∀ j, j < n → f j = f' j) : bh w b n f' := fun j hj => ⟨by rw [(h j hj).1, e j hj], (h j hj).2⟩
theorem bh.set {w : World} {b n : Nat} {f : Nat → Int} (h : bh w b n f) (i : Nat) (hi : i < n) (v : Int) : bh (w.setCell ⟨b, i, none⟩ (.int .u8 v)) b n (fun j => if j = i then v else f j) := fun j hj => by
 refine ⟨?_, ?_⟩
 ·show _ = some (Value.int .u8 (if j = i then v else f j))
  by_cases e : j = i
  ·subst e
   rw [if_pos rfl, World.cell?_setCell_same _ _ _ (h j hj).1]
  ·rw [if_neg e, World.cell?_setCell_other _ _ _ _ (fun h => e (by simpa using (congrArg Addr.off h).symm)), (h j hj).1]
 ·rw [← (h j hj).2]
  simp
def aV (f d : ByteArray) (j : Nat) : Int := if ao f j < ao d j then 0 else (ao f j : Int) - (ao d j : Int)
def bv (f d : ByteArray) : ByteArray := strOfNums ((List.range f.size).map (aV f d))
theorem bh.conv {w : World} {b : Nat} {f d : ByteArray} (h : bh w b f.size (aV f d)) (cap : Nat) :
  (convert 29 9 (.slice (some ⟨b, 0, none⟩) f.size cap)).run Try.prog w = .ok (.string (bv f d)) w := by
 refine run_convert_bytes_arg (P := Try.prog) _ 29 5 Try.underlying29 Try.underlying5 b 0 f.size cap ((List.range f.size).map (aV f d)) (by simp) ?_ 9 Try.underlying9
 intro i hi
 rw [Nat.zero_add, (h i hi).1]
 congr 2
 rw [List.getD, List.getElem?_map, List.getElem?_range hi]
 rfl
def bO (w1 h1 : Int) (f : ByteArray) (w2 h2 : Int) (d : ByteArray) : Bool := av w1 h1 f && av w2 h2 d && decide (w1 = w2) && decide (h1 = h2)
def bw (w1 h1 : Int) (f : ByteArray) (w2 h2 : Int) (d : ByteArray) : Value := if bO w1 h1 f w2 h2 d = true then .agg #[.int .i64 w1, .int .i64 h1, .string (bv f d), .int .i64 0] else .agg #[.int .i64 0, .int .i64 0, .string ⟨#[]⟩, .int .i64 1]
theorem cd {w : World} {b : Nat} {t : TypeId} {x0 x1 x2 : Value} {r : List Value} (h : Blk w b (x0 :: x1 :: x2 :: r) t) : w.cell? ⟨b, 0, none⟩ = some x0 ∧ w.cell? ⟨b, 1, none⟩ = some x1 ∧ w.cell? ⟨b, 2, none⟩ = some x2 := ⟨h.cell 0 _ rfl, h.cell 1 _ rfl, h.cell 2 _ rfl⟩
theorem gU {w : World} {b : Nat} {t : TypeId} {x0 x1 x2 x3 : Value} {r : List Value} (h : Blk w b (x0 :: x1 :: x2 :: x3 :: r) t) : w.cell? ⟨b, 0, none⟩ = some x0 ∧ w.cell? ⟨b, 1, none⟩ = some x1 ∧ w.cell? ⟨b, 2, none⟩ = some x2 ∧ w.cell? ⟨b, 3, none⟩ = some x3 := ⟨h.cell 0 _ rfl, h.cell 1 _ rfl, h.cell 2 _ rfl, h.cell 3 _ rfl⟩
theorem ir {w : World} {b : Nat} {t : TypeId} {x0 x1 x2 x3 x4 : Value} {r : List Value} (h : Blk w b (x0 :: x1 :: x2 :: x3 :: x4 :: r) t) : w.cell? ⟨b, 0, none⟩ = some x0 ∧ w.cell? ⟨b, 1, none⟩ = some x1 ∧ w.cell? ⟨b, 2, none⟩ = some x2 ∧ w.cell? ⟨b, 3, none⟩ = some x3 ∧ w.cell? ⟨b, 4, none⟩ = some x4 := ⟨h.cell 0 _ rfl, h.cell 1 _ rfl, h.cell 2 _ rfl, h.cell 3 _ rfl, h.cell 4 _ rfl⟩
theorem bfs3 {w : World} {b : Nat} {t : TypeId} {cs : List Value} (h : Blk w b cs t) : w.frozen? ⟨b, 0, none⟩ = false ∧ w.frozen? ⟨b, 1, none⟩ = false ∧ w.frozen? ⟨b, 2, none⟩ = false := ⟨h.free 0, h.free 1, h.free 2⟩
theorem eD {w : World} {b : Nat} {t : TypeId} {cs : List Value} (h : Blk w b cs t) : w.frozen? ⟨b, 0, none⟩ = false ∧ w.frozen? ⟨b, 1, none⟩ = false ∧ w.frozen? ⟨b, 2, none⟩ = false ∧ w.frozen? ⟨b, 3, none⟩ = false := ⟨h.free 0, h.free 1, h.free 2, h.free 3⟩
theorem jE {w : World} {b : Nat} {t : TypeId} {cs : List Value} (h : Blk w b cs t) : w.frozen? ⟨b, 0, none⟩ = false ∧ w.frozen? ⟨b, 1, none⟩ = false ∧ w.frozen? ⟨b, 2, none⟩ = false ∧ w.frozen? ⟨b, 3, none⟩ = false ∧ w.frozen? ⟨b, 4, none⟩ = false := ⟨h.free 0, h.free 1, h.free 2, h.free 3, h.free 4⟩
end
section
open Go.RowKit
def aH (w : World) (t : TypeId) (g m : Nat) (f : Nat → Value) : Prop := ∃ cur : Array Value, w.heap[g]? = some (.cells cur t (0, 0)) ∧ ∀ j, j < m → cur[j]? = some (f j)
theorem aH.lt {w : World} {t : TypeId} {g m : Nat} {f : Nat → Value} (h : aH w t g m f) : g < w.heap.size := by
 obtain ⟨cur, hc, _⟩ := h
 exact (Array.getElem?_eq_some_iff.1 hc).1
theorem aH.same {w w' : World} {t : TypeId} {g m : Nat} {f : Nat → Value} (h : aH w t g m f) (e : w'.heap[g]? = w.heap[g]?) : aH w' t g m f := by
 obtain ⟨cur, hc, hs⟩ := h
 exact ⟨cur, by rw [e]; exact hc, hs⟩
theorem aH.kept {w w' : World} {t : TypeId} {g m : Nat} {f : Nat → Value} (h : aH w t g m f) (hB : Below w.heap.size w w') : aH w' t g m f := h.same (hB.block g h.lt)
theorem aH.congr {w : World} {t : TypeId} {g m : Nat} {f f' : Nat → Value} (h : aH w t g m f) (e : ∀ j, j < m → f j = f' j) : aH w t g m f' := by
 obtain ⟨cur, hc, hs⟩ := h
 exact ⟨cur, hc, fun j hj => by rw [hs j hj, e j hj]⟩
theorem aH.cell {w : World} {t : TypeId} {g m j : Nat} {f : Nat → Value} (h : aH w t g m f) (hj : j < m) : w.cell? ⟨g, j, none⟩ = some (f j) := by
 obtain ⟨cur, hc, hs⟩ := h
 rw [cell_of_row w g j cur t _ hc]
 exact hs j hj
theorem aH.free {w : World} {t : TypeId} {g m : Nat} {f : Nat → Value} (h : aH w t g m f) (j : Nat) : w.frozen? ⟨g, j, none⟩ = false := by
 obtain ⟨cur, hc, _⟩ := h
 exact frozen_of_row w g j cur t hc
theorem aH.set {w : World} {t : TypeId} {g m : Nat} {f : Nat → Value} (h : aH w t g m f) (i : Nat) (v : Value) : aH (w.setCell ⟨g, i, none⟩ v) t g m (fun j => if j = i then v else f j) := by
 obtain ⟨cur, hc, hs⟩ := h
 refine ⟨_, heap_setCell_same w g i cur t v hc, fun j hj => ?_⟩
 have := hs j hj
 rw [Array.getElem?_setIfInBounds]
 by_cases e : i = j
 ·subst e
  simp [(Array.getElem?_eq_some_iff.1 this).1]
 ·have e' : ¬ j = i := fun h => e (Eq.symm h)
  simp [e, e', this]
structure dQ (lo hi : Nat) (w w' : World) : Prop where
 os : w'.os = w.os
 tape : w'.tape = w.tape
 output : w'.output = w.output
 size : w.heap.size ≤ w'.heap.size
 block : ∀ k, k < w.heap.size → (k < lo ∨ hi ≤ k) → w'.heap[k]? = w.heap[k]?
theorem dQ.refl (lo hi : Nat) (w : World) : dQ lo hi w w := ⟨rfl, rfl, rfl, Nat.le_refl _, fun _ _ _ => rfl⟩
theorem dQ.of {lo hi g : Nat} {w w' : World} (h : w.grownBy w' (some g)) (h1 : lo ≤ g) (h2 : g < hi) : dQ lo hi w w' := ⟨h.os, h.tape, h.output, h.size, fun k hk hne => h.block k hk (fun e => by have := Option.some.inj e; omega)⟩
theorem dQ.below {B lo hi : Nat} {w w1 w2 : World} (h : Below B w w1) (ha : dQ lo hi w1 w2) (h1 : B ≤ lo) (h2 : B ≤ w1.heap.size) : Below B w w2 :=
 h.trans ⟨ha.os, ha.tape, ha.output, ha.size, fun k hk => ha.block k (by omega) (.inl (by omega))⟩
theorem fQ (w : World) (row : Option Nat) : w.grownBy w row := ⟨rfl, rfl, rfl, Nat.le_refl _, fun _ _ _ => rfl⟩
theorem fu {w w1 : World} {g : Nat} (h : w.grownBy w1 (some g)) (i : Nat) (v : Value) : w.grownBy (w1.setCell ⟨g, i, none⟩ v) (some g) :=
 ⟨h.os, h.tape, h.output, by simpa [World.setCell] using h.size, fun k hk hne => by rw [Below.heap_setCell _ _ _ _ (fun e => hne (by rw [e]))]; exact h.block k hk hne⟩
def dR (w : World) (t : TypeId) (c lo hi n : Nat) (v : Value) (f : Nat → Value) : Prop := (n = 0 ∧ ∃ a cap, v = .slice a 0 cap) ∨ ∃ g cap, v = .slice (some ⟨g, 0, none⟩) n cap ∧ lo ≤ g ∧ g < hi ∧ aH w t g (n * c) f
theorem dR.kept {w w' : World} {t : TypeId} {c lo hi n : Nat} {v : Value} {f : Nat → Value} (h : dR w t c lo hi n v f) (hB : Below w.heap.size w w') : dR w' t c lo hi n v f := by
 rcases h with h | ⟨g, cap, hv, h1, h2, hr⟩
 ·exact .inl h
 ·exact .inr ⟨g, cap, hv, h1, h2, hr.kept hB⟩
theorem dR.apart {w w' : World} {t : TypeId} {c lo hi l h n : Nat} {v : Value} {f : Nat → Value} (hp : dR w t c lo hi n v f) (ha : dQ l h w w') (hd : hi ≤ l ∨ h ≤ lo) : dR w' t c lo hi n v f := by
 rcases hp with hp | ⟨g, cap, hv, h1, h2, hr⟩
 ·exact .inl hp
 ·exact .inr ⟨g, cap, hv, h1, h2, hr.same (ha.block g hr.lt (by omega))⟩
theorem dR.wide {w : World} {t : TypeId} {c lo hi lo' hi' n : Nat} {v : Value} {f : Nat → Value} (h : dR w t c lo hi n v f) (h1 : lo' ≤ lo) (h2 : hi ≤ hi') : dR w t c lo' hi' n v f := by
 rcases h with h | ⟨g, cap, hv, g1, g2, hr⟩
 ·exact .inl h
 ·exact .inr ⟨g, cap, hv, by omega, by omega, hr⟩
theorem dR.of {w : World} {t : TypeId} {c B n : Nat} {v : Value} {xs : List Value} {f : Nat → Value} (h : w.ownsRow B t c v n xs) (hf : ∀ j, j < n * c → xs[j]? = some (f j)) : dR w t c B w.heap.size n v f := by
 rcases h.2 with ⟨h1, h0⟩ | ⟨g, cap, cur, hv, hb, hg, hnc, hcm, hcs, htake⟩
 ·exact .inl ⟨h0, _, _, h1⟩
 ·refine .inr ⟨g, cap, hv, hb, (Array.getElem?_eq_some_iff.1 hg).1, cur, hg, fun j hj => ?_⟩
  have e := hf j hj
  rw [← htake, List.getElem?_take, if_pos hj] at e
  simpa using e
end
section
open Go.RowKit Go.Sort
def bA (w : World) (g n : Nat) : Prop := ∃ f : Nat → Int, (∀ j, 0 ≤ f j ∧ f j ≤ 255) ∧ aH w 5 g n (fun j => .int .u8 (f j))
theorem bA.lt {w : World} {g n : Nat} (h : bA w g n) : g < w.heap.size := by
 obtain ⟨f, _, h⟩ := h
 exact h.lt
theorem bA.same {w w' : World} {g n : Nat} (h : bA w g n) (e : w'.heap[g]? = w.heap[g]?) : bA w' g n := by
 obtain ⟨f, hf, h⟩ := h
 exact ⟨f, hf, h.same e⟩
theorem bA.set {w : World} {g n : Nat} (h : bA w g n) (i : Nat) (v : Int) (h0 : 0 ≤ v) (h1 : v ≤ 255) : bA (w.setCell ⟨g, i, none⟩ (.int .u8 v)) g n := by
 obtain ⟨f, hf, h⟩ := h
 refine ⟨fun j => if j = i then v else f j, fun j => ?_, (h.set i (.int .u8 v)).congr (fun j hj => ?_)⟩
 ·show 0 ≤ (if j = i then v else f j) ∧ (if j = i then v else f j) ≤ 255
  split
  ·exact ⟨h0, h1⟩
  ·exact hf j
 ·show (if j = i then Value.int .u8 v else .int .u8 (f j)) = .int .u8 (if j = i then v else f j)
  split <;> rfl
theorem bA.conv {w : World} {g n : Nat} (h : bA w g n) (cap : Nat) : ∃ s : ByteArray, s.size = n ∧ (convert 29 9 (.slice (some ⟨g, 0, none⟩) n cap)).run Try.prog w = .ok (.string s) w := by
 obtain ⟨f, hf, h⟩ := h
 refine ⟨strOfNums ((List.range n).map f), by show Array.size _ = n; simp [strOfNums], ?_⟩
 refine run_convert_bytes_arg (P := Try.prog) _ 29 5 Try.underlying29 Try.underlying5 g 0 n cap ((List.range n).map f) (by simp) ?_ 9 Try.underlying9
 intro i hi
 rw [Nat.zero_add, h.cell hi]
 congr 2
 rw [List.getD, List.getElem?_map, List.getElem?_range hi]
 rfl
structure bi (w wr : World) (b rb fb g N : Nat) (wd ht : Int) (px : ByteArray) : Prop where
 src : aL b wr
 res : Blk wr rb [.int .i64 0, .int .i64 0, .string ⟨#[]⟩] 26
 fr : Blk wr fb [.int .i64 wd, .int .i64 ht, .string px] 26
 row : bA wr g N
 gr : w.grownBy wr (some b)
 lb : b < w.heap.size
 lr : w.heap.size ≤ rb
 lf : rb < fb
 lg : fb < g
theorem bi.call {w wr wy : World} {b rb fb g N : Nat} {wd ht : Int} {px : ByteArray} (h : bi w wr b rb fb g N wd ht px) (hS : aL b wy) (hg : wr.grownBy wy (some b)) : bi w wy b rb fb g N wd ht px := by
 have := h.lb
 have := h.lr
 have := h.lf
 have := h.lg
 have ne : ∀ k, w.heap.size ≤ k → some k ≠ some b := fun k hk e => by have := Option.some.inj e; omega
 exact ⟨hS, (hg.block rb h.res.lt (ne _ (by omega))).trans h.res, (hg.block fb h.fr.lt (ne _ (by omega))).trans h.fr, h.row.same (hg.block g h.row.lt (ne _ (by omega))), aR h.gr hg, h.lb, h.lr, h.lf, h.lg⟩
theorem bi.set {w wr : World} {b rb fb g N : Nat} {wd ht : Int} {px : ByteArray} (h : bi w wr b rb fb g N wd ht px) (i : Nat) (v : Int) (h0 : 0 ≤ v) (h1 : v ≤ 255) : bi w (wr.setCell ⟨g, i, none⟩ (.int .u8 v)) b rb fb g N wd ht px := by
 have := h.lb
 have := h.lr
 have := h.lf
 have := h.lg
 have hg : wr.grownBy (wr.setCell ⟨g, i, none⟩ (.int .u8 v)) (some g) := ⟨rfl, rfl, rfl, by simp [World.setCell], fun k _ hk => heap_setCell_other wr _ k _ (fun e => hk (by rw [e]))⟩
 refine ⟨h.src.kept hg (fun c e => by have := Option.some.inj e; omega), h.res.other _ _ (by show rb ≠ g; omega), h.fr.other _ _ (by show fb ≠ g; omega), h.row.set i v h0 h1, ⟨h.gr.os, h.gr.tape, h.gr.output, by simpa [World.setCell] using h.gr.size, fun k hk hne => ?_⟩, h.lb, h.lr, h.lf, h.lg⟩
 rw [heap_setCell_other wr _ k _ (by show k ≠ g; omega)]
 exact h.gr.block k hk hne
theorem bi.drewn {w wr : World} {b rb fb g N : Nat} {wd ht : Int} {px : ByteArray} (h : bi w wr b rb fb g N wd ht px) : bi w wr.drew b rb fb g N wd ht px :=
 ⟨h.src.kept (row := none) ⟨rfl, rfl, rfl, Nat.le_refl _, fun _ _ _ => rfl⟩ (fun _ e => by cases e), h.res, h.fr, h.row, ⟨h.gr.os, h.gr.tape, h.gr.output, h.gr.size, h.gr.block⟩, h.lb, h.lr, h.lf, h.lg⟩
theorem aL.allocsF {b : Nat} {w : World} (h : aL b w) (o : Obj) : aL b (w.alloc o) := h.kept (World.grownBy_alloc w o none) (fun _ e => by cases e)
theorem Blk.grownC {w w' : World} {b c : Nat} {cs : List Value} {t : TypeId} (h : Blk w b cs t) (hg : w.grownBy w' (some c)) (hne : b ≠ c) : Blk w' b cs t := (hg.block b h.lt (fun e => hne (Option.some.inj e))).trans h
theorem je : (Try.prog.info? 5).map (fun i => (i.zero, i.size, i.bytes)) = some (some (.int .u8 0), 1, 1) := by kernel_rfl
theorem bi.frSet {w wr : World} {b rb fb g N : Nat} {wd ht : Int} {px : ByteArray} (h : bi w wr b rb fb g N wd ht px) (i : Nat) (v : Value) (wd' ht' : Int) (px' : ByteArray) (e : [.int .i64 wd, .int .i64 ht, .string px].set i v = [.int .i64 wd', .int .i64 ht', .string px']) : bi w (wr.setCell ⟨fb, i, none⟩ v) b rb fb g N wd' ht' px' := by
 have := h.lb
 have := h.lr
 have := h.lf
 have := h.lg
 have hg : wr.grownBy (wr.setCell ⟨fb, i, none⟩ v) (some fb) := ⟨rfl, rfl, rfl, by simp [World.setCell], fun k _ hk => heap_setCell_other wr _ k _ (fun e => hk (by rw [e]))⟩
 refine ⟨h.src.kept hg (fun c e => by have := Option.some.inj e; omega), h.res.other _ _ (by show rb ≠ fb; omega), by rw [← e]; exact h.fr.set i v, h.row.same (heap_setCell_other wr _ g _ (by show g ≠ fb; omega)), ⟨h.gr.os, h.gr.tape, h.gr.output, by simpa [World.setCell] using h.gr.size, fun k hk hne => ?_⟩, h.lb, h.lr, h.lf, h.lg⟩
 rw [heap_setCell_other wr _ k _ (by show k ≠ fb; omega)]
 exact h.gr.block k hk hne
theorem bi.px {w wr : World} {b rb fb g N : Nat} {wd ht : Int} {px : ByteArray} (h : bi w wr b rb fb g N wd ht px) (s : ByteArray) : bi w (wr.setCell ⟨fb, 2, none⟩ (.string s)) b rb fb g N wd ht s := h.frSet 2 _ _ _ _ rfl
theorem bi.wdSet {w wr : World} {b rb fb g N : Nat} {wd ht : Int} {px : ByteArray} (h : bi w wr b rb fb g N wd ht px) (z : Int) : bi w (wr.setCell ⟨fb, 0, none⟩ (.int .i64 z)) b rb fb g N z ht px := h.frSet 0 _ _ _ _ rfl
theorem bi.htSet {w wr : World} {b rb fb g N : Nat} {wd ht : Int} {px : ByteArray} (h : bi w wr b rb fb g N wd ht px) (z : Int) : bi w (wr.setCell ⟨fb, 1, none⟩ (.int .i64 z)) b rb fb g N wd z px := h.frSet 1 _ _ _ _ rfl
theorem bi.ends {w wr : World} {b rb fb g N : Nat} {wd ht : Int} {px : ByteArray} (h : bi w wr b rb fb g N wd ht px) (x y z : Value) : aL b (((wr.setCell ⟨rb, 0, none⟩ x).setCell ⟨rb, 1, none⟩ y).setCell ⟨rb, 2, none⟩ z) ∧ w.grownBy (((wr.setCell ⟨rb, 0, none⟩ x).setCell ⟨rb, 1, none⟩ y).setCell ⟨rb, 2, none⟩ z) (some b) := by
 have := h.lb
 have := h.lr
 have one : ∀ (W : World) (i : Nat) (v : Value), W.grownBy (W.setCell ⟨rb, i, none⟩ v) (some rb) := fun W i v => ⟨rfl, rfl, rfl, by simp [World.setCell], fun k _ hk => heap_setCell_other W _ k _ (fun e => hk (by rw [e]))⟩
 have hg := aR (aR (one wr 0 x) (one _ 1 y)) (one _ 2 z)
 refine ⟨h.src.kept hg (fun c e => by have := Option.some.inj e; omega), ⟨h.gr.os, h.gr.tape, h.gr.output, Nat.le_trans h.gr.size hg.size, fun k hk hne => ?_⟩⟩
 rw [hg.block k (Nat.lt_of_lt_of_le hk h.gr.size) (fun e => by have := Option.some.inj e; omega)]
 exact h.gr.block k hk hne
theorem bi.alloc {w wr : World} {b rb fb g N : Nat} {wd ht : Int} {px : ByteArray} (h : bi w wr b rb fb g N wd ht px) (o : Obj) : bi w (wr.alloc o) b rb fb g N wd ht px :=
 h.call (h.src.allocsF o) (World.grownBy_alloc wr o (some b))
theorem fh (k : Int) : 0 ≤ IntKind.u8.wrap k ∧ IntKind.u8.wrap k ≤ 255 := by
 unfold IntKind.wrap
 simp [IntKind.signed, IntKind.bits]
 omega
theorem bD (b : Nat) (w : World) (hS : aL b w) :
  Calls Try.prog 21 #[.pointer (some ⟨b, 0, none⟩)] w fun e w' => ∃ (wd ht : Int) (s : ByteArray), e = .returned (.agg #[.int .i64 wd, .int .i64 ht, .string s]) ∧ s.size ≤ 200 ∧ aL b w' ∧ w.grownBy w' (some b) := by
 have hlt := hS.lt
 have HS := yz hS
 clear hS
 have R0 := al w [.int .i64 0, .int .i64 0, .string ⟨#[]⟩] 26
 go_enter Try.func21, Try.ntmps21
 go_wp2_with fail
 refine (bC b 6 _ ((yx HS).allocsF _) (by omega)).mono ?_
 rintro e w1 ⟨k1, rfl, hk0, hk1, _, hS1, hg1⟩
 have hk1' := hk1 (by omega)
 have R1 := yz (R0.grownC hg1 (by omega))
 have HG1 := yz (aR (World.grownBy_alloc w (.cells #[.int .i64 0, .int .i64 0, .string ⟨#[]⟩] 26) (some b)) hg1)
 have HS1 := yz hS1
 clear hS1 hg1 hk1 R0
 go_wp2_with fail
 refine (bC b 5 _ (yx HS1) (by omega)).mono ?_
 rintro e w2 ⟨k2, rfl, hk20, hk2, _, hS2, hg2⟩
 have hk2' := hk2 (by omega)
 have HS2 := yz (hS2.allocsF (.cells #[.int .i64 (5 + k1), .int .i64 (4 + k2), .string ⟨#[]⟩] 26))
 have R2 := yz (((yx R1).grownC hg2 (by omega)).alloc (.cells #[.int .i64 (5 + k1), .int .i64 (4 + k2), .string ⟨#[]⟩] 26))
 have F2 := yz (al w2 [.int .i64 (5 + k1), .int .i64 (4 + k2), .string ⟨#[]⟩] 26)
 have HG2 := yz (aR (aR (yx HG1) hg2) (World.grownBy_alloc w2 (.cells #[.int .i64 (5 + k1), .int .i64 (4 + k2), .string ⟨#[]⟩] 26) (some b)))
 have hw2 : w.heap.size < w2.heap.size := Nat.lt_of_lt_of_le (yx R1).lt hg2.size
 clear hS2 hg2 hk2 R1 HG1 HS1
 obtain ⟨wn, hwn⟩ : ∃ wn : Nat, 5 + k1 = (wn : Int) := ⟨(5 + k1).toNat, by omega⟩
 obtain ⟨hn, hhn⟩ : ∃ hn : Nat, 4 + k2 = (hn : Int) := ⟨(4 + k2).toNat, by omega⟩
 rw [hwn, hhn] at HS2 R2 F2 HG2
 rw [hwn]
 have hwb : wn ≤ 10 ∧ 5 ≤ wn := by omega
 have hhb : hn ≤ 8 ∧ 4 ≤ hn := by omega
 have hmul : (wn : Int) * (hn : Int) = ((wn * hn : Nat) : Int) := (Int.natCast_mul _ _).symm
 have hN : wn * hn ≤ 80 := by have := Nat.mul_le_mul hwb.1 hhb.1; omega
 have hN0 : 20 ≤ wn * hn := by have := Nat.mul_le_mul hwb.2 hhb.2; omega
 generalize hNe : wn * hn = N at hmul hN hN0
 obtain ⟨i0, hinf, hz0, hz1, hz2⟩ := info_parts je
 have f0 := (yx F2).cell 0 _ rfl
 have f1 := (yx F2).cell 1 _ rfl
 go_wp2_with (at_make; refine wpList_make_full _ rfl _ _ 29 rfl (w2.heap.size + 1) 5 i0 (.int .u8 0) 1 Try.underlying29 hinf hz0 hz1 .i64 .i64 _ _ N (by first | rfl | simp [hmul]) (by first | rfl | simp [hmul]) (by first | rfl | simp [hmul]) (by first | rfl | simp [hmul]) (by rw [hz2]; omega) (by unfold maxLen; omega) (by simp) ?_; intro w0 hown0 hgrow0)
 have hzero : ∀ j, j < N * 1 → (madeCells (Value.int .u8 0).cells (N * 1)).toList[j]? = some (.int .u8 ((fun _ => 0 : Nat → Int) j)) := by
  intro j hj
  have e : (Value.int .u8 0).cells = #[.int .u8 0] := rfl
  rw [e, toList_madeCells_one]
  simp at hj
  simp [hj]
 have hB0 : Below (w2.alloc (.cells #[.int .i64 (wn : Int), .int .i64 (hn : Int), .string ⟨#[]⟩] 26)).heap.size (w2.alloc (.cells #[.int .i64 (wn : Int), .int .i64 (hn : Int), .string ⟨#[]⟩] 26)) w0 := ⟨hgrow0.os, hgrow0.tape, hgrow0.output, hgrow0.size, fun k hk => hgrow0.block k hk (by simp)⟩
 have hrow : bA w0 (w2.heap.size + 1) N := by
  refine ⟨fun _ => 0, fun j => ⟨by show (0 : Int) ≤ 0; omega, by show (0 : Int) ≤ 255; omega⟩, ?_⟩
  rcases hown0.2 with ⟨h', _⟩ | ⟨g, cap, cur, hv, _, hg, _, _, _, htake⟩
  ·simp at h'
  ·simp only [World.size_alloc, Value.slice.injEq, Option.some.injEq, Addr.mk.injEq, and_true, true_and] at hv
   obtain ⟨rfl, rfl⟩ := hv
   refine ⟨cur, hg, fun j hj => ?_⟩
   have e := hzero j (by omega)
   rw [← htake, List.getElem?_take, if_pos (by omega)] at e
   simpa using e
 have HST : Hid (bi w w0 b w.heap.size w2.heap.size (w2.heap.size + 1) N wn hn ⟨#[]⟩) := yz ⟨(yx HS2).kept (row := none) ⟨hgrow0.os, hgrow0.tape, hgrow0.output, hgrow0.size, hgrow0.block⟩ (fun _ e => by cases e), (yx R2).kept hB0, (yx F2).kept hB0, hrow, aR (yx HG2) ⟨hgrow0.os, hgrow0.tape, hgrow0.output, hgrow0.size, fun k hk _ => hgrow0.block k hk (by simp)⟩, hlt, Nat.le_refl _, hw2, Nat.lt_succ_self _⟩
 clear hzero hown0 hgrow0 hB0 hrow HS2 R2 F2 HG2 f0 f1 hwn hhn
 generalize w2.heap.size + 1 = g at *
 generalize w2.heap.size = fb at *
 clear hk20 hk2' hk0 hk1' hmul
 go_loopw [5] (fun kk wr => ∃ i : Nat, i ≤ N ∧ kk = .int .i64 i ∧ Hid (bi w wr b w.heap.size fb g N wn hn ⟨#[]⟩)) (fun kk _ => N - (intOf kk).toNat)
 case atStart => exact ⟨0, by omega, rfl, HST⟩
 case round =>
  clear HST
  obtain ⟨i, hi, rfl, HST⟩ := hrel
  by_cases hiN : i < N
  ·have hiN2 : (i : Int) < (N : Int) := by omega
   go_wp2_with fail
   refine (bC b 3 _ (yx HST).src (by omega)).mono ?_
   rintro e w3 ⟨k3, rfl, hk30, hk3, _, hS3, hg3⟩
   have hk3' := hk3 (by omega)
   have ST2 := (yx HST).call hS3 hg3
   obtain ⟨fz, hfz, hrow⟩ := ST2.row
   have c0 := hrow.cell (j := i) hiN
   have g0 := hrow.free i
   have HST3 := yz (ST2.set i k3 hk30 (by omega))
   clear hS3 hg3 hk3 HST hrow ST2
   go_wp2_with fail
   go_roundw
   case rel => exact ⟨i + 1, by omega, by go_num, HST3⟩
   case measure => simp [intOf] <;> omega
  ·have hiN' : i = N := by omega
   go_wp2_with fail
   refine (bC b 6 _ (yx HST).src (by omega)).mono ?_
   rintro e w3 ⟨k3, rfl, hk30, hk3, _, hS3, hg3⟩
   have hk3' := hk3 (by omega)
   have HST2 := yz ((yx HST).call hS3 hg3)
   clear hS3 hg3 hk3 HST
   obtain ⟨kn, rfl⟩ := Int.eq_ofNat_of_zero_le hk30
   go_wp2_with fail
   go_loopw [6] (fun kk wr => ∃ q : Nat, q ≤ 5 ∧ kk = .int .i64 q ∧ Hid (bi w wr b w.heap.size fb g N wn hn ⟨#[]⟩)) (fun kk _ => (intOf kk).toNat)
   case atStart => exact ⟨kn, by omega, rfl, HST2⟩
   case round =>
    clear HST2
    obtain ⟨q, hq, rfl, HST⟩ := hrel
    by_cases hq0 : 0 < q
    ·have hq02 : (0 : Int) < (q : Int) := by omega
     go_wp2_with fail
     refine (bC b (N : Int) _ (yx HST).src (by omega)).mono ?_
     rintro e w4 ⟨k4, rfl, hk40, hk4, _, hS4, hg4⟩
     have hk4' := hk4 (by omega)
     have HST4 := yz ((yx HST).call hS4 hg4)
     clear hS4 hg4 hk4 HST
     obtain ⟨i4, rfl⟩ := Int.eq_ofNat_of_zero_le hk40
     have hi4 : i4 < N := by omega
     go_wp2_with fail
     refine (bC b 150 _ (yx HST4).src (by omega)).mono ?_
     rintro e w5 ⟨k5, rfl, hk50, hk5, _, hS5, hg5⟩
     have hk5' := hk5 (by omega)
     have ST5 := (yx HST4).call hS5 hg5
     obtain ⟨fz5, hfz5, hrow5⟩ := ST5.row
     have c0 := hrow5.cell (j := i4) hi4
     have g0 := hrow5.free i4
     have HST5 := yz (ST5.set i4 (50 + k5) (by omega) (by omega))
     clear hS5 hg5 hk5 HST4 hrow5 ST5
     go_wp2_with fail
     generalize w5.setCell ⟨g, i4, none⟩ (.int .u8 (50 + k5)) = W5 at HST5 ⊢
     clear c0 g0
     refine (cu b 2 _ (yx HST5).src (by omega)).mono ?_
     rintro e w6 ⟨y6, rfl, hS6, hg6⟩
     have HST6 := yz ((yx HST5).call hS6 hg6)
     clear hS6 hg6 HST5
     cases y6
     ·go_wp2_with fail
      refine (cu b 3 _ (yx HST6).src (by omega)).mono ?_
      rintro e w8 ⟨y8, rfl, hS8, hg8⟩
      have HST8 := yz ((yx HST6).call hS8 hg8)
      clear hS8 hg8 HST6
      have f0 := (yx HST8).fr.cell 0 _ rfl
      cases y8
      ·clear f0
       go_wp2_with fail
       go_roundw
       case rel => exact ⟨q - 1, by omega, by go_num, HST8⟩
       case measure => simp [intOf] <;> omega
      by_cases hiw : i4 < wn
      ·have hiw2 : ¬ (wn : Int) ≤ (i4 : Int) := by omega
       go_wp2_with fail
       go_roundw
       case rel => exact ⟨q - 1, by omega, by go_num, HST8⟩
       case measure => simp [intOf] <;> omega
      have hiw2 : (wn : Int) ≤ (i4 : Int) := by omega
      obtain ⟨d4, hd4⟩ : ∃ d4 : Nat, (i4 : Int) - (wn : Int) = (d4 : Int) := ⟨i4 - wn, by omega⟩
      have hd4N : d4 < N := by omega
      have hd4N2 : (d4 : Int) < (N : Int) := by omega
      have hwr : IntKind.i64.wrap (d4 : Int) = (d4 : Int) := by unfold IntKind.wrap; simp [IntKind.signed, IntKind.bits]; omega
      go_wp2_with fail
      refine wp_region_held_drew (S := (fun w' => w'.cell? ⟨fb, 0, none⟩ = some (.int .i64 (wn : Int)))) (by kernel_rfl) ?_ (fun hHeld => ?_)
      ·exact f0
      refine aa 0 rfl ?_
      try simp only [Act.put, ag, ah, ai]
      refine aa 1 rfl ?_
      try simp only [Act.put, ag, ah, ai]
      refine aa 2 rfl ?_
      try simp only [Act.put, ag, ah, ai]
      refine aa 3 rfl ?_
      try simp only [Act.put, ag, ah, ai]
      refine aa 4 rfl ?_
      try simp only [Act.put, ag, ah, ai]
      refine aa 5 rfl ?_
      try simp only [Act.put, ag, ah, ai]
      refine ac 6 rfl fun K hK => ?_
      go_simp
      refine (bC b 80 _ (yx HST8).drewn.src (by omega)).mono ?_
      rintro e w9 ⟨k9, rfl, hk90, hk9, _, hS9, hg9⟩
      have hk9' := hk9 (by omega)
      have ST9 := (yx HST8).drewn.call hS9 hg9
      have f9 := ST9.fr.cell 0 _ rfl
      refine hK.out _ _ ?_ (fun hHeld2 => ?_)
      ·exact f9
      clear hK K
      refine aa 7 rfl ?_
      try simp only [Act.put, ag, ah, ai]
      refine aa 8 rfl ?_
      try simp only [Act.put, ag, ah, ai]
      refine aa 9 rfl ?_
      try simp only [Act.put, ag, ah, ai]
      refine ac 10 rfl fun K hK => ?_
      obtain ⟨fz9, hfz9, hrow9⟩ := ST9.row
      have c9 := hrow9.cell (j := d4) hd4N
      have g9 := hrow9.free d4
      have ST10 := ST9.set d4 (IntKind.u8.wrap (IntKind.i64.wrap (20 + k9))) (fh _).1 (fh _).2
      have f10 := ST10.fr.cell 0 _ rfl
      have HST10 := yz ST10
      go_simp
      refine hK.out _ _ ?_ (fun hHeld3 => ?_)
      ·exact f10
      clear hK K
      refine wpAnyH_done (by kernel_rfl) ?_ _
      clear hS9 hg9 hk9 ST9 f9 hrow9 c9 g9 ST10 f10 hHeld3 HST8 f0
      generalize w9.setCell ⟨g, d4, none⟩ (.int .u8 (IntKind.u8.wrap (IntKind.i64.wrap (20 + k9)))) = W10 at HST10 ⊢
      go_wp2_with fail
      go_roundw
      case rel => exact ⟨q - 1, by omega, by go_num, HST10⟩
      case measure => simp [intOf] <;> omega
     by_cases hi1 : N ≤ i4 + 1
     ·have hi12 : ¬ (i4 : Int) + 1 < (N : Int) := by omega
      go_wp2_with fail
      clear hi12
      refine (cu b 3 _ (yx HST6).src (by omega)).mono ?_
      rintro e w8 ⟨y8, rfl, hS8, hg8⟩
      have HST8 := yz ((yx HST6).call hS8 hg8)
      clear hS8 hg8 HST6
      have f0 := (yx HST8).fr.cell 0 _ rfl
      cases y8
      ·clear f0
       go_wp2_with fail
       go_roundw
       case rel => exact ⟨q - 1, by omega, by go_num, HST8⟩
       case measure => simp [intOf] <;> omega
      by_cases hiw : i4 < wn
      ·exfalso; omega
      have hiw2 : (wn : Int) ≤ (i4 : Int) := by omega
      obtain ⟨d4, hd4⟩ : ∃ d4 : Nat, (i4 : Int) - (wn : Int) = (d4 : Int) := ⟨i4 - wn, by omega⟩
      have hd4N : d4 < N := by omega
      have hd4N2 : (d4 : Int) < (N : Int) := by omega
      have hwr : IntKind.i64.wrap (d4 : Int) = (d4 : Int) := by unfold IntKind.wrap; simp [IntKind.signed, IntKind.bits]; omega
      go_wp2_with fail
      refine wp_region_held_drew (S := (fun w' => w'.cell? ⟨fb, 0, none⟩ = some (.int .i64 (wn : Int)))) (by kernel_rfl) ?_ (fun hHeld => ?_)
      ·exact f0
      refine aa 0 rfl ?_
      try simp only [Act.put, ag, ah, ai]
      refine aa 1 rfl ?_
      try simp only [Act.put, ag, ah, ai]
      refine aa 2 rfl ?_
      try simp only [Act.put, ag, ah, ai]
      refine aa 3 rfl ?_
      try simp only [Act.put, ag, ah, ai]
      refine aa 4 rfl ?_
      try simp only [Act.put, ag, ah, ai]
      refine aa 5 rfl ?_
      try simp only [Act.put, ag, ah, ai]
      refine ac 6 rfl fun K hK => ?_
      go_simp
      refine (bC b 80 _ (yx HST8).drewn.src (by omega)).mono ?_
      rintro e w9 ⟨k9, rfl, hk90, hk9, _, hS9, hg9⟩
      have hk9' := hk9 (by omega)
      have ST9 := (yx HST8).drewn.call hS9 hg9
      have f9 := ST9.fr.cell 0 _ rfl
      refine hK.out _ _ ?_ (fun hHeld2 => ?_)
      ·exact f9
      clear hK K
      refine aa 7 rfl ?_
      try simp only [Act.put, ag, ah, ai]
      refine aa 8 rfl ?_
      try simp only [Act.put, ag, ah, ai]
      refine aa 9 rfl ?_
      try simp only [Act.put, ag, ah, ai]
      refine ac 10 rfl fun K hK => ?_
      obtain ⟨fz9, hfz9, hrow9⟩ := ST9.row
      have c9 := hrow9.cell (j := d4) hd4N
      have g9 := hrow9.free d4
      have ST10 := ST9.set d4 (IntKind.u8.wrap (IntKind.i64.wrap (20 + k9))) (fh _).1 (fh _).2
      have f10 := ST10.fr.cell 0 _ rfl
      have HST10 := yz ST10
      go_simp
      refine hK.out _ _ ?_ (fun hHeld3 => ?_)
      ·exact f10
      clear hK K
      refine wpAnyH_done (by kernel_rfl) ?_ _
      clear hS9 hg9 hk9 ST9 f9 hrow9 c9 g9 ST10 f10 hHeld3 HST8 f0
      generalize w9.setCell ⟨g, d4, none⟩ (.int .u8 (IntKind.u8.wrap (IntKind.i64.wrap (20 + k9)))) = W10 at HST10 ⊢
      go_wp2_with fail
      go_roundw
      case rel => exact ⟨q - 1, by omega, by go_num, HST10⟩
      case measure => simp [intOf] <;> omega
     have hi12 : (i4 : Int) + 1 < (N : Int) := by omega
     go_wp2_with fail
     refine (bC b 80 _ (yx HST6).src (by omega)).mono ?_
     rintro e w7 ⟨k7, rfl, hk70, hk7, _, hS7, hg7⟩
     have hk7' := hk7 (by omega)
     have ST7 := (yx HST6).call hS7 hg7
     obtain ⟨fz7, hfz7, hrow7⟩ := ST7.row
     have c7 := hrow7.cell (j := i4 + 1) (by omega)
     have g7 := hrow7.free (i4 + 1)
     have HST7 := yz (ST7.set (i4 + 1) (20 + k7) (by omega) (by omega))
     clear hS7 hg7 hk7 HST6 hrow7 ST7
     go_wp2_with fail
     generalize w7.setCell ⟨g, i4 + 1, none⟩ (.int .u8 (20 + k7)) = W7 at HST7 ⊢
     clear c7 g7
     refine (cu b 3 _ (yx HST7).src (by omega)).mono ?_
     rintro e w8 ⟨y8, rfl, hS8, hg8⟩
     have HST8 := yz ((yx HST7).call hS8 hg8)
     clear hS8 hg8 HST7
     have f0 := (yx HST8).fr.cell 0 _ rfl
     cases y8
     ·clear f0
      go_wp2_with fail
      go_roundw
      case rel => exact ⟨q - 1, by omega, by go_num, HST8⟩
      case measure => simp [intOf] <;> omega
     by_cases hiw : i4 < wn
     ·have hiw2 : ¬ (wn : Int) ≤ (i4 : Int) := by omega
      go_wp2_with fail
      go_roundw
      case rel => exact ⟨q - 1, by omega, by go_num, HST8⟩
      case measure => simp [intOf] <;> omega
     have hiw2 : (wn : Int) ≤ (i4 : Int) := by omega
     obtain ⟨d4, hd4⟩ : ∃ d4 : Nat, (i4 : Int) - (wn : Int) = (d4 : Int) := ⟨i4 - wn, by omega⟩
     have hd4N : d4 < N := by omega
     have hd4N2 : (d4 : Int) < (N : Int) := by omega
     have hwr : IntKind.i64.wrap (d4 : Int) = (d4 : Int) := by unfold IntKind.wrap; simp [IntKind.signed, IntKind.bits]; omega
     go_wp2_with fail
     refine wp_region_held_drew (S := (fun w' => w'.cell? ⟨fb, 0, none⟩ = some (.int .i64 (wn : Int)))) (by kernel_rfl) ?_ (fun hHeld => ?_)
     ·exact f0
     refine aa 0 rfl ?_
     try simp only [Act.put, ag, ah, ai]
     refine aa 1 rfl ?_
     try simp only [Act.put, ag, ah, ai]
     refine aa 2 rfl ?_
     try simp only [Act.put, ag, ah, ai]
     refine aa 3 rfl ?_
     try simp only [Act.put, ag, ah, ai]
     refine aa 4 rfl ?_
     try simp only [Act.put, ag, ah, ai]
     refine aa 5 rfl ?_
     try simp only [Act.put, ag, ah, ai]
     refine ac 6 rfl fun K hK => ?_
     go_simp
     refine (bC b 80 _ (yx HST8).drewn.src (by omega)).mono ?_
     rintro e w9 ⟨k9, rfl, hk90, hk9, _, hS9, hg9⟩
     have hk9' := hk9 (by omega)
     have ST9 := (yx HST8).drewn.call hS9 hg9
     have f9 := ST9.fr.cell 0 _ rfl
     refine hK.out _ _ ?_ (fun hHeld2 => ?_)
     ·exact f9
     clear hK K
     refine aa 7 rfl ?_
     try simp only [Act.put, ag, ah, ai]
     refine aa 8 rfl ?_
     try simp only [Act.put, ag, ah, ai]
     refine aa 9 rfl ?_
     try simp only [Act.put, ag, ah, ai]
     refine ac 10 rfl fun K hK => ?_
     obtain ⟨fz9, hfz9, hrow9⟩ := ST9.row
     have c9 := hrow9.cell (j := d4) hd4N
     have g9 := hrow9.free d4
     have ST10 := ST9.set d4 (IntKind.u8.wrap (IntKind.i64.wrap (20 + k9))) (fh _).1 (fh _).2
     have f10 := ST10.fr.cell 0 _ rfl
     have HST10 := yz ST10
     go_simp
     refine hK.out _ _ ?_ (fun hHeld3 => ?_)
     ·exact f10
     clear hK K
     refine wpAnyH_done (by kernel_rfl) ?_ _
     clear hS9 hg9 hk9 ST9 f9 hrow9 c9 g9 ST10 f10 hHeld3 HST8 f0
     generalize w9.setCell ⟨g, d4, none⟩ (.int .u8 (IntKind.u8.wrap (IntKind.i64.wrap (20 + k9)))) = W10 at HST10 ⊢
     go_wp2_with fail
     go_roundw
     case rel => exact ⟨q - 1, by omega, by go_num, HST10⟩
     case measure => simp [intOf] <;> omega
    ·have hq0' : q = 0 := by omega
     subst hq0'
     obtain ⟨sx, hsx, hcv⟩ := (yx HST).row.conv N
     have f0 := (yx HST).fr.cell 0 _ rfl
     have f1 := (yx HST).fr.cell 1 _ rfl
     have f2 := (yx HST).fr.cell 2 _ rfl
     have e2 := (yx HST).fr.free 2
     have HST2 := yz ((yx HST).px sx)
     clear HST
     go_wp2_with fail
     clear f0 f1 f2 e2 hcv
     generalize wr.setCell ⟨fb, 2, none⟩ (.string sx) = W2 at HST2 ⊢
     refine (cu b 12 _ (yx HST2).src (by omega)).mono ?_
     rintro e w3 ⟨y3, rfl, hS3, hg3⟩
     have HST3 := yz ((yx HST2).call hS3 hg3)
     clear hS3 hg3 HST2
     cases y3
     ·have f0 := (yx HST3).fr.cell 0 _ rfl
      have f1 := (yx HST3).fr.cell 1 _ rfl
      have f2 := (yx HST3).fr.cell 2 _ rfl
      have r0 := (yx HST3).res.cell 0 _ rfl
      have r1 := (yx HST3).res.cell 1 _ rfl
      have r2 := (yx HST3).res.cell 2 _ rfl
      have x0 := (yx HST3).res.free 0
      have x1 := (yx HST3).res.free 1
      have x2 := (yx HST3).res.free 2
      have hEnd := (yx HST3).ends (.int .i64 (wn : Int)) (.int .i64 (hn : Int)) (.string sx)
      go_wp2_with fail
      exact bodyPost_ret (v := .agg #[.int .i64 (wn : Int), .int .i64 (hn : Int), .string sx]) (by simp [results, Try.results21, go_sem, r0, r1, r2]) rfl ⟨_, _, _, rfl, by omega, hEnd.1, hEnd.2⟩
     go_wp2_with fail
     refine (bC b 3 _ (yx HST3).src (by omega)).mono ?_
     rintro e w4 ⟨k4, rfl, hk40, hk4, _, hS4, hg4⟩
     have hk4' := hk4 (by omega)
     have HST4 := yz ((yx HST3).call hS4 hg4)
     clear hS4 hg4 hk4 HST3
     have f0 := (yx HST4).fr.cell 0 _ rfl
     have f1 := (yx HST4).fr.cell 1 _ rfl
     have f2 := (yx HST4).fr.cell 2 _ rfl
     have e0 := (yx HST4).fr.free 0
     have e1 := (yx HST4).fr.free 1
     have e2 := (yx HST4).fr.free 2
     have hcase : k4 = 0 ∨ k4 = 1 ∨ k4 = 2 := by omega
     rcases hcase with rfl | rfl | rfl
     ·go_wp2_with fail
      refine (bC b 3 _ ((yx HST4).src.allocsF _) (by omega)).mono ?_
      rintro e w5 ⟨k5, rfl, hk50, hk5, _, hS5, hg5⟩
      have hk5' := hk5 (by omega)
      obtain ⟨i5, rfl⟩ := Int.eq_ofNat_of_zero_le hk50
      have ST5 := ((yx HST4).alloc (.cells #[.int .i64 0, .int .i64 16, .int .i64 17] 2)).call hS5 hg5
      have L5 : Blk w5 w4.heap.size [.int .i64 0, .int .i64 16, .int .i64 17] 2 := (al w4 [.int .i64 0, .int .i64 16, .int .i64 17] 2).grownC hg5 (by have := (yx HST4).src.lt; omega)
      obtain ⟨z5, hz5⟩ : ∃ z : Int, ([.int .i64 0, .int .i64 16, .int .i64 17] : List Value)[i5]? = some (.int .i64 z) := by
       have : i5 = 0 ∨ i5 = 1 ∨ i5 = 2 := by omega
       rcases this with rfl | rfl | rfl <;> exact ⟨_, rfl⟩
      have c5 := L5.cell i5 _ hz5
      have g0 := ST5.fr.cell 0 _ rfl
      have h0 := ST5.fr.free 0
      have ST6 := ST5.wdSet z5
      have hEnd := ST6.ends (.int .i64 z5) (.int .i64 (hn : Int)) (.string sx)
      have g1 := ST5.fr.cell 1 _ rfl
      have g2 := ST5.fr.cell 2 _ rfl
      have r0 := ST5.res.cell 0 _ rfl
      have r1 := ST5.res.cell 1 _ rfl
      have r2 := ST5.res.cell 2 _ rfl
      have x0 := ST5.res.free 0
      have x1 := ST5.res.free 1
      have x2 := ST5.res.free 2
      have hi53 : (i5 : Int) < 3 := by omega
      have hne : fb ≠ w.heap.size := by have := ST5.lf; omega
      clear hS5 hg5 hk5 ST5 ST6 L5 hz5 HST4 f0 f1 f2 e0 e1 e2
      go_wp2_with fail
      exact bodyPost_ret (v := .agg #[.int .i64 z5, .int .i64 (hn : Int), .string sx]) (by simp [results, Try.results21, go_sem, r0, r1, r2]) rfl ⟨_, _, _, rfl, by first | omega | (simp; omega), hEnd.1, hEnd.2⟩
     ·have hcat : ¬ sx.size + 1 > 9223372036854775807 := by omega
      have htl : (sx ++ ⟨#[120]⟩ : ByteArray).size ≤ 200 := by simp; show sx.size + 1 ≤ 200; omega
      have hEnd := ((yx HST4).px (sx ++ ⟨#[120]⟩)).ends (.int .i64 (wn : Int)) (.int .i64 (hn : Int)) (.string (sx ++ ⟨#[120]⟩))
      have r0 := (yx HST4).res.cell 0 _ rfl
      have r1 := (yx HST4).res.cell 1 _ rfl
      have r2 := (yx HST4).res.cell 2 _ rfl
      have x0 := (yx HST4).res.free 0
      have x1 := (yx HST4).res.free 1
      have x2 := (yx HST4).res.free 2
      have hne : fb ≠ w.heap.size := by have := (yx HST4).lf; omega
      clear HST4
      go_wp2_with fail
      exact bodyPost_ret (v := .agg #[.int .i64 (wn : Int), .int .i64 (hn : Int), .string (sx ++ ⟨#[120]⟩)]) (by simp [results, Try.results21, go_sem, r0, r1, r2]) rfl ⟨_, _, _, rfl, htl, hEnd.1, hEnd.2⟩
     ·have hEnd := (((yx HST4).htSet (-(hn : Int))).wdSet (-(wn : Int))).ends (.int .i64 (-(wn : Int))) (.int .i64 (-(hn : Int))) (.string sx)
      have r0 := (yx HST4).res.cell 0 _ rfl
      have r1 := (yx HST4).res.cell 1 _ rfl
      have r2 := (yx HST4).res.cell 2 _ rfl
      have x0 := (yx HST4).res.free 0
      have x1 := (yx HST4).res.free 1
      have x2 := (yx HST4).res.free 2
      have hne : fb ≠ w.heap.size := by have := (yx HST4).lf; omega
      clear HST4
      go_wp2_with fail
      exact bodyPost_ret (v := .agg #[.int .i64 (-(wn : Int)), .int .i64 (-(hn : Int)), .string sx]) (by simp [results, Try.results21, go_sem, r0, r1, r2]) rfl ⟨_, _, _, rfl, by first | omega | (simp; omega), hEnd.1, hEnd.2⟩
end
section
open Go.RowKit Go.Sort
def bk (w : World) (sb n : Nat) (T : Nat → Bool) : Prop := aH w 4 sb n (fun j => .bool (T j))
def jC (wd ht : Int) (s : ByteArray) (lv : Int) (sb n : Nat) : List Value := [.int .i64 wd, .int .i64 ht, .string s, .int .i64 lv, .slice (some ⟨sb, 0, none⟩) n n]
def cf (w : World) (xb : Nat) (wd ht : Int) (s : ByteArray) (lv : Int) (sb n : Nat) : Prop := Blk w xb (jC wd ht s lv sb n) 59
def aK (wd ht : Nat) (s : ByteArray) (lv : Int) : Fr := ⟨wd, ht, ao s, lv⟩
theorem dE (wd ht : Nat) (s : ByteArray) (lv : Int) (xb sb n i : Nat) (T : Nat → Bool) (w : World) (hn : n = s.size) (hi : i < n) (hL : cf w xb wd ht s lv sb n) (hS : bk w sb n T) :
  Calls Try.prog 26 #[.pointer (some ⟨xb, 0, none⟩), .int .i64 i] w fun e w' => e = .returned (.bool (bH (aK wd ht s lv) T i)) ∧ Below w.heap.size w w' := by
 subst hn
 have hi2 : (i : Int) < (s.size : Int) := by omega
 have c2 := hL.cell 2 _ rfl
 have c3 := hL.cell 3 _ rfl
 have c4 := hL.cell 4 _ rfl
 have d0 := hS.cell hi
 have r2 := cell_regrown c2
 have r3 := cell_regrown c3
 have r4 := cell_regrown c4
 have q0 := cell_regrown d0
 have hb := aU hi
 have HL : Hid (bH (aK wd ht s lv) T i = (decide (lv < (s[i].toNat : Int)) && !T i)) := yz (by
  show (decide (lv < (ao s i : Int)) && !T i) = _
  simp only [hb])
 clear c2 c3 c4 d0 hL hS hb
 generalize T i = t at *
 generalize bH (aK wd ht s lv) T i = lit at *
 have hwr : wrap64 (s[i].toNat : Int) = (s[i].toNat : Int) := aG (by omega) (by have := s[i].toNat_lt; omega)
 have HWR := yz hwr
 clear hwr
 by_cases hlt : lv < (s[i].toNat : Int)
 ·have hd : decide (lv < wrap64 (s[i].toNat : Int)) = true := by rw [yx HWR]; exact decide_eq_true hlt
  have HL2 : Hid (lit = !t) := yz (by rw [yx HL, decide_eq_true hlt, Bool.true_and])
  clear HL
  go_enter Try.func26, Try.ntmps26
  go_wp2_with fail
  refine wp_region_quiet_below (by kernel_rfl) (by kernel_rfl) ?_
  repeat (go_big_quiet_step (fail))
  refine wpQuiet_nil ?_
  intro _ hw'
  obtain ⟨⟨dq, osq⟩, hw''⟩ := hw'
  subst hw''
  have hx := below_regrown w dq osq
  go_wp2_with fail
  go_ret
  exact ⟨by rw [yx HL2]; rfl, hx⟩
 ·have HL2 : Hid (lit = false) := yz (by rw [yx HL, decide_eq_false hlt, Bool.false_and])
  have hd : decide (lv < wrap64 (s[i].toNat : Int)) = false := by rw [yx HWR]; exact decide_eq_false hlt
  clear HL
  go_enter Try.func26, Try.ntmps26
  go_wp2_with fail
  refine wp_region_quiet_below (by kernel_rfl) (by kernel_rfl) ?_
  repeat (go_big_quiet_step (fail))
  refine wpQuiet_nil ?_
  intro _ hw'
  obtain ⟨⟨dq, osq⟩, hw''⟩ := hw'
  subst hw''
  have hx := below_regrown w dq osq
  go_wp2_with fail
  go_ret
  exact ⟨by rw [yx HL2]; rfl, hx⟩
end
section
open Go.RowKit
def eJ (w : World) (b : Nat) (x y z : Int) : Prop := w.cell? ⟨b, 0, none⟩ = some (.int .i64 x) ∧ w.cell? ⟨b, 1, none⟩ = some (.int .i64 y) ∧ w.cell? ⟨b, 2, none⟩ = some (.int .i64 z)
def ge (w : World) (b : Nat) : Prop := w.frozen? ⟨b, 0, none⟩ = false ∧ w.frozen? ⟨b, 1, none⟩ = false ∧ w.frozen? ⟨b, 2, none⟩ = false
theorem eJ.kept {w w' : World} {b : Nat} {x y z : Int} (h : eJ w b x y z) (hb : b < w.heap.size) (hB : Below w.heap.size w w') : eJ w' b x y z := by
 obtain ⟨h0, h1, h2⟩ := h
 exact ⟨by rw [hB.cell (p := ⟨b, 0, none⟩) hb]; exact h0, by rw [hB.cell (p := ⟨b, 1, none⟩) hb]; exact h1, by rw [hB.cell (p := ⟨b, 2, none⟩) hb]; exact h2⟩
theorem ge.kept {w w' : World} {b : Nat} (h : ge w b) (hb : b < w.heap.size) (hB : Below w.heap.size w w') : ge w' b := by
 obtain ⟨h0, h1, h2⟩ := h
 exact ⟨by rw [hB.frozen (p := ⟨b, 0, none⟩) hb]; exact h0, by rw [hB.frozen (p := ⟨b, 1, none⟩) hb]; exact h1, by rw [hB.frozen (p := ⟨b, 2, none⟩) hb]; exact h2⟩
theorem eJ.alloc {w : World} {b : Nat} {x y z : Int} (h : eJ w b x y z) (hb : b < w.heap.size) (o : Obj) : eJ (w.alloc o) b x y z := h.kept hb (an _ _)
end
section
open Go.RowKit Go.Sort
theorem fn (s : ByteArray) (w : World) : ∃ (cap : Nat) (w4 : World), (convert 9 29 (.string s)).run Try.prog w = .ok (.slice (some ⟨w.heap.size, 0, none⟩) s.size cap) w4 ∧ bh w4 w.heap.size s.size (fun j => (ao s j : Int)) ∧ Below w.heap.size w w4 ∧ w4.heap.size = w.heap.size + 1 := by
 have h := run_bytes_of_string (P := Try.prog) w 9 29 5 s Try.underlying9 Try.underlying29 Try.underlying5
 have hh : (w.drew.alloc (.cells (bytesRow s (grownCap w s.size 0 5)) 5 ((bytesRow s (grownCap w s.size 0 5)).size, (bytesRow s (grownCap w s.size 0 5)).size + 1))).heap[w.heap.size]? = _ := heap_alloc_new w.drew _
 refine ⟨_, _, h, fun j hj => ⟨?_, ?_⟩, ((Below.refl _ w).drew).alloc (Nat.le_refl _) _, by simp⟩
 ·have hr := bytesRow_at s (grownCap w s.size 0 5) j hj
  unfold World.cell?
  simp only [hh, hr]
  rw [aU hj]
  rfl
 ·have hsz : s.size ≤ (bytesRow s (grownCap w s.size 0 5)).size := by simp [bytesRow]
  unfold World.frozen?
  simp only [hh]
  simp
  omega
theorem fI {w1 h1 w2 h2 : Int} {f d : ByteArray} (h : av w1 h1 f = false) : bO w1 h1 f w2 h2 d = false := by unfold bO; rw [h]; rfl
theorem fJ {w1 h1 w2 h2 : Int} {f d : ByteArray} (h : av w2 h2 d = false) : bO w1 h1 f w2 h2 d = false := by unfold bO; rw [h]; simp
theorem fK {w1 h1 w2 h2 : Int} {f d : ByteArray} (h : ¬ w1 = w2) : bO w1 h1 f w2 h2 d = false := by unfold bO; simp [h]
theorem fL {w1 h1 w2 h2 : Int} {f d : ByteArray} (h : ¬ h1 = h2) : bO w1 h1 f w2 h2 d = false := by unfold bO; simp [h]
theorem dT {w1 h1 w2 h2 : Int} {f d : ByteArray} (a : av w1 h1 f = true) (b : av w2 h2 d = true) (c : w1 = w2) (e : h1 = h2) : bO w1 h1 f w2 h2 d = true := by unfold bO; rw [a, b]; simp [c, e]
theorem bz {w1 h1 w2 h2 : Int} {f d : ByteArray} (h : bO w1 h1 f w2 h2 d = false) : bw w1 h1 f w2 h2 d = .agg #[.int .i64 0, .int .i64 0, .string ⟨#[]⟩, .int .i64 1] := by unfold bw; rw [h]; rfl
theorem dz {w1 h1 w2 h2 : Int} {f d : ByteArray} (h : bO w1 h1 f w2 h2 d = true) : bw w1 h1 f w2 h2 d = .agg #[.int .i64 w1, .int .i64 h1, .string (bv f d), .int .i64 0] := by unfold bw; rw [if_pos h]
theorem eS {f d : ByteArray} {k : Nat} {v : Int} (h : aV f d k = v) (j : Nat) : (if j = k then v else if j < k then aV f d j else (ao f j : Int)) = if j < k + 1 then aV f d j else (ao f j : Int) := by
 by_cases e : j = k
 ·subst e; rw [if_pos rfl, if_pos (by omega), h]
 ·rw [if_neg e]
  by_cases e2 : j < k
  ·rw [if_pos e2, if_pos (by omega)]
  ·rw [if_neg e2, if_neg (by omega)]
theorem dm (w1 h1 : Int) (f : ByteArray) (w2 h2 : Int) (d : ByteArray) (w : World) :
  Calls Try.prog 15 #[.agg #[.int .i64 w1, .int .i64 h1, .string f], .agg #[.int .i64 w2, .int .i64 h2, .string d]] w fun e w' => e = .returned (bw w1 h1 f w2 h2 d) ∧ Below w.heap.size w w' := by
 have cF := yz (fun W => aJ w1 h1 f W)
 have cD := yz (fun W => aJ w2 h2 d W)
 have A0 := (((al w [.int .i64 w1, .int .i64 h1, .string f] 26).alloc (.cells #[.int .i64 w2, .int .i64 h2, .string d] 26)).alloc (.cells #[.int .i64 0, .int .i64 0, .string ⟨#[]⟩, .int .i64 0] 40))
 have D0 := ((al (w.alloc (.cells #[.int .i64 w1, .int .i64 h1, .string f] 26)) [.int .i64 w2, .int .i64 h2, .string d] 26).alloc (.cells #[.int .i64 0, .int .i64 0, .string ⟨#[]⟩, .int .i64 0] 40))
 have R0 := al ((w.alloc (.cells #[.int .i64 w1, .int .i64 h1, .string f] 26)).alloc (.cells #[.int .i64 w2, .int .i64 h2, .string d] 26)) [.int .i64 0, .int .i64 0, .string ⟨#[]⟩, .int .i64 0] 40
 have B0 := dt w (.cells #[.int .i64 w1, .int .i64 h1, .string f] 26) (.cells #[.int .i64 w2, .int .i64 h2, .string d] 26) (.cells #[.int .i64 0, .int .i64 0, .string ⟨#[]⟩, .int .i64 0] 40)
 have e1 : (w.alloc (.cells #[.int .i64 w1, .int .i64 h1, .string f] 26)).heap.size = w.heap.size + 1 := by simp
 have e2 : ((w.alloc (.cells #[.int .i64 w1, .int .i64 h1, .string f] 26)).alloc (.cells #[.int .i64 w2, .int .i64 h2, .string d] 26)).heap.size = w.heap.size + 1 + 1 := by simp
 rw [e1] at D0
 rw [e2] at R0
 clear e1 e2
 go_enter Try.func15, Try.ntmps15
 go_wp2_with fail
 generalize (((w.alloc (.cells #[.int .i64 w1, .int .i64 h1, .string f] 26)).alloc (.cells #[.int .i64 w2, .int .i64 h2, .string d] 26)).alloc (.cells #[.int .i64 0, .int .i64 0, .string ⟨#[]⟩, .int .i64 0] 40)) = W0 at A0 D0 R0 B0 ⊢
 obtain ⟨ob, hob⟩ : ∃ ob, ob = w.heap.size + 1 + 1 := ⟨_, rfl⟩
 obtain ⟨db, hdb⟩ : ∃ db, db = w.heap.size + 1 := ⟨_, rfl⟩
 obtain ⟨fb, hfb⟩ : ∃ fb, fb = w.heap.size := ⟨_, rfl⟩
 rw [← hob] at R0 ⊢
 rw [← hdb] at D0 ⊢
 rw [← hfb] at A0 ⊢
 have lfb : w.heap.size ≤ fb := by omega
 have lob : w.heap.size ≤ ob := by omega
 have lfd : fb < db := by omega
 have ldo : db < ob := by omega
 clear hob hdb hfb
 refine (yx cF _).mono ?_
 rintro e W1 ⟨rfl, hx⟩
 have A1 := A0.kept hx
 have D1 := D0.kept hx
 have R1 := R0.kept hx
 have B1 := aj B0 hx
 clear hx A0 D0 R0 B0
 cases k1 : av w1 h1 f
 ·have r0 := R1.cell 0 _ rfl
  have r1 := R1.cell 1 _ rfl
  have r2 := R1.cell 2 _ rfl
  have r3 := R1.cell 3 _ rfl
  obtain ⟨g0, g1, g2, g3⟩ := eD (R1)
  have HV : Hid (bw w1 h1 f w2 h2 d = _) := yz (bz (fI k1))
  go_wp2_with fail
  rw [yx HV]
  exact bodyPost_ret (v := .agg #[.int .i64 0, .int .i64 0, .string ⟨#[]⟩, .int .i64 1]) (by simp [results, Try.results15, go_sem, r0, r1, r2, r3]) rfl ⟨rfl, (((B1.setCell lob _).setCell lob _).setCell lob _).setCell lob _⟩
 obtain ⟨a0, a1, a2⟩ := cd (A1)
 obtain ⟨d0, d1, d2⟩ := cd (D1)
 go_wp2_with fail
 refine (yx cD _).mono ?_
 rintro e W2 ⟨rfl, hx⟩
 have A2 := A1.kept hx
 have D2 := D1.kept hx
 have R2 := R1.kept hx
 have B2 := aj B1 hx
 clear hx A1 D1 R1 B1 a0 a1 a2 d0 d1 d2
 cases k2 : av w2 h2 d
 ·have r0 := R2.cell 0 _ rfl
  have r1 := R2.cell 1 _ rfl
  have r2 := R2.cell 2 _ rfl
  have r3 := R2.cell 3 _ rfl
  obtain ⟨g0, g1, g2, g3⟩ := eD (R2)
  have HV : Hid (bw w1 h1 f w2 h2 d = _) := yz (bz (fJ k2))
  go_wp2_with fail
  rw [yx HV]
  exact bodyPost_ret (v := .agg #[.int .i64 0, .int .i64 0, .string ⟨#[]⟩, .int .i64 1]) (by simp [results, Try.results15, go_sem, r0, r1, r2, r3]) rfl ⟨rfl, (((B2.setCell lob _).setCell lob _).setCell lob _).setCell lob _⟩
 obtain ⟨a0, a1, a2⟩ := cd (A2)
 obtain ⟨d0, d1, d2⟩ := cd (D2)
 by_cases k3 : w1 = w2
 case neg =>
  have k3' : (w1 == w2) = false := by simp [k3]
  obtain ⟨r0, r1, r2, r3⟩ := gU (R2)
  obtain ⟨g0, g1, g2, g3⟩ := eD (R2)
  have HV : Hid (bw w1 h1 f w2 h2 d = _) := yz (bz (fK k3))
  go_wp2_with fail
  rw [yx HV]
  exact bodyPost_ret (v := .agg #[.int .i64 0, .int .i64 0, .string ⟨#[]⟩, .int .i64 1]) (by simp [results, Try.results15, go_sem, r0, r1, r2, r3]) rfl ⟨rfl, (((B2.setCell lob _).setCell lob _).setCell lob _).setCell lob _⟩
 by_cases k4 : h1 = h2
 case neg =>
  have k4' : (h1 == h2) = false := by simp [k4]
  have k3' : (w1 == w2) = true := by simp [k3]
  obtain ⟨r0, r1, r2, r3⟩ := gU (R2)
  obtain ⟨g0, g1, g2, g3⟩ := eD (R2)
  have HV : Hid (bw w1 h1 f w2 h2 d = _) := yz (bz (fL k4))
  go_wp2_with fail
  rw [yx HV]
  exact bodyPost_ret (v := .agg #[.int .i64 0, .int .i64 0, .string ⟨#[]⟩, .int .i64 1]) (by simp [results, Try.results15, go_sem, r0, r1, r2, r3]) rfl ⟨rfl, (((B2.setCell lob _).setCell lob _).setCell lob _).setCell lob _⟩
 subst k3 k4
 have HV := yz (dz (dT k1 k2 rfl rfl))
 have hsz : (d.size : Int) = (f.size : Int) := by rw [(au.1 k1).2.2.2.2, (au.1 k2).2.2.2.2]
 have hsz2 : f.size ≤ 192 := by
  have hm := (au.1 k1)
  have := Int.mul_le_mul hm.2.1 hm.2.2.2.1 (by omega) (by omega)
  omega
 obtain ⟨cap, W3, hcv, hrow, hx, hz⟩ := fn f W2
 have hbb := R2.lt
 have A3 := A2.kept hx
 have D3 := D2.kept hx
 have R3 := R2.kept hx
 have B3 := aj B2 hx
 go_wp2_with fail
 clear hcv hx A2 D2 R2 B2 a0 a1 a2 d0 d1 d2
 generalize W2.heap.size = bb at *
 have A4 := yz A3
 have D4 := yz D3
 have R4 := yz R3
 have B4 := yz B3
 have Q4 := yz hrow
 clear A3 D3 R3 B3 hrow
 go_loopw [6] (fun i wr => ∃ k : Nat, k ≤ f.size ∧ i = .int .i64 k ∧ Hid (bh wr bb f.size (fun j => if j < k then aV f d j else (ao f j : Int))) ∧ Hid (Blk wr fb [.int .i64 w1, .int .i64 h1, .string f] 26) ∧ Hid (Blk wr db [.int .i64 w1, .int .i64 h1, .string d] 26) ∧ Hid (Blk wr ob [.int .i64 0, .int .i64 0, .string ⟨#[]⟩, .int .i64 0] 40) ∧ Hid (Below w.heap.size w wr)) (fun i _ => f.size - (intOf i).toNat)
 case atStart => exact ⟨0, by omega, rfl, yz ((yx Q4).congr (fun j hj => by simp)), A4, D4, R4, B4⟩
 case round =>
  clear Q4 A4 D4 R4 B4
  obtain ⟨k, hk, rfl, HQ, HA, HD, HR, HB⟩ := hrel
  by_cases hkn : k < f.size
  ·have hkn2 : (k : Int) < (f.size : Int) := by omega
   have hkn3 : (k : Int) < (d.size : Int) := by omega
   have hkd : k < d.size := by omega
   have hc := (yx HQ k hkn).1
   simp only [Nat.lt_irrefl, if_false] at hc
   have d2 := (yx HD).cell 2 _ rfl
   have q0 := cell_regrown hc
   have q2 := cell_regrown d2
   clear hc d2
   have hy := aU hkd
   have HY := yz hy
   clear hy
   go_wp2_with fail
   refine wp_region_quiet_below (by kernel_rfl) (by kernel_rfl) ?_
   repeat (go_big_quiet_step (fail))
   refine wpQuiet_nil ?_
   intro _ hw'
   obtain ⟨⟨dq, osq⟩, hw''⟩ := hw'
   subst hw''
   have hx := below_regrown wr dq osq
   have hbl : bb < wr.heap.size := World.block_lt_of_cell? _ _ (yx HQ k hkn).1
   have Q5 := yz ((yx HQ).kept hbl hx)
   have A5 := yz ((yx HA).kept hx)
   have D5 := yz ((yx HD).kept hx)
   have R5 := yz ((yx HR).kept hx)
   have B5 := yz (aj (yx HB) hx)
   generalize grow (redrawn wr dq) osq = W5 at hx Q5 A5 D5 R5 B5 ⊢
   clear hx q0 q2 HQ HA HD HR HB hbl
   have hc := (yx Q5 k hkn).1
   simp only [Nat.lt_irrefl, if_false] at hc
   have hfz := (yx Q5 k hkn).2
   have d2 := (yx D5).cell 2 _ rfl
   have hxb : (ao f k : Int) < 256 := by rw [aU hkn]; have := f[k].toNat_lt; omega
   have hne1 : fb ≠ bb := by omega
   have hne2 : db ≠ bb := by omega
   have hne3 : ob ≠ bb := by omega
   have hbw : w.heap.size ≤ bb := by omega
   by_cases hlt : (ao f k : Int) < (d[k].toNat : Int)
   ·have HL : Hid (aV f d k = 0) := yz (by unfold aV; rw [if_pos (by rw [yx HY]; omega)])
    have Q6 : Hid (bh (W5.setCell ⟨bb, k, none⟩ (.int .u8 0)) bb f.size (fun j => if j < k + 1 then aV f d j else (ao f j : Int))) := yz (((yx Q5).set k hkn 0).congr (fun j hj => eS (yx HL) j))
    have A6 := yz ((yx A5).other ⟨bb, k, none⟩ (.int .u8 0) hne1)
    have D6 := yz ((yx D5).other ⟨bb, k, none⟩ (.int .u8 0) hne2)
    have R6 := yz ((yx R5).other ⟨bb, k, none⟩ (.int .u8 0) hne3)
    have B6 := yz ((yx B5).setCell (p := ⟨bb, k, none⟩) hbw (.int .u8 0))
    go_wp2_with fail
    go_roundw
    case rel => exact ⟨k + 1, by omega, by go_num, Q6, A6, D6, R6, B6⟩
    case measure => simp [intOf] <;> omega
   ·have hd0 : (0 : Int) ≤ (ao f k : Int) - (d[k].toNat : Int) := by omega
    have HL : Hid (aV f d k = (ao f k : Int) - (d[k].toNat : Int)) := yz (by unfold aV; rw [if_neg (by rw [yx HY]; omega), yx HY])
    have Q6 : Hid (bh (W5.setCell ⟨bb, k, none⟩ (.int .u8 ((ao f k : Int) - (d[k].toNat : Int)))) bb f.size (fun j => if j < k + 1 then aV f d j else (ao f j : Int))) := yz (((yx Q5).set k hkn _).congr (fun j hj => eS (yx HL) j))
    have A6 := yz ((yx A5).other ⟨bb, k, none⟩ (.int .u8 ((ao f k : Int) - (d[k].toNat : Int))) hne1)
    have D6 := yz ((yx D5).other ⟨bb, k, none⟩ (.int .u8 ((ao f k : Int) - (d[k].toNat : Int))) hne2)
    have R6 := yz ((yx R5).other ⟨bb, k, none⟩ (.int .u8 ((ao f k : Int) - (d[k].toNat : Int))) hne3)
    have B6 := yz ((yx B5).setCell (p := ⟨bb, k, none⟩) hbw (.int .u8 ((ao f k : Int) - (d[k].toNat : Int))))
    go_wp2_with fail
    go_region
    go_wp2_with fail
    go_roundw
    case rel => exact ⟨k + 1, by omega, by go_num, yz (yx Q6).drewn, yz (yx A6).drewn, yz (yx D6).drewn, yz (yx R6).drewn, yz (yx B6).drew⟩
    case measure => simp [intOf] <;> omega
  ·have hke : k = f.size := by omega
   have Q5 : Hid (bh wr bb f.size (aV f d)) := yz ((yx HQ).congr (fun j hj => by rw [if_pos (by omega)]))
   have hcv := (yx Q5).conv cap
   clear HQ
   obtain ⟨a0, a1, a2⟩ := cd (yx HA)
   have af := (yx HA).free 2
   obtain ⟨r0, r1, r2, r3⟩ := gU (yx HR)
   obtain ⟨g0, g1, g2, g3⟩ := eD (yx HR)
   have hne : fb ≠ ob := by omega
   have hne' : ob ≠ fb := by omega
   generalize bv f d = res at *
   have HB' := yx HB
   go_wp2_with fail
   rw [yx HV]
   exact bodyPost_ret (v := .agg #[.int .i64 w1, .int .i64 h1, .string res, .int .i64 0]) (by simp [results, Try.results15, go_sem, r0, r1, r2, r3]) rfl ⟨rfl, ((((HB'.setCell lfb _).setCell lob _).setCell lob _).setCell lob _).setCell lob _⟩
end
end Go.Proofs.Ytackifnnhjbgbaa
