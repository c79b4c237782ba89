/- Several texts in one: IdC, RowF, MarkS, RowV, ListI, TurnF, MaA, L7A. -/
import Derived.OwnWalk
import Derived.Laws.OwnMore
import Derived.Lib.QuietBelow
import Derived.Deep.QuietTactic
import Derived.BigQuiet
import Derived.Test.YtphfllkkpblbaaaDoorQTurnForOwn8
import Derived.Test.YtphfllkkpblbaaaDoorQTurnForOwn2
import Derived.Test.YtphfllkkpblbaaaDoorQTurnForOwn7
import Derived.Test.YtphfllkkpblbaaaDoorQTurnForOwn3
import Derived.Test.YtphfllkkpblbaaaDoorQTurnForOwn4
import Derived.Test.YtphfllkkpblbaaaDoorQTurnForOwn5
namespace Go.Proofs.YtphfllkkpblbaaaDoor
open Go.RowKit Go.Sort
set_option linter.unusedVariables false

/-- block b is a row of n directions, none frozen, of which the first k are L's -/
def OwnD (w : World) (b n : Nat) (L : List D3) (k : Nat) : Prop := ∃ cur : Array Value, w.heap[b]? = some (.cells cur 46 (0, 0)) ∧ cur.size = n * 3 ∧
  ∀ j, j < k → cur[j * 3]? = some (.int .i64 (vA L j).1) ∧ cur[j * 3 + 1]? = some (.int .i64 (vA L j).2.1) ∧ cur[j * 3 + 2]? = some (.int .i64 (vA L j).2.2)
theorem OwnD.lt {w : World} {b n k : Nat} {L : List D3} (h : OwnD w b n L k) : b < w.heap.size := by
  obtain ⟨cur, hc, _⟩ := h
  exact (Array.getElem?_eq_some_iff.1 hc).1
theorem OwnD.kept {w w' : World} {b n k : Nat} {L : List D3} (h : OwnD w b n L k) (hB : Below w.heap.size w w') : OwnD w' b n L k := by
  have hl := h.lt
  obtain ⟨cur, hc, r⟩ := h
  exact ⟨cur, by rw [hB.block b hl]; exact hc, r⟩
theorem OwnD.dirs {w : World} {b n k : Nat} {L : List D3} (h : OwnD w b n L k) : Dirs w (some ⟨b, 0, none⟩) L k := by
  have hl := h.lt
  obtain ⟨cur, hc, _, hs⟩ := h
  refine .inr ⟨b, 0, rfl, hl, fun i hi => ?_⟩
  obtain ⟨h0, h1, h2⟩ := hs i hi
  rw [Nat.zero_add]
  exact ⟨by rw [cell_of_row w b _ cur _ _ hc]; exact h0, by rw [cell_of_row w b _ cur _ _ hc]; exact h1, by rw [cell_of_row w b _ cur _ _ hc]; exact h2⟩
theorem OwnD.old {w : World} {b n k i : Nat} {L : List D3} (h : OwnD w b n L k) (hi : i < n * 3) : ∃ v, w.cell? ⟨b, i, none⟩ = some v := by
  obtain ⟨cur, hc, hn, _⟩ := h
  rw [cell_of_row w b _ cur _ _ hc]
  exact ⟨cur[i], Array.getElem?_eq_getElem (by omega)⟩
theorem OwnD.free {w : World} {b n k : Nat} {L : List D3} (h : OwnD w b n L k) (i : Nat) : w.frozen? ⟨b, i, none⟩ = false := by
  obtain ⟨cur, hc, _⟩ := h
  exact frozen_of_row w b i cur _ hc
def set3 (w : World) (b o : Nat) (s : D3) : World := ((w.setCell ⟨b, o, none⟩ (.int .i64 s.1)).setCell ⟨b, o + 1, none⟩ (.int .i64 s.2.1)).setCell ⟨b, o + 2, none⟩ (.int .i64 s.2.2)
theorem OwnD.step {w : World} {b n k : Nat} {L : List D3} (h : OwnD w b n L k) (hk : k < n) : OwnD (set3 w b (k * 3) (vA L k)) b n L (k + 1) := by
  obtain ⟨cur, hc, hn, hs⟩ := h
  have e1 := heap_setCell_same w b (k * 3) cur _ (.int .i64 (vA L k).1) hc
  have e2 := heap_setCell_same _ b (k * 3 + 1) _ _ (.int .i64 (vA L k).2.1) e1
  have e3 := heap_setCell_same _ b (k * 3 + 2) _ _ (.int .i64 (vA L k).2.2) e2
  refine ⟨_, e3, by simpa using hn, fun j hj => ?_⟩
  by_cases e : j = k
  · subst e
    refine ⟨?_, ?_, ?_⟩ <;> simp [Array.getElem?_setIfInBounds] <;> omega
  · obtain ⟨h0, h1, h2⟩ := hs j (by omega)
    refine ⟨?_, ?_, ?_⟩
    · simp only [Array.getElem?_setIfInBounds]
      rw [if_neg (by omega), if_neg (by omega), if_neg (by omega)]; exact h0
    · simp only [Array.getElem?_setIfInBounds]
      rw [if_neg (by omega), if_neg (by omega), if_neg (by omega)]; exact h1
    · simp only [Array.getElem?_setIfInBounds]
      rw [if_neg (by omega), if_neg (by omega), if_neg (by omega)]; exact h2
theorem belowSet3 {B : Nat} {w w1 : World} {b o : Nat} {s : D3} (h : Below B w w1) (hb : B ≤ b) : Below B w (set3 w1 b o s) := ((h.setCell hb _).setCell hb _).setCell hb _

theorem info_dir : (Tryd.prog.info? 46).map (fun i => (i.zero, i.size, i.bytes)) = some (some (.agg #[.int .i64 0, .int .i64 0, .int .i64 0]), 3, 24) := by kernel_rfl
theorem ownD_made {w' : World} {B b n : Nat} {L : List D3} {xs : List Value} (h : w'.ownsRow B 46 3 (.slice (some ⟨b, 0, none⟩) n n) n xs) : OwnD w' b n L 0 := by
  rcases h.2 with ⟨h', _⟩ | ⟨g, cap, cur, hv, _, hg, _, _, hcs, _⟩
  · simp at h'
  · simp only [Value.slice.injEq, Option.some.injEq, Addr.mk.injEq, and_true, true_and] at hv
    obtain ⟨rfl, rfl⟩ := hv
    exact ⟨cur, hg, hcs, fun j hj => absurd hj (Nat.not_lt_zero _)⟩
theorem below_grownD {w w' : World} (h : w.grownBy w' none) : Below w.heap.size w w' := ⟨h.os, h.tape, h.output, h.size, fun k hk => h.block k hk (by simp)⟩
set_option maxRecDepth 100000 in
theorem szVecS_any (a : Option Addr) (n c : Nat) (left : Int) (w : World) (h0 : 0 ≤ left) (h1 : left ≤ 1048576) (hn : (n : Int) ≤ left) :
    Calls Tryd.prog 6 #[.slice a n c, .int .i64 left] w fun e w' => e = .returned (.int .i64 (left - (n : Int))) ∧ w' = w := by
  have h : ¬ left - (n : Int) < 0 := by omega
  go_enter Tryd.func6, Tryd.ntmps6
  go_wp2
  go_ret
  exact ⟨rfl, rfl⟩
set_option maxRecDepth 100000 in
theorem szVecS_big (a : Option Addr) (n c : Nat) (left : Int) (w : World) (h0 : 0 ≤ left) (h1 : left ≤ 1048576) (hn : left < (n : Int)) (hm : n ≤ 9223372036854775807) :
    Calls Tryd.prog 6 #[.slice a n c, .int .i64 left] w fun e w' => e = .returned (.int .i64 (-1)) ∧ w' = w := by
  have h : left - (n : Int) < 0 := by omega
  go_enter Tryd.func6, Tryd.ntmps6
  go_wp2
  go_ret
  exact ⟨rfl, rfl⟩
set_option maxRecDepth 100000 in
theorem toDir_any (x y z : Int) (w : World) :
    Calls Tryd.prog 22 #[.agg #[.int .i64 x, .int .i64 y, .int .i64 z]] w fun e w' => e = .returned (.agg #[.int .i64 x, .int .i64 y, .int .i64 z]) ∧ Below w.heap.size w w' := by
  go_enter Tryd.func22, Tryd.ntmps22
  go_wp2
  exact bodyPost_ret (v := .agg #[.int .i64 x, .int .i64 y, .int .i64 z]) (by simp [results, Tryd.results22, go_sem]) rfl ⟨rfl, below3 _ _ _ _⟩

set_option maxHeartbeats 1000000 in
set_option maxRecDepth 100000 in
theorem toVecS_any (L : List D3) (n : Nat) (a : Option Addr) (c : Nat) (w : World) (hn : n ≤ 1048576) (hS : Dirs w a L n) :
    Calls Tryd.prog 9 #[.slice a n c] w fun e w' => e = .returned (.slice (some ⟨w.heap.size, 0, none⟩) n n) ∧ OwnD w' w.heap.size n L n ∧ Below w.heap.size w w' := by
  have HS := hide hS
  clear hS
  obtain ⟨i0, hi, hz0, hz1, hz2⟩ := info_parts info_dir
  go_enter Tryd.func9, Tryd.ntmps9
  go_wp2_with (at_make; refine wpList_make_full _ rfl _ _ 30 rfl w.heap.size 46 i0 (.agg #[.int .i64 0, .int .i64 0, .int .i64 0]) 3 Tryd.underlying30 hi hz0 hz1 .i64 .i64 _ _ n rfl rfl rfl rfl (by rw [hz2]; omega) (by unfold maxLen; omega) (Nat.le_refl _) ?_; intro w0 hown0 hgrow0)
  have H0 := hide (ownD_made (L := L) hown0)
  have HB0 := hide (below_grownD hgrow0)
  clear hown0 hgrow0
  rcases unhide HS with rfl | ⟨b, o, rfl, hb, hc⟩
  · refine wp_loop_rounds 1 ?_
    rw [rounds_succ]
    go_wp2_with fail
    go_ret
    exact ⟨rfl, unhide H0, unhide HB0⟩
  have HC := hide hc
  clear hc
  go_loopw [4] (fun i wr => ∃ k : Nat, k ≤ n ∧ i = .int .i64 k ∧ Hid (OwnD wr w.heap.size n L k) ∧ Hid (Below w.heap.size w wr)) (fun i _ => n - (intOf i).toNat)
  case atStart => exact ⟨0, by omega, rfl, H0, HB0⟩
  case round =>
    obtain ⟨k, hk, rfl, HO, HB⟩ := hrel
    by_cases hkn : k < n
    · obtain ⟨⟨s2, s3, s4⟩, hs⟩ : ∃ s, vA L k = s := ⟨_, rfl⟩
      have hst := ((unhide HC) k hkn).kept hb (unhide HB)
      rw [hs] at hst
      obtain ⟨c0, c1, c2⟩ := hst
      have HT := hide hs
      clear hs
      go_wp2_with fail
      refine (toDir_any s2 s3 s4 _).mono ?_
      rintro e w2 ⟨rfl, hx⟩
      clear c0 c1 c2
      have O2 := hide ((unhide HO).kept hx)
      have B2 := hide (below_call (unhide HB) hx)
      clear hx
      obtain ⟨x0, e0⟩ := (unhide O2).old (i := k * 3) (by omega)
      obtain ⟨x1, e1⟩ := (unhide O2).old (i := k * 3 + 1) (by omega)
      obtain ⟨x2, e2⟩ := (unhide O2).old (i := k * 3 + 2) (by omega)
      have f0 := (unhide O2).free (k * 3)
      have f1 := (unhide O2).free (k * 3 + 1)
      have f2 := (unhide O2).free (k * 3 + 2)
      have O3 := (unhide O2).step hkn
      rw [unhide HT] at O3
      have HO3 := hide O3
      have HB3 := hide (belowSet3 (o := k * 3) (s := (s2, s3, s4)) (unhide B2) (Nat.le_refl _))
      clear O3
      go_wp2_with fail
      go_roundw
      case rel => exact ⟨k + 1, by omega, by go_num, HO3, HB3⟩
      case measure => simp [intOf]; omega
    · have hkn' : k = n := by omega
      subst hkn'
      go_wp2_with fail
      go_ret
      exact ⟨rfl, unhide HO, unhide HB⟩

set_option maxRecDepth 100000 in
theorem eqDir_same (x y z : Int) (w : World) :
    Calls Tryd.prog 28 #[.agg #[.int .i64 x, .int .i64 y, .int .i64 z], .agg #[.int .i64 x, .int .i64 y, .int .i64 z]] w fun e w' => e = .returned (.bool true) ∧ Below w.heap.size w w' := by
  go_enter Tryd.func28, Tryd.ntmps28
  go_wp2
  go_ret
  exact ⟨rfl, below2 _ _ _⟩
set_option maxHeartbeats 1000000 in
set_option maxRecDepth 100000 in
theorem eqVecS_same (L : List D3) (n : Nat) (a a' : Option Addr) (c c' : Nat) (w : World) (hn : n ≤ 1048576) (hS : Dirs w a L n) (hS' : Dirs w a' L n) :
    Calls Tryd.prog 13 #[.slice a n c, .slice a' n c'] w fun e w' => e = .returned (.bool true) ∧ Below w.heap.size w w' := by
  rcases hS with rfl | ⟨b, o, rfl, hb, hc⟩
  · clear hS'
    go_enter Tryd.func13, Tryd.ntmps13
    go_wp2_with fail
    refine wp_loop_rounds 1 ?_
    rw [rounds_succ]
    go_wp2_with fail
    go_ret
    exact ⟨rfl, Below.refl _ _⟩
  rcases hS' with rfl | ⟨b', o', rfl, hb', hc'⟩
  · clear hc
    go_enter Tryd.func13, Tryd.ntmps13
    go_wp2_with fail
    refine wp_loop_rounds 1 ?_
    rw [rounds_succ]
    go_wp2_with fail
    go_ret
    exact ⟨rfl, Below.refl _ _⟩
  have HC := hide hc
  have HC' := hide hc'
  clear hc hc'
  go_enter Tryd.func13, Tryd.ntmps13
  go_wp2_with fail
  go_loopw [5] (fun i wr => ∃ k : Nat, k ≤ n ∧ i = .int .i64 k ∧ Hid (Below w.heap.size w wr)) (fun i _ => n - (intOf i).toNat)
  case atStart => exact ⟨0, by omega, rfl, hide (Below.refl _ _)⟩
  case round =>
    obtain ⟨k, hk, rfl, HB⟩ := hrel
    by_cases hkn : k < n
    · obtain ⟨⟨s2, s3, s4⟩, hs⟩ : ∃ s, vA L k = s := ⟨_, rfl⟩
      have hst := ((unhide HC) k hkn).kept hb (unhide HB)
      have hst' := ((unhide HC') k hkn).kept hb' (unhide HB)
      rw [hs] at hst hst'
      obtain ⟨c0, c1, c2⟩ := hst
      obtain ⟨d0, d1, d2⟩ := hst'
      have r0 := cell_regrown c0
      have r1 := cell_regrown c1
      have r2 := cell_regrown c2
      have t0 := cell_regrown d0
      have t1 := cell_regrown d1
      have t2 := cell_regrown d2
      clear c0 c1 c2 d0 d1 d2 hs
      have hkn2 : (k : Int) < (n : Int) := by omega
      have cE := hide (fun W => eqDir_same s2 s3 s4 W)
      go_wp2_with fail
      refine wp_region_quiet_below (by kernel_rfl) (by kernel_rfl) ?_
      repeat (go_big_quiet_step (first | (with_reducible exact Calls.regrown_of (unhide cE _))))
      refine wpQuiet_nil ?_
      intro _ hw'
      obtain ⟨⟨dq, osq⟩, hw''⟩ := hw'
      subst hw''
      have hx := below_call (unhide HB) (below_regrown wr dq osq)
      generalize grow (redrawn wr dq) osq = W2 at hx ⊢
      have HB2 := hide hx
      clear hx r0 r1 r2 t0 t1 t2 cE HB
      go_wp2_with fail
      go_roundw
      case rel => exact ⟨k + 1, by omega, by go_num, HB2⟩
      case measure => simp [intOf]; omega
    · have hkn' : k = n := by omega
      subst hkn'
      go_wp2_with fail
      go_ret
      exact ⟨rfl, unhide HB⟩
end Go.Proofs.YtphfllkkpblbaaaDoor

namespace Go.Proofs.YtphfllkkpblbaaaDoor
open Go.RowKit
set_option linter.unusedVariables false

/-- block g is a row of cells of type t, none frozen, whose first m are the numbers f -/
def RowAt (w : World) (t : TypeId) (g m : Nat) (f : Nat → Int) : Prop := ∃ cur : Array Value, w.heap[g]? = some (.cells cur t (0, 0)) ∧ ∀ j, j < m → cur[j]? = some (.int .i64 (f j))
theorem RowAt.lt {w : World} {t : TypeId} {g m : Nat} {f : Nat → Int} (h : RowAt w t g m f) : g < w.heap.size := by
  obtain ⟨cur, hc, _⟩ := h
  exact (Array.getElem?_eq_some_iff.1 hc).1
theorem RowAt.same {w w' : World} {t : TypeId} {g m : Nat} {f : Nat → Int} (h : RowAt w t g m f) (e : w'.heap[g]? = w.heap[g]?) : RowAt w' t g m f := by
  obtain ⟨cur, hc, hs⟩ := h
  exact ⟨cur, by rw [e]; exact hc, hs⟩
theorem RowAt.kept {w w' : World} {t : TypeId} {g m : Nat} {f : Nat → Int} (h : RowAt w t g m f) (hB : Below w.heap.size w w') : RowAt w' t g m f := h.same (hB.block g h.lt)
theorem RowAt.congr {w : World} {t : TypeId} {g m : Nat} {f f' : Nat → Int} (h : RowAt w t g m f) (e : ∀ j, j < m → f j = f' j) : RowAt w t g m f' := by
  obtain ⟨cur, hc, hs⟩ := h
  exact ⟨cur, hc, fun j hj => by rw [hs j hj, e j hj]⟩
theorem RowAt.cell {w : World} {t : TypeId} {g m j : Nat} {f : Nat → Int} (h : RowAt w t g m f) (hj : j < m) : w.cell? ⟨g, j, none⟩ = some (.int .i64 (f j)) := by
  obtain ⟨cur, hc, hs⟩ := h
  rw [cell_of_row w g j cur t _ hc]
  exact hs j hj
theorem RowAt.free {w : World} {t : TypeId} {g m : Nat} {f : Nat → Int} (h : RowAt w t g m f) (j : Nat) : w.frozen? ⟨g, j, none⟩ = false := by
  obtain ⟨cur, hc, _⟩ := h
  exact frozen_of_row w g j cur t hc
theorem RowAt.set {w : World} {t : TypeId} {g m : Nat} {f : Nat → Int} (h : RowAt w t g m f) (i : Nat) (v : Int) : RowAt (w.setCell ⟨g, i, none⟩ (.int .i64 v)) t g m (fun j => if j = i then v else f j) := by
  obtain ⟨cur, hc, hs⟩ := h
  refine ⟨_, heap_setCell_same w g i cur t (.int .i64 v) hc, fun j hj => ?_⟩
  have := hs j hj
  rw [Array.getElem?_setIfInBounds]
  by_cases e : i = j
  · subst e
    simp [(Array.getElem?_eq_some_iff.1 this).1]
  · have e' : ¬ j = i := fun h => e (Eq.symm h)
    simp [e, e', this]
theorem grownRefl (w : World) (row : Option Nat) : w.grownBy w row := ⟨rfl, rfl, rfl, Nat.le_refl _, fun _ _ _ => rfl⟩
theorem grownSet {w w1 : World} {g : Nat} (h : w.grownBy w1 (some g)) (i : Nat) (v : Value) : w.grownBy (w1.setCell ⟨g, i, none⟩ v) (some g) :=
  ⟨h.os, h.tape, h.output, by simpa [World.setCell] using h.size, fun k hk hne => by rw [Below.heap_setCell _ _ _ _ (fun e => hne (by rw [e]))]; exact h.block k hk hne⟩
/-- what was written lies from B on: below it nothing has turned -/
theorem grownBelow {B : Nat} {w w1 w2 : World} {g : Nat} (h : Below B w w1) (hB : B ≤ w1.heap.size) (hg : w1.grownBy w2 (some g)) (hb : B ≤ g) : Below B w w2 :=
  h.trans ⟨hg.os, hg.tape, hg.output, hg.size, fun k hk => hg.block k (by omega) (fun e => by have := Option.some.inj e; omega)⟩
theorem grownB {w w1 : World} {b : Nat} (h : Below w.heap.size w w1) : w.grownBy w1 (some b) := ⟨h.os, h.tape, h.output, h.size, fun k hk _ => h.block k hk⟩
theorem grownTr {a b c : World} {row : Option Nat} (h : a.grownBy b row) (k : b.grownBy c row) : a.grownBy c row :=
  ⟨k.os.trans h.os, k.tape.trans h.tape, k.output.trans h.output, Nat.le_trans h.size k.size, fun i hi hn => (k.block i (Nat.lt_of_lt_of_le hi h.size) hn).trans (h.block i hi hn)⟩
end Go.Proofs.YtphfllkkpblbaaaDoor

namespace Go.Proofs.YtphfllkkpblbaaaDoor
open Go.RowKit
set_option linter.unusedVariables false
end Go.Proofs.YtphfllkkpblbaaaDoor

namespace Go.Proofs.YtphfllkkpblbaaaDoor
open Go.RowKit
set_option linter.unusedVariables false

/-- block g is a row of cells of type t, none frozen, whose first m are the values f -/
def RowV (w : World) (t : TypeId) (g m : Nat) (f : Nat → Value) : Prop := ∃ cur : Array Value, w.heap[g]? = some (.cells cur t (0, 0)) ∧ ∀ j, j < m → cur[j]? = some (f j)
theorem RowV.lt {w : World} {t : TypeId} {g m : Nat} {f : Nat → Value} (h : RowV w t g m f) : g < w.heap.size := by
  obtain ⟨cur, hc, _⟩ := h
  exact (Array.getElem?_eq_some_iff.1 hc).1
theorem RowV.same {w w' : World} {t : TypeId} {g m : Nat} {f : Nat → Value} (h : RowV w t g m f) (e : w'.heap[g]? = w.heap[g]?) : RowV w' t g m f := by
  obtain ⟨cur, hc, hs⟩ := h
  exact ⟨cur, by rw [e]; exact hc, hs⟩
theorem RowV.kept {w w' : World} {t : TypeId} {g m : Nat} {f : Nat → Value} (h : RowV w t g m f) (hB : Below w.heap.size w w') : RowV w' t g m f := h.same (hB.block g h.lt)
theorem RowV.congr {w : World} {t : TypeId} {g m : Nat} {f f' : Nat → Value} (h : RowV w t g m f) (e : ∀ j, j < m → f j = f' j) : RowV w t g m f' := by
  obtain ⟨cur, hc, hs⟩ := h
  exact ⟨cur, hc, fun j hj => by rw [hs j hj, e j hj]⟩
theorem RowV.cell {w : World} {t : TypeId} {g m j : Nat} {f : Nat → Value} (h : RowV w t g m f) (hj : j < m) : w.cell? ⟨g, j, none⟩ = some (f j) := by
  obtain ⟨cur, hc, hs⟩ := h
  rw [cell_of_row w g j cur t _ hc]
  exact hs j hj
theorem RowV.free {w : World} {t : TypeId} {g m : Nat} {f : Nat → Value} (h : RowV w t g m f) (j : Nat) : w.frozen? ⟨g, j, none⟩ = false := by
  obtain ⟨cur, hc, _⟩ := h
  exact frozen_of_row w g j cur t hc
theorem RowV.set {w : World} {t : TypeId} {g m : Nat} {f : Nat → Value} (h : RowV w t g m f) (i : Nat) (v : Value) : RowV (w.setCell ⟨g, i, none⟩ v) t g m (fun j => if j = i then v else f j) := by
  obtain ⟨cur, hc, hs⟩ := h
  refine ⟨_, heap_setCell_same w g i cur t v hc, fun j hj => ?_⟩
  have := hs j hj
  rw [Array.getElem?_setIfInBounds]
  by_cases e : i = j
  · subst e
    simp [(Array.getElem?_eq_some_iff.1 this).1]
  · have e' : ¬ j = i := fun h => e (Eq.symm h)
    simp [e, e', this]
/-- nothing has turned but what lies from lo up to hi, and what is new -/
structure Apart (lo hi : Nat) (w w' : World) : Prop where
  os : w'.os = w.os
  tape : w'.tape = w.tape
  output : w'.output = w.output
  size : w.heap.size ≤ w'.heap.size
  block : ∀ k, k < w.heap.size → (k < lo ∨ hi ≤ k) → w'.heap[k]? = w.heap[k]?
theorem Apart.refl (lo hi : Nat) (w : World) : Apart lo hi w w := ⟨rfl, rfl, rfl, Nat.le_refl _, fun _ _ _ => rfl⟩
theorem Apart.of {lo hi g : Nat} {w w' : World} (h : w.grownBy w' (some g)) (h1 : lo ≤ g) (h2 : g < hi) : Apart lo hi w w' := ⟨h.os, h.tape, h.output, h.size, fun k hk hne => h.block k hk (fun e => by have := Option.some.inj e; omega)⟩
theorem Apart.below {B lo hi : Nat} {w w1 w2 : World} (h : Below B w w1) (ha : Apart lo hi w1 w2) (h1 : B ≤ lo) (h2 : B ≤ w1.heap.size) : Below B w w2 :=
  h.trans ⟨ha.os, ha.tape, ha.output, ha.size, fun k hk => ha.block k (by omega) (.inl (by omega))⟩
theorem gRefl (w : World) (row : Option Nat) : w.grownBy w row := ⟨rfl, rfl, rfl, Nat.le_refl _, fun _ _ _ => rfl⟩
theorem gSet {w w1 : World} {g : Nat} (h : w.grownBy w1 (some g)) (i : Nat) (v : Value) : w.grownBy (w1.setCell ⟨g, i, none⟩ v) (some g) :=
  ⟨h.os, h.tape, h.output, by simpa [World.setCell] using h.size, fun k hk hne => by rw [Below.heap_setCell _ _ _ _ (fun e => hne (by rw [e]))]; exact h.block k hk hne⟩
/-- v is a list of n elements of c cells each, the values f, in a block from lo up to hi; or it is empty -/
def PRow (w : World) (t : TypeId) (c lo hi n : Nat) (v : Value) (f : Nat → Value) : Prop := (n = 0 ∧ ∃ a cap, v = .slice a 0 cap) ∨ ∃ g cap, v = .slice (some ⟨g, 0, none⟩) n cap ∧ lo ≤ g ∧ g < hi ∧ RowV w t g (n * c) f
theorem PRow.kept {w w' : World} {t : TypeId} {c lo hi n : Nat} {v : Value} {f : Nat → Value} (h : PRow w t c lo hi n v f) (hB : Below w.heap.size w w') : PRow w' t c lo hi n v f := by
  rcases h with h | ⟨g, cap, hv, h1, h2, hr⟩
  · exact .inl h
  · exact .inr ⟨g, cap, hv, h1, h2, hr.kept hB⟩
theorem PRow.apart {w w' : World} {t : TypeId} {c lo hi l h n : Nat} {v : Value} {f : Nat → Value} (hp : PRow w t c lo hi n v f) (ha : Apart l h w w') (hd : hi ≤ l ∨ h ≤ lo) : PRow w' t c lo hi n v f := by
  rcases hp with hp | ⟨g, cap, hv, h1, h2, hr⟩
  · exact .inl hp
  · exact .inr ⟨g, cap, hv, h1, h2, hr.same (ha.block g hr.lt (by omega))⟩
theorem PRow.wide {w : World} {t : TypeId} {c lo hi lo' hi' n : Nat} {v : Value} {f : Nat → Value} (h : PRow w t c lo hi n v f) (h1 : lo' ≤ lo) (h2 : hi ≤ hi') : PRow w t c lo' hi' n v f := by
  rcases h with h | ⟨g, cap, hv, g1, g2, hr⟩
  · exact .inl h
  · exact .inr ⟨g, cap, hv, by omega, by omega, hr⟩
theorem PRow.of {w : World} {t : TypeId} {c B n : Nat} {v : Value} {xs : List Value} {f : Nat → Value} (h : w.ownsRow B t c v n xs) (hf : ∀ j, j < n * c → xs[j]? = some (f j)) : PRow w t c B w.heap.size n v f := by
  rcases h.2 with ⟨h1, h0⟩ | ⟨g, cap, cur, hv, hb, hg, hnc, hcm, hcs, htake⟩
  · exact .inl ⟨h0, _, _, h1⟩
  · refine .inr ⟨g, cap, hv, hb, (Array.getElem?_eq_some_iff.1 hg).1, cur, hg, fun j hj => ?_⟩
    have e := hf j hj
    rw [← htake, List.getElem?_take, if_pos hj] at e
    simpa using e
end Go.Proofs.YtphfllkkpblbaaaDoor

namespace Go.Proofs.YtphfllkkpblbaaaDoor
open Go.RowKit Go.Sort
set_option linter.unusedVariables false
def valInt64S (fI : Nat → Int) (fB : Nat → Bool) (j : Nat) : Value := .int .i64 (fI j)
def markInt64SV (j : Nat) : Value := valInt64S (fun j => 1 + (j : Int)) (fun j => decide ((1 + (j : Int)) % 3 = 0)) j
theorem valInt64S_0 (fI : Nat → Int) (fB : Nat → Bool) (q : Nat) : valInt64S fI fB (q) = .int .i64 (fI (q)) := by unfold valInt64S; rfl
theorem markInt64SV_0 (q : Nat) : markInt64SV (q) = .int .i64 (1 + (q : Int)) := rfl
set_option maxHeartbeats 2000000 in
set_option maxRecDepth 100000 in
theorem eqInt64S_any (n lo hi lo' hi' : Nat) (v v' : Value) (fI : Nat → Int) (fB : Nat → Bool) (w : World) (hn : n ≤ 1048576) (h : PRow w 2 1 lo hi n v (valInt64S fI fB)) (h' : PRow w 2 1 lo' hi' n v' (valInt64S fI fB)) :
    Calls Tryd.prog 14 #[v, v'] w fun e w' => e = .returned (.bool true) ∧ Below w.heap.size w w' := by
  have bare : ∀ (a a' : Option Addr) (c c' : Nat), Calls Tryd.prog 14 #[.slice a 0 c, .slice a' 0 c'] w fun e w' => e = .returned (.bool true) ∧ Below w.heap.size w w' := by
    intro a a' c c'
    clear h h'
    go_enter Tryd.func14, Tryd.ntmps14
    go_wp2_with fail
    refine wp_loop_rounds 1 ?_
    rw [rounds_succ]
    go_wp2_with fail
    go_ret
    exact ⟨rfl, Below.refl _ _⟩
  rcases h with ⟨rfl, a, c, rfl⟩ | ⟨g, c, rfl, _, _, hr⟩
  · rcases h' with ⟨_, a', c', rfl⟩ | ⟨g', c', rfl, _⟩
    · exact bare _ _ _ _
    · exact bare _ _ _ _
  rcases h' with ⟨rfl, a', c', rfl⟩ | ⟨g', c', rfl, _, _, hr'⟩
  · exact bare _ _ _ _
  clear bare
  have HR := hide hr
  have HR' := hide hr'
  clear hr hr'
  go_enter Tryd.func14, Tryd.ntmps14
  go_wp2_with fail
  go_loopw [5] (fun i wr => ∃ k : Nat, k ≤ n ∧ i = .int .i64 k ∧ Hid (Below w.heap.size w wr)) (fun i _ => n - (intOf i).toNat)
  case atStart => exact ⟨0, by omega, rfl, hide (Below.refl _ _)⟩
  case round =>
    obtain ⟨k, hk, rfl, HB⟩ := hrel
    by_cases hkn : k < n
    · have hkn2 : (k : Int) < (n : Int) := by omega
      have c0 := ((unhide HR).kept (unhide HB)).cell (j := k) (by omega)
      have d0 := ((unhide HR').kept (unhide HB)).cell (j := k) (by omega)
      rw [valInt64S_0] at c0 d0
      generalize fI (k) = x0 at c0 d0
      have r0 := cell_regrown c0
      have t0 := cell_regrown d0
      clear c0 d0
      go_wp2_with fail
      refine wp_region_quiet_below (by kernel_rfl) (by kernel_rfl) ?_
      repeat (go_big_quiet_step (fail))
      refine wpQuiet_nil ?_
      intro _ hw'
      obtain ⟨⟨dq, osq⟩, hw''⟩ := hw'
      subst hw''
      have hx := below_call (unhide HB) (below_regrown wr dq osq)
      generalize grow (redrawn wr dq) osq = W2 at hx ⊢
      have HB2 := hide hx
      clear hx  HB r0 t0
      go_wp2_with fail
      go_roundw
      case rel => exact ⟨k + 1, by omega, by go_num, HB2⟩
      case measure => simp [intOf]; omega
    · have hkn' : k = n := by omega
      subst hkn'
      go_wp2_with fail
      go_ret
      exact ⟨rfl, unhide HB⟩
end Go.Proofs.YtphfllkkpblbaaaDoor

namespace Go.Proofs.YtphfllkkpblbaaaDoor
open Go.RowKit Go.Sort
set_option linter.unusedVariables false

theorem ap_none {a b c d x y z : Int} (h : apR a b c d x y z = false) : Value.agg #[.int .i64 (apI (apR a b c d x y z) (apX a b c d x y z)), .int .i64 (apI (apR a b c d x y z) (apY a b c d x y z)), .int .i64 (apI (apR a b c d x y z) (apZ a b c d x y z))] = Value.agg #[.int .i64 0, .int .i64 0, .int .i64 0] := by
  rw [h]; rfl
theorem ap_some {a b c d x y z : Int} (h : apR a b c d x y z = true) : Value.agg #[.int .i64 (apI (apR a b c d x y z) (apX a b c d x y z)), .int .i64 (apI (apR a b c d x y z) (apY a b c d x y z)), .int .i64 (apI (apR a b c d x y z) (apZ a b c d x y z))] = Value.agg #[.int .i64 (apX a b c d x y z), .int .i64 (apY a b c d x y z), .int .i64 (apZ a b c d x y z)] := by
  rw [h]; rfl
theorem wide_in {x y z : Int} (h : wideB x y z = true) : withinB 1800 x y z = true := by unfold wideB at h; rw [Bool.and_eq_true] at h; exact h.2

set_option maxHeartbeats 1000000 in
set_option maxRecDepth 100000 in
theorem l03Apply_any (a b c d x y z : Int) (w : World) (ht : inT 5 a b c d = true) (hv : withinB 1800 x y z = true) :
    Calls Tryd.prog 67 #[.agg #[.int .i64 a, .int .i64 b, .int .i64 c, .int .i64 d], .agg #[.int .i64 x, .int .i64 y, .int .i64 z]] w fun e w' => e = .returned (.agg #[.int .i64 (apX a b c d x y z), .int .i64 (apY a b c d x y z), .int .i64 (apZ a b c d x y z)]) ∧ Below w.heap.size w w' := by
  have HX := hide (apW_X ht hv)
  have HY := hide (apW_Y ht hv)
  have HZ := hide (apW_Z ht hv)
  clear ht hv
  go_enter Tryd.func67, Tryd.ntmps67
  go_wp2
  rw [unhide HX, unhide HY, unhide HZ]
  exact bodyPost_ret (v := .agg #[.int .i64 (apX a b c d x y z), .int .i64 (apY a b c d x y z), .int .i64 (apZ a b c d x y z)]) (by simp [results, Tryd.results67, go_sem]) rfl ⟨rfl, below3 _ _ _ _⟩

set_option maxHeartbeats 1000000 in
set_option maxRecDepth 100000 in
theorem apply_any (a b c d x y z : Int) (w : World) :
    Calls Tryd.prog 52 #[.agg #[.int .i64 a, .int .i64 b, .int .i64 c, .int .i64 d], .agg #[.int .i64 x, .int .i64 y, .int .i64 z]] w fun e w' => e = .returned (.agg #[.int .i64 (apI (apR a b c d x y z) (apX a b c d x y z)), .int .i64 (apI (apR a b c d x y z) (apY a b c d x y z)), .int .i64 (apI (apR a b c d x y z) (apZ a b c d x y z))]) ∧ Below w.heap.size w w' := by
  go_enter Tryd.func52, Tryd.ntmps52
  go_wp2_with fail
  refine (turnRight_any a b c d _).mono ?_
  rintro e w1 ⟨rfl, hx⟩
  have va : TurnAt w1 w.heap.size a b c d := (((turnAt_new w a b c d _).alloc _).alloc _).kept (by simp; omega) hx
  have vv : VecAt w1 (w.heap.size + 1) x y z := ((by simpa using vecAt_new (w.alloc _) x y z _ : VecAt _ (w.heap.size + 1) x y z).alloc (by simp) _).kept (by simp) hx
  have vr : VecAt w1 (w.heap.size + 1 + 1) 0 0 0 := (by simpa using vecAt_new ((w.alloc _).alloc _) 0 0 0 _ : VecAt _ (w.heap.size + 1 + 1) 0 0 0).kept (by simp) hx
  have fr : FreeAt w1 (w.heap.size + 1 + 1) := (by simpa using freeAt_new ((w.alloc _).alloc _) 0 0 0 _ : FreeAt _ (w.heap.size + 1 + 1)).kept (by simp) hx
  have hs : w.heap.size + 2 < w1.heap.size := by have := hx.size; simp at this; omega
  have hB : Below w.heap.size w w1 := below_call (below3 _ _ _ _) hx
  clear hx
  cases h1 : rightT a b c d
  · have HR := hide (ap_none (a := a) (b := b) (c := c) (d := d) (x := x) (y := y) (z := z) (by rw [apR, h1]; rfl))
    obtain ⟨cr0, cr1, cr2⟩ := vr
    obtain ⟨fr0, fr1, fr2⟩ := fr
    go_wp2_with fail
    exact bodyPost_ret (v := .agg #[.int .i64 0, .int .i64 0, .int .i64 0]) (by simp [results, Tryd.results52, go_sem, cr0, cr1, cr2]) rfl ⟨by rw [unhide HR], below_set3 hB (by omega) _ _ _⟩
  · have wa := va
    have wv := vv
    obtain ⟨ca0, ca1, ca2, ca3⟩ := wa
    obtain ⟨cv0, cv1, cv2⟩ := wv
    go_wp2_with fail
    clear ca0 ca1 ca2 ca3 cv0 cv1 cv2
    refine (isWide_any x y z _).mono ?_
    rintro e w2 ⟨rfl, hx⟩
    replace va := va.kept (by omega) hx
    replace vv := vv.kept (by omega) hx
    replace vr := vr.kept (by omega) hx
    replace fr := fr.kept (by omega) hx
    replace hB := below_call hB hx
    replace hs : w.heap.size + 2 < w2.heap.size := by have := hx.size; omega
    clear hx
    cases h2 : wideB x y z
    · have HR := hide (ap_none (a := a) (b := b) (c := c) (d := d) (x := x) (y := y) (z := z) (by rw [apR, h1, h2]; rfl))
      obtain ⟨cr0, cr1, cr2⟩ := vr
      obtain ⟨fr0, fr1, fr2⟩ := fr
      go_wp2_with fail
      exact bodyPost_ret (v := .agg #[.int .i64 0, .int .i64 0, .int .i64 0]) (by simp [results, Tryd.results52, go_sem, cr0, cr1, cr2]) rfl ⟨by rw [unhide HR], below_set3 hB (by omega) _ _ _⟩
    · have wa := va
      have wv := vv
      obtain ⟨ca0, ca1, ca2, ca3⟩ := wa
      obtain ⟨cv0, cv1, cv2⟩ := wv
      have HR := hide (ap_some (a := a) (b := b) (c := c) (d := d) (x := x) (y := y) (z := z) (by rw [apR, h1, h2]; rfl))
      have HX := hide (apW_X (rightT_iff.1 h1).1 (wide_in h2))
      have HY := hide (apW_Y (rightT_iff.1 h1).1 (wide_in h2))
      have HZ := hide (apW_Z (rightT_iff.1 h1).1 (wide_in h2))
      obtain ⟨cr0, cr1, cr2⟩ := vr
      obtain ⟨fr0, fr1, fr2⟩ := fr
      clear va vv h1 h2
      go_wp2
      go_quiet (fail)
      go_wp2
      go_quiet (fail)
      go_wp2
      go_quiet (fail)
      go_wp2
      rw [unhide HX, unhide HY, unhide HZ]
      exact bodyPost_ret (v := .agg #[.int .i64 (apX a b c d x y z), .int .i64 (apY a b c d x y z), .int .i64 (apZ a b c d x y z)]) (by simp [results, Tryd.results52, go_sem, cr0, cr1, cr2]) rfl ⟨by rw [unhide HR], below_set3 (below_call hB (below_drewN _ _)) (by omega) _ _ _⟩
end Go.Proofs.YtphfllkkpblbaaaDoor

namespace Go.Proofs.YtphfllkkpblbaaaDoor
open Go.RowKit Go.Sort
set_option linter.unusedVariables false

theorem info_i64 : (Tryd.prog.info? 2).map (fun i => (i.zero, i.size, i.bytes)) = some (some (.int .i64 0), 1, 8) := by kernel_rfl
theorem RowV.made {w' : World} {B b n : Nat} {v : Value} {t : TypeId} {c : Nat} {xs : List Value} {f : Nat → Value} (h : w'.ownsRow B t c (.slice (some ⟨b, 0, none⟩) n n) n xs) (hf : ∀ j, j < n * c → xs[j]? = some (f j)) : RowV w' t b (n * c) f := by
  rcases h.2 with ⟨h', _⟩ | ⟨g, cap, cur, hv, _, hg, _, _, _, htake⟩
  · simp at h'
  · simp only [Value.slice.injEq, Option.some.injEq, Addr.mk.injEq, and_true, true_and] at hv
    obtain ⟨rfl, rfl⟩ := hv
    refine ⟨cur, hg, fun j hj => ?_⟩
    have e := hf j hj
    rw [← htake, List.getElem?_take, if_pos hj] at e
    simpa using e
theorem below_grownN {w w' : World} (h : w.grownBy w' none) : Below w.heap.size w w' := ⟨h.os, h.tape, h.output, h.size, fun k hk => h.block k hk (by simp)⟩
/-- what the program's Apply answers of a right turn and a small direction -/
theorem apply_small (a b c d : Int) (v : D3) (w : World) (ht : rightT a b c d = true) (hv : smallB v.1 v.2.1 v.2.2 = true) :
    Calls Tryd.prog 52 #[.agg #[.int .i64 a, .int .i64 b, .int .i64 c, .int .i64 d], .agg #[.int .i64 v.1, .int .i64 v.2.1, .int .i64 v.2.2]] w fun e w' => e = .returned (.agg #[.int .i64 (apD a b c d v).1, .int .i64 (apD a b c d v).2.1, .int .i64 (apD a b c d v).2.2]) ∧ Below w.heap.size w w' := by
  refine (apply_any a b c d v.1 v.2.1 v.2.2 w).mono fun e w' h => ?_
  have hr : apR a b c d v.1 v.2.1 v.2.2 = true := by unfold apR; rw [ht, small_wideB hv]; rfl
  rw [hr] at h
  exact h
theorem TurnAt.same {w w' : World} {b : Nat} {p q r s : Int} (h : TurnAt w b p q r s) (e : w'.heap[b]? = w.heap[b]?) : TurnAt w' b p q r s := by
  obtain ⟨h0, h1, h2, h3⟩ := h
  exact ⟨(World.cell?_of_block (a := ⟨b, _, none⟩) e).trans h0, (World.cell?_of_block (a := ⟨b, _, none⟩) e).trans h1, (World.cell?_of_block (a := ⟨b, _, none⟩) e).trans h2, (World.cell?_of_block (a := ⟨b, _, none⟩) e).trans h3⟩
/-- what lies in memory while the spots are gone through -/
structure MSt (w wr : World) (g m : Nat) (a b c d : Int) (f : Nat → Value) : Prop where
  row : RowV wr 2 g (m * 1) f
  tur : TurnAt wr w.heap.size a b c d
  bel : Below w.heap.size w wr
  lo : w.heap.size < g
theorem MSt.kept {w wr wy : World} {g m : Nat} {a b c d : Int} {f : Nat → Value} (h : MSt w wr g m a b c d f) (hB : Below wr.heap.size wr wy) : MSt w wy g m a b c d f :=
  ⟨h.row.kept hB, h.tur.kept h.tur.lt hB, below_call h.bel hB, h.lo⟩
theorem MSt.set {w wr : World} {g m : Nat} {a b c d : Int} {f : Nat → Value} (h : MSt w wr g m a b c d f) (i : Nat) (v : Value) : MSt w (wr.setCell ⟨g, i, none⟩ v) g m a b c d (fun j => if j = i then v else f j) :=
  ⟨h.row.set i v, h.tur.same (heap_setCell_other wr ⟨g, i, none⟩ w.heap.size v (by have := h.lo; show w.heap.size ≠ g; omega)), h.bel.setCell (by have := h.lo; show w.heap.size ≤ g; omega) _, h.lo⟩
theorem MSt.congr {w wr : World} {g m : Nat} {a b c d : Int} {f f' : Nat → Value} (h : MSt w wr g m a b c d f) (e : ∀ j, j < m → f j = f' j) : MSt w wr g m a b c d f' := ⟨h.row.congr (fun j hj => e j (by omega)), h.tur, h.bel, h.lo⟩
/-- the row while spot i is held against the first k stars -/
def rowM (S : List D3) (fin : D3 → Int) (i : Nat) (x : Int) (j : Nat) : Value := .int .i64 (if j < i then fin (vA S j) else if j = i then x else 0)
end Go.Proofs.YtphfllkkpblbaaaDoor

namespace Go.Proofs.YtphfllkkpblbaaaDoor
open Go.RowKit Go.Sort
set_option linter.unusedVariables false

theorem rowOfStars {w : World} {b n : Nat} {L : List St} (h : OwnS w b n L n) : ∃ f, RowAt w 48 b (n * 4) f := by
  obtain ⟨cur, hc, hn, hs⟩ := h
  refine ⟨fun j => match cur[j]? with | some (.int _ v) => v | _ => 0, cur, hc, fun j hj => ?_⟩
  obtain ⟨h0, h1, h2, h3⟩ := hs (j / 4) (by omega)
  have hm : j = j / 4 * 4 ∨ j = j / 4 * 4 + 1 ∨ j = j / 4 * 4 + 2 ∨ j = j / 4 * 4 + 3 := by omega
  have e : ∃ z : Int, cur[j]? = some (.int .i64 z) := by
    rcases hm with e | e | e | e
    · exact ⟨_, by rw [e]; exact h0⟩
    · exact ⟨_, by rw [e]; exact h1⟩
    · exact ⟨_, by rw [e]; exact h2⟩
    · exact ⟨_, by rw [e]; exact h3⟩
  obtain ⟨z, hz⟩ := e
  simp only [hz]
theorem rowOfDirs {w : World} {b n : Nat} {L : List D3} (h : OwnD w b n L n) : ∃ f, RowV w 46 b (n * 3) f := by
  obtain ⟨cur, hc, hn, hs⟩ := h
  refine ⟨fun j => cur.getD j .nilIface, cur, hc, fun j hj => ?_⟩
  simp [Array.getD, show j < cur.size by omega]
/-- the first n numbers of ids lie at a -/
def Nums (w : World) (a : Option Addr) (ids : List Int) (n : Nat) : Prop := n = 0 ∨ ∃ b o, a = some ⟨b, o, none⟩ ∧ b < w.heap.size ∧ ∀ i, i < n → w.cell? ⟨b, o + i, none⟩ = some (.int .i64 (ids.getD i 0))
theorem Nums.kept {w w' : World} {a : Option Addr} {L : List Int} {n : Nat} (h : Nums w a L n) (hB : Below w.heap.size w w') : Nums w' a L n := by
  rcases h with h | ⟨b, o, ha, hb, hc⟩
  · exact .inl h
  · exact .inr ⟨b, o, ha, Nat.lt_of_lt_of_le hb hB.size, fun i hi => by rw [hB.cell (p := ⟨b, o + i, none⟩) hb]; exact hc i hi⟩
def numV (ids : List Int) (j : Nat) : Value := .int .i64 (ids.getD j 0)
theorem nums_of {w : World} {g n : Nat} {ids : List Int} (h : RowV w 2 g (n * 1) (numV ids)) : Nums w (some ⟨g, 0, none⟩) ids n :=
  .inr ⟨g, 0, rfl, h.lt, fun i hi => by rw [Nat.zero_add]; exact h.cell (by omega)⟩
theorem prow_of {w : World} {t : TypeId} {g n c : Nat} {f : Nat → Value} (h : RowV w t g (n * c) f) (cap : Nat) : PRow w t c 0 w.heap.size n (.slice (some ⟨g, 0, none⟩) n cap) f := .inr ⟨g, cap, rfl, Nat.zero_le _, h.lt, h⟩
set_option maxHeartbeats 1000000 in
set_option maxRecDepth 100000 in
theorem toInt64S_any (ids : List Int) (n : Nat) (a : Option Addr) (c : Nat) (w : World) (hn : n ≤ 1048576) (hS : Nums w a ids n) :
    Calls Tryd.prog 10 #[.slice a n c] w fun e w' => e = .returned (.slice (some ⟨w.heap.size, 0, none⟩) n n) ∧ RowV w' 2 w.heap.size (n * 1) (numV ids) ∧ Below w.heap.size w w' := by
  have HS := hide hS
  clear hS
  obtain ⟨i0, hi, hz0, hz1, hz2⟩ := info_parts info_i64
  go_enter Tryd.func10, Tryd.ntmps10
  go_wp2_with (at_make; refine wpList_make_full _ rfl _ _ 24 rfl w.heap.size 2 i0 (.int .i64 0) 1 Tryd.underlying24 hi hz0 hz1 .i64 .i64 _ _ n rfl rfl rfl rfl (by rw [hz2]; omega) (by unfold maxLen; omega) (Nat.le_refl _) ?_; intro w0 hown0 hgrow0)
  have hzero : ∀ j, j < n * 1 → (madeCells (Value.int .i64 0).cells (n * 1)).toList[j]? = some (.int .i64 0) := by
    intro j hj
    have e : (Value.int .i64 0).cells = #[.int .i64 0] := rfl
    rw [e, toList_madeCells_one]
    simp at hj
    simp [hj]
  have H0 : Hid (RowV w0 2 w.heap.size (n * 1) (fun j => if j < 0 then numV ids j else .int .i64 0)) := hide ((RowV.made (v := .nilIface) hown0 hzero).congr (fun j hj => by rw [if_neg (by omega)]))
  have HB0 := hide (below_grownN hgrow0)
  clear hown0 hgrow0 hzero
  rcases unhide HS with rfl | ⟨b, o, rfl, hb, hc⟩
  · refine wp_loop_rounds 1 ?_
    rw [rounds_succ]
    go_wp2_with fail
    go_ret
    exact ⟨rfl, (unhide H0).congr (fun j hj => by omega), unhide HB0⟩
  have HC := hide hc
  clear hc
  go_loopw [4] (fun i wr => ∃ k : Nat, k ≤ n ∧ i = .int .i64 k ∧ Hid (RowV wr 2 w.heap.size (n * 1) (fun j => if j < k then numV ids j else .int .i64 0)) ∧ Hid (Below w.heap.size w wr)) (fun i _ => n - (intOf i).toNat)
  case atStart => exact ⟨0, by omega, rfl, H0, HB0⟩
  case round =>
    clear H0 HB0
    obtain ⟨k, hk, rfl, HO, HB⟩ := hrel
    by_cases hkn : k < n
    · have c0 : wr.cell? ⟨b, o + k, none⟩ = some (.int .i64 (ids.getD k 0)) := by rw [(unhide HB).cell (p := ⟨b, o + k, none⟩) hb]; exact unhide HC k hkn
      have HN : Hid (numV ids k = .int .i64 (ids.getD k 0)) := hide rfl
      generalize ids.getD k 0 = z at *
      have hkn2 : (k : Int) < (n : Int) := by omega
      have e0 := (unhide HO).cell (j := k) (by omega)
      have f0 := (unhide HO).free k
      rw [if_neg (by omega)] at e0
      have HO3 : Hid (RowV (wr.setCell ⟨w.heap.size, k, none⟩ (.int .i64 z)) 2 w.heap.size (n * 1) (fun j => if j < k + 1 then numV ids j else .int .i64 0)) := hide (((unhide HO).set k (.int .i64 z)).congr (fun j hj => by
        by_cases h : j = k
        · rw [if_pos h, if_pos (by omega), h, unhide HN]
        · rw [if_neg h]
          by_cases h2 : j < k
          · rw [if_pos h2, if_pos (by omega)]
          · rw [if_neg h2, if_neg (by omega)]))
      have HB3 := hide ((unhide HB).setCell (show w.heap.size ≤ w.heap.size from Nat.le_refl _) (.int .i64 z) : Below w.heap.size w (wr.setCell ⟨w.heap.size, k, none⟩ (.int .i64 z)))
      clear HO HB
      go_wp2_with fail
      go_roundw
      case rel => exact ⟨k + 1, by omega, by go_num, HO3, HB3⟩
      case measure => simp [intOf]; omega
    · have hkn' : k = n := by omega
      subst hkn'
      go_wp2_with fail
      go_ret
      exact ⟨rfl, (unhide HO).congr (fun j hj => if_pos (by omega)), unhide HB⟩
end Go.Proofs.YtphfllkkpblbaaaDoor
