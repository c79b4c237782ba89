/- Several texts in one: IdC, RowF, MarkS, RowV, ListI, TurnA, TurnB. -/
import Derived.OwnWalk
import Derived.Laws.OwnMore
import Derived.Lib.QuietBelow
import Derived.Deep.QuietTactic
import Derived.BigQuiet
import Derived.Test.YtjdehbpgdplolaaGreatDoorQLookOwn7
import Derived.Test.YtjdehbpgdplolaaGreatDoorQLookOwn2
import Derived.Test.YtjdehbpgdplolaaGreatDoorQLookOwn3
namespace Go.Proofs.YtjdehbpgdplolaaGreatDoor
open Go.RowKit Go.Sort
set_option linter.unusedVariables false

/-- block b is a row of n directions, none frozen, of which the first k are L's -/
def OwnD (w : World) (b n : Nat) (L : List D3) (k : Nat) : Prop := ∃ cur : Array Value, w.heap[b]? = some (.cells cur 54 (0, 0)) ∧ cur.size = n * 3 ∧
  ∀ j, j < k → cur[j * 3]? = some (.int .i64 (vA L j).1) ∧ cur[j * 3 + 1]? = some (.int .i64 (vA L j).2.1) ∧ cur[j * 3 + 2]? = some (.int .i64 (vA L j).2.2)
theorem OwnD.lt {w : World} {b n k : Nat} {L : List D3} (h : OwnD w b n L k) : b < w.heap.size := by
  obtain ⟨cur, hc, _⟩ := h
  exact (Array.getElem?_eq_some_iff.1 hc).1
theorem OwnD.kept {w w' : World} {b n k : Nat} {L : List D3} (h : OwnD w b n L k) (hB : Below w.heap.size w w') : OwnD w' b n L k := by
  have hl := h.lt
  obtain ⟨cur, hc, r⟩ := h
  exact ⟨cur, by rw [hB.block b hl]; exact hc, r⟩
theorem OwnD.dirs {w : World} {b n k : Nat} {L : List D3} (h : OwnD w b n L k) : Dirs w (some ⟨b, 0, none⟩) L k := by
  have hl := h.lt
  obtain ⟨cur, hc, _, hs⟩ := h
  refine .inr ⟨b, 0, rfl, hl, fun i hi => ?_⟩
  obtain ⟨h0, h1, h2⟩ := hs i hi
  rw [Nat.zero_add]
  exact ⟨by rw [cell_of_row w b _ cur _ _ hc]; exact h0, by rw [cell_of_row w b _ cur _ _ hc]; exact h1, by rw [cell_of_row w b _ cur _ _ hc]; exact h2⟩
theorem OwnD.old {w : World} {b n k i : Nat} {L : List D3} (h : OwnD w b n L k) (hi : i < n * 3) : ∃ v, w.cell? ⟨b, i, none⟩ = some v := by
  obtain ⟨cur, hc, hn, _⟩ := h
  rw [cell_of_row w b _ cur _ _ hc]
  exact ⟨cur[i], Array.getElem?_eq_getElem (by omega)⟩
theorem OwnD.free {w : World} {b n k : Nat} {L : List D3} (h : OwnD w b n L k) (i : Nat) : w.frozen? ⟨b, i, none⟩ = false := by
  obtain ⟨cur, hc, _⟩ := h
  exact frozen_of_row w b i cur _ hc
def set3 (w : World) (b o : Nat) (s : D3) : World := ((w.setCell ⟨b, o, none⟩ (.int .i64 s.1)).setCell ⟨b, o + 1, none⟩ (.int .i64 s.2.1)).setCell ⟨b, o + 2, none⟩ (.int .i64 s.2.2)
theorem OwnD.step {w : World} {b n k : Nat} {L : List D3} (h : OwnD w b n L k) (hk : k < n) : OwnD (set3 w b (k * 3) (vA L k)) b n L (k + 1) := by
  obtain ⟨cur, hc, hn, hs⟩ := h
  have e1 := heap_setCell_same w b (k * 3) cur _ (.int .i64 (vA L k).1) hc
  have e2 := heap_setCell_same _ b (k * 3 + 1) _ _ (.int .i64 (vA L k).2.1) e1
  have e3 := heap_setCell_same _ b (k * 3 + 2) _ _ (.int .i64 (vA L k).2.2) e2
  refine ⟨_, e3, by simpa using hn, fun j hj => ?_⟩
  by_cases e : j = k
  · subst e
    refine ⟨?_, ?_, ?_⟩ <;> simp [Array.getElem?_setIfInBounds] <;> omega
  · obtain ⟨h0, h1, h2⟩ := hs j (by omega)
    refine ⟨?_, ?_, ?_⟩
    · simp only [Array.getElem?_setIfInBounds]
      rw [if_neg (by omega), if_neg (by omega), if_neg (by omega)]; exact h0
    · simp only [Array.getElem?_setIfInBounds]
      rw [if_neg (by omega), if_neg (by omega), if_neg (by omega)]; exact h1
    · simp only [Array.getElem?_setIfInBounds]
      rw [if_neg (by omega), if_neg (by omega), if_neg (by omega)]; exact h2
theorem belowSet3 {B : Nat} {w w1 : World} {b o : Nat} {s : D3} (h : Below B w w1) (hb : B ≤ b) : Below B w (set3 w1 b o s) := ((h.setCell hb _).setCell hb _).setCell hb _

theorem info_dir : (Tryz.prog.info? 54).map (fun i => (i.zero, i.size, i.bytes)) = some (some (.agg #[.int .i64 0, .int .i64 0, .int .i64 0]), 3, 24) := by kernel_rfl
theorem ownD_made {w' : World} {B b n : Nat} {L : List D3} {xs : List Value} (h : w'.ownsRow B 54 3 (.slice (some ⟨b, 0, none⟩) n n) n xs) : OwnD w' b n L 0 := by
  rcases h.2 with ⟨h', _⟩ | ⟨g, cap, cur, hv, _, hg, _, _, hcs, _⟩
  · simp at h'
  · simp only [Value.slice.injEq, Option.some.injEq, Addr.mk.injEq, and_true, true_and] at hv
    obtain ⟨rfl, rfl⟩ := hv
    exact ⟨cur, hg, hcs, fun j hj => absurd hj (Nat.not_lt_zero _)⟩
theorem below_grownD {w w' : World} (h : w.grownBy w' none) : Below w.heap.size w w' := ⟨h.os, h.tape, h.output, h.size, fun k hk => h.block k hk (by simp)⟩
set_option maxRecDepth 100000 in
theorem szVecS_any (a : Option Addr) (n c : Nat) (left : Int) (w : World) (h0 : 0 ≤ left) (h1 : left ≤ 1048576) (hn : (n : Int) ≤ left) :
    Calls Tryz.prog 5 #[.slice a n c, .int .i64 left] w fun e w' => e = .returned (.int .i64 (left - (n : Int))) ∧ w' = w := by
  have h : ¬ left - (n : Int) < 0 := by omega
  go_enter Tryz.func5, Tryz.ntmps5
  go_wp2
  go_ret
  exact ⟨rfl, rfl⟩
set_option maxRecDepth 100000 in
theorem szVecS_big (a : Option Addr) (n c : Nat) (left : Int) (w : World) (h0 : 0 ≤ left) (h1 : left ≤ 1048576) (hn : left < (n : Int)) (hm : n ≤ 9223372036854775807) :
    Calls Tryz.prog 5 #[.slice a n c, .int .i64 left] w fun e w' => e = .returned (.int .i64 (-1)) ∧ w' = w := by
  have h : left - (n : Int) < 0 := by omega
  go_enter Tryz.func5, Tryz.ntmps5
  go_wp2
  go_ret
  exact ⟨rfl, rfl⟩
set_option maxRecDepth 100000 in
theorem toDir_any (x y z : Int) (w : World) :
    Calls Tryz.prog 24 #[.agg #[.int .i64 x, .int .i64 y, .int .i64 z]] w fun e w' => e = .returned (.agg #[.int .i64 x, .int .i64 y, .int .i64 z]) ∧ Below w.heap.size w w' := by
  go_enter Tryz.func24, Tryz.ntmps24
  go_wp2
  exact bodyPost_ret (v := .agg #[.int .i64 x, .int .i64 y, .int .i64 z]) (by simp [results, Tryz.results24, go_sem]) rfl ⟨rfl, below3 _ _ _ _⟩

set_option maxHeartbeats 1000000 in
set_option maxRecDepth 100000 in
theorem toVecS_any (L : List D3) (n : Nat) (a : Option Addr) (c : Nat) (w : World) (hn : n ≤ 1048576) (hS : Dirs w a L n) :
    Calls Tryz.prog 8 #[.slice a n c] w fun e w' => e = .returned (.slice (some ⟨w.heap.size, 0, none⟩) n n) ∧ OwnD w' w.heap.size n L n ∧ Below w.heap.size w w' := by
  have HS := hide hS
  clear hS
  obtain ⟨i0, hi, hz0, hz1, hz2⟩ := info_parts info_dir
  go_enter Tryz.func8, Tryz.ntmps8
  go_wp2_with (at_make; refine wpList_make_full _ rfl _ _ 38 rfl w.heap.size 54 i0 (.agg #[.int .i64 0, .int .i64 0, .int .i64 0]) 3 Tryz.underlying38 hi hz0 hz1 .i64 .i64 _ _ n rfl rfl rfl rfl (by rw [hz2]; omega) (by unfold maxLen; omega) (Nat.le_refl _) ?_; intro w0 hown0 hgrow0)
  have H0 := hide (ownD_made (L := L) hown0)
  have HB0 := hide (below_grownD hgrow0)
  clear hown0 hgrow0
  rcases unhide HS with rfl | ⟨b, o, rfl, hb, hc⟩
  · refine wp_loop_rounds 1 ?_
    rw [rounds_succ]
    go_wp2_with fail
    go_ret
    exact ⟨rfl, unhide H0, unhide HB0⟩
  have HC := hide hc
  clear hc
  go_loopw [4] (fun i wr => ∃ k : Nat, k ≤ n ∧ i = .int .i64 k ∧ Hid (OwnD wr w.heap.size n L k) ∧ Hid (Below w.heap.size w wr)) (fun i _ => n - (intOf i).toNat)
  case atStart => exact ⟨0, by omega, rfl, H0, HB0⟩
  case round =>
    obtain ⟨k, hk, rfl, HO, HB⟩ := hrel
    by_cases hkn : k < n
    · obtain ⟨⟨s2, s3, s4⟩, hs⟩ : ∃ s, vA L k = s := ⟨_, rfl⟩
      have hst := ((unhide HC) k hkn).kept hb (unhide HB)
      rw [hs] at hst
      obtain ⟨c0, c1, c2⟩ := hst
      have HT := hide hs
      clear hs
      go_wp2_with fail
      refine (toDir_any s2 s3 s4 _).mono ?_
      rintro e w2 ⟨rfl, hx⟩
      clear c0 c1 c2
      have O2 := hide ((unhide HO).kept hx)
      have B2 := hide (below_call (unhide HB) hx)
      clear hx
      obtain ⟨x0, e0⟩ := (unhide O2).old (i := k * 3) (by omega)
      obtain ⟨x1, e1⟩ := (unhide O2).old (i := k * 3 + 1) (by omega)
      obtain ⟨x2, e2⟩ := (unhide O2).old (i := k * 3 + 2) (by omega)
      have f0 := (unhide O2).free (k * 3)
      have f1 := (unhide O2).free (k * 3 + 1)
      have f2 := (unhide O2).free (k * 3 + 2)
      have O3 := (unhide O2).step hkn
      rw [unhide HT] at O3
      have HO3 := hide O3
      have HB3 := hide (belowSet3 (o := k * 3) (s := (s2, s3, s4)) (unhide B2) (Nat.le_refl _))
      clear O3
      go_wp2_with fail
      go_roundw
      case rel => exact ⟨k + 1, by omega, by go_num, HO3, HB3⟩
      case measure => simp [intOf]; omega
    · have hkn' : k = n := by omega
      subst hkn'
      go_wp2_with fail
      go_ret
      exact ⟨rfl, unhide HO, unhide HB⟩

set_option maxRecDepth 100000 in
theorem eqDir_same (x y z : Int) (w : World) :
    Calls Tryz.prog 32 #[.agg #[.int .i64 x, .int .i64 y, .int .i64 z], .agg #[.int .i64 x, .int .i64 y, .int .i64 z]] w fun e w' => e = .returned (.bool true) ∧ Below w.heap.size w w' := by
  go_enter Tryz.func32, Tryz.ntmps32
  go_wp2
  go_ret
  exact ⟨rfl, below2 _ _ _⟩
set_option maxHeartbeats 1000000 in
set_option maxRecDepth 100000 in
theorem eqVecS_same (L : List D3) (n : Nat) (a a' : Option Addr) (c c' : Nat) (w : World) (hn : n ≤ 1048576) (hS : Dirs w a L n) (hS' : Dirs w a' L n) :
    Calls Tryz.prog 12 #[.slice a n c, .slice a' n c'] w fun e w' => e = .returned (.bool true) ∧ Below w.heap.size w w' := by
  rcases hS with rfl | ⟨b, o, rfl, hb, hc⟩
  · clear hS'
    go_enter Tryz.func12, Tryz.ntmps12
    go_wp2_with fail
    refine wp_loop_rounds 1 ?_
    rw [rounds_succ]
    go_wp2_with fail
    go_ret
    exact ⟨rfl, Below.refl _ _⟩
  rcases hS' with rfl | ⟨b', o', rfl, hb', hc'⟩
  · clear hc
    go_enter Tryz.func12, Tryz.ntmps12
    go_wp2_with fail
    refine wp_loop_rounds 1 ?_
    rw [rounds_succ]
    go_wp2_with fail
    go_ret
    exact ⟨rfl, Below.refl _ _⟩
  have HC := hide hc
  have HC' := hide hc'
  clear hc hc'
  go_enter Tryz.func12, Tryz.ntmps12
  go_wp2_with fail
  go_loopw [5] (fun i wr => ∃ k : Nat, k ≤ n ∧ i = .int .i64 k ∧ Hid (Below w.heap.size w wr)) (fun i _ => n - (intOf i).toNat)
  case atStart => exact ⟨0, by omega, rfl, hide (Below.refl _ _)⟩
  case round =>
    obtain ⟨k, hk, rfl, HB⟩ := hrel
    by_cases hkn : k < n
    · obtain ⟨⟨s2, s3, s4⟩, hs⟩ : ∃ s, vA L k = s := ⟨_, rfl⟩
      have hst := ((unhide HC) k hkn).kept hb (unhide HB)
      have hst' := ((unhide HC') k hkn).kept hb' (unhide HB)
      rw [hs] at hst hst'
      obtain ⟨c0, c1, c2⟩ := hst
      obtain ⟨d0, d1, d2⟩ := hst'
      have r0 := cell_regrown c0
      have r1 := cell_regrown c1
      have r2 := cell_regrown c2
      have t0 := cell_regrown d0
      have t1 := cell_regrown d1
      have t2 := cell_regrown d2
      clear c0 c1 c2 d0 d1 d2 hs
      have hkn2 : (k : Int) < (n : Int) := by omega
      have cE := hide (fun W => eqDir_same s2 s3 s4 W)
      go_wp2_with fail
      refine wp_region_quiet_below (by kernel_rfl) (by kernel_rfl) ?_
      repeat (go_big_quiet_step (first | (with_reducible exact Calls.regrown_of (unhide cE _))))
      refine wpQuiet_nil ?_
      intro _ hw'
      obtain ⟨⟨dq, osq⟩, hw''⟩ := hw'
      subst hw''
      have hx := below_call (unhide HB) (below_regrown wr dq osq)
      generalize grow (redrawn wr dq) osq = W2 at hx ⊢
      have HB2 := hide hx
      clear hx r0 r1 r2 t0 t1 t2 cE HB
      go_wp2_with fail
      go_roundw
      case rel => exact ⟨k + 1, by omega, by go_num, HB2⟩
      case measure => simp [intOf]; omega
    · have hkn' : k = n := by omega
      subst hkn'
      go_wp2_with fail
      go_ret
      exact ⟨rfl, unhide HB⟩
end Go.Proofs.YtjdehbpgdplolaaGreatDoor

namespace Go.Proofs.YtjdehbpgdplolaaGreatDoor
open Go.RowKit
set_option linter.unusedVariables false

/-- block g is a row of cells of type t, none frozen, whose first m are the numbers f -/
def RowAt (w : World) (t : TypeId) (g m : Nat) (f : Nat → Int) : Prop := ∃ cur : Array Value, w.heap[g]? = some (.cells cur t (0, 0)) ∧ ∀ j, j < m → cur[j]? = some (.int .i64 (f j))
theorem RowAt.lt {w : World} {t : TypeId} {g m : Nat} {f : Nat → Int} (h : RowAt w t g m f) : g < w.heap.size := by
  obtain ⟨cur, hc, _⟩ := h
  exact (Array.getElem?_eq_some_iff.1 hc).1
theorem RowAt.same {w w' : World} {t : TypeId} {g m : Nat} {f : Nat → Int} (h : RowAt w t g m f) (e : w'.heap[g]? = w.heap[g]?) : RowAt w' t g m f := by
  obtain ⟨cur, hc, hs⟩ := h
  exact ⟨cur, by rw [e]; exact hc, hs⟩
theorem RowAt.kept {w w' : World} {t : TypeId} {g m : Nat} {f : Nat → Int} (h : RowAt w t g m f) (hB : Below w.heap.size w w') : RowAt w' t g m f := h.same (hB.block g h.lt)
theorem RowAt.congr {w : World} {t : TypeId} {g m : Nat} {f f' : Nat → Int} (h : RowAt w t g m f) (e : ∀ j, j < m → f j = f' j) : RowAt w t g m f' := by
  obtain ⟨cur, hc, hs⟩ := h
  exact ⟨cur, hc, fun j hj => by rw [hs j hj, e j hj]⟩
theorem RowAt.cell {w : World} {t : TypeId} {g m j : Nat} {f : Nat → Int} (h : RowAt w t g m f) (hj : j < m) : w.cell? ⟨g, j, none⟩ = some (.int .i64 (f j)) := by
  obtain ⟨cur, hc, hs⟩ := h
  rw [cell_of_row w g j cur t _ hc]
  exact hs j hj
theorem RowAt.free {w : World} {t : TypeId} {g m : Nat} {f : Nat → Int} (h : RowAt w t g m f) (j : Nat) : w.frozen? ⟨g, j, none⟩ = false := by
  obtain ⟨cur, hc, _⟩ := h
  exact frozen_of_row w g j cur t hc
theorem RowAt.set {w : World} {t : TypeId} {g m : Nat} {f : Nat → Int} (h : RowAt w t g m f) (i : Nat) (v : Int) : RowAt (w.setCell ⟨g, i, none⟩ (.int .i64 v)) t g m (fun j => if j = i then v else f j) := by
  obtain ⟨cur, hc, hs⟩ := h
  refine ⟨_, heap_setCell_same w g i cur t (.int .i64 v) hc, fun j hj => ?_⟩
  have := hs j hj
  rw [Array.getElem?_setIfInBounds]
  by_cases e : i = j
  · subst e
    simp [(Array.getElem?_eq_some_iff.1 this).1]
  · have e' : ¬ j = i := fun h => e (Eq.symm h)
    simp [e, e', this]
theorem grownRefl (w : World) (row : Option Nat) : w.grownBy w row := ⟨rfl, rfl, rfl, Nat.le_refl _, fun _ _ _ => rfl⟩
theorem grownSet {w w1 : World} {g : Nat} (h : w.grownBy w1 (some g)) (i : Nat) (v : Value) : w.grownBy (w1.setCell ⟨g, i, none⟩ v) (some g) :=
  ⟨h.os, h.tape, h.output, by simpa [World.setCell] using h.size, fun k hk hne => by rw [Below.heap_setCell _ _ _ _ (fun e => hne (by rw [e]))]; exact h.block k hk hne⟩
/-- what was written lies from B on: below it nothing has turned -/
theorem grownBelow {B : Nat} {w w1 w2 : World} {g : Nat} (h : Below B w w1) (hB : B ≤ w1.heap.size) (hg : w1.grownBy w2 (some g)) (hb : B ≤ g) : Below B w w2 :=
  h.trans ⟨hg.os, hg.tape, hg.output, hg.size, fun k hk => hg.block k (by omega) (fun e => by have := Option.some.inj e; omega)⟩
theorem grownB {w w1 : World} {b : Nat} (h : Below w.heap.size w w1) : w.grownBy w1 (some b) := ⟨h.os, h.tape, h.output, h.size, fun k hk _ => h.block k hk⟩
theorem grownTr {a b c : World} {row : Option Nat} (h : a.grownBy b row) (k : b.grownBy c row) : a.grownBy c row :=
  ⟨k.os.trans h.os, k.tape.trans h.tape, k.output.trans h.output, Nat.le_trans h.size k.size, fun i hi hn => (k.block i (Nat.lt_of_lt_of_le hi h.size) hn).trans (h.block i hi hn)⟩
end Go.Proofs.YtjdehbpgdplolaaGreatDoor

namespace Go.Proofs.YtjdehbpgdplolaaGreatDoor
open Go.RowKit
set_option linter.unusedVariables false
set_option maxHeartbeats 2000000 in
set_option maxRecDepth 100000 in
theorem markStarS_any (n c g : Nat) (f : Nat → Int) (w : World) (hn : n ≤ 1048576) (hR : RowAt w 85 g (n * 4) f) :
    Calls Tryz.prog 33 #[.slice (some ⟨g, 0, none⟩) n c, .int .i64 1] w fun e w' => e = .returned (.int .i64 (1 + (n : Int) * 4)) ∧ RowAt w' 85 g (n * 4) (fun j => 1 + (j : Int)) ∧ w.grownBy w' (some g) := by
  have HR := hide hR
  clear hR
  go_enter Tryz.func33, Tryz.ntmps33
  go_wp2_with fail
  go_loopw [1, 5] (fun k i wr => ∃ q : Nat, q ≤ n ∧ i = .int .i64 q ∧ k = .int .i64 (1 + (q : Int) * 4) ∧ Hid (RowAt wr 85 g (n * 4) (fun j => if j < q * 4 then 1 + (j : Int) else f j)) ∧ Hid (w.grownBy wr (some g))) (fun _ i _ => n - (intOf i).toNat)
  case atStart => exact ⟨0, by omega, rfl, rfl, hide ((unhide HR).congr (fun j hj => by simp)), hide (grownRefl w _)⟩
  case round =>
    obtain ⟨q, hq, rfl, rfl, HO, HG⟩ := hrel
    by_cases hqn : q < n
    · have hqn2 : (q : Int) < (n : Int) := by omega
      have e0 := (unhide HO).cell (j := q * 4) (by omega)
      have f0 := (unhide HO).free (q * 4)
      have e1 := (unhide HO).cell (j := q * 4 + 1) (by omega)
      have f1 := (unhide HO).free (q * 4 + 1)
      have e2 := (unhide HO).cell (j := q * 4 + 2) (by omega)
      have f2 := (unhide HO).free (q * 4 + 2)
      have e3 := (unhide HO).cell (j := q * 4 + 3) (by omega)
      have f3 := (unhide HO).free (q * 4 + 3)
      have R0 := unhide HO
      have R1 := R0.set (q * 4) (1 + (q : Int) * 4)
      have R2 := R1.set (q * 4 + 1) (1 + (q : Int) * 4 + 1)
      have R3 := R2.set (q * 4 + 2) (1 + (q : Int) * 4 + 1 + 1)
      have R4 := R3.set (q * 4 + 3) (1 + (q : Int) * 4 + 1 + 1 + 1)
      have HO2 : Hid (RowAt _ 85 g (n * 4) (fun j => if j < (q + 1) * 4 then 1 + (j : Int) else f j)) := hide (R4.congr (fun j hj => by
        try dsimp only
        repeat' split
        all_goals omega))
      have HG2 := hide (grownSet (grownSet (grownSet (grownSet (unhide HG) (q * 4) (.int .i64 (1 + (q : Int) * 4))) (q * 4 + 1) (.int .i64 (1 + (q : Int) * 4 + 1))) (q * 4 + 2) (.int .i64 (1 + (q : Int) * 4 + 1 + 1))) (q * 4 + 3) (.int .i64 (1 + (q : Int) * 4 + 1 + 1 + 1)))
      clear R0 R1 R2 R3 R4
      go_wp2_with fail
      go_roundw
      case rel => exact ⟨q + 1, by omega, by go_num, by go_num, HO2, HG2⟩
      case measure => simp [intOf]; omega
    · have hqn' : q = n := by omega
      subst hqn'
      go_wp2_with fail
      go_ret
      exact ⟨rfl, (unhide HO).congr (fun j hj => if_pos hj), unhide HG⟩
set_option maxHeartbeats 2000000 in
set_option maxRecDepth 100000 in
theorem heldStarS_any (n c g : Nat) (w : World) (hn : n ≤ 1048576) (hR : RowAt w 85 g (n * 4) (fun j => 1 + (j : Int))) :
    Calls Tryz.prog 57 #[.slice (some ⟨g, 0, none⟩) n c, .int .i64 1] w fun e w' => e = .returned (.int .i64 (1 + (n : Int) * 4)) ∧ w' = w := by
  have HR := hide hR
  clear hR
  go_enter Tryz.func57, Tryz.ntmps57
  go_wp2_with fail
  go_loop [1, 5] (fun k i => ∃ q : Nat, q ≤ n ∧ i = .int .i64 q ∧ k = .int .i64 (1 + (q : Int) * 4)) (fun _ i => n - (intOf i).toNat)
  case atStart => exact ⟨0, by omega, rfl, rfl⟩
  case round =>
    obtain ⟨q, hq, rfl, rfl⟩ := hrel
    by_cases hqn : q < n
    · have hqn2 : (q : Int) < (n : Int) := by omega
      have e0 : w.cell? ⟨g, q * 4, none⟩ = some (.int .i64 (1 + (q : Int) * 4)) := by first | (rw [(unhide HR).cell (j := q * 4) (by omega)]; done) | (rw [(unhide HR).cell (j := q * 4) (by omega)]; congr 2 <;> omega)
      have e1 : w.cell? ⟨g, q * 4 + 1, none⟩ = some (.int .i64 (1 + (q : Int) * 4 + 1)) := by first | (rw [(unhide HR).cell (j := q * 4 + 1) (by omega)]; done) | (rw [(unhide HR).cell (j := q * 4 + 1) (by omega)]; congr 2 <;> omega)
      have e2 : w.cell? ⟨g, q * 4 + 2, none⟩ = some (.int .i64 (1 + (q : Int) * 4 + 1 + 1)) := by first | (rw [(unhide HR).cell (j := q * 4 + 2) (by omega)]; done) | (rw [(unhide HR).cell (j := q * 4 + 2) (by omega)]; congr 2 <;> omega)
      have e3 : w.cell? ⟨g, q * 4 + 3, none⟩ = some (.int .i64 (1 + (q : Int) * 4 + 1 + 1 + 1)) := by first | (rw [(unhide HR).cell (j := q * 4 + 3) (by omega)]; done) | (rw [(unhide HR).cell (j := q * 4 + 3) (by omega)]; congr 2 <;> omega)
      go_wp2_with fail
      go_round
      case rel => exact ⟨q + 1, by omega, by go_num, by go_num⟩
      case measure => simp [intOf]; omega
    · have hqn' : q = n := by omega
      subst hqn'
      go_wp2_with fail
      go_ret
      exact ⟨rfl, rfl⟩
set_option maxRecDepth 100000 in
theorem markStarS_none (a : Option Addr) (c : Nat) (w : World) :
    Calls Tryz.prog 33 #[.slice a 0 c, .int .i64 1] w fun e w' => e = .returned (.int .i64 1) ∧ w' = w := by
  go_enter Tryz.func33, Tryz.ntmps33
  go_wp2_with fail
  refine wp_loop_rounds 1 ?_
  rw [rounds_succ]
  go_wp2_with fail
  go_ret
  exact ⟨rfl, rfl⟩
set_option maxRecDepth 100000 in
theorem heldStarS_none (a : Option Addr) (c : Nat) (w : World) :
    Calls Tryz.prog 57 #[.slice a 0 c, .int .i64 1] w fun e w' => e = .returned (.int .i64 1) ∧ w' = w := by
  go_enter Tryz.func57, Tryz.ntmps57
  go_wp2_with fail
  refine wp_loop_rounds 1 ?_
  rw [rounds_succ]
  go_wp2_with fail
  go_ret
  exact ⟨rfl, rfl⟩
end Go.Proofs.YtjdehbpgdplolaaGreatDoor

namespace Go.Proofs.YtjdehbpgdplolaaGreatDoor
open Go.RowKit
set_option linter.unusedVariables false

/-- block g is a row of cells of type t, none frozen, whose first m are the values f -/
def RowV (w : World) (t : TypeId) (g m : Nat) (f : Nat → Value) : Prop := ∃ cur : Array Value, w.heap[g]? = some (.cells cur t (0, 0)) ∧ ∀ j, j < m → cur[j]? = some (f j)
theorem RowV.lt {w : World} {t : TypeId} {g m : Nat} {f : Nat → Value} (h : RowV w t g m f) : g < w.heap.size := by
  obtain ⟨cur, hc, _⟩ := h
  exact (Array.getElem?_eq_some_iff.1 hc).1
theorem RowV.same {w w' : World} {t : TypeId} {g m : Nat} {f : Nat → Value} (h : RowV w t g m f) (e : w'.heap[g]? = w.heap[g]?) : RowV w' t g m f := by
  obtain ⟨cur, hc, hs⟩ := h
  exact ⟨cur, by rw [e]; exact hc, hs⟩
theorem RowV.kept {w w' : World} {t : TypeId} {g m : Nat} {f : Nat → Value} (h : RowV w t g m f) (hB : Below w.heap.size w w') : RowV w' t g m f := h.same (hB.block g h.lt)
theorem RowV.congr {w : World} {t : TypeId} {g m : Nat} {f f' : Nat → Value} (h : RowV w t g m f) (e : ∀ j, j < m → f j = f' j) : RowV w t g m f' := by
  obtain ⟨cur, hc, hs⟩ := h
  exact ⟨cur, hc, fun j hj => by rw [hs j hj, e j hj]⟩
theorem RowV.cell {w : World} {t : TypeId} {g m j : Nat} {f : Nat → Value} (h : RowV w t g m f) (hj : j < m) : w.cell? ⟨g, j, none⟩ = some (f j) := by
  obtain ⟨cur, hc, hs⟩ := h
  rw [cell_of_row w g j cur t _ hc]
  exact hs j hj
theorem RowV.free {w : World} {t : TypeId} {g m : Nat} {f : Nat → Value} (h : RowV w t g m f) (j : Nat) : w.frozen? ⟨g, j, none⟩ = false := by
  obtain ⟨cur, hc, _⟩ := h
  exact frozen_of_row w g j cur t hc
theorem RowV.set {w : World} {t : TypeId} {g m : Nat} {f : Nat → Value} (h : RowV w t g m f) (i : Nat) (v : Value) : RowV (w.setCell ⟨g, i, none⟩ v) t g m (fun j => if j = i then v else f j) := by
  obtain ⟨cur, hc, hs⟩ := h
  refine ⟨_, heap_setCell_same w g i cur t v hc, fun j hj => ?_⟩
  have := hs j hj
  rw [Array.getElem?_setIfInBounds]
  by_cases e : i = j
  · subst e
    simp [(Array.getElem?_eq_some_iff.1 this).1]
  · have e' : ¬ j = i := fun h => e (Eq.symm h)
    simp [e, e', this]
/-- nothing has turned but what lies from lo up to hi, and what is new -/
structure Apart (lo hi : Nat) (w w' : World) : Prop where
  os : w'.os = w.os
  tape : w'.tape = w.tape
  output : w'.output = w.output
  size : w.heap.size ≤ w'.heap.size
  block : ∀ k, k < w.heap.size → (k < lo ∨ hi ≤ k) → w'.heap[k]? = w.heap[k]?
theorem Apart.refl (lo hi : Nat) (w : World) : Apart lo hi w w := ⟨rfl, rfl, rfl, Nat.le_refl _, fun _ _ _ => rfl⟩
theorem Apart.of {lo hi g : Nat} {w w' : World} (h : w.grownBy w' (some g)) (h1 : lo ≤ g) (h2 : g < hi) : Apart lo hi w w' := ⟨h.os, h.tape, h.output, h.size, fun k hk hne => h.block k hk (fun e => by have := Option.some.inj e; omega)⟩
theorem Apart.below {B lo hi : Nat} {w w1 w2 : World} (h : Below B w w1) (ha : Apart lo hi w1 w2) (h1 : B ≤ lo) (h2 : B ≤ w1.heap.size) : Below B w w2 :=
  h.trans ⟨ha.os, ha.tape, ha.output, ha.size, fun k hk => ha.block k (by omega) (.inl (by omega))⟩
theorem gRefl (w : World) (row : Option Nat) : w.grownBy w row := ⟨rfl, rfl, rfl, Nat.le_refl _, fun _ _ _ => rfl⟩
theorem gSet {w w1 : World} {g : Nat} (h : w.grownBy w1 (some g)) (i : Nat) (v : Value) : w.grownBy (w1.setCell ⟨g, i, none⟩ v) (some g) :=
  ⟨h.os, h.tape, h.output, by simpa [World.setCell] using h.size, fun k hk hne => by rw [Below.heap_setCell _ _ _ _ (fun e => hne (by rw [e]))]; exact h.block k hk hne⟩
/-- v is a list of n elements of c cells each, the values f, in a block from lo up to hi; or it is empty -/
def PRow (w : World) (t : TypeId) (c lo hi n : Nat) (v : Value) (f : Nat → Value) : Prop := (n = 0 ∧ ∃ a cap, v = .slice a 0 cap) ∨ ∃ g cap, v = .slice (some ⟨g, 0, none⟩) n cap ∧ lo ≤ g ∧ g < hi ∧ RowV w t g (n * c) f
theorem PRow.kept {w w' : World} {t : TypeId} {c lo hi n : Nat} {v : Value} {f : Nat → Value} (h : PRow w t c lo hi n v f) (hB : Below w.heap.size w w') : PRow w' t c lo hi n v f := by
  rcases h with h | ⟨g, cap, hv, h1, h2, hr⟩
  · exact .inl h
  · exact .inr ⟨g, cap, hv, h1, h2, hr.kept hB⟩
theorem PRow.apart {w w' : World} {t : TypeId} {c lo hi l h n : Nat} {v : Value} {f : Nat → Value} (hp : PRow w t c lo hi n v f) (ha : Apart l h w w') (hd : hi ≤ l ∨ h ≤ lo) : PRow w' t c lo hi n v f := by
  rcases hp with hp | ⟨g, cap, hv, h1, h2, hr⟩
  · exact .inl hp
  · exact .inr ⟨g, cap, hv, h1, h2, hr.same (ha.block g hr.lt (by omega))⟩
theorem PRow.wide {w : World} {t : TypeId} {c lo hi lo' hi' n : Nat} {v : Value} {f : Nat → Value} (h : PRow w t c lo hi n v f) (h1 : lo' ≤ lo) (h2 : hi ≤ hi') : PRow w t c lo' hi' n v f := by
  rcases h with h | ⟨g, cap, hv, g1, g2, hr⟩
  · exact .inl h
  · exact .inr ⟨g, cap, hv, by omega, by omega, hr⟩
theorem PRow.of {w : World} {t : TypeId} {c B n : Nat} {v : Value} {xs : List Value} {f : Nat → Value} (h : w.ownsRow B t c v n xs) (hf : ∀ j, j < n * c → xs[j]? = some (f j)) : PRow w t c B w.heap.size n v f := by
  rcases h.2 with ⟨h1, h0⟩ | ⟨g, cap, cur, hv, hb, hg, hnc, hcm, hcs, htake⟩
  · exact .inl ⟨h0, _, _, h1⟩
  · refine .inr ⟨g, cap, hv, hb, (Array.getElem?_eq_some_iff.1 hg).1, cur, hg, fun j hj => ?_⟩
    have e := hf j hj
    rw [← htake, List.getElem?_take, if_pos hj] at e
    simpa using e
end Go.Proofs.YtjdehbpgdplolaaGreatDoor

namespace Go.Proofs.YtjdehbpgdplolaaGreatDoor
open Go.RowKit Go.Sort
set_option linter.unusedVariables false
def valInt64S (fI : Nat → Int) (fB : Nat → Bool) (j : Nat) : Value := .int .i64 (fI j)
def markInt64SV (j : Nat) : Value := valInt64S (fun j => 1 + (j : Int)) (fun j => decide ((1 + (j : Int)) % 3 = 0)) j
theorem valInt64S_0 (fI : Nat → Int) (fB : Nat → Bool) (q : Nat) : valInt64S fI fB (q) = .int .i64 (fI (q)) := by unfold valInt64S; rfl
theorem markInt64SV_0 (q : Nat) : markInt64SV (q) = .int .i64 (1 + (q : Int)) := rfl
end Go.Proofs.YtjdehbpgdplolaaGreatDoor

namespace Go.Proofs.YtjdehbpgdplolaaGreatDoor
open Go.RowKit
set_option linter.unusedVariables false

def TurnAt (w : World) (b : Nat) (p q r s : Int) : Prop := w.cell? ⟨b, 0, none⟩ = some (.int .i64 p) ∧ w.cell? ⟨b, 1, none⟩ = some (.int .i64 q) ∧ w.cell? ⟨b, 2, none⟩ = some (.int .i64 r) ∧ w.cell? ⟨b, 3, none⟩ = some (.int .i64 s)
def FreeT (w : World) (b : Nat) : Prop := w.frozen? ⟨b, 0, none⟩ = false ∧ w.frozen? ⟨b, 1, none⟩ = false ∧ w.frozen? ⟨b, 2, none⟩ = false ∧ w.frozen? ⟨b, 3, none⟩ = false
theorem TurnAt.kept {w w' : World} {b : Nat} {p q r s : Int} (h : TurnAt w b p q r s) (hb : b < w.heap.size) (hB : Below w.heap.size w w') : TurnAt w' b p q r s := by
  obtain ⟨h0, h1, h2, h3⟩ := h
  exact ⟨by rw [hB.cell (p := ⟨b, 0, none⟩) hb]; exact h0, by rw [hB.cell (p := ⟨b, 1, none⟩) hb]; exact h1, by rw [hB.cell (p := ⟨b, 2, none⟩) hb]; exact h2, by rw [hB.cell (p := ⟨b, 3, none⟩) hb]; exact h3⟩
theorem FreeT.kept {w w' : World} {b : Nat} (h : FreeT w b) (hb : b < w.heap.size) (hB : Below w.heap.size w w') : FreeT w' b := by
  obtain ⟨h0, h1, h2, h3⟩ := h
  exact ⟨by rw [hB.frozen (p := ⟨b, 0, none⟩) hb]; exact h0, by rw [hB.frozen (p := ⟨b, 1, none⟩) hb]; exact h1, by rw [hB.frozen (p := ⟨b, 2, none⟩) hb]; exact h2, by rw [hB.frozen (p := ⟨b, 3, none⟩) hb]; exact h3⟩
theorem turnAt_new (w : World) (p q r s : Int) (t : TypeId) : TurnAt (w.alloc (.cells #[.int .i64 p, .int .i64 q, .int .i64 r, .int .i64 s] t)) w.heap.size p q r s := by
  refine ⟨?_, ?_, ?_, ?_⟩ <;> simp
theorem freeT_new (w : World) (p q r s : Int) (t : TypeId) : FreeT (w.alloc (.cells #[.int .i64 p, .int .i64 q, .int .i64 r, .int .i64 s] t)) w.heap.size := by
  refine ⟨?_, ?_, ?_, ?_⟩ <;> simp
theorem TurnAt.lt {w : World} {b : Nat} {p q r s : Int} (h : TurnAt w b p q r s) : b < w.heap.size := World.block_lt_of_cell? w _ h.1
theorem TurnAt.alloc {w : World} {b : Nat} {p q r s : Int} (h : TurnAt w b p q r s) (o : Obj) : TurnAt (w.alloc o) b p q r s := h.kept h.lt (below1 _ _)
theorem below_set4 {w w1 : World} {b : Nat} (h : Below w.heap.size w w1) (hb : w.heap.size ≤ b) (x y z u : Value) : Below w.heap.size w ((((w1.setCell ⟨b, 0, none⟩ x).setCell ⟨b, 1, none⟩ y).setCell ⟨b, 2, none⟩ z).setCell ⟨b, 3, none⟩ u) := (((h.setCell hb _).setCell hb _).setCell hb _).setCell hb _
theorem below_set5 {w w1 : World} {b : Nat} (h : Below w.heap.size w w1) (hb : w.heap.size ≤ b) (x y z u v : Value) : Below w.heap.size w (((((w1.setCell ⟨b, 0, none⟩ x).setCell ⟨b, 1, none⟩ y).setCell ⟨b, 2, none⟩ z).setCell ⟨b, 3, none⟩ u).setCell ⟨b, 4, none⟩ v) := ((((h.setCell hb _).setCell hb _).setCell hb _).setCell hb _).setCell hb _

set_option maxRecDepth 100000 in
theorem tparts_any (p q r s : Int) (w : World) :
    Calls Tryz.prog 88 #[.agg #[.int .i64 p, .int .i64 q, .int .i64 r, .int .i64 s]] w fun e w' => e = .returned (.agg #[.int .i64 p, .int .i64 q, .int .i64 r, .int .i64 s]) ∧ Below w.heap.size w w' := by
  go_enter Tryz.func88, Tryz.ntmps88
  go_wp2
  exact bodyPost_ret (v := .agg #[.int .i64 p, .int .i64 q, .int .i64 r, .int .i64 s]) (by simp [results, Tryz.results88, go_sem]) rfl ⟨rfl, below2 _ _ _⟩

theorem equal_turn (a1 a2 a3 a4 b1 b2 b3 b4 : Int) (w : World) : (Op.equalIn 10000 31 (.agg #[.int .i64 a1, .int .i64 a2, .int .i64 a3, .int .i64 a4]) (.agg #[.int .i64 b1, .int .i64 b2, .int .i64 b3, .int .i64 b4])).run Tryz.prog w = .ok (eqT a1 a2 a3 a4 b1 b2 b3 b4) w := by
  have h := run_equalIn_struct (P := Tryz.prog) w 9999 31 #[.int .i64 a1, .int .i64 a2, .int .i64 a3, .int .i64 a4] #[.int .i64 b1, .int .i64 b2, .int .i64 b3, .int .i64 b4] (by kernel_rfl) (by kernel_rfl)
  refine h.trans ?_
  by_cases h1 : a1 = b1
  · by_cases h2 : a2 = b2
    · by_cases h3 : a3 = b3
      · by_cases h4 : a4 = b4
        · simp [go_sem, eqT, h1, h2, h3, h4]
        · simp [go_sem, eqT, h1, h2, h3, h4]
      · simp [go_sem, eqT, h1, h2, h3]
    · simp [go_sem, eqT, h1, h2]
  · simp [go_sem, eqT, h1]
theorem neq_turn (a1 a2 a3 a4 b1 b2 b3 b4 : Int) (w : World) : (binOp .neq 31 (.agg #[.int .i64 a1, .int .i64 a2, .int .i64 a3, .int .i64 a4]) (.agg #[.int .i64 b1, .int .i64 b2, .int .i64 b3, .int .i64 b4])).run Tryz.prog w = .ok (.bool (!eqT a1 a2 a3 a4 b1 b2 b3 b4)) w := by
  rw [run_neq_struct, equal_turn]; rfl
theorem eql_turn (a1 a2 a3 a4 b1 b2 b3 b4 : Int) (w : World) : (binOp .eql 31 (.agg #[.int .i64 a1, .int .i64 a2, .int .i64 a3, .int .i64 a4]) (.agg #[.int .i64 b1, .int .i64 b2, .int .i64 b3, .int .i64 b4])).run Tryz.prog w = .ok (.bool (eqT a1 a2 a3 a4 b1 b2 b3 b4)) w := by
  rw [run_eql_struct, equal_turn]; rfl

set_option maxRecDepth 100000 in
theorem twithin_any (m p q r s : Int) (w : World) (hm0 : 0 ≤ m) (hm : m ≤ 1000000) :
    Calls Tryz.prog 72 #[.agg #[.int .i64 p, .int .i64 q, .int .i64 r, .int .i64 s], .int .i64 m] w fun e w' => e = .returned (.bool (inT m p q r s)) ∧ Below w.heap.size w w' := by
  have i0 : ∀ w : World, (Instr.index 127 (.agg #[.int .i64 p, .int .i64 q, .int .i64 r, .int .i64 s]) (.int .i64 0)).run Tryz.prog w = .ok (.int .i64 p) w := fun _ => by kernel_rfl
  have i1 : ∀ w : World, (Instr.index 127 (.agg #[.int .i64 p, .int .i64 q, .int .i64 r, .int .i64 s]) (.int .i64 1)).run Tryz.prog w = .ok (.int .i64 q) w := fun _ => by kernel_rfl
  have i2 : ∀ w : World, (Instr.index 127 (.agg #[.int .i64 p, .int .i64 q, .int .i64 r, .int .i64 s]) (.int .i64 2)).run Tryz.prog w = .ok (.int .i64 r) w := fun _ => by kernel_rfl
  have i3 : ∀ w : World, (Instr.index 127 (.agg #[.int .i64 p, .int .i64 q, .int .i64 r, .int .i64 s]) (.int .i64 3)).run Tryz.prog w = .ok (.int .i64 s) w := fun _ => by kernel_rfl
  have hwr : wrap64 (-m) = -m := wrap_id (by omega) (by omega)
  go_enter Tryz.func72, Tryz.ntmps72
  go_wp2_with fail
  refine (tparts_any p q r s _).mono ?_
  rintro e w1 ⟨rfl, hB1⟩
  have hB : Below w.heap.size w w1 := below_call (below1 _ _) hB1
  clear hB1
  go_wp2_with fail
  go_loop [9] (fun i => ∃ k : Nat, k ≤ 4 ∧ i = .int .i64 k ∧ Hid (0 < k → inB m p = true) ∧ Hid (1 < k → inB m q = true) ∧ Hid (2 < k → inB m r = true) ∧ Hid (3 < k → inB m s = true)) (fun i => 4 - (intOf i).toNat)
  case atStart => exact ⟨0, Nat.zero_le _, rfl, hide (by omega), hide (by omega), hide (by omega), hide (by omega)⟩
  case round =>
    obtain ⟨k, hk, rfl, hx, hy, hz, hu⟩ := hrel
    have hk5 : k = 0 ∨ k = 1 ∨ k = 2 ∨ k = 3 ∨ k = 4 := by omega
    rcases hk5 with rfl | rfl | rfl | rfl | rfl
    · by_cases q1 : -m ≤ p
      · by_cases q2 : p ≤ m
        · have HI := hide (inB_iff.2 ⟨q1, q2⟩)
          go_wp2
          go_round
          case rel => exact ⟨1, by omega, rfl, hide (fun _ => unhide HI), hide (by omega), hide (by omega), hide (by omega)⟩
          case measure => simp [intOf]
        · have HO := hide (out1 (m := m) (x := p) (fun h => q2 h.2))
          go_wp2
          go_ret
          exact ⟨by simp [inT, unhide HO], hB⟩
      · have HO := hide (out1 (m := m) (x := p) (fun h => q1 h.1))
        go_wp2
        go_ret
        exact ⟨by simp [inT, unhide HO], hB⟩
    · by_cases q1 : -m ≤ q
      · by_cases q2 : q ≤ m
        · have HI := hide (inB_iff.2 ⟨q1, q2⟩)
          go_wp2
          go_round
          case rel => exact ⟨2, by omega, rfl, hide (fun _ => unhide hx (by omega)), hide (fun _ => unhide HI), hide (by omega), hide (by omega)⟩
          case measure => simp [intOf]
        · have HO := hide (out1 (m := m) (x := q) (fun h => q2 h.2))
          go_wp2
          go_ret
          exact ⟨by simp [inT, unhide HO], hB⟩
      · have HO := hide (out1 (m := m) (x := q) (fun h => q1 h.1))
        go_wp2
        go_ret
        exact ⟨by simp [inT, unhide HO], hB⟩
    · by_cases q1 : -m ≤ r
      · by_cases q2 : r ≤ m
        · have HI := hide (inB_iff.2 ⟨q1, q2⟩)
          go_wp2
          go_round
          case rel => exact ⟨3, by omega, rfl, hide (fun _ => unhide hx (by omega)), hide (fun _ => unhide hy (by omega)), hide (fun _ => unhide HI), hide (by omega)⟩
          case measure => simp [intOf]
        · have HO := hide (out1 (m := m) (x := r) (fun h => q2 h.2))
          go_wp2
          go_ret
          exact ⟨by simp [inT, unhide HO], hB⟩
      · have HO := hide (out1 (m := m) (x := r) (fun h => q1 h.1))
        go_wp2
        go_ret
        exact ⟨by simp [inT, unhide HO], hB⟩
    · by_cases q1 : -m ≤ s
      · by_cases q2 : s ≤ m
        · have HI := hide (inB_iff.2 ⟨q1, q2⟩)
          go_wp2
          go_round
          case rel => exact ⟨4, by omega, rfl, hide (fun _ => unhide hx (by omega)), hide (fun _ => unhide hy (by omega)), hide (fun _ => unhide hz (by omega)), hide (fun _ => unhide HI)⟩
          case measure => simp [intOf]
        · have HO := hide (out1 (m := m) (x := s) (fun h => q2 h.2))
          go_wp2
          go_ret
          exact ⟨by simp [inT, unhide HO], hB⟩
      · have HO := hide (out1 (m := m) (x := s) (fun h => q1 h.1))
        go_wp2
        go_ret
        exact ⟨by simp [inT, unhide HO], hB⟩
    · go_wp2
      go_ret
      exact ⟨by simp [inT, unhide hx (by omega), unhide hy (by omega), unhide hz (by omega), unhide hu (by omega)], hB⟩
end Go.Proofs.YtjdehbpgdplolaaGreatDoor

namespace Go.Proofs.YtjdehbpgdplolaaGreatDoor
open Go.RowKit
set_option linter.unusedVariables false

set_option maxRecDepth 100000 in
theorem l03Within_any (m a b c d : Int) (w : World) (hm0 : 0 ≤ m) (hm : m ≤ 1000000) :
    Calls Tryz.prog 61 #[.agg #[.int .i64 a, .int .i64 b, .int .i64 c, .int .i64 d], .int .i64 m] w fun e w' => e = .returned (.bool (inT m a b c d)) ∧ Below w.heap.size w w' := by
  have hwr : wrap64 (-m) = -m := wrap_id (by omega) (by omega)
  go_enter Tryz.func61, Tryz.ntmps61
  go_wp2_with fail
  refine (l02Is_any a (-m) m _).mono ?_
  rintro e w1 ⟨rfl, rfl⟩
  rw [isB]
  cases ha : inB m a
  · go_wp2_with fail
    go_ret
    exact ⟨by simp [inT, ha], below1 _ _⟩
  · go_wp2_with fail
    refine (l02Is_any b (-m) m _).mono ?_
    rintro e w1 ⟨rfl, rfl⟩
    rw [isB]
    cases hb : inB m b
    · go_wp2_with fail
      go_ret
      exact ⟨by simp [inT, hb], below1 _ _⟩
    · go_wp2_with fail
      refine (l02Is_any c (-m) m _).mono ?_
      rintro e w1 ⟨rfl, rfl⟩
      rw [isB]
      cases hc : inB m c
      · go_wp2_with fail
        go_ret
        exact ⟨by simp [inT, hc], below1 _ _⟩
      · go_wp2_with fail
        refine (l02Is_any d (-m) m _).mono ?_
        rintro e w1 ⟨rfl, rfl⟩
        rw [isB]
        go_wp2_with fail
        go_ret
        exact ⟨by simp [inT, ha, hb, hc], below1 _ _⟩

theorem fT_0 {a b c d : Int} (h : a ≠ 0) : fT a b c d = a := by unfold fT; rw [if_pos h]
theorem fT_1 {b c d : Int} (h : b ≠ 0) : fT 0 b c d = b := by unfold fT; rw [if_neg (by simp), if_pos h]
theorem fT_2 {c d : Int} (h : c ≠ 0) : fT 0 0 c d = c := by unfold fT; rw [if_neg (by simp), if_neg (by simp), if_pos h]
theorem fT_3 {d : Int} : fT 0 0 0 d = d := by unfold fT; rw [if_neg (by simp), if_neg (by simp), if_neg (by simp)]

set_option maxRecDepth 100000 in
theorem l03First_any (a b c d : Int) (w : World) :
    Calls Tryz.prog 62 #[.agg #[.int .i64 a, .int .i64 b, .int .i64 c, .int .i64 d]] w fun e w' => e = .returned (.int .i64 (fT a b c d)) ∧ Below w.heap.size w w' := by
  go_enter Tryz.func62, Tryz.ntmps62
  go_wp2_with fail
  go_loop [4] (fun i => ∃ k : Nat, k ≤ 4 ∧ i = .int .i64 k ∧ Hid (0 < k → a = 0) ∧ Hid (1 < k → b = 0) ∧ Hid (2 < k → c = 0) ∧ Hid (3 < k → d = 0)) (fun i => 4 - (intOf i).toNat)
  case atStart => exact ⟨0, Nat.zero_le _, rfl, hide (by omega), hide (by omega), hide (by omega), hide (by omega)⟩
  case round =>
    obtain ⟨k, hk, rfl, hx, hy, hz, hu⟩ := hrel
    have hk5 : k = 0 ∨ k = 1 ∨ k = 2 ∨ k = 3 ∨ k = 4 := by omega
    rcases hk5 with rfl | rfl | rfl | rfl | rfl
    · have _u := hk
      by_cases h : a = 0
      · subst h
        clear hx hy hz hu
        go_wp2
        go_round
        case rel => exact ⟨1, by omega, rfl, hide (by simp), hide (by omega), hide (by omega), hide (by omega)⟩
        case measure => simp [intOf]
      · have HF : Hid (fT a b c d = a) := hide (fT_0 h)
        clear hx hy hz hu
        go_wp2
        go_ret
        exact ⟨by rw [unhide HF]; rfl, below2 _ _ _⟩
    · have e0 := unhide hx (by omega)
      subst e0
      by_cases h : b = 0
      · subst h
        clear hx hy hz hu
        go_wp2
        go_round
        case rel => exact ⟨2, by omega, rfl, hide (by simp), hide (by simp), hide (by omega), hide (by omega)⟩
        case measure => simp [intOf]
      · have HF : Hid (fT 0 b c d = b) := hide (fT_1 h)
        clear hx hy hz hu
        go_wp2
        go_ret
        exact ⟨by rw [unhide HF]; rfl, below2 _ _ _⟩
    · have e0 := unhide hx (by omega)
      have e1 := unhide hy (by omega)
      subst e0 e1
      by_cases h : c = 0
      · subst h
        clear hx hy hz hu
        go_wp2
        go_round
        case rel => exact ⟨3, by omega, rfl, hide (by simp), hide (by simp), hide (by simp), hide (by omega)⟩
        case measure => simp [intOf]
      · have HF : Hid (fT 0 0 c d = c) := hide (fT_2 h)
        clear hx hy hz hu
        go_wp2
        go_ret
        exact ⟨by rw [unhide HF]; rfl, below2 _ _ _⟩
    · have e0 := unhide hx (by omega)
      have e1 := unhide hy (by omega)
      have e2 := unhide hz (by omega)
      subst e0 e1 e2
      by_cases h : d = 0
      · subst h
        clear hx hy hz hu
        go_wp2
        go_round
        case rel => exact ⟨4, by omega, rfl, hide (by simp), hide (by simp), hide (by simp), hide (by simp)⟩
        case measure => simp [intOf]
      · have HF : Hid (fT 0 0 0 d = d) := hide fT_3
        clear hx hy hz hu
        go_wp2
        go_ret
        exact ⟨by rw [unhide HF]; rfl, below2 _ _ _⟩
    · have e0 := unhide hx (by omega)
      have e1 := unhide hy (by omega)
      have e2 := unhide hz (by omega)
      have e3 := unhide hu (by omega)
      subst e0 e1 e2 e3
      clear hx hy hz hu
      go_wp2
      go_ret
      exact ⟨by rw [fT_3]; rfl, below2 _ _ _⟩

set_option maxRecDepth 100000 in
theorem l03Gcd_any (a b c d : Int) (w : World) (h : inT 1000 a b c d = true) :
    Calls Tryz.prog 63 #[.agg #[.int .i64 a, .int .i64 b, .int .i64 c, .int .i64 d]] w fun e w' => e = .returned (.int .i64 (gT a b c d)) ∧ Below w.heap.size w w' := by
  obtain ⟨ha, hb, hc, hd⟩ := inT_iff.1 h
  have hg1 := gcd_le ha hb
  have hg2 := gcd_le hc hd
  go_enter Tryz.func63, Tryz.ntmps63
  go_wp2_with fail
  go_quiet (first | (go_at_call_of 82 (Value.int IntKind.i64 a); refine Calls.quiet_of (l02Gcd_any a b _ (by omega) (by omega))) | (go_at_call_of 82 (Value.int IntKind.i64 c); refine Calls.quiet_of (l02Gcd_any c d _ (by omega) (by omega))) | (go_at_call 82; refine Calls.quiet_of (l02Gcd_any _ _ _ ?_ ?_) <;> omega))
  go_wp2
  go_ret
  exact ⟨rfl, below_call (below1 _ _) (below_drewN _ _)⟩

set_option maxRecDepth 100000 in
theorem specTRight_any (a b c d : Int) (w : World) :
    Calls Tryz.prog 38 #[.agg #[.int .i64 a, .int .i64 b, .int .i64 c, .int .i64 d]] w fun e w' => e = .returned (.bool (rightT a b c d)) ∧ Below w.heap.size w w' := by
  go_enter Tryz.func38, Tryz.ntmps38
  go_wp2_with fail
  refine (l03Within_any 5 a b c d _ (by omega) (by omega)).mono ?_
  rintro e w1 ⟨rfl, hB1⟩
  have va : TurnAt w1 w.heap.size a b c d := (turnAt_new w a b c d _).kept (by simp) hB1
  have hB : Below w.heap.size w w1 := below_call (below1 _ _) hB1
  clear hB1
  have hva := va
  obtain ⟨c0, c1, c2, c3⟩ := va
  cases h5 : inT 5 a b c d
  · go_wp2_with fail
    go_ret
    exact ⟨by simp [rightT, h5], hB⟩
  · go_wp2_with fail
    refine (l03First_any a b c d _).mono ?_
    rintro e w2 ⟨rfl, hB2⟩
    have va := hva.kept hva.lt hB2
    replace hB := below_call hB hB2
    clear hB2 hva c0 c1 c2 c3
    have hva := va
    obtain ⟨c0, c1, c2, c3⟩ := va
    by_cases hf : 0 < fT a b c d
    · go_wp2_with fail
      refine (l03Gcd_any a b c d _ (inT_mono h5 (by omega))).mono ?_
      rintro e w3 ⟨rfl, hB3⟩
      replace hB := below_call hB hB3
      go_wp2_with fail
      go_ret
      exact ⟨by rw [rightT, h5, decide_eq_true hf]; rfl, hB⟩
    · have HN := hide (decide_eq_false hf)
      go_wp2_with fail
      go_ret
      exact ⟨by rw [rightT, h5, unhide HN]; rfl, hB⟩

end Go.Proofs.YtjdehbpgdplolaaGreatDoor
