/- Several texts in one: SkyG, RowF, MarkS, RowR, ReadB, ReadC, Join, CrcWalks, Seal. -/
import Derived.OwnWalk
import Derived.Laws.OwnMore
import Derived.Test.YtnffnjljjecphaaDoorRows
import Derived.WalkKit
import Derived.WalkSpells
import Derived.WalkLawsBesides
import Derived.Test.YtnffnjljjecphaaDoorQCommandReadOwn9
import Derived.Test.YtnffnjljjecphaaDoorQCommandReadOwn3
import Derived.Test.YtnffnjljjecphaaDoorQCommandReadOwn10
import Derived.Test.YtnffnjljjecphaaDoorQCommandReadOwn2
namespace Go.Proofs.YtnffnjljjecphaaDoor
open Go.RowKit Go.Sort
set_option linter.unusedVariables false

/-- block b is a row of n stars, none frozen, of which the first k are L's -/
def OwnS (w : World) (b n : Nat) (L : List St) (k : Nat) : Prop := ∃ cur : Array Value, w.heap[b]? = some (.cells cur 131 (0, 0)) ∧ cur.size = n * 4 ∧
  ∀ j, j < k → cur[j * 4]? = some (.int .i64 (stA L j).1) ∧ cur[j * 4 + 1]? = some (.int .i64 (stA L j).2.1) ∧ cur[j * 4 + 2]? = some (.int .i64 (stA L j).2.2.1) ∧ cur[j * 4 + 3]? = some (.int .i64 (stA L j).2.2.2)
theorem OwnS.lt {w : World} {b n k : Nat} {L : List St} (h : OwnS w b n L k) : b < w.heap.size := by
  obtain ⟨cur, hc, _⟩ := h
  exact (Array.getElem?_eq_some_iff.1 hc).1
theorem OwnS.kept {w w' : World} {b n k : Nat} {L : List St} (h : OwnS w b n L k) (hB : Below w.heap.size w w') : OwnS w' b n L k := by
  have hl := h.lt
  obtain ⟨cur, hc, r⟩ := h
  exact ⟨cur, by rw [hB.block b hl]; exact hc, r⟩
theorem OwnS.stars {w : World} {b n k : Nat} {L : List St} (h : OwnS w b n L k) : Stars w (some ⟨b, 0, none⟩) L k := by
  have hl := h.lt
  obtain ⟨cur, hc, _, hs⟩ := h
  refine .inr ⟨b, 0, rfl, hl, fun i hi => ?_⟩
  obtain ⟨h0, h1, h2, h3⟩ := hs i hi
  rw [Nat.zero_add]
  exact ⟨by rw [cell_of_row w b _ cur _ _ hc]; exact h0, by rw [cell_of_row w b _ cur _ _ hc]; exact h1, by rw [cell_of_row w b _ cur _ _ hc]; exact h2, by rw [cell_of_row w b _ cur _ _ hc]; exact h3⟩
theorem OwnS.old {w : World} {b n k i : Nat} {L : List St} (h : OwnS w b n L k) (hi : i < n * 4) : ∃ v, w.cell? ⟨b, i, none⟩ = some v := by
  obtain ⟨cur, hc, hn, _⟩ := h
  rw [cell_of_row w b _ cur _ _ hc]
  exact ⟨cur[i], Array.getElem?_eq_getElem (by omega)⟩
theorem OwnS.free {w : World} {b n k : Nat} {L : List St} (h : OwnS w b n L k) (i : Nat) : w.frozen? ⟨b, i, none⟩ = false := by
  obtain ⟨cur, hc, _⟩ := h
  exact frozen_of_row w b i cur _ hc
def set4 (w : World) (b o : Nat) (s : St) : World := (((w.setCell ⟨b, o, none⟩ (.int .i64 s.1)).setCell ⟨b, o + 1, none⟩ (.int .i64 s.2.1)).setCell ⟨b, o + 2, none⟩ (.int .i64 s.2.2.1)).setCell ⟨b, o + 3, none⟩ (.int .i64 s.2.2.2)
theorem OwnS.step {w : World} {b n k : Nat} {L : List St} (h : OwnS w b n L k) (hk : k < n) : OwnS (set4 w b (k * 4) (stA L k)) b n L (k + 1) := by
  obtain ⟨cur, hc, hn, hs⟩ := h
  have e1 := heap_setCell_same w b (k * 4) cur _ (.int .i64 (stA L k).1) hc
  have e2 := heap_setCell_same _ b (k * 4 + 1) _ _ (.int .i64 (stA L k).2.1) e1
  have e3 := heap_setCell_same _ b (k * 4 + 2) _ _ (.int .i64 (stA L k).2.2.1) e2
  have e4 := heap_setCell_same _ b (k * 4 + 3) _ _ (.int .i64 (stA L k).2.2.2) e3
  refine ⟨_, e4, by simpa using hn, fun j hj => ?_⟩
  by_cases e : j = k
  · subst e
    refine ⟨?_, ?_, ?_, ?_⟩ <;> simp [Array.getElem?_setIfInBounds] <;> omega
  · obtain ⟨h0, h1, h2, h3⟩ := hs j (by omega)
    refine ⟨?_, ?_, ?_, ?_⟩
    · simp only [Array.getElem?_setIfInBounds]
      rw [if_neg (by omega), if_neg (by omega), if_neg (by omega), if_neg (by omega)]; exact h0
    · simp only [Array.getElem?_setIfInBounds]
      rw [if_neg (by omega), if_neg (by omega), if_neg (by omega), if_neg (by omega)]; exact h1
    · simp only [Array.getElem?_setIfInBounds]
      rw [if_neg (by omega), if_neg (by omega), if_neg (by omega), if_neg (by omega)]; exact h2
    · simp only [Array.getElem?_setIfInBounds]
      rw [if_neg (by omega), if_neg (by omega), if_neg (by omega), if_neg (by omega)]; exact h3
theorem belowSet4 {B : Nat} {w w1 : World} {b o : Nat} {s : St} (h : Below B w w1) (hb : B ≤ b) : Below B w (set4 w1 b o s) := (((h.setCell hb _).setCell hb _).setCell hb _).setCell hb _

theorem info_star : (Tryd.prog.info? 131).map (fun i => (i.zero, i.size, i.bytes)) = some (some (.agg #[.int .i64 0, .int .i64 0, .int .i64 0, .int .i64 0]), 4, 32) := by kernel_rfl
theorem own_made {w w' : World} {B b n : Nat} {L : List St} {xs : List Value} (h : w'.ownsRow B 131 4 (.slice (some ⟨b, 0, none⟩) n n) n xs) : OwnS w' b n L 0 := by
  rcases h.2 with ⟨h', _⟩ | ⟨g, cap, cur, hv, _, hg, _, _, hcs, _⟩
  · simp at h'
  · simp only [Value.slice.injEq, Option.some.injEq, Addr.mk.injEq, and_true, true_and] at hv
    obtain ⟨rfl, rfl⟩ := hv
    exact ⟨cur, hg, hcs, fun j hj => absurd hj (Nat.not_lt_zero _)⟩

theorem below_grownNone' {w w' : World} (h : w.grownBy w' none) : Below w.heap.size w w' := ⟨h.os, h.tape, h.output, h.size, fun k hk => h.block k hk (by simp)⟩

set_option maxHeartbeats 1000000 in
set_option maxRecDepth 100000 in
theorem toStarS_any (L : List St) (a : Option Addr) (c : Nat) (w : World) (hn : L.length ≤ 1048576) (hS : Stars w a L L.length) :
    Calls Tryd.prog 58 #[.slice a L.length c] w fun e w' => e = .returned (.slice (some ⟨w.heap.size, 0, none⟩) L.length L.length) ∧ OwnS w' w.heap.size L.length L L.length ∧ Below w.heap.size w w' := by
  obtain ⟨n, hnl⟩ : ∃ n, L.length = n := ⟨_, rfl⟩
  rw [hnl] at hn hS ⊢
  clear hnl
  have HS := hide hS
  clear hS
  obtain ⟨i0, hi, hz0, hz1, hz2⟩ := info_parts info_star
  go_enter Tryd.func58, Tryd.ntmps58
  go_wp2_with (at_make; refine wpList_make_full _ rfl _ _ 51 rfl w.heap.size 131 i0 (.agg #[.int .i64 0, .int .i64 0, .int .i64 0, .int .i64 0]) 4 Tryd.underlying51 hi hz0 hz1 .i64 .i64 _ _ n rfl rfl rfl rfl (by rw [hz2]; omega) (by unfold maxLen; omega) (Nat.le_refl _) ?_; intro w0 hown0 hgrow0)
  have H0 := hide (own_made (w := w) (L := L) hown0)
  have HB0 := hide (below_grownNone' hgrow0)
  clear hown0 hgrow0
  rcases unhide HS with rfl | ⟨b, o, rfl, hb, hc⟩
  · refine wp_loop_rounds 1 ?_
    rw [rounds_succ]
    go_wp2_with fail
    go_ret
    exact ⟨rfl, unhide H0, unhide HB0⟩
  have HC := hide hc
  clear hc
  go_loopw [4] (fun i wr => ∃ k : Nat, k ≤ n ∧ i = .int .i64 k ∧ Hid (OwnS wr w.heap.size n L k) ∧ Hid (Below w.heap.size w wr)) (fun i _ => n - (intOf i).toNat)
  case atStart => exact ⟨0, by omega, rfl, H0, HB0⟩
  case round =>
    obtain ⟨k, hk, rfl, HO, HB⟩ := hrel
    by_cases hkn : k < n
    · obtain ⟨⟨s1, s2, s3, s4⟩, hs⟩ : ∃ s, stA L k = s := ⟨_, rfl⟩
      have hst := ((unhide HC) k hkn).kept hb (unhide HB)
      rw [hs] at hst
      obtain ⟨c0, c1, c2, c3⟩ := hst
      have HT := hide hs
      clear hs
      go_wp2_with fail
      refine (toStar_any s1 s2 s3 s4 _).mono ?_
      rintro e w2 ⟨rfl, hx⟩
      clear c0 c1 c2 c3
      have O2 := hide ((unhide HO).kept hx)
      have B2 := hide (below_call (unhide HB) hx)
      clear hx
      obtain ⟨x0, e0⟩ := (unhide O2).old (i := k * 4) (by omega)
      obtain ⟨x1, e1⟩ := (unhide O2).old (i := k * 4 + 1) (by omega)
      obtain ⟨x2, e2⟩ := (unhide O2).old (i := k * 4 + 2) (by omega)
      obtain ⟨x3, e3⟩ := (unhide O2).old (i := k * 4 + 3) (by omega)
      have f0 := (unhide O2).free (k * 4)
      have f1 := (unhide O2).free (k * 4 + 1)
      have f2 := (unhide O2).free (k * 4 + 2)
      have f3 := (unhide O2).free (k * 4 + 3)
      have O3 := (unhide O2).step hkn
      rw [unhide HT] at O3
      have HO3 := hide O3
      have HB3 := hide (belowSet4 (o := k * 4) (s := (s1, s2, s3, s4)) (unhide B2) (Nat.le_refl _))
      clear O3
      go_wp2_with fail
      go_roundw
      case rel => exact ⟨k + 1, by omega, by go_num, HO3, HB3⟩
      case measure => simp [intOf]; omega
    · have hkn' : k = n := by omega
      subst hkn'
      go_wp2_with fail
      go_ret
      exact ⟨rfl, unhide HO, unhide HB⟩

set_option maxRecDepth 100000 in
theorem eqVec_same (x y z : Int) (w : World) :
    Calls Tryd.prog 75 #[.agg #[.int .i64 x, .int .i64 y, .int .i64 z], .agg #[.int .i64 x, .int .i64 y, .int .i64 z]] w fun e w' => e = .returned (.bool true) ∧ Below w.heap.size w w' := by
  go_enter Tryd.func75, Tryd.ntmps75
  go_wp2
  go_ret
  exact ⟨rfl, below2 _ _ _⟩
set_option maxRecDepth 100000 in
theorem eqStar_same (i x y z : Int) (w : World) :
    Calls Tryd.prog 94 #[.agg #[.int .i64 i, .int .i64 x, .int .i64 y, .int .i64 z], .agg #[.int .i64 i, .int .i64 x, .int .i64 y, .int .i64 z]] w fun e w' => e = .returned (.bool true) ∧ Below w.heap.size w w' := by
  go_enter Tryd.func94, Tryd.ntmps94
  go_wp2_with fail
  refine (eqVec_same x y z _).mono ?_
  rintro e w1 ⟨rfl, hx⟩
  go_wp2_with fail
  go_ret
  exact ⟨rfl, below_call (below2 _ _ _) hx⟩
set_option maxHeartbeats 1000000 in
set_option maxRecDepth 100000 in
theorem eqStarS_same (L : List St) (n : Nat) (a a' : Option Addr) (c c' : Nat) (w : World) (hn : n ≤ 1048576) (hS : Stars w a L n) (hS' : Stars w a' L n) :
    Calls Tryd.prog 61 #[.slice a n c, .slice a' n c'] w fun e w' => e = .returned (.bool true) ∧ Below w.heap.size w w' := by
  rcases hS with rfl | ⟨b, o, rfl, hb, hc⟩
  · clear hS'
    go_enter Tryd.func61, Tryd.ntmps61
    go_wp2_with fail
    refine wp_loop_rounds 1 ?_
    rw [rounds_succ]
    go_wp2_with fail
    go_ret
    exact ⟨rfl, Below.refl _ _⟩
  rcases hS' with rfl | ⟨b', o', rfl, hb', hc'⟩
  · clear hc
    go_enter Tryd.func61, Tryd.ntmps61
    go_wp2_with fail
    refine wp_loop_rounds 1 ?_
    rw [rounds_succ]
    go_wp2_with fail
    go_ret
    exact ⟨rfl, Below.refl _ _⟩
  have HC := hide hc
  have HC' := hide hc'
  clear hc hc'
  go_enter Tryd.func61, Tryd.ntmps61
  go_wp2_with fail
  go_loopw [5] (fun i wr => ∃ k : Nat, k ≤ n ∧ i = .int .i64 k ∧ Hid (Below w.heap.size w wr)) (fun i _ => n - (intOf i).toNat)
  case atStart => exact ⟨0, by omega, rfl, hide (Below.refl _ _)⟩
  case round =>
    obtain ⟨k, hk, rfl, HB⟩ := hrel
    by_cases hkn : k < n
    · obtain ⟨⟨s1, s2, s3, s4⟩, hs⟩ : ∃ s, stA L k = s := ⟨_, rfl⟩
      have hst := ((unhide HC) k hkn).kept hb (unhide HB)
      have hst' := ((unhide HC') k hkn).kept hb' (unhide HB)
      rw [hs] at hst hst'
      obtain ⟨c0, c1, c2, c3⟩ := hst
      obtain ⟨d0, d1, d2, d3⟩ := hst'
      have r0 := cell_regrown c0
      have r1 := cell_regrown c1
      have r2 := cell_regrown c2
      have r3 := cell_regrown c3
      have t0 := cell_regrown d0
      have t1 := cell_regrown d1
      have t2 := cell_regrown d2
      have t3 := cell_regrown d3
      clear c0 c1 c2 c3 d0 d1 d2 d3 hs
      have hkn2 : (k : Int) < (n : Int) := by omega
      have cE := hide (fun W => eqStar_same s1 s2 s3 s4 W)
      go_wp2_with fail
      refine wp_region_quiet_below (by kernel_rfl) (by kernel_rfl) ?_
      repeat (go_big_quiet_step (first | (with_reducible exact Calls.regrown_of (unhide cE _))))
      refine wpQuiet_nil ?_
      intro _ hw'
      obtain ⟨⟨dq, osq⟩, hw''⟩ := hw'
      subst hw''
      have hx := below_call (unhide HB) (below_regrown wr dq osq)
      generalize grow (redrawn wr dq) osq = W2 at hx ⊢
      have HB2 := hide hx
      clear hx r0 r1 r2 r3 t0 t1 t2 t3 cE HB
      go_wp2_with fail
      go_roundw
      case rel => exact ⟨k + 1, by omega, by go_num, HB2⟩
      case measure => simp [intOf]; omega
    · have hkn' : k = n := by omega
      subst hkn'
      go_wp2_with fail
      go_ret
      exact ⟨rfl, unhide HB⟩
end Go.Proofs.YtnffnjljjecphaaDoor

namespace Go.Proofs.YtnffnjljjecphaaDoor
open Go.RowKit
set_option linter.unusedVariables false

/-- block g is a row of cells of type t, none frozen, whose first m are the numbers f -/
def RowAt (w : World) (t : TypeId) (g m : Nat) (f : Nat → Int) : Prop := ∃ cur : Array Value, w.heap[g]? = some (.cells cur t (0, 0)) ∧ ∀ j, j < m → cur[j]? = some (.int .i64 (f j))
theorem RowAt.lt {w : World} {t : TypeId} {g m : Nat} {f : Nat → Int} (h : RowAt w t g m f) : g < w.heap.size := by
  obtain ⟨cur, hc, _⟩ := h
  exact (Array.getElem?_eq_some_iff.1 hc).1
theorem RowAt.same {w w' : World} {t : TypeId} {g m : Nat} {f : Nat → Int} (h : RowAt w t g m f) (e : w'.heap[g]? = w.heap[g]?) : RowAt w' t g m f := by
  obtain ⟨cur, hc, hs⟩ := h
  exact ⟨cur, by rw [e]; exact hc, hs⟩
theorem RowAt.kept {w w' : World} {t : TypeId} {g m : Nat} {f : Nat → Int} (h : RowAt w t g m f) (hB : Below w.heap.size w w') : RowAt w' t g m f := h.same (hB.block g h.lt)
theorem RowAt.congr {w : World} {t : TypeId} {g m : Nat} {f f' : Nat → Int} (h : RowAt w t g m f) (e : ∀ j, j < m → f j = f' j) : RowAt w t g m f' := by
  obtain ⟨cur, hc, hs⟩ := h
  exact ⟨cur, hc, fun j hj => by rw [hs j hj, e j hj]⟩
theorem RowAt.cell {w : World} {t : TypeId} {g m j : Nat} {f : Nat → Int} (h : RowAt w t g m f) (hj : j < m) : w.cell? ⟨g, j, none⟩ = some (.int .i64 (f j)) := by
  obtain ⟨cur, hc, hs⟩ := h
  rw [cell_of_row w g j cur t _ hc]
  exact hs j hj
theorem RowAt.free {w : World} {t : TypeId} {g m : Nat} {f : Nat → Int} (h : RowAt w t g m f) (j : Nat) : w.frozen? ⟨g, j, none⟩ = false := by
  obtain ⟨cur, hc, _⟩ := h
  exact frozen_of_row w g j cur t hc
theorem RowAt.set {w : World} {t : TypeId} {g m : Nat} {f : Nat → Int} (h : RowAt w t g m f) (i : Nat) (v : Int) : RowAt (w.setCell ⟨g, i, none⟩ (.int .i64 v)) t g m (fun j => if j = i then v else f j) := by
  obtain ⟨cur, hc, hs⟩ := h
  refine ⟨_, heap_setCell_same w g i cur t (.int .i64 v) hc, fun j hj => ?_⟩
  have := hs j hj
  rw [Array.getElem?_setIfInBounds]
  by_cases e : i = j
  · subst e
    simp [(Array.getElem?_eq_some_iff.1 this).1]
  · have e' : ¬ j = i := fun h => e (Eq.symm h)
    simp [e, e', this]
theorem grownRefl (w : World) (row : Option Nat) : w.grownBy w row := ⟨rfl, rfl, rfl, Nat.le_refl _, fun _ _ _ => rfl⟩
theorem grownSet {w w1 : World} {g : Nat} (h : w.grownBy w1 (some g)) (i : Nat) (v : Value) : w.grownBy (w1.setCell ⟨g, i, none⟩ v) (some g) :=
  ⟨h.os, h.tape, h.output, by simpa [World.setCell] using h.size, fun k hk hne => by rw [Below.heap_setCell _ _ _ _ (fun e => hne (by rw [e]))]; exact h.block k hk hne⟩
/-- what was written lies from B on: below it nothing has turned -/
theorem grownBelow {B : Nat} {w w1 w2 : World} {g : Nat} (h : Below B w w1) (hB : B ≤ w1.heap.size) (hg : w1.grownBy w2 (some g)) (hb : B ≤ g) : Below B w w2 :=
  h.trans ⟨hg.os, hg.tape, hg.output, hg.size, fun k hk => hg.block k (by omega) (fun e => by have := Option.some.inj e; omega)⟩
theorem grownB {w w1 : World} {b : Nat} (h : Below w.heap.size w w1) : w.grownBy w1 (some b) := ⟨h.os, h.tape, h.output, h.size, fun k hk _ => h.block k hk⟩
theorem grownTr {a b c : World} {row : Option Nat} (h : a.grownBy b row) (k : b.grownBy c row) : a.grownBy c row :=
  ⟨k.os.trans h.os, k.tape.trans h.tape, k.output.trans h.output, Nat.le_trans h.size k.size, fun i hi hn => (k.block i (Nat.lt_of_lt_of_le hi h.size) hn).trans (h.block i hi hn)⟩
end Go.Proofs.YtnffnjljjecphaaDoor

namespace Go.Proofs.YtnffnjljjecphaaDoor
open Go.RowKit
set_option linter.unusedVariables false
end Go.Proofs.YtnffnjljjecphaaDoor

namespace Go.Proofs.YtnffnjljjecphaaDoor
open Go.RowKit Go.Sort
set_option linter.unusedVariables false

def OwnR (w : World) (a : Option Addr) (n : Nat) (row : Option Nat) : Prop := (n = 0 ∧ row = none) ∨ ∃ g f, a = some ⟨g, 0, none⟩ ∧ row = some g ∧ RowAt w 131 g (n * 4) f
def Mkd (w : World) (a : Option Addr) (n : Nat) (row : Option Nat) : Prop := (n = 0 ∧ row = none) ∨ ∃ g, a = some ⟨g, 0, none⟩ ∧ row = some g ∧ RowAt w 131 g (n * 4) (fun j => 1 + (j : Int))
theorem OwnR.kept {w w' : World} {a : Option Addr} {n : Nat} {row : Option Nat} (h : OwnR w a n row) (hB : Below w.heap.size w w') : OwnR w' a n row := by
  rcases h with h | ⟨g, f, h1, h2, h3⟩
  · exact .inl h
  · exact .inr ⟨g, f, h1, h2, h3.kept hB⟩
theorem Mkd.kept {w w' : World} {a : Option Addr} {n : Nat} {row : Option Nat} (h : Mkd w a n row) (hB : Below w.heap.size w w') : Mkd w' a n row := by
  rcases h with h | ⟨g, h1, h2, h3⟩
  · exact .inl h
  · exact .inr ⟨g, h1, h2, h3.kept hB⟩
theorem OwnR.lt {w : World} {a : Option Addr} {n : Nat} {row : Option Nat} (h : OwnR w a n row) {g : Nat} (e : row = some g) : g < w.heap.size := by
  rcases h with ⟨_, h⟩ | ⟨g', f, h1, h2, h3⟩
  · rw [h] at e; cases e
  · rw [h2] at e; obtain rfl := Option.some.inj e; exact h3.lt
theorem belowR {B : Nat} {w w1 w2 : World} {row : Option Nat} (h : Below B w w1) (hg : w1.grownBy w2 row) (hB : B ≤ w1.heap.size) (hr : ∀ g, row = some g → B ≤ g) : Below B w w2 :=
  h.trans ⟨hg.os, hg.tape, hg.output, hg.size, fun k hk => hg.block k (by omega) (fun e => by have := hr k e.symm; omega)⟩
def flatSt (L : List St) : List Value := L.flatMap stC
theorem flatSt_len (L : List St) : (flatSt L).length = L.length * 4 := by
  unfold flatSt
  induction L with
  | nil => rfl
  | cons x l ih => simp [List.flatMap_cons, stC] at *; omega
theorem flatSt_at (L : List St) : ∀ (i : Nat), i < L.length → (flatSt L)[i * 4]? = some (.int .i64 (stA L i).1) ∧ (flatSt L)[i * 4 + 1]? = some (.int .i64 (stA L i).2.1) ∧ (flatSt L)[i * 4 + 2]? = some (.int .i64 (stA L i).2.2.1) ∧ (flatSt L)[i * 4 + 3]? = some (.int .i64 (stA L i).2.2.2) := by
  induction L with
  | nil => intro i hi; simp at hi
  | cons x l ih =>
    intro i hi
    match i with
    | 0 => exact ⟨rfl, rfl, rfl, rfl⟩
    | i + 1 =>
      have h := ih i (by simpa using hi)
      have e : ∀ r, (flatSt (x :: l))[(i + 1) * 4 + r]? = (flatSt l)[i * 4 + r]? := fun r => by
        rw [show (i + 1) * 4 + r = (i * 4 + r) + 4 by omega]
        rfl
      have e2 : stA (x :: l) (i + 1) = stA l i := rfl
      rw [e2]
      exact ⟨by have := e 0; simp only [Nat.add_zero] at this; rw [this]; exact h.1, by rw [e 1]; exact h.2.1, by rw [e 2]; exact h.2.2.1, by rw [e 3]; exact h.2.2.2⟩
/-- a row that is owned holds its stars -/
theorem own_stars {w : World} {B : Nat} {v : Value} {L : List St} (h : w.ownsRow B 131 4 v L.length (flatSt L)) : ∃ a cap, v = .slice a L.length cap ∧ L.length ≤ cap ∧ cap ≤ maxLen ∧ Stars w a L L.length := by
  rcases h.2 with ⟨h1, h0⟩ | ⟨g, cap, cur, hv, hb, hg, hnc, hcm, hcs, htake⟩
  · exact ⟨none, 0, by rw [h1, h0], by omega, Nat.zero_le _, .inl h0⟩
  · refine ⟨_, cap, hv, hnc, hcm, .inr ⟨g, 0, rfl, (Array.getElem?_eq_some_iff.1 hg).1, fun i hi => ?_⟩⟩
    have hc : ∀ j, j < L.length * 4 → w.cell? ⟨g, j, none⟩ = (flatSt L)[j]? := fun j hj => by
      rw [cell_of_row w g j cur _ _ hg, ← htake, List.getElem?_take, if_pos hj]
      simp
    obtain ⟨e0, e1, e2, e3⟩ := flatSt_at L i hi
    rw [Nat.zero_add]
    exact ⟨by rw [hc _ (by omega)]; exact e0, by rw [hc _ (by omega)]; exact e1, by rw [hc _ (by omega)]; exact e2, by rw [hc _ (by omega)]; exact e3⟩
theorem flatSt_int (L : List St) (j : Nat) (hj : j < L.length * 4) : ∃ z, (flatSt L)[j]? = some (.int .i64 z) := by
  obtain ⟨e0, e1, e2, e3⟩ := flatSt_at L (j / 4) (by omega)
  have h : j = j / 4 * 4 ∨ j = j / 4 * 4 + 1 ∨ j = j / 4 * 4 + 2 ∨ j = j / 4 * 4 + 3 := by omega
  rcases h with h | h | h | h
  · rw [h]; exact ⟨_, e0⟩
  · rw [h]; exact ⟨_, e1⟩
  · rw [h]; exact ⟨_, e2⟩
  · rw [h]; exact ⟨_, e3⟩
theorem own_row {w : World} {B : Nat} {v : Value} {L : List St} {a : Option Addr} {cap : Nat} (h : w.ownsRow B 131 4 v L.length (flatSt L)) (hv : v = .slice a L.length cap) : ∃ row, OwnR w a L.length row ∧ ∀ g, row = some g → B ≤ g := by
  rcases h.2 with ⟨h1, h0⟩ | ⟨g, cap', cur, hv', hb, hg, hnc, hcm, hcs, htake⟩
  · exact ⟨none, .inl ⟨h0, rfl⟩, fun g e => by cases e⟩
  · rw [hv] at hv'
    injection hv' with e1 e2 e3
    refine ⟨some g, .inr ⟨g, fun j => if h : j < L.length * 4 then Classical.choose (flatSt_int L j h) else 0, e1, rfl, cur, hg, fun j hj => ?_⟩, fun g' e => by obtain rfl := Option.some.inj e; exact hb⟩
    have e4 : cur[j]? = (flatSt L)[j]? := by
      rw [← htake, List.getElem?_take, if_pos hj]
      simp
    rw [e4]
    simp only [hj, dif_pos]
    exact Classical.choose_spec (flatSt_int L j hj)
end Go.Proofs.YtnffnjljjecphaaDoor

namespace Go.Proofs.YtnffnjljjecphaaDoor
open Go.RowKit
set_option linter.unusedVariables false

def readTo (s : ByteArray) (p : Nat) : Nat → Option (List St × Nat)
  | 0 => some ([], p)
  | k + 1 => match readTo s p k with
    | none => none
    | some (L, q) => match read4 s q with
      | none => none
      | some (x, q') => some (L ++ [x], q')
def readAll (s : ByteArray) : Option (List St × Nat) := match scanN s 0 with
  | none => none
  | some (n, p) => if n < 0 ∨ 12 < n then none else readTo s p n.toNat
theorem readTo_none {s : ByteArray} {p k : Nat} (h : readTo s p k = none) : ∀ m, readTo s p (k + m) = none
  | 0 => h
  | m + 1 => by show (match readTo s p (k + m) with | none => none | some (L, q) => _) = none; rw [readTo_none h m]
theorem readTo_stop {s : ByteArray} {p k n : Nat} (h : readTo s p (k + 1) = none) (hk : k < n) : readTo s p n = none := by
  have := readTo_none h (n - (k + 1))
  rwa [show k + 1 + (n - (k + 1)) = n by omega] at this
theorem read4_le {s : ByteArray} {p q : Nat} {x : St} (h : read4 s p = some (x, q)) : p < q ∧ q ≤ s.size := by
  unfold read4 at h
  split at h
  · cases h
  · rename_i a p1 h1
    split at h
    · cases h
    · rename_i b p2 h2
      split at h
      · cases h
      · rename_i c p3 h3
        split at h
        · cases h
        · rename_i d p4 h4
          have e1 := scanN_le h1
          have e2 := scanN_le h2
          have e3 := scanN_le h3
          have e4 := scanN_le h4
          simp at h
          omega
theorem readTo_le {s : ByteArray} {p : Nat} (hp : p ≤ s.size) : ∀ (k : Nat) {L : List St} {q : Nat}, readTo s p k = some (L, q) → q ≤ s.size ∧ L.length = k
  | 0, L, q, h => by simp [readTo] at h; obtain ⟨rfl, rfl⟩ := h; exact ⟨hp, rfl⟩
  | k + 1, L, q, h => by
    unfold readTo at h
    split at h
    · cases h
    · rename_i L' q' h'
      split at h
      · cases h
      · rename_i x q2 h2
        have e1 := readTo_le hp k h'
        have e2 := read4_le h2
        simp at h
        obtain ⟨rfl, rfl⟩ := h
        exact ⟨e2.2, by simp [e1.2]⟩
end Go.Proofs.YtnffnjljjecphaaDoor

namespace Go.Proofs.YtnffnjljjecphaaDoor
open Go.RowKit
set_option linter.unusedVariables false

def goodL (s : ByteArray) : Option (List St) := match readAll s with
  | none => none
  | some (L, q) => if q = s.size ∧ skyB L = true then some L else none
def skyRes (B : Nat) (r : Option (List St)) (e : Ending) (w' : World) : Prop := match r with
  | none => ∃ v why, e = .returned (.tuple #[v, faultA why])
  | some L => ∃ v, e = .returned (.tuple #[v, .nilIface]) ∧ w'.ownsRow B 131 4 v L.length (flatSt L)
theorem flatSt_snoc (L : List St) (x : St) : flatSt (L ++ [x]) = flatSt L ++ stC x := by
  unfold flatSt
  rw [List.flatMap_append]
  simp [List.flatMap_cons]
theorem cells4_new (w : World) (s1 s2 s3 s4 : Int) (t : TypeId) : ∀ (j : Nat) (u : Value), [Value.int .i64 s1, Value.int .i64 s2, Value.int .i64 s3, Value.int .i64 s4][j]? = some u → (w.alloc (.cells #[.int .i64 s1, .int .i64 s2, .int .i64 s3, .int .i64 s4] t)).cell? ((⟨w.heap.size, 0, none⟩ : Addr).add j) = some u := by
  intro j u hj
  match j, hj with
  | 0, hj => simp at hj; subst hj; simp [Addr.add]
  | 1, hj => simp at hj; subst hj; simp [Addr.add]
  | 2, hj => simp at hj; subst hj; simp [Addr.add]
  | 3, hj => simp at hj; subst hj; simp [Addr.add]
  | j + 4, hj => simp at hj
theorem ownKept' {w w' : World} {B : Nat} {t : TypeId} {v : Value} {n m : Nat} {xs : List Value} (h : w.ownsRow B t m v n xs) (hB : Below w.heap.size w w') : w'.ownsRow B t m v n xs :=
  h.kept (row := none) ⟨hB.os, hB.tape, hB.output, hB.size, fun k hk _ => hB.block k hk⟩ (by cases hv : v.ownBlock <;> simp)
theorem grownOwn' {B : Nat} {w w1 w2 : World} {v : Value} {t : TypeId} {n m : Nat} {xs : List Value} (h : Below B w w1) (ho : w1.ownsRow B t m v n xs) (hg : w1.grownBy w2 v.ownBlock) (hB : B ≤ w1.heap.size) : Below B w w2 :=
  h.trans ⟨hg.os, hg.tape, hg.output, hg.size, fun k hk => hg.block k (by omega) (fun e => by have := (ho.lt k e.symm).1; omega)⟩

end Go.Proofs.YtnffnjljjecphaaDoor

namespace Go.Proofs.YtnffnjljjecphaaDoor
open Go.RowKit

theorem joinTexts_empty (a : ByteArray) (w : World) (ha : a.size ≤ 100000) :
    Calls Tryd.prog 44 #[.string a, .string ByteArray.empty] w fun e w' => e = .returned (.string a) ∧ Below w.heap.size w w' := by
  obtain ⟨M, hM, hmk⟩ := mkBytes a.size (by omega)
  have hinfo : (Tryd.prog.info? 5).map (·.size) = some 1 := by kernel_rfl
  have hcp := Lib.run_copy_row_string (P := Tryd.prog) (w.alloc (.cells M 5)) 116 9 3 5 w.heap.size 0 a.size a.size a M 5 Tryd.underlying116 hinfo (heap_alloc_new w _) (by omega) (by omega)
  rw [setRow_alloc] at hcp
  obtain ⟨Y1, hY1⟩ : ∃ Y, Y = (M.toList.take 0 ++ Lib.byteCells a.data.toList ++ M.toList.drop (0 + a.size)).toArray := ⟨_, rfl⟩
  rw [← hY1] at hcp
  have hY1l : Y1.toList = Lib.byteCells a.data.toList := by rw [hY1]; simp [← hM]
  have hcp2 : ∀ d dLen dCap W, (Builtin.copy_ #[116, 9] 3 #[.slice d dLen dCap, .string ByteArray.empty]).run Tryd.prog W = .ok (goInt 0) W := fun d dLen dCap W => Lib.run_copy_empty_string W 116 9 3 5 d dLen dCap ByteArray.empty Tryd.underlying116 (by rw [hinfo]; rfl) rfl
  have hcv := convBytes w 5 Y1 a hY1l a.size
  clear hY1 hY1l hinfo hM
  go_enter Tryd.func44, Tryd.ntmps44
  go_wp2
  go_ret
  exact ⟨rfl, (Below.refl _ _).alloc (Nat.le_refl _) _⟩

theorem joinTexts_any (a b : ByteArray) (w : World) (ha : a.size ≤ 100000) (hb : b.size ≤ 100000) :
    Calls Tryd.prog 44 #[.string a, .string b] w fun e w' => e = .returned (.string (a ++ b)) ∧ Below w.heap.size w w' := by
  obtain ⟨M, hM, hmk0⟩ := mkBytes (a.size + b.size) (by omega)
  have hmk : ∀ W : World, (Instr.makeSlice 116 (.int .i64 ((a.size : Int) + (b.size : Int))) (.int .i64 ((a.size : Int) + (b.size : Int)))).run Tryd.prog W = .ok (.slice (some ⟨W.heap.size, 0, none⟩) (a.size + b.size) (a.size + b.size)) (W.alloc (.cells M 5)) := fun W => by have := hmk0 W; simpa using this
  clear hmk0
  have hinfo : (Tryd.prog.info? 5).map (·.size) = some 1 := by kernel_rfl
  have hcp := Lib.run_copy_row_string (P := Tryd.prog) (w.alloc (.cells M 5)) 116 9 3 5 w.heap.size 0 (a.size + b.size) (a.size + b.size) a M 5 Tryd.underlying116 hinfo (heap_alloc_new w _) (by omega) (by omega)
  rw [setRow_alloc] at hcp
  obtain ⟨Y1, hY1⟩ : ∃ Y, Y = (M.toList.take 0 ++ Lib.byteCells a.data.toList ++ M.toList.drop (0 + a.size)).toArray := ⟨_, rfl⟩
  rw [← hY1] at hcp
  have hla : (Lib.byteCells a.data.toList).length = a.size := by rw [Lib.byteCells_length, ← Lib.size_eq]
  have hlb : (Lib.byteCells b.data.toList).length = b.size := by rw [Lib.byteCells_length, ← Lib.size_eq]
  have hY1l : Y1.toList = Lib.byteCells a.data.toList ++ M.toList.drop a.size := by rw [hY1]; simp
  have hY1s : Y1.size = a.size + b.size := by rw [← Array.length_toList, hY1l]; simp [hla, hM]
  have hab : (a ++ b).data.toList = a.data.toList ++ b.data.toList := by simp
  have hs : (a ++ b).size = a.size + b.size := by simp
  clear hY1
  by_cases h0 : b = ByteArray.empty
  · subst h0
    refine (joinTexts_empty a w ha).mono ?_
    rintro e w' ⟨rfl, hw⟩
    exact ⟨by rw [append_empty], hw⟩
  · have hpos : 0 < b.size := by
      rcases Nat.eq_zero_or_pos b.size with h | h
      · exact absurd (ByteArray.ext (Array.eq_empty_of_size_eq_zero h)) h0
      · exact h
    have hcp2 := Lib.run_copy_row_string (P := Tryd.prog) (w.alloc (.cells Y1 5)) 116 9 3 5 w.heap.size a.size b.size b.size b Y1 5 Tryd.underlying116 hinfo (heap_alloc_new w _) (by omega) (by omega)
    rw [setRow_alloc] at hcp2
    obtain ⟨Y2, hY2⟩ : ∃ Y, Y = (Y1.toList.take a.size ++ Lib.byteCells b.data.toList ++ Y1.toList.drop (a.size + b.size)).toArray := ⟨_, rfl⟩
    rw [← hY2] at hcp2
    have hY2l : Y2.toList = Lib.byteCells (a ++ b).data.toList := by
      rw [hY2, hab, hY1l]
      rw [List.take_left' hla, List.drop_of_length_le (by simp [hla, hM])]
      simp [Lib.byteCells]
    have hcv := convBytes w 5 Y2 (a ++ b) hY2l (a.size + b.size)
    rw [hs] at hcv
    clear hY2 hY2l hab hs hY1l hla hlb
    go_enter Tryd.func44, Tryd.ntmps44
    go_wp2
    go_ret
    exact ⟨rfl, (Below.refl _ _).alloc (Nat.le_refl _) _⟩
end Go.Proofs.YtnffnjljjecphaaDoor

namespace Go.Proofs.YtnffnjljjecphaaDoor
open Go.RowKit

set_option maxHeartbeats 400000 in
theorem crcByte_any (r b : Nat) (w : World) (hr : r < 4294967296) (hb : b < 256) :
    Calls Tryd.prog 116 #[.int .u32 (r : Int), .int .u8 (b : Int)] w fun e w' => e = .returned (.int .u32 (byteCrc r b : Nat)) ∧ w' = w := by
  have H8 := hide (implN_8 r b hb)
  go_enter Tryd.func116, Tryd.ntmps116
  go_wp2
  go_loop [0, 5] (fun t i => ∃ k : Nat, k ≤ 8 ∧ i = .int .i64 k ∧ t = .int .u32 (implN k r b : Nat)) (fun _ i => 8 - (intOf i).toNat)
  case atStart => exact ⟨0, by omega, rfl, rfl⟩
  case round =>
    obtain ⟨k, hk, rfl, rfl⟩ := hrel
    have hx := implN_lt k b hr
    by_cases hlt : k < 8
    · have ho := odd_u32 (implN k r b) b k hx hb
      by_cases hp : (implN k r b ^^^ (b / 2 ^ k)) % 2 = 1
      · have hw : (bits .and .u32 (bits .xor .u32 (implN k r b : Int) ((b : Int) / 2 ^ k % 4294967296)) 1 == 1) = true := by rw [ho, hp]; rfl
        have hxr := u32_xor_nat (implN k r b / 2) 3988292384 (by omega) (by omega)
        have HN := hide (show implN (k + 1) r b = (implN k r b / 2) ^^^ 3988292384 by rw [implN, if_pos hp])
        have HX := hide hxr
        clear hxr hp ho
        generalize implN k r b = x at *
        go_wp2
        go_round
        case rel => exact ⟨k + 1, by omega, by go_num, by rw [unhide HN, ← unhide HX]; rfl⟩
        case measure => simp [intOf]; omega
      · have hw : (bits .and .u32 (bits .xor .u32 (implN k r b : Int) ((b : Int) / 2 ^ k % 4294967296)) 1 == 1) = false := by rw [ho]; simp; omega
        have HN := hide (show implN (k + 1) r b = implN k r b / 2 by rw [implN, if_neg hp])
        clear hp ho
        generalize implN k r b = x at *
        go_wp2
        go_round
        case rel => exact ⟨k + 1, by omega, by go_num, by rw [unhide HN]; rfl⟩
        case measure => simp [intOf]; omega
    · go_wp2
      go_ret
      have e : k = 8 := by omega
      subst e
      exact ⟨by rw [← unhide H8]; rfl, rfl⟩

set_option maxHeartbeats 1000000 in
theorem l01Crc_any (c : Nat) (s : ByteArray) (w : World) (hc : c < 4294967296) (hs : s.size ≤ 8000) :
    Calls Tryd.prog 78 #[.int .i64 (c : Int), .string s] w fun e w' => e = .returned (.int .i64 (crcOf c s : Nat)) ∧ w' = w := by
  go_enter Tryd.func78, Tryd.ntmps78
  go_wp2
  go_loop [5, 6] (fun t i => ∃ k : Nat, k ≤ s.size ∧ i = .int .i64 k ∧ t = .int .u32 (crcTo s (c ^^^ 4294967295) k : Nat)) (fun _ i => s.size - (intOf i).toNat)
  case atStart => exact ⟨0, by omega, rfl, by rw [show (crcTo s (c ^^^ 4294967295) 0 : Nat) = c ^^^ 4294967295 from rfl]; exact congrArg (Value.int IntKind.u32) (u32_xor_nat c 4294967295 hc (by omega))⟩
  case round =>
    obtain ⟨k, hk, rfl, rfl⟩ := hrel
    have hx := crcTo_lt s (xor_lt32 hc (by omega) : c ^^^ 4294967295 < 4294967296) k
    by_cases hlt : k < s.size
    · have HS := hide (show crcTo s (c ^^^ 4294967295) (k + 1) = byteCrc (crcTo s (c ^^^ 4294967295) k) s[k].toNat by rw [crcTo, byteN_lt hlt])
      generalize crcTo s (c ^^^ 4294967295) k = x at *
      have hb : s[k].toNat < 256 := UInt8.toNat_lt _
      have HX := hide (u32_xor_nat x s[k].toNat hx (by omega))
      have hy : x ^^^ s[k].toNat < 4294967296 := xor_lt32 hx (by omega)
      go_wp2
      go_loop [5, 7] (fun t i => ∃ j : Nat, j ≤ 8 ∧ i = .int .i64 j ∧ t = .int .u32 (stepN j (x ^^^ s[k].toNat) : Nat)) (fun _ i => 8 - (intOf i).toNat)
      case atStart => exact ⟨0, by omega, rfl, congrArg (Value.int IntKind.u32) (unhide HX)⟩
      case round =>
        obtain ⟨j, hj, rfl, rfl⟩ := hrel
        have hz := stepN_lt j hy
        by_cases hj8 : j < 8
        · have ho := and1_u32 _ hz
          by_cases hp : stepN j (x ^^^ s[k].toNat) % 2 = 1
          · have hw : (bits .and .u32 (stepN j (x ^^^ s[k].toNat) : Nat) 1 == 1) = true := by rw [ho, hp]; rfl
            have HN := hide (show stepN (j + 1) (x ^^^ s[k].toNat) = (stepN j (x ^^^ s[k].toNat) / 2) ^^^ 3988292384 by rw [stepN, step, if_pos hp])
            have HX := hide (u32_xor_nat (stepN j (x ^^^ s[k].toNat) / 2) 3988292384 (by omega) (by omega))
            clear hp ho
            generalize stepN j (x ^^^ s[k].toNat) = y at *
            go_wp2
            go_round
            case rel => exact ⟨j + 1, by omega, by go_num, by rw [unhide HN, ← unhide HX]; rfl⟩
            case measure => simp [intOf]; omega
          · have hw : (bits .and .u32 (stepN j (x ^^^ s[k].toNat) : Nat) 1 == 1) = false := by rw [ho]; simp; omega
            have HN := hide (show stepN (j + 1) (x ^^^ s[k].toNat) = stepN j (x ^^^ s[k].toNat) / 2 by rw [stepN, step, if_neg hp])
            clear hp ho
            generalize stepN j (x ^^^ s[k].toNat) = y at *
            go_wp2
            go_round
            case rel => exact ⟨j + 1, by omega, by go_num, by rw [unhide HN]; rfl⟩
            case measure => simp [intOf]; omega
        · have e : j = 8 := by omega
          subst e
          go_wp2
          go_round
          case rel => exact ⟨k + 1, by omega, by go_num, by rw [unhide HS]; rfl⟩
          case measure => simp [intOf]; omega
    · have e : k = s.size := by omega
      subst e
      have HF := hide (show crcOf c s = crcTo s (c ^^^ 4294967295) s.size ^^^ 4294967295 from rfl)
      generalize crcTo s (c ^^^ 4294967295) s.size = x at *
      have HX := hide (xorAll x hx)
      have hf2 : x ^^^ 4294967295 < 4294967296 := xor_lt32 hx (by omega)
      go_wp2
      go_ret
      exact ⟨by rw [unhide HF]; simp [unhide HX, wrap64_u32 _ hf2], rfl⟩

set_option maxHeartbeats 1000000 in
theorem implCrcMore_any (c : Nat) (s : ByteArray) (w : World) (hc : c < 4294967296) (hs : s.size ≤ 8000) :
    Calls Tryd.prog 105 #[.int .i64 (c : Int), .string s] w fun e w' => e = .returned (.int .i64 (crcOf c s : Nat)) ∧ w' = w := by
  have d1 : decide ((8000 : Int) < (s.size : Int)) = false := by simp; omega
  have d2 : decide ((c : Int) < 0) = false := by simp
  have d3 : decide ((4294967295 : Int) < (c : Int)) = false := by simp; omega
  go_enter Tryd.func105, Tryd.ntmps105
  go_wp2
  go_loop [5, 6] (fun t i => ∃ k : Nat, k ≤ s.size ∧ i = .int .i64 k ∧ t = .int .u32 (crcTo s (c ^^^ 4294967295) k : Nat)) (fun _ i => s.size - (intOf i).toNat)
  case atStart => exact ⟨0, by omega, rfl, congrArg (Value.int IntKind.u32) (xorMax c hc)⟩
  case round =>
    obtain ⟨k, hk, rfl, rfl⟩ := hrel
    have hx := crcTo_lt s (xor_lt32 hc (by omega) : c ^^^ 4294967295 < 4294967296) k
    by_cases hlt : k < s.size
    · have HS := hide (show crcTo s (c ^^^ 4294967295) (k + 1) = byteCrc (crcTo s (c ^^^ 4294967295) k) s[k].toNat by rw [crcTo, byteN_lt hlt])
      generalize crcTo s (c ^^^ 4294967295) k = x at *
      have hb : s[k].toNat < 256 := UInt8.toNat_lt _
      go_wp2_with (go_at_call 116; refine (crcByte_any _ _ _ hx hb).mono ?_; rintro e w' ⟨rfl, rfl⟩)
      go_round
      case rel => exact ⟨k + 1, by omega, by go_num, by rw [unhide HS]⟩
      case measure => simp [intOf]; omega
    · have e : k = s.size := by omega
      subst e
      have HF := hide (show crcOf c s = crcTo s (c ^^^ 4294967295) s.size ^^^ 4294967295 from rfl)
      generalize crcTo s (c ^^^ 4294967295) s.size = x at *
      have HX := hide (xorMax x hx)
      have hf2 : x ^^^ 4294967295 < 4294967296 := xor_lt32 hx (by omega)
      go_wp2
      go_ret
      exact ⟨by rw [unhide HF]; simp [unhide HX, wrap64_u32 _ hf2], rfl⟩

theorem natOf {c : Int} (h0 : 0 ≤ c) : ∃ n : Nat, c = (n : Int) := ⟨c.toNat, by omega⟩

set_option maxHeartbeats 1000000 in
theorem implCrcMore_no (c : Int) (s : ByteArray) (w : World) (hs : s.size ≤ 1048576) (h : 8000 < s.size ∨ c < 0 ∨ 4294967295 < c) :
    Calls Tryd.prog 105 #[.int .i64 c, .string s] w fun e w' => e = .returned (.int .i64 0) ∧ w' = w := by
  by_cases h1 : 8000 < s.size
  · have d1 : decide ((8000 : Int) < (s.size : Int)) = true := by simp; omega
    go_enter Tryd.func105, Tryd.ntmps105
    go_wp2
    go_ret
    exact ⟨rfl, rfl⟩
  · have d1 : decide ((8000 : Int) < (s.size : Int)) = false := by simp; omega
    by_cases h2 : c < 0
    · have d2 : decide (c < 0) = true := by simp; omega
      go_enter Tryd.func105, Tryd.ntmps105
      go_wp2
      go_ret
      exact ⟨rfl, rfl⟩
    · have d2 : decide (c < 0) = false := by simp; omega
      have d3 : decide ((4294967295 : Int) < c) = true := by simp; omega
      go_enter Tryd.func105, Tryd.ntmps105
      go_wp2
      go_ret
      exact ⟨rfl, rfl⟩

set_option maxHeartbeats 1000000 in
theorem implCrc_any (s : ByteArray) (w : World) (hs : s.size ≤ 1048576) :
    Calls Tryd.prog 80 #[.string s] w fun e w' => e = .returned (.int .i64 (if 8000 < s.size then 0 else (crcOf 0 s : Nat))) ∧ w' = w := by
  by_cases h1 : 8000 < s.size
  · go_enter Tryd.func80, Tryd.ntmps80
    go_wp2_with (go_at_call 105; refine (implCrcMore_no 0 _ _ hs (.inl h1)).mono ?_; rintro e w' ⟨rfl, rfl⟩)
    go_ret
    simp
  · go_enter Tryd.func80, Tryd.ntmps80
    go_wp2_with (go_at_call 105; refine (implCrcMore_any 0 _ _ (by omega) (by omega)).mono ?_; rintro e w' ⟨rfl, rfl⟩)
    go_ret
    simp
end Go.Proofs.YtnffnjljjecphaaDoor

namespace Go.Proofs.YtnffnjljjecphaaDoor
open Go.RowKit

def four (n : Int) : ByteArray := strOfNums [n % 256, n / 256 % 256, n / 65536 % 256, n / 16777216]

theorem conv4 (w : World) (T : TypeId) (c0 c1 c2 c3 : Int) :
    (convert 116 9 (.slice (some ⟨w.heap.size, 0, none⟩) 4 4)).run Tryd.prog (w.alloc (.cells #[.int .u8 c0, .int .u8 c1, .int .u8 c2, .int .u8 c3] T)) = .ok (.string (strOfNums [c0, c1, c2, c3])) (w.alloc (.cells #[.int .u8 c0, .int .u8 c1, .int .u8 c2, .int .u8 c3] T)) := by
  refine run_convert_bytes_arg (P := Tryd.prog) _ 116 5 Tryd.underlying116 Tryd.underlying5 w.heap.size 0 4 4 [c0, c1, c2, c3] rfl ?_ 9 Tryd.underlying9
  intro i hi
  match i, hi with
  | 0, _ => simp
  | 1, _ => simp
  | 2, _ => simp
  | 3, _ => simp

theorem l01Four_any (n : Nat) (w : World) (hn : n < 4294967296) :
    Calls Tryd.prog 77 #[.int .i64 (n : Int)] w fun e w' => e = .returned (.string (four n)) ∧ Below w.heap.size w w' := by
  have hcv := conv4 w 5 ((n : Int) % 256) ((n : Int) / 256 % 256) ((n : Int) / 65536 % 256) ((n : Int) / 16777216)
  go_enter Tryd.func77, Tryd.ntmps77
  go_wp2
  go_ret
  exact ⟨rfl, (Below.refl _ _).alloc (Nat.le_refl _) _⟩

theorem sumText_any (n : Nat) (w : World) (hn : n < 4294967296) :
    Calls Tryd.prog 79 #[.int .i64 (n : Int)] w fun e w' => e = .returned (.string (four n)) ∧ Below w.heap.size w w' := by
  have hcv := conv4 w 144 ((n : Int) % 256) ((n : Int) / 256 % 256) ((n : Int) / 65536 % 256) ((n : Int) / 16777216)
  go_enter Tryd.func79, Tryd.ntmps79
  go_wp2
  go_loopw [5] (fun i wr => (i = .int .i64 0 ∧ wr = w.alloc (.cells #[.int .u8 0, .int .u8 0, .int .u8 0, .int .u8 0] 144)) ∨
      (i = .int .i64 1 ∧ wr = w.alloc (.cells #[.int .u8 ((n : Int) % 256), .int .u8 0, .int .u8 0, .int .u8 0] 144)) ∨
      (i = .int .i64 2 ∧ wr = w.alloc (.cells #[.int .u8 ((n : Int) % 256), .int .u8 ((n : Int) / 256 % 256), .int .u8 0, .int .u8 0] 144)) ∨
      (i = .int .i64 3 ∧ wr = w.alloc (.cells #[.int .u8 ((n : Int) % 256), .int .u8 ((n : Int) / 256 % 256), .int .u8 ((n : Int) / 65536 % 256), .int .u8 0] 144)) ∨
      (i = .int .i64 4 ∧ wr = w.alloc (.cells #[.int .u8 ((n : Int) % 256), .int .u8 ((n : Int) / 256 % 256), .int .u8 ((n : Int) / 65536 % 256), .int .u8 ((n : Int) / 16777216)] 144))) (fun i _ => 4 - (intOf i).toNat)
  case atStart => exact .inl ⟨rfl, rfl⟩
  case round =>
    rcases hrel with ⟨rfl, rfl⟩ | ⟨rfl, rfl⟩ | ⟨rfl, rfl⟩ | ⟨rfl, rfl⟩ | ⟨rfl, rfl⟩
    · go_wp2
      exact ⟨.inr (.inl ⟨rfl, by first | trivial | rfl⟩), by simp [intOf]⟩
    · go_wp2
      exact ⟨.inr (.inr (.inl ⟨rfl, by first | trivial | rfl⟩)), by simp [intOf]⟩
    · go_wp2
      exact ⟨.inr (.inr (.inr (.inl ⟨rfl, by first | trivial | rfl⟩))), by simp [intOf]⟩
    · go_wp2
      exact ⟨.inr (.inr (.inr (.inr ⟨rfl, by first | trivial | rfl⟩))), by simp [intOf]⟩
    · go_wp2
      go_ret
      exact ⟨rfl, (Below.refl _ _).alloc (Nat.le_refl _) _⟩

def sealOf (s : ByteArray) : ByteArray := if 7996 < s.size then ⟨#[]⟩ else s ++ four (crcOf 0 s : Nat)

theorem four_size (n : Int) : (four n).size = 4 := by simp [four, strOfNums_size]

theorem specSeal_any (s : ByteArray) (w : World) (hs : s.size ≤ 1048576) :
    Calls Tryd.prog 41 #[.string s] w fun e w' => e = .returned (.string (sealOf s)) ∧ Below w.heap.size w w' := by
  by_cases h1 : 7996 < s.size
  · have HS := hide (show sealOf s = ⟨#[]⟩ by simp [sealOf, h1])
    go_enter Tryd.func41, Tryd.ntmps41
    go_wp2
    go_ret
    exact ⟨by rw [unhide HS]; rfl, Below.refl _ _⟩
  · have HS := hide (show sealOf s = s ++ four (crcOf 0 s : Nat) by simp [sealOf, h1])
    have h4 := four_size (crcOf 0 s : Nat)
    have hc := crcOf_lt (c := 0) s (by omega)
    go_enter Tryd.func41, Tryd.ntmps41
    go_wp2_with (first | (go_at_call 78; refine (l01Crc_any 0 _ _ (by omega) (by omega)).mono ?_; rintro e w' ⟨rfl, rfl⟩) | (go_at_call 77; refine (l01Four_any _ _ hc).mono ?_; rintro e w' ⟨rfl, hb⟩))
    go_ret
    exact ⟨by rw [unhide HS]; rfl, hb⟩

theorem implSeal_any (s : ByteArray) (w : World) (hs : s.size ≤ 1048576) :
    Calls Tryd.prog 43 #[.string s] w fun e w' => e = .returned (.string (sealOf s)) ∧ Below w.heap.size w w' := by
  by_cases h1 : 7996 < s.size
  · have HS := hide (show sealOf s = ⟨#[]⟩ by simp [sealOf, h1])
    go_enter Tryd.func43, Tryd.ntmps43
    go_wp2
    go_ret
    exact ⟨by rw [unhide HS]; rfl, Below.refl _ _⟩
  · have HS := hide (show sealOf s = s ++ four (crcOf 0 s : Nat) by simp [sealOf, h1])
    have h4 := four_size (crcOf 0 s : Nat)
    have hc := crcOf_lt (c := 0) s (by omega)
    go_enter Tryd.func43, Tryd.ntmps43
    go_wp2_with fail
    refine (implCrc_any _ _ hs).mono ?_
    rintro e w' ⟨rfl, rfl⟩
    rw [if_neg (show ¬ 8000 < s.size by omega)]
    go_wp2_with fail
    refine (sumText_any _ _ hc).mono ?_
    rintro e w1 ⟨rfl, hb1⟩
    go_wp2_with fail
    refine (joinTexts_any _ _ _ (by omega) (by omega)).mono ?_
    rintro e w2 ⟨rfl, hb2⟩
    go_wp2
    go_ret
    exact ⟨by rw [unhide HS]; rfl, hb1.trans (hb2.mono hb1.size)⟩
end Go.Proofs.YtnffnjljjecphaaDoor
