/- Several texts in one: FrC, FrD, FrE, FrF, VecB, VecC, VecD, VecE, VecH, VecI, WideT. -/
import Derived.Laws.BytesArg
import Derived.BigRegion
import Derived.Deep.DeepCutAuto
import Derived.Laws.OwnMore
import Derived.Deep.RegionHeld
import Derived.Deep.RegionWith
import Derived.Lib.QuietBelow
import Derived.Test.YtnffnjljjecphaaDoorQCommandReadOwn2
namespace Go.Proofs.YtnffnjljjecphaaDoor
open Go.RowKit Go.Sort
set_option linter.unusedVariables false

/-- block b is the row cs, none frozen -/
def Blk (w : World) (b : Nat) (cs : List Value) (t : TypeId) : Prop := w.heap[b]? = some (.cells cs.toArray t (0, 0))
theorem Blk.lt {w : World} {b : Nat} {cs : List Value} {t : TypeId} (h : Blk w b cs t) : b < w.heap.size := (Array.getElem?_eq_some_iff.1 h).1
theorem Blk.kept {w w' : World} {b : Nat} {cs : List Value} {t : TypeId} (h : Blk w b cs t) (hB : Below w.heap.size w w') : Blk w' b cs t := (hB.block b h.lt).trans h
theorem blk_new (w : World) (cs : List Value) (t : TypeId) : Blk (w.alloc (.cells cs.toArray t)) w.heap.size cs t := heap_alloc_new w _
theorem Blk.alloc {w : World} {b : Nat} {cs : List Value} {t : TypeId} (h : Blk w b cs t) (o : Obj) : Blk (w.alloc o) b cs t := h.kept (below1 _ _)
theorem Blk.cell {w : World} {b : Nat} {cs : List Value} {t : TypeId} (h : Blk w b cs t) (i : Nat) (v : Value) (hv : cs[i]? = some v) : w.cell? ⟨b, i, none⟩ = some v := by
  rw [cell_of_row w b i _ _ _ h]; simpa using hv
theorem Blk.free {w : World} {b : Nat} {cs : List Value} {t : TypeId} (h : Blk w b cs t) (i : Nat) : w.frozen? ⟨b, i, none⟩ = false := frozen_of_row w b i _ _ h
theorem Blk.set {w : World} {b : Nat} {cs : List Value} {t : TypeId} (h : Blk w b cs t) (i : Nat) (v : Value) : Blk (w.setCell ⟨b, i, none⟩ v) b (cs.set i v) t := by
  have := heap_setCell_same w b i _ _ v h
  unfold Blk
  rw [this]
  simp
theorem Blk.other {w : World} {b : Nat} {cs : List Value} {t : TypeId} (h : Blk w b cs t) (a : Addr) (v : Value) (hne : b ≠ a.block) : Blk (w.setCell a v) b cs t := by
  unfold Blk
  rw [heap_setCell_other w a b v hne]
  exact h
theorem Blk.drewn {w : World} {b : Nat} {cs : List Value} {t : TypeId} (h : Blk w b cs t) : Blk w.drew b cs t := h
/-- the first n cells of block b are the bytes f, and may be written -/
def BRow (w : World) (b n : Nat) (f : Nat → Int) : Prop := ∀ j, j < n → w.cell? ⟨b, j, none⟩ = some (.int .u8 (f j)) ∧ w.frozen? ⟨b, j, none⟩ = false
theorem BRow.kept {w w' : World} {b n : Nat} {f : Nat → Int} (h : BRow w b n f) (hb : b < w.heap.size) (hB : Below w.heap.size w w') : BRow w' b n f := fun j hj =>
  ⟨by rw [hB.cell (p := ⟨b, j, none⟩) hb]; exact (h j hj).1, by rw [hB.frozen (p := ⟨b, j, none⟩) hb]; exact (h j hj).2⟩
theorem BRow.drewn {w : World} {b n : Nat} {f : Nat → Int} (h : BRow w b n f) : BRow w.drew b n f := h
theorem BRow.congr {w : World} {b n : Nat} {f f' : Nat → Int} (h : BRow w b n f) (e : ∀ j, j < n → f j = f' j) : BRow w b n f' := fun j hj => ⟨by rw [(h j hj).1, e j hj], (h j hj).2⟩
theorem BRow.set {w : World} {b n : Nat} {f : Nat → Int} (h : BRow w b n f) (i : Nat) (hi : i < n) (v : Int) : BRow (w.setCell ⟨b, i, none⟩ (.int .u8 v)) b n (fun j => if j = i then v else f j) := fun j hj => by
  refine ⟨?_, ?_⟩
  · show _ = some (Value.int .u8 (if j = i then v else f j))
    by_cases e : j = i
    · subst e
      rw [if_pos rfl, World.cell?_setCell_same _ _ _ (h j hj).1]
    · rw [if_neg e, World.cell?_setCell_other _ _ _ _ (fun h => e (by simpa using (congrArg Addr.off h).symm)), (h j hj).1]
  · rw [← (h j hj).2]
    simp
def lessI (f d : ByteArray) (j : Nat) : Int := if byteN f j < byteN d j then 0 else (byteN f j : Int) - (byteN d j : Int)
def lessS (f d : ByteArray) : ByteArray := strOfNums ((List.range f.size).map (lessI f d))
theorem BRow.conv {w : World} {b : Nat} {f d : ByteArray} (h : BRow w b f.size (lessI f d)) (cap : Nat) :
    (convert 116 9 (.slice (some ⟨b, 0, none⟩) f.size cap)).run Tryd.prog w = .ok (.string (lessS f d)) w := by
  refine run_convert_bytes_arg (P := Tryd.prog) _ 116 5 Tryd.underlying116 Tryd.underlying5 b 0 f.size cap ((List.range f.size).map (lessI f d)) (by simp) ?_ 9 Tryd.underlying9
  intro i hi
  rw [Nat.zero_add, (h i hi).1]
  congr 2
  rw [List.getD, List.getElem?_map, List.getElem?_range hi]
  rfl
def bothB (w1 h1 : Int) (f : ByteArray) (w2 h2 : Int) (d : ByteArray) : Bool := frameB w1 h1 f && frameB w2 h2 d && decide (w1 = w2) && decide (h1 = h2)
def lessV (w1 h1 : Int) (f : ByteArray) (w2 h2 : Int) (d : ByteArray) : Value := if bothB w1 h1 f w2 h2 d = true then .agg #[.int .i64 w1, .int .i64 h1, .string (lessS f d), .int .i64 0] else .agg #[.int .i64 0, .int .i64 0, .string ⟨#[]⟩, .int .i64 1]
end Go.Proofs.YtnffnjljjecphaaDoor

namespace Go.Proofs.YtnffnjljjecphaaDoor
open Go.RowKit Go.Sort
set_option linter.unusedVariables false

/-- '[]byte(s)', the world told by what is kept -/
theorem bytesOf (s : ByteArray) (w : World) : ∃ (cap : Nat) (w4 : World), (convert 9 116 (.string s)).run Tryd.prog w = .ok (.slice (some ⟨w.heap.size, 0, none⟩) s.size cap) w4 ∧ BRow w4 w.heap.size s.size (fun j => (byteN s j : Int)) ∧ Below w.heap.size w w4 ∧ w4.heap.size = w.heap.size + 1 := by
  have h := run_bytes_of_string (P := Tryd.prog) w 9 116 5 s Tryd.underlying9 Tryd.underlying116 Tryd.underlying5
  have hh : (w.drew.alloc (.cells (bytesRow s (grownCap w s.size 0 5)) 5 ((bytesRow s (grownCap w s.size 0 5)).size, (bytesRow s (grownCap w s.size 0 5)).size + 1))).heap[w.heap.size]? = _ := heap_alloc_new w.drew _
  refine ⟨_, _, h, fun j hj => ⟨?_, ?_⟩, ((Below.refl _ w).drew).alloc (Nat.le_refl _) _, by simp⟩
  · have hr := bytesRow_at s (grownCap w s.size 0 5) j hj
    unfold World.cell?
    simp only [hh, hr]
    rw [byteN_lt hj]
    rfl
  · have hsz : s.size ≤ (bytesRow s (grownCap w s.size 0 5)).size := by simp [bytesRow]
    unfold World.frozen?
    simp only [hh]
    simp
    omega
theorem both_no1 {w1 h1 w2 h2 : Int} {f d : ByteArray} (h : frameB w1 h1 f = false) : bothB w1 h1 f w2 h2 d = false := by unfold bothB; rw [h]; rfl
theorem both_no2 {w1 h1 w2 h2 : Int} {f d : ByteArray} (h : frameB w2 h2 d = false) : bothB w1 h1 f w2 h2 d = false := by unfold bothB; rw [h]; simp
theorem both_no3 {w1 h1 w2 h2 : Int} {f d : ByteArray} (h : ¬ w1 = w2) : bothB w1 h1 f w2 h2 d = false := by unfold bothB; simp [h]
theorem both_no4 {w1 h1 w2 h2 : Int} {f d : ByteArray} (h : ¬ h1 = h2) : bothB w1 h1 f w2 h2 d = false := by unfold bothB; simp [h]
theorem both_yes {w1 h1 w2 h2 : Int} {f d : ByteArray} (a : frameB w1 h1 f = true) (b : frameB w2 h2 d = true) (c : w1 = w2) (e : h1 = h2) : bothB w1 h1 f w2 h2 d = true := by unfold bothB; rw [a, b]; simp [c, e]
theorem lessV_no {w1 h1 w2 h2 : Int} {f d : ByteArray} (h : bothB w1 h1 f w2 h2 d = false) : lessV w1 h1 f w2 h2 d = .agg #[.int .i64 0, .int .i64 0, .string ⟨#[]⟩, .int .i64 1] := by unfold lessV; rw [h]; rfl
theorem lessV_yes {w1 h1 w2 h2 : Int} {f d : ByteArray} (h : bothB w1 h1 f w2 h2 d = true) : lessV w1 h1 f w2 h2 d = .agg #[.int .i64 w1, .int .i64 h1, .string (lessS f d), .int .i64 0] := by unfold lessV; rw [if_pos h]

theorem less_step {f d : ByteArray} {k : Nat} {v : Int} (h : lessI f d k = v) (j : Nat) : (if j = k then v else if j < k then lessI f d j else (byteN f j : Int)) = if j < k + 1 then lessI f d j else (byteN f j : Int) := by
  by_cases e : j = k
  · subst e; rw [if_pos rfl, if_pos (by omega), h]
  · rw [if_neg e]
    by_cases e2 : j < k
    · rw [if_pos e2, if_pos (by omega)]
    · rw [if_neg e2, if_neg (by omega)]

end Go.Proofs.YtnffnjljjecphaaDoor

namespace Go.Proofs.YtnffnjljjecphaaDoor
open Go.RowKit Go.Sort
set_option linter.unusedVariables false

theorem less_step0 {f d : ByteArray} {k : Nat} {v : Int} (h : lessI f d k = v) (j : Nat) : (if j = k then v else if j < k then lessI f d j else 0) = if j < k + 1 then lessI f d j else 0 := by
  by_cases e : j = k
  · subst e; rw [if_pos rfl, if_pos (by omega), h]
  · rw [if_neg e]
    by_cases e2 : j < k
    · rw [if_pos e2, if_pos (by omega)]
    · rw [if_neg e2, if_neg (by omega)]
theorem zeroBytes (n : Nat) (h : n ≤ 281474976710656) : ∃ M : Array Value, (∀ j, j < n → M[j]? = some (.int .u8 0)) ∧ ∀ W : World, (Instr.makeSlice 116 (.int .i64 (n : Int)) (.int .i64 (n : Int))).run Tryd.prog W = .ok (.slice (some ⟨W.heap.size, 0, none⟩) n n) (W.alloc (.cells M 5)) := by
  obtain ⟨i0, hi, hz0, hz1, hz2⟩ := infoByte
  refine ⟨madeCells (Value.int .u8 0).cells (((n : Nat) : Int).toNat * i0.size), fun j hj => ?_, fun W => ?_⟩
  · rw [hz1, ← Array.getElem?_toList]
    have e : (Value.int .u8 0).cells = #[.int .u8 0] := rfl
    rw [e, toList_madeCells_one]
    simp [hj]
  · have h := run_make (P := Tryd.prog) W 116 5 i0 (.int .u8 0) Tryd.underlying116 hi hz0 .i64 .i64 (n : Int) (n : Int) (by omega) (by omega) (by rw [hz2]; omega) (by omega)
    simpa using h
theorem bRow_new {w : World} {M : Array Value} {n : Nat} (h : ∀ j, j < n → M[j]? = some (.int .u8 0)) : BRow (w.alloc (.cells M 5)) w.heap.size n (fun _ => 0) := fun j hj => by
  have hb : (w.alloc (.cells M 5)).heap[w.heap.size]? = some (.cells M 5 (0, 0)) := heap_alloc_new w _
  exact ⟨by rw [cell_of_row _ _ _ _ _ _ hb]; exact h j hj, frozen_of_row _ _ _ _ _ hb⟩
end Go.Proofs.YtnffnjljjecphaaDoor

namespace Go.Proofs.YtnffnjljjecphaaDoor
open Go.RowKit Go.Sort
set_option linter.unusedVariables false

theorem stepCallX {w1 wx wn : World} {X : Prop} (hx : Below wx.heap.size wx wn) (h : X ∧ Below w1.heap.size w1 wx) : Below w1.heap.size w1 wn := below_call h.2 hx
theorem stepAllocX {w1 wx : World} {X : Prop} (h : X ∧ Below w1.heap.size w1 wx) (o : Obj) : Below w1.heap.size w1 (wx.alloc o) := h.2.alloc h.2.size _
theorem stepAllocY {w1 wx : World} (h : Below w1.heap.size w1 wx) (o : Obj) : Below w1.heap.size w1 (wx.alloc o) := h.alloc h.size _
def ResvFO (w : World) (b : Nat) : Prop := SAt w b [.int .i64 0, .int .i64 0, .string ⟨#[]⟩, .int .i64 0] ∧ w.frozen? ⟨b, 0, none⟩ = false ∧ w.frozen? ⟨b, 1, none⟩ = false ∧ w.frozen? ⟨b, 2, none⟩ = false ∧ w.frozen? ⟨b, 3, none⟩ = false
theorem resFO_new (w : World) (t : TypeId) : ResvFO (w.alloc (.cells #[.int .i64 0, .int .i64 0, .string ⟨#[]⟩, .int .i64 0] t)) w.heap.size := ⟨sAt_new w [.int .i64 0, .int .i64 0, .string ⟨#[]⟩, .int .i64 0] t, by simp, by simp, by simp, by simp⟩
theorem keptFO {wx wn : World} {b : Nat} (h : ResvFO wx b) (hx : Below wx.heap.size wx wn) : ResvFO wn b := by
  have hl := h.1.lt
  obtain ⟨h0, f0, f1, f2, f3⟩ := h
  exact ⟨h0.kept hx, by rw [hx.frozen (p := ⟨b, 0, none⟩) hl]; exact f0, by rw [hx.frozen (p := ⟨b, 1, none⟩) hl]; exact f1, by rw [hx.frozen (p := ⟨b, 2, none⟩) hl]; exact f2, by rw [hx.frozen (p := ⟨b, 3, none⟩) hl]; exact f3⟩
theorem newFO {wy wn : World} {t : TypeId} (hx : Below (wy.alloc (.cells #[.int .i64 0, .int .i64 0, .string ⟨#[]⟩, .int .i64 0] t)).heap.size (wy.alloc (.cells #[.int .i64 0, .int .i64 0, .string ⟨#[]⟩, .int .i64 0] t)) wn) : ResvFO wn wy.heap.size := keptFO (resFO_new wy t) hx
theorem newDFO {wy wn : World} {t : TypeId} (hx : Below ((wy.alloc (.cells #[.int .i64 0, .int .i64 0, .string ⟨#[]⟩, .int .i64 0] t)).drew).heap.size ((wy.alloc (.cells #[.int .i64 0, .int .i64 0, .string ⟨#[]⟩, .int .i64 0] t)).drew) wn) : ResvFO wn wy.heap.size := keptFO (show ResvFO (wy.alloc (.cells #[.int .i64 0, .int .i64 0, .string ⟨#[]⟩, .int .i64 0] t)).drew wy.heap.size from resFO_new wy t) hx
theorem setFO {w : World} {b : Nat} (h : ResvFO w b) (x0 x1 x2 x3 : Value) : SAt ((((w.setCell ⟨b, 0, none⟩ x0).setCell ⟨b, 1, none⟩ x1).setCell ⟨b, 2, none⟩ x2).setCell ⟨b, 3, none⟩ x3) b [x0, x1, x2, x3] := by
  have hc : ∀ i v, [.int .i64 0, .int .i64 0, .string ⟨#[]⟩, .int .i64 0][i]? = some v → w.cell? ⟨b, i, none⟩ = some v := h.1
  have c0 := hc 0 _ rfl
  have c1 := hc 1 _ rfl
  have c2 := hc 2 _ rfl
  have c3 := hc 3 _ rfl
  clear hc h
  intro i v hv
  match i, hv with
  | 0, hv => simp at hv; subst hv; simp [go_sem, *]
  | 1, hv => simp at hv; subst hv; simp [go_sem, *]
  | 2, hv => simp at hv; subst hv; simp [go_sem, *]
  | 3, hv => simp at hv; subst hv; simp [go_sem, *]
  | i + 4, hv => simp at hv
theorem belFO {w1 wx : World} {b : Nat} (h : Below w1.heap.size w1 wx) (hb : w1.heap.size ≤ b) (x0 x1 x2 x3 : Value) : Below w1.heap.size w1 ((((wx.setCell ⟨b, 0, none⟩ x0).setCell ⟨b, 1, none⟩ x1).setCell ⟨b, 2, none⟩ x2).setCell ⟨b, 3, none⟩ x3) := ((((h.setCell hb _).setCell hb _).setCell hb _).setCell hb _)
theorem holdFF {w1 wx : World} {A B : Nat} {a0 a1 a2 b0 b1 b2 : Value} (va : SAt w1 A [a0, a1, a2]) (vb : SAt w1 B [b0, b1, b2]) (h : Below w1.heap.size w1 wx) : (wx.cell? ⟨A, 0, none⟩ = some a0 ∧ wx.cell? ⟨A, 1, none⟩ = some a1 ∧ wx.cell? ⟨A, 2, none⟩ = some a2 ∧ wx.cell? ⟨B, 0, none⟩ = some b0 ∧ wx.cell? ⟨B, 1, none⟩ = some b1 ∧ wx.cell? ⟨B, 2, none⟩ = some b2) ∧ Below w1.heap.size w1 wx := by
  obtain ⟨h0, h1, h2⟩ := (va.kept h).c3
  obtain ⟨g0, g1, g2⟩ := (vb.kept h).c3
  exact ⟨⟨h0, h1, h2, g0, g1, g2⟩, h⟩
theorem lessV_form (w1 h1 : Int) (f : ByteArray) (w2 h2 : Int) (d : ByteArray) : ∃ (x y z : Int) (s : ByteArray), lessV w1 h1 f w2 h2 d = .agg #[.int .i64 x, .int .i64 y, .string s, .int .i64 z] := by
  unfold lessV
  split
  · exact ⟨_, _, _, _, rfl⟩
  · exact ⟨_, _, _, _, rfl⟩
theorem SAt.c4 {w : World} {b : Nat} {x y z u : Value} (h : SAt w b [x, y, z, u]) : w.cell? ⟨b, 0, none⟩ = some x ∧ w.cell? ⟨b, 1, none⟩ = some y ∧ w.cell? ⟨b, 2, none⟩ = some z ∧ w.cell? ⟨b, 3, none⟩ = some u := ⟨h 0 x rfl, h 1 y rfl, h 2 z rfl, h 3 u rfl⟩
theorem neq_str_self (s : ByteArray) (w : World) : (binOp .neq 9 (.string s) (.string s)).run Tryd.prog w = .ok (.bool false) w := by simp [go_sem]
set_option maxRecDepth 100000 in
theorem eqFrame_same (x y : Int) (s : ByteArray) (w : World) :
    Calls Tryd.prog 37 #[.agg #[.int .i64 x, .int .i64 y, .string s], .agg #[.int .i64 x, .int .i64 y, .string s]] w fun e w' => e = .returned (.bool true) ∧ Below w.heap.size w w' := by
  have hq := neq_str_self s
  go_enter Tryd.func37, Tryd.ntmps37
  go_wp2_with fail
  go_ret
  exact ⟨rfl, below2 _ _ _⟩
end Go.Proofs.YtnffnjljjecphaaDoor

namespace Go.Proofs.YtnffnjljjecphaaDoor
open Go.RowKit
set_option linter.unusedVariables false

theorem out1 {m x : Int} (h : ¬ (-m ≤ x ∧ x ≤ m)) : inB m x = false := by simpa [inB] using h

set_option maxRecDepth 100000 in
theorem within_any (m x y z : Int) (w : World) (hm0 : 0 ≤ m) (hm : m ≤ 1000000) :
    Calls Tryd.prog 114 #[.agg #[.int .i64 x, .int .i64 y, .int .i64 z], .int .i64 m] w fun e w' => e = .returned (.bool (withinB m x y z)) ∧ Below w.heap.size w w' := by
  have i0 : ∀ w : World, (Instr.index 167 (.agg #[.int .i64 x, .int .i64 y, .int .i64 z]) (.int .i64 0)).run Tryd.prog w = .ok (.int .i64 x) w := fun _ => by kernel_rfl
  have i1 : ∀ w : World, (Instr.index 167 (.agg #[.int .i64 x, .int .i64 y, .int .i64 z]) (.int .i64 1)).run Tryd.prog w = .ok (.int .i64 y) w := fun _ => by kernel_rfl
  have i2 : ∀ w : World, (Instr.index 167 (.agg #[.int .i64 x, .int .i64 y, .int .i64 z]) (.int .i64 2)).run Tryd.prog w = .ok (.int .i64 z) w := fun _ => by kernel_rfl
  have hwr : wrap64 (-m) = -m := wrap_id (by omega) (by omega)
  go_enter Tryd.func114, Tryd.ntmps114
  go_wp2_with fail
  refine (parts_any x y z _).mono ?_
  rintro e w1 ⟨rfl, hB1⟩
  have hB : Below w.heap.size w w1 := below_call (below1 _ _) hB1
  clear hB1
  go_wp2_with fail
  go_loop [9] (fun i => ∃ k : Nat, k ≤ 3 ∧ i = .int .i64 k ∧ Hid (0 < k → inB m x = true) ∧ Hid (1 < k → inB m y = true) ∧ Hid (2 < k → inB m z = true)) (fun i => 3 - (intOf i).toNat)
  case atStart => exact ⟨0, Nat.zero_le _, rfl, hide (by omega), hide (by omega), hide (by omega)⟩
  case round =>
    obtain ⟨k, hk, rfl, hx, hy, hz⟩ := hrel
    have hk4 : k = 0 ∨ k = 1 ∨ k = 2 ∨ k = 3 := by omega
    rcases hk4 with rfl | rfl | rfl | rfl
    · by_cases q1 : -m ≤ x
      · by_cases q2 : x ≤ m
        · have HI := hide (inB_iff.2 ⟨q1, q2⟩)
          go_wp2
          go_round
          case rel => exact ⟨1, by omega, rfl, hide (fun _ => unhide HI), hide (by omega), hide (by omega)⟩
          case measure => simp [intOf]
        · have HO := hide (out1 (m := m) (x := x) (fun h => q2 h.2))
          go_wp2
          go_ret
          exact ⟨by simp [withinB, unhide HO], hB⟩
      · have HO := hide (out1 (m := m) (x := x) (fun h => q1 h.1))
        go_wp2
        go_ret
        exact ⟨by simp [withinB, unhide HO], hB⟩
    · by_cases q1 : -m ≤ y
      · by_cases q2 : y ≤ m
        · have HI := hide (inB_iff.2 ⟨q1, q2⟩)
          go_wp2
          go_round
          case rel => exact ⟨2, by omega, rfl, hide (fun _ => unhide hx (by omega)), hide (fun _ => unhide HI), hide (by omega)⟩
          case measure => simp [intOf]
        · have HO := hide (out1 (m := m) (x := y) (fun h => q2 h.2))
          go_wp2
          go_ret
          exact ⟨by simp [withinB, unhide HO], hB⟩
      · have HO := hide (out1 (m := m) (x := y) (fun h => q1 h.1))
        go_wp2
        go_ret
        exact ⟨by simp [withinB, unhide HO], hB⟩
    · by_cases q1 : -m ≤ z
      · by_cases q2 : z ≤ m
        · have HI := hide (inB_iff.2 ⟨q1, q2⟩)
          go_wp2
          go_round
          case rel => exact ⟨3, by omega, rfl, hide (fun _ => unhide hx (by omega)), hide (fun _ => unhide hy (by omega)), hide (fun _ => unhide HI)⟩
          case measure => simp [intOf]
        · have HO := hide (out1 (m := m) (x := z) (fun h => q2 h.2))
          go_wp2
          go_ret
          exact ⟨by simp [withinB, unhide HO], hB⟩
      · have HO := hide (out1 (m := m) (x := z) (fun h => q1 h.1))
        go_wp2
        go_ret
        exact ⟨by simp [withinB, unhide HO], hB⟩
    · go_wp2
      go_ret
      exact ⟨by simp [withinB, unhide hx (by omega), unhide hy (by omega), unhide hz (by omega)], hB⟩
end Go.Proofs.YtnffnjljjecphaaDoor

namespace Go.Proofs.YtnffnjljjecphaaDoor
open Go.RowKit
set_option linter.unusedVariables false

def eqB (a1 a2 a3 b1 b2 b3 : Int) : Bool := decide (a1 = b1 ∧ a2 = b2 ∧ a3 = b3)
theorem equal_vec (a1 a2 a3 b1 b2 b3 : Int) (w : World) : (Op.equalIn 10000 75 (.agg #[.int .i64 a1, .int .i64 a2, .int .i64 a3]) (.agg #[.int .i64 b1, .int .i64 b2, .int .i64 b3])).run Tryd.prog w = .ok (eqB a1 a2 a3 b1 b2 b3) w := by
  have h := run_equalIn_struct (P := Tryd.prog) w 9999 75 #[.int .i64 a1, .int .i64 a2, .int .i64 a3] #[.int .i64 b1, .int .i64 b2, .int .i64 b3] (by kernel_rfl) (by kernel_rfl)
  have hf : (Tryd.prog.fieldsOf 75).toList = (Tryd.prog.fieldsOf 75).toList := rfl
  refine h.trans ?_
  by_cases h1 : a1 = b1
  · by_cases h2 : a2 = b2
    · by_cases h3 : a3 = b3
      · simp [go_sem, eqB, h1, h2, h3]
      · simp [go_sem, eqB, h1, h2, h3]
    · simp [go_sem, eqB, h1, h2]
  · simp [go_sem, eqB, h1]
theorem neq_vec (a1 a2 a3 b1 b2 b3 : Int) (w : World) : (binOp .neq 75 (.agg #[.int .i64 a1, .int .i64 a2, .int .i64 a3]) (.agg #[.int .i64 b1, .int .i64 b2, .int .i64 b3])).run Tryd.prog w = .ok (.bool (!eqB a1 a2 a3 b1 b2 b3)) w := by
  rw [run_neq_struct, equal_vec]; rfl
theorem eql_vec (a1 a2 a3 b1 b2 b3 : Int) (w : World) : (binOp .eql 75 (.agg #[.int .i64 a1, .int .i64 a2, .int .i64 a3]) (.agg #[.int .i64 b1, .int .i64 b2, .int .i64 b3])).run Tryd.prog w = .ok (.bool (eqB a1 a2 a3 b1 b2 b3)) w := by
  rw [run_eql_struct, equal_vec]; rfl

set_option maxRecDepth 100000 in
theorem vecRight_any (x y z : Int) (w : World) :
    Calls Tryd.prog 113 #[.agg #[.int .i64 x, .int .i64 y, .int .i64 z]] w fun e w' => e = .returned (.bool (rightB x y z)) ∧ Below w.heap.size w w' := by
  have hn := fun w => neq_vec x y z 0 0 0 w
  cases hz : eqB x y z 0 0 0
  · rw [hz] at hn
    have HR : Hid (rightB x y z = withinB 1000000 x y z) := hide (by unfold rightB; rw [show zeroB x y z = false from hz]; simp)
    go_enter Tryd.func113, Tryd.ntmps113
    go_wp2_with fail
    refine (within_any 1000000 x y z _ (by omega) (by omega)).mono ?_
    rintro e w1 ⟨rfl, hB1⟩
    have hB : Below w.heap.size w w1 := below_call (below1 _ _) hB1
    clear hB1
    go_wp2_with fail
    go_ret
    exact ⟨by rw [unhide HR]; rfl, hB⟩
  · rw [hz] at hn
    have HR : Hid (rightB x y z = false) := hide (by unfold rightB; rw [show zeroB x y z = true from hz]; simp)
    go_enter Tryd.func113, Tryd.ntmps113
    go_wp2_with fail
    go_ret
    exact ⟨by rw [unhide HR]; rfl, below1 _ _⟩

theorem isB (m x : Int) : (decide (-m ≤ x) && decide (x ≤ m)) = inB m x := by unfold inB; rw [Bool.decide_and]

set_option maxRecDepth 100000 in
theorem l02Within_any (m x y z : Int) (w : World) (hm0 : 0 ≤ m) (hm : m ≤ 1000000) :
    Calls Tryd.prog 97 #[.agg #[.int .i64 x, .int .i64 y, .int .i64 z], .int .i64 m] w fun e w' => e = .returned (.bool (withinB m x y z)) ∧ Below w.heap.size w w' := by
  have hwr : wrap64 (-m) = -m := wrap_id (by omega) (by omega)
  go_enter Tryd.func97, Tryd.ntmps97
  go_wp2_with fail
  refine (l02Is_any x (-m) m _).mono ?_
  rintro e w1 ⟨rfl, rfl⟩
  rw [isB]
  cases hx : inB m x
  · go_wp2_with fail
    go_ret
    exact ⟨by simp [withinB, hx], below1 _ _⟩
  · go_wp2_with fail
    refine (l02Is_any y (-m) m _).mono ?_
    rintro e w1 ⟨rfl, rfl⟩
    rw [isB]
    cases hy : inB m y
    · go_wp2_with fail
      go_ret
      exact ⟨by simp [withinB, hy], below1 _ _⟩
    · go_wp2_with fail
      refine (l02Is_any z (-m) m _).mono ?_
      rintro e w1 ⟨rfl, rfl⟩
      rw [isB]
      go_wp2_with fail
      go_ret
      exact ⟨by simp [withinB, hx, hy], below1 _ _⟩

set_option maxRecDepth 100000 in
theorem specRight_any (x y z : Int) (w : World) :
    Calls Tryd.prog 96 #[.agg #[.int .i64 x, .int .i64 y, .int .i64 z]] w fun e w' => e = .returned (.bool (rightB x y z)) ∧ Below w.heap.size w w' := by
  have hn := fun w => neq_vec x y z 0 0 0 w
  go_enter Tryd.func96, Tryd.ntmps96
  go_wp2_with fail
  refine (l02Within_any 1000000 x y z _ (by omega) (by omega)).mono ?_
  rintro e w1 ⟨rfl, hB1⟩
  have hB : Below w.heap.size w w1 := below_call (below1 _ _) hB1
  have hc : ∀ i : Nat, w1.cell? ⟨w.heap.size, i, none⟩ = _ := fun i => hB1.cell (p := ⟨w.heap.size, i, none⟩) (by simp)
  have c0 := hc 0
  have c1 := hc 1
  have c2 := hc 2
  simp at c0 c1 c2
  clear hB1 hc
  cases hx : withinB 1000000 x y z
  · go_wp2_with fail
    go_ret
    exact ⟨by simp [rightB, hx], hB⟩
  · go_wp2_with fail
    go_ret
    exact ⟨by simp [rightB, hx]; rfl, hB⟩
end Go.Proofs.YtnffnjljjecphaaDoor

namespace Go.Proofs.YtnffnjljjecphaaDoor
open Go.RowKit
set_option linter.unusedVariables false

def VecAt (w : World) (b : Nat) (x y z : Int) : Prop := w.cell? ⟨b, 0, none⟩ = some (.int .i64 x) ∧ w.cell? ⟨b, 1, none⟩ = some (.int .i64 y) ∧ w.cell? ⟨b, 2, none⟩ = some (.int .i64 z)
def FreeAt (w : World) (b : Nat) : Prop := w.frozen? ⟨b, 0, none⟩ = false ∧ w.frozen? ⟨b, 1, none⟩ = false ∧ w.frozen? ⟨b, 2, none⟩ = false
theorem VecAt.kept {w w' : World} {b : Nat} {x y z : Int} (h : VecAt w b x y z) (hb : b < w.heap.size) (hB : Below w.heap.size w w') : VecAt w' b x y z := by
  obtain ⟨h0, h1, h2⟩ := h
  exact ⟨by rw [hB.cell (p := ⟨b, 0, none⟩) hb]; exact h0, by rw [hB.cell (p := ⟨b, 1, none⟩) hb]; exact h1, by rw [hB.cell (p := ⟨b, 2, none⟩) hb]; exact h2⟩
theorem FreeAt.kept {w w' : World} {b : Nat} (h : FreeAt w b) (hb : b < w.heap.size) (hB : Below w.heap.size w w') : FreeAt w' b := by
  obtain ⟨h0, h1, h2⟩ := h
  exact ⟨by rw [hB.frozen (p := ⟨b, 0, none⟩) hb]; exact h0, by rw [hB.frozen (p := ⟨b, 1, none⟩) hb]; exact h1, by rw [hB.frozen (p := ⟨b, 2, none⟩) hb]; exact h2⟩
theorem vecAt_new (w : World) (x y z : Int) (t : TypeId) : VecAt (w.alloc (.cells #[.int .i64 x, .int .i64 y, .int .i64 z] t)) w.heap.size x y z := by
  refine ⟨?_, ?_, ?_⟩ <;> simp
theorem freeAt_new (w : World) (x y z : Int) (t : TypeId) : FreeAt (w.alloc (.cells #[.int .i64 x, .int .i64 y, .int .i64 z] t)) w.heap.size := by
  refine ⟨?_, ?_, ?_⟩ <;> simp
theorem VecAt.alloc {w : World} {b : Nat} {x y z : Int} (h : VecAt w b x y z) (hb : b < w.heap.size) (o : Obj) : VecAt (w.alloc o) b x y z := h.kept hb (below1 _ _)
theorem below_set3 {w w1 : World} {b : Nat} (h : Below w.heap.size w w1) (hb : w.heap.size ≤ b) (x y z : Value) : Below w.heap.size w (((w1.setCell ⟨b, 0, none⟩ x).setCell ⟨b, 1, none⟩ y).setCell ⟨b, 2, none⟩ z) := ((h.setCell hb _).setCell hb _).setCell hb _
theorem below4 (w : World) (a b c d : Obj) : Below w.heap.size w ((((w.alloc a).alloc b).alloc c).alloc d) := (below3 w a b c).alloc (by simp; omega) _

set_option maxRecDepth 100000 in
theorem dot_any (a1 a2 a3 b1 b2 b3 : Int) (w : World) :
    Calls Tryd.prog 123 #[.agg #[.int .i64 a1, .int .i64 a2, .int .i64 a3], .agg #[.int .i64 b1, .int .i64 b2, .int .i64 b3]] w fun e w' => e = .returned (.int .i64 (dotI a1 a2 a3 b1 b2 b3)) ∧ Below w.heap.size w w' := by
  go_enter Tryd.func123, Tryd.ntmps123
  go_wp2_with fail
  refine (vecRight_any a1 a2 a3 _).mono ?_
  rintro e w1 ⟨rfl, hB1⟩
  have hB : Below w.heap.size w w1 := below_call (below2 _ _ _) hB1
  have hs : w.heap.size + 2 ≤ w1.heap.size := by have := hB1.size; simpa [Nat.add_assoc] using this
  have va : VecAt w1 w.heap.size a1 a2 a3 := ((by simpa using vecAt_new w a1 a2 a3 _ : VecAt _ w.heap.size a1 a2 a3).alloc (by simp) _).kept (by simp; omega) hB1
  have vb : VecAt w1 (w.heap.size + 1) b1 b2 b3 := (by simpa using vecAt_new (w.alloc _) b1 b2 b3 _ : VecAt _ (w.heap.size + 1) b1 b2 b3).kept (by simp) hB1
  clear hB1
  have hva := va
  obtain ⟨ca0, ca1, ca2⟩ := va
  have hvb := vb
  obtain ⟨cb0, cb1, cb2⟩ := vb
  cases ha : rightB a1 a2 a3
  · go_wp2_with fail
    go_ret
    exact ⟨by simp [dotI, ha], hB⟩
  · go_wp2_with fail
    refine (vecRight_any b1 b2 b3 _).mono ?_
    rintro e w2 ⟨rfl, hB2⟩
    have va := hva.kept (by omega) hB2
    have vb := hvb.kept (by omega) hB2
    replace hs : w.heap.size + 2 ≤ w2.heap.size := by have := hB2.size; omega
    replace hB : Below w.heap.size w w2 := below_call hB hB2
    clear hva ca0 ca1 ca2 hvb cb0 cb1 cb2
    clear hB2
    have hva := va
    obtain ⟨ca0, ca1, ca2⟩ := va
    have hvb := vb
    obtain ⟨cb0, cb1, cb2⟩ := vb
    cases hb : rightB b1 b2 b3
    · go_wp2_with fail
      go_ret
      exact ⟨by simp [dotI, hb], hB⟩
    · go_wp2_with fail
      refine (times_any a1 a2 a3 b1 b2 b3 _).mono ?_
      rintro e w3 ⟨rfl, hB3⟩
      go_wp2_with fail
      go_ret
      exact ⟨by simp [dotI, ha, hb], below_call hB hB3⟩
set_option maxRecDepth 100000 in
theorem cross_any (a1 a2 a3 b1 b2 b3 : Int) (w : World) :
    Calls Tryd.prog 122 #[.agg #[.int .i64 a1, .int .i64 a2, .int .i64 a3], .agg #[.int .i64 b1, .int .i64 b2, .int .i64 b3]] w fun e w' => e = .returned (.agg #[.int .i64 (crI (rightB a1 a2 a3 && rightB b1 b2 b3) a2 a3 b2 b3), .int .i64 (crI (rightB a1 a2 a3 && rightB b1 b2 b3) a3 a1 b3 b1), .int .i64 (crI (rightB a1 a2 a3 && rightB b1 b2 b3) a1 a2 b1 b2)]) ∧ Below w.heap.size w w' := by
  go_enter Tryd.func122, Tryd.ntmps122
  go_wp2_with fail
  refine (vecRight_any a1 a2 a3 _).mono ?_
  rintro e w1 ⟨rfl, hB1⟩
  have hB : Below w.heap.size w w1 := below_call (below3 _ _ _ _) hB1
  have hs : w.heap.size + 3 ≤ w1.heap.size := by have := hB1.size; simpa [Nat.add_assoc] using this
  have va : VecAt w1 w.heap.size a1 a2 a3 := (((by simpa using vecAt_new w a1 a2 a3 _ : VecAt _ w.heap.size a1 a2 a3).alloc (by simp) _).alloc (by simp; omega) _).kept (by simp; omega) hB1
  have vb : VecAt w1 (w.heap.size + 1) b1 b2 b3 := ((by simpa using vecAt_new (w.alloc _) b1 b2 b3 _ : VecAt _ (w.heap.size + 1) b1 b2 b3).alloc (by simp) _).kept (by simp) hB1
  have vr : VecAt w1 (w.heap.size + 1 + 1) 0 0 0 := (by simpa using vecAt_new ((w.alloc _).alloc _) 0 0 0 _ : VecAt _ (w.heap.size + 1 + 1) 0 0 0).kept (by simp) hB1
  have fr : FreeAt w1 (w.heap.size + 1 + 1) := (by simpa using freeAt_new ((w.alloc _).alloc _) 0 0 0 _ : FreeAt _ (w.heap.size + 1 + 1)).kept (by simp) hB1
  clear hB1
  have hva := va
  obtain ⟨ca0, ca1, ca2⟩ := va
  have hvb := vb
  obtain ⟨cb0, cb1, cb2⟩ := vb
  have hvr := vr
  have hfr := fr
  obtain ⟨cr0, cr1, cr2⟩ := vr
  obtain ⟨fr0, fr1, fr2⟩ := fr
  cases ha : rightB a1 a2 a3
  · go_wp2_with fail
    exact bodyPost_ret (v := .agg #[.int .i64 0, .int .i64 0, .int .i64 0]) (by simp [results, Tryd.results122, go_sem, cr0, cr1, cr2]) rfl ⟨by simp [crI, ha], below_set3 hB (by omega) _ _ _⟩
  · go_wp2_with fail
    refine (vecRight_any b1 b2 b3 _).mono ?_
    rintro e w2 ⟨rfl, hB2⟩
    have va := hva.kept (by omega) hB2
    have vb := hvb.kept (by omega) hB2
    have vr := hvr.kept (by omega) hB2
    have fr := hfr.kept (by omega) hB2
    replace hs : w.heap.size + 3 ≤ w2.heap.size := by have := hB2.size; omega
    replace hB : Below w.heap.size w w2 := below_call hB hB2
    clear hva ca0 ca1 ca2 hvb cb0 cb1 cb2 hvr hfr cr0 cr1 cr2 fr0 fr1 fr2
    clear hB2
    have hva := va
    obtain ⟨ca0, ca1, ca2⟩ := va
    have hvb := vb
    obtain ⟨cb0, cb1, cb2⟩ := vb
    have hvr := vr
    have hfr := fr
    obtain ⟨cr0, cr1, cr2⟩ := vr
    obtain ⟨fr0, fr1, fr2⟩ := fr
    cases hb : rightB b1 b2 b3
    · go_wp2_with fail
      exact bodyPost_ret (v := .agg #[.int .i64 0, .int .i64 0, .int .i64 0]) (by simp [results, Tryd.results122, go_sem, cr0, cr1, cr2]) rfl ⟨by simp [crI, hb], below_set3 hB (by omega) _ _ _⟩
    · go_wp2_with fail
      exact bodyPost_ret (v := .agg #[.int .i64 (crW a2 a3 b2 b3), .int .i64 (crW a3 a1 b3 b1), .int .i64 (crW a1 a2 b1 b2)]) (by simp [results, Tryd.results122, go_sem, cr0, cr1, cr2, crW]) rfl ⟨by simp [crI, ha, hb], below_set3 hB (by omega) _ _ _⟩
set_option maxRecDepth 100000 in
theorem l02Cross_any (a1 a2 a3 b1 b2 b3 : Int) (w : World) :
    Calls Tryd.prog 98 #[.agg #[.int .i64 a1, .int .i64 a2, .int .i64 a3], .agg #[.int .i64 b1, .int .i64 b2, .int .i64 b3]] w fun e w' => e = .returned (.agg #[.int .i64 (crW a2 a3 b2 b3), .int .i64 (crW a3 a1 b3 b1), .int .i64 (crW a1 a2 b1 b2)]) ∧ Below w.heap.size w w' := by
  go_enter Tryd.func98, Tryd.ntmps98
  go_wp2
  exact bodyPost_ret (v := .agg #[.int .i64 (crW a2 a3 b2 b3), .int .i64 (crW a3 a1 b3 b1), .int .i64 (crW a1 a2 b1 b2)]) (by simp [results, Tryd.results98, go_sem, crW]) rfl ⟨rfl, below3 _ _ _ _⟩
end Go.Proofs.YtnffnjljjecphaaDoor

namespace Go.Proofs.YtnffnjljjecphaaDoor
open Go.RowKit Go.Sort
set_option linter.unusedVariables false

end Go.Proofs.YtnffnjljjecphaaDoor

namespace Go.Proofs.YtnffnjljjecphaaDoor
open Go.RowKit Go.Sort
set_option linter.unusedVariables false

theorem sameB_eq (a1 a2 a3 b1 b2 b3 : Int) : sameB a1 a2 a3 b1 b2 b3 = (eqB (crI (rightB a1 a2 a3 && rightB b1 b2 b3) a2 a3 b2 b3) (crI (rightB a1 a2 a3 && rightB b1 b2 b3) a3 a1 b3 b1) (crI (rightB a1 a2 a3 && rightB b1 b2 b3) a1 a2 b1 b2) 0 0 0 && decide (0 < dotI a1 a2 a3 b1 b2 b3)) := by
  unfold sameB crI dotI
  cases h : (rightB a1 a2 a3 && rightB b1 b2 b3)
  · simp
  · simp [eqB, zeroB]

set_option maxRecDepth 100000 in
theorem sameWay_any (a1 a2 a3 b1 b2 b3 : Int) (w : World) :
    Calls Tryd.prog 115 #[.agg #[.int .i64 a1, .int .i64 a2, .int .i64 a3], .agg #[.int .i64 b1, .int .i64 b2, .int .i64 b3]] w fun e w' => e = .returned (.bool (sameB a1 a2 a3 b1 b2 b3)) ∧ Below w.heap.size w w' := by
  have HS := hide (sameB_eq a1 a2 a3 b1 b2 b3)
  go_enter Tryd.func115, Tryd.ntmps115
  go_wp2_with fail
  refine (cross_any a1 a2 a3 b1 b2 b3 _).mono ?_
  rintro e w1 ⟨rfl, hB1⟩
  have hB : Below w.heap.size w w1 := below_call (below2 _ _ _) hB1
  have va : VecAt w1 w.heap.size a1 a2 a3 := ((vecAt_new w a1 a2 a3 _).alloc (by simp) _).kept (by simp; omega) hB1
  have vb : VecAt w1 (w.heap.size + 1) b1 b2 b3 := (by simpa using vecAt_new (w.alloc _) b1 b2 b3 _ : VecAt _ (w.heap.size + 1) b1 b2 b3).kept (by simp) hB1
  clear hB1
  obtain ⟨ca0, ca1, ca2⟩ := va
  obtain ⟨cb0, cb1, cb2⟩ := vb
  generalize crI (rightB a1 a2 a3 && rightB b1 b2 b3) a2 a3 b2 b3 = x at HS ⊢
  generalize crI (rightB a1 a2 a3 && rightB b1 b2 b3) a3 a1 b3 b1 = y at HS ⊢
  generalize crI (rightB a1 a2 a3 && rightB b1 b2 b3) a1 a2 b1 b2 = z at HS ⊢
  have he := fun w => eql_vec x y z 0 0 0 w
  cases hz : eqB x y z 0 0 0
  · rw [hz] at he HS
    go_wp2_with fail
    go_ret
    exact ⟨by rw [unhide HS]; rfl, hB⟩
  · rw [hz] at he HS
    go_wp2_with fail
    refine (dot_any a1 a2 a3 b1 b2 b3 _).mono ?_
    rintro e w2 ⟨rfl, hB2⟩
    replace hB := below_call hB hB2
    go_wp2_with fail
    go_ret
    exact ⟨by rw [unhide HS, Bool.true_and]; rfl, hB⟩
set_option maxRecDepth 100000 in
theorem l02Same_any (a1 a2 a3 b1 b2 b3 : Int) (w : World) :
    Calls Tryd.prog 66 #[.agg #[.int .i64 a1, .int .i64 a2, .int .i64 a3], .agg #[.int .i64 b1, .int .i64 b2, .int .i64 b3]] w fun e w' => e = .returned (.bool (eqB (crW a2 a3 b2 b3) (crW a3 a1 b3 b1) (crW a1 a2 b1 b2) 0 0 0 && decide (0 < dotW a1 a2 a3 b1 b2 b3))) ∧ Below w.heap.size w w' := by
  go_enter Tryd.func66, Tryd.ntmps66
  go_wp2_with fail
  refine (l02Cross_any a1 a2 a3 b1 b2 b3 _).mono ?_
  rintro e w1 ⟨rfl, hB1⟩
  have hB : Below w.heap.size w w1 := below_call (below2 _ _ _) hB1
  have va : VecAt w1 w.heap.size a1 a2 a3 := ((vecAt_new w a1 a2 a3 _).alloc (by simp) _).kept (by simp; omega) hB1
  have vb : VecAt w1 (w.heap.size + 1) b1 b2 b3 := (by simpa using vecAt_new (w.alloc _) b1 b2 b3 _ : VecAt _ (w.heap.size + 1) b1 b2 b3).kept (by simp) hB1
  clear hB1
  obtain ⟨ca0, ca1, ca2⟩ := va
  obtain ⟨cb0, cb1, cb2⟩ := vb
  have he := fun w => eql_vec (crW a2 a3 b2 b3) (crW a3 a1 b3 b1) (crW a1 a2 b1 b2) 0 0 0 w
  cases hz : eqB (crW a2 a3 b2 b3) (crW a3 a1 b3 b1) (crW a1 a2 b1 b2) 0 0 0
  · rw [hz] at he
    go_wp2_with fail
    go_ret
    exact ⟨by rw [hz]; rfl, hB⟩
  · rw [hz] at he
    go_wp2_with fail
    refine (l02Dot_any a1 a2 a3 b1 b2 b3 _).mono ?_
    rintro e w2 ⟨rfl, hB2⟩
    replace hB := below_call hB hB2
    go_wp2_with fail
    go_ret
    exact ⟨by rw [hz, Bool.true_and]; rfl, hB⟩
end Go.Proofs.YtnffnjljjecphaaDoor

namespace Go.Proofs.YtnffnjljjecphaaDoor
open Go.RowKit Go.Sort
set_option linter.unusedVariables false

set_option maxRecDepth 100000 in
theorem isWide_any (x y z : Int) (w : World) :
    Calls Tryd.prog 102 #[.agg #[.int .i64 x, .int .i64 y, .int .i64 z]] w fun e w' => e = .returned (.bool (wideB x y z)) ∧ Below w.heap.size w w' := by
  go_enter Tryd.func102, Tryd.ntmps102
  go_wp2_with fail
  refine (vecRight_any x y z _).mono ?_
  rintro e w1 ⟨rfl, hB1⟩
  have hB : Below w.heap.size w w1 := below_call (below1 _ _) hB1
  have va : VecAt w1 w.heap.size x y z := (vecAt_new w x y z _).kept (by simp) hB1
  clear hB1
  obtain ⟨ca0, ca1, ca2⟩ := va
  cases ha : rightB x y z
  · go_wp2_with fail
    go_ret
    exact ⟨by simp [wideB, ha], hB⟩
  · go_wp2_with fail
    refine (within_any 1800 x y z _ (by omega) (by omega)).mono ?_
    rintro e w2 ⟨rfl, hB2⟩
    replace hB := below_call hB hB2
    go_wp2_with fail
    go_ret
    exact ⟨by simp [wideB, ha], hB⟩
set_option maxRecDepth 100000 in
theorem isSmall_any (x y z : Int) (w : World) :
    Calls Tryd.prog 124 #[.agg #[.int .i64 x, .int .i64 y, .int .i64 z]] w fun e w' => e = .returned (.bool (smallB x y z)) ∧ Below w.heap.size w w' := by
  go_enter Tryd.func124, Tryd.ntmps124
  go_wp2_with fail
  refine (vecRight_any x y z _).mono ?_
  rintro e w1 ⟨rfl, hB1⟩
  have hB : Below w.heap.size w w1 := below_call (below1 _ _) hB1
  have va : VecAt w1 w.heap.size x y z := (vecAt_new w x y z _).kept (by simp) hB1
  clear hB1
  obtain ⟨ca0, ca1, ca2⟩ := va
  cases ha : rightB x y z
  · go_wp2_with fail
    go_ret
    exact ⟨by simp [smallB, ha], hB⟩
  · go_wp2_with fail
    refine (within_any 10 x y z _ (by omega) (by omega)).mono ?_
    rintro e w2 ⟨rfl, hB2⟩
    replace hB := below_call hB hB2
    go_wp2_with fail
    go_ret
    exact ⟨by simp [smallB, ha], hB⟩
theorem wideB_iff {x y z : Int} (h : wideB x y z = true) : rightB x y z = true ∧ withinB 1800 x y z = true := by simpa [wideB] using h
theorem smallB_iff {x y z : Int} (h : smallB x y z = true) : rightB x y z = true ∧ withinB 10 x y z = true := by simpa [smallB] using h
theorem cos_eq {a1 a2 a3 b1 b2 b3 c1 c2 c3 d1 d2 d3 : Int} (ha : wideB a1 a2 a3 = true) (hb : wideB b1 b2 b3 = true) (hc : smallB c1 c2 c3 = true) (hd : smallB d1 d2 d3 = true) :
    cosI a1 a2 a3 b1 b2 b3 c1 c2 c3 d1 d2 d3 = ordI (wrap64 (ssqW (dotI a1 a2 a3 b1 b2 b3) * wrap64 (dotW c1 c2 c3 c1 c2 c3 * dotW d1 d2 d3 d1 d2 d3))) (wrap64 (ssqW (dotI c1 c2 c3 d1 d2 d3) * wrap64 (dotW a1 a2 a3 a1 a2 a3 * dotW b1 b2 b3 b1 b2 b3))) := by
  have h := cos_impl (wideB_iff ha).2 (wideB_iff hb).2 (smallB_iff hc).2 (smallB_iff hd).2
  unfold cosI dotI
  rw [(wideB_iff ha).1, (wideB_iff hb).1, (smallB_iff hc).1, (smallB_iff hd).1, ha, hb, hc, hd, if_pos (by rfl), if_pos (by rfl), if_pos (by rfl), h.1, h.2]
end Go.Proofs.YtnffnjljjecphaaDoor

namespace Go.Proofs.YtnffnjljjecphaaDoor
open Go.RowKit Go.Sort
set_option linter.unusedVariables false

set_option maxRecDepth 100000 in
theorem l04Wide_any (x y z : Int) (w : World) :
    Calls Tryd.prog 65 #[.agg #[.int .i64 x, .int .i64 y, .int .i64 z]] w fun e w' => e = .returned (.bool (wideB x y z)) ∧ Below w.heap.size w w' := by
  have A0 := vecAt_new w x y z 75
  have B0 := below1 w (.cells #[.int .i64 x, .int .i64 y, .int .i64 z] 75)
  have cR := hide (fun W => specRight_any x y z W)
  have cW := hide (fun W => l02Within_any 1800 x y z W (by omega) (by omega))
  have HW : Hid (wideB x y z = (rightB x y z && withinB 1800 x y z)) := hide rfl
  generalize wideB x y z = wv at *
  generalize withinB 1800 x y z = wi at *
  go_enter Tryd.func65, Tryd.ntmps65
  go_wp2_with fail
  refine (unhide cR _).mono ?_
  rintro e w1 ⟨rfl, hx⟩
  obtain ⟨c0, c1, c2⟩ := A0.kept (World.block_lt_of_cell? _ _ A0.1) hx
  have B1 := below_call B0 hx
  clear hx B0 A0
  cases hr : rightB x y z
  · rw [hr] at HW
    go_wp2_with fail
    go_ret
    exact ⟨by rw [unhide HW]; rfl, B1⟩
  · rw [hr] at HW
    go_wp2_with fail
    refine (unhide cW _).mono ?_
    rintro e w2 ⟨rfl, hx⟩
    have B2 := below_call B1 hx
    clear hx B1
    go_wp2_with fail
    go_ret
    exact ⟨by rw [unhide HW]; rfl, B2⟩
end Go.Proofs.YtnffnjljjecphaaDoor
