/- What a place made in the midst of a statement holds. -/
import Derived.Test.YtjdehbpgdplolaaDoorVecD
import Derived.Deep.RegionHeld
import Derived.Deep.DeepCutAuto
namespace Go.Proofs.YtjdehbpgdplolaaDoor
open Go.RowKit
set_option linter.unusedVariables false
theorem VecAt.lt' {w : World} {b : Nat} {x y z : Int} (h : VecAt w b x y z) : b < w.heap.size := World.block_lt_of_cell? w _ h.1
theorem stepCall {w1 wx wn : World} {X : Prop} (hx : Below wx.heap.size wx wn) (h : X ∧ Below w1.heap.size w1 wx) : Below w1.heap.size w1 wn := below_call h.2 hx
def Resv (w : World) (b : Nat) : Prop := VecAt w b 0 0 0 ∧ FreeAt w b
theorem newVec {wy wn : World} {t : TypeId} (hx : Below (wy.alloc (.cells #[.int .i64 0, .int .i64 0, .int .i64 0] t)).heap.size (wy.alloc (.cells #[.int .i64 0, .int .i64 0, .int .i64 0] t)) wn) : Resv wn wy.heap.size :=
  ⟨(vecAt_new wy 0 0 0 t).kept (by simp) hx, (freeAt_new wy 0 0 0 t).kept (by simp) hx⟩
theorem newVecD {wy wn : World} {t : TypeId} (hx : Below ((wy.alloc (.cells #[.int .i64 0, .int .i64 0, .int .i64 0] t)).drew).heap.size ((wy.alloc (.cells #[.int .i64 0, .int .i64 0, .int .i64 0] t)).drew) wn) : Resv wn wy.heap.size :=
  ⟨(show VecAt (wy.alloc (.cells #[.int .i64 0, .int .i64 0, .int .i64 0] t)).drew wy.heap.size 0 0 0 from vecAt_new wy 0 0 0 t).kept (by simp) hx, (show FreeAt (wy.alloc (.cells #[.int .i64 0, .int .i64 0, .int .i64 0] t)).drew wy.heap.size from freeAt_new wy 0 0 0 t).kept (by simp) hx⟩
theorem keptVec {wx wn : World} {b : Nat} (h : Resv wx b) (hx : Below wx.heap.size wx wn) : Resv wn b := ⟨h.1.kept (VecAt.lt' h.1) hx, h.2.kept (VecAt.lt' h.1) hx⟩
theorem stepAlloc2 {w1 wx : World} (h : Below w1.heap.size w1 wx) (o : Obj) : Below w1.heap.size w1 (wx.alloc o) := h.alloc h.size _
theorem vecAt_set3 {w : World} {b : Nat} (h : Resv w b) (x y z : Int) : VecAt (((w.setCell ⟨b, 0, none⟩ (.int .i64 x)).setCell ⟨b, 1, none⟩ (.int .i64 y)).setCell ⟨b, 2, none⟩ (.int .i64 z)) b x y z := by
  obtain ⟨⟨h0, h1, h2⟩, _⟩ := h
  refine ⟨?_, ?_, ?_⟩ <;> simp [go_sem, h0, h1, h2]
theorem below_set3' {w1 wx : World} {b : Nat} (h : Below w1.heap.size w1 wx) (hb : w1.heap.size ≤ b) (x y z : Value) : Below w1.heap.size w1 (((wx.setCell ⟨b, 0, none⟩ x).setCell ⟨b, 1, none⟩ y).setCell ⟨b, 2, none⟩ z) := ((h.setCell hb _).setCell hb _).setCell hb _
theorem stepAlloc {w1 wx : World} {X : Prop} (h : X ∧ Below w1.heap.size w1 wx) (o : Obj) : Below w1.heap.size w1 (wx.alloc o) := h.2.alloc h.2.size _
theorem stepSet3 {w1 wx : World} {X : Prop} {b : Nat} (h : X ∧ Below w1.heap.size w1 wx) (hb : w1.heap.size ≤ b) (x y z : Value) : Below w1.heap.size w1 (((wx.setCell ⟨b, 0, none⟩ x).setCell ⟨b, 1, none⟩ y).setCell ⟨b, 2, none⟩ z) := ((h.2.setCell hb _).setCell hb _).setCell hb _

end Go.Proofs.YtjdehbpgdplolaaDoor
