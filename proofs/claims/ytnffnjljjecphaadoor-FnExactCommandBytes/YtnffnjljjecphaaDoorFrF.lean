/- The law on FrameLess, walked. -/
import Derived.Test.YtnffnjljjecphaaDoorFrE
import Derived.Deep.RegionHeld
import Derived.Deep.DeepCutAuto
namespace Go.Proofs.YtnffnjljjecphaaDoor
open Go.RowKit Go.Sort
set_option linter.unusedVariables false

theorem stepCallX {w1 wx wn : World} {X : Prop} (hx : Below wx.heap.size wx wn) (h : X ∧ Below w1.heap.size w1 wx) : Below w1.heap.size w1 wn := below_call h.2 hx
theorem stepAllocX {w1 wx : World} {X : Prop} (h : X ∧ Below w1.heap.size w1 wx) (o : Obj) : Below w1.heap.size w1 (wx.alloc o) := h.2.alloc h.2.size _
theorem stepAllocY {w1 wx : World} (h : Below w1.heap.size w1 wx) (o : Obj) : Below w1.heap.size w1 (wx.alloc o) := h.alloc h.size _
def ResvFO (w : World) (b : Nat) : Prop := SAt w b [.int .i64 0, .int .i64 0, .string ⟨#[]⟩, .int .i64 0] ∧ w.frozen? ⟨b, 0, none⟩ = false ∧ w.frozen? ⟨b, 1, none⟩ = false ∧ w.frozen? ⟨b, 2, none⟩ = false ∧ w.frozen? ⟨b, 3, none⟩ = false
theorem resFO_new (w : World) (t : TypeId) : ResvFO (w.alloc (.cells #[.int .i64 0, .int .i64 0, .string ⟨#[]⟩, .int .i64 0] t)) w.heap.size := ⟨sAt_new w [.int .i64 0, .int .i64 0, .string ⟨#[]⟩, .int .i64 0] t, by simp, by simp, by simp, by simp⟩
theorem keptFO {wx wn : World} {b : Nat} (h : ResvFO wx b) (hx : Below wx.heap.size wx wn) : ResvFO wn b := by
  have hl := h.1.lt
  obtain ⟨h0, f0, f1, f2, f3⟩ := h
  exact ⟨h0.kept hx, by rw [hx.frozen (p := ⟨b, 0, none⟩) hl]; exact f0, by rw [hx.frozen (p := ⟨b, 1, none⟩) hl]; exact f1, by rw [hx.frozen (p := ⟨b, 2, none⟩) hl]; exact f2, by rw [hx.frozen (p := ⟨b, 3, none⟩) hl]; exact f3⟩
theorem newFO {wy wn : World} {t : TypeId} (hx : Below (wy.alloc (.cells #[.int .i64 0, .int .i64 0, .string ⟨#[]⟩, .int .i64 0] t)).heap.size (wy.alloc (.cells #[.int .i64 0, .int .i64 0, .string ⟨#[]⟩, .int .i64 0] t)) wn) : ResvFO wn wy.heap.size := keptFO (resFO_new wy t) hx
theorem newDFO {wy wn : World} {t : TypeId} (hx : Below ((wy.alloc (.cells #[.int .i64 0, .int .i64 0, .string ⟨#[]⟩, .int .i64 0] t)).drew).heap.size ((wy.alloc (.cells #[.int .i64 0, .int .i64 0, .string ⟨#[]⟩, .int .i64 0] t)).drew) wn) : ResvFO wn wy.heap.size := keptFO (show ResvFO (wy.alloc (.cells #[.int .i64 0, .int .i64 0, .string ⟨#[]⟩, .int .i64 0] t)).drew wy.heap.size from resFO_new wy t) hx
theorem setFO {w : World} {b : Nat} (h : ResvFO w b) (x0 x1 x2 x3 : Value) : SAt ((((w.setCell ⟨b, 0, none⟩ x0).setCell ⟨b, 1, none⟩ x1).setCell ⟨b, 2, none⟩ x2).setCell ⟨b, 3, none⟩ x3) b [x0, x1, x2, x3] := by
  have hc : ∀ i v, [.int .i64 0, .int .i64 0, .string ⟨#[]⟩, .int .i64 0][i]? = some v → w.cell? ⟨b, i, none⟩ = some v := h.1
  have c0 := hc 0 _ rfl
  have c1 := hc 1 _ rfl
  have c2 := hc 2 _ rfl
  have c3 := hc 3 _ rfl
  clear hc h
  intro i v hv
  match i, hv with
  | 0, hv => simp at hv; subst hv; simp [go_sem, *]
  | 1, hv => simp at hv; subst hv; simp [go_sem, *]
  | 2, hv => simp at hv; subst hv; simp [go_sem, *]
  | 3, hv => simp at hv; subst hv; simp [go_sem, *]
  | i + 4, hv => simp at hv
theorem belFO {w1 wx : World} {b : Nat} (h : Below w1.heap.size w1 wx) (hb : w1.heap.size ≤ b) (x0 x1 x2 x3 : Value) : Below w1.heap.size w1 ((((wx.setCell ⟨b, 0, none⟩ x0).setCell ⟨b, 1, none⟩ x1).setCell ⟨b, 2, none⟩ x2).setCell ⟨b, 3, none⟩ x3) := ((((h.setCell hb _).setCell hb _).setCell hb _).setCell hb _)
theorem holdFF {w1 wx : World} {A B : Nat} {a0 a1 a2 b0 b1 b2 : Value} (va : SAt w1 A [a0, a1, a2]) (vb : SAt w1 B [b0, b1, b2]) (h : Below w1.heap.size w1 wx) : (wx.cell? ⟨A, 0, none⟩ = some a0 ∧ wx.cell? ⟨A, 1, none⟩ = some a1 ∧ wx.cell? ⟨A, 2, none⟩ = some a2 ∧ wx.cell? ⟨B, 0, none⟩ = some b0 ∧ wx.cell? ⟨B, 1, none⟩ = some b1 ∧ wx.cell? ⟨B, 2, none⟩ = some b2) ∧ Below w1.heap.size w1 wx := by
  obtain ⟨h0, h1, h2⟩ := (va.kept h).c3
  obtain ⟨g0, g1, g2⟩ := (vb.kept h).c3
  exact ⟨⟨h0, h1, h2, g0, g1, g2⟩, h⟩
theorem lessV_form (w1 h1 : Int) (f : ByteArray) (w2 h2 : Int) (d : ByteArray) : ∃ (x y z : Int) (s : ByteArray), lessV w1 h1 f w2 h2 d = .agg #[.int .i64 x, .int .i64 y, .string s, .int .i64 z] := by
  unfold lessV
  split
  · exact ⟨_, _, _, _, rfl⟩
  · exact ⟨_, _, _, _, rfl⟩
theorem SAt.c4 {w : World} {b : Nat} {x y z u : Value} (h : SAt w b [x, y, z, u]) : w.cell? ⟨b, 0, none⟩ = some x ∧ w.cell? ⟨b, 1, none⟩ = some y ∧ w.cell? ⟨b, 2, none⟩ = some z ∧ w.cell? ⟨b, 3, none⟩ = some u := ⟨h 0 x rfl, h 1 y rfl, h 2 z rfl, h 3 u rfl⟩
theorem neq_str_self (s : ByteArray) (w : World) : (binOp .neq 9 (.string s) (.string s)).run Tryd.prog w = .ok (.bool false) w := by simp [go_sem]
set_option maxRecDepth 100000 in
theorem eqFrame_same (x y : Int) (s : ByteArray) (w : World) :
    Calls Tryd.prog 37 #[.agg #[.int .i64 x, .int .i64 y, .string s], .agg #[.int .i64 x, .int .i64 y, .string s]] w fun e w' => e = .returned (.bool true) ∧ Below w.heap.size w w' := by
  have hq := neq_str_self s
  go_enter Tryd.func37, Tryd.ntmps37
  go_wp2_with fail
  go_ret
  exact ⟨rfl, below2 _ _ _⟩
end Go.Proofs.YtnffnjljjecphaaDoor
