/- The law on TrackerRight, walked. -/
import Derived.Test.YtnffnjljjecphaaDoorModB
import Derived.Test.YtnffnjljjecphaaDoorModE
namespace Go.Proofs.YtnffnjljjecphaaDoor
open Go.RowKit Go.Sort
set_option linter.unusedVariables false

theorem stepTkZ {w1 wx wn : World} {X : Prop} (hx : Below wx.heap.size wx wn) (h : X ∧ Below w1.heap.size w1 wx) : Below w1.heap.size w1 wn := below_call h.2 hx
theorem stepTkD {w1 wx wn : World} {X : Prop} (hx : Below wx.drew.heap.size wx.drew wn) (h : X ∧ Below w1.heap.size w1 wx) : Below w1.heap.size w1 wn := h.2.drew.trans (hx.mono h.2.size)
theorem holdTT {w1 wx : World} {P Q : Nat} {u v : Value} {lim mode A B C D coast fr : Int} (ta : TkAt w1 P u lim mode A B C D coast fr) (tb : TkAt w1 Q v lim mode A B C D coast fr) (h : Below w1.heap.size w1 wx) : ((wx.cell? ⟨P, 0, none⟩ = some (u) ∧ wx.cell? ⟨P, 1, none⟩ = some (.int .i64 lim) ∧ wx.cell? ⟨P, 2, none⟩ = some (.int .i64 mode) ∧ wx.cell? ⟨P, 3, none⟩ = some (.int .i64 A) ∧ wx.cell? ⟨P, 4, none⟩ = some (.int .i64 B) ∧ wx.cell? ⟨P, 5, none⟩ = some (.int .i64 C) ∧ wx.cell? ⟨P, 6, none⟩ = some (.int .i64 D) ∧ wx.cell? ⟨P, 7, none⟩ = some (.int .i64 coast) ∧ wx.cell? ⟨P, 8, none⟩ = some (.int .i64 fr)) ∧ (wx.cell? ⟨Q, 0, none⟩ = some (v) ∧ wx.cell? ⟨Q, 1, none⟩ = some (.int .i64 lim) ∧ wx.cell? ⟨Q, 2, none⟩ = some (.int .i64 mode) ∧ wx.cell? ⟨Q, 3, none⟩ = some (.int .i64 A) ∧ wx.cell? ⟨Q, 4, none⟩ = some (.int .i64 B) ∧ wx.cell? ⟨Q, 5, none⟩ = some (.int .i64 C) ∧ wx.cell? ⟨Q, 6, none⟩ = some (.int .i64 D) ∧ wx.cell? ⟨Q, 7, none⟩ = some (.int .i64 coast) ∧ wx.cell? ⟨Q, 8, none⟩ = some (.int .i64 fr))) ∧ Below w1.heap.size w1 wx := ⟨⟨ta.kept h, tb.kept h⟩, h⟩

end Go.Proofs.YtnffnjljjecphaaDoor
