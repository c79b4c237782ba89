/- l04Pairs, the specification's. -/
import Derived.Test.YtjdehbpgdplolaaDoorPairB
namespace Go.Proofs.YtjdehbpgdplolaaDoor
open Go.RowKit Go.Sort
set_option linter.unusedVariables false

theorem belowNew {w5 W6 V6 : World} {g : Nat} (h : Below w5.heap.size w5 W6) (hg : W6.grownBy V6 (some g)) (hge : w5.heap.size ≤ g) : Below w5.heap.size w5 V6 :=
  h.trans ⟨hg.os, hg.tape, hg.output, hg.size, fun k hk => hg.block k (Nat.lt_of_lt_of_le hk h.size) (fun e => by have := Option.some.inj e; omega)⟩
theorem pair_cells (w : World) (x y : Int) (t : TypeId) : ∀ (j : Nat) (u : Value), (flatP [(x, y)])[j]? = some u → (w.alloc (.cells #[.int .i64 x, .int .i64 y] t)).cell? ((⟨w.heap.size, 0, none⟩ : Addr).add j) = some u := by
  intro j u hj
  have e : flatP [(x, y)] = [.int .i64 x, .int .i64 y] := rfl
  rw [e] at hj
  match j, hj with
  | 0, hj => simp at hj; subst hj; simp [Addr.add]
  | 1, hj => simp at hj; subst hj; simp [Addr.add]
  | j + 2, hj => simp at hj
theorem holdP {wr wx : World} {p q : Addr} {x y : Value} (hp : wr.cell? p = some x) (hq : wr.cell? q = some y) (h : Below wr.heap.size wr wx) : (wx.cell? p = some x ∧ wx.cell? q = some y) ∧ Below wr.heap.size wr wx :=
  ⟨⟨by rw [h.cell (World.block_lt_of_cell? _ _ hp)]; exact hp, by rw [h.cell (World.block_lt_of_cell? _ _ hq)]; exact hq⟩, h⟩
def ResvP (w : World) (b : Nat) : Prop := PairAt w b 0 0 ∧ w.frozen? ⟨b, 0, none⟩ = false ∧ w.frozen? ⟨b, 1, none⟩ = false
theorem stepSetP {w1 wx : World} {X : Prop} {b : Nat} (h : X ∧ Below w1.heap.size w1 wx) (hb : w1.heap.size ≤ b) (x y : Value) : Below w1.heap.size w1 ((wx.setCell ⟨b, 0, none⟩ x).setCell ⟨b, 1, none⟩ y) := (h.2.setCell hb _).setCell hb _

end Go.Proofs.YtjdehbpgdplolaaDoor
