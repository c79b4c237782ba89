/- Several texts in one: StM. -/
import Derived.OwnWalk
import Derived.Maps.AppendAt
import Derived.Deep.CutRange
import Derived.Deep.DeepCutAuto
import Derived.BigRegion
import Derived.Sort.LotA
import Derived.Sort.LotB
import Derived.Sort.LotC
import Derived.Sort.LotD3
import Derived.BigQuiet
import Derived.Lib.QuietBelow
import Derived.Test.YtackifnnhjbgbaaQFnFrameOwn2
namespace Go.Proofs.Ytackifnnhjbgbaa
set_option linter.unusedVariables false
set_option linter.unusedSimpArgs false
set_option maxRecDepth 100000
set_option maxHeartbeats 8000000
section
open Go.RowKit
structure aN (w : World) (g : Nat) (d : Array Int) (wr : World) : Prop where
 grown : w.grownBy wr (some g)
 lt : g < w.heap.size
 cells : ∀ j, j < d.size → wr.cell? ⟨g, j, none⟩ = some (.int .u8 d[j]!)
 free : ∀ j, j < d.size → wr.frozen? ⟨g, j, none⟩ = false
theorem aN.kept {w wr wx : World} {g : Nat} {d : Array Int} (h : aN w g d wr) (hB : Below wr.heap.size wr wx) : aN w g d wx := by
 have hl : g < wr.heap.size := Nat.lt_of_lt_of_le h.lt h.grown.size
 refine ⟨⟨hB.os.trans h.grown.os, hB.tape.trans h.grown.tape, hB.output.trans h.grown.output, Nat.le_trans h.grown.size hB.size, fun k hk hne => by rw [hB.block k (Nat.lt_of_lt_of_le hk h.grown.size)]; exact h.grown.block k hk hne⟩, h.lt, fun j hj => ?_, fun j hj => ?_⟩
 ·rw [hB.cell (p := ⟨g, j, none⟩) hl]; exact h.cells j hj
 ·rw [hB.frozen (p := ⟨g, j, none⟩) hl]; exact h.free j hj
theorem aN.refl {w : World} {g : Nat} {d : Array Int} {wr : World} (h : aN w g d wr) : aN wr g d wr := ⟨fQ _ _, Nat.lt_of_lt_of_le h.lt h.grown.size, h.cells, h.free⟩
theorem aN.trans {w wr wx : World} {g : Nat} {d d' : Array Int} (h : aN w g d wr) (h2 : aN wr g d' wx) : aN w g d' wx := ⟨h.grown.trans h2.grown, h.lt, h2.cells, h2.free⟩
theorem aN.drewn {w wr : World} {g : Nat} {d : Array Int} (h : aN w g d wr) : aN w g d wr.drew := h.kept (Below.refl wr.heap.size wr).drew
theorem aN.set {w wr : World} {g : Nat} {d : Array Int} (h : aN w g d wr) (i : Nat) (x : Int) (hi : i < d.size) : aN w g (d.setIfInBounds i x) (wr.setCell ⟨g, i, none⟩ (.int .u8 x)) := by
 refine ⟨fu h.grown i _, h.lt, fun j hj => ?_, fun j hj => ?_⟩
 ·rw [Array.size_setIfInBounds] at hj
  by_cases e : j = i
  ·subst e
   rw [Sort.getElem!_set_same d j x hj, World.cell?_setCell_same _ _ _ (h.cells j hj)]
  ·rw [Sort.getElem!_set_other d i j x e, World.cell?_setCell_other _ _ _ _ (fun h => e (by simpa using (congrArg Addr.off h).symm)), h.cells j hj]
 ·rw [Array.size_setIfInBounds] at hj
  rw [← h.free j hj]
  simp
theorem aN.swp {w wr : World} {g : Nat} {d : Array Int} (h : aN w g d wr) (i j : Nat) (hi : i < d.size) (hj : j < d.size) : aN w g (Sort.swp d i j) ((wr.setCell ⟨g, i, none⟩ (.int .u8 d[j]!)).setCell ⟨g, j, none⟩ (.int .u8 d[i]!)) :=
 (h.set i _ hi).set j _ (by rw [Array.size_setIfInBounds]; exact hj)
theorem aN.swp2 {w wr : World} {g n : Nat} {d : Array Int} (hn : d.size = n) (h : aN w g d wr) (i j : Nat) (hi : i < n) (hj : j < n) {x y : Int} (hx : Hid (x = d[i]!)) (hy : Hid (y = d[j]!)) : aN w g (Sort.swp d i j) ((wr.setCell ⟨g, i, none⟩ (.int .u8 y)).setCell ⟨g, j, none⟩ (.int .u8 x)).drew := by
 rw [yx hx, yx hy]
 exact (h.swp i j (by omega) (by omega)).drewn
theorem er {d dk : Array Int} {a b : Nat} (h : Sort.PermIn a b d dk) (hb : b ≤ d.size) {i j : Nat} (h1 : a ≤ i) (h2 : i < b) (h3 : a ≤ j) (h4 : j < b) : Sort.PermIn a b d (Sort.swp dk i j) :=
 Sort.permIn_trans _ _ _ a b h (Sort.swp_permIn dk a b i j h1 h2 h3 h4 (by rw [h.1]; exact hb))
end
end Go.Proofs.Ytackifnnhjbgbaa
