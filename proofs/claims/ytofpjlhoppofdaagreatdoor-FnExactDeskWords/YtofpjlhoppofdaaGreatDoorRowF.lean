/- A row of whole numbers in memory of the call's own, by its block. -/
import Derived.Test.YtofpjlhoppofdaaGreatDoorVecD
import Derived.OwnWalk
import Derived.Laws.OwnMore
namespace Go.Proofs.YtofpjlhoppofdaaGreatDoor
open Go.RowKit
set_option linter.unusedVariables false

/-- block g is a row of cells of type t, none frozen, whose first m are the numbers f -/
def RowAt (w : World) (t : TypeId) (g m : Nat) (f : Nat → Int) : Prop := ∃ cur : Array Value, w.heap[g]? = some (.cells cur t (0, 0)) ∧ ∀ j, j < m → cur[j]? = some (.int .i64 (f j))
theorem RowAt.lt {w : World} {t : TypeId} {g m : Nat} {f : Nat → Int} (h : RowAt w t g m f) : g < w.heap.size := by
  obtain ⟨cur, hc, _⟩ := h
  exact (Array.getElem?_eq_some_iff.1 hc).1
theorem RowAt.same {w w' : World} {t : TypeId} {g m : Nat} {f : Nat → Int} (h : RowAt w t g m f) (e : w'.heap[g]? = w.heap[g]?) : RowAt w' t g m f := by
  obtain ⟨cur, hc, hs⟩ := h
  exact ⟨cur, by rw [e]; exact hc, hs⟩
theorem RowAt.kept {w w' : World} {t : TypeId} {g m : Nat} {f : Nat → Int} (h : RowAt w t g m f) (hB : Below w.heap.size w w') : RowAt w' t g m f := h.same (hB.block g h.lt)
theorem RowAt.congr {w : World} {t : TypeId} {g m : Nat} {f f' : Nat → Int} (h : RowAt w t g m f) (e : ∀ j, j < m → f j = f' j) : RowAt w t g m f' := by
  obtain ⟨cur, hc, hs⟩ := h
  exact ⟨cur, hc, fun j hj => by rw [hs j hj, e j hj]⟩
theorem RowAt.cell {w : World} {t : TypeId} {g m j : Nat} {f : Nat → Int} (h : RowAt w t g m f) (hj : j < m) : w.cell? ⟨g, j, none⟩ = some (.int .i64 (f j)) := by
  obtain ⟨cur, hc, hs⟩ := h
  rw [cell_of_row w g j cur t _ hc]
  exact hs j hj
theorem RowAt.free {w : World} {t : TypeId} {g m : Nat} {f : Nat → Int} (h : RowAt w t g m f) (j : Nat) : w.frozen? ⟨g, j, none⟩ = false := by
  obtain ⟨cur, hc, _⟩ := h
  exact frozen_of_row w g j cur t hc
theorem RowAt.set {w : World} {t : TypeId} {g m : Nat} {f : Nat → Int} (h : RowAt w t g m f) (i : Nat) (v : Int) : RowAt (w.setCell ⟨g, i, none⟩ (.int .i64 v)) t g m (fun j => if j = i then v else f j) := by
  obtain ⟨cur, hc, hs⟩ := h
  refine ⟨_, heap_setCell_same w g i cur t (.int .i64 v) hc, fun j hj => ?_⟩
  have := hs j hj
  rw [Array.getElem?_setIfInBounds]
  by_cases e : i = j
  · subst e
    simp [(Array.getElem?_eq_some_iff.1 this).1]
  · have e' : ¬ j = i := fun h => e (Eq.symm h)
    simp [e, e', this]
theorem grownRefl (w : World) (row : Option Nat) : w.grownBy w row := ⟨rfl, rfl, rfl, Nat.le_refl _, fun _ _ _ => rfl⟩
theorem grownSet {w w1 : World} {g : Nat} (h : w.grownBy w1 (some g)) (i : Nat) (v : Value) : w.grownBy (w1.setCell ⟨g, i, none⟩ v) (some g) :=
  ⟨h.os, h.tape, h.output, by simpa [World.setCell] using h.size, fun k hk hne => by rw [Below.heap_setCell _ _ _ _ (fun e => hne (by rw [e]))]; exact h.block k hk hne⟩
/-- what was written lies from B on: below it nothing has turned -/
theorem grownBelow {B : Nat} {w w1 w2 : World} {g : Nat} (h : Below B w w1) (hB : B ≤ w1.heap.size) (hg : w1.grownBy w2 (some g)) (hb : B ≤ g) : Below B w w2 :=
  h.trans ⟨hg.os, hg.tape, hg.output, hg.size, fun k hk => hg.block k (by omega) (fun e => by have := Option.some.inj e; omega)⟩
theorem grownB {w w1 : World} {b : Nat} (h : Below w.heap.size w w1) : w.grownBy w1 (some b) := ⟨h.os, h.tape, h.output, h.size, fun k hk _ => h.block k hk⟩
theorem grownTr {a b c : World} {row : Option Nat} (h : a.grownBy b row) (k : b.grownBy c row) : a.grownBy c row :=
  ⟨k.os.trans h.os, k.tape.trans h.tape, k.output.trans h.output, Nat.le_trans h.size k.size, fun i hi hn => (k.block i (Nat.lt_of_lt_of_le hi h.size) hn).trans (h.block i hi hn)⟩
end Go.Proofs.YtofpjlhoppofdaaGreatDoor
