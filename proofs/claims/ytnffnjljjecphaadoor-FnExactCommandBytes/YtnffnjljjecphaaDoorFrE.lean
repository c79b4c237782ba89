/- FrameLess, walked: the program's. -/
import Derived.Test.YtnffnjljjecphaaDoorFrD
import Derived.Laws.OwnMore
namespace Go.Proofs.YtnffnjljjecphaaDoor
open Go.RowKit Go.Sort
set_option linter.unusedVariables false

theorem less_step0 {f d : ByteArray} {k : Nat} {v : Int} (h : lessI f d k = v) (j : Nat) : (if j = k then v else if j < k then lessI f d j else 0) = if j < k + 1 then lessI f d j else 0 := by
  by_cases e : j = k
  · subst e; rw [if_pos rfl, if_pos (by omega), h]
  · rw [if_neg e]
    by_cases e2 : j < k
    · rw [if_pos e2, if_pos (by omega)]
    · rw [if_neg e2, if_neg (by omega)]
theorem zeroBytes (n : Nat) (h : n ≤ 281474976710656) : ∃ M : Array Value, (∀ j, j < n → M[j]? = some (.int .u8 0)) ∧ ∀ W : World, (Instr.makeSlice 116 (.int .i64 (n : Int)) (.int .i64 (n : Int))).run Tryd.prog W = .ok (.slice (some ⟨W.heap.size, 0, none⟩) n n) (W.alloc (.cells M 5)) := by
  obtain ⟨i0, hi, hz0, hz1, hz2⟩ := infoByte
  refine ⟨madeCells (Value.int .u8 0).cells (((n : Nat) : Int).toNat * i0.size), fun j hj => ?_, fun W => ?_⟩
  · rw [hz1, ← Array.getElem?_toList]
    have e : (Value.int .u8 0).cells = #[.int .u8 0] := rfl
    rw [e, toList_madeCells_one]
    simp [hj]
  · have h := run_make (P := Tryd.prog) W 116 5 i0 (.int .u8 0) Tryd.underlying116 hi hz0 .i64 .i64 (n : Int) (n : Int) (by omega) (by omega) (by rw [hz2]; omega) (by omega)
    simpa using h
theorem bRow_new {w : World} {M : Array Value} {n : Nat} (h : ∀ j, j < n → M[j]? = some (.int .u8 0)) : BRow (w.alloc (.cells M 5)) w.heap.size n (fun _ => 0) := fun j hj => by
  have hb : (w.alloc (.cells M 5)).heap[w.heap.size]? = some (.cells M 5 (0, 0)) := heap_alloc_new w _
  exact ⟨by rw [cell_of_row _ _ _ _ _ _ hb]; exact h j hj, frozen_of_row _ _ _ _ _ hb⟩
end Go.Proofs.YtnffnjljjecphaaDoor
