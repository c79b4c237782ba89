/- A text of so many zero bytes, as a draw makes it. -/
import Derived.Test.YtcoibamfgcdbnaaDoorSrc3
namespace Go.Proofs.YtcoibamfgcdbnaaDoor
open Go.RowKit
set_option linter.unusedVariables false

theorem mkZeros (n : Nat) (h : n ≤ 281474976710656) : ∃ M : Array Value, M.size = n ∧ M.toList = (List.replicate n (0 : Int)).map (Value.int .u8) ∧ ∀ W : World, (Instr.makeSlice 22 (.int .i64 (n : Int)) (.int .i64 (n : Int))).run Tryd.prog W = .ok (.slice (some ⟨W.heap.size, 0, none⟩) n n) (W.alloc (.cells M 5)) := by
  obtain ⟨i0, hi, hz0, hz1, hz2⟩ := infoByte
  refine ⟨madeCells (Value.int .u8 0).cells (((n : Nat) : Int).toNat * i0.size), by rw [size_madeCells, hz1]; simp, ?_, fun W => ?_⟩
  · rw [hz1]
    simp only [madeCells, Int.toNat_natCast, Nat.mul_one, Array.toList_map, List.map_replicate]
    apply List.ext_getElem
    · simp
    · intro i h1 h2
      simp [Value.cells, Nat.mod_one]
  · have h := run_make (P := Tryd.prog) W 22 5 i0 (.int .u8 0) Tryd.underlying22 hi hz0 .i64 .i64 (n : Int) (n : Int) (by omega) (by omega) (by rw [hz2]; omega) (by omega)
    simpa using h
theorem convAll (w : World) (T : TypeId) (Y : Array Value) (xs : List Int) (n cap : Nat) (hn : xs.length = n) (hY : Y.toList = xs.map (Value.int .u8)) :
    (convert 22 9 (.slice (some ⟨w.heap.size, 0, none⟩) n cap)).run Tryd.prog (w.alloc (.cells Y T)) = .ok (.string (strOfNums xs)) (w.alloc (.cells Y T)) := by
  refine run_convert_bytes_arg (P := Tryd.prog) _ 22 5 Tryd.underlying22 Tryd.underlying5 w.heap.size 0 n cap xs hn ?_ 9 Tryd.underlying9
  intro i hi
  have hl : Y[i]? = some (.int .u8 (xs.getD i 0)) := by
    rw [← Array.getElem?_toList, hY, List.getElem?_map, List.getD, List.getElem?_eq_getElem (by omega)]; rfl
  simp [hl]

end Go.Proofs.YtcoibamfgcdbnaaDoor
