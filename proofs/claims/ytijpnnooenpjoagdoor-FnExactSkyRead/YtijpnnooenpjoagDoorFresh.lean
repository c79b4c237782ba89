/- The program's freshText answers the same text. -/
import Derived.Test.YtijpnnooenpjoagDoorBytes
namespace Go.Proofs.YtijpnnooenpjoagDoor
open Go.RowKit

theorem freshText_any (a : ByteArray) (w : World) (ha : a.size ≤ 100000) :
    Calls Tryd.prog 89 #[.string a] w fun e w' => e = .returned (.string a) ∧ Below w.heap.size w w' := by
  obtain ⟨M, hM, hmk⟩ := mkBytes a.size (by omega)
  have hinfo : (Tryd.prog.info? 5).map (·.size) = some 1 := by kernel_rfl
  have hcp := Lib.run_copy_row_string (P := Tryd.prog) (w.alloc (.cells M 5)) 119 9 3 5 w.heap.size 0 a.size a.size a M 5 Tryd.underlying119 hinfo (heap_alloc_new w _) (by omega) (by omega)
  rw [setRow_alloc] at hcp
  obtain ⟨Y1, hY1⟩ : ∃ Y, Y = (M.toList.take 0 ++ Lib.byteCells a.data.toList ++ M.toList.drop (0 + a.size)).toArray := ⟨_, rfl⟩
  rw [← hY1] at hcp
  have hY1l : Y1.toList = Lib.byteCells a.data.toList := by rw [hY1]; simp [← hM]
  have hcv := convBytes w 5 Y1 a hY1l a.size
  clear hY1 hY1l hinfo hM
  go_enter Tryd.func89, Tryd.ntmps89
  go_wp2
  go_ret
  exact ⟨rfl, (Below.refl _ _).alloc (Nat.le_refl _) _⟩
end Go.Proofs.YtijpnnooenpjoagDoor
