/- Several texts in one: Fresh. -/
import Derived.Test.YthoiooefclbecaaGreatDoorQFnSkyOwn2
namespace Go.Proofs.YthoiooefclbecaaGreatDoor
set_option linter.unusedVariables false
set_option linter.unusedSimpArgs false
set_option maxRecDepth 100000
set_option maxHeartbeats 8000000
section
open Go.RowKit
theorem kT (a : ByteArray) (w : World) (ha : a.size ≤ 100000) :
  Calls Tryz.prog 84 #[.string a] w fun e w' => e = .returned (.string a) ∧ Below w.heap.size w w' := by
 obtain ⟨M, hM, hmk⟩ := mj a.size (by omega)
 have hinfo : (Tryz.prog.info? 5).map (·.size) = some 1 := by kernel_rfl
 have hcp := Lib.run_copy_row_string (P := Tryz.prog) (w.alloc (.cells M 5)) 22 9 3 5 w.heap.size 0 a.size a.size a M 5 Tryz.underlying22 hinfo (heap_alloc_new w _) (by omega) (by omega)
 rw [dU] at hcp
 obtain ⟨Y1, hY1⟩ : ∃ Y, Y = (M.toList.take 0 ++ Lib.byteCells a.data.toList ++ M.toList.drop (0 + a.size)).toArray := ⟨_, rfl⟩
 rw [← hY1] at hcp
 have hY1l : Y1.toList = Lib.byteCells a.data.toList := by rw [hY1]; simp [← hM]
 have hcv := fF w 5 Y1 a hY1l a.size
 clear hY1 hY1l hinfo hM
 go_enter Tryz.func84, Tryz.ntmps84
 go_wp2
 go_ret
 exact ⟨rfl, (Below.refl _ _).alloc (Nat.le_refl _) _⟩
end
end Go.Proofs.YthoiooefclbecaaGreatDoor
