/- Several texts in one: Join. -/
import Derived.Test.YthoiooefclbecaaGreatDoorQFnSkyOwn2
namespace Go.Proofs.YthoiooefclbecaaGreatDoor
set_option linter.unusedVariables false
set_option linter.unusedSimpArgs false
set_option maxRecDepth 100000
set_option maxHeartbeats 8000000
section
open Go.RowKit
theorem jr (a : ByteArray) (w : World) (ha : a.size ≤ 100000) :
  Calls Tryz.prog 33 #[.string a, .string ByteArray.empty] w fun e w' => e = .returned (.string a) ∧ Below w.heap.size w w' := by
 obtain ⟨M, hM, hmk⟩ := mj a.size (by omega)
 have hinfo : (Tryz.prog.info? 5).map (·.size) = some 1 := by kernel_rfl
 have hcp := Lib.run_copy_row_string (P := Tryz.prog) (w.alloc (.cells M 5)) 22 9 3 5 w.heap.size 0 a.size a.size a M 5 Tryz.underlying22 hinfo (heap_alloc_new w _) (by omega) (by omega)
 rw [dU] at hcp
 obtain ⟨Y1, hY1⟩ : ∃ Y, Y = (M.toList.take 0 ++ Lib.byteCells a.data.toList ++ M.toList.drop (0 + a.size)).toArray := ⟨_, rfl⟩
 rw [← hY1] at hcp
 have hY1l : Y1.toList = Lib.byteCells a.data.toList := by rw [hY1]; simp [← hM]
 have hcp2 : ∀ d dLen dCap W, (Builtin.copy_ #[22, 9] 3 #[.slice d dLen dCap, .string ByteArray.empty]).run Tryz.prog W = .ok (goInt 0) W := fun d dLen dCap W => Lib.run_copy_empty_string W 22 9 3 5 d dLen dCap ByteArray.empty Tryz.underlying22 (by rw [hinfo]; rfl) rfl
 have hcv := fF w 5 Y1 a hY1l a.size
 clear hY1 hY1l hinfo hM
 go_enter Tryz.func33, Tryz.ntmps33
 go_wp2
 go_ret
 exact ⟨rfl, (Below.refl _ _).alloc (Nat.le_refl _) _⟩
theorem cH (a b : ByteArray) (w : World) (ha : a.size ≤ 100000) (hb : b.size ≤ 100000) :
  Calls Tryz.prog 33 #[.string a, .string b] w fun e w' => e = .returned (.string (a ++ b)) ∧ Below w.heap.size w w' := by
 obtain ⟨M, hM, hmk0⟩ := mj (a.size + b.size) (by omega)
 have hmk : ∀ W : World, (Instr.makeSlice 22 (.int .i64 ((a.size : Int) + (b.size : Int))) (.int .i64 ((a.size : Int) + (b.size : Int)))).run Tryz.prog W = .ok (.slice (some ⟨W.heap.size, 0, none⟩) (a.size + b.size) (a.size + b.size)) (W.alloc (.cells M 5)) := fun W => by have := hmk0 W; simpa using this
 clear hmk0
 have hinfo : (Tryz.prog.info? 5).map (·.size) = some 1 := by kernel_rfl
 have hcp := Lib.run_copy_row_string (P := Tryz.prog) (w.alloc (.cells M 5)) 22 9 3 5 w.heap.size 0 (a.size + b.size) (a.size + b.size) a M 5 Tryz.underlying22 hinfo (heap_alloc_new w _) (by omega) (by omega)
 rw [dU] at hcp
 obtain ⟨Y1, hY1⟩ : ∃ Y, Y = (M.toList.take 0 ++ Lib.byteCells a.data.toList ++ M.toList.drop (0 + a.size)).toArray := ⟨_, rfl⟩
 rw [← hY1] at hcp
 have hla : (Lib.byteCells a.data.toList).length = a.size := by rw [Lib.byteCells_length, ← Lib.size_eq]
 have hlb : (Lib.byteCells b.data.toList).length = b.size := by rw [Lib.byteCells_length, ← Lib.size_eq]
 have hY1l : Y1.toList = Lib.byteCells a.data.toList ++ M.toList.drop a.size := by rw [hY1]; simp
 have hY1s : Y1.size = a.size + b.size := by rw [← Array.length_toList, hY1l]; simp [hla, hM]
 have hab : (a ++ b).data.toList = a.data.toList ++ b.data.toList := by simp
 have hs : (a ++ b).size = a.size + b.size := by simp
 clear hY1
 by_cases h0 : b = ByteArray.empty
 ·subst h0
  refine (jr a w ha).mono ?_
  rintro e w' ⟨rfl, hw⟩
  exact ⟨by rw [lT], hw⟩
 ·have hpos : 0 < b.size := by
   rcases Nat.eq_zero_or_pos b.size with h | h
   ·exact absurd (ByteArray.ext (Array.eq_empty_of_size_eq_zero h)) h0
   ·exact h
  have hcp2 := Lib.run_copy_row_string (P := Tryz.prog) (w.alloc (.cells Y1 5)) 22 9 3 5 w.heap.size a.size b.size b.size b Y1 5 Tryz.underlying22 hinfo (heap_alloc_new w _) (by omega) (by omega)
  rw [dU] at hcp2
  obtain ⟨Y2, hY2⟩ : ∃ Y, Y = (Y1.toList.take a.size ++ Lib.byteCells b.data.toList ++ Y1.toList.drop (a.size + b.size)).toArray := ⟨_, rfl⟩
  rw [← hY2] at hcp2
  have hY2l : Y2.toList = Lib.byteCells (a ++ b).data.toList := by
   rw [hY2, hab, hY1l]
   rw [List.take_left' hla, List.drop_of_length_le (by simp [hla, hM])]
   simp [Lib.byteCells]
  have hcv := fF w 5 Y2 (a ++ b) hY2l (a.size + b.size)
  rw [hs] at hcv
  clear hY2 hY2l hab hs hY1l hla hlb
  go_enter Tryz.func33, Tryz.ntmps33
  go_wp2
  go_ret
  exact ⟨rfl, (Below.refl _ _).alloc (Nat.le_refl _) _⟩
end
end Go.Proofs.YthoiooefclbecaaGreatDoor
