/- Several texts in one: DeskA. -/
import Derived.Test.YtgiodlllokdcdaaGreatDoorQFnModeOwn3
import Derived.Test.YtgiodlllokdcdaaGreatDoorQFnModeOwn2
namespace Go.Proofs.YtgiodlllokdcdaaGreatDoor
set_option linter.unusedVariables false
set_option linter.unusedSimpArgs false
set_option maxRecDepth 100000
set_option maxHeartbeats 8000000
section
open Go.RowKit
def ls : List St := [(1, 0, 0, 1), (2, 1, 0, 2), (3, 0, 1, 3), (4, -1, -1, 2), (5, 2, 1, 5), (6, 1, 0, 0)]
def uT : List Int := [1, 0, 0, 1, 2, 1, 0, 2, 3, 0, 1, 3, 4, -1, -1, 2, 5, 2, 1, 5, 6, 1, 0, 0]
def jk : Obj := .cells #[.int .i64 1, .int .i64 0, .int .i64 0, .int .i64 1, .int .i64 2, .int .i64 1, .int .i64 0, .int .i64 2, .int .i64 3, .int .i64 0, .int .i64 1, .int .i64 3, .int .i64 4, .int .i64 (-1), .int .i64 (-1), .int .i64 2, .int .i64 5, .int .i64 2, .int .i64 1, .int .i64 5, .int .i64 6, .int .i64 1, .int .i64 0, .int .i64 0] 80
theorem uq (w : World) : dO (w.alloc jk) 80 w.heap.size (6 * 4) (fun j => uT.getD j 0) := by
 refine ⟨_, heap_alloc_new w jk, fun j hj => ?_⟩
 match j, hj with
 | 0, _ => rfl
 | 1, _ => rfl
 | 2, _ => rfl
 | 3, _ => rfl
 | 4, _ => rfl
 | 5, _ => rfl
 | 6, _ => rfl
 | 7, _ => rfl
 | 8, _ => rfl
 | 9, _ => rfl
 | 10, _ => rfl
 | 11, _ => rfl
 | 12, _ => rfl
 | 13, _ => rfl
 | 14, _ => rfl
 | 15, _ => rfl
 | 16, _ => rfl
 | 17, _ => rfl
 | 18, _ => rfl
 | 19, _ => rfl
 | 20, _ => rfl
 | 21, _ => rfl
 | 22, _ => rfl
 | 23, _ => rfl
 | k + 24, h => exact absurd h (by omega)
theorem rY {w : World} {g : Nat} (h : dO w 80 g (6 * 4) (fun j => uT.getD j 0)) : aH w (some ⟨g, 0, none⟩) ls 6 := by
 refine .inr ⟨g, 0, rfl, h.lt, fun i hi => ?_⟩
 rw [Nat.zero_add]
 refine ⟨?_, ?_, ?_, ?_⟩
 ·rw [h.cell (j := i * 4) (by omega)]
  match i, hi with
  | 0, _ | 1, _ | 2, _ | 3, _ | 4, _ | 5, _ => rfl
 ·rw [h.cell (j := i * 4 + 1) (by omega)]
  match i, hi with
  | 0, _ | 1, _ | 2, _ | 3, _ | 4, _ | 5, _ => rfl
 ·rw [h.cell (j := i * 4 + 2) (by omega)]
  match i, hi with
  | 0, _ | 1, _ | 2, _ | 3, _ | 4, _ | 5, _ => rfl
 ·rw [h.cell (j := i * 4 + 3) (by omega)]
  match i, hi with
  | 0, _ | 1, _ | 2, _ | 3, _ | 4, _ | 5, _ => rfl
theorem jH (w : World) : Calls Tryz.prog 57 #[] w fun e w' => e = .returned (.slice (some ⟨w.heap.size, 0, none⟩) 6 6) ∧ w' = w.alloc jk := by
 go_enter Tryz.func57, Tryz.ntmps57
 go_wp2
 go_ret
 exact ⟨rfl, rfl⟩
end
end Go.Proofs.YtgiodlllokdcdaaGreatDoor
