/- The desk's stars: the program's and the specification's, and the law on DeskSky, walked. -/
import Derived.Test.YtijpnnooenpjoalSkyG
import Derived.Test.YtijpnnooenpjoalMarkS
namespace Go.Proofs.Ytijpnnooenpjoal
open Go.RowKit
set_option linter.unusedVariables false

def deskL : List St := [(1, 0, 0, 1), (2, 1, 0, 2), (3, 0, 1, 3), (4, -1, -1, 2), (5, 2, 1, 5), (6, 1, 0, 0)]
def deskN : List Int := [1, 0, 0, 1, 2, 1, 0, 2, 3, 0, 1, 3, 4, -1, -1, 2, 5, 2, 1, 5, 6, 1, 0, 0]
def deskO : Obj := .cells #[.int .i64 1, .int .i64 0, .int .i64 0, .int .i64 1, .int .i64 2, .int .i64 1, .int .i64 0, .int .i64 2, .int .i64 3, .int .i64 0, .int .i64 1, .int .i64 3, .int .i64 4, .int .i64 (-1), .int .i64 (-1), .int .i64 2, .int .i64 5, .int .i64 2, .int .i64 1, .int .i64 5, .int .i64 6, .int .i64 1, .int .i64 0, .int .i64 0] 30
theorem deskRow (w : World) : RowAt (w.alloc deskO) 30 w.heap.size (6 * 4) (fun j => deskN.getD j 0) := by
  refine ⟨_, heap_alloc_new w deskO, fun j hj => ?_⟩
  match j, hj with
  | 0, _ => rfl
  | 1, _ => rfl
  | 2, _ => rfl
  | 3, _ => rfl
  | 4, _ => rfl
  | 5, _ => rfl
  | 6, _ => rfl
  | 7, _ => rfl
  | 8, _ => rfl
  | 9, _ => rfl
  | 10, _ => rfl
  | 11, _ => rfl
  | 12, _ => rfl
  | 13, _ => rfl
  | 14, _ => rfl
  | 15, _ => rfl
  | 16, _ => rfl
  | 17, _ => rfl
  | 18, _ => rfl
  | 19, _ => rfl
  | 20, _ => rfl
  | 21, _ => rfl
  | 22, _ => rfl
  | 23, _ => rfl
  | k + 24, h => exact absurd h (by omega)
theorem deskStars {w : World} {g : Nat} (h : RowAt w 30 g (6 * 4) (fun j => deskN.getD j 0)) : Stars w (some ⟨g, 0, none⟩) deskL 6 := by
  refine .inr ⟨g, 0, rfl, h.lt, fun i hi => ?_⟩
  rw [Nat.zero_add]
  refine ⟨?_, ?_, ?_, ?_⟩
  · rw [h.cell (j := i * 4) (by omega)]
    match i, hi with
    | 0, _ | 1, _ | 2, _ | 3, _ | 4, _ | 5, _ => rfl
  · rw [h.cell (j := i * 4 + 1) (by omega)]
    match i, hi with
    | 0, _ | 1, _ | 2, _ | 3, _ | 4, _ | 5, _ => rfl
  · rw [h.cell (j := i * 4 + 2) (by omega)]
    match i, hi with
    | 0, _ | 1, _ | 2, _ | 3, _ | 4, _ | 5, _ => rfl
  · rw [h.cell (j := i * 4 + 3) (by omega)]
    match i, hi with
    | 0, _ | 1, _ | 2, _ | 3, _ | 4, _ | 5, _ => rfl

set_option maxHeartbeats 2000000 in
set_option maxRecDepth 100000 in
theorem deskSky_any (w : World) : Calls Try.prog 5 #[] w fun e w' => e = .returned (.slice (some ⟨w.heap.size, 0, none⟩) 6 6) ∧ w' = w.alloc deskO := by
  go_enter Try.func5, Try.ntmps5
  go_wp2
  go_ret
  exact ⟨rfl, rfl⟩
set_option maxHeartbeats 2000000 in
set_option maxRecDepth 100000 in
theorem specDesk_any (w : World) : Calls Try.prog 4 #[] w fun e w' => e = .returned (.slice (some ⟨w.heap.size, 0, none⟩) 6 6) ∧ w' = w.alloc deskO := by
  go_enter Try.func4, Try.ntmps4
  go_wp2
  go_ret
  exact ⟨rfl, rfl⟩

set_option maxHeartbeats 2000000 in
set_option maxRecDepth 100000 in
theorem lawDeskSky (w : World) : Calls Try.prog 3 #[] w fun e w' => e = .returned (.bool true) ∧ Below w.heap.size w w' := by
  go_enter Try.func3, Try.ntmps3
  go_wp2_with fail
  refine (specDesk_any _).mono ?_
  rintro e w1 ⟨rfl, rfl⟩
  have W0 := hide (deskRow w)
  have HB := hide (below1 w deskO)
  generalize w.alloc deskO = w1 at W0 HB ⊢
  generalize hb0 : w.heap.size = b0 at W0 HB ⊢
  have H0 := hide hb0
  clear hb0
  go_wp2_with fail
  refine (deskSky_any _).mono ?_
  rintro e w2 ⟨rfl, rfl⟩
  have G0 := hide (deskRow w1)
  have W1 := hide ((unhide W0).kept (below1 w1 deskO))
  have hlt : b0 < w1.heap.size := (unhide W0).lt
  have HB1 := hide ((unhide HB).alloc (Nat.le_of_lt hlt) deskO)
  generalize w1.alloc deskO = w2 at G0 W1 HB1 ⊢
  generalize w1.heap.size = b1 at G0 hlt ⊢
  clear W0 HB
  go_wp2_with fail
  refine (eqStarS_same deskL 6 (some ⟨b1, 0, none⟩) (some ⟨b0, 0, none⟩) 6 6 _ (by omega) (deskStars (unhide G0)) (deskStars (unhide W1))).mono ?_
  rintro e w3 ⟨rfl, hx⟩
  have G3 := hide ((unhide G0).kept hx)
  have W3 := hide ((unhide W1).kept hx)
  have HB3 := hide ((unhide HB1).trans (hx.mono (by have := (unhide W1).lt; omega)))
  clear hx G0 W1 HB1
  go_wp2_with fail
  refine (markStarS_any 6 6 b1 _ _ (by omega) (unhide G3)).mono ?_
  rintro e w4 ⟨rfl, hr, hg⟩
  have G4 := hide hr
  have W4 := hide ((unhide W3).same (hg.block b0 (unhide W3).lt (by simp; omega)))
  have HB4 := hide (grownBelow (unhide HB3) (by have := (unhide W3).lt; omega) hg (by omega))
  clear hr hg G3 W3 HB3
  go_wp2_with fail
  refine (heldStarS_any 6 6 b1 _ (by omega) (unhide G4)).mono ?_
  rintro e w5 ⟨rfl, hw⟩
  rw [hw]
  clear hw w5
  go_wp2_with fail
  refine (deskSky_any _).mono ?_
  rintro e w6 ⟨rfl, rfl⟩
  have K0 := hide (deskRow w4)
  have G6 := hide ((unhide G4).kept (below1 w4 deskO))
  have W6 := hide ((unhide W4).kept (below1 w4 deskO))
  have HB6 := hide ((unhide HB4).alloc (by have := (unhide W4).lt; omega) deskO)
  generalize w4.alloc deskO = w6 at K0 G6 W6 HB6 ⊢
  generalize w4.heap.size = b6 at K0 ⊢
  clear G4 W4 HB4
  go_wp2_with fail
  refine (eqStarS_same deskL 6 (some ⟨b6, 0, none⟩) (some ⟨b0, 0, none⟩) 6 6 _ (by omega) (deskStars (unhide K0)) (deskStars (unhide W6))).mono ?_
  rintro e w7 ⟨rfl, hx⟩
  have G7 := hide ((unhide G6).kept hx)
  have HB7 := hide ((unhide HB6).trans (hx.mono (by have := (unhide W6).lt; omega)))
  clear hx K0 G6 W6 HB6
  go_wp2_with fail
  refine (heldStarS_any 6 6 b1 _ (by omega) (unhide G7)).mono ?_
  rintro e w8 ⟨rfl, hw⟩
  rw [hw]
  clear hw w8
  go_wp2_with fail
  go_ret
  exact ⟨rfl, by have := unhide HB7; rw [unhide H0]; exact this⟩
end Go.Proofs.Ytijpnnooenpjoal
