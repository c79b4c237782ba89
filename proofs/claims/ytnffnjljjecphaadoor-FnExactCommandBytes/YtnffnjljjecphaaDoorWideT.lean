/- l04Wide. -/
import Derived.Test.YtnffnjljjecphaaDoorVecI
import Derived.Test.YtnffnjljjecphaaDoorVecC
import Derived.Test.YtnffnjljjecphaaDoorVecD
namespace Go.Proofs.YtnffnjljjecphaaDoor
open Go.RowKit Go.Sort
set_option linter.unusedVariables false

set_option maxRecDepth 100000 in
theorem l04Wide_any (x y z : Int) (w : World) :
    Calls Tryd.prog 65 #[.agg #[.int .i64 x, .int .i64 y, .int .i64 z]] w fun e w' => e = .returned (.bool (wideB x y z)) ∧ Below w.heap.size w w' := by
  have A0 := vecAt_new w x y z 75
  have B0 := below1 w (.cells #[.int .i64 x, .int .i64 y, .int .i64 z] 75)
  have cR := hide (fun W => specRight_any x y z W)
  have cW := hide (fun W => l02Within_any 1800 x y z W (by omega) (by omega))
  have HW : Hid (wideB x y z = (rightB x y z && withinB 1800 x y z)) := hide rfl
  generalize wideB x y z = wv at *
  generalize withinB 1800 x y z = wi at *
  go_enter Tryd.func65, Tryd.ntmps65
  go_wp2_with fail
  refine (unhide cR _).mono ?_
  rintro e w1 ⟨rfl, hx⟩
  obtain ⟨c0, c1, c2⟩ := A0.kept (World.block_lt_of_cell? _ _ A0.1) hx
  have B1 := below_call B0 hx
  clear hx B0 A0
  cases hr : rightB x y z
  · rw [hr] at HW
    go_wp2_with fail
    go_ret
    exact ⟨by rw [unhide HW]; rfl, B1⟩
  · rw [hr] at HW
    go_wp2_with fail
    refine (unhide cW _).mono ?_
    rintro e w2 ⟨rfl, hx⟩
    have B2 := below_call B1 hx
    clear hx B1
    go_wp2_with fail
    go_ret
    exact ⟨by rw [unhide HW]; rfl, B2⟩
end Go.Proofs.YtnffnjljjecphaaDoor
