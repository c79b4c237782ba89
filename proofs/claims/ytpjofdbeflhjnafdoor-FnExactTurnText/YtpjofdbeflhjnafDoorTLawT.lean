/- The law on TurnText, walked; the table of powers of ten that package strconv reads, out of the row's list. -/
import Derived.Test.YtpjofdbeflhjnafDoorTurnT
import Derived.Test.YtpjofdbeflhjnafDoorTurnS
import Derived.Test.YtpjofdbeflhjnafDoorRows
import Derived.Lib.LaidTab
import Derived.LaidHandle
import Derived.LaidMore
namespace Go.Proofs.YtpjofdbeflhjnafDoor
open Go.RowKit
set_option linter.unusedVariables false

set_option maxRecDepth 100000 in
theorem toTurn_any (p q r s : Int) (w : World) :
    Calls Tryd.prog 5 #[.agg #[.int .i64 p, .int .i64 q, .int .i64 r, .int .i64 s]] w fun e w' => e = .returned (.agg #[.int .i64 p, .int .i64 q, .int .i64 r, .int .i64 s]) ∧ Below w.heap.size w w' := by
  go_enter Tryd.func5, Tryd.ntmps5
  go_wp2
  exact bodyPost_ret (v := .agg #[.int .i64 p, .int .i64 q, .int .i64 r, .int .i64 s]) (by simp [results, Tryd.results5, go_sem]) rfl ⟨rfl, below3 _ _ _ _⟩

set_option maxRecDepth 100000 in
theorem lawTurnText (a b c d : Int) (w : World) (ht : Tab w) :
    Calls Tryd.prog 3 #[.agg #[.int .i64 a, .int .i64 b, .int .i64 c, .int .i64 d]] w fun e w' => e = .returned (.bool true) ∧ Below w.heap.size w w' := by
  have HT := hide ht
  clear ht
  go_enter Tryd.func3, Tryd.ntmps3
  go_wp2_with fail
  refine (toTurn_any a b c d _).mono ?_
  rintro e w1 ⟨rfl, hx⟩
  have va := (turnAt_new w a b c d _).kept (by simp) hx
  have hB : Below w.heap.size w w1 := below_call (below1 _ _) hx
  clear hx
  go_wp2_with fail
  refine (specText_any a b c d _).mono ?_
  rintro e w2 ⟨rfl, hx⟩
  replace va := va.kept va.lt hx
  replace hB := below_call hB hx
  clear hx
  obtain ⟨c0, c1, c2, c3⟩ := va
  go_wp2_with fail
  refine (toTurn_any a b c d _).mono ?_
  rintro e w3 ⟨rfl, hx⟩
  replace hB := below_call hB hx
  clear hx
  go_wp2_with fail
  refine (turnText_any a b c d _ ((unhide HT).kept hB)).mono ?_
  rintro e w4 ⟨rfl, hx⟩
  replace hB := below_call hB hx
  clear hx
  go_wp2_with fail
  go_ret
  exact ⟨rfl, hB⟩

def laid3 : List (String × DataW Unit) := [("math/bits.deBruijn32tab", Rows.laid_math_bits_deBruijn32tab), ("math/bits.deBruijn64tab", Rows.laid_math_bits_deBruijn64tab), ("internal/strconv.uint64pow10", Rows.laid_internal_strconv_uint64pow10)]
theorem tab_data : (Rows.laid_internal_strconv_uint64pow10 : DataW Unit) = Lib.tabData .u64 Lib.pow10Tab := by kernel_rfl
theorem tab_type : (Tryd.prog.globals[0]?).map (·.type) = some 63 := by kernel_rfl
theorem tab_of_laid {W : World} (h : laidMetH Tryd.prog laid3 W) : Tab W := by
  have h' : laidMet Tryd.prog laid3 W := h
  obtain ⟨ps, ⟨_, _, _, _, _, _, _, _, _, _, ⟨_, _, _, _, _, _, _, _, _, _, h3, _⟩, _⟩, _⟩ := h'
  rw [tab_data] at h3
  obtain ⟨g', t', cs, fuel, p, q, hg', ht', hvar, hd, _, _⟩ := h3
  obtain rfl := Option.some.inj (tab_named.symm.trans hg')
  obtain rfl := Option.some.inj (tab_type.symm.trans ht')
  show Lib.TabIs _ _ _ _ _
  unfold Lib.TabIs
  rw [hvar, ← Lib.cells_of_tab Tryd.underlying63 Tryd.underlying55 (by kernel_rfl) (by kernel_rfl) hd]
theorem door_met (os : Os) (args : Array Value) : laidMetH Tryd.prog laid3 ((World.doorLaid Tryd.prog 400 os).forCall (fun _ _ => 0) ⟨#[], args, []⟩).memory :=
  laidMetH_of_parts3 (fuel := 8) (laidMet_of_run' 8 (by kernel_rfl) (by kernel_rfl)) (by kernel_rfl) (by kernel_rfl)
end Go.Proofs.YtpjofdbeflhjnafDoor
