/- The law on TurnRead, walked; the table of powers of ten that package strconv reads, out of the row's list. -/
import Derived.Test.YtpjofdbeflhjnagDoorTurnQ
import Derived.Test.YtpjofdbeflhjnagDoorRows
import Derived.Lib.LaidTab
import Derived.LaidHandle
import Derived.LaidMore
namespace Go.Proofs.YtpjofdbeflhjnagDoor
open Go.RowKit
set_option linter.unusedVariables false

set_option maxRecDepth 100000 in
theorem eqTurn_any (p q r s : Int) (w : World) :
    Calls Tryd.prog 13 #[.agg #[.int .i64 p, .int .i64 q, .int .i64 r, .int .i64 s], .agg #[.int .i64 p, .int .i64 q, .int .i64 r, .int .i64 s]] w fun e w' => e = .returned (.bool true) ∧ Below w.heap.size w w' := by
  go_enter Tryd.func13, Tryd.ntmps13
  go_wp2
  go_ret
  exact ⟨rfl, below2 _ _ _⟩
set_option maxRecDepth 100000 in
theorem eqOut_any (p q r s k : Int) (w : World) :
    Calls Tryd.prog 6 #[.agg #[.int .i64 p, .int .i64 q, .int .i64 r, .int .i64 s, .int .i64 k], .agg #[.int .i64 p, .int .i64 q, .int .i64 r, .int .i64 s, .int .i64 k]] w fun e w' => e = .returned (.bool true) ∧ Below w.heap.size w w' := by
  go_enter Tryd.func6, Tryd.ntmps6
  go_wp2_with fail
  refine (eqTurn_any p q r s _).mono ?_
  rintro e w1 ⟨rfl, hx⟩
  have va : OutAt w1 w.heap.size p q r s k := ((outAt_new w p q r s k _).alloc _).kept hx
  have vb : OutAt w1 (w.heap.size + 1) p q r s k := (by simpa using outAt_new (w.alloc _) p q r s k _ : OutAt _ (w.heap.size + 1) p q r s k).kept hx
  have hB : Below w.heap.size w w1 := below_call (below2 _ _ _) hx
  clear hx
  obtain ⟨ca0, ca1, ca2, ca3, ca4⟩ := va
  obtain ⟨cb0, cb1, cb2, cb3, cb4⟩ := vb
  go_wp2
  go_ret
  exact ⟨rfl, hB⟩

set_option maxRecDepth 100000 in
theorem lawTurnRead (s : ByteArray) (hs : s.size ≤ maxLen) (w : World) (ht : Tab w) :
    Calls Tryd.prog 3 #[.string s] w fun e w' => e = .returned (.bool true) ∧ Below w.heap.size w w' := by
  have hm : maxLen ≤ 9223372036854775807 := by decide +kernel
  have hs' : s.size ≤ 9223372036854775807 := by omega
  by_cases hb : 1048576 < s.size
  · have hbi : (1048576 : Int) < (s.size : Int) := by omega
    clear hm hs
    go_enter Tryd.func3, Tryd.ntmps3
    go_wp2_with fail
    go_ret
    exact ⟨rfl, Below.refl _ _⟩
  · have hbi : ¬ (1048576 : Int) < (s.size : Int) := by omega
    have HT := hide ht
    have cS := hide (fun W => specRead_any s W hs')
    have cI := hide (fun W (h : Tab W) => turnRead_any s W hs' h)
    clear ht hm hs hb
    generalize readP s (looseP s).a = a at cS cI
    generalize readP s (looseP s).b = b at cS cI
    generalize readP s (looseP s).c = c at cS cI
    generalize readP s (looseP s).d = d at cS cI
    generalize readC s = k at cS cI
    go_enter Tryd.func3, Tryd.ntmps3
    go_wp2_with fail
    refine (unhide cS _).mono ?_
    rintro e w1 ⟨rfl, hx⟩
    have hB : Below w.heap.size w w1 := hx
    clear hx
    have hB1 := hB.alloc hB.size (.cells #[.int .i64 a, .int .i64 b, .int .i64 c, .int .i64 d, .int .i64 k] 25)
    have HT1 := hide ((unhide HT).kept hB1)
    go_wp2_with fail
    refine (unhide cI _ (unhide HT1)).mono ?_
    rintro e w2 ⟨rfl, hx⟩
    have v5 := (outAt_new w1 a b c d k _).kept hx
    replace hB := below_call hB1 hx
    clear hx hB1 HT1
    have v5' := v5.alloc (.cells #[.int .i64 a, .int .i64 b, .int .i64 c, .int .i64 d, .int .i64 k] 25)
    obtain ⟨c0, c1, c2, c3, c4⟩ := v5
    obtain ⟨d0, d1, d2, d3, d4⟩ := v5'
    go_wp2_with fail
    refine (eqOut_any _ _ _ _ _ _).mono ?_
    rintro e w3 ⟨rfl, hx⟩
    replace hB := below_call (hB.alloc hB.size _) hx
    go_wp2_with fail
    go_ret
    exact ⟨rfl, hB⟩

def laid3 : List (String × DataW Unit) := [("math/bits.deBruijn32tab", Rows.laid_math_bits_deBruijn32tab), ("math/bits.deBruijn64tab", Rows.laid_math_bits_deBruijn64tab), ("internal/strconv.uint64pow10", Rows.laid_internal_strconv_uint64pow10)]
theorem tab_data : (Rows.laid_internal_strconv_uint64pow10 : DataW Unit) = Lib.tabData .u64 Lib.pow10Tab := by kernel_rfl
theorem tab_type : (Tryd.prog.globals[0]?).map (·.type) = some 69 := by kernel_rfl
theorem tab_of_laid {W : World} (h : laidMetH Tryd.prog laid3 W) : Tab W := by
  have h' : laidMet Tryd.prog laid3 W := h
  obtain ⟨ps, ⟨_, _, _, _, _, _, _, _, _, _, ⟨_, _, _, _, _, _, _, _, _, _, h3, _⟩, _⟩, _⟩ := h'
  rw [tab_data] at h3
  obtain ⟨g', t', cs, fuel, p, q, hg', ht', hvar, hd, _, _⟩ := h3
  obtain rfl := Option.some.inj (tab_named.symm.trans hg')
  obtain rfl := Option.some.inj (tab_type.symm.trans ht')
  show Lib.TabIs _ _ _ _ _
  unfold Lib.TabIs
  rw [hvar, ← Lib.cells_of_tab Tryd.underlying69 Tryd.underlying61 (by kernel_rfl) (by kernel_rfl) hd]
theorem door_met (os : Os) (args : Array Value) : laidMetH Tryd.prog laid3 ((World.doorLaid Tryd.prog 400 os).forCall (fun _ _ => 0) ⟨#[], args, []⟩).memory :=
  laidMetH_of_parts3 (fuel := 8) (laidMet_of_run' 8 (by kernel_rfl) (by kernel_rfl)) (by kernel_rfl) (by kernel_rfl)
end Go.Proofs.YtpjofdbeflhjnagDoor
