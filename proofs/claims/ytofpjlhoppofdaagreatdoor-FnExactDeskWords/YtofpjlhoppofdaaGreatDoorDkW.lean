/- The program's errNoSky, out of a row's list that has three tables ahead of it. -/
import Derived.Test.YtofpjlhoppofdaaGreatDoorSkyW
namespace Go.Proofs.YtofpjlhoppofdaaGreatDoor
open Go.RowKit Go.Deep Go.ChangeShapes
set_option linter.unusedVariables false

def laidDw : List (String × DataW Unit) := [("math/bits.deBruijn32tab", Rows.laid_math_bits_deBruijn32tab), ("math/bits.deBruijn64tab", Rows.laid_math_bits_deBruijn64tab), ("internal/strconv.uint64pow10", Rows.laid_internal_strconv_uint64pow10), ("loop.example/g00577/impl.errNoSky", Rows.laid_loop_example_g00577_impl_errNoSky)]
theorem laidMet_tail {P : Program} {x : String × DataW Unit} {l : List (String × DataW Unit)} {w : World} (h : laidMet P (x :: l) w) : laidMet P l w := by
  obtain ⟨ps, ⟨g, t, cs, f, p, q, hg, ht, hv, hd, hr, e⟩, hn, hrows⟩ := h
  subst e
  exact ⟨q, hr, (List.nodup_append.1 hn).2.1, fun b off hb => hrows b off (List.mem_append_right _ hb)⟩
theorem sky_of_dw {W : World} (h : laidMetH Tryz.prog laidDw W) : laidMetH Tryz.prog laidSky W := by
  have h' : laidMet Tryz.prog laidDw W := h
  exact laidMet_tail (laidMet_tail (laidMet_tail h'))
theorem dw_met (os : Os) (args : Array Value) : laidMetH Tryz.prog laidDw ((World.doorLaid Tryz.prog 400 os).forCall (fun _ _ => 0) ⟨#[], args, []⟩).memory :=
  laidMetH_of_parts3 (fuel := 8) (laidMet_of_run' 8 (by kernel_rfl) (by kernel_rfl)) (by kernel_rfl) (by kernel_rfl)
end Go.Proofs.YtofpjlhoppofdaaGreatDoor
