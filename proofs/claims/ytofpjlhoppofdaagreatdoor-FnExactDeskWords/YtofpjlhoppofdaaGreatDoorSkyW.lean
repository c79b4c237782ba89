/- A list of stars that came in, as it lies in memory; the program's errNoSky, out of the row's list. -/
import Derived.Test.YtofpjlhoppofdaaGreatDoorSkyB
import Derived.Test.YtofpjlhoppofdaaGreatDoorRows
import Derived.Deep.Slices
import Derived.Deep.Strs
import Derived.Stop.LaidErr
import Derived.LaidHandle
import Derived.LaidMore
import Derived.ProofKit
namespace Go.Proofs.YtofpjlhoppofdaaGreatDoor
open Go.RowKit Go.Deep Go.ChangeShapes
set_option linter.unusedVariables false

def laidSky : List (String × DataW Unit) := [("loop.example/g00577/impl.errNoSky", Rows.laid_loop_example_g00577_impl_errNoSky)]
theorem star_ptr : "*" ++ "errors.errorString" = "*errors.errorString" := by decide
theorem rowE (u : TypeId) (h : Tryz.prog.typeName? 3 u = some "*errors.errorString") : u = 257 :=
  typeName_ptr_named (nm := "errors.errorString") (by rw [star_ptr]; kernel_rfl) (by kernel_rfl) (by decide) u (by rw [star_ptr]; exact h)
theorem errNamed : Tryz.prog.globalNamed "loop.example/g00577/impl.errNoSky" = some 1 := by kernel_rfl
theorem errType : (Tryz.prog.globals[1]?).map (·.type) = some 141 := by kernel_rfl
theorem errVar_of_laid {W : World} (h : laidMetH Tryz.prog laidSky W) : ∃ p, W.var? Tryz.prog "loop.example/g00577/impl.errNoSky" = some #[.iface 257 (.pointer (some p))] := by
  have h' : laidMet Tryz.prog laidSky W := h
  obtain ⟨a, s, hv, _⟩ := laid_sentinel h' errNamed errType Tryz.underlying141 rowE Tryz.underlying257 Tryz.underlying280 rfl rfl Tryz.underlying9 (by kernel_rfl) (by kernel_rfl)
  exact ⟨a, hv⟩
theorem errSky_of_var {W : World} {p : Addr} (hv : W.var? Tryz.prog "loop.example/g00577/impl.errNoSky" = some #[.iface 257 (.pointer (some p))]) : ErrSky p W := by
  unfold ErrSky
  rw [World.var?_cell errNamed hv 0]
  rfl
theorem err_read {H : Type} (enc : TypeId × Value → H) {W : World} {p : Addr} (hv : W.var? Tryz.prog "loop.example/g00577/impl.errNoSky" = some #[.iface 257 (.pointer (some p))]) (sp : Nat → Bool) :
    DataW.TrodVars enc Tryz.prog W sp ["loop.example/g00577/impl.errNoSky"] [tok enc (.iface 257 (.pointer (some p)))] [.cell 1 0] :=
  vars_read1 enc errNamed errType Tryz.underlying141 hv trivial sp
theorem door_met (os : Os) (args : Array Value) : laidMetH Tryz.prog laidSky ((World.doorLaid Tryz.prog 400 os).forCall (fun _ _ => 0) ⟨#[], args, []⟩).memory :=
  laidMet_of_run' 8 (by kernel_rfl) (by kernel_rfl)

theorem stA_range (n : Nat) (f : Nat → St) {i : Nat} (h : i < n) : stA ((List.range n).map f) i = f i := by
  unfold stA
  rw [List.getD_eq_getElem?_getD, List.getElem?_map, List.getElem?_range h]
  rfl
theorem cellsI : Tryz.prog.cellsOf 2 = 1 := by kernel_rfl
theorem spot_none {w : World} {x : Addr} {v : Value} (h : w.cell? x = some v) : x.spot = none := by
  cases hs : x.spot with
  | none => rfl
  | some k =>
    exfalso
    unfold World.cell? at h
    rw [hs] at h
    revert h
    split <;> simp
end Go.Proofs.YtofpjlhoppofdaaGreatDoor
