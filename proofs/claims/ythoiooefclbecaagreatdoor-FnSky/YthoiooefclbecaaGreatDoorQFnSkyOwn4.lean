/- Several texts in one: SkyW. -/
import Derived.Test.YthoiooefclbecaaGreatDoorRows
import Derived.Deep.Slices
import Derived.Deep.Strs
import Derived.Stop.LaidErr
import Derived.LaidHandle
import Derived.LaidMore
import Derived.ProofKit
import Derived.Test.YthoiooefclbecaaGreatDoorQFnSkyOwn2
namespace Go.Proofs.YthoiooefclbecaaGreatDoor
set_option linter.unusedVariables false
set_option linter.unusedSimpArgs false
set_option maxRecDepth 100000
set_option maxHeartbeats 8000000
section
open Go.RowKit Go.Deep Go.ChangeShapes
def fJ : List (String × DataW Unit) := [("loop.example/g00577/impl.errNoSky", Rows.laid_loop_example_g00577_impl_errNoSky)]
theorem nY : "*" ++ "errors.errorString" = "*errors.errorString" := by decide
theorem rowE (u : TypeId) (h : Tryz.prog.typeName? 3 u = some "*errors.errorString") : u = 153 :=
 typeName_ptr_named (nm := "errors.errorString") (by rw [nY]; kernel_rfl) (by kernel_rfl) (by decide) u (by rw [nY]; exact h)
theorem gK : Tryz.prog.globalNamed "loop.example/g00577/impl.errNoSky" = some 0 := by kernel_rfl
theorem pz : (Tryz.prog.globals[0]?).map (·.type) = some 71 := by kernel_rfl
theorem jX {W : World} (h : laidMetH Tryz.prog fJ W) : ∃ p, W.var? Tryz.prog "loop.example/g00577/impl.errNoSky" = some #[.iface 153 (.pointer (some p))] := by
 have h' : laidMet Tryz.prog fJ W := h
 obtain ⟨a, s, hv, _⟩ := laid_sentinel h' gK pz Tryz.underlying71 rowE Tryz.underlying153 Tryz.underlying177 rfl rfl Tryz.underlying9 (by kernel_rfl) (by kernel_rfl)
 exact ⟨a, hv⟩
theorem ge {W : World} {p : Addr} (hv : W.var? Tryz.prog "loop.example/g00577/impl.errNoSky" = some #[.iface 153 (.pointer (some p))]) : aU p W := by
 unfold aU
 rw [World.var?_cell gK hv 0]
 rfl
theorem mW {H : Type} (enc : TypeId × Value → H) {W : World} {p : Addr} (hv : W.var? Tryz.prog "loop.example/g00577/impl.errNoSky" = some #[.iface 153 (.pointer (some p))]) (sp : Nat → Bool) :
  DataW.TrodVars enc Tryz.prog W sp ["loop.example/g00577/impl.errNoSky"] [tok enc (.iface 153 (.pointer (some p)))] [.cell 0 0] :=
 vars_read1 enc gK pz Tryz.underlying71 hv trivial sp
theorem qY (os : Os) (args : Array Value) : laidMetH Tryz.prog fJ ((World.doorLaid Tryz.prog 400 os).forCall (fun _ _ => 0) ⟨#[], args, []⟩).memory :=
 laidMet_of_run' 8 (by kernel_rfl) (by kernel_rfl)
end
end Go.Proofs.YthoiooefclbecaaGreatDoor
