/- errors.Is held against the program's own errNoSky: of nil it answers false; of a skyFault, which unwraps to it, true. Go's own text of errors.Is is walked; package reflectlite's entries are the model's. -/
import Derived.Test.YthmelofbdbplnaaDoorChecked
import Derived.Test.YthmelofbdbplnaaDoorVecA
import Derived.WalkKit
import Derived.LaidEql
import Derived.Stop.Asserts
import Derived.RowKitTokens
namespace Go.Proofs.YthmelofbdbplnaaDoor
open Go.RowKit Go.Extern.Stop Go.Stop Go.Extern
set_option linter.unusedVariables false

theorem isTypeOf (v : Value) (w : World) : (Extern.ReflectliteType.typeOf #[.iface 98 v]).run Tryd.prog w = .ok (.iface 87 (.agg #[.pointer (some ⟨1, 98, none⟩)])) w := by kernel_rfl
theorem isComparable (w : World) : (callFunc 83 #[.agg #[.pointer (some ⟨1, 98, none⟩)]]).run Tryd.prog w = .ok (Next.value (.bool true)) w :=
  (@run_callFunc_extern Tryd.prog 83 _ (Extern.ReflectliteType.method fun t => do Extern.Rtype.noPackHeld "Comparable" t; pure (.bool (← typeInfo t).comparable)) Tryd.func83 (by kernel_rfl) (by kernel_rfl) (by kernel_rfl) (by kernel_rfl) _ w).trans (by kernel_rfl)
theorem isMethodComparable (v : Value) (w : World) : (Go.method 236 87 v "Comparable").run Tryd.prog w = .ok (83, v) w := by kernel_rfl
theorem isComp : (Tryd.prog.info? 98).map (·.comparable) = some true := by kernel_rfl
theorem isSize : (Tryd.prog.info? 124).map (·.size) = some 1 := by kernel_rfl
theorem noIsW (v : Value) (xT : TypeId) (w : World) : (Instr.typeAssert (.iface 81 v) xT 89 true).run Tryd.prog w = .ok (.tuple #[.nilIface, .bool false]) w := run_typeAssert_lacksB Tryd.underlying89 (by kernel_rfl) (by kernel_rfl) v xT w
theorem hasUnwrapW (v : Value) (xT : TypeId) (w : World) : (Instr.typeAssert (.iface 81 v) xT 92 true).run Tryd.prog w = .ok (.tuple #[.iface 81 v, .bool true]) w := run_typeAssert_hasB Tryd.underlying92 (by kernel_rfl) v xT w
theorem methodUnwrap (v : Value) (w : World) : (Go.method 236 81 v "Unwrap").run Tryd.prog w = .ok (79, v) w := by kernel_rfl

/-- the program's errNoSky holds a pointer to an errors.errorString -/
def ErrSky (b : Addr) (w : World) : Prop := w.cell? ⟨0, 0, none⟩ = some (.iface 98 (.pointer (some b)))
theorem ErrSky.lt {b : Addr} {w : World} (h : ErrSky b w) : 0 < w.heap.size := World.block_lt_of_cell? w _ h
theorem ErrSky.kept {b : Addr} {w w' : World} (h : ErrSky b w) (hB : Below w.heap.size w w') : ErrSky b w' := by
  unfold ErrSky
  rw [hB.cell (p := ⟨0, 0, none⟩) h.lt]
  exact h

theorem is_nil (b : Addr) (w : World) :
    Calls Tryd.prog 36 #[.nilIface, .iface 98 (.pointer (some b))] w fun e w' => e = .returned (.bool false) ∧ w' = w := by
  have hn := run_eql_iface_nil_left (P := Tryd.prog) w 98 (.pointer (some b)) Tryd.underlying64
  go_enter Tryd.func36, Tryd.ntmps36
  go_wp2
  go_ret
  exact ⟨rfl, rfl⟩

theorem unwrap_any (why : ByteArray) (b : Addr) (w : World) (h : ErrSky b w) :
    Calls Tryd.prog 79 #[.agg #[.string why]] w fun e w' => e = .returned (.iface 98 (.pointer (some b))) ∧ Below w.heap.size w w' := by
  have h' : ErrSky b (w.alloc (.cells #[.string why] 81)) := h.kept (below1 _ _)
  unfold ErrSky at h'
  go_enter Tryd.func79, Tryd.ntmps79
  go_wp2
  go_ret
  exact ⟨rfl, below1 _ _⟩

set_option maxHeartbeats 1000000 in
theorem is_fault (why : ByteArray) (b : Addr) (w : World) (h : ErrSky b w) :
    Calls Tryd.prog 36 #[.iface 81 (.agg #[.string why]), .iface 98 (.pointer (some b))] w fun e w' => e = .returned (.bool true) ∧ Below w.heap.size w w' := by
  obtain ⟨i, hi, hcmp⟩ := Option.map_eq_some_iff.1 isComp
  obtain ⟨j, hj, hjs⟩ := Option.map_eq_some_iff.1 isSize
  have h8 := @run_callFunc_extern Tryd.prog 53 _ Extern.ReflectliteType.typeOf Tryd.func53 (by kernel_rfl) (by kernel_rfl) (by kernel_rfl) (by kernel_rfl)
  have tT := isTypeOf
  have cT := isComparable
  have mR := isMethodComparable
  have nW := noIsW
  have uW := hasUnwrapW
  have mU := methodUnwrap
  have heq := fun w => run_eql_iface_ptr_same (P := Tryd.prog) w b Tryd.underlying64 Tryd.underlying98 hi hcmp hj
  have hty := fun w => run_eql_iface_types (P := Tryd.prog) 81 98 (.agg #[.string why]) (.pointer (some b)) Tryd.underlying64 (by decide) w
  have HE := hide h
  clear h
  go_enter Tryd.func36, Tryd.ntmps36
  go_wp2
  refine wp_loop_rounds 2 ?_
  rw [rounds_succ]
  go_wp2_with (go_at_call 79; refine (unwrap_any why b _ (unhide HE)).mono ?_; rintro e w1 ⟨rfl, hx⟩)
  rw [rounds_succ]
  go_wp2
  go_ret
  exact ⟨rfl, hx⟩
end Go.Proofs.YthmelofbdbplnaaDoor
