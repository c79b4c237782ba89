/- errors.Is held against the program's own errNoSky: of nil it answers false; of a skyFault, which unwraps to it, true. Go's own text of errors.Is is walked; package reflectlite's entries are the model's. -/
import Derived.Test.YtnffnjljjecphaaDoorChecked
import Derived.Test.YtnffnjljjecphaaDoorVecA
import Derived.WalkKit
import Derived.LaidEql
import Derived.Stop.Asserts
import Derived.RowKitTokens
namespace Go.Proofs.YtnffnjljjecphaaDoor
open Go.RowKit Go.Extern.Stop Go.Stop Go.Extern
set_option linter.unusedVariables false

theorem isTypeOf (v : Value) (w : World) : (Extern.ReflectliteType.typeOf #[.iface 182 v]).run Tryd.prog w = .ok (.iface 170 (.agg #[.pointer (some ⟨2, 182, none⟩)])) w := by kernel_rfl
theorem isComparable (w : World) : (callFunc 160 #[.agg #[.pointer (some ⟨2, 182, none⟩)]]).run Tryd.prog w = .ok (Next.value (.bool true)) w :=
  (@run_callFunc_extern Tryd.prog 160 _ (Extern.ReflectliteType.method fun t => do Extern.Rtype.noPackHeld "Comparable" t; pure (.bool (← typeInfo t).comparable)) Tryd.func160 (by kernel_rfl) (by kernel_rfl) (by kernel_rfl) (by kernel_rfl) _ w).trans (by kernel_rfl)
theorem isMethodComparable (v : Value) (w : World) : (Go.method 323 170 v "Comparable").run Tryd.prog w = .ok (160, v) w := by kernel_rfl
theorem isComp : (Tryd.prog.info? 182).map (·.comparable) = some true := by kernel_rfl
theorem isSize : (Tryd.prog.info? 207).map (·.size) = some 1 := by kernel_rfl
theorem noIsW (v : Value) (xT : TypeId) (w : World) : (Instr.typeAssert (.iface 165 v) xT 172 true).run Tryd.prog w = .ok (.tuple #[.nilIface, .bool false]) w := run_typeAssert_lacksB Tryd.underlying172 (by kernel_rfl) (by kernel_rfl) v xT w
theorem hasUnwrapW (v : Value) (xT : TypeId) (w : World) : (Instr.typeAssert (.iface 165 v) xT 175 true).run Tryd.prog w = .ok (.tuple #[.iface 165 v, .bool true]) w := run_typeAssert_hasB Tryd.underlying175 (by kernel_rfl) v xT w
theorem methodUnwrap (v : Value) (w : World) : (Go.method 323 165 v "Unwrap").run Tryd.prog w = .ok (156, v) w := by kernel_rfl

/-- the program's errNoSky holds a pointer to an errors.errorString -/
def ErrSky (b : Addr) (w : World) : Prop := w.cell? ⟨1, 0, none⟩ = some (.iface 182 (.pointer (some b)))
theorem ErrSky.lt {b : Addr} {w : World} (h : ErrSky b w) : 1 < w.heap.size := World.block_lt_of_cell? w _ h
theorem ErrSky.kept {b : Addr} {w w' : World} (h : ErrSky b w) (hB : Below w.heap.size w w') : ErrSky b w' := by
  unfold ErrSky
  rw [hB.cell (p := ⟨1, 0, none⟩) h.lt]
  exact h

theorem is_nil (b : Addr) (w : World) :
    Calls Tryd.prog 109 #[.nilIface, .iface 182 (.pointer (some b))] w fun e w' => e = .returned (.bool false) ∧ w' = w := by
  have hn := run_eql_iface_nil_left (P := Tryd.prog) w 182 (.pointer (some b)) Tryd.underlying113
  go_enter Tryd.func109, Tryd.ntmps109
  go_wp2
  go_ret
  exact ⟨rfl, rfl⟩

theorem unwrap_any (why : ByteArray) (b : Addr) (w : World) (h : ErrSky b w) :
    Calls Tryd.prog 156 #[.agg #[.string why]] w fun e w' => e = .returned (.iface 182 (.pointer (some b))) ∧ Below w.heap.size w w' := by
  have h' : ErrSky b (w.alloc (.cells #[.string why] 165)) := h.kept (below1 _ _)
  unfold ErrSky at h'
  go_enter Tryd.func156, Tryd.ntmps156
  go_wp2
  go_ret
  exact ⟨rfl, below1 _ _⟩

set_option maxHeartbeats 1000000 in
theorem is_fault (why : ByteArray) (b : Addr) (w : World) (h : ErrSky b w) :
    Calls Tryd.prog 109 #[.iface 165 (.agg #[.string why]), .iface 182 (.pointer (some b))] w fun e w' => e = .returned (.bool true) ∧ Below w.heap.size w w' := by
  obtain ⟨i, hi, hcmp⟩ := Option.map_eq_some_iff.1 isComp
  obtain ⟨j, hj, hjs⟩ := Option.map_eq_some_iff.1 isSize
  have h8 := @run_callFunc_extern Tryd.prog 118 _ Extern.ReflectliteType.typeOf Tryd.func118 (by kernel_rfl) (by kernel_rfl) (by kernel_rfl) (by kernel_rfl)
  have tT := isTypeOf
  have cT := isComparable
  have mR := isMethodComparable
  have nW := noIsW
  have uW := hasUnwrapW
  have mU := methodUnwrap
  have heq := fun w => run_eql_iface_ptr_same (P := Tryd.prog) w b Tryd.underlying113 Tryd.underlying182 hi hcmp hj
  have hty := fun w => run_eql_iface_types (P := Tryd.prog) 165 182 (.agg #[.string why]) (.pointer (some b)) Tryd.underlying113 (by decide) w
  have HE := hide h
  clear h
  go_enter Tryd.func109, Tryd.ntmps109
  go_wp2
  refine wp_loop_rounds 2 ?_
  rw [rounds_succ]
  go_wp2_with (go_at_call 156; refine (unwrap_any why b _ (unhide HE)).mono ?_; rintro e w1 ⟨rfl, hx⟩)
  rw [rounds_succ]
  go_wp2
  go_ret
  exact ⟨rfl, hx⟩
end Go.Proofs.YtnffnjljjecphaaDoor
