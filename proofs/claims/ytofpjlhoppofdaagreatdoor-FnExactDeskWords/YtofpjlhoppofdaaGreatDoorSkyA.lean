/- errors.Is held against the program's own errNoSky: of nil it answers false; of a skyFault, which unwraps to it, true. Go's own text of errors.Is is walked; package reflectlite's entries are the model's. -/
import Derived.Test.YtofpjlhoppofdaaGreatDoorChecked
import Derived.Test.YtofpjlhoppofdaaGreatDoorVecA
import Derived.WalkKit
import Derived.LaidEql
import Derived.Stop.Asserts
import Derived.RowKitTokens
namespace Go.Proofs.YtofpjlhoppofdaaGreatDoor
open Go.RowKit Go.Extern.Stop Go.Stop Go.Extern
set_option linter.unusedVariables false

theorem isTypeOf (v : Value) (w : World) : (Extern.ReflectliteType.typeOf #[.iface 257 v]).run Tryz.prog w = .ok (.iface 226 (.agg #[.pointer (some ⟨7, 257, none⟩)])) w := by kernel_rfl
theorem isComparable (w : World) : (callFunc 225 #[.agg #[.pointer (some ⟨7, 257, none⟩)]]).run Tryz.prog w = .ok (Next.value (.bool true)) w :=
  (@run_callFunc_extern Tryz.prog 225 _ (Extern.ReflectliteType.method fun t => do Extern.Rtype.noPackHeld "Comparable" t; pure (.bool (← typeInfo t).comparable)) Tryz.func225 (by kernel_rfl) (by kernel_rfl) (by kernel_rfl) (by kernel_rfl) _ w).trans (by kernel_rfl)
theorem isMethodComparable (v : Value) (w : World) : (Go.method 391 226 v "Comparable").run Tryz.prog w = .ok (225, v) w := by kernel_rfl
theorem isComp : (Tryz.prog.info? 257).map (·.comparable) = some true := by kernel_rfl
theorem isSize : (Tryz.prog.info? 280).map (·.size) = some 1 := by kernel_rfl
theorem noIsW (v : Value) (xT : TypeId) (w : World) : (Instr.typeAssert (.iface 200 v) xT 228 true).run Tryz.prog w = .ok (.tuple #[.nilIface, .bool false]) w := run_typeAssert_lacksB Tryz.underlying228 (by kernel_rfl) (by kernel_rfl) v xT w
theorem hasUnwrapW (v : Value) (xT : TypeId) (w : World) : (Instr.typeAssert (.iface 200 v) xT 231 true).run Tryz.prog w = .ok (.tuple #[.iface 200 v, .bool true]) w := run_typeAssert_hasB Tryz.underlying231 (by kernel_rfl) v xT w
theorem methodUnwrap (v : Value) (w : World) : (Go.method 391 200 v "Unwrap").run Tryz.prog w = .ok (221, v) w := by kernel_rfl

/-- the program's errNoSky holds a pointer to an errors.errorString -/
def ErrSky (b : Addr) (w : World) : Prop := w.cell? ⟨1, 0, none⟩ = some (.iface 257 (.pointer (some b)))
theorem ErrSky.lt {b : Addr} {w : World} (h : ErrSky b w) : 1 < w.heap.size := World.block_lt_of_cell? w _ h
theorem ErrSky.kept {b : Addr} {w w' : World} (h : ErrSky b w) (hB : Below w.heap.size w w') : ErrSky b w' := by
  unfold ErrSky
  rw [hB.cell (p := ⟨1, 0, none⟩) h.lt]
  exact h

theorem is_nil (b : Addr) (w : World) :
    Calls Tryz.prog 129 #[.nilIface, .iface 257 (.pointer (some b))] w fun e w' => e = .returned (.bool false) ∧ w' = w := by
  have hn := run_eql_iface_nil_left (P := Tryz.prog) w 257 (.pointer (some b)) Tryz.underlying141
  go_enter Tryz.func129, Tryz.ntmps129
  go_wp2
  go_ret
  exact ⟨rfl, rfl⟩

theorem unwrap_any (why : ByteArray) (b : Addr) (w : World) (h : ErrSky b w) :
    Calls Tryz.prog 221 #[.agg #[.string why]] w fun e w' => e = .returned (.iface 257 (.pointer (some b))) ∧ Below w.heap.size w w' := by
  have h' : ErrSky b (w.alloc (.cells #[.string why] 200)) := h.kept (below1 _ _)
  unfold ErrSky at h'
  go_enter Tryz.func221, Tryz.ntmps221
  go_wp2
  go_ret
  exact ⟨rfl, below1 _ _⟩

set_option maxHeartbeats 1000000 in
theorem is_fault (why : ByteArray) (b : Addr) (w : World) (h : ErrSky b w) :
    Calls Tryz.prog 129 #[.iface 200 (.agg #[.string why]), .iface 257 (.pointer (some b))] w fun e w' => e = .returned (.bool true) ∧ Below w.heap.size w w' := by
  obtain ⟨i, hi, hcmp⟩ := Option.map_eq_some_iff.1 isComp
  obtain ⟨j, hj, hjs⟩ := Option.map_eq_some_iff.1 isSize
  have h8 := @run_callFunc_extern Tryz.prog 156 _ Extern.ReflectliteType.typeOf Tryz.func156 (by kernel_rfl) (by kernel_rfl) (by kernel_rfl) (by kernel_rfl)
  have tT := isTypeOf
  have cT := isComparable
  have mR := isMethodComparable
  have nW := noIsW
  have uW := hasUnwrapW
  have mU := methodUnwrap
  have heq := fun w => run_eql_iface_ptr_same (P := Tryz.prog) w b Tryz.underlying141 Tryz.underlying257 hi hcmp hj
  have hty := fun w => run_eql_iface_types (P := Tryz.prog) 200 257 (.agg #[.string why]) (.pointer (some b)) Tryz.underlying141 (by decide) w
  have HE := hide h
  clear h
  go_enter Tryz.func129, Tryz.ntmps129
  go_wp2
  refine wp_loop_rounds 2 ?_
  rw [rounds_succ]
  go_wp2_with (go_at_call 221; refine (unwrap_any why b _ (unhide HE)).mono ?_; rintro e w1 ⟨rfl, hx⟩)
  rw [rounds_succ]
  go_wp2
  go_ret
  exact ⟨rfl, hx⟩
end Go.Proofs.YtofpjlhoppofdaaGreatDoor
