/- errors.As at the program's own target, a *byteFault: of nil it answers false and nothing turns; of a byteFault it answers true and stores it into the target. Go's own text of errors.As is walked; package reflectlite's entries are the model's. -/
import Derived.Test.YtijpnnooenpjoagDoorRows
import Derived.WalkKit
import Derived.LaidEql
import Derived.Stop.Asserts
import Derived.RowKitTokens
namespace Go.Proofs.YtijpnnooenpjoagDoor
open Go.RowKit Go.Extern.Stop Go.Stop Go.Extern

theorem methodKind (h : Value) (w : World) : (Go.method 318 144 (.agg #[h]) "Kind").run Tryd.prog w = .ok (158, h) w := by kernel_rfl
theorem kindE (w : World) : ((ReflectliteType.abiMethod fun t => (fun a : Nat => Value.int IntKind.u8 (a : Int)) <$> Rtype.kind t) #[.pointer (some ⟨5, 158, none⟩)]).run Tryd.prog w = .ok (.int .u8 25) w := by kernel_rfl
theorem methodElem (h : Value) (w : World) : (Go.method 318 144 (.agg #[h]) "Elem").run Tryd.prog w = .ok (162, .agg #[h]) w := by kernel_rfl
theorem methodImplements (h : Value) (w : World) : (Go.method 318 144 (.agg #[h]) "Implements").run Tryd.prog w = .ok (163, .agg #[h]) w := by kernel_rfl
theorem methodAssignableTo (h : Value) (w : World) : (Go.method 318 144 (.agg #[h]) "AssignableTo").run Tryd.prog w = .ok (160, .agg #[h]) w := by kernel_rfl
theorem implementsE (w : World) : (ReflectliteType.relation "Implements" ReflectliteType.implements_ #[.agg #[.pointer (some ⟨5, 158, none⟩)], .iface 144 (.agg #[.pointer (some ⟨5, 71, none⟩)])]).run Tryd.prog w = .ok (.bool true) w := by kernel_rfl
theorem typeOfE (v : Value) (w : World) : (ReflectliteType.typeOf #[.iface 158 v]).run Tryd.prog w = .ok (.iface 144 (.agg #[.pointer (some ⟨5, 158, none⟩)])) w := by kernel_rfl
theorem assignableE (w : World) : (ReflectliteType.relation "AssignableTo" ReflectliteType.assignableTo #[.agg #[.pointer (some ⟨5, 158, none⟩)], .iface 144 (.agg #[.pointer (some ⟨5, 158, none⟩)])]).run Tryd.prog w = .ok (.bool true) w := by kernel_rfl
theorem valueOfE (c : Int) (w : World) : (ReflectliteValue.unpack (.iface 158 (.agg #[.int .i64 c]))).run Tryd.prog w
    = .ok (.agg #[.pointer (some ⟨5, 158, none⟩), .pointer (some ⟨w.heap.size, 0, none⟩), .int .u64 153]) (w.alloc (.cells #[.int .i64 c] 158)) := by kernel_rfl
theorem mkE (p : Addr) (w : World) : (ReflectliteValue.mk 158 p ReflectliteValue.flagAddr).run Tryd.prog w = .ok (.agg #[.pointer (some ⟨5, 158, none⟩), .pointer (some p), .int .u64 409]) w := by kernel_rfl
theorem partsEa (a : Addr) (w : World) : (ReflectliteValue.parts (.agg #[.pointer (some ⟨5, 158, none⟩), .pointer (some a), .int .u64 409])).run Tryd.prog w = .ok (some (158, a, 409)) w := by kernel_rfl
theorem partsE (a : Addr) (w : World) : (ReflectliteValue.parts (.agg #[.pointer (some ⟨5, 158, none⟩), .pointer (some a), .int .u64 153])).run Tryd.prog w = .ok (some (158, a, 153)) w := by kernel_rfl
theorem directE (w : World) : (Rtype.directlyAssignable 158 158).run Tryd.prog w = .ok true w := by kernel_rfl
theorem sizeE (w : World) : (sizeOf 158).run Tryd.prog w = .ok 1 w := by kernel_rfl
/-- (Value).Set: the byteFault at 'ta' gets what the Value's own variable 'b' holds. -/
theorem setE (tb to_ : Nat) (b : Nat) (c : Int) (old : Value) (W : World) (hb : W.cell? ⟨b, 0, none⟩ = some (.int .i64 c)) (ht : W.cell? ⟨tb, to_, none⟩ = some old) (hf : W.frozen? ⟨tb, to_, none⟩ = false) :
    (ReflectliteValue.set #[.agg #[.pointer (some ⟨5, 158, none⟩), .pointer (some ⟨tb, to_, none⟩), .int .u64 409], .agg #[.pointer (some ⟨5, 158, none⟩), .pointer (some ⟨b, 0, none⟩), .int .u64 153]]).run Tryd.prog W
      = .ok (.tuple #[]) (W.setCell ⟨tb, to_, none⟩ (.int .i64 c)) := by
  change Sem.run _ (ReflectliteValue.parts (.agg #[.pointer (some ⟨5, 158, none⟩), .pointer (some ⟨tb, to_, none⟩), .int .u64 409]) >>= fun r => ReflectliteValue.parts (.agg #[.pointer (some ⟨5, 158, none⟩), .pointer (some ⟨b, 0, none⟩), .int .u64 153]) >>= _) W = _
  simp only [Sem.run_bind, partsEa, partsE, Result.andThen]
  have hl : (loadCells ⟨b, 0, none⟩ 1).run Tryd.prog W = .ok #[.int .i64 c] W := by
    have := run_loadCells_list (P := Tryd.prog) W ⟨b, 0, none⟩ [.int .i64 c] (fun j v hj => by
      match j, hj with
      | 0, hj => simp at hj; subst hj; simpa [Addr.add] using hb)
    simpa using this
  simp [ReflectliteValue.flagAddr, loadVar, isAgg, underlying, Tryd.underlying158, Result.andThen, directE, storeVar, Value.cells, storeCells, Addr.add, hl]
  rw [run_store Tryd.prog W ⟨tb, to_, none⟩ _ _ (by rfl)]
  simp [ht, hf]

end Go.Proofs.YtijpnnooenpjoagDoor
