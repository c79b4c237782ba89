/- A text against the empty one. -/
import Derived.Test.YtijpnnooenpjoaaDoorTurnEq
import Derived.Test.YtijpnnooenpjoaaDoorTurnR
namespace Go.Proofs.YtijpnnooenpjoaaDoor
open Go.RowKit
set_option linter.unusedVariables false
theorem toList_full {tx : ByteArray} (h : tx.size ≠ 0) : tx.toList ≠ [] := by
  intro e
  have h2 := tstr_ne (a := tx) (b := ⟨#[]⟩) (fun e => h (by rw [e]; rfl))
  rw [e] at h2
  exact absurd h2 (by rw [show (ByteArray.mk #[]).toList = [] from by first | kernel_rfl | rfl | decide | (unfold ByteArray.toList; rw [ByteArray.toList.loop]; rfl)]; decide)
theorem neq_empty (tx : ByteArray) (h : tx.size ≠ 0) (w : World) : (binOp .neq 9 (.string tx) (.string ⟨#[]⟩)).run Tryd.prog w = .ok (.bool true) w := by
  have h1 := toList_full h
  simp [go_sem, h1]
end Go.Proofs.YtijpnnooenpjoaaDoor
