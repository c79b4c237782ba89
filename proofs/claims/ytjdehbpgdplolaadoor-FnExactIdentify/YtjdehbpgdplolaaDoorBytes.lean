/- Making a row of bytes, and a text out of it, over this seat's program. -/
import Derived.Test.YtjdehbpgdplolaaDoorRows
import Derived.Test.YtjdehbpgdplolaaDoorPlain
import Derived.WalkKit
import Derived.WalkSpells
import Derived.WalkLawsBesides
import Derived.Lib.BufferWrite
import Derived.Lib.SlBytesRow
namespace Go.Proofs.YtjdehbpgdplolaaDoor
open Go.RowKit

set_option maxRecDepth 100000 in
theorem infoByte : ∃ i : TypeInfo, Tryd.prog.info? 5 = some i ∧ i.zero = some (.int .u8 0) ∧ i.size = 1 ∧ i.bytes = 1 := by
  refine ⟨_, rfl, ?_, ?_, ?_⟩ <;> kernel_rfl

theorem setRow_alloc (w : World) (M Y : Array Value) (T : TypeId) : (w.alloc (.cells M T)).setRow w.heap.size Y = w.alloc (.cells Y T) := by
  unfold World.setRow World.alloc
  congr 1
  apply Array.ext
  · simp
  · intro i h1 h2
    have h3 : i < w.heap.size + 1 := by simpa using h2
    simp only [Array.getElem_modify, Array.getElem_push]
    by_cases e : i = w.heap.size
    · subst e; simp
    · have h4 : i < w.heap.size := by omega
      simp [Ne.symm e, h4]

theorem append_empty (a : ByteArray) : a ++ ByteArray.empty = a := by
  apply ByteArray.ext
  simp
end Go.Proofs.YtjdehbpgdplolaaDoor
