/- Why a star may not stand behind those ahead of it: the program's. -/
import Derived.Test.YtijpnnooenpjoalSkyB
import Derived.Lib.QuietBelow
import Derived.BigQuiet
namespace Go.Proofs.Ytijpnnooenpjoal
open Go.RowKit Go.Sort
set_option linter.unusedVariables false

def whyId : ByteArray := ⟨#[97, 110, 32, 73, 100, 32, 105, 115, 32, 110, 111, 116, 32, 49, 32, 116, 111, 32, 57, 57, 57, 57]⟩
def whyUp : ByteArray := ⟨#[116, 104, 101, 32, 73, 100, 115, 32, 97, 114, 101, 32, 110, 111, 116, 32, 114, 105, 115, 105, 110, 103]⟩
def whyAt : ByteArray := ⟨#[97, 32, 115, 116, 97, 114, 32, 105, 115, 32, 97, 116, 32, 110, 111, 32, 115, 109, 97, 108, 108, 32, 100, 105, 114, 101, 99, 116, 105, 111, 110, 32, 116, 104, 97, 116, 32, 105, 115, 32, 105, 116, 115, 32, 111, 119, 110, 32, 112, 114, 105, 109, 101]⟩
def whyTwo : ByteArray := ⟨#[116, 119, 111, 32, 115, 116, 97, 114, 115, 32, 97, 114, 101, 32, 116, 104, 101, 32, 115, 97, 109, 101, 32, 119, 97, 121]⟩
def whyMany : ByteArray := ⟨#[116, 104, 101, 114, 101, 32, 97, 114, 101, 32, 116, 111, 111, 32, 109, 97, 110, 121, 32, 115, 116, 97, 114, 115]⟩
/-- a star's cells at a block of its own -/
theorem starAt_new (w : World) (s : St) (t : TypeId) : StarAt (w.alloc (.cells #[.int .i64 s.1, .int .i64 s.2.1, .int .i64 s.2.2.1, .int .i64 s.2.2.2] t)) w.heap.size 0 s := by
  refine ⟨?_, ?_, ?_, ?_⟩ <;> simp

end Go.Proofs.Ytijpnnooenpjoal
