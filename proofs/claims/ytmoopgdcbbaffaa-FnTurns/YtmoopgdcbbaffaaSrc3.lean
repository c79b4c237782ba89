/- The source made of the bytes that are handed in. -/
import Derived.Test.YtmoopgdcbbaffaaSrc2
namespace Go.Proofs.Ytmoopgdcbbaffaa
open Go.RowKit
set_option linter.unusedVariables false

theorem wrap64u_range (a : Int) : 0 ≤ IntKind.u64.wrap a ∧ IntKind.u64.wrap a ≤ 18446744073709551615 := by
  have h := wf_wrap .u64 a
  simpa [Lit.wf, IntKind.min, IntKind.max, IntKind.signed, IntKind.bits] using h

end Go.Proofs.Ytmoopgdcbbaffaa
