/-
  NARROWER THAN 'FOR EVERY INPUT', by the rows' own cells (each row's printed sentence says how): FnExactTurnRead: laid · FnExactSkyRight: ifaces, laid · FnExactSkyBytes: ifaces, laid · FnExactSkyRead: ifaces, laid · FnExactStarOf: ifaces, laid · FnExactPairsOf: ifaces, laid.
  DERIVED. THE GIVEN ROWS OF THIS SEAT. 6 by the template 'for every input the law returns true; each argument reads behind the call as it read before'; 0 by the template 'total and deterministic' (their statements: YtijpnnooenpjoagDoorTotals.lean).
  GIVEN WITH THE SEED: the statements are not yours to turn. If you find one false, say at which input.
  Laid BY PROGRAM, IN A SANDBOX (cutbox-rows.mjs): the forced cells as the released guide's own fill.sh prints them over the translation c3bd2f4c7b232a7d… (all of the seat's roots in one cut). By AI agents, Wed Nov 11 2026. No macro, syntax, notation, axiom, sorry.
-/
import Derived.Test.YtijpnnooenpjoagDoorChecked
import GoSem.Claim
import GoSem.ClaimJoined
import GoSem.ClaimMapViews
import Derived.JoinedTies
import Derived.KernelRfl
namespace Go.Proofs.YtijpnnooenpjoagDoor
/- THE CELL 'sum', in the pinned program and in every row, IS THE sha256 OF THE DUMP (.gsa) THAT YtijpnnooenpjoagDoorProg.lean LOADS. Nothing in Lean hashes anything: it is a label: what it is worth is what the hold of that sum in a sandbox is worth. -/
noncomputable def Tryd.pinned : Pinned := { name := "ytijpnnooenpjoagdoor", sum := "c3bd2f4c7b232a7dda0ad70f3cbde8cbdff5ad718157c56cd7c7f417f5832a3c", checked := Tryd.checked }
namespace Rows
def none {H : Type} : Left H := { results := [], args := [] }

/- WHAT THE LISTED PACKAGE-LEVEL VARIABLES READ AS WHEN THE CALL BEGINS. Each datum BY PROGRAM (the guide's laid-datum.mjs) off the statement by which the dump's own 'gosem.cut.vars' lays the variable. In a bare row this is a premise. The card (YtijpnnooenpjoagDoorCards.lean) ties it to the program's text. -/
def laid_math_bits_deBruijn32tab {H : Type} : DataW H := .agg [.lit (.int .u8 0), .lit (.int .u8 1), .lit (.int .u8 28), .lit (.int .u8 2), .lit (.int .u8 29), .lit (.int .u8 14), .lit (.int .u8 24), .lit (.int .u8 3), .lit (.int .u8 30), .lit (.int .u8 22), .lit (.int .u8 20), .lit (.int .u8 15), .lit (.int .u8 25), .lit (.int .u8 17), .lit (.int .u8 4), .lit (.int .u8 8), .lit (.int .u8 31), .lit (.int .u8 27), .lit (.int .u8 13), .lit (.int .u8 23), .lit (.int .u8 21), .lit (.int .u8 19), .lit (.int .u8 16), .lit (.int .u8 7), .lit (.int .u8 26), .lit (.int .u8 12), .lit (.int .u8 18), .lit (.int .u8 6), .lit (.int .u8 11), .lit (.int .u8 5), .lit (.int .u8 10), .lit (.int .u8 9)]
def laid_math_bits_deBruijn64tab {H : Type} : DataW H := .agg [.lit (.int .u8 0), .lit (.int .u8 1), .lit (.int .u8 56), .lit (.int .u8 2), .lit (.int .u8 57), .lit (.int .u8 49), .lit (.int .u8 28), .lit (.int .u8 3), .lit (.int .u8 61), .lit (.int .u8 58), .lit (.int .u8 42), .lit (.int .u8 50), .lit (.int .u8 38), .lit (.int .u8 29), .lit (.int .u8 17), .lit (.int .u8 4), .lit (.int .u8 62), .lit (.int .u8 47), .lit (.int .u8 59), .lit (.int .u8 36), .lit (.int .u8 45), .lit (.int .u8 43), .lit (.int .u8 51), .lit (.int .u8 22), .lit (.int .u8 53), .lit (.int .u8 39), .lit (.int .u8 33), .lit (.int .u8 30), .lit (.int .u8 24), .lit (.int .u8 18), .lit (.int .u8 12), .lit (.int .u8 5), .lit (.int .u8 63), .lit (.int .u8 55), .lit (.int .u8 48), .lit (.int .u8 27), .lit (.int .u8 60), .lit (.int .u8 41), .lit (.int .u8 37), .lit (.int .u8 16), .lit (.int .u8 46), .lit (.int .u8 35), .lit (.int .u8 44), .lit (.int .u8 21), .lit (.int .u8 52), .lit (.int .u8 32), .lit (.int .u8 23), .lit (.int .u8 11), .lit (.int .u8 54), .lit (.int .u8 26), .lit (.int .u8 40), .lit (.int .u8 15), .lit (.int .u8 34), .lit (.int .u8 20), .lit (.int .u8 31), .lit (.int .u8 10), .lit (.int .u8 25), .lit (.int .u8 14), .lit (.int .u8 19), .lit (.int .u8 9), .lit (.int .u8 13), .lit (.int .u8 8), .lit (.int .u8 7), .lit (.int .u8 6)]
def laid_internal_strconv_uint64pow10 {H : Type} : DataW H := .agg [.lit (.int .u64 1), .lit (.int .u64 10), .lit (.int .u64 100), .lit (.int .u64 1000), .lit (.int .u64 10000), .lit (.int .u64 100000), .lit (.int .u64 1000000), .lit (.int .u64 10000000), .lit (.int .u64 100000000), .lit (.int .u64 1000000000), .lit (.int .u64 10000000000), .lit (.int .u64 100000000000), .lit (.int .u64 1000000000000), .lit (.int .u64 10000000000000), .lit (.int .u64 100000000000000), .lit (.int .u64 1000000000000000), .lit (.int .u64 10000000000000000), .lit (.int .u64 100000000000000000), .lit (.int .u64 1000000000000000000), .lit (.int .u64 10000000000000000000)]
def laid_loop_example_g00577_impl_errNoSky {H : Type} : DataW H := .iface "*errors.errorString" (.ptr (.agg [.lit (.string [116, 104, 105, 115, 32, 105, 115, 32, 110, 111, 32, 114, 105, 103, 104, 116, 32, 108, 105, 115, 116, 32, 111, 102, 32, 115, 116, 97, 114, 115])]))

/-- 'laws.FnExactTurnRead': WHATEVER THE INPUT: true; the input reads as it did. -/
def fnExactTurnReadSpec : ChangeSpec := { name := "fnExactTurnRead", fn := fun _ => fun
  | [d] => { results := [.lit (.bool true)], args := [d] }
  | _ => none }
def fnExactTurnReadRow : OpenClaim := { program := "ytijpnnooenpjoagdoor", sum := "c3bd2f4c7b232a7dda0ad70f3cbde8cbdff5ad718157c56cd7c7f417f5832a3c", func := "loop.example/g00577/laws.FnExactTurnRead", spec := "fnExactTurnRead", inPlace := ["internal/abi.NoEscape", "internal/bytealg.MakeNoZero"], named := ["internal/strconv.uint64pow10", "math/bits.deBruijn32tab", "math/bits.deBruijn64tab"], apart := false, laid := [("math/bits.deBruijn32tab", laid_math_bits_deBruijn32tab), ("math/bits.deBruijn64tab", laid_math_bits_deBruijn64tab), ("internal/strconv.uint64pow10", laid_internal_strconv_uint64pow10)] }
def FnExactTurnReadSaid : Prop := fnExactTurnReadRow.holds Tryd.pinned (OpenSpec.ofChange fnExactTurnReadSpec)

/-- ITS FALSE NEIGHBOUR: 'it returns false'. Refute it at one input. -/
def fnExactTurnReadWrong : ChangeSpec := { name := "fnExactTurnRead", fn := fun _ => fun
  | [d] => { results := [.lit (.bool false)], args := [d] }
  | _ => none }
def FnExactTurnReadWrongFalsely : Prop := fnExactTurnReadRow.holds Tryd.pinned (OpenSpec.ofChange fnExactTurnReadWrong)

/-- 'laws.FnExactSkyRight': WHATEVER THE INPUT: true; the input reads as it did. -/
def fnExactSkyRightSpec : ChangeSpec := { name := "fnExactSkyRight", vars := ["loop.example/g00577/impl.errNoSky"], fn := fun _ => fun
  | [d, g1] => { results := [.lit (.bool true)], args := [d], vars := [g1] }
  | _ => none }
def fnExactSkyRightRow : OpenClaim := { program := "ytijpnnooenpjoagdoor", sum := "c3bd2f4c7b232a7dda0ad70f3cbde8cbdff5ad718157c56cd7c7f417f5832a3c", func := "loop.example/g00577/laws.FnExactSkyRight", spec := "fnExactSkyRight", inPlace := ["internal/reflectlite.TypeOf"], unfollowed := true, recurses := true, named := ["loop.example/g00577/impl.errNoSky"], ifaces := true, apart := false, laid := [("loop.example/g00577/impl.errNoSky", laid_loop_example_g00577_impl_errNoSky)] }
def FnExactSkyRightSaid : Prop := fnExactSkyRightRow.holds Tryd.pinned (OpenSpec.ofChange fnExactSkyRightSpec)

/-- ITS FALSE NEIGHBOUR: 'it returns false'. Refute it at one input. -/
def fnExactSkyRightWrong : ChangeSpec := { name := "fnExactSkyRight", vars := ["loop.example/g00577/impl.errNoSky"], fn := fun _ => fun
  | [d, g1] => { results := [.lit (.bool false)], args := [d], vars := [g1] }
  | _ => none }
def FnExactSkyRightWrongFalsely : Prop := fnExactSkyRightRow.holds Tryd.pinned (OpenSpec.ofChange fnExactSkyRightWrong)

/-- 'laws.FnExactSkyBytes': WHATEVER THE INPUT: true; the input reads as it did. -/
def fnExactSkyBytesSpec : ChangeSpec := { name := "fnExactSkyBytes", vars := ["loop.example/g00577/impl.errNoSky"], fn := fun _ => fun
  | [d, g1] => { results := [.lit (.bool true)], args := [d], vars := [g1] }
  | _ => none }
def fnExactSkyBytesRow : OpenClaim := { program := "ytijpnnooenpjoagdoor", sum := "c3bd2f4c7b232a7dda0ad70f3cbde8cbdff5ad718157c56cd7c7f417f5832a3c", func := "loop.example/g00577/laws.FnExactSkyBytes", spec := "fnExactSkyBytes", inPlace := ["internal/reflectlite.TypeOf"], unfollowed := true, recurses := true, named := ["loop.example/g00577/impl.errNoSky"], ifaces := true, apart := false, laid := [("loop.example/g00577/impl.errNoSky", laid_loop_example_g00577_impl_errNoSky)] }
def FnExactSkyBytesSaid : Prop := fnExactSkyBytesRow.holds Tryd.pinned (OpenSpec.ofChange fnExactSkyBytesSpec)

/-- ITS FALSE NEIGHBOUR: 'it returns false'. Refute it at one input. -/
def fnExactSkyBytesWrong : ChangeSpec := { name := "fnExactSkyBytes", vars := ["loop.example/g00577/impl.errNoSky"], fn := fun _ => fun
  | [d, g1] => { results := [.lit (.bool false)], args := [d], vars := [g1] }
  | _ => none }
def FnExactSkyBytesWrongFalsely : Prop := fnExactSkyBytesRow.holds Tryd.pinned (OpenSpec.ofChange fnExactSkyBytesWrong)

/-- 'laws.FnExactSkyRead': WHATEVER THE INPUT: true; the input reads as it did. -/
def fnExactSkyReadSpec : ChangeSpec := { name := "fnExactSkyRead", vars := ["loop.example/g00577/impl.errNoSky"], fn := fun _ => fun
  | [d, g1] => { results := [.lit (.bool true)], args := [d], vars := [g1] }
  | _ => none }
def fnExactSkyReadRow : OpenClaim := { program := "ytijpnnooenpjoagdoor", sum := "c3bd2f4c7b232a7dda0ad70f3cbde8cbdff5ad718157c56cd7c7f417f5832a3c", func := "loop.example/g00577/laws.FnExactSkyRead", spec := "fnExactSkyRead", inPlace := ["internal/reflectlite.TypeOf"], unfollowed := true, recurses := true, named := ["loop.example/g00577/impl.errNoSky"], ifaces := true, apart := false, laid := [("loop.example/g00577/impl.errNoSky", laid_loop_example_g00577_impl_errNoSky)] }
def FnExactSkyReadSaid : Prop := fnExactSkyReadRow.holds Tryd.pinned (OpenSpec.ofChange fnExactSkyReadSpec)

/-- ITS FALSE NEIGHBOUR: 'it returns false'. Refute it at one input. -/
def fnExactSkyReadWrong : ChangeSpec := { name := "fnExactSkyRead", vars := ["loop.example/g00577/impl.errNoSky"], fn := fun _ => fun
  | [d, g1] => { results := [.lit (.bool false)], args := [d], vars := [g1] }
  | _ => none }
def FnExactSkyReadWrongFalsely : Prop := fnExactSkyReadRow.holds Tryd.pinned (OpenSpec.ofChange fnExactSkyReadWrong)

/-- 'laws.FnExactStarOf': WHATEVER THE INPUT: true; the input reads as it did. -/
def fnExactStarOfSpec : ChangeSpec := { name := "fnExactStarOf", vars := ["loop.example/g00577/impl.errNoSky"], fn := fun _ => fun
  | [d1, d2, g1] => { results := [.lit (.bool true)], args := [d1, d2], vars := [g1] }
  | _ => none }
def fnExactStarOfRow : OpenClaim := { program := "ytijpnnooenpjoagdoor", sum := "c3bd2f4c7b232a7dda0ad70f3cbde8cbdff5ad718157c56cd7c7f417f5832a3c", func := "loop.example/g00577/laws.FnExactStarOf", spec := "fnExactStarOf", inPlace := ["internal/reflectlite.TypeOf"], unfollowed := true, recurses := true, named := ["loop.example/g00577/impl.errNoSky"], ifaces := true, apart := false, laid := [("loop.example/g00577/impl.errNoSky", laid_loop_example_g00577_impl_errNoSky)] }
def FnExactStarOfSaid : Prop := fnExactStarOfRow.holds Tryd.pinned (OpenSpec.ofChange fnExactStarOfSpec)

/-- ITS FALSE NEIGHBOUR: 'it returns false'. Refute it at one input. -/
def fnExactStarOfWrong : ChangeSpec := { name := "fnExactStarOf", vars := ["loop.example/g00577/impl.errNoSky"], fn := fun _ => fun
  | [d1, d2, g1] => { results := [.lit (.bool false)], args := [d1, d2], vars := [g1] }
  | _ => none }
def FnExactStarOfWrongFalsely : Prop := fnExactStarOfRow.holds Tryd.pinned (OpenSpec.ofChange fnExactStarOfWrong)

/-- 'laws.FnExactPairsOf': WHATEVER THE INPUT: true; the input reads as it did. -/
def fnExactPairsOfSpec : ChangeSpec := { name := "fnExactPairsOf", vars := ["loop.example/g00577/impl.errNoSky"], fn := fun _ => fun
  | [d, g1] => { results := [.lit (.bool true)], args := [d], vars := [g1] }
  | _ => none }
def fnExactPairsOfRow : OpenClaim := { program := "ytijpnnooenpjoagdoor", sum := "c3bd2f4c7b232a7dda0ad70f3cbde8cbdff5ad718157c56cd7c7f417f5832a3c", func := "loop.example/g00577/laws.FnExactPairsOf", spec := "fnExactPairsOf", inPlace := ["internal/reflectlite.TypeOf"], unfollowed := true, recurses := true, named := ["loop.example/g00577/impl.errNoSky"], ifaces := true, apart := false, laid := [("loop.example/g00577/impl.errNoSky", laid_loop_example_g00577_impl_errNoSky)] }
def FnExactPairsOfSaid : Prop := fnExactPairsOfRow.holds Tryd.pinned (OpenSpec.ofChange fnExactPairsOfSpec)

/-- ITS FALSE NEIGHBOUR: 'it returns false'. Refute it at one input. -/
def fnExactPairsOfWrong : ChangeSpec := { name := "fnExactPairsOf", vars := ["loop.example/g00577/impl.errNoSky"], fn := fun _ => fun
  | [d, g1] => { results := [.lit (.bool false)], args := [d], vars := [g1] }
  | _ => none }
def FnExactPairsOfWrongFalsely : Prop := fnExactPairsOfRow.holds Tryd.pinned (OpenSpec.ofChange fnExactPairsOfWrong)

/- THE SECOND FORM. 'bulk': how many values and letters a reading holds, each counted each time it is reached (what is shared counts as often as it is met; a slice's spare places count too). A statement '..UptoSaid' is the law's where the arguments, and the package variables that the reading takes, are together of bulk at most 1048576: NARROWER than '..Said'. Prove '..Said' where nothing that the law and all that it calls make is longer than what came in: it says more and counts as full. Else prove '..UptoSaid'. A law counts once. -/
mutual
def uptoBulk {H : Type} : DataW H → Nat
  | .lit (.string bytes) => bytes.length + 1
  | .lit _ => 1
  | .nil => 1
  | .ptr d => uptoBulk d + 1
  | .slice elems spare => uptoBulkAll elems + uptoBulkAll spare + 1
  | .agg parts => uptoBulkAll parts + 1
  | .iface _ d => uptoBulk d + 1
  | .map entries => uptoBulkEntries entries + 1
  | .held _ => 1
def uptoBulkAll {H : Type} : List (DataW H) → Nat
  | [] => 0
  | d :: r => uptoBulk d + uptoBulkAll r
def uptoBulkEntries {H : Type} : List (Lit × DataW H) → Nat
  | [] => 0
  | x :: r => uptoBulkEntry x + uptoBulkEntries r
def uptoBulkEntry {H : Type} : Lit × DataW H → Nat
  | (.string bytes, d) => bytes.length + uptoBulk d + 1
  | (_, d) => uptoBulk d + 1
 end
def uptoSmall : (H : Type) → List (DataW H) → Bool := fun _ ds => decide (uptoBulkAll ds ≤ 1048576)
def OpenSpec.upto (s : _root_.Go.ChangeSpec) : _root_.Go.OpenSpec := { _root_.Go.OpenSpec.ofChange s with cond := some uptoSmall }

/-- 'laws.FnExactTurnRead', WHERE WHAT IT READS IS OF BULK AT MOST 1048576: true; the input reads as it did. -/
def fnExactTurnReadUptoRow : OpenClaim := { program := "ytijpnnooenpjoagdoor", sum := "c3bd2f4c7b232a7dda0ad70f3cbde8cbdff5ad718157c56cd7c7f417f5832a3c", func := "loop.example/g00577/laws.FnExactTurnRead", spec := "fnExactTurnRead", inPlace := ["internal/abi.NoEscape", "internal/bytealg.MakeNoZero"], named := ["internal/strconv.uint64pow10", "math/bits.deBruijn32tab", "math/bits.deBruijn64tab"], apart := false, laid := [("math/bits.deBruijn32tab", laid_math_bits_deBruijn32tab), ("math/bits.deBruijn64tab", laid_math_bits_deBruijn64tab), ("internal/strconv.uint64pow10", laid_internal_strconv_uint64pow10)], narrowed := true }
def FnExactTurnReadUptoSaid : Prop := fnExactTurnReadUptoRow.holds Tryd.pinned (OpenSpec.upto fnExactTurnReadSpec)

/-- 'laws.FnExactSkyRight', WHERE WHAT IT READS IS OF BULK AT MOST 1048576: true; the input reads as it did. -/
def fnExactSkyRightUptoRow : OpenClaim := { program := "ytijpnnooenpjoagdoor", sum := "c3bd2f4c7b232a7dda0ad70f3cbde8cbdff5ad718157c56cd7c7f417f5832a3c", func := "loop.example/g00577/laws.FnExactSkyRight", spec := "fnExactSkyRight", inPlace := ["internal/reflectlite.TypeOf"], unfollowed := true, recurses := true, named := ["loop.example/g00577/impl.errNoSky"], ifaces := true, apart := false, laid := [("loop.example/g00577/impl.errNoSky", laid_loop_example_g00577_impl_errNoSky)], narrowed := true }
def FnExactSkyRightUptoSaid : Prop := fnExactSkyRightUptoRow.holds Tryd.pinned (OpenSpec.upto fnExactSkyRightSpec)

/-- 'laws.FnExactSkyBytes', WHERE WHAT IT READS IS OF BULK AT MOST 1048576: true; the input reads as it did. -/
def fnExactSkyBytesUptoRow : OpenClaim := { program := "ytijpnnooenpjoagdoor", sum := "c3bd2f4c7b232a7dda0ad70f3cbde8cbdff5ad718157c56cd7c7f417f5832a3c", func := "loop.example/g00577/laws.FnExactSkyBytes", spec := "fnExactSkyBytes", inPlace := ["internal/reflectlite.TypeOf"], unfollowed := true, recurses := true, named := ["loop.example/g00577/impl.errNoSky"], ifaces := true, apart := false, laid := [("loop.example/g00577/impl.errNoSky", laid_loop_example_g00577_impl_errNoSky)], narrowed := true }
def FnExactSkyBytesUptoSaid : Prop := fnExactSkyBytesUptoRow.holds Tryd.pinned (OpenSpec.upto fnExactSkyBytesSpec)

/-- 'laws.FnExactSkyRead', WHERE WHAT IT READS IS OF BULK AT MOST 1048576: true; the input reads as it did. -/
def fnExactSkyReadUptoRow : OpenClaim := { program := "ytijpnnooenpjoagdoor", sum := "c3bd2f4c7b232a7dda0ad70f3cbde8cbdff5ad718157c56cd7c7f417f5832a3c", func := "loop.example/g00577/laws.FnExactSkyRead", spec := "fnExactSkyRead", inPlace := ["internal/reflectlite.TypeOf"], unfollowed := true, recurses := true, named := ["loop.example/g00577/impl.errNoSky"], ifaces := true, apart := false, laid := [("loop.example/g00577/impl.errNoSky", laid_loop_example_g00577_impl_errNoSky)], narrowed := true }
def FnExactSkyReadUptoSaid : Prop := fnExactSkyReadUptoRow.holds Tryd.pinned (OpenSpec.upto fnExactSkyReadSpec)

/-- 'laws.FnExactStarOf', WHERE WHAT IT READS IS OF BULK AT MOST 1048576: true; the input reads as it did. -/
def fnExactStarOfUptoRow : OpenClaim := { program := "ytijpnnooenpjoagdoor", sum := "c3bd2f4c7b232a7dda0ad70f3cbde8cbdff5ad718157c56cd7c7f417f5832a3c", func := "loop.example/g00577/laws.FnExactStarOf", spec := "fnExactStarOf", inPlace := ["internal/reflectlite.TypeOf"], unfollowed := true, recurses := true, named := ["loop.example/g00577/impl.errNoSky"], ifaces := true, apart := false, laid := [("loop.example/g00577/impl.errNoSky", laid_loop_example_g00577_impl_errNoSky)], narrowed := true }
def FnExactStarOfUptoSaid : Prop := fnExactStarOfUptoRow.holds Tryd.pinned (OpenSpec.upto fnExactStarOfSpec)

/-- 'laws.FnExactPairsOf', WHERE WHAT IT READS IS OF BULK AT MOST 1048576: true; the input reads as it did. -/
def fnExactPairsOfUptoRow : OpenClaim := { program := "ytijpnnooenpjoagdoor", sum := "c3bd2f4c7b232a7dda0ad70f3cbde8cbdff5ad718157c56cd7c7f417f5832a3c", func := "loop.example/g00577/laws.FnExactPairsOf", spec := "fnExactPairsOf", inPlace := ["internal/reflectlite.TypeOf"], unfollowed := true, recurses := true, named := ["loop.example/g00577/impl.errNoSky"], ifaces := true, apart := false, laid := [("loop.example/g00577/impl.errNoSky", laid_loop_example_g00577_impl_errNoSky)], narrowed := true }
def FnExactPairsOfUptoSaid : Prop := fnExactPairsOfUptoRow.holds Tryd.pinned (OpenSpec.upto fnExactPairsOfSpec)

end Rows
end Go.Proofs.YtijpnnooenpjoagDoor
