/-
  NARROWER THAN 'FOR EVERY INPUT', by the rows' own cells (each row's printed sentence says how): FnExactCommandRight: ifaces, laid · FnExactCommandBytes: ifaces, laid · FnExactCommandRead: ifaces, laid · FnExactTell: ifaces, laid.
  DERIVED. THE GIVEN ROWS OF THIS SEAT. 4 by the template 'for every input the law returns true; each argument reads behind the call as it read before'; 0 by the template 'total and deterministic' (their statements: YtnffnjljjecphaaDoorTotals.lean).
  GIVEN WITH THE SEED: the statements are not yours to turn. If you find one false, say at which input.
  Laid BY PROGRAM, IN A SANDBOX (cutbox-rows.mjs): the forced cells as the released guide's own fill.sh prints them over the translation ad0a1580d1e5bd81… (all of the seat's roots in one cut). By AI agents, Wed Nov 11 2026. No macro, syntax, notation, axiom, sorry.
-/
import Derived.Test.YtnffnjljjecphaaDoorChecked
import GoSem.Claim
import GoSem.ClaimJoined
import GoSem.ClaimMapViews
import Derived.JoinedTies
import Derived.KernelRfl
namespace Go.Proofs.YtnffnjljjecphaaDoor
/- THE CELL 'sum', in the pinned program and in every row, IS THE sha256 OF THE DUMP (.gsa) THAT YtnffnjljjecphaaDoorProg.lean LOADS. Nothing in Lean hashes anything: it is a label: what it is worth is what the hold of that sum in a sandbox is worth. -/
noncomputable def Tryd.pinned : Pinned := { name := "ytnffnjljjecphaadoor", sum := "ad0a1580d1e5bd81ec66a37558215387c18a9127ea934087668671b9e2d0b51c", checked := Tryd.checked }
namespace Rows
def none {H : Type} : Left H := { results := [], args := [] }

/- WHAT THE LISTED PACKAGE-LEVEL VARIABLES READ AS WHEN THE CALL BEGINS. Each datum BY PROGRAM (the guide's laid-datum.mjs) off the statement by which the dump's own 'gosem.cut.vars' lays the variable. In a bare row this is a premise. The card (YtnffnjljjecphaaDoorCards.lean) ties it to the program's text. -/
def laid_loop_example_g00577_impl_errNoCommand {H : Type} : DataW H := .iface "*errors.errorString" (.ptr (.agg [.lit (.string [116, 104, 105, 115, 32, 105, 115, 32, 110, 111, 32, 114, 105, 103, 104, 116, 32, 99, 111, 109, 109, 97, 110, 100])]))
def laid_loop_example_g00577_impl_errNoSky {H : Type} : DataW H := .iface "*errors.errorString" (.ptr (.agg [.lit (.string [116, 104, 105, 115, 32, 105, 115, 32, 110, 111, 32, 114, 105, 103, 104, 116, 32, 108, 105, 115, 116, 32, 111, 102, 32, 115, 116, 97, 114, 115])]))

/-- 'laws.FnExactCommandRight': WHATEVER THE INPUT: true; the input reads as it did. -/
def fnExactCommandRightSpec : ChangeSpec := { name := "fnExactCommandRight", vars := ["loop.example/g00577/impl.errNoCommand"], fn := fun _ => fun
  | [d, g1] => { results := [.lit (.bool true)], args := [d], vars := [g1] }
  | _ => none }
def fnExactCommandRightRow : OpenClaim := { program := "ytnffnjljjecphaadoor", sum := "ad0a1580d1e5bd81ec66a37558215387c18a9127ea934087668671b9e2d0b51c", func := "loop.example/g00577/laws.FnExactCommandRight", spec := "fnExactCommandRight", unfollowed := true, recurses := true, named := ["loop.example/g00577/impl.errNoCommand"], ifaces := true, apart := false, laid := [("loop.example/g00577/impl.errNoCommand", laid_loop_example_g00577_impl_errNoCommand)] }
def FnExactCommandRightSaid : Prop := fnExactCommandRightRow.holds Tryd.pinned (OpenSpec.ofChange fnExactCommandRightSpec)

/-- ITS FALSE NEIGHBOUR: 'it returns false'. Refute it at one input. -/
def fnExactCommandRightWrong : ChangeSpec := { name := "fnExactCommandRight", vars := ["loop.example/g00577/impl.errNoCommand"], fn := fun _ => fun
  | [d, g1] => { results := [.lit (.bool false)], args := [d], vars := [g1] }
  | _ => none }
def FnExactCommandRightWrongFalsely : Prop := fnExactCommandRightRow.holds Tryd.pinned (OpenSpec.ofChange fnExactCommandRightWrong)

/-- 'laws.FnExactCommandBytes': WHATEVER THE INPUT: true; the input reads as it did. -/
def fnExactCommandBytesSpec : ChangeSpec := { name := "fnExactCommandBytes", vars := ["loop.example/g00577/impl.errNoCommand"], fn := fun _ => fun
  | [d, g1] => { results := [.lit (.bool true)], args := [d], vars := [g1] }
  | _ => none }
def fnExactCommandBytesRow : OpenClaim := { program := "ytnffnjljjecphaadoor", sum := "ad0a1580d1e5bd81ec66a37558215387c18a9127ea934087668671b9e2d0b51c", func := "loop.example/g00577/laws.FnExactCommandBytes", spec := "fnExactCommandBytes", unfollowed := true, recurses := true, named := ["loop.example/g00577/impl.errNoCommand"], ifaces := true, apart := false, laid := [("loop.example/g00577/impl.errNoCommand", laid_loop_example_g00577_impl_errNoCommand)] }
def FnExactCommandBytesSaid : Prop := fnExactCommandBytesRow.holds Tryd.pinned (OpenSpec.ofChange fnExactCommandBytesSpec)

/-- ITS FALSE NEIGHBOUR: 'it returns false'. Refute it at one input. -/
def fnExactCommandBytesWrong : ChangeSpec := { name := "fnExactCommandBytes", vars := ["loop.example/g00577/impl.errNoCommand"], fn := fun _ => fun
  | [d, g1] => { results := [.lit (.bool false)], args := [d], vars := [g1] }
  | _ => none }
def FnExactCommandBytesWrongFalsely : Prop := fnExactCommandBytesRow.holds Tryd.pinned (OpenSpec.ofChange fnExactCommandBytesWrong)

/-- 'laws.FnExactCommandRead': WHATEVER THE INPUT: true; the input reads as it did. -/
def fnExactCommandReadSpec : ChangeSpec := { name := "fnExactCommandRead", vars := ["loop.example/g00577/impl.errNoCommand"], fn := fun _ => fun
  | [d, g1] => { results := [.lit (.bool true)], args := [d], vars := [g1] }
  | _ => none }
def fnExactCommandReadRow : OpenClaim := { program := "ytnffnjljjecphaadoor", sum := "ad0a1580d1e5bd81ec66a37558215387c18a9127ea934087668671b9e2d0b51c", func := "loop.example/g00577/laws.FnExactCommandRead", spec := "fnExactCommandRead", unfollowed := true, recurses := true, named := ["loop.example/g00577/impl.errNoCommand"], ifaces := true, apart := false, laid := [("loop.example/g00577/impl.errNoCommand", laid_loop_example_g00577_impl_errNoCommand)] }
def FnExactCommandReadSaid : Prop := fnExactCommandReadRow.holds Tryd.pinned (OpenSpec.ofChange fnExactCommandReadSpec)

/-- ITS FALSE NEIGHBOUR: 'it returns false'. Refute it at one input. -/
def fnExactCommandReadWrong : ChangeSpec := { name := "fnExactCommandRead", vars := ["loop.example/g00577/impl.errNoCommand"], fn := fun _ => fun
  | [d, g1] => { results := [.lit (.bool false)], args := [d], vars := [g1] }
  | _ => none }
def FnExactCommandReadWrongFalsely : Prop := fnExactCommandReadRow.holds Tryd.pinned (OpenSpec.ofChange fnExactCommandReadWrong)

/-- 'laws.FnExactTell': WHATEVER THE INPUT: true; the input reads as it did. -/
def fnExactTellSpec : ChangeSpec := { name := "fnExactTell", vars := ["loop.example/g00577/impl.errNoSky"], fn := fun _ => fun
  | [d, g1] => { results := [.lit (.bool true)], args := [d], vars := [g1] }
  | _ => none }
def fnExactTellRow : OpenClaim := { program := "ytnffnjljjecphaadoor", sum := "ad0a1580d1e5bd81ec66a37558215387c18a9127ea934087668671b9e2d0b51c", func := "loop.example/g00577/laws.FnExactTell", spec := "fnExactTell", inPlace := ["internal/reflectlite.TypeOf"], unfollowed := true, recurses := true, named := ["loop.example/g00577/impl.errNoSky"], ifaces := true, apart := false, laid := [("loop.example/g00577/impl.errNoSky", laid_loop_example_g00577_impl_errNoSky)] }
def FnExactTellSaid : Prop := fnExactTellRow.holds Tryd.pinned (OpenSpec.ofChange fnExactTellSpec)

/-- ITS FALSE NEIGHBOUR: 'it returns false'. Refute it at one input. -/
def fnExactTellWrong : ChangeSpec := { name := "fnExactTell", vars := ["loop.example/g00577/impl.errNoSky"], fn := fun _ => fun
  | [d, g1] => { results := [.lit (.bool false)], args := [d], vars := [g1] }
  | _ => none }
def FnExactTellWrongFalsely : Prop := fnExactTellRow.holds Tryd.pinned (OpenSpec.ofChange fnExactTellWrong)

/- THE SECOND FORM. 'bulk': how many values and letters a reading holds, each counted each time it is reached (what is shared counts as often as it is met; a slice's spare places count too). A statement '..UptoSaid' is the law's where the arguments, and the package variables that the reading takes, are together of bulk at most 1048576: NARROWER than '..Said'. Prove '..Said' where nothing that the law and all that it calls make is longer than what came in: it says more and counts as full. Else prove '..UptoSaid'. A law counts once. -/
mutual
def uptoBulk {H : Type} : DataW H → Nat
  | .lit (.string bytes) => bytes.length + 1
  | .lit _ => 1
  | .nil => 1
  | .ptr d => uptoBulk d + 1
  | .slice elems spare => uptoBulkAll elems + uptoBulkAll spare + 1
  | .agg parts => uptoBulkAll parts + 1
  | .iface _ d => uptoBulk d + 1
  | .map entries => uptoBulkEntries entries + 1
  | .held _ => 1
def uptoBulkAll {H : Type} : List (DataW H) → Nat
  | [] => 0
  | d :: r => uptoBulk d + uptoBulkAll r
def uptoBulkEntries {H : Type} : List (Lit × DataW H) → Nat
  | [] => 0
  | x :: r => uptoBulkEntry x + uptoBulkEntries r
def uptoBulkEntry {H : Type} : Lit × DataW H → Nat
  | (.string bytes, d) => bytes.length + uptoBulk d + 1
  | (_, d) => uptoBulk d + 1
 end
def uptoSmall : (H : Type) → List (DataW H) → Bool := fun _ ds => decide (uptoBulkAll ds ≤ 1048576)
def OpenSpec.upto (s : _root_.Go.ChangeSpec) : _root_.Go.OpenSpec := { _root_.Go.OpenSpec.ofChange s with cond := some uptoSmall }

/-- 'laws.FnExactCommandRight', WHERE WHAT IT READS IS OF BULK AT MOST 1048576: true; the input reads as it did. -/
def fnExactCommandRightUptoRow : OpenClaim := { program := "ytnffnjljjecphaadoor", sum := "ad0a1580d1e5bd81ec66a37558215387c18a9127ea934087668671b9e2d0b51c", func := "loop.example/g00577/laws.FnExactCommandRight", spec := "fnExactCommandRight", unfollowed := true, recurses := true, named := ["loop.example/g00577/impl.errNoCommand"], ifaces := true, apart := false, laid := [("loop.example/g00577/impl.errNoCommand", laid_loop_example_g00577_impl_errNoCommand)], narrowed := true }
def FnExactCommandRightUptoSaid : Prop := fnExactCommandRightUptoRow.holds Tryd.pinned (OpenSpec.upto fnExactCommandRightSpec)

/-- 'laws.FnExactCommandBytes', WHERE WHAT IT READS IS OF BULK AT MOST 1048576: true; the input reads as it did. -/
def fnExactCommandBytesUptoRow : OpenClaim := { program := "ytnffnjljjecphaadoor", sum := "ad0a1580d1e5bd81ec66a37558215387c18a9127ea934087668671b9e2d0b51c", func := "loop.example/g00577/laws.FnExactCommandBytes", spec := "fnExactCommandBytes", unfollowed := true, recurses := true, named := ["loop.example/g00577/impl.errNoCommand"], ifaces := true, apart := false, laid := [("loop.example/g00577/impl.errNoCommand", laid_loop_example_g00577_impl_errNoCommand)], narrowed := true }
def FnExactCommandBytesUptoSaid : Prop := fnExactCommandBytesUptoRow.holds Tryd.pinned (OpenSpec.upto fnExactCommandBytesSpec)

/-- 'laws.FnExactCommandRead', WHERE WHAT IT READS IS OF BULK AT MOST 1048576: true; the input reads as it did. -/
def fnExactCommandReadUptoRow : OpenClaim := { program := "ytnffnjljjecphaadoor", sum := "ad0a1580d1e5bd81ec66a37558215387c18a9127ea934087668671b9e2d0b51c", func := "loop.example/g00577/laws.FnExactCommandRead", spec := "fnExactCommandRead", unfollowed := true, recurses := true, named := ["loop.example/g00577/impl.errNoCommand"], ifaces := true, apart := false, laid := [("loop.example/g00577/impl.errNoCommand", laid_loop_example_g00577_impl_errNoCommand)], narrowed := true }
def FnExactCommandReadUptoSaid : Prop := fnExactCommandReadUptoRow.holds Tryd.pinned (OpenSpec.upto fnExactCommandReadSpec)

/-- 'laws.FnExactTell', WHERE WHAT IT READS IS OF BULK AT MOST 1048576: true; the input reads as it did. -/
def fnExactTellUptoRow : OpenClaim := { program := "ytnffnjljjecphaadoor", sum := "ad0a1580d1e5bd81ec66a37558215387c18a9127ea934087668671b9e2d0b51c", func := "loop.example/g00577/laws.FnExactTell", spec := "fnExactTell", inPlace := ["internal/reflectlite.TypeOf"], unfollowed := true, recurses := true, named := ["loop.example/g00577/impl.errNoSky"], ifaces := true, apart := false, laid := [("loop.example/g00577/impl.errNoSky", laid_loop_example_g00577_impl_errNoSky)], narrowed := true }
def FnExactTellUptoSaid : Prop := fnExactTellUptoRow.holds Tryd.pinned (OpenSpec.upto fnExactTellSpec)

end Rows
end Go.Proofs.YtnffnjljjecphaaDoor
