/-
  NARROWER THAN 'FOR EVERY INPUT', by the rows' own cells (each row's printed sentence says how): FnExactTrackerRight: ifaces, laid · FnExactTrackerNew: ifaces, laid · FnExactGyro: ifaces, laid · FnExactReset: ifaces, laid.
  DERIVED. THE GIVEN ROWS OF THIS SEAT. 4 by the template 'for every input the law returns true; each argument reads behind the call as it read before'; 0 by the template 'total and deterministic' (their statements: YtdclojpgbekmeaaDoorTotals.lean).
  GIVEN WITH THE SEED: the statements are not yours to turn. If you find one false, say at which input.
  Laid BY PROGRAM, IN A SANDBOX (cutbox-rows.mjs): the forced cells as the released guide's own fill.sh prints them over the translation c3214dc3859aa64b… (all of the seat's roots in one cut). By AI agents, Wed Nov 11 2026. No macro, syntax, notation, axiom, sorry.
-/
import Derived.Test.YtdclojpgbekmeaaDoorChecked
import GoSem.Claim
import GoSem.ClaimJoined
import GoSem.ClaimMapViews
import Derived.JoinedTies
import Derived.KernelRfl
namespace Go.Proofs.YtdclojpgbekmeaaDoor
/- THE CELL 'sum', in the pinned program and in every row, IS THE sha256 OF THE DUMP (.gsa) THAT YtdclojpgbekmeaaDoorProg.lean LOADS. Nothing in Lean hashes anything: it is a label: what it is worth is what the hold of that sum in a sandbox is worth. -/
noncomputable def Tryd.pinned : Pinned := { name := "ytdclojpgbekmeaadoor", sum := "c3214dc3859aa64bab52f53dcd3c49631b82db74d4c751e08c47df160e6b4179", checked := Tryd.checked }
namespace Rows
def none {H : Type} : Left H := { results := [], args := [] }

/- WHAT THE LISTED PACKAGE-LEVEL VARIABLES READ AS WHEN THE CALL BEGINS. Each datum BY PROGRAM (the guide's laid-datum.mjs) off the statement by which the dump's own 'gosem.cut.vars' lays the variable. In a bare row this is a premise. The card (YtdclojpgbekmeaaDoorCards.lean) ties it to the program's text. -/
def laid_loop_example_g00577_impl_errNoSky {H : Type} : DataW H := .iface "*errors.errorString" (.ptr (.agg [.lit (.string [116, 104, 105, 115, 32, 105, 115, 32, 110, 111, 32, 114, 105, 103, 104, 116, 32, 108, 105, 115, 116, 32, 111, 102, 32, 115, 116, 97, 114, 115])]))

/-- 'laws.FnExactTrackerRight': WHATEVER THE INPUT: true; the input reads as it did. -/
def fnExactTrackerRightSpec : ChangeSpec := { name := "fnExactTrackerRight", vars := ["loop.example/g00577/impl.errNoSky"], fn := fun _ => fun
  | [d, g1] => { results := [.lit (.bool true)], args := [d], vars := [g1] }
  | _ => none }
def fnExactTrackerRightRow : OpenClaim := { program := "ytdclojpgbekmeaadoor", sum := "c3214dc3859aa64bab52f53dcd3c49631b82db74d4c751e08c47df160e6b4179", func := "loop.example/g00577/laws.FnExactTrackerRight", spec := "fnExactTrackerRight", inPlace := ["internal/reflectlite.TypeOf"], unfollowed := true, recurses := true, named := ["loop.example/g00577/impl.errNoSky"], ifaces := true, apart := false, laid := [("loop.example/g00577/impl.errNoSky", laid_loop_example_g00577_impl_errNoSky)] }
def FnExactTrackerRightSaid : Prop := fnExactTrackerRightRow.holds Tryd.pinned (OpenSpec.ofChange fnExactTrackerRightSpec)

/-- ITS FALSE NEIGHBOUR: 'it returns false'. Refute it at one input. -/
def fnExactTrackerRightWrong : ChangeSpec := { name := "fnExactTrackerRight", vars := ["loop.example/g00577/impl.errNoSky"], fn := fun _ => fun
  | [d, g1] => { results := [.lit (.bool false)], args := [d], vars := [g1] }
  | _ => none }
def FnExactTrackerRightWrongFalsely : Prop := fnExactTrackerRightRow.holds Tryd.pinned (OpenSpec.ofChange fnExactTrackerRightWrong)

/-- 'laws.FnExactTrackerNew': WHATEVER THE INPUT: true; the input reads as it did. -/
def fnExactTrackerNewSpec : ChangeSpec := { name := "fnExactTrackerNew", vars := ["loop.example/g00577/impl.errNoSky"], fn := fun _ => fun
  | [d1, d2, g1] => { results := [.lit (.bool true)], args := [d1, d2], vars := [g1] }
  | _ => none }
def fnExactTrackerNewRow : OpenClaim := { program := "ytdclojpgbekmeaadoor", sum := "c3214dc3859aa64bab52f53dcd3c49631b82db74d4c751e08c47df160e6b4179", func := "loop.example/g00577/laws.FnExactTrackerNew", spec := "fnExactTrackerNew", inPlace := ["internal/reflectlite.TypeOf"], unfollowed := true, recurses := true, named := ["loop.example/g00577/impl.errNoSky"], ifaces := true, apart := false, laid := [("loop.example/g00577/impl.errNoSky", laid_loop_example_g00577_impl_errNoSky)] }
def FnExactTrackerNewSaid : Prop := fnExactTrackerNewRow.holds Tryd.pinned (OpenSpec.ofChange fnExactTrackerNewSpec)

/-- ITS FALSE NEIGHBOUR: 'it returns false'. Refute it at one input. -/
def fnExactTrackerNewWrong : ChangeSpec := { name := "fnExactTrackerNew", vars := ["loop.example/g00577/impl.errNoSky"], fn := fun _ => fun
  | [d1, d2, g1] => { results := [.lit (.bool false)], args := [d1, d2], vars := [g1] }
  | _ => none }
def FnExactTrackerNewWrongFalsely : Prop := fnExactTrackerNewRow.holds Tryd.pinned (OpenSpec.ofChange fnExactTrackerNewWrong)

/-- 'laws.FnExactGyro': WHATEVER THE INPUT: true; the input reads as it did. -/
def fnExactGyroSpec : ChangeSpec := { name := "fnExactGyro", vars := ["loop.example/g00577/impl.errNoSky"], fn := fun _ => fun
  | [d1, d2, g1] => { results := [.lit (.bool true)], args := [d1, d2], vars := [g1] }
  | _ => none }
def fnExactGyroRow : OpenClaim := { program := "ytdclojpgbekmeaadoor", sum := "c3214dc3859aa64bab52f53dcd3c49631b82db74d4c751e08c47df160e6b4179", func := "loop.example/g00577/laws.FnExactGyro", spec := "fnExactGyro", inPlace := ["internal/reflectlite.TypeOf"], unfollowed := true, recurses := true, named := ["loop.example/g00577/impl.errNoSky"], ifaces := true, apart := false, laid := [("loop.example/g00577/impl.errNoSky", laid_loop_example_g00577_impl_errNoSky)] }
def FnExactGyroSaid : Prop := fnExactGyroRow.holds Tryd.pinned (OpenSpec.ofChange fnExactGyroSpec)

/-- ITS FALSE NEIGHBOUR: 'it returns false'. Refute it at one input. -/
def fnExactGyroWrong : ChangeSpec := { name := "fnExactGyro", vars := ["loop.example/g00577/impl.errNoSky"], fn := fun _ => fun
  | [d1, d2, g1] => { results := [.lit (.bool false)], args := [d1, d2], vars := [g1] }
  | _ => none }
def FnExactGyroWrongFalsely : Prop := fnExactGyroRow.holds Tryd.pinned (OpenSpec.ofChange fnExactGyroWrong)

/-- 'laws.FnExactReset': WHATEVER THE INPUT: true; the input reads as it did. -/
def fnExactResetSpec : ChangeSpec := { name := "fnExactReset", vars := ["loop.example/g00577/impl.errNoSky"], fn := fun _ => fun
  | [d, g1] => { results := [.lit (.bool true)], args := [d], vars := [g1] }
  | _ => none }
def fnExactResetRow : OpenClaim := { program := "ytdclojpgbekmeaadoor", sum := "c3214dc3859aa64bab52f53dcd3c49631b82db74d4c751e08c47df160e6b4179", func := "loop.example/g00577/laws.FnExactReset", spec := "fnExactReset", inPlace := ["internal/reflectlite.TypeOf"], unfollowed := true, recurses := true, named := ["loop.example/g00577/impl.errNoSky"], ifaces := true, apart := false, laid := [("loop.example/g00577/impl.errNoSky", laid_loop_example_g00577_impl_errNoSky)] }
def FnExactResetSaid : Prop := fnExactResetRow.holds Tryd.pinned (OpenSpec.ofChange fnExactResetSpec)

/-- ITS FALSE NEIGHBOUR: 'it returns false'. Refute it at one input. -/
def fnExactResetWrong : ChangeSpec := { name := "fnExactReset", vars := ["loop.example/g00577/impl.errNoSky"], fn := fun _ => fun
  | [d, g1] => { results := [.lit (.bool false)], args := [d], vars := [g1] }
  | _ => none }
def FnExactResetWrongFalsely : Prop := fnExactResetRow.holds Tryd.pinned (OpenSpec.ofChange fnExactResetWrong)

/- THE SECOND FORM. 'bulk': how many values and letters a reading holds, each counted each time it is reached (what is shared counts as often as it is met; a slice's spare places count too). A statement '..UptoSaid' is the law's where the arguments, and the package variables that the reading takes, are together of bulk at most 1048576: NARROWER than '..Said'. Prove '..Said' where nothing that the law and all that it calls make is longer than what came in: it says more and counts as full. Else prove '..UptoSaid'. A law counts once. -/
mutual
def uptoBulk {H : Type} : DataW H → Nat
  | .lit (.string bytes) => bytes.length + 1
  | .lit _ => 1
  | .nil => 1
  | .ptr d => uptoBulk d + 1
  | .slice elems spare => uptoBulkAll elems + uptoBulkAll spare + 1
  | .agg parts => uptoBulkAll parts + 1
  | .iface _ d => uptoBulk d + 1
  | .map entries => uptoBulkEntries entries + 1
  | .held _ => 1
def uptoBulkAll {H : Type} : List (DataW H) → Nat
  | [] => 0
  | d :: r => uptoBulk d + uptoBulkAll r
def uptoBulkEntries {H : Type} : List (Lit × DataW H) → Nat
  | [] => 0
  | x :: r => uptoBulkEntry x + uptoBulkEntries r
def uptoBulkEntry {H : Type} : Lit × DataW H → Nat
  | (.string bytes, d) => bytes.length + uptoBulk d + 1
  | (_, d) => uptoBulk d + 1
 end
def uptoSmall : (H : Type) → List (DataW H) → Bool := fun _ ds => decide (uptoBulkAll ds ≤ 1048576)
def OpenSpec.upto (s : _root_.Go.ChangeSpec) : _root_.Go.OpenSpec := { _root_.Go.OpenSpec.ofChange s with cond := some uptoSmall }

/-- 'laws.FnExactTrackerRight', WHERE WHAT IT READS IS OF BULK AT MOST 1048576: true; the input reads as it did. -/
def fnExactTrackerRightUptoRow : OpenClaim := { program := "ytdclojpgbekmeaadoor", sum := "c3214dc3859aa64bab52f53dcd3c49631b82db74d4c751e08c47df160e6b4179", func := "loop.example/g00577/laws.FnExactTrackerRight", spec := "fnExactTrackerRight", inPlace := ["internal/reflectlite.TypeOf"], unfollowed := true, recurses := true, named := ["loop.example/g00577/impl.errNoSky"], ifaces := true, apart := false, laid := [("loop.example/g00577/impl.errNoSky", laid_loop_example_g00577_impl_errNoSky)], narrowed := true }
def FnExactTrackerRightUptoSaid : Prop := fnExactTrackerRightUptoRow.holds Tryd.pinned (OpenSpec.upto fnExactTrackerRightSpec)

/-- 'laws.FnExactTrackerNew', WHERE WHAT IT READS IS OF BULK AT MOST 1048576: true; the input reads as it did. -/
def fnExactTrackerNewUptoRow : OpenClaim := { program := "ytdclojpgbekmeaadoor", sum := "c3214dc3859aa64bab52f53dcd3c49631b82db74d4c751e08c47df160e6b4179", func := "loop.example/g00577/laws.FnExactTrackerNew", spec := "fnExactTrackerNew", inPlace := ["internal/reflectlite.TypeOf"], unfollowed := true, recurses := true, named := ["loop.example/g00577/impl.errNoSky"], ifaces := true, apart := false, laid := [("loop.example/g00577/impl.errNoSky", laid_loop_example_g00577_impl_errNoSky)], narrowed := true }
def FnExactTrackerNewUptoSaid : Prop := fnExactTrackerNewUptoRow.holds Tryd.pinned (OpenSpec.upto fnExactTrackerNewSpec)

/-- 'laws.FnExactGyro', WHERE WHAT IT READS IS OF BULK AT MOST 1048576: true; the input reads as it did. -/
def fnExactGyroUptoRow : OpenClaim := { program := "ytdclojpgbekmeaadoor", sum := "c3214dc3859aa64bab52f53dcd3c49631b82db74d4c751e08c47df160e6b4179", func := "loop.example/g00577/laws.FnExactGyro", spec := "fnExactGyro", inPlace := ["internal/reflectlite.TypeOf"], unfollowed := true, recurses := true, named := ["loop.example/g00577/impl.errNoSky"], ifaces := true, apart := false, laid := [("loop.example/g00577/impl.errNoSky", laid_loop_example_g00577_impl_errNoSky)], narrowed := true }
def FnExactGyroUptoSaid : Prop := fnExactGyroUptoRow.holds Tryd.pinned (OpenSpec.upto fnExactGyroSpec)

/-- 'laws.FnExactReset', WHERE WHAT IT READS IS OF BULK AT MOST 1048576: true; the input reads as it did. -/
def fnExactResetUptoRow : OpenClaim := { program := "ytdclojpgbekmeaadoor", sum := "c3214dc3859aa64bab52f53dcd3c49631b82db74d4c751e08c47df160e6b4179", func := "loop.example/g00577/laws.FnExactReset", spec := "fnExactReset", inPlace := ["internal/reflectlite.TypeOf"], unfollowed := true, recurses := true, named := ["loop.example/g00577/impl.errNoSky"], ifaces := true, apart := false, laid := [("loop.example/g00577/impl.errNoSky", laid_loop_example_g00577_impl_errNoSky)], narrowed := true }
def FnExactResetUptoSaid : Prop := fnExactResetUptoRow.holds Tryd.pinned (OpenSpec.upto fnExactResetSpec)

end Rows
end Go.Proofs.YtdclojpgbekmeaaDoor
