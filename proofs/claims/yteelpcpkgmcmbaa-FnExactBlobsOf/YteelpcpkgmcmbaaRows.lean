/-
  No cell of these rows narrows 'for every input' (looked for: loops, veiled, ifaces, maps, wideKeys, modest, calm, conditions, laid).
  DERIVED. THE GIVEN ROWS OF THIS SEAT. 6 by the template 'for every input the law returns true; each argument reads behind the call as it read before'; 0 by the template 'total and deterministic' (their statements: YteelpcpkgmcmbaaTotals.lean).
  GIVEN WITH THE SEED: the statements are not yours to turn. If you find one false, say at which input.
  Laid BY PROGRAM, IN A SANDBOX (cutbox-rows.mjs): the forced cells as the released guide's own fill.sh prints them over the translation fa02a81003a890ae… (all of the seat's roots in one cut). By AI agents, Wed Nov 11 2026. No macro, syntax, notation, axiom, sorry.
-/
import Derived.Test.YteelpcpkgmcmbaaChecked
import GoSem.Claim
import GoSem.ClaimJoined
import GoSem.ClaimMapViews
import Derived.JoinedTies
import Derived.KernelRfl
namespace Go.Proofs.Yteelpcpkgmcmbaa
/- THE CELL 'sum', in the pinned program and in every row, IS THE sha256 OF THE DUMP (.gsa) THAT YteelpcpkgmcmbaaProg.lean LOADS. Nothing in Lean hashes anything: it is a label: what it is worth is what the hold of that sum in a sandbox is worth. -/
noncomputable def Try.pinned : Pinned := { name := "yteelpcpkgmcmbaa", sum := "fa02a81003a890ae71c11e318ec2af41180b0e68c61784c14c871dc196a2106a", checked := Try.checked }
namespace Rows
def none {H : Type} : Left H := { results := [], args := [] }

/-- 'laws.FnExactFrameRight': WHATEVER THE INPUT: true; the input reads as it did. -/
def fnExactFrameRightSpec : ChangeSpec := { name := "fnExactFrameRight", fn := fun _ => fun
  | [d] => { results := [.lit (.bool true)], args := [d] }
  | _ => none }
def fnExactFrameRightRow : OpenClaim := { program := "yteelpcpkgmcmbaa", sum := "fa02a81003a890ae71c11e318ec2af41180b0e68c61784c14c871dc196a2106a", func := "loop.example/g00577/laws.FnExactFrameRight", spec := "fnExactFrameRight", apart := false }
def FnExactFrameRightSaid : Prop := fnExactFrameRightRow.holds Try.pinned (OpenSpec.ofChange fnExactFrameRightSpec)

/-- ITS FALSE NEIGHBOUR: 'it returns false'. Refute it at one input. -/
def fnExactFrameRightWrong : ChangeSpec := { name := "fnExactFrameRight", fn := fun _ => fun
  | [d] => { results := [.lit (.bool false)], args := [d] }
  | _ => none }
def FnExactFrameRightWrongFalsely : Prop := fnExactFrameRightRow.holds Try.pinned (OpenSpec.ofChange fnExactFrameRightWrong)

/-- 'laws.FnExactFrameLess': WHATEVER THE INPUT: true; the input reads as it did. -/
def fnExactFrameLessSpec : ChangeSpec := { name := "fnExactFrameLess", fn := fun _ => fun
  | [d1, d2] => { results := [.lit (.bool true)], args := [d1, d2] }
  | _ => none }
def fnExactFrameLessRow : OpenClaim := { program := "yteelpcpkgmcmbaa", sum := "fa02a81003a890ae71c11e318ec2af41180b0e68c61784c14c871dc196a2106a", func := "loop.example/g00577/laws.FnExactFrameLess", spec := "fnExactFrameLess", apart := false }
def FnExactFrameLessSaid : Prop := fnExactFrameLessRow.holds Try.pinned (OpenSpec.ofChange fnExactFrameLessSpec)

/-- ITS FALSE NEIGHBOUR: 'it returns false'. Refute it at one input. -/
def fnExactFrameLessWrong : ChangeSpec := { name := "fnExactFrameLess", fn := fun _ => fun
  | [d1, d2] => { results := [.lit (.bool false)], args := [d1, d2] }
  | _ => none }
def FnExactFrameLessWrongFalsely : Prop := fnExactFrameLessRow.holds Try.pinned (OpenSpec.ofChange fnExactFrameLessWrong)

/-- 'laws.FnExactMedianOf': WHATEVER THE INPUT: true; the input reads as it did. -/
def fnExactMedianOfSpec : ChangeSpec := { name := "fnExactMedianOf", fn := fun _ => fun
  | [d] => { results := [.lit (.bool true)], args := [d] }
  | _ => none }
def fnExactMedianOfRow : OpenClaim := { program := "yteelpcpkgmcmbaa", sum := "fa02a81003a890ae71c11e318ec2af41180b0e68c61784c14c871dc196a2106a", func := "loop.example/g00577/laws.FnExactMedianOf", spec := "fnExactMedianOf", recurses := true, apart := false }
def FnExactMedianOfSaid : Prop := fnExactMedianOfRow.holds Try.pinned (OpenSpec.ofChange fnExactMedianOfSpec)

/-- ITS FALSE NEIGHBOUR: 'it returns false'. Refute it at one input. -/
def fnExactMedianOfWrong : ChangeSpec := { name := "fnExactMedianOf", fn := fun _ => fun
  | [d] => { results := [.lit (.bool false)], args := [d] }
  | _ => none }
def FnExactMedianOfWrongFalsely : Prop := fnExactMedianOfRow.holds Try.pinned (OpenSpec.ofChange fnExactMedianOfWrong)

/-- 'laws.FnExactBlobsOf': WHATEVER THE INPUT: true; the input reads as it did. -/
def fnExactBlobsOfSpec : ChangeSpec := { name := "fnExactBlobsOf", fn := fun _ => fun
  | [d1, d2] => { results := [.lit (.bool true)], args := [d1, d2] }
  | _ => none }
def fnExactBlobsOfRow : OpenClaim := { program := "yteelpcpkgmcmbaa", sum := "fa02a81003a890ae71c11e318ec2af41180b0e68c61784c14c871dc196a2106a", func := "loop.example/g00577/laws.FnExactBlobsOf", spec := "fnExactBlobsOf", unfollowed := true, recurses := true, apart := false }
def FnExactBlobsOfSaid : Prop := fnExactBlobsOfRow.holds Try.pinned (OpenSpec.ofChange fnExactBlobsOfSpec)

/-- ITS FALSE NEIGHBOUR: 'it returns false'. Refute it at one input. -/
def fnExactBlobsOfWrong : ChangeSpec := { name := "fnExactBlobsOf", fn := fun _ => fun
  | [d1, d2] => { results := [.lit (.bool false)], args := [d1, d2] }
  | _ => none }
def FnExactBlobsOfWrongFalsely : Prop := fnExactBlobsOfRow.holds Try.pinned (OpenSpec.ofChange fnExactBlobsOfWrong)

/-- 'laws.FnExactBlobGood': WHATEVER THE INPUT: true; the input reads as it did. -/
def fnExactBlobGoodSpec : ChangeSpec := { name := "fnExactBlobGood", fn := fun _ => fun
  | [d1, d2, d3] => { results := [.lit (.bool true)], args := [d1, d2, d3] }
  | _ => none }
def fnExactBlobGoodRow : OpenClaim := { program := "yteelpcpkgmcmbaa", sum := "fa02a81003a890ae71c11e318ec2af41180b0e68c61784c14c871dc196a2106a", func := "loop.example/g00577/laws.FnExactBlobGood", spec := "fnExactBlobGood", apart := false }
def FnExactBlobGoodSaid : Prop := fnExactBlobGoodRow.holds Try.pinned (OpenSpec.ofChange fnExactBlobGoodSpec)

/-- ITS FALSE NEIGHBOUR: 'it returns false'. Refute it at one input. -/
def fnExactBlobGoodWrong : ChangeSpec := { name := "fnExactBlobGood", fn := fun _ => fun
  | [d1, d2, d3] => { results := [.lit (.bool false)], args := [d1, d2, d3] }
  | _ => none }
def FnExactBlobGoodWrongFalsely : Prop := fnExactBlobGoodRow.holds Try.pinned (OpenSpec.ofChange fnExactBlobGoodWrong)

/-- 'laws.FnExactSpotOf': WHATEVER THE INPUT: true; the input reads as it did. -/
def fnExactSpotOfSpec : ChangeSpec := { name := "fnExactSpotOf", fn := fun _ => fun
  | [d1, d2, d3] => { results := [.lit (.bool true)], args := [d1, d2, d3] }
  | _ => none }
def fnExactSpotOfRow : OpenClaim := { program := "yteelpcpkgmcmbaa", sum := "fa02a81003a890ae71c11e318ec2af41180b0e68c61784c14c871dc196a2106a", func := "loop.example/g00577/laws.FnExactSpotOf", spec := "fnExactSpotOf", apart := false }
def FnExactSpotOfSaid : Prop := fnExactSpotOfRow.holds Try.pinned (OpenSpec.ofChange fnExactSpotOfSpec)

/-- ITS FALSE NEIGHBOUR: 'it returns false'. Refute it at one input. -/
def fnExactSpotOfWrong : ChangeSpec := { name := "fnExactSpotOf", fn := fun _ => fun
  | [d1, d2, d3] => { results := [.lit (.bool false)], args := [d1, d2, d3] }
  | _ => none }
def FnExactSpotOfWrongFalsely : Prop := fnExactSpotOfRow.holds Try.pinned (OpenSpec.ofChange fnExactSpotOfWrong)

/- THE SECOND FORM. 'bulk': how many values and letters a reading holds, each counted each time it is reached (what is shared counts as often as it is met; a slice's spare places count too). A statement '..UptoSaid' is the law's where the arguments, and the package variables that the reading takes, are together of bulk at most 1048576: NARROWER than '..Said'. Prove '..Said' where nothing that the law and all that it calls make is longer than what came in: it says more and counts as full. Else prove '..UptoSaid'. A law counts once. -/
mutual
def uptoBulk {H : Type} : DataW H → Nat
  | .lit (.string bytes) => bytes.length + 1
  | .lit _ => 1
  | .nil => 1
  | .ptr d => uptoBulk d + 1
  | .slice elems spare => uptoBulkAll elems + uptoBulkAll spare + 1
  | .agg parts => uptoBulkAll parts + 1
  | .iface _ d => uptoBulk d + 1
  | .map entries => uptoBulkEntries entries + 1
  | .held _ => 1
def uptoBulkAll {H : Type} : List (DataW H) → Nat
  | [] => 0
  | d :: r => uptoBulk d + uptoBulkAll r
def uptoBulkEntries {H : Type} : List (Lit × DataW H) → Nat
  | [] => 0
  | x :: r => uptoBulkEntry x + uptoBulkEntries r
def uptoBulkEntry {H : Type} : Lit × DataW H → Nat
  | (.string bytes, d) => bytes.length + uptoBulk d + 1
  | (_, d) => uptoBulk d + 1
 end
def uptoSmall : (H : Type) → List (DataW H) → Bool := fun _ ds => decide (uptoBulkAll ds ≤ 1048576)
def OpenSpec.upto (s : _root_.Go.ChangeSpec) : _root_.Go.OpenSpec := { _root_.Go.OpenSpec.ofChange s with cond := some uptoSmall }

/-- 'laws.FnExactFrameRight', WHERE WHAT IT READS IS OF BULK AT MOST 1048576: true; the input reads as it did. -/
def fnExactFrameRightUptoRow : OpenClaim := { program := "yteelpcpkgmcmbaa", sum := "fa02a81003a890ae71c11e318ec2af41180b0e68c61784c14c871dc196a2106a", func := "loop.example/g00577/laws.FnExactFrameRight", spec := "fnExactFrameRight", apart := false, narrowed := true }
def FnExactFrameRightUptoSaid : Prop := fnExactFrameRightUptoRow.holds Try.pinned (OpenSpec.upto fnExactFrameRightSpec)

/-- 'laws.FnExactFrameLess', WHERE WHAT IT READS IS OF BULK AT MOST 1048576: true; the input reads as it did. -/
def fnExactFrameLessUptoRow : OpenClaim := { program := "yteelpcpkgmcmbaa", sum := "fa02a81003a890ae71c11e318ec2af41180b0e68c61784c14c871dc196a2106a", func := "loop.example/g00577/laws.FnExactFrameLess", spec := "fnExactFrameLess", apart := false, narrowed := true }
def FnExactFrameLessUptoSaid : Prop := fnExactFrameLessUptoRow.holds Try.pinned (OpenSpec.upto fnExactFrameLessSpec)

/-- 'laws.FnExactMedianOf', WHERE WHAT IT READS IS OF BULK AT MOST 1048576: true; the input reads as it did. -/
def fnExactMedianOfUptoRow : OpenClaim := { program := "yteelpcpkgmcmbaa", sum := "fa02a81003a890ae71c11e318ec2af41180b0e68c61784c14c871dc196a2106a", func := "loop.example/g00577/laws.FnExactMedianOf", spec := "fnExactMedianOf", recurses := true, apart := false, narrowed := true }
def FnExactMedianOfUptoSaid : Prop := fnExactMedianOfUptoRow.holds Try.pinned (OpenSpec.upto fnExactMedianOfSpec)

/-- 'laws.FnExactBlobsOf', WHERE WHAT IT READS IS OF BULK AT MOST 1048576: true; the input reads as it did. -/
def fnExactBlobsOfUptoRow : OpenClaim := { program := "yteelpcpkgmcmbaa", sum := "fa02a81003a890ae71c11e318ec2af41180b0e68c61784c14c871dc196a2106a", func := "loop.example/g00577/laws.FnExactBlobsOf", spec := "fnExactBlobsOf", unfollowed := true, recurses := true, apart := false, narrowed := true }
def FnExactBlobsOfUptoSaid : Prop := fnExactBlobsOfUptoRow.holds Try.pinned (OpenSpec.upto fnExactBlobsOfSpec)

/-- 'laws.FnExactBlobGood', WHERE WHAT IT READS IS OF BULK AT MOST 1048576: true; the input reads as it did. -/
def fnExactBlobGoodUptoRow : OpenClaim := { program := "yteelpcpkgmcmbaa", sum := "fa02a81003a890ae71c11e318ec2af41180b0e68c61784c14c871dc196a2106a", func := "loop.example/g00577/laws.FnExactBlobGood", spec := "fnExactBlobGood", apart := false, narrowed := true }
def FnExactBlobGoodUptoSaid : Prop := fnExactBlobGoodUptoRow.holds Try.pinned (OpenSpec.upto fnExactBlobGoodSpec)

/-- 'laws.FnExactSpotOf', WHERE WHAT IT READS IS OF BULK AT MOST 1048576: true; the input reads as it did. -/
def fnExactSpotOfUptoRow : OpenClaim := { program := "yteelpcpkgmcmbaa", sum := "fa02a81003a890ae71c11e318ec2af41180b0e68c61784c14c871dc196a2106a", func := "loop.example/g00577/laws.FnExactSpotOf", spec := "fnExactSpotOf", apart := false, narrowed := true }
def FnExactSpotOfUptoSaid : Prop := fnExactSpotOfUptoRow.holds Try.pinned (OpenSpec.upto fnExactSpotOfSpec)

end Rows
end Go.Proofs.Yteelpcpkgmcmbaa
