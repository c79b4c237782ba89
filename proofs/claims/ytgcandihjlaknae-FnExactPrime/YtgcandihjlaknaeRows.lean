/-
  No cell of these rows narrows 'for every input' (looked for: loops, veiled, ifaces, maps, wideKeys, modest, calm, conditions, laid).
  DERIVED. THE GIVEN ROWS OF THIS SEAT. 6 by the template 'for every input the law returns true; each argument reads behind the call as it read before'; 0 by the template 'total and deterministic' (their statements: YtgcandihjlaknaeTotals.lean).
  GIVEN WITH THE SEED: the statements are not yours to turn. If you find one false, say at which input.
  Laid BY PROGRAM, IN A SANDBOX (cutbox-rows.mjs): the forced cells as the released guide's own fill.sh prints them over the translation 3d8be42748edf2b4… (all of the seat's roots in one cut). By AI agents, Wed Nov 11 2026. No macro, syntax, notation, axiom, sorry.
-/
import Derived.Test.YtgcandihjlaknaeChecked
import GoSem.Claim
import GoSem.ClaimJoined
import GoSem.ClaimMapViews
import Derived.JoinedTies
import Derived.KernelRfl
namespace Go.Proofs.Ytgcandihjlaknae
/- THE CELL 'sum', in the pinned program and in every row, IS THE sha256 OF THE DUMP (.gsa) THAT YtgcandihjlaknaeProg.lean LOADS. Nothing in Lean hashes anything: it is a label: what it is worth is what the hold of that sum in a sandbox is worth. -/
noncomputable def Try.pinned : Pinned := { name := "ytgcandihjlaknae", sum := "3d8be42748edf2b452a7699febbfdec3a3a35361fe9ee9a496f846aff45cd788", checked := Try.checked }
namespace Rows
def none {H : Type} : Left H := { results := [], args := [] }

/-- 'laws.FnExactDot': WHATEVER THE INPUT: true; the input reads as it did. -/
def fnExactDotSpec : ChangeSpec := { name := "fnExactDot", fn := fun _ => fun
  | [d1, d2] => { results := [.lit (.bool true)], args := [d1, d2] }
  | _ => none }
def fnExactDotRow : OpenClaim := { program := "ytgcandihjlaknae", sum := "3d8be42748edf2b452a7699febbfdec3a3a35361fe9ee9a496f846aff45cd788", func := "loop.example/g00577/laws.FnExactDot", spec := "fnExactDot", apart := false }
def FnExactDotSaid : Prop := fnExactDotRow.holds Try.pinned (OpenSpec.ofChange fnExactDotSpec)

/-- ITS FALSE NEIGHBOUR: 'it returns false'. Refute it at one input. -/
def fnExactDotWrong : ChangeSpec := { name := "fnExactDot", fn := fun _ => fun
  | [d1, d2] => { results := [.lit (.bool false)], args := [d1, d2] }
  | _ => none }
def FnExactDotWrongFalsely : Prop := fnExactDotRow.holds Try.pinned (OpenSpec.ofChange fnExactDotWrong)

/-- 'laws.FnExactCross': WHATEVER THE INPUT: true; the input reads as it did. -/
def fnExactCrossSpec : ChangeSpec := { name := "fnExactCross", fn := fun _ => fun
  | [d1, d2] => { results := [.lit (.bool true)], args := [d1, d2] }
  | _ => none }
def fnExactCrossRow : OpenClaim := { program := "ytgcandihjlaknae", sum := "3d8be42748edf2b452a7699febbfdec3a3a35361fe9ee9a496f846aff45cd788", func := "loop.example/g00577/laws.FnExactCross", spec := "fnExactCross", apart := false }
def FnExactCrossSaid : Prop := fnExactCrossRow.holds Try.pinned (OpenSpec.ofChange fnExactCrossSpec)

/-- ITS FALSE NEIGHBOUR: 'it returns false'. Refute it at one input. -/
def fnExactCrossWrong : ChangeSpec := { name := "fnExactCross", fn := fun _ => fun
  | [d1, d2] => { results := [.lit (.bool false)], args := [d1, d2] }
  | _ => none }
def FnExactCrossWrongFalsely : Prop := fnExactCrossRow.holds Try.pinned (OpenSpec.ofChange fnExactCrossWrong)

/-- 'laws.FnExactDet': WHATEVER THE INPUT: true; the input reads as it did. -/
def fnExactDetSpec : ChangeSpec := { name := "fnExactDet", fn := fun _ => fun
  | [d1, d2, d3] => { results := [.lit (.bool true)], args := [d1, d2, d3] }
  | _ => none }
def fnExactDetRow : OpenClaim := { program := "ytgcandihjlaknae", sum := "3d8be42748edf2b452a7699febbfdec3a3a35361fe9ee9a496f846aff45cd788", func := "loop.example/g00577/laws.FnExactDet", spec := "fnExactDet", apart := false }
def FnExactDetSaid : Prop := fnExactDetRow.holds Try.pinned (OpenSpec.ofChange fnExactDetSpec)

/-- ITS FALSE NEIGHBOUR: 'it returns false'. Refute it at one input. -/
def fnExactDetWrong : ChangeSpec := { name := "fnExactDet", fn := fun _ => fun
  | [d1, d2, d3] => { results := [.lit (.bool false)], args := [d1, d2, d3] }
  | _ => none }
def FnExactDetWrongFalsely : Prop := fnExactDetRow.holds Try.pinned (OpenSpec.ofChange fnExactDetWrong)

/-- 'laws.FnExactPrime': WHATEVER THE INPUT: true; the input reads as it did. -/
def fnExactPrimeSpec : ChangeSpec := { name := "fnExactPrime", fn := fun _ => fun
  | [d] => { results := [.lit (.bool true)], args := [d] }
  | _ => none }
def fnExactPrimeRow : OpenClaim := { program := "ytgcandihjlaknae", sum := "3d8be42748edf2b452a7699febbfdec3a3a35361fe9ee9a496f846aff45cd788", func := "loop.example/g00577/laws.FnExactPrime", spec := "fnExactPrime", apart := false }
def FnExactPrimeSaid : Prop := fnExactPrimeRow.holds Try.pinned (OpenSpec.ofChange fnExactPrimeSpec)

/-- ITS FALSE NEIGHBOUR: 'it returns false'. Refute it at one input. -/
def fnExactPrimeWrong : ChangeSpec := { name := "fnExactPrime", fn := fun _ => fun
  | [d] => { results := [.lit (.bool false)], args := [d] }
  | _ => none }
def FnExactPrimeWrongFalsely : Prop := fnExactPrimeRow.holds Try.pinned (OpenSpec.ofChange fnExactPrimeWrong)

/-- 'laws.FnExactSameWay': WHATEVER THE INPUT: true; the input reads as it did. -/
def fnExactSameWaySpec : ChangeSpec := { name := "fnExactSameWay", fn := fun _ => fun
  | [d1, d2] => { results := [.lit (.bool true)], args := [d1, d2] }
  | _ => none }
def fnExactSameWayRow : OpenClaim := { program := "ytgcandihjlaknae", sum := "3d8be42748edf2b452a7699febbfdec3a3a35361fe9ee9a496f846aff45cd788", func := "loop.example/g00577/laws.FnExactSameWay", spec := "fnExactSameWay", apart := false }
def FnExactSameWaySaid : Prop := fnExactSameWayRow.holds Try.pinned (OpenSpec.ofChange fnExactSameWaySpec)

/-- ITS FALSE NEIGHBOUR: 'it returns false'. Refute it at one input. -/
def fnExactSameWayWrong : ChangeSpec := { name := "fnExactSameWay", fn := fun _ => fun
  | [d1, d2] => { results := [.lit (.bool false)], args := [d1, d2] }
  | _ => none }
def FnExactSameWayWrongFalsely : Prop := fnExactSameWayRow.holds Try.pinned (OpenSpec.ofChange fnExactSameWayWrong)

/-- 'laws.FnExactCosCmp': WHATEVER THE INPUT: true; the input reads as it did. -/
def fnExactCosCmpSpec : ChangeSpec := { name := "fnExactCosCmp", fn := fun _ => fun
  | [d1, d2, d3, d4] => { results := [.lit (.bool true)], args := [d1, d2, d3, d4] }
  | _ => none }
def fnExactCosCmpRow : OpenClaim := { program := "ytgcandihjlaknae", sum := "3d8be42748edf2b452a7699febbfdec3a3a35361fe9ee9a496f846aff45cd788", func := "loop.example/g00577/laws.FnExactCosCmp", spec := "fnExactCosCmp", unfollowed := true, recurses := true, apart := false }
def FnExactCosCmpSaid : Prop := fnExactCosCmpRow.holds Try.pinned (OpenSpec.ofChange fnExactCosCmpSpec)

/-- ITS FALSE NEIGHBOUR: 'it returns false'. Refute it at one input. -/
def fnExactCosCmpWrong : ChangeSpec := { name := "fnExactCosCmp", fn := fun _ => fun
  | [d1, d2, d3, d4] => { results := [.lit (.bool false)], args := [d1, d2, d3, d4] }
  | _ => none }
def FnExactCosCmpWrongFalsely : Prop := fnExactCosCmpRow.holds Try.pinned (OpenSpec.ofChange fnExactCosCmpWrong)

/- THE SECOND FORM. 'bulk': how many values and letters a reading holds, each counted each time it is reached (what is shared counts as often as it is met; a slice's spare places count too). A statement '..UptoSaid' is the law's where the arguments, and the package variables that the reading takes, are together of bulk at most 1048576: NARROWER than '..Said'. Prove '..Said' where nothing that the law and all that it calls make is longer than what came in: it says more and counts as full. Else prove '..UptoSaid'. A law counts once. -/
mutual
def uptoBulk {H : Type} : DataW H → Nat
  | .lit (.string bytes) => bytes.length + 1
  | .lit _ => 1
  | .nil => 1
  | .ptr d => uptoBulk d + 1
  | .slice elems spare => uptoBulkAll elems + uptoBulkAll spare + 1
  | .agg parts => uptoBulkAll parts + 1
  | .iface _ d => uptoBulk d + 1
  | .map entries => uptoBulkEntries entries + 1
  | .held _ => 1
def uptoBulkAll {H : Type} : List (DataW H) → Nat
  | [] => 0
  | d :: r => uptoBulk d + uptoBulkAll r
def uptoBulkEntries {H : Type} : List (Lit × DataW H) → Nat
  | [] => 0
  | x :: r => uptoBulkEntry x + uptoBulkEntries r
def uptoBulkEntry {H : Type} : Lit × DataW H → Nat
  | (.string bytes, d) => bytes.length + uptoBulk d + 1
  | (_, d) => uptoBulk d + 1
 end
def uptoSmall : (H : Type) → List (DataW H) → Bool := fun _ ds => decide (uptoBulkAll ds ≤ 1048576)
def OpenSpec.upto (s : _root_.Go.ChangeSpec) : _root_.Go.OpenSpec := { _root_.Go.OpenSpec.ofChange s with cond := some uptoSmall }

/-- 'laws.FnExactDot', WHERE WHAT IT READS IS OF BULK AT MOST 1048576: true; the input reads as it did. -/
def fnExactDotUptoRow : OpenClaim := { program := "ytgcandihjlaknae", sum := "3d8be42748edf2b452a7699febbfdec3a3a35361fe9ee9a496f846aff45cd788", func := "loop.example/g00577/laws.FnExactDot", spec := "fnExactDot", apart := false, narrowed := true }
def FnExactDotUptoSaid : Prop := fnExactDotUptoRow.holds Try.pinned (OpenSpec.upto fnExactDotSpec)

/-- 'laws.FnExactCross', WHERE WHAT IT READS IS OF BULK AT MOST 1048576: true; the input reads as it did. -/
def fnExactCrossUptoRow : OpenClaim := { program := "ytgcandihjlaknae", sum := "3d8be42748edf2b452a7699febbfdec3a3a35361fe9ee9a496f846aff45cd788", func := "loop.example/g00577/laws.FnExactCross", spec := "fnExactCross", apart := false, narrowed := true }
def FnExactCrossUptoSaid : Prop := fnExactCrossUptoRow.holds Try.pinned (OpenSpec.upto fnExactCrossSpec)

/-- 'laws.FnExactDet', WHERE WHAT IT READS IS OF BULK AT MOST 1048576: true; the input reads as it did. -/
def fnExactDetUptoRow : OpenClaim := { program := "ytgcandihjlaknae", sum := "3d8be42748edf2b452a7699febbfdec3a3a35361fe9ee9a496f846aff45cd788", func := "loop.example/g00577/laws.FnExactDet", spec := "fnExactDet", apart := false, narrowed := true }
def FnExactDetUptoSaid : Prop := fnExactDetUptoRow.holds Try.pinned (OpenSpec.upto fnExactDetSpec)

/-- 'laws.FnExactPrime', WHERE WHAT IT READS IS OF BULK AT MOST 1048576: true; the input reads as it did. -/
def fnExactPrimeUptoRow : OpenClaim := { program := "ytgcandihjlaknae", sum := "3d8be42748edf2b452a7699febbfdec3a3a35361fe9ee9a496f846aff45cd788", func := "loop.example/g00577/laws.FnExactPrime", spec := "fnExactPrime", apart := false, narrowed := true }
def FnExactPrimeUptoSaid : Prop := fnExactPrimeUptoRow.holds Try.pinned (OpenSpec.upto fnExactPrimeSpec)

/-- 'laws.FnExactSameWay', WHERE WHAT IT READS IS OF BULK AT MOST 1048576: true; the input reads as it did. -/
def fnExactSameWayUptoRow : OpenClaim := { program := "ytgcandihjlaknae", sum := "3d8be42748edf2b452a7699febbfdec3a3a35361fe9ee9a496f846aff45cd788", func := "loop.example/g00577/laws.FnExactSameWay", spec := "fnExactSameWay", apart := false, narrowed := true }
def FnExactSameWayUptoSaid : Prop := fnExactSameWayUptoRow.holds Try.pinned (OpenSpec.upto fnExactSameWaySpec)

/-- 'laws.FnExactCosCmp', WHERE WHAT IT READS IS OF BULK AT MOST 1048576: true; the input reads as it did. -/
def fnExactCosCmpUptoRow : OpenClaim := { program := "ytgcandihjlaknae", sum := "3d8be42748edf2b452a7699febbfdec3a3a35361fe9ee9a496f846aff45cd788", func := "loop.example/g00577/laws.FnExactCosCmp", spec := "fnExactCosCmp", unfollowed := true, recurses := true, apart := false, narrowed := true }
def FnExactCosCmpUptoSaid : Prop := fnExactCosCmpUptoRow.holds Try.pinned (OpenSpec.upto fnExactCosCmpSpec)

end Rows
end Go.Proofs.Ytgcandihjlaknae
