/- What Alike answers: plain facts. -/
import Derived.Test.YthmelofbdbplnaaDoorPairU
namespace Go.Proofs.YthmelofbdbplnaaDoor
open Go.RowKit Go.Sort
set_option linter.unusedVariables false

def alikeOk (L : List St) (a b : V3) : Bool := skyB L && wideV a && wideV b
def alikeR (L : List St) (a b : V3) : List P2 := if alikeOk L a b = true then ((allS L L.length).filter (fun s => decide (cosA a b s = 0))).map Prod.fst else []
theorem alike_no1 {L : List St} {a b : V3} (h : skyB L = false) : alikeR L a b = [] := by unfold alikeR alikeOk; rw [h]; rfl
theorem alike_no2 {L : List St} {a b : V3} (h : wideV a = false) : alikeR L a b = [] := by unfold alikeR alikeOk; rw [h]; simp
theorem alike_no3 {L : List St} {a b : V3} (h : wideV b = false) : alikeR L a b = [] := by unfold alikeR alikeOk; rw [h]; simp
theorem alike_yes {L : List St} {a b : V3} (h : skyB L = true) (h1 : wideV a = true) (h2 : wideV b = true) : alikeR L a b = ((allS L L.length).filter (fun s => decide (cosA a b s = 0))).map Prod.fst := by unfold alikeR alikeOk; rw [h, h1, h2]; rfl
end Go.Proofs.YthmelofbdbplnaaDoor
