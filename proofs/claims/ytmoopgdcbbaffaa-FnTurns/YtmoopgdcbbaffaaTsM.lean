/- Plain facts on the list of turns: each is right, each is undone by just one of them. -/
import Derived.Test.YtmoopgdcbbaffaaTsA
import Derived.Test.YtmoopgdcbbaffaaTurnG
namespace Go.Proofs.Ytmoopgdcbbaffaa
open Go.RowKit
set_option linter.unusedVariables false

def backP (t : T4) : T4 := (bkP t.1 t.2.1 t.2.2.1 t.2.2.2 t.1, bkP t.1 t.2.1 t.2.2.1 t.2.2.2 (-t.2.1), bkP t.1 t.2.1 t.2.2.1 t.2.2.2 (-t.2.2.1), bkP t.1 t.2.1 t.2.2.1 t.2.2.2 (-t.2.2.2))
def tA (L : List T4) (i : Nat) : T4 := L.getD i (0, 0, 0, 0)
def sameT (x y : T4) : Bool := eqT x.1 x.2.1 x.2.2.1 x.2.2.2 y.1 y.2.1 y.2.2.1 y.2.2.2
set_option maxRecDepth 1000000 in
theorem one_back : ((turnsTo 625).all fun t => (turnsTo 625).countP (fun x => sameT x (backP t)) == 1) = true := by decide +kernel
set_option maxRecDepth 1000000 in
theorem turns_many : (turnsTo 625).length = 272 := by decide +kernel
end Go.Proofs.Ytmoopgdcbbaffaa
