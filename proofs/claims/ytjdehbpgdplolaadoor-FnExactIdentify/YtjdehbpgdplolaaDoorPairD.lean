/- PairsOf, the specification's. -/
import Derived.Test.YtjdehbpgdplolaaDoorPairC
import Derived.Test.YtjdehbpgdplolaaDoorSkyE
namespace Go.Proofs.YtjdehbpgdplolaaDoor
open Go.RowKit Go.Sort
set_option linter.unusedVariables false

def pairsR (L : List St) : List P2 := if skyB L = true then allP L L.length else []

end Go.Proofs.YtjdehbpgdplolaaDoor
