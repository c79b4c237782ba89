/-
  DERIVED. GIVEN WITH THE SEED: THE CARDS: each row of YthmelofbdbplnaaDoorRows.lean that lists a variable, with what it lists TIED to the program's text (the seventh form; the later family's looks); each row that meets fmt, with fmt's text TOLD by the authors' own Lean function (tested against real Go, not proved from fmt's source: count such statements apart). THE CARD IS WHAT COUNTS. Prove the row's statement (the work); the ties are given (YthmelofbdbplnaaDoorTie.lean); close each card by the builder's one call (the guide's Derived/Test/ToyasCard.lean, 'card_holds'). Laid BY PROGRAM, IN A SANDBOX (cutbox-door.mjs). By AI agents, Wed Nov 11 2026. No macro, syntax, notation, axiom, sorry.
-/
import Derived.Test.YthmelofbdbplnaaDoorRows
import GoSem.ClaimSeven
namespace Go.Proofs.YthmelofbdbplnaaDoor
namespace Rows

/-- THE TIED CARD OF 'laws.FnExactPairsOf'. -/
def fnExactPairsOfCard : Claim7 := { stood := { row := fnExactPairsOfRow, standIns := [], harness := (true, "bf27f3e0cf3679f41a2c27c3f54d85dfdf0aa67bef91b4b721e6a34298197354"), looks := true }, kinds := [], alts := [], laidByText := true, laidKinds := [.sentinel], laidTests := true, laidLooks := .later }
def FnExactPairsOfCardSaid : Prop := Claim7.holds Tryd.pinned (.plain (OpenSpec.ofChange fnExactPairsOfSpec)) fnExactPairsOfCard

/-- THE TIED CARD OF 'laws.FnExactAlike'. -/
def fnExactAlikeCard : Claim7 := { stood := { row := fnExactAlikeRow, standIns := [], harness := (true, "bf27f3e0cf3679f41a2c27c3f54d85dfdf0aa67bef91b4b721e6a34298197354"), looks := true }, kinds := [], alts := [], laidByText := true, laidKinds := [.sentinel], laidTests := true, laidLooks := .later }
def FnExactAlikeCardSaid : Prop := Claim7.holds Tryd.pinned (.plain (OpenSpec.ofChange fnExactAlikeSpec)) fnExactAlikeCard

/-- THE SECOND FORM's CARD OF 'laws.FnExactPairsOf'. -/
def fnExactPairsOfUptoCard : Claim7 := { stood := { row := fnExactPairsOfUptoRow, standIns := [], harness := (true, "bf27f3e0cf3679f41a2c27c3f54d85dfdf0aa67bef91b4b721e6a34298197354"), looks := true }, kinds := [], alts := [], laidByText := true, laidKinds := [.sentinel], laidTests := true, laidLooks := .later }
def FnExactPairsOfUptoCardSaid : Prop := Claim7.holds Tryd.pinned (.plain (OpenSpec.upto fnExactPairsOfSpec)) fnExactPairsOfUptoCard

/-- THE SECOND FORM's CARD OF 'laws.FnExactAlike'. -/
def fnExactAlikeUptoCard : Claim7 := { stood := { row := fnExactAlikeUptoRow, standIns := [], harness := (true, "bf27f3e0cf3679f41a2c27c3f54d85dfdf0aa67bef91b4b721e6a34298197354"), looks := true }, kinds := [], alts := [], laidByText := true, laidKinds := [.sentinel], laidTests := true, laidLooks := .later }
def FnExactAlikeUptoCardSaid : Prop := Claim7.holds Tryd.pinned (.plain (OpenSpec.upto fnExactAlikeSpec)) fnExactAlikeUptoCard
end Rows
end Go.Proofs.YthmelofbdbplnaaDoor
