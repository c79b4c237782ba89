/-
  DERIVED. GIVEN WITH THE SEED: THE CARDS: each row of YtijpnnooenpjoahDoorRows.lean that lists a variable, with what it lists TIED to the program's text (the seventh form; the later family's looks); each row that meets fmt, with fmt's text TOLD by the authors' own Lean function (tested against real Go, not proved from fmt's source: count such statements apart). THE CARD IS WHAT COUNTS. Prove the row's statement (the work); the ties are given (YtijpnnooenpjoahDoorTie.lean); close each card by the builder's one call (the guide's Derived/Test/ToyasCard.lean, 'card_holds'). Laid BY PROGRAM, IN A SANDBOX (cutbox-door.mjs). By AI agents, Wed Nov 11 2026. No macro, syntax, notation, axiom, sorry.
-/
import Derived.Test.YtijpnnooenpjoahDoorRows
import GoSem.ClaimSeven
namespace Go.Proofs.YtijpnnooenpjoahDoor
namespace Rows

/-- THE TIED CARD OF 'laws.FnExactAlike'. -/
def fnExactAlikeCard : Claim7 := { stood := { row := fnExactAlikeRow, standIns := [], harness := (true, "a0d47eab1acf3f78bb86bb07f033652cf13be523c05782e51676f5ff331affbf"), looks := true }, kinds := [], alts := [], laidByText := true, laidKinds := [.sentinel], laidTests := true, laidLooks := .later }
def FnExactAlikeCardSaid : Prop := Claim7.holds Tryd.pinned (.plain (OpenSpec.ofChange fnExactAlikeSpec)) fnExactAlikeCard

/-- THE TIED CARD OF 'laws.FnExactSeen'. -/
def fnExactSeenCard : Claim7 := { stood := { row := fnExactSeenRow, standIns := [], harness := (true, "a0d47eab1acf3f78bb86bb07f033652cf13be523c05782e51676f5ff331affbf"), looks := true }, kinds := [], alts := [], laidByText := true, laidKinds := [.sentinel], laidTests := true, laidLooks := .later }
def FnExactSeenCardSaid : Prop := Claim7.holds Tryd.pinned (.plain (OpenSpec.ofChange fnExactSeenSpec)) fnExactSeenCard

/-- THE SECOND FORM's CARD OF 'laws.FnExactAlike'. -/
def fnExactAlikeUptoCard : Claim7 := { stood := { row := fnExactAlikeUptoRow, standIns := [], harness := (true, "a0d47eab1acf3f78bb86bb07f033652cf13be523c05782e51676f5ff331affbf"), looks := true }, kinds := [], alts := [], laidByText := true, laidKinds := [.sentinel], laidTests := true, laidLooks := .later }
def FnExactAlikeUptoCardSaid : Prop := Claim7.holds Tryd.pinned (.plain (OpenSpec.upto fnExactAlikeSpec)) fnExactAlikeUptoCard

/-- THE SECOND FORM's CARD OF 'laws.FnExactSeen'. -/
def fnExactSeenUptoCard : Claim7 := { stood := { row := fnExactSeenUptoRow, standIns := [], harness := (true, "a0d47eab1acf3f78bb86bb07f033652cf13be523c05782e51676f5ff331affbf"), looks := true }, kinds := [], alts := [], laidByText := true, laidKinds := [.sentinel], laidTests := true, laidLooks := .later }
def FnExactSeenUptoCardSaid : Prop := Claim7.holds Tryd.pinned (.plain (OpenSpec.upto fnExactSeenSpec)) fnExactSeenUptoCard
end Rows
end Go.Proofs.YtijpnnooenpjoahDoor
