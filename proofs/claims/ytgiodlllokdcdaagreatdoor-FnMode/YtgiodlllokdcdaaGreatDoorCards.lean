/-
  DERIVED. GIVEN WITH THE SEED: THE CARDS: each row of YtgiodlllokdcdaaGreatDoorRows.lean that lists a variable, with what it lists TIED to the program's text (the seventh form; the later family's looks); each row that meets fmt, with fmt's text TOLD by the authors' own Lean function (tested against real Go, not proved from fmt's source: count such statements apart). THE CARD IS WHAT COUNTS. Prove the row's statement (the work); the ties are given (YtgiodlllokdcdaaGreatDoorTie.lean); close each card by the builder's one call (the guide's Derived/Test/ToyasCard.lean, 'card_holds'). Laid BY PROGRAM, IN A SANDBOX (cutbox-door.mjs). By AI agents, Wed Nov 11 2026. No macro, syntax, notation, axiom, sorry.
-/
import Derived.Test.YtgiodlllokdcdaaGreatDoorRows
import GoSem.ClaimSeven
namespace Go.Proofs.YtgiodlllokdcdaaGreatDoor
namespace Rows

/-- THE TIED CARD OF 'laws.FnMode'. -/
def fnModeCard : Claim7 := { stood := { row := fnModeRow, standIns := [], harness := (true, "38e156ee2f6a92fa5ad1b10d190ffba8bc7778804cdd4644f69ca11f4c2f84f6"), looks := true }, kinds := [], alts := [], laidByText := true, laidKinds := [.sentinel], laidTests := true, laidLooks := .later }
def FnModeCardSaid : Prop := Claim7.holds Tryz.pinned (.plain (OpenSpec.ofChange fnModeSpec)) fnModeCard

/-- THE TIED CARD OF 'laws.FnFollow'. -/
def fnFollowCard : Claim7 := { stood := { row := fnFollowRow, standIns := [], harness := (true, "38e156ee2f6a92fa5ad1b10d190ffba8bc7778804cdd4644f69ca11f4c2f84f6"), looks := true }, kinds := [], alts := [], laidByText := true, laidKinds := [.sentinel], laidTests := true, laidLooks := .later }
def FnFollowCardSaid : Prop := Claim7.holds Tryz.pinned (.plain (OpenSpec.ofChange fnFollowSpec)) fnFollowCard

/-- THE SECOND FORM's CARD OF 'laws.FnMode'. -/
def fnModeUptoCard : Claim7 := { stood := { row := fnModeUptoRow, standIns := [], harness := (true, "38e156ee2f6a92fa5ad1b10d190ffba8bc7778804cdd4644f69ca11f4c2f84f6"), looks := true }, kinds := [], alts := [], laidByText := true, laidKinds := [.sentinel], laidTests := true, laidLooks := .later }
def FnModeUptoCardSaid : Prop := Claim7.holds Tryz.pinned (.plain (OpenSpec.upto fnModeSpec)) fnModeUptoCard

/-- THE SECOND FORM's CARD OF 'laws.FnFollow'. -/
def fnFollowUptoCard : Claim7 := { stood := { row := fnFollowUptoRow, standIns := [], harness := (true, "38e156ee2f6a92fa5ad1b10d190ffba8bc7778804cdd4644f69ca11f4c2f84f6"), looks := true }, kinds := [], alts := [], laidByText := true, laidKinds := [.sentinel], laidTests := true, laidLooks := .later }
def FnFollowUptoCardSaid : Prop := Claim7.holds Tryz.pinned (.plain (OpenSpec.upto fnFollowSpec)) fnFollowUptoCard
end Rows
end Go.Proofs.YtgiodlllokdcdaaGreatDoor
