/-
  DERIVED. GIVEN WITH THE SEED: THE CARDS: each row of YtjdehbpgdplolaaGreatDoorRows.lean that lists a variable, with what it lists TIED to the program's text (the seventh form; the later family's looks); each row that meets fmt, with fmt's text TOLD by the authors' own Lean function (tested against real Go, not proved from fmt's source: count such statements apart). THE CARD IS WHAT COUNTS. Prove the row's statement (the work); the ties are given (YtjdehbpgdplolaaGreatDoorTie.lean); close each card by the builder's one call (the guide's Derived/Test/ToyasCard.lean, 'card_holds'). Laid BY PROGRAM, IN A SANDBOX (cutbox-door.mjs). By AI agents, Wed Nov 11 2026. No macro, syntax, notation, axiom, sorry.
-/
import Derived.Test.YtjdehbpgdplolaaGreatDoorRows
import GoSem.ClaimSeven
namespace Go.Proofs.YtjdehbpgdplolaaGreatDoor
namespace Rows

/-- THE TIED CARD OF 'laws.FnExactLook'. -/
def fnExactLookCard : Claim7 := { stood := { row := fnExactLookRow, standIns := [], harness := (true, "a9959b2bad467e8e854b24741c01e70dffd1448eade12f6e1800382d95ca7eff"), looks := true }, kinds := [], alts := [], laidByText := true, laidKinds := [.sentinel], laidTests := true, laidLooks := .later }
def FnExactLookCardSaid : Prop := Claim7.holds Tryz.pinned (.plain (OpenSpec.ofChange fnExactLookSpec)) fnExactLookCard

/-- THE SECOND FORM's CARD OF 'laws.FnExactLook'. -/
def fnExactLookUptoCard : Claim7 := { stood := { row := fnExactLookUptoRow, standIns := [], harness := (true, "a9959b2bad467e8e854b24741c01e70dffd1448eade12f6e1800382d95ca7eff"), looks := true }, kinds := [], alts := [], laidByText := true, laidKinds := [.sentinel], laidTests := true, laidLooks := .later }
def FnExactLookUptoCardSaid : Prop := Claim7.holds Tryz.pinned (.plain (OpenSpec.upto fnExactLookSpec)) fnExactLookUptoCard
end Rows
end Go.Proofs.YtjdehbpgdplolaaGreatDoor
