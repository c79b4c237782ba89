/-
  DERIVED. GIVEN WITH THE SEED: THE CARDS: each row of YtnnhjegapofopaaGreatDoorRows.lean that lists a variable, with what it lists TIED to the program's text (the seventh form; the later family's looks); each row that meets fmt, with fmt's text TOLD by the authors' own Lean function (tested against real Go, not proved from fmt's source: count such statements apart). THE CARD IS WHAT COUNTS. Prove the row's statement (the work); the ties are given (YtnnhjegapofopaaGreatDoorTie.lean); close each card by the builder's one call (the guide's Derived/Test/ToyasCard.lean, 'card_holds'). Laid BY PROGRAM, IN A SANDBOX (cutbox-door.mjs). By AI agents, Wed Nov 11 2026. No macro, syntax, notation, axiom, sorry.
-/
import Derived.Test.YtnnhjegapofopaaGreatDoorRows
import GoSem.ClaimSeven
namespace Go.Proofs.YtnnhjegapofopaaGreatDoor
namespace Rows

/-- THE TIED CARD OF 'laws.FnLink'. -/
def fnLinkCard : Claim7 := { stood := { row := fnLinkRow, standIns := [], harness := (true, "bf24c2c171588bbcef2c531614d6276ba5a551dfa4b140e51e5fa9847bc2afdd"), looks := true }, kinds := [], alts := [], laidByText := true, laidKinds := [.handle, .sentinel, .sentinel], laidTests := true, laidLooks := .later }
def FnLinkCardSaid : Prop := Claim7.holds Tryz.pinned (.plain (OpenSpec.ofChange fnLinkSpec)) fnLinkCard

/-- THE SECOND FORM's CARD OF 'laws.FnLink'. -/
def fnLinkUptoCard : Claim7 := { stood := { row := fnLinkUptoRow, standIns := [], harness := (true, "bf24c2c171588bbcef2c531614d6276ba5a551dfa4b140e51e5fa9847bc2afdd"), looks := true }, kinds := [], alts := [], laidByText := true, laidKinds := [.handle, .sentinel, .sentinel], laidTests := true, laidLooks := .later }
def FnLinkUptoCardSaid : Prop := Claim7.holds Tryz.pinned (.plain (OpenSpec.upto fnLinkSpec)) fnLinkUptoCard
end Rows
end Go.Proofs.YtnnhjegapofopaaGreatDoor
