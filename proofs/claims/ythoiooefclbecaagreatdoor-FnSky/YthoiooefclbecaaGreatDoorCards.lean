/-
  DERIVED. GIVEN WITH THE SEED: THE CARDS: each row of YthoiooefclbecaaGreatDoorRows.lean that lists a variable, with what it lists TIED to the program's text (the seventh form; the later family's looks); each row that meets fmt, with fmt's text TOLD by the authors' own Lean function (tested against real Go, not proved from fmt's source: count such statements apart). THE CARD IS WHAT COUNTS. Prove the row's statement (the work); the ties are given (YthoiooefclbecaaGreatDoorTie.lean); close each card by the builder's one call (the guide's Derived/Test/ToyasCard.lean, 'card_holds'). Laid BY PROGRAM, IN A SANDBOX (cutbox-door.mjs). By AI agents, Wed Nov 11 2026. No macro, syntax, notation, axiom, sorry.
-/
import Derived.Test.YthoiooefclbecaaGreatDoorRows
import GoSem.ClaimSeven
namespace Go.Proofs.YthoiooefclbecaaGreatDoor
namespace Rows

/-- THE TIED CARD OF 'laws.FnSky'. -/
def fnSkyCard : Claim7 := { stood := { row := fnSkyRow, standIns := [], harness := (true, "815a87dea281394acdfc2fb30021cfcbedc5cb457bd54b8a75970849611df3aa"), looks := true }, kinds := [], alts := [], laidByText := true, laidKinds := [.sentinel], laidTests := true, laidLooks := .later }
def FnSkyCardSaid : Prop := Claim7.holds Tryz.pinned (.plain (OpenSpec.ofChange fnSkySpec)) fnSkyCard

/-- THE SECOND FORM's CARD OF 'laws.FnSky'. -/
def fnSkyUptoCard : Claim7 := { stood := { row := fnSkyUptoRow, standIns := [], harness := (true, "815a87dea281394acdfc2fb30021cfcbedc5cb457bd54b8a75970849611df3aa"), looks := true }, kinds := [], alts := [], laidByText := true, laidKinds := [.sentinel], laidTests := true, laidLooks := .later }
def FnSkyUptoCardSaid : Prop := Claim7.holds Tryz.pinned (.plain (OpenSpec.upto fnSkySpec)) fnSkyUptoCard
end Rows
end Go.Proofs.YthoiooefclbecaaGreatDoor
