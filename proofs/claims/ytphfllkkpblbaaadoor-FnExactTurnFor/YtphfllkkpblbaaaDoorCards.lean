/-
  DERIVED. GIVEN WITH THE SEED: THE CARDS: each row of YtphfllkkpblbaaaDoorRows.lean that lists a variable, with what it lists TIED to the program's text (the seventh form; the later family's looks); each row that meets fmt, with fmt's text TOLD by the authors' own Lean function (tested against real Go, not proved from fmt's source: count such statements apart). THE CARD IS WHAT COUNTS. Prove the row's statement (the work); the ties are given (YtphfllkkpblbaaaDoorTie.lean); close each card by the builder's one call (the guide's Derived/Test/ToyasCard.lean, 'card_holds'). Laid BY PROGRAM, IN A SANDBOX (cutbox-door.mjs). By AI agents, Wed Nov 11 2026. No macro, syntax, notation, axiom, sorry.
-/
import Derived.Test.YtphfllkkpblbaaaDoorRows
import GoSem.ClaimSeven
namespace Go.Proofs.YtphfllkkpblbaaaDoor
namespace Rows

/-- THE TIED CARD OF 'laws.FnExactNamed'. -/
def fnExactNamedCard : Claim7 := { stood := { row := fnExactNamedRow, standIns := [], harness := (true, "a64c3add86f967f6d2f9729048093f9344c874b4c9b84e30073b3e72bd06e884"), looks := true }, kinds := [], alts := [], laidByText := true, laidKinds := [.sentinel], laidTests := true, laidLooks := .later }
def FnExactNamedCardSaid : Prop := Claim7.holds Tryd.pinned (.plain (OpenSpec.ofChange fnExactNamedSpec)) fnExactNamedCard

/-- THE TIED CARD OF 'laws.FnExactTurnFor'. -/
def fnExactTurnForCard : Claim7 := { stood := { row := fnExactTurnForRow, standIns := [], harness := (true, "a64c3add86f967f6d2f9729048093f9344c874b4c9b84e30073b3e72bd06e884"), looks := true }, kinds := [], alts := [], laidByText := true, laidKinds := [.sentinel], laidTests := true, laidLooks := .later }
def FnExactTurnForCardSaid : Prop := Claim7.holds Tryd.pinned (.plain (OpenSpec.ofChange fnExactTurnForSpec)) fnExactTurnForCard

/-- THE SECOND FORM's CARD OF 'laws.FnExactNamed'. -/
def fnExactNamedUptoCard : Claim7 := { stood := { row := fnExactNamedUptoRow, standIns := [], harness := (true, "a64c3add86f967f6d2f9729048093f9344c874b4c9b84e30073b3e72bd06e884"), looks := true }, kinds := [], alts := [], laidByText := true, laidKinds := [.sentinel], laidTests := true, laidLooks := .later }
def FnExactNamedUptoCardSaid : Prop := Claim7.holds Tryd.pinned (.plain (OpenSpec.upto fnExactNamedSpec)) fnExactNamedUptoCard

/-- THE SECOND FORM's CARD OF 'laws.FnExactTurnFor'. -/
def fnExactTurnForUptoCard : Claim7 := { stood := { row := fnExactTurnForUptoRow, standIns := [], harness := (true, "a64c3add86f967f6d2f9729048093f9344c874b4c9b84e30073b3e72bd06e884"), looks := true }, kinds := [], alts := [], laidByText := true, laidKinds := [.sentinel], laidTests := true, laidLooks := .later }
def FnExactTurnForUptoCardSaid : Prop := Claim7.holds Tryd.pinned (.plain (OpenSpec.upto fnExactTurnForSpec)) fnExactTurnForUptoCard
end Rows
end Go.Proofs.YtphfllkkpblbaaaDoor
