/-
  DERIVED. GIVEN WITH THE SEED: THE CARDS: each row of YteoonaanoenjiaaGreatDoorRows.lean that lists a variable, with what it lists TIED to the program's text (the seventh form; the later family's looks); each row that meets fmt, with fmt's text TOLD by the authors' own Lean function (tested against real Go, not proved from fmt's source: count such statements apart). THE CARD IS WHAT COUNTS. Prove the row's statement (the work); the ties are given (YteoonaanoenjiaaGreatDoorTie.lean); close each card by the builder's one call (the guide's Derived/Test/ToyasCard.lean, 'card_holds'). Laid BY PROGRAM, IN A SANDBOX (cutbox-door.mjs). By AI agents, Wed Nov 11 2026. No macro, syntax, notation, axiom, sorry.
-/
import Derived.Test.YteoonaanoenjiaaGreatDoorRows
import GoSem.ClaimSeven
namespace Go.Proofs.YteoonaanoenjiaaGreatDoor
namespace Rows

/-- THE TIED CARD OF 'laws.FnExactObey'. -/
def fnExactObeyCard : Claim7 := { stood := { row := fnExactObeyRow, standIns := [], harness := (true, "b24144b24bccc837a1ababc8ce319c5b3f442159c8b0cf1763fd27de5660c3c7"), looks := true }, kinds := [], alts := [], laidByText := true, laidKinds := [.sentinel, .sentinel], laidTests := true, laidLooks := .later }
def FnExactObeyCardSaid : Prop := Claim7.holds Tryz.pinned (.plain (OpenSpec.ofChange fnExactObeySpec)) fnExactObeyCard

/-- THE TIED CARD OF 'laws.FnExactLink'. -/
def fnExactLinkCard : Claim7 := { stood := { row := fnExactLinkRow, standIns := [], harness := (true, "b24144b24bccc837a1ababc8ce319c5b3f442159c8b0cf1763fd27de5660c3c7"), looks := true }, kinds := [], alts := [], laidByText := true, laidKinds := [.handle, .sentinel, .sentinel], laidTests := true, laidLooks := .later }
def FnExactLinkCardSaid : Prop := Claim7.holds Tryz.pinned (.plain (OpenSpec.ofChange fnExactLinkSpec)) fnExactLinkCard

/-- THE SECOND FORM's CARD OF 'laws.FnExactObey'. -/
def fnExactObeyUptoCard : Claim7 := { stood := { row := fnExactObeyUptoRow, standIns := [], harness := (true, "b24144b24bccc837a1ababc8ce319c5b3f442159c8b0cf1763fd27de5660c3c7"), looks := true }, kinds := [], alts := [], laidByText := true, laidKinds := [.sentinel, .sentinel], laidTests := true, laidLooks := .later }
def FnExactObeyUptoCardSaid : Prop := Claim7.holds Tryz.pinned (.plain (OpenSpec.upto fnExactObeySpec)) fnExactObeyUptoCard

/-- THE SECOND FORM's CARD OF 'laws.FnExactLink'. -/
def fnExactLinkUptoCard : Claim7 := { stood := { row := fnExactLinkUptoRow, standIns := [], harness := (true, "b24144b24bccc837a1ababc8ce319c5b3f442159c8b0cf1763fd27de5660c3c7"), looks := true }, kinds := [], alts := [], laidByText := true, laidKinds := [.handle, .sentinel, .sentinel], laidTests := true, laidLooks := .later }
def FnExactLinkUptoCardSaid : Prop := Claim7.holds Tryz.pinned (.plain (OpenSpec.upto fnExactLinkSpec)) fnExactLinkUptoCard
end Rows
end Go.Proofs.YteoonaanoenjiaaGreatDoor
