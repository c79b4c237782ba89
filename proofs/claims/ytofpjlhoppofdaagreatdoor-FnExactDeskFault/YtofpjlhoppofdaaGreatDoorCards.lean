/-
  DERIVED. GIVEN WITH THE SEED: THE CARDS: each row of YtofpjlhoppofdaaGreatDoorRows.lean that lists a variable, with what it lists TIED to the program's text (the seventh form; the later family's looks); each row that meets fmt, with fmt's text TOLD by the authors' own Lean function (tested against real Go, not proved from fmt's source: count such statements apart). THE CARD IS WHAT COUNTS. Prove the row's statement (the work); the ties are given (YtofpjlhoppofdaaGreatDoorTie.lean); close each card by the builder's one call (the guide's Derived/Test/ToyasCard.lean, 'card_holds'). Laid BY PROGRAM, IN A SANDBOX (cutbox-door.mjs). By AI agents, Wed Nov 11 2026. No macro, syntax, notation, axiom, sorry.
-/
import Derived.Test.YtofpjlhoppofdaaGreatDoorRows
import GoSem.ClaimSeven
namespace Go.Proofs.YtofpjlhoppofdaaGreatDoor
namespace Rows

/-- THE TIED CARD OF 'laws.FnExactDeskFault'. -/
def fnExactDeskFaultCard : Claim7 := { stood := { row := fnExactDeskFaultRow, standIns := [], harness := (true, "f16f1ebf2d06342dfc4f346efec8e356d96a23891e500aea92b4717ed77fdb13"), looks := true }, kinds := [], alts := [], laidByText := true, laidKinds := [.data, .data, .data, .data, .sentinel, .pinned], laidTests := true, laidLooks := .later }
def FnExactDeskFaultCardSaid : Prop := Claim7.holds Tryz.pinned (.plain (OpenSpec.ofChange fnExactDeskFaultSpec)) fnExactDeskFaultCard

/-- THE TIED CARD OF 'laws.FnExactDeskWords'. -/
def fnExactDeskWordsCard : Claim7 := { stood := { row := fnExactDeskWordsRow, standIns := [], harness := (true, "f16f1ebf2d06342dfc4f346efec8e356d96a23891e500aea92b4717ed77fdb13"), looks := true }, kinds := [], alts := [], laidByText := true, laidKinds := [.data, .data, .data, .sentinel], laidTests := true, laidLooks := .later }
def FnExactDeskWordsCardSaid : Prop := Claim7.holds Tryz.pinned (.plain (OpenSpec.ofChange fnExactDeskWordsSpec)) fnExactDeskWordsCard

/-- THE SECOND FORM's CARD OF 'laws.FnExactDeskFault'. -/
def fnExactDeskFaultUptoCard : Claim7 := { stood := { row := fnExactDeskFaultUptoRow, standIns := [], harness := (true, "f16f1ebf2d06342dfc4f346efec8e356d96a23891e500aea92b4717ed77fdb13"), looks := true }, kinds := [], alts := [], laidByText := true, laidKinds := [.data, .data, .data, .data, .sentinel, .pinned], laidTests := true, laidLooks := .later }
def FnExactDeskFaultUptoCardSaid : Prop := Claim7.holds Tryz.pinned (.plain (OpenSpec.upto fnExactDeskFaultSpec)) fnExactDeskFaultUptoCard

/-- THE SECOND FORM's CARD OF 'laws.FnExactDeskWords'. -/
def fnExactDeskWordsUptoCard : Claim7 := { stood := { row := fnExactDeskWordsUptoRow, standIns := [], harness := (true, "f16f1ebf2d06342dfc4f346efec8e356d96a23891e500aea92b4717ed77fdb13"), looks := true }, kinds := [], alts := [], laidByText := true, laidKinds := [.data, .data, .data, .sentinel], laidTests := true, laidLooks := .later }
def FnExactDeskWordsUptoCardSaid : Prop := Claim7.holds Tryz.pinned (.plain (OpenSpec.upto fnExactDeskWordsSpec)) fnExactDeskWordsUptoCard
end Rows
end Go.Proofs.YtofpjlhoppofdaaGreatDoor
