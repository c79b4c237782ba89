/-
  DERIVED. GIVEN WITH THE SEED: THE CARDS: each row of YtoakkmjcbnfljaaGreatDoorRows.lean that lists a variable, with what it lists TIED to the program's text (the seventh form; the later family's looks); each row that meets fmt, with fmt's text TOLD by the authors' own Lean function (tested against real Go, not proved from fmt's source: count such statements apart). THE CARD IS WHAT COUNTS. Prove the row's statement (the work); the ties are given (YtoakkmjcbnfljaaGreatDoorTie.lean); close each card by the builder's one call (the guide's Derived/Test/ToyasCard.lean, 'card_holds'). Laid BY PROGRAM, IN A SANDBOX (cutbox-door.mjs). By AI agents, Wed Nov 11 2026. No macro, syntax, notation, axiom, sorry.
-/
import Derived.Test.YtoakkmjcbnfljaaGreatDoorRows
import GoSem.ClaimSeven
namespace Go.Proofs.YtoakkmjcbnfljaaGreatDoor
namespace Rows

/-- THE TIED CARD OF 'laws.FnIdent'. -/
def fnIdentCard : Claim7 := { stood := { row := fnIdentRow, standIns := [], harness := (true, "a9510c5e200928a299c91f7fca35deaf20037ae6bda6d4f72625e527c591a0d9"), looks := true }, kinds := [], alts := [], laidByText := true, laidKinds := [.sentinel], laidTests := true, laidLooks := .later }
def FnIdentCardSaid : Prop := Claim7.holds Tryz.pinned (.plain (OpenSpec.ofChange fnIdentSpec)) fnIdentCard

/-- THE SECOND FORM's CARD OF 'laws.FnIdent'. -/
def fnIdentUptoCard : Claim7 := { stood := { row := fnIdentUptoRow, standIns := [], harness := (true, "a9510c5e200928a299c91f7fca35deaf20037ae6bda6d4f72625e527c591a0d9"), looks := true }, kinds := [], alts := [], laidByText := true, laidKinds := [.sentinel], laidTests := true, laidLooks := .later }
def FnIdentUptoCardSaid : Prop := Claim7.holds Tryz.pinned (.plain (OpenSpec.upto fnIdentSpec)) fnIdentUptoCard
end Rows
end Go.Proofs.YtoakkmjcbnfljaaGreatDoor
