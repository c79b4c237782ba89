/-
  DERIVED. GIVEN WITH THE SEED: THE CARDS: each row of YtpjofdbeflhjnagDoorRows.lean that lists a variable, with what it lists TIED to the program's text (the seventh form; the later family's looks); each row that meets fmt, with fmt's text TOLD by the authors' own Lean function (tested against real Go, not proved from fmt's source: count such statements apart). THE CARD IS WHAT COUNTS. Prove the row's statement (the work); the ties are given (YtpjofdbeflhjnagDoorTie.lean); close each card by the builder's one call (the guide's Derived/Test/ToyasCard.lean, 'card_holds'). Laid BY PROGRAM, IN A SANDBOX (cutbox-door.mjs). By AI agents, Wed Nov 11 2026. No macro, syntax, notation, axiom, sorry.
-/
import Derived.Test.YtpjofdbeflhjnagDoorRows
import GoSem.ClaimSeven
namespace Go.Proofs.YtpjofdbeflhjnagDoor
namespace Rows

/-- THE TIED CARD OF 'laws.FnExactTurnRead'. -/
def fnExactTurnReadCard : Claim7 := { stood := { row := fnExactTurnReadRow, standIns := [], harness := (true, "3e12a9f1d016631c6e74b1dc711274c6661eb6331f094424afbf39582a781f25"), looks := false }, kinds := [], alts := [], laidByText := true, laidKinds := [.data, .data, .data], laidTests := true, laidLooks := .later }
def FnExactTurnReadCardSaid : Prop := Claim7.holds Tryd.pinned (.plain (OpenSpec.ofChange fnExactTurnReadSpec)) fnExactTurnReadCard

/-- THE SECOND FORM's CARD OF 'laws.FnExactTurnRead'. -/
def fnExactTurnReadUptoCard : Claim7 := { stood := { row := fnExactTurnReadUptoRow, standIns := [], harness := (true, "3e12a9f1d016631c6e74b1dc711274c6661eb6331f094424afbf39582a781f25"), looks := false }, kinds := [], alts := [], laidByText := true, laidKinds := [.data, .data, .data], laidTests := true, laidLooks := .later }
def FnExactTurnReadUptoCardSaid : Prop := Claim7.holds Tryd.pinned (.plain (OpenSpec.upto fnExactTurnReadSpec)) fnExactTurnReadUptoCard
end Rows
end Go.Proofs.YtpjofdbeflhjnagDoor
