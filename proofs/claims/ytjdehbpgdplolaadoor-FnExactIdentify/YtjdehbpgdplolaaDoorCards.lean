/-
  DERIVED. GIVEN WITH THE SEED: THE CARDS: each row of YtjdehbpgdplolaaDoorRows.lean that lists a variable, with what it lists TIED to the program's text (the seventh form; the later family's looks); each row that meets fmt, with fmt's text TOLD by the authors' own Lean function (tested against real Go, not proved from fmt's source: count such statements apart). THE CARD IS WHAT COUNTS. Prove the row's statement (the work); the ties are given (YtjdehbpgdplolaaDoorTie.lean); close each card by the builder's one call (the guide's Derived/Test/ToyasCard.lean, 'card_holds'). Laid BY PROGRAM, IN A SANDBOX (cutbox-door.mjs). By AI agents, Wed Nov 11 2026. No macro, syntax, notation, axiom, sorry.
-/
import Derived.Test.YtjdehbpgdplolaaDoorRows
import GoSem.ClaimSeven
namespace Go.Proofs.YtjdehbpgdplolaaDoor
namespace Rows

/-- THE TIED CARD OF 'laws.FnExactIdentify'. -/
def fnExactIdentifyCard : Claim7 := { stood := { row := fnExactIdentifyRow, standIns := [], harness := (true, "215edf88e67fc1e9adff8ce2711e96f127cf38b5bbba5ff9a6e5233ec22c0c43"), looks := true }, kinds := [], alts := [], laidByText := true, laidKinds := [.sentinel], laidTests := true, laidLooks := .later }
def FnExactIdentifyCardSaid : Prop := Claim7.holds Tryd.pinned (.plain (OpenSpec.ofChange fnExactIdentifySpec)) fnExactIdentifyCard

/-- THE SECOND FORM's CARD OF 'laws.FnExactIdentify'. -/
def fnExactIdentifyUptoCard : Claim7 := { stood := { row := fnExactIdentifyUptoRow, standIns := [], harness := (true, "215edf88e67fc1e9adff8ce2711e96f127cf38b5bbba5ff9a6e5233ec22c0c43"), looks := true }, kinds := [], alts := [], laidByText := true, laidKinds := [.sentinel], laidTests := true, laidLooks := .later }
def FnExactIdentifyUptoCardSaid : Prop := Claim7.holds Tryd.pinned (.plain (OpenSpec.upto fnExactIdentifySpec)) fnExactIdentifyUptoCard
end Rows
end Go.Proofs.YtjdehbpgdplolaaDoor
