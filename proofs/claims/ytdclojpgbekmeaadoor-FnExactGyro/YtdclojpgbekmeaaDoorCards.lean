/-
  DERIVED. GIVEN WITH THE SEED: THE CARDS: each row of YtdclojpgbekmeaaDoorRows.lean that lists a variable, with what it lists TIED to the program's text (the seventh form; the later family's looks); each row that meets fmt, with fmt's text TOLD by the authors' own Lean function (tested against real Go, not proved from fmt's source: count such statements apart). THE CARD IS WHAT COUNTS. Prove the row's statement (the work); the ties are given (YtdclojpgbekmeaaDoorTie.lean); close each card by the builder's one call (the guide's Derived/Test/ToyasCard.lean, 'card_holds'). Laid BY PROGRAM, IN A SANDBOX (cutbox-door.mjs). By AI agents, Wed Nov 11 2026. No macro, syntax, notation, axiom, sorry.
-/
import Derived.Test.YtdclojpgbekmeaaDoorRows
import GoSem.ClaimSeven
namespace Go.Proofs.YtdclojpgbekmeaaDoor
namespace Rows

/-- THE TIED CARD OF 'laws.FnExactTrackerRight'. -/
def fnExactTrackerRightCard : Claim7 := { stood := { row := fnExactTrackerRightRow, standIns := [], harness := (true, "49b1d83a1181fb9a0a1a22c0a2e06bcf02fa5fd4df56d1c5f76798dd722e1797"), looks := true }, kinds := [], alts := [], laidByText := true, laidKinds := [.sentinel], laidTests := true, laidLooks := .later }
def FnExactTrackerRightCardSaid : Prop := Claim7.holds Tryd.pinned (.plain (OpenSpec.ofChange fnExactTrackerRightSpec)) fnExactTrackerRightCard

/-- THE TIED CARD OF 'laws.FnExactTrackerNew'. -/
def fnExactTrackerNewCard : Claim7 := { stood := { row := fnExactTrackerNewRow, standIns := [], harness := (true, "49b1d83a1181fb9a0a1a22c0a2e06bcf02fa5fd4df56d1c5f76798dd722e1797"), looks := true }, kinds := [], alts := [], laidByText := true, laidKinds := [.sentinel], laidTests := true, laidLooks := .later }
def FnExactTrackerNewCardSaid : Prop := Claim7.holds Tryd.pinned (.plain (OpenSpec.ofChange fnExactTrackerNewSpec)) fnExactTrackerNewCard

/-- THE TIED CARD OF 'laws.FnExactGyro'. -/
def fnExactGyroCard : Claim7 := { stood := { row := fnExactGyroRow, standIns := [], harness := (true, "49b1d83a1181fb9a0a1a22c0a2e06bcf02fa5fd4df56d1c5f76798dd722e1797"), looks := true }, kinds := [], alts := [], laidByText := true, laidKinds := [.sentinel], laidTests := true, laidLooks := .later }
def FnExactGyroCardSaid : Prop := Claim7.holds Tryd.pinned (.plain (OpenSpec.ofChange fnExactGyroSpec)) fnExactGyroCard

/-- THE TIED CARD OF 'laws.FnExactReset'. -/
def fnExactResetCard : Claim7 := { stood := { row := fnExactResetRow, standIns := [], harness := (true, "49b1d83a1181fb9a0a1a22c0a2e06bcf02fa5fd4df56d1c5f76798dd722e1797"), looks := true }, kinds := [], alts := [], laidByText := true, laidKinds := [.sentinel], laidTests := true, laidLooks := .later }
def FnExactResetCardSaid : Prop := Claim7.holds Tryd.pinned (.plain (OpenSpec.ofChange fnExactResetSpec)) fnExactResetCard

/-- THE SECOND FORM's CARD OF 'laws.FnExactTrackerRight'. -/
def fnExactTrackerRightUptoCard : Claim7 := { stood := { row := fnExactTrackerRightUptoRow, standIns := [], harness := (true, "49b1d83a1181fb9a0a1a22c0a2e06bcf02fa5fd4df56d1c5f76798dd722e1797"), looks := true }, kinds := [], alts := [], laidByText := true, laidKinds := [.sentinel], laidTests := true, laidLooks := .later }
def FnExactTrackerRightUptoCardSaid : Prop := Claim7.holds Tryd.pinned (.plain (OpenSpec.upto fnExactTrackerRightSpec)) fnExactTrackerRightUptoCard

/-- THE SECOND FORM's CARD OF 'laws.FnExactTrackerNew'. -/
def fnExactTrackerNewUptoCard : Claim7 := { stood := { row := fnExactTrackerNewUptoRow, standIns := [], harness := (true, "49b1d83a1181fb9a0a1a22c0a2e06bcf02fa5fd4df56d1c5f76798dd722e1797"), looks := true }, kinds := [], alts := [], laidByText := true, laidKinds := [.sentinel], laidTests := true, laidLooks := .later }
def FnExactTrackerNewUptoCardSaid : Prop := Claim7.holds Tryd.pinned (.plain (OpenSpec.upto fnExactTrackerNewSpec)) fnExactTrackerNewUptoCard

/-- THE SECOND FORM's CARD OF 'laws.FnExactGyro'. -/
def fnExactGyroUptoCard : Claim7 := { stood := { row := fnExactGyroUptoRow, standIns := [], harness := (true, "49b1d83a1181fb9a0a1a22c0a2e06bcf02fa5fd4df56d1c5f76798dd722e1797"), looks := true }, kinds := [], alts := [], laidByText := true, laidKinds := [.sentinel], laidTests := true, laidLooks := .later }
def FnExactGyroUptoCardSaid : Prop := Claim7.holds Tryd.pinned (.plain (OpenSpec.upto fnExactGyroSpec)) fnExactGyroUptoCard

/-- THE SECOND FORM's CARD OF 'laws.FnExactReset'. -/
def fnExactResetUptoCard : Claim7 := { stood := { row := fnExactResetUptoRow, standIns := [], harness := (true, "49b1d83a1181fb9a0a1a22c0a2e06bcf02fa5fd4df56d1c5f76798dd722e1797"), looks := true }, kinds := [], alts := [], laidByText := true, laidKinds := [.sentinel], laidTests := true, laidLooks := .later }
def FnExactResetUptoCardSaid : Prop := Claim7.holds Tryd.pinned (.plain (OpenSpec.upto fnExactResetSpec)) fnExactResetUptoCard
end Rows
end Go.Proofs.YtdclojpgbekmeaaDoor
