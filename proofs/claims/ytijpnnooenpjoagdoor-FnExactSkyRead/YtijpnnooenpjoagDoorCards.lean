/-
  DERIVED. GIVEN WITH THE SEED: THE CARDS: each row of YtijpnnooenpjoagDoorRows.lean that lists a variable, with what it lists TIED to the program's text (the seventh form; the later family's looks); each row that meets fmt, with fmt's text TOLD by the authors' own Lean function (tested against real Go, not proved from fmt's source: count such statements apart). THE CARD IS WHAT COUNTS. Prove the row's statement (the work); the ties are given (YtijpnnooenpjoagDoorTie.lean); close each card by the builder's one call (the guide's Derived/Test/ToyasCard.lean, 'card_holds'). Laid BY PROGRAM, IN A SANDBOX (cutbox-door.mjs). By AI agents, Wed Nov 11 2026. No macro, syntax, notation, axiom, sorry.
-/
import Derived.Test.YtijpnnooenpjoagDoorRows
import GoSem.ClaimSeven
namespace Go.Proofs.YtijpnnooenpjoagDoor
namespace Rows

/-- THE TIED CARD OF 'laws.FnExactTurnRead'. -/
def fnExactTurnReadCard : Claim7 := { stood := { row := fnExactTurnReadRow, standIns := [], harness := (true, "2a355470ecd5c490b0051615caffd9b8d271d84700c0c5d4294dc81ec312172d"), looks := true }, kinds := [], alts := [], laidByText := true, laidKinds := [.data, .data, .data], laidTests := true, laidLooks := .later }
def FnExactTurnReadCardSaid : Prop := Claim7.holds Tryd.pinned (.plain (OpenSpec.ofChange fnExactTurnReadSpec)) fnExactTurnReadCard

/-- THE TIED CARD OF 'laws.FnExactSkyRight'. -/
def fnExactSkyRightCard : Claim7 := { stood := { row := fnExactSkyRightRow, standIns := [], harness := (true, "2a355470ecd5c490b0051615caffd9b8d271d84700c0c5d4294dc81ec312172d"), looks := true }, kinds := [], alts := [], laidByText := true, laidKinds := [.sentinel], laidTests := true, laidLooks := .later }
def FnExactSkyRightCardSaid : Prop := Claim7.holds Tryd.pinned (.plain (OpenSpec.ofChange fnExactSkyRightSpec)) fnExactSkyRightCard

/-- THE TIED CARD OF 'laws.FnExactSkyBytes'. -/
def fnExactSkyBytesCard : Claim7 := { stood := { row := fnExactSkyBytesRow, standIns := [], harness := (true, "2a355470ecd5c490b0051615caffd9b8d271d84700c0c5d4294dc81ec312172d"), looks := true }, kinds := [], alts := [], laidByText := true, laidKinds := [.sentinel], laidTests := true, laidLooks := .later }
def FnExactSkyBytesCardSaid : Prop := Claim7.holds Tryd.pinned (.plain (OpenSpec.ofChange fnExactSkyBytesSpec)) fnExactSkyBytesCard

/-- THE TIED CARD OF 'laws.FnExactSkyRead'. -/
def fnExactSkyReadCard : Claim7 := { stood := { row := fnExactSkyReadRow, standIns := [], harness := (true, "2a355470ecd5c490b0051615caffd9b8d271d84700c0c5d4294dc81ec312172d"), looks := true }, kinds := [], alts := [], laidByText := true, laidKinds := [.sentinel], laidTests := true, laidLooks := .later }
def FnExactSkyReadCardSaid : Prop := Claim7.holds Tryd.pinned (.plain (OpenSpec.ofChange fnExactSkyReadSpec)) fnExactSkyReadCard

/-- THE TIED CARD OF 'laws.FnExactStarOf'. -/
def fnExactStarOfCard : Claim7 := { stood := { row := fnExactStarOfRow, standIns := [], harness := (true, "2a355470ecd5c490b0051615caffd9b8d271d84700c0c5d4294dc81ec312172d"), looks := true }, kinds := [], alts := [], laidByText := true, laidKinds := [.sentinel], laidTests := true, laidLooks := .later }
def FnExactStarOfCardSaid : Prop := Claim7.holds Tryd.pinned (.plain (OpenSpec.ofChange fnExactStarOfSpec)) fnExactStarOfCard

/-- THE TIED CARD OF 'laws.FnExactPairsOf'. -/
def fnExactPairsOfCard : Claim7 := { stood := { row := fnExactPairsOfRow, standIns := [], harness := (true, "2a355470ecd5c490b0051615caffd9b8d271d84700c0c5d4294dc81ec312172d"), looks := true }, kinds := [], alts := [], laidByText := true, laidKinds := [.sentinel], laidTests := true, laidLooks := .later }
def FnExactPairsOfCardSaid : Prop := Claim7.holds Tryd.pinned (.plain (OpenSpec.ofChange fnExactPairsOfSpec)) fnExactPairsOfCard

/-- THE SECOND FORM's CARD OF 'laws.FnExactTurnRead'. -/
def fnExactTurnReadUptoCard : Claim7 := { stood := { row := fnExactTurnReadUptoRow, standIns := [], harness := (true, "2a355470ecd5c490b0051615caffd9b8d271d84700c0c5d4294dc81ec312172d"), looks := true }, kinds := [], alts := [], laidByText := true, laidKinds := [.data, .data, .data], laidTests := true, laidLooks := .later }
def FnExactTurnReadUptoCardSaid : Prop := Claim7.holds Tryd.pinned (.plain (OpenSpec.upto fnExactTurnReadSpec)) fnExactTurnReadUptoCard

/-- THE SECOND FORM's CARD OF 'laws.FnExactSkyRight'. -/
def fnExactSkyRightUptoCard : Claim7 := { stood := { row := fnExactSkyRightUptoRow, standIns := [], harness := (true, "2a355470ecd5c490b0051615caffd9b8d271d84700c0c5d4294dc81ec312172d"), looks := true }, kinds := [], alts := [], laidByText := true, laidKinds := [.sentinel], laidTests := true, laidLooks := .later }
def FnExactSkyRightUptoCardSaid : Prop := Claim7.holds Tryd.pinned (.plain (OpenSpec.upto fnExactSkyRightSpec)) fnExactSkyRightUptoCard

/-- THE SECOND FORM's CARD OF 'laws.FnExactSkyBytes'. -/
def fnExactSkyBytesUptoCard : Claim7 := { stood := { row := fnExactSkyBytesUptoRow, standIns := [], harness := (true, "2a355470ecd5c490b0051615caffd9b8d271d84700c0c5d4294dc81ec312172d"), looks := true }, kinds := [], alts := [], laidByText := true, laidKinds := [.sentinel], laidTests := true, laidLooks := .later }
def FnExactSkyBytesUptoCardSaid : Prop := Claim7.holds Tryd.pinned (.plain (OpenSpec.upto fnExactSkyBytesSpec)) fnExactSkyBytesUptoCard

/-- THE SECOND FORM's CARD OF 'laws.FnExactSkyRead'. -/
def fnExactSkyReadUptoCard : Claim7 := { stood := { row := fnExactSkyReadUptoRow, standIns := [], harness := (true, "2a355470ecd5c490b0051615caffd9b8d271d84700c0c5d4294dc81ec312172d"), looks := true }, kinds := [], alts := [], laidByText := true, laidKinds := [.sentinel], laidTests := true, laidLooks := .later }
def FnExactSkyReadUptoCardSaid : Prop := Claim7.holds Tryd.pinned (.plain (OpenSpec.upto fnExactSkyReadSpec)) fnExactSkyReadUptoCard

/-- THE SECOND FORM's CARD OF 'laws.FnExactStarOf'. -/
def fnExactStarOfUptoCard : Claim7 := { stood := { row := fnExactStarOfUptoRow, standIns := [], harness := (true, "2a355470ecd5c490b0051615caffd9b8d271d84700c0c5d4294dc81ec312172d"), looks := true }, kinds := [], alts := [], laidByText := true, laidKinds := [.sentinel], laidTests := true, laidLooks := .later }
def FnExactStarOfUptoCardSaid : Prop := Claim7.holds Tryd.pinned (.plain (OpenSpec.upto fnExactStarOfSpec)) fnExactStarOfUptoCard

/-- THE SECOND FORM's CARD OF 'laws.FnExactPairsOf'. -/
def fnExactPairsOfUptoCard : Claim7 := { stood := { row := fnExactPairsOfUptoRow, standIns := [], harness := (true, "2a355470ecd5c490b0051615caffd9b8d271d84700c0c5d4294dc81ec312172d"), looks := true }, kinds := [], alts := [], laidByText := true, laidKinds := [.sentinel], laidTests := true, laidLooks := .later }
def FnExactPairsOfUptoCardSaid : Prop := Claim7.holds Tryd.pinned (.plain (OpenSpec.upto fnExactPairsOfSpec)) fnExactPairsOfUptoCard
end Rows
end Go.Proofs.YtijpnnooenpjoagDoor
