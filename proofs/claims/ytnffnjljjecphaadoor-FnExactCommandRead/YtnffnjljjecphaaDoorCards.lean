/-
  DERIVED. GIVEN WITH THE SEED: THE CARDS: each row of YtnffnjljjecphaaDoorRows.lean that lists a variable, with what it lists TIED to the program's text (the seventh form; the later family's looks); each row that meets fmt, with fmt's text TOLD by the authors' own Lean function (tested against real Go, not proved from fmt's source: count such statements apart). THE CARD IS WHAT COUNTS. Prove the row's statement (the work); the ties are given (YtnffnjljjecphaaDoorTie.lean); close each card by the builder's one call (the guide's Derived/Test/ToyasCard.lean, 'card_holds'). Laid BY PROGRAM, IN A SANDBOX (cutbox-door.mjs). By AI agents, Wed Nov 11 2026. No macro, syntax, notation, axiom, sorry.
-/
import Derived.Test.YtnffnjljjecphaaDoorRows
import GoSem.ClaimSeven
namespace Go.Proofs.YtnffnjljjecphaaDoor
namespace Rows

/-- THE TIED CARD OF 'laws.FnExactCommandRight'. -/
def fnExactCommandRightCard : Claim7 := { stood := { row := fnExactCommandRightRow, standIns := [], harness := (true, "d014f6c1e02bb0a9eb772be5e4eb1f2acf8bcd4fb3f5eddf6f7a8392e222f8d9"), looks := true }, kinds := [], alts := [], laidByText := true, laidKinds := [.sentinel], laidTests := true, laidLooks := .later }
def FnExactCommandRightCardSaid : Prop := Claim7.holds Tryd.pinned (.plain (OpenSpec.ofChange fnExactCommandRightSpec)) fnExactCommandRightCard

/-- THE TIED CARD OF 'laws.FnExactCommandBytes'. -/
def fnExactCommandBytesCard : Claim7 := { stood := { row := fnExactCommandBytesRow, standIns := [], harness := (true, "d014f6c1e02bb0a9eb772be5e4eb1f2acf8bcd4fb3f5eddf6f7a8392e222f8d9"), looks := true }, kinds := [], alts := [], laidByText := true, laidKinds := [.sentinel], laidTests := true, laidLooks := .later }
def FnExactCommandBytesCardSaid : Prop := Claim7.holds Tryd.pinned (.plain (OpenSpec.ofChange fnExactCommandBytesSpec)) fnExactCommandBytesCard

/-- THE TIED CARD OF 'laws.FnExactCommandRead'. -/
def fnExactCommandReadCard : Claim7 := { stood := { row := fnExactCommandReadRow, standIns := [], harness := (true, "d014f6c1e02bb0a9eb772be5e4eb1f2acf8bcd4fb3f5eddf6f7a8392e222f8d9"), looks := true }, kinds := [], alts := [], laidByText := true, laidKinds := [.sentinel], laidTests := true, laidLooks := .later }
def FnExactCommandReadCardSaid : Prop := Claim7.holds Tryd.pinned (.plain (OpenSpec.ofChange fnExactCommandReadSpec)) fnExactCommandReadCard

/-- THE TIED CARD OF 'laws.FnExactTell'. -/
def fnExactTellCard : Claim7 := { stood := { row := fnExactTellRow, standIns := [], harness := (true, "d014f6c1e02bb0a9eb772be5e4eb1f2acf8bcd4fb3f5eddf6f7a8392e222f8d9"), looks := true }, kinds := [], alts := [], laidByText := true, laidKinds := [.sentinel], laidTests := true, laidLooks := .later }
def FnExactTellCardSaid : Prop := Claim7.holds Tryd.pinned (.plain (OpenSpec.ofChange fnExactTellSpec)) fnExactTellCard

/-- THE SECOND FORM's CARD OF 'laws.FnExactCommandRight'. -/
def fnExactCommandRightUptoCard : Claim7 := { stood := { row := fnExactCommandRightUptoRow, standIns := [], harness := (true, "d014f6c1e02bb0a9eb772be5e4eb1f2acf8bcd4fb3f5eddf6f7a8392e222f8d9"), looks := true }, kinds := [], alts := [], laidByText := true, laidKinds := [.sentinel], laidTests := true, laidLooks := .later }
def FnExactCommandRightUptoCardSaid : Prop := Claim7.holds Tryd.pinned (.plain (OpenSpec.upto fnExactCommandRightSpec)) fnExactCommandRightUptoCard

/-- THE SECOND FORM's CARD OF 'laws.FnExactCommandBytes'. -/
def fnExactCommandBytesUptoCard : Claim7 := { stood := { row := fnExactCommandBytesUptoRow, standIns := [], harness := (true, "d014f6c1e02bb0a9eb772be5e4eb1f2acf8bcd4fb3f5eddf6f7a8392e222f8d9"), looks := true }, kinds := [], alts := [], laidByText := true, laidKinds := [.sentinel], laidTests := true, laidLooks := .later }
def FnExactCommandBytesUptoCardSaid : Prop := Claim7.holds Tryd.pinned (.plain (OpenSpec.upto fnExactCommandBytesSpec)) fnExactCommandBytesUptoCard

/-- THE SECOND FORM's CARD OF 'laws.FnExactCommandRead'. -/
def fnExactCommandReadUptoCard : Claim7 := { stood := { row := fnExactCommandReadUptoRow, standIns := [], harness := (true, "d014f6c1e02bb0a9eb772be5e4eb1f2acf8bcd4fb3f5eddf6f7a8392e222f8d9"), looks := true }, kinds := [], alts := [], laidByText := true, laidKinds := [.sentinel], laidTests := true, laidLooks := .later }
def FnExactCommandReadUptoCardSaid : Prop := Claim7.holds Tryd.pinned (.plain (OpenSpec.upto fnExactCommandReadSpec)) fnExactCommandReadUptoCard

/-- THE SECOND FORM's CARD OF 'laws.FnExactTell'. -/
def fnExactTellUptoCard : Claim7 := { stood := { row := fnExactTellUptoRow, standIns := [], harness := (true, "d014f6c1e02bb0a9eb772be5e4eb1f2acf8bcd4fb3f5eddf6f7a8392e222f8d9"), looks := true }, kinds := [], alts := [], laidByText := true, laidKinds := [.sentinel], laidTests := true, laidLooks := .later }
def FnExactTellUptoCardSaid : Prop := Claim7.holds Tryd.pinned (.plain (OpenSpec.upto fnExactTellSpec)) fnExactTellUptoCard
end Rows
end Go.Proofs.YtnffnjljjecphaaDoor
