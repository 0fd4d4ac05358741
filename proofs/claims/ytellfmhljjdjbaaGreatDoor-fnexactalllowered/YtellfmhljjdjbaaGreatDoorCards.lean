/-
  DERIVED. GIVEN WITH THE SEED: THE CARDS: each row of YtellfmhljjdjbaaGreatDoorRows.lean that lists a variable, with what it lists TIED to the program's text (the seventh form; the later family's looks); each row that meets fmt, with fmt's text TOLD by the authors' own Lean function (tested against real Go, not proved from fmt's source: count such statements apart). THE CARD IS WHAT COUNTS. Prove the row's statement (the work); the ties are given (YtellfmhljjdjbaaGreatDoorTie.lean); close each card by the builder's one call (the guide's Derived/Test/ToyasCard.lean, 'card_holds'). Laid BY PROGRAM, IN A SANDBOX (cutbox-door.mjs). By AI agents, Wed Nov 11 2026. No macro, syntax, notation, axiom, sorry.
-/
import Derived.Test.YtellfmhljjdjbaaGreatDoorRows
import GoSem.ClaimSeven
namespace Go.Proofs.YtellfmhljjdjbaaGreatDoor
namespace Rows

/-- THE TIED CARD OF 'laws.FnLowered'. -/
def fnLoweredCard : Claim7 := { stood := { row := fnLoweredRow, standIns := [], harness := (true, "cb744010eed1bd9478748c804ba0c298ab54bfcd8a2a09e4d3a749c79db26194"), looks := true }, kinds := [], alts := [], laidByText := true, laidKinds := [.handle, .sentinel, .sentinel, .sentinel, .sentinel, .sentinel, .sentinel, .sentinel, .sentinel, .sentinel, .sentinel], laidTests := true, laidLooks := .later }
def FnLoweredCardSaid : Prop := Claim7.holds Tryz.pinned (.plain (OpenSpec.ofChange fnLoweredSpec)) fnLoweredCard

/-- THE TIED CARD OF 'laws.FnAllLowered'. -/
def fnAllLoweredCard : Claim7 := { stood := { row := fnAllLoweredRow, standIns := [], harness := (true, "cb744010eed1bd9478748c804ba0c298ab54bfcd8a2a09e4d3a749c79db26194"), looks := true }, kinds := [], alts := [], laidByText := true, laidKinds := [.handle, .sentinel, .sentinel, .sentinel, .sentinel, .sentinel, .sentinel, .sentinel, .sentinel, .sentinel, .sentinel], laidTests := true, laidLooks := .later }
def FnAllLoweredCardSaid : Prop := Claim7.holds Tryz.pinned (.plain (OpenSpec.ofChange fnAllLoweredSpec)) fnAllLoweredCard

/-- THE TIED CARD OF 'laws.FnExactLowered'. -/
def fnExactLoweredCard : Claim7 := { stood := { row := fnExactLoweredRow, standIns := [], harness := (true, "cb744010eed1bd9478748c804ba0c298ab54bfcd8a2a09e4d3a749c79db26194"), looks := true }, kinds := [], alts := [], laidByText := true, laidKinds := [.handle, .sentinel, .sentinel, .sentinel, .sentinel, .sentinel, .sentinel, .sentinel, .sentinel, .sentinel, .sentinel], laidTests := true, laidLooks := .later }
def FnExactLoweredCardSaid : Prop := Claim7.holds Tryz.pinned (.plain (OpenSpec.ofChange fnExactLoweredSpec)) fnExactLoweredCard

/-- THE TIED CARD OF 'laws.FnExactAllLowered'. -/
def fnExactAllLoweredCard : Claim7 := { stood := { row := fnExactAllLoweredRow, standIns := [], harness := (true, "cb744010eed1bd9478748c804ba0c298ab54bfcd8a2a09e4d3a749c79db26194"), looks := true }, kinds := [], alts := [], laidByText := true, laidKinds := [.handle, .sentinel, .sentinel, .sentinel, .sentinel, .sentinel, .sentinel, .sentinel, .sentinel, .sentinel, .sentinel], laidTests := true, laidLooks := .later }
def FnExactAllLoweredCardSaid : Prop := Claim7.holds Tryz.pinned (.plain (OpenSpec.ofChange fnExactAllLoweredSpec)) fnExactAllLoweredCard

/-- THE SECOND FORM's CARD OF 'laws.FnLowered'. -/
def fnLoweredUptoCard : Claim7 := { stood := { row := fnLoweredUptoRow, standIns := [], harness := (true, "cb744010eed1bd9478748c804ba0c298ab54bfcd8a2a09e4d3a749c79db26194"), looks := true }, kinds := [], alts := [], laidByText := true, laidKinds := [.handle, .sentinel, .sentinel, .sentinel, .sentinel, .sentinel, .sentinel, .sentinel, .sentinel, .sentinel, .sentinel], laidTests := true, laidLooks := .later }
def FnLoweredUptoCardSaid : Prop := Claim7.holds Tryz.pinned (.plain (OpenSpec.upto fnLoweredSpec)) fnLoweredUptoCard

/-- THE SECOND FORM's CARD OF 'laws.FnAllLowered'. -/
def fnAllLoweredUptoCard : Claim7 := { stood := { row := fnAllLoweredUptoRow, standIns := [], harness := (true, "cb744010eed1bd9478748c804ba0c298ab54bfcd8a2a09e4d3a749c79db26194"), looks := true }, kinds := [], alts := [], laidByText := true, laidKinds := [.handle, .sentinel, .sentinel, .sentinel, .sentinel, .sentinel, .sentinel, .sentinel, .sentinel, .sentinel, .sentinel], laidTests := true, laidLooks := .later }
def FnAllLoweredUptoCardSaid : Prop := Claim7.holds Tryz.pinned (.plain (OpenSpec.upto fnAllLoweredSpec)) fnAllLoweredUptoCard

/-- THE SECOND FORM's CARD OF 'laws.FnExactLowered'. -/
def fnExactLoweredUptoCard : Claim7 := { stood := { row := fnExactLoweredUptoRow, standIns := [], harness := (true, "cb744010eed1bd9478748c804ba0c298ab54bfcd8a2a09e4d3a749c79db26194"), looks := true }, kinds := [], alts := [], laidByText := true, laidKinds := [.handle, .sentinel, .sentinel, .sentinel, .sentinel, .sentinel, .sentinel, .sentinel, .sentinel, .sentinel, .sentinel], laidTests := true, laidLooks := .later }
def FnExactLoweredUptoCardSaid : Prop := Claim7.holds Tryz.pinned (.plain (OpenSpec.upto fnExactLoweredSpec)) fnExactLoweredUptoCard

/-- THE SECOND FORM's CARD OF 'laws.FnExactAllLowered'. -/
def fnExactAllLoweredUptoCard : Claim7 := { stood := { row := fnExactAllLoweredUptoRow, standIns := [], harness := (true, "cb744010eed1bd9478748c804ba0c298ab54bfcd8a2a09e4d3a749c79db26194"), looks := true }, kinds := [], alts := [], laidByText := true, laidKinds := [.handle, .sentinel, .sentinel, .sentinel, .sentinel, .sentinel, .sentinel, .sentinel, .sentinel, .sentinel, .sentinel], laidTests := true, laidLooks := .later }
def FnExactAllLoweredUptoCardSaid : Prop := Claim7.holds Tryz.pinned (.plain (OpenSpec.upto fnExactAllLoweredSpec)) fnExactAllLoweredUptoCard
end Rows
end Go.Proofs.YtellfmhljjdjbaaGreatDoor
