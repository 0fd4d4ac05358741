/-
  DERIVED. GIVEN WITH THE SEED: THE CARDS: each row of YthpdpoocigpccaaGreatDoorRows.lean that lists a variable, with what it lists TIED to the program's text (the seventh form; the later family's looks); each row that meets fmt, with fmt's text TOLD by the authors' own Lean function (tested against real Go, not proved from fmt's source: count such statements apart). THE CARD IS WHAT COUNTS. Prove the row's statement (the work); the ties are given (YthpdpoocigpccaaGreatDoorTie.lean); close each card by the builder's one call (the guide's Derived/Test/ToyasCard.lean, 'card_holds'). Laid BY PROGRAM, IN A SANDBOX (cutbox-door.mjs). By AI agents, Wed Nov 11 2026. No macro, syntax, notation, axiom, sorry.
-/
import Derived.Test.YthpdpoocigpccaaGreatDoorRows
import GoSem.ClaimSeven
namespace Go.Proofs.YthpdpoocigpccaaGreatDoor
namespace Rows

/-- THE TIED CARD OF 'laws.FnMeant'. -/
def fnMeantCard : Claim7 := { stood := { row := fnMeantRow, standIns := [], harness := (true, "675c13082b0fb510d53aeecbc2be8d607a816e2c1edc2a2409a3cacdcd9de30e"), looks := true }, kinds := [], alts := [], laidByText := true, laidKinds := [.sentinel, .sentinel, .sentinel, .sentinel, .sentinel, .sentinel, .sentinel, .sentinel, .sentinel, .sentinel], laidTests := true, laidLooks := .later }
def FnMeantCardSaid : Prop := Claim7.holds Tryz.pinned (.plain (OpenSpec.ofChange fnMeantSpec)) fnMeantCard

/-- THE TIED CARD OF 'laws.FnExactMeant'. -/
def fnExactMeantCard : Claim7 := { stood := { row := fnExactMeantRow, standIns := [], harness := (true, "675c13082b0fb510d53aeecbc2be8d607a816e2c1edc2a2409a3cacdcd9de30e"), looks := true }, kinds := [], alts := [], laidByText := true, laidKinds := [.sentinel, .sentinel, .sentinel, .sentinel, .sentinel, .sentinel, .sentinel, .sentinel, .sentinel, .sentinel], laidTests := true, laidLooks := .later }
def FnExactMeantCardSaid : Prop := Claim7.holds Tryz.pinned (.plain (OpenSpec.ofChange fnExactMeantSpec)) fnExactMeantCard

/-- THE TIED CARD OF 'laws.FnExactBurnt'. -/
def fnExactBurntCard : Claim7 := { stood := { row := fnExactBurntRow, standIns := [], harness := (true, "675c13082b0fb510d53aeecbc2be8d607a816e2c1edc2a2409a3cacdcd9de30e"), looks := true }, kinds := [], alts := [], laidByText := true, laidKinds := [.sentinel, .sentinel, .sentinel, .sentinel, .sentinel, .sentinel, .sentinel, .sentinel, .sentinel, .sentinel], laidTests := true, laidLooks := .later }
def FnExactBurntCardSaid : Prop := Claim7.holds Tryz.pinned (.plain (OpenSpec.ofChange fnExactBurntSpec)) fnExactBurntCard

/-- THE SECOND FORM's CARD OF 'laws.FnMeant'. -/
def fnMeantUptoCard : Claim7 := { stood := { row := fnMeantUptoRow, standIns := [], harness := (true, "675c13082b0fb510d53aeecbc2be8d607a816e2c1edc2a2409a3cacdcd9de30e"), looks := true }, kinds := [], alts := [], laidByText := true, laidKinds := [.sentinel, .sentinel, .sentinel, .sentinel, .sentinel, .sentinel, .sentinel, .sentinel, .sentinel, .sentinel], laidTests := true, laidLooks := .later }
def FnMeantUptoCardSaid : Prop := Claim7.holds Tryz.pinned (.plain (OpenSpec.upto fnMeantSpec)) fnMeantUptoCard

/-- THE SECOND FORM's CARD OF 'laws.FnExactMeant'. -/
def fnExactMeantUptoCard : Claim7 := { stood := { row := fnExactMeantUptoRow, standIns := [], harness := (true, "675c13082b0fb510d53aeecbc2be8d607a816e2c1edc2a2409a3cacdcd9de30e"), looks := true }, kinds := [], alts := [], laidByText := true, laidKinds := [.sentinel, .sentinel, .sentinel, .sentinel, .sentinel, .sentinel, .sentinel, .sentinel, .sentinel, .sentinel], laidTests := true, laidLooks := .later }
def FnExactMeantUptoCardSaid : Prop := Claim7.holds Tryz.pinned (.plain (OpenSpec.upto fnExactMeantSpec)) fnExactMeantUptoCard

/-- THE SECOND FORM's CARD OF 'laws.FnExactBurnt'. -/
def fnExactBurntUptoCard : Claim7 := { stood := { row := fnExactBurntUptoRow, standIns := [], harness := (true, "675c13082b0fb510d53aeecbc2be8d607a816e2c1edc2a2409a3cacdcd9de30e"), looks := true }, kinds := [], alts := [], laidByText := true, laidKinds := [.sentinel, .sentinel, .sentinel, .sentinel, .sentinel, .sentinel, .sentinel, .sentinel, .sentinel, .sentinel], laidTests := true, laidLooks := .later }
def FnExactBurntUptoCardSaid : Prop := Claim7.holds Tryz.pinned (.plain (OpenSpec.upto fnExactBurntSpec)) fnExactBurntUptoCard
end Rows
end Go.Proofs.YthpdpoocigpccaaGreatDoor
