/-
  DERIVED. GIVEN WITH THE SEED: THE CARDS: each row of YtbccjcijcdehkaaDoorRows.lean that lists a variable, with what it lists TIED to the program's text (the seventh form; the later family's looks); each row that meets fmt, with fmt's text TOLD by the authors' own Lean function (tested against real Go, not proved from fmt's source: count such statements apart). THE CARD IS WHAT COUNTS. Prove the row's statement (the work); the ties are given (YtbccjcijcdehkaaDoorTie.lean); close each card by the builder's one call (the guide's Derived/Test/ToyasCard.lean, 'card_holds'). Laid BY PROGRAM, IN A SANDBOX (cutbox-door.mjs). By AI agents, Wed Nov 11 2026. No macro, syntax, notation, axiom, sorry.
-/
import Derived.Test.YtbccjcijcdehkaaDoorRows
import GoSem.ClaimSeven
namespace Go.Proofs.YtbccjcijcdehkaaDoor
namespace Rows

/-- THE TIED CARD OF 'laws.FnValid'. -/
def fnValidCard : Claim7 := { stood := { row := fnValidRow, standIns := [], harness := (true, "f4647d42276add5e792f673769bd3597c385cb392d19d29c8363a077af0c64fa"), looks := true }, kinds := [], alts := [], laidByText := true, laidKinds := [.handle, .sentinel, .sentinel, .sentinel, .sentinel, .sentinel, .sentinel, .sentinel, .sentinel, .sentinel, .sentinel], laidTests := true, laidLooks := .later }
def FnValidCardSaid : Prop := Claim7.holds Tryd.pinned (.plain (OpenSpec.ofChange fnValidSpec)) fnValidCard

/-- THE TIED CARD OF 'laws.FnExactHeights'. -/
def fnExactHeightsCard : Claim7 := { stood := { row := fnExactHeightsRow, standIns := [], harness := (true, "f4647d42276add5e792f673769bd3597c385cb392d19d29c8363a077af0c64fa"), looks := true }, kinds := [], alts := [], laidByText := true, laidKinds := [.handle, .sentinel, .sentinel, .sentinel, .sentinel, .sentinel, .sentinel, .sentinel, .sentinel, .sentinel, .sentinel], laidTests := true, laidLooks := .later }
def FnExactHeightsCardSaid : Prop := Claim7.holds Tryd.pinned (.plain (OpenSpec.ofChange fnExactHeightsSpec)) fnExactHeightsCard

/-- THE TIED CARD OF 'laws.FnExactAccepts'. -/
def fnExactAcceptsCard : Claim7 := { stood := { row := fnExactAcceptsRow, standIns := [], harness := (true, "f4647d42276add5e792f673769bd3597c385cb392d19d29c8363a077af0c64fa"), looks := true }, kinds := [], alts := [], laidByText := true, laidKinds := [.handle, .sentinel, .sentinel, .sentinel, .sentinel, .sentinel, .sentinel, .sentinel, .sentinel, .sentinel, .sentinel], laidTests := true, laidLooks := .later }
def FnExactAcceptsCardSaid : Prop := Claim7.holds Tryd.pinned (.plain (OpenSpec.ofChange fnExactAcceptsSpec)) fnExactAcceptsCard

/-- THE TIED CARD OF 'laws.FnExactValid'. -/
def fnExactValidCard : Claim7 := { stood := { row := fnExactValidRow, standIns := [], harness := (true, "f4647d42276add5e792f673769bd3597c385cb392d19d29c8363a077af0c64fa"), looks := true }, kinds := [], alts := [], laidByText := true, laidKinds := [.sentinel, .sentinel, .sentinel, .sentinel, .sentinel, .sentinel, .sentinel, .sentinel, .sentinel, .sentinel], laidTests := true, laidLooks := .later }
def FnExactValidCardSaid : Prop := Claim7.holds Tryd.pinned (.plain (OpenSpec.ofChange fnExactValidSpec)) fnExactValidCard

/-- THE TIED CARD OF 'laws.FnExactHighest'. -/
def fnExactHighestCard : Claim7 := { stood := { row := fnExactHighestRow, standIns := [], harness := (true, "f4647d42276add5e792f673769bd3597c385cb392d19d29c8363a077af0c64fa"), looks := true }, kinds := [], alts := [], laidByText := true, laidKinds := [.handle, .sentinel, .sentinel, .sentinel, .sentinel, .sentinel, .sentinel, .sentinel, .sentinel, .sentinel, .sentinel], laidTests := true, laidLooks := .later }
def FnExactHighestCardSaid : Prop := Claim7.holds Tryd.pinned (.plain (OpenSpec.ofChange fnExactHighestSpec)) fnExactHighestCard

/-- THE SECOND FORM's CARD OF 'laws.FnValid'. -/
def fnValidUptoCard : Claim7 := { stood := { row := fnValidUptoRow, standIns := [], harness := (true, "f4647d42276add5e792f673769bd3597c385cb392d19d29c8363a077af0c64fa"), looks := true }, kinds := [], alts := [], laidByText := true, laidKinds := [.handle, .sentinel, .sentinel, .sentinel, .sentinel, .sentinel, .sentinel, .sentinel, .sentinel, .sentinel, .sentinel], laidTests := true, laidLooks := .later }
def FnValidUptoCardSaid : Prop := Claim7.holds Tryd.pinned (.plain (OpenSpec.upto fnValidSpec)) fnValidUptoCard

/-- THE SECOND FORM's CARD OF 'laws.FnExactHeights'. -/
def fnExactHeightsUptoCard : Claim7 := { stood := { row := fnExactHeightsUptoRow, standIns := [], harness := (true, "f4647d42276add5e792f673769bd3597c385cb392d19d29c8363a077af0c64fa"), looks := true }, kinds := [], alts := [], laidByText := true, laidKinds := [.handle, .sentinel, .sentinel, .sentinel, .sentinel, .sentinel, .sentinel, .sentinel, .sentinel, .sentinel, .sentinel], laidTests := true, laidLooks := .later }
def FnExactHeightsUptoCardSaid : Prop := Claim7.holds Tryd.pinned (.plain (OpenSpec.upto fnExactHeightsSpec)) fnExactHeightsUptoCard

/-- THE SECOND FORM's CARD OF 'laws.FnExactAccepts'. -/
def fnExactAcceptsUptoCard : Claim7 := { stood := { row := fnExactAcceptsUptoRow, standIns := [], harness := (true, "f4647d42276add5e792f673769bd3597c385cb392d19d29c8363a077af0c64fa"), looks := true }, kinds := [], alts := [], laidByText := true, laidKinds := [.handle, .sentinel, .sentinel, .sentinel, .sentinel, .sentinel, .sentinel, .sentinel, .sentinel, .sentinel, .sentinel], laidTests := true, laidLooks := .later }
def FnExactAcceptsUptoCardSaid : Prop := Claim7.holds Tryd.pinned (.plain (OpenSpec.upto fnExactAcceptsSpec)) fnExactAcceptsUptoCard

/-- THE SECOND FORM's CARD OF 'laws.FnExactValid'. -/
def fnExactValidUptoCard : Claim7 := { stood := { row := fnExactValidUptoRow, standIns := [], harness := (true, "f4647d42276add5e792f673769bd3597c385cb392d19d29c8363a077af0c64fa"), looks := true }, kinds := [], alts := [], laidByText := true, laidKinds := [.sentinel, .sentinel, .sentinel, .sentinel, .sentinel, .sentinel, .sentinel, .sentinel, .sentinel, .sentinel], laidTests := true, laidLooks := .later }
def FnExactValidUptoCardSaid : Prop := Claim7.holds Tryd.pinned (.plain (OpenSpec.upto fnExactValidSpec)) fnExactValidUptoCard

/-- THE SECOND FORM's CARD OF 'laws.FnExactHighest'. -/
def fnExactHighestUptoCard : Claim7 := { stood := { row := fnExactHighestUptoRow, standIns := [], harness := (true, "f4647d42276add5e792f673769bd3597c385cb392d19d29c8363a077af0c64fa"), looks := true }, kinds := [], alts := [], laidByText := true, laidKinds := [.handle, .sentinel, .sentinel, .sentinel, .sentinel, .sentinel, .sentinel, .sentinel, .sentinel, .sentinel, .sentinel], laidTests := true, laidLooks := .later }
def FnExactHighestUptoCardSaid : Prop := Claim7.holds Tryd.pinned (.plain (OpenSpec.upto fnExactHighestSpec)) fnExactHighestUptoCard
end Rows
end Go.Proofs.YtbccjcijcdehkaaDoor
