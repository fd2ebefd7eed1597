/-
  DERIVED. GIVEN WITH THE SEED: THE CARDS: each row of YtnagpndclagfaaaDoorRows.lean that lists a variable, with what it lists TIED to the program's text (the seventh form; the later family's looks); each row that meets fmt, with fmt's text TOLD by the authors' own Lean function (tested against real Go, not proved from fmt's source: count such statements apart). THE CARD IS WHAT COUNTS. Prove the row's statement (the work); the ties are given (YtnagpndclagfaaaDoorTie.lean); close each card by the builder's one call (the guide's Derived/Test/ToyasCard.lean, 'card_holds'). Laid BY PROGRAM, IN A SANDBOX (cutbox-door.mjs). By AI agents, Wed Nov 11 2026. No macro, syntax, notation, axiom, sorry.
-/
import Derived.Test.YtnagpndclagfaaaDoorRows
import GoSem.ClaimSeven
namespace Go.Proofs.YtnagpndclagfaaaDoor
namespace Rows

/-- THE TIED CARD OF 'laws.FnExactDigitsOf'. -/
def fnExactDigitsOfCard : Claim7 := { stood := { row := fnExactDigitsOfRow, standIns := [], harness := (true, "cd0e565cbda26caa4b1b2acaf6e0aaae796ed002f8c5adee75908b9bc54c12a8"), looks := true }, kinds := [], alts := [], laidByText := true, laidKinds := [.sentinel, .sentinel], laidTests := true, laidLooks := .later }
def FnExactDigitsOfCardSaid : Prop := Claim7.holds Tryd.pinned (.plain (OpenSpec.ofChange fnExactDigitsOfSpec)) fnExactDigitsOfCard

/-- THE TIED CARD OF 'laws.FnExactCarriesOf'. -/
def fnExactCarriesOfCard : Claim7 := { stood := { row := fnExactCarriesOfRow, standIns := [], harness := (true, "cd0e565cbda26caa4b1b2acaf6e0aaae796ed002f8c5adee75908b9bc54c12a8"), looks := true }, kinds := [], alts := [], laidByText := true, laidKinds := [.sentinel, .sentinel], laidTests := true, laidLooks := .later }
def FnExactCarriesOfCardSaid : Prop := Claim7.holds Tryd.pinned (.plain (OpenSpec.ofChange fnExactCarriesOfSpec)) fnExactCarriesOfCard

/-- THE TIED CARD OF 'laws.FnExactNumberRow'. -/
def fnExactNumberRowCard : Claim7 := { stood := { row := fnExactNumberRowRow, standIns := [], harness := (true, "cd0e565cbda26caa4b1b2acaf6e0aaae796ed002f8c5adee75908b9bc54c12a8"), looks := true }, kinds := [], alts := [], laidByText := true, laidKinds := [.sentinel, .sentinel], laidTests := true, laidLooks := .later }
def FnExactNumberRowCardSaid : Prop := Claim7.holds Tryd.pinned (.plain (OpenSpec.ofChange fnExactNumberRowSpec)) fnExactNumberRowCard

/-- THE SECOND FORM's CARD OF 'laws.FnExactDigitsOf'. -/
def fnExactDigitsOfUptoCard : Claim7 := { stood := { row := fnExactDigitsOfUptoRow, standIns := [], harness := (true, "cd0e565cbda26caa4b1b2acaf6e0aaae796ed002f8c5adee75908b9bc54c12a8"), looks := true }, kinds := [], alts := [], laidByText := true, laidKinds := [.sentinel, .sentinel], laidTests := true, laidLooks := .later }
def FnExactDigitsOfUptoCardSaid : Prop := Claim7.holds Tryd.pinned (.plain (OpenSpec.upto fnExactDigitsOfSpec)) fnExactDigitsOfUptoCard

/-- THE SECOND FORM's CARD OF 'laws.FnExactCarriesOf'. -/
def fnExactCarriesOfUptoCard : Claim7 := { stood := { row := fnExactCarriesOfUptoRow, standIns := [], harness := (true, "cd0e565cbda26caa4b1b2acaf6e0aaae796ed002f8c5adee75908b9bc54c12a8"), looks := true }, kinds := [], alts := [], laidByText := true, laidKinds := [.sentinel, .sentinel], laidTests := true, laidLooks := .later }
def FnExactCarriesOfUptoCardSaid : Prop := Claim7.holds Tryd.pinned (.plain (OpenSpec.upto fnExactCarriesOfSpec)) fnExactCarriesOfUptoCard

/-- THE SECOND FORM's CARD OF 'laws.FnExactNumberRow'. -/
def fnExactNumberRowUptoCard : Claim7 := { stood := { row := fnExactNumberRowUptoRow, standIns := [], harness := (true, "cd0e565cbda26caa4b1b2acaf6e0aaae796ed002f8c5adee75908b9bc54c12a8"), looks := true }, kinds := [], alts := [], laidByText := true, laidKinds := [.sentinel, .sentinel], laidTests := true, laidLooks := .later }
def FnExactNumberRowUptoCardSaid : Prop := Claim7.holds Tryd.pinned (.plain (OpenSpec.upto fnExactNumberRowSpec)) fnExactNumberRowUptoCard
end Rows
end Go.Proofs.YtnagpndclagfaaaDoor
