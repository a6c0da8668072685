/-
  DERIVED. GIVEN WITH THE SEED: THE CARDS: each row of YtmhcbehplhfgfaaDoorRows.lean that lists a variable, with what it lists TIED to the program's text (the seventh form; the later family's looks); each row that meets fmt, with fmt's text TOLD by the authors' own Lean function (tested against real Go, not proved from fmt's source: count such statements apart). THE CARD IS WHAT COUNTS. Prove the row's statement (the work); the ties are given (YtmhcbehplhfgfaaDoorTie.lean); close each card by the builder's one call (the guide's Derived/Test/ToyasCard.lean, 'card_holds'). Laid BY PROGRAM, IN A SANDBOX (cutbox-door.mjs). By AI agents, Wed Nov 11 2026. No macro, syntax, notation, axiom, sorry.
-/
import Derived.Test.YtmhcbehplhfgfaaDoorRows
import GoSem.ClaimSeven
namespace Go.Proofs.YtmhcbehplhfgfaaDoor
namespace Rows

/-- THE TIED CARD OF 'laws.FnExactArgOk'. -/
def fnExactArgOkCard : Claim7 := { stood := { row := fnExactArgOkRow, standIns := [], harness := (true, "e35dfc33ff73ba4065064cb5f9271a4ac2aa7522b2d76e6978dcba337720acd4"), looks := true }, kinds := [], alts := [], laidByText := true, laidKinds := [.data, .data, .data], laidTests := true, laidLooks := .later }
def FnExactArgOkCardSaid : Prop := Claim7.holds Tryd.pinned (.plain (OpenSpec.ofChange fnExactArgOkSpec)) fnExactArgOkCard

/-- THE TIED CARD OF 'laws.FnExactLineOk'. -/
def fnExactLineOkCard : Claim7 := { stood := { row := fnExactLineOkRow, standIns := [], harness := (true, "e35dfc33ff73ba4065064cb5f9271a4ac2aa7522b2d76e6978dcba337720acd4"), looks := true }, kinds := [], alts := [], laidByText := true, laidKinds := [.data, .data, .data], laidTests := true, laidLooks := .later }
def FnExactLineOkCardSaid : Prop := Claim7.holds Tryd.pinned (.plain (OpenSpec.ofChange fnExactLineOkSpec)) fnExactLineOkCard

/-- THE TIED CARD OF 'laws.FnExactArgText'. -/
def fnExactArgTextCard : Claim7 := { stood := { row := fnExactArgTextRow, standIns := [], harness := (true, "e35dfc33ff73ba4065064cb5f9271a4ac2aa7522b2d76e6978dcba337720acd4"), looks := true }, kinds := [], alts := [], laidByText := true, laidKinds := [.data, .data, .data, .data, .data, .data, .data], laidTests := true, laidLooks := .later }
def FnExactArgTextCardSaid : Prop := Claim7.holds Tryd.pinned (.plain (OpenSpec.ofChange fnExactArgTextSpec)) fnExactArgTextCard

/-- THE SECOND FORM's CARD OF 'laws.FnExactArgOk'. -/
def fnExactArgOkUptoCard : Claim7 := { stood := { row := fnExactArgOkUptoRow, standIns := [], harness := (true, "e35dfc33ff73ba4065064cb5f9271a4ac2aa7522b2d76e6978dcba337720acd4"), looks := true }, kinds := [], alts := [], laidByText := true, laidKinds := [.data, .data, .data], laidTests := true, laidLooks := .later }
def FnExactArgOkUptoCardSaid : Prop := Claim7.holds Tryd.pinned (.plain (OpenSpec.upto fnExactArgOkSpec)) fnExactArgOkUptoCard

/-- THE SECOND FORM's CARD OF 'laws.FnExactLineOk'. -/
def fnExactLineOkUptoCard : Claim7 := { stood := { row := fnExactLineOkUptoRow, standIns := [], harness := (true, "e35dfc33ff73ba4065064cb5f9271a4ac2aa7522b2d76e6978dcba337720acd4"), looks := true }, kinds := [], alts := [], laidByText := true, laidKinds := [.data, .data, .data], laidTests := true, laidLooks := .later }
def FnExactLineOkUptoCardSaid : Prop := Claim7.holds Tryd.pinned (.plain (OpenSpec.upto fnExactLineOkSpec)) fnExactLineOkUptoCard

/-- THE SECOND FORM's CARD OF 'laws.FnExactArgText'. -/
def fnExactArgTextUptoCard : Claim7 := { stood := { row := fnExactArgTextUptoRow, standIns := [], harness := (true, "e35dfc33ff73ba4065064cb5f9271a4ac2aa7522b2d76e6978dcba337720acd4"), looks := true }, kinds := [], alts := [], laidByText := true, laidKinds := [.data, .data, .data, .data, .data, .data, .data], laidTests := true, laidLooks := .later }
def FnExactArgTextUptoCardSaid : Prop := Claim7.holds Tryd.pinned (.plain (OpenSpec.upto fnExactArgTextSpec)) fnExactArgTextUptoCard
end Rows
end Go.Proofs.YtmhcbehplhfgfaaDoor
