/-
  DERIVED. GIVEN WITH THE SEED: THE CARDS: each row of YtoilipfipmoljaaDoorRows.lean that lists a variable, with what it lists TIED to the program's text (the seventh form; the later family's looks); each row that meets fmt, with fmt's text TOLD by the authors' own Lean function (tested against real Go, not proved from fmt's source: count such statements apart). THE CARD IS WHAT COUNTS. Prove the row's statement (the work); the ties are given (YtoilipfipmoljaaDoorTie.lean); close each card by the builder's one call (the guide's Derived/Test/ToyasCard.lean, 'card_holds'). Laid BY PROGRAM, IN A SANDBOX (cutbox-door.mjs). By AI agents, Wed Nov 11 2026. No macro, syntax, notation, axiom, sorry.
-/
import Derived.Test.YtoilipfipmoljaaDoorRows
import GoSem.ClaimSeven
namespace Go.Proofs.YtoilipfipmoljaaDoor
namespace Rows

/-- THE TIED CARD OF 'laws.FnExactObjOk'. -/
def fnExactObjOkCard : Claim7 := { stood := { row := fnExactObjOkRow, standIns := [], harness := (true, "d947b881a93975624079d8befcbae0c6056d3c2a1eb3c33bf1169791102e3b98"), looks := true }, kinds := [], alts := [], laidByText := true, laidKinds := [.data, .data], laidTests := true, laidLooks := .later }
def FnExactObjOkCardSaid : Prop := Claim7.holds Tryd.pinned (.plain (OpenSpec.ofChange fnExactObjOkSpec)) fnExactObjOkCard

/-- THE SECOND FORM's CARD OF 'laws.FnExactObjOk'. -/
def fnExactObjOkUptoCard : Claim7 := { stood := { row := fnExactObjOkUptoRow, standIns := [], harness := (true, "d947b881a93975624079d8befcbae0c6056d3c2a1eb3c33bf1169791102e3b98"), looks := true }, kinds := [], alts := [], laidByText := true, laidKinds := [.data, .data], laidTests := true, laidLooks := .later }
def FnExactObjOkUptoCardSaid : Prop := Claim7.holds Tryd.pinned (.plain (OpenSpec.upto fnExactObjOkSpec)) fnExactObjOkUptoCard
end Rows
end Go.Proofs.YtoilipfipmoljaaDoor
