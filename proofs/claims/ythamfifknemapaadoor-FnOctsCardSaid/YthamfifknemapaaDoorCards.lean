/-
  DERIVED. GIVEN WITH THE SEED: THE CARDS: each row of YthamfifknemapaaDoorRows.lean that lists a variable, with what it lists TIED to the program's text (the seventh form; the later family's looks); each row that meets fmt, with fmt's text TOLD by the authors' own Lean function (tested against real Go, not proved from fmt's source: count such statements apart). THE CARD IS WHAT COUNTS. Prove the row's statement (the work); the ties are given (YthamfifknemapaaDoorTie.lean); close each card by the builder's one call (the guide's Derived/Test/ToyasCard.lean, 'card_holds'). Laid BY PROGRAM, IN A SANDBOX (cutbox-door.mjs). By AI agents, Wed Nov 11 2026. No macro, syntax, notation, axiom, sorry.
-/
import Derived.Test.YthamfifknemapaaDoorRows
import GoSem.ClaimSeven
namespace Go.Proofs.YthamfifknemapaaDoor
namespace Rows

/-- THE TIED CARD OF 'laws.FnOcts'. -/
def fnOctsCard : Claim7 := { stood := { row := fnOctsRow, standIns := [], harness := (true, "a04569f80a6bcf4d81090d0ddb232293cc033a996a3a2824557dd672eb07090f"), looks := true }, kinds := [], alts := [], laidByText := true, laidKinds := [.data, .data, .data, .sentinel, .sentinel], laidTests := true, laidLooks := .later }
def FnOctsCardSaid : Prop := Claim7.holds Tryd.pinned (.plain (OpenSpec.ofChange fnOctsSpec)) fnOctsCard

/-- THE TIED CARD OF 'laws.FnExactOct'. -/
def fnExactOctCard : Claim7 := { stood := { row := fnExactOctRow, standIns := [], harness := (true, "a04569f80a6bcf4d81090d0ddb232293cc033a996a3a2824557dd672eb07090f"), looks := true }, kinds := [], alts := [], laidByText := true, laidKinds := [.data, .data, .data], laidTests := true, laidLooks := .later }
def FnExactOctCardSaid : Prop := Claim7.holds Tryd.pinned (.plain (OpenSpec.ofChange fnExactOctSpec)) fnExactOctCard

/-- THE TIED CARD OF 'laws.FnExactParseOct'. -/
def fnExactParseOctCard : Claim7 := { stood := { row := fnExactParseOctRow, standIns := [], harness := (true, "a04569f80a6bcf4d81090d0ddb232293cc033a996a3a2824557dd672eb07090f"), looks := true }, kinds := [], alts := [], laidByText := true, laidKinds := [.data, .data, .data, .sentinel, .sentinel], laidTests := true, laidLooks := .later }
def FnExactParseOctCardSaid : Prop := Claim7.holds Tryd.pinned (.plain (OpenSpec.ofChange fnExactParseOctSpec)) fnExactParseOctCard

/-- THE SECOND FORM's CARD OF 'laws.FnOcts'. -/
def fnOctsUptoCard : Claim7 := { stood := { row := fnOctsUptoRow, standIns := [], harness := (true, "a04569f80a6bcf4d81090d0ddb232293cc033a996a3a2824557dd672eb07090f"), looks := true }, kinds := [], alts := [], laidByText := true, laidKinds := [.data, .data, .data, .sentinel, .sentinel], laidTests := true, laidLooks := .later }
def FnOctsUptoCardSaid : Prop := Claim7.holds Tryd.pinned (.plain (OpenSpec.upto fnOctsSpec)) fnOctsUptoCard

/-- THE SECOND FORM's CARD OF 'laws.FnExactOct'. -/
def fnExactOctUptoCard : Claim7 := { stood := { row := fnExactOctUptoRow, standIns := [], harness := (true, "a04569f80a6bcf4d81090d0ddb232293cc033a996a3a2824557dd672eb07090f"), looks := true }, kinds := [], alts := [], laidByText := true, laidKinds := [.data, .data, .data], laidTests := true, laidLooks := .later }
def FnExactOctUptoCardSaid : Prop := Claim7.holds Tryd.pinned (.plain (OpenSpec.upto fnExactOctSpec)) fnExactOctUptoCard

/-- THE SECOND FORM's CARD OF 'laws.FnExactParseOct'. -/
def fnExactParseOctUptoCard : Claim7 := { stood := { row := fnExactParseOctUptoRow, standIns := [], harness := (true, "a04569f80a6bcf4d81090d0ddb232293cc033a996a3a2824557dd672eb07090f"), looks := true }, kinds := [], alts := [], laidByText := true, laidKinds := [.data, .data, .data, .sentinel, .sentinel], laidTests := true, laidLooks := .later }
def FnExactParseOctUptoCardSaid : Prop := Claim7.holds Tryd.pinned (.plain (OpenSpec.upto fnExactParseOctSpec)) fnExactParseOctUptoCard
end Rows
end Go.Proofs.YthamfifknemapaaDoor
