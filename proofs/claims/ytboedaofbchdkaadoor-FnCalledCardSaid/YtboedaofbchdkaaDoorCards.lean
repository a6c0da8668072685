/-
  DERIVED. GIVEN WITH THE SEED: THE CARDS: each row of YtboedaofbchdkaaDoorRows.lean that lists a variable, with what it lists TIED to the program's text (the seventh form; the later family's looks); each row that meets fmt, with fmt's text TOLD by the authors' own Lean function (tested against real Go, not proved from fmt's source: count such statements apart). THE CARD IS WHAT COUNTS. Prove the row's statement (the work); the ties are given (YtboedaofbchdkaaDoorTie.lean); close each card by the builder's one call (the guide's Derived/Test/ToyasCard.lean, 'card_holds'). Laid BY PROGRAM, IN A SANDBOX (cutbox-door.mjs). By AI agents, Wed Nov 11 2026. No macro, syntax, notation, axiom, sorry.
-/
import Derived.Test.YtboedaofbchdkaaDoorRows
import GoSem.ClaimSeven
namespace Go.Proofs.YtboedaofbchdkaaDoor
namespace Rows

/-- THE TIED CARD OF 'laws.FnPushed'. -/
def fnPushedCard : Claim7 := { stood := { row := fnPushedRow, standIns := [], harness := (true, "cb24694a46e7f430e9675e3c6c7b342cc6b1e44bf21c4b1682b7e211e9362f47"), looks := false }, kinds := [], alts := [], laidByText := true, laidKinds := [.data], laidTests := true, laidLooks := .later }
def FnPushedCardSaid : Prop := Claim7.holds Tryd.pinned (.plain (OpenSpec.ofChange fnPushedSpec)) fnPushedCard

/-- THE TIED CARD OF 'laws.FnCalled'. -/
def fnCalledCard : Claim7 := { stood := { row := fnCalledRow, standIns := [], harness := (true, "cb24694a46e7f430e9675e3c6c7b342cc6b1e44bf21c4b1682b7e211e9362f47"), looks := false }, kinds := [], alts := [], laidByText := true, laidKinds := [.data], laidTests := true, laidLooks := .later }
def FnCalledCardSaid : Prop := Claim7.holds Tryd.pinned (.plain (OpenSpec.ofChange fnCalledSpec)) fnCalledCard

/-- THE TIED CARD OF 'laws.FnExactOutcome'. -/
def fnExactOutcomeCard : Claim7 := { stood := { row := fnExactOutcomeRow, standIns := [], harness := (true, "cb24694a46e7f430e9675e3c6c7b342cc6b1e44bf21c4b1682b7e211e9362f47"), looks := false }, kinds := [], alts := [], laidByText := true, laidKinds := [.data, .data, .data], laidTests := true, laidLooks := .later }
def FnExactOutcomeCardSaid : Prop := Claim7.holds Tryd.pinned (.plain (OpenSpec.ofChange fnExactOutcomeSpec)) fnExactOutcomeCard

/-- THE SECOND FORM's CARD OF 'laws.FnPushed'. -/
def fnPushedUptoCard : Claim7 := { stood := { row := fnPushedUptoRow, standIns := [], harness := (true, "cb24694a46e7f430e9675e3c6c7b342cc6b1e44bf21c4b1682b7e211e9362f47"), looks := false }, kinds := [], alts := [], laidByText := true, laidKinds := [.data], laidTests := true, laidLooks := .later }
def FnPushedUptoCardSaid : Prop := Claim7.holds Tryd.pinned (.plain (OpenSpec.upto fnPushedSpec)) fnPushedUptoCard

/-- THE SECOND FORM's CARD OF 'laws.FnCalled'. -/
def fnCalledUptoCard : Claim7 := { stood := { row := fnCalledUptoRow, standIns := [], harness := (true, "cb24694a46e7f430e9675e3c6c7b342cc6b1e44bf21c4b1682b7e211e9362f47"), looks := false }, kinds := [], alts := [], laidByText := true, laidKinds := [.data], laidTests := true, laidLooks := .later }
def FnCalledUptoCardSaid : Prop := Claim7.holds Tryd.pinned (.plain (OpenSpec.upto fnCalledSpec)) fnCalledUptoCard

/-- THE SECOND FORM's CARD OF 'laws.FnExactOutcome'. -/
def fnExactOutcomeUptoCard : Claim7 := { stood := { row := fnExactOutcomeUptoRow, standIns := [], harness := (true, "cb24694a46e7f430e9675e3c6c7b342cc6b1e44bf21c4b1682b7e211e9362f47"), looks := false }, kinds := [], alts := [], laidByText := true, laidKinds := [.data, .data, .data], laidTests := true, laidLooks := .later }
def FnExactOutcomeUptoCardSaid : Prop := Claim7.holds Tryd.pinned (.plain (OpenSpec.upto fnExactOutcomeSpec)) fnExactOutcomeUptoCard
end Rows
end Go.Proofs.YtboedaofbchdkaaDoor
