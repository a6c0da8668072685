/-
  DERIVED. GIVEN WITH THE SEED: THE CARDS: each row of YtcnlimpebnhikaaDoorRows.lean that lists a variable, with what it lists TIED to the program's text (the seventh form; the later family's looks); each row that meets fmt, with fmt's text TOLD by the authors' own Lean function (tested against real Go, not proved from fmt's source: count such statements apart). THE CARD IS WHAT COUNTS. Prove the row's statement (the work); the ties are given (YtcnlimpebnhikaaDoorTie.lean); close each card by the builder's one call (the guide's Derived/Test/ToyasCard.lean, 'card_holds'). Laid BY PROGRAM, IN A SANDBOX (cutbox-door.mjs). By AI agents, Wed Nov 11 2026. No macro, syntax, notation, axiom, sorry.
-/
import Derived.Test.YtcnlimpebnhikaaDoorRows
import GoSem.ClaimSeven
namespace Go.Proofs.YtcnlimpebnhikaaDoor
namespace Rows

/-- THE TIED CARD OF 'laws.FnRads'. -/
def fnRadsCard : Claim7 := { stood := { row := fnRadsRow, standIns := [], harness := (true, "682a5e5cee0859f6dce181ae87ce3a557b2fd7ef918328178c24949b6e21e2b4"), looks := false }, kinds := [], alts := [], laidByText := true, laidKinds := [.data, .pinned], laidTests := true, laidLooks := .later }
def FnRadsCardSaid : Prop := Claim7.holds Tryd.pinned (.plain (OpenSpec.ofChange fnRadsSpec)) fnRadsCard

/-- THE TIED CARD OF 'laws.FnExactGetRad'. -/
def fnExactGetRadCard : Claim7 := { stood := { row := fnExactGetRadRow, standIns := [], harness := (true, "682a5e5cee0859f6dce181ae87ce3a557b2fd7ef918328178c24949b6e21e2b4"), looks := false }, kinds := [], alts := [], laidByText := true, laidKinds := [.data, .pinned], laidTests := true, laidLooks := .later }
def FnExactGetRadCardSaid : Prop := Claim7.holds Tryd.pinned (.plain (OpenSpec.ofChange fnExactGetRadSpec)) fnExactGetRadCard

/-- THE SECOND FORM's CARD OF 'laws.FnRads'. -/
def fnRadsUptoCard : Claim7 := { stood := { row := fnRadsUptoRow, standIns := [], harness := (true, "682a5e5cee0859f6dce181ae87ce3a557b2fd7ef918328178c24949b6e21e2b4"), looks := false }, kinds := [], alts := [], laidByText := true, laidKinds := [.data, .pinned], laidTests := true, laidLooks := .later }
def FnRadsUptoCardSaid : Prop := Claim7.holds Tryd.pinned (.plain (OpenSpec.upto fnRadsSpec)) fnRadsUptoCard

/-- THE SECOND FORM's CARD OF 'laws.FnExactGetRad'. -/
def fnExactGetRadUptoCard : Claim7 := { stood := { row := fnExactGetRadUptoRow, standIns := [], harness := (true, "682a5e5cee0859f6dce181ae87ce3a557b2fd7ef918328178c24949b6e21e2b4"), looks := false }, kinds := [], alts := [], laidByText := true, laidKinds := [.data, .pinned], laidTests := true, laidLooks := .later }
def FnExactGetRadUptoCardSaid : Prop := Claim7.holds Tryd.pinned (.plain (OpenSpec.upto fnExactGetRadSpec)) fnExactGetRadUptoCard
end Rows
end Go.Proofs.YtcnlimpebnhikaaDoor
