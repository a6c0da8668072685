/-
  NARROWER THAN 'FOR EVERY INPUT', by the rows' own cells (each row's printed sentence says how): FnExactObjOk: loops, laid.
  DERIVED. THE GIVEN ROWS OF THIS SEAT. 1 by the template 'for every input the law returns true; each argument reads behind the call as it read before'; 0 by the template 'total and deterministic' (their statements: YtoilipfipmoljaaDoorTotals.lean).
  GIVEN WITH THE SEED: the statements are not yours to turn. If you find one false, say at which input.
  Laid BY PROGRAM, IN A SANDBOX (cutbox-rows.mjs): the forced cells as the released guide's own fill.sh prints them over the translation e2fb087e9bc46c52… (all of the seat's roots in one cut). By AI agents, Wed Nov 11 2026. No macro, syntax, notation, axiom, sorry.
-/
import Derived.Test.YtoilipfipmoljaaDoorChecked
import GoSem.Claim
import GoSem.ClaimJoined
import GoSem.ClaimMapViews
import Derived.JoinedTies
import Derived.KernelRfl
namespace Go.Proofs.YtoilipfipmoljaaDoor
/- THE CELL 'sum', in the pinned program and in every row, IS THE sha256 OF THE DUMP (.gsa) THAT YtoilipfipmoljaaDoorProg.lean LOADS. Nothing in Lean hashes anything: it is a label: what it is worth is what the hold of that sum in a sandbox is worth. -/
noncomputable def Tryd.pinned : Pinned := { name := "ytoilipfipmoljaadoor", sum := "e2fb087e9bc46c52d255262b771e86417672583ca7f97fab60ddf76da1ef5f9f", checked := Tryd.checked }
namespace Rows
def none {H : Type} : Left H := { results := [], args := [] }

/- WHAT THE LISTED PACKAGE-LEVEL VARIABLES READ AS WHEN THE CALL BEGINS. Each datum BY PROGRAM (the guide's laid-datum.mjs) off the statement by which the dump's own 'gosem.cut.vars' lays the variable. In a bare row this is a premise. The card (YtoilipfipmoljaaDoorCards.lean) ties it to the program's text. -/
def laid_loop_example_g00329_impl_opWords {H : Type} : DataW H := .agg [.lit (.string []), .lit (.string [109, 111, 118]), .lit (.string [99, 109, 112]), .lit (.string [98, 105, 99]), .lit (.string [98, 105, 115]), .lit (.string [97, 100, 100]), .lit (.string [115, 117, 98]), .lit (.string [99, 108, 114]), .lit (.string [105, 110, 99]), .lit (.string [100, 101, 99]), .lit (.string [110, 101, 103]), .lit (.string [116, 115, 116]), .lit (.string [97, 115, 114]), .lit (.string [97, 115, 108]), .lit (.string [106, 109, 112]), .lit (.string [106, 115, 114]), .lit (.string [114, 116, 115]), .lit (.string [98, 114]), .lit (.string [98, 110, 101]), .lit (.string [98, 101, 113]), .lit (.string [98, 103, 101]), .lit (.string [98, 108, 116]), .lit (.string [104, 97, 108, 116]), .lit (.string [101, 109, 116])]
def laid_loop_example_g00329_impl_regWords {H : Type} : DataW H := .agg [.lit (.string [114, 48]), .lit (.string [114, 49]), .lit (.string [114, 50]), .lit (.string [114, 51]), .lit (.string [114, 52]), .lit (.string [114, 53]), .lit (.string [115, 112]), .lit (.string [112, 99])]

/-- 'laws.FnExactObjOk': WHATEVER THE INPUT: true; the input reads as it did. -/
def fnExactObjOkSpec : ChangeSpec := { name := "fnExactObjOk", vars := ["loop.example/g00329/impl.opWords", "loop.example/g00329/impl.regWords"], fn := fun _ => fun
  | [d, g1, g2] => { results := [.lit (.bool true)], args := [d], vars := [g1, g2] }
  | _ => none }
def fnExactObjOkRow : OpenClaim := { program := "ytoilipfipmoljaadoor", sum := "e2fb087e9bc46c52d255262b771e86417672583ca7f97fab60ddf76da1ef5f9f", func := "loop.example/g00329/laws.FnExactObjOk", spec := "fnExactObjOk", unfollowed := true, recurses := true, named := ["loop.example/g00329/impl.opWords", "loop.example/g00329/impl.regWords"], loops := true, apart := false, laid := [("loop.example/g00329/impl.opWords", laid_loop_example_g00329_impl_opWords), ("loop.example/g00329/impl.regWords", laid_loop_example_g00329_impl_regWords)] }
def FnExactObjOkSaid : Prop := fnExactObjOkRow.holds Tryd.pinned (OpenSpec.ofChange fnExactObjOkSpec)

/-- ITS FALSE NEIGHBOUR: 'it returns false'. Refute it at one input. -/
def fnExactObjOkWrong : ChangeSpec := { name := "fnExactObjOk", vars := ["loop.example/g00329/impl.opWords", "loop.example/g00329/impl.regWords"], fn := fun _ => fun
  | [d, g1, g2] => { results := [.lit (.bool false)], args := [d], vars := [g1, g2] }
  | _ => none }
def FnExactObjOkWrongFalsely : Prop := fnExactObjOkRow.holds Tryd.pinned (OpenSpec.ofChange fnExactObjOkWrong)

/- THE SECOND FORM. 'bulk': how many values and letters a reading holds, each counted each time it is reached (what is shared counts as often as it is met; a slice's spare places count too). A statement '..UptoSaid' is the law's where the arguments, and the package variables that the reading takes, are together of bulk at most 1048576: NARROWER than '..Said'. Prove '..Said' where nothing that the law and all that it calls make is longer than what came in: it says more and counts as full. Else prove '..UptoSaid'. A law counts once. -/
mutual
def uptoBulk {H : Type} : DataW H → Nat
  | .lit (.string bytes) => bytes.length + 1
  | .lit _ => 1
  | .nil => 1
  | .ptr d => uptoBulk d + 1
  | .slice elems spare => uptoBulkAll elems + uptoBulkAll spare + 1
  | .agg parts => uptoBulkAll parts + 1
  | .iface _ d => uptoBulk d + 1
  | .map entries => uptoBulkEntries entries + 1
  | .held _ => 1
def uptoBulkAll {H : Type} : List (DataW H) → Nat
  | [] => 0
  | d :: r => uptoBulk d + uptoBulkAll r
def uptoBulkEntries {H : Type} : List (Lit × DataW H) → Nat
  | [] => 0
  | x :: r => uptoBulkEntry x + uptoBulkEntries r
def uptoBulkEntry {H : Type} : Lit × DataW H → Nat
  | (.string bytes, d) => bytes.length + uptoBulk d + 1
  | (_, d) => uptoBulk d + 1
 end
def uptoSmall : (H : Type) → List (DataW H) → Bool := fun _ ds => decide (uptoBulkAll ds ≤ 1048576)
def OpenSpec.upto (s : _root_.Go.ChangeSpec) : _root_.Go.OpenSpec := { _root_.Go.OpenSpec.ofChange s with cond := some uptoSmall }

/-- 'laws.FnExactObjOk', WHERE WHAT IT READS IS OF BULK AT MOST 1048576: true; the input reads as it did. -/
def fnExactObjOkUptoRow : OpenClaim := { program := "ytoilipfipmoljaadoor", sum := "e2fb087e9bc46c52d255262b771e86417672583ca7f97fab60ddf76da1ef5f9f", func := "loop.example/g00329/laws.FnExactObjOk", spec := "fnExactObjOk", unfollowed := true, recurses := true, named := ["loop.example/g00329/impl.opWords", "loop.example/g00329/impl.regWords"], loops := true, apart := false, laid := [("loop.example/g00329/impl.opWords", laid_loop_example_g00329_impl_opWords), ("loop.example/g00329/impl.regWords", laid_loop_example_g00329_impl_regWords)], narrowed := true }
def FnExactObjOkUptoSaid : Prop := fnExactObjOkUptoRow.holds Tryd.pinned (OpenSpec.upto fnExactObjOkSpec)

end Rows
end Go.Proofs.YtoilipfipmoljaaDoor
