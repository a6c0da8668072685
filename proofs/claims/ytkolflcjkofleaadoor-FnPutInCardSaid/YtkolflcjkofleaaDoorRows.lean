/-
  NARROWER THAN 'FOR EVERY INPUT', by the rows' own cells (each row's printed sentence says how): FnFolds: laid · FnKnown: laid · FnPutIn: laid · FnExactFold: loops, laid · FnExactKnown: loops, laid · FnExactPut: loops, laid · FnExactWorth: loops, laid.
  DERIVED. THE GIVEN ROWS OF THIS SEAT. 7 by the template 'for every input the law returns true; each argument reads behind the call as it read before'; 0 by the template 'total and deterministic' (their statements: YtkolflcjkofleaaDoorTotals.lean).
  GIVEN WITH THE SEED: the statements are not yours to turn. If you find one false, say at which input.
  Laid BY PROGRAM, IN A SANDBOX (cutbox-rows.mjs): the forced cells as the released guide's own fill.sh prints them over the translation 3649efe6f0d0219c… (all of the seat's roots in one cut). By AI agents, Wed Nov 11 2026. No macro, syntax, notation, axiom, sorry.
-/
import Derived.Test.YtkolflcjkofleaaDoorChecked
import GoSem.Claim
import GoSem.ClaimJoined
import GoSem.ClaimMapViews
import Derived.JoinedTies
import Derived.KernelRfl
namespace Go.Proofs.YtkolflcjkofleaaDoor
/- THE CELL 'sum', in the pinned program and in every row, IS THE sha256 OF THE DUMP (.gsa) THAT YtkolflcjkofleaaDoorProg.lean LOADS. Nothing in Lean hashes anything: it is a label: what it is worth is what the hold of that sum in a sandbox is worth. -/
noncomputable def Tryd.pinned : Pinned := { name := "ytkolflcjkofleaadoor", sum := "3649efe6f0d0219c916c7608a3c3bcd00a5dcae45de8407e9a30389bf2ccb17c", checked := Tryd.checked }
namespace Rows
def none {H : Type} : Left H := { results := [], args := [] }

/- WHAT THE LISTED PACKAGE-LEVEL VARIABLES READ AS WHEN THE CALL BEGINS. Each datum BY PROGRAM (the guide's laid-datum.mjs) off the statement by which the dump's own 'gosem.cut.vars' lays the variable. In a bare row this is a premise. The card (YtkolflcjkofleaaDoorCards.lean) ties it to the program's text. -/
def laid_loop_example_g00329_impl_opWords {H : Type} : DataW H := .agg [.lit (.string []), .lit (.string [109, 111, 118]), .lit (.string [99, 109, 112]), .lit (.string [98, 105, 99]), .lit (.string [98, 105, 115]), .lit (.string [97, 100, 100]), .lit (.string [115, 117, 98]), .lit (.string [99, 108, 114]), .lit (.string [105, 110, 99]), .lit (.string [100, 101, 99]), .lit (.string [110, 101, 103]), .lit (.string [116, 115, 116]), .lit (.string [97, 115, 114]), .lit (.string [97, 115, 108]), .lit (.string [106, 109, 112]), .lit (.string [106, 115, 114]), .lit (.string [114, 116, 115]), .lit (.string [98, 114]), .lit (.string [98, 110, 101]), .lit (.string [98, 101, 113]), .lit (.string [98, 103, 101]), .lit (.string [98, 108, 116]), .lit (.string [104, 97, 108, 116]), .lit (.string [101, 109, 116])]
def laid_loop_example_g00329_impl_regWords {H : Type} : DataW H := .agg [.lit (.string [114, 48]), .lit (.string [114, 49]), .lit (.string [114, 50]), .lit (.string [114, 51]), .lit (.string [114, 52]), .lit (.string [114, 53]), .lit (.string [115, 112]), .lit (.string [112, 99])]

/-- 'laws.FnFolds': WHATEVER THE INPUT: true; the input reads as it did. -/
def fnFoldsSpec : ChangeSpec := { name := "fnFolds", vars := ["loop.example/g00329/impl.opWords", "loop.example/g00329/impl.regWords"], fn := fun _ => fun
  | [d, g1, g2] => { results := [.lit (.bool true)], args := [d], vars := [g1, g2] }
  | _ => none }
def fnFoldsRow : OpenClaim := { program := "ytkolflcjkofleaadoor", sum := "3649efe6f0d0219c916c7608a3c3bcd00a5dcae45de8407e9a30389bf2ccb17c", func := "loop.example/g00329/laws.FnFolds", spec := "fnFolds", unfollowed := true, recurses := true, named := ["loop.example/g00329/impl.opWords", "loop.example/g00329/impl.regWords"], plainKeys := false, apart := false, laid := [("loop.example/g00329/impl.opWords", laid_loop_example_g00329_impl_opWords), ("loop.example/g00329/impl.regWords", laid_loop_example_g00329_impl_regWords)] }
def FnFoldsSaid : Prop := fnFoldsRow.holds Tryd.pinned (OpenSpec.ofChange fnFoldsSpec)

/-- ITS FALSE NEIGHBOUR: 'it returns false'. Refute it at one input. -/
def fnFoldsWrong : ChangeSpec := { name := "fnFolds", vars := ["loop.example/g00329/impl.opWords", "loop.example/g00329/impl.regWords"], fn := fun _ => fun
  | [d, g1, g2] => { results := [.lit (.bool false)], args := [d], vars := [g1, g2] }
  | _ => none }
def FnFoldsWrongFalsely : Prop := fnFoldsRow.holds Tryd.pinned (OpenSpec.ofChange fnFoldsWrong)

/-- 'laws.FnKnown': WHATEVER THE INPUT: true; the input reads as it did. -/
def fnKnownSpec : ChangeSpec := { name := "fnKnown", vars := ["loop.example/g00329/impl.opWords", "loop.example/g00329/impl.regWords"], fn := fun _ => fun
  | [d, g1, g2] => { results := [.lit (.bool true)], args := [d], vars := [g1, g2] }
  | _ => none }
def fnKnownRow : OpenClaim := { program := "ytkolflcjkofleaadoor", sum := "3649efe6f0d0219c916c7608a3c3bcd00a5dcae45de8407e9a30389bf2ccb17c", func := "loop.example/g00329/laws.FnKnown", spec := "fnKnown", unfollowed := true, recurses := true, named := ["loop.example/g00329/impl.opWords", "loop.example/g00329/impl.regWords"], plainKeys := false, apart := false, laid := [("loop.example/g00329/impl.opWords", laid_loop_example_g00329_impl_opWords), ("loop.example/g00329/impl.regWords", laid_loop_example_g00329_impl_regWords)] }
def FnKnownSaid : Prop := fnKnownRow.holds Tryd.pinned (OpenSpec.ofChange fnKnownSpec)

/-- ITS FALSE NEIGHBOUR: 'it returns false'. Refute it at one input. -/
def fnKnownWrong : ChangeSpec := { name := "fnKnown", vars := ["loop.example/g00329/impl.opWords", "loop.example/g00329/impl.regWords"], fn := fun _ => fun
  | [d, g1, g2] => { results := [.lit (.bool false)], args := [d], vars := [g1, g2] }
  | _ => none }
def FnKnownWrongFalsely : Prop := fnKnownRow.holds Tryd.pinned (OpenSpec.ofChange fnKnownWrong)

/-- 'laws.FnPutIn': WHATEVER THE INPUT: true; the input reads as it did. -/
def fnPutInSpec : ChangeSpec := { name := "fnPutIn", vars := ["loop.example/g00329/impl.opWords", "loop.example/g00329/impl.regWords"], fn := fun _ => fun
  | [d, g1, g2] => { results := [.lit (.bool true)], args := [d], vars := [g1, g2] }
  | _ => none }
def fnPutInRow : OpenClaim := { program := "ytkolflcjkofleaadoor", sum := "3649efe6f0d0219c916c7608a3c3bcd00a5dcae45de8407e9a30389bf2ccb17c", func := "loop.example/g00329/laws.FnPutIn", spec := "fnPutIn", unfollowed := true, recurses := true, named := ["loop.example/g00329/impl.opWords", "loop.example/g00329/impl.regWords"], plainKeys := false, apart := false, laid := [("loop.example/g00329/impl.opWords", laid_loop_example_g00329_impl_opWords), ("loop.example/g00329/impl.regWords", laid_loop_example_g00329_impl_regWords)] }
def FnPutInSaid : Prop := fnPutInRow.holds Tryd.pinned (OpenSpec.ofChange fnPutInSpec)

/-- ITS FALSE NEIGHBOUR: 'it returns false'. Refute it at one input. -/
def fnPutInWrong : ChangeSpec := { name := "fnPutIn", vars := ["loop.example/g00329/impl.opWords", "loop.example/g00329/impl.regWords"], fn := fun _ => fun
  | [d, g1, g2] => { results := [.lit (.bool false)], args := [d], vars := [g1, g2] }
  | _ => none }
def FnPutInWrongFalsely : Prop := fnPutInRow.holds Tryd.pinned (OpenSpec.ofChange fnPutInWrong)

/-- 'laws.FnExactFold': WHATEVER THE INPUT: true; the input reads as it did. -/
def fnExactFoldSpec : ChangeSpec := { name := "fnExactFold", vars := ["loop.example/g00329/impl.opWords", "loop.example/g00329/impl.regWords"], fn := fun _ => fun
  | [d, g1, g2] => { results := [.lit (.bool true)], args := [d], vars := [g1, g2] }
  | _ => none }
def fnExactFoldRow : OpenClaim := { program := "ytkolflcjkofleaadoor", sum := "3649efe6f0d0219c916c7608a3c3bcd00a5dcae45de8407e9a30389bf2ccb17c", func := "loop.example/g00329/laws.FnExactFold", spec := "fnExactFold", unfollowed := true, recurses := true, named := ["loop.example/g00329/impl.opWords", "loop.example/g00329/impl.regWords"], loops := true, plainKeys := false, apart := false, laid := [("loop.example/g00329/impl.opWords", laid_loop_example_g00329_impl_opWords), ("loop.example/g00329/impl.regWords", laid_loop_example_g00329_impl_regWords)] }
def FnExactFoldSaid : Prop := fnExactFoldRow.holds Tryd.pinned (OpenSpec.ofChange fnExactFoldSpec)

/-- ITS FALSE NEIGHBOUR: 'it returns false'. Refute it at one input. -/
def fnExactFoldWrong : ChangeSpec := { name := "fnExactFold", vars := ["loop.example/g00329/impl.opWords", "loop.example/g00329/impl.regWords"], fn := fun _ => fun
  | [d, g1, g2] => { results := [.lit (.bool false)], args := [d], vars := [g1, g2] }
  | _ => none }
def FnExactFoldWrongFalsely : Prop := fnExactFoldRow.holds Tryd.pinned (OpenSpec.ofChange fnExactFoldWrong)

/-- 'laws.FnExactKnown': WHATEVER THE INPUT: true; the input reads as it did. -/
def fnExactKnownSpec : ChangeSpec := { name := "fnExactKnown", vars := ["loop.example/g00329/impl.opWords", "loop.example/g00329/impl.regWords"], fn := fun _ => fun
  | [d, g1, g2] => { results := [.lit (.bool true)], args := [d], vars := [g1, g2] }
  | _ => none }
def fnExactKnownRow : OpenClaim := { program := "ytkolflcjkofleaadoor", sum := "3649efe6f0d0219c916c7608a3c3bcd00a5dcae45de8407e9a30389bf2ccb17c", func := "loop.example/g00329/laws.FnExactKnown", spec := "fnExactKnown", unfollowed := true, recurses := true, named := ["loop.example/g00329/impl.opWords", "loop.example/g00329/impl.regWords"], loops := true, plainKeys := false, apart := false, laid := [("loop.example/g00329/impl.opWords", laid_loop_example_g00329_impl_opWords), ("loop.example/g00329/impl.regWords", laid_loop_example_g00329_impl_regWords)] }
def FnExactKnownSaid : Prop := fnExactKnownRow.holds Tryd.pinned (OpenSpec.ofChange fnExactKnownSpec)

/-- ITS FALSE NEIGHBOUR: 'it returns false'. Refute it at one input. -/
def fnExactKnownWrong : ChangeSpec := { name := "fnExactKnown", vars := ["loop.example/g00329/impl.opWords", "loop.example/g00329/impl.regWords"], fn := fun _ => fun
  | [d, g1, g2] => { results := [.lit (.bool false)], args := [d], vars := [g1, g2] }
  | _ => none }
def FnExactKnownWrongFalsely : Prop := fnExactKnownRow.holds Tryd.pinned (OpenSpec.ofChange fnExactKnownWrong)

/-- 'laws.FnExactPut': WHATEVER THE INPUT: true; the input reads as it did. -/
def fnExactPutSpec : ChangeSpec := { name := "fnExactPut", vars := ["loop.example/g00329/impl.opWords", "loop.example/g00329/impl.regWords"], fn := fun _ => fun
  | [d1, d2, d3, d4, g1, g2] => { results := [.lit (.bool true)], args := [d1, d2, d3, d4], vars := [g1, g2] }
  | _ => none }
def fnExactPutRow : OpenClaim := { program := "ytkolflcjkofleaadoor", sum := "3649efe6f0d0219c916c7608a3c3bcd00a5dcae45de8407e9a30389bf2ccb17c", func := "loop.example/g00329/laws.FnExactPut", spec := "fnExactPut", unfollowed := true, recurses := true, named := ["loop.example/g00329/impl.opWords", "loop.example/g00329/impl.regWords"], loops := true, plainKeys := false, apart := false, laid := [("loop.example/g00329/impl.opWords", laid_loop_example_g00329_impl_opWords), ("loop.example/g00329/impl.regWords", laid_loop_example_g00329_impl_regWords)] }
def FnExactPutSaid : Prop := fnExactPutRow.holds Tryd.pinned (OpenSpec.ofChange fnExactPutSpec)

/-- ITS FALSE NEIGHBOUR: 'it returns false'. Refute it at one input. -/
def fnExactPutWrong : ChangeSpec := { name := "fnExactPut", vars := ["loop.example/g00329/impl.opWords", "loop.example/g00329/impl.regWords"], fn := fun _ => fun
  | [d1, d2, d3, d4, g1, g2] => { results := [.lit (.bool false)], args := [d1, d2, d3, d4], vars := [g1, g2] }
  | _ => none }
def FnExactPutWrongFalsely : Prop := fnExactPutRow.holds Tryd.pinned (OpenSpec.ofChange fnExactPutWrong)

/-- 'laws.FnExactWorth': WHATEVER THE INPUT: true; the input reads as it did. -/
def fnExactWorthSpec : ChangeSpec := { name := "fnExactWorth", vars := ["loop.example/g00329/impl.opWords", "loop.example/g00329/impl.regWords"], fn := fun _ => fun
  | [d1, d2, d3, d4, g1, g2] => { results := [.lit (.bool true)], args := [d1, d2, d3, d4], vars := [g1, g2] }
  | _ => none }
def fnExactWorthRow : OpenClaim := { program := "ytkolflcjkofleaadoor", sum := "3649efe6f0d0219c916c7608a3c3bcd00a5dcae45de8407e9a30389bf2ccb17c", func := "loop.example/g00329/laws.FnExactWorth", spec := "fnExactWorth", unfollowed := true, recurses := true, named := ["loop.example/g00329/impl.opWords", "loop.example/g00329/impl.regWords"], loops := true, plainKeys := false, apart := false, laid := [("loop.example/g00329/impl.opWords", laid_loop_example_g00329_impl_opWords), ("loop.example/g00329/impl.regWords", laid_loop_example_g00329_impl_regWords)] }
def FnExactWorthSaid : Prop := fnExactWorthRow.holds Tryd.pinned (OpenSpec.ofChange fnExactWorthSpec)

/-- ITS FALSE NEIGHBOUR: 'it returns false'. Refute it at one input. -/
def fnExactWorthWrong : ChangeSpec := { name := "fnExactWorth", vars := ["loop.example/g00329/impl.opWords", "loop.example/g00329/impl.regWords"], fn := fun _ => fun
  | [d1, d2, d3, d4, g1, g2] => { results := [.lit (.bool false)], args := [d1, d2, d3, d4], vars := [g1, g2] }
  | _ => none }
def FnExactWorthWrongFalsely : Prop := fnExactWorthRow.holds Tryd.pinned (OpenSpec.ofChange fnExactWorthWrong)

/- THE SECOND FORM. 'bulk': how many values and letters a reading holds, each counted each time it is reached (what is shared counts as often as it is met; a slice's spare places count too). A statement '..UptoSaid' is the law's where the arguments, and the package variables that the reading takes, are together of bulk at most 1048576: NARROWER than '..Said'. Prove '..Said' where nothing that the law and all that it calls make is longer than what came in: it says more and counts as full. Else prove '..UptoSaid'. A law counts once. -/
mutual
def uptoBulk {H : Type} : DataW H → Nat
  | .lit (.string bytes) => bytes.length + 1
  | .lit _ => 1
  | .nil => 1
  | .ptr d => uptoBulk d + 1
  | .slice elems spare => uptoBulkAll elems + uptoBulkAll spare + 1
  | .agg parts => uptoBulkAll parts + 1
  | .iface _ d => uptoBulk d + 1
  | .map entries => uptoBulkEntries entries + 1
  | .held _ => 1
def uptoBulkAll {H : Type} : List (DataW H) → Nat
  | [] => 0
  | d :: r => uptoBulk d + uptoBulkAll r
def uptoBulkEntries {H : Type} : List (Lit × DataW H) → Nat
  | [] => 0
  | x :: r => uptoBulkEntry x + uptoBulkEntries r
def uptoBulkEntry {H : Type} : Lit × DataW H → Nat
  | (.string bytes, d) => bytes.length + uptoBulk d + 1
  | (_, d) => uptoBulk d + 1
 end
def uptoSmall : (H : Type) → List (DataW H) → Bool := fun _ ds => decide (uptoBulkAll ds ≤ 1048576)
def OpenSpec.upto (s : _root_.Go.ChangeSpec) : _root_.Go.OpenSpec := { _root_.Go.OpenSpec.ofChange s with cond := some uptoSmall }

/-- 'laws.FnFolds', WHERE WHAT IT READS IS OF BULK AT MOST 1048576: true; the input reads as it did. -/
def fnFoldsUptoRow : OpenClaim := { program := "ytkolflcjkofleaadoor", sum := "3649efe6f0d0219c916c7608a3c3bcd00a5dcae45de8407e9a30389bf2ccb17c", func := "loop.example/g00329/laws.FnFolds", spec := "fnFolds", unfollowed := true, recurses := true, named := ["loop.example/g00329/impl.opWords", "loop.example/g00329/impl.regWords"], plainKeys := false, apart := false, laid := [("loop.example/g00329/impl.opWords", laid_loop_example_g00329_impl_opWords), ("loop.example/g00329/impl.regWords", laid_loop_example_g00329_impl_regWords)], narrowed := true }
def FnFoldsUptoSaid : Prop := fnFoldsUptoRow.holds Tryd.pinned (OpenSpec.upto fnFoldsSpec)

/-- 'laws.FnKnown', WHERE WHAT IT READS IS OF BULK AT MOST 1048576: true; the input reads as it did. -/
def fnKnownUptoRow : OpenClaim := { program := "ytkolflcjkofleaadoor", sum := "3649efe6f0d0219c916c7608a3c3bcd00a5dcae45de8407e9a30389bf2ccb17c", func := "loop.example/g00329/laws.FnKnown", spec := "fnKnown", unfollowed := true, recurses := true, named := ["loop.example/g00329/impl.opWords", "loop.example/g00329/impl.regWords"], plainKeys := false, apart := false, laid := [("loop.example/g00329/impl.opWords", laid_loop_example_g00329_impl_opWords), ("loop.example/g00329/impl.regWords", laid_loop_example_g00329_impl_regWords)], narrowed := true }
def FnKnownUptoSaid : Prop := fnKnownUptoRow.holds Tryd.pinned (OpenSpec.upto fnKnownSpec)

/-- 'laws.FnPutIn', WHERE WHAT IT READS IS OF BULK AT MOST 1048576: true; the input reads as it did. -/
def fnPutInUptoRow : OpenClaim := { program := "ytkolflcjkofleaadoor", sum := "3649efe6f0d0219c916c7608a3c3bcd00a5dcae45de8407e9a30389bf2ccb17c", func := "loop.example/g00329/laws.FnPutIn", spec := "fnPutIn", unfollowed := true, recurses := true, named := ["loop.example/g00329/impl.opWords", "loop.example/g00329/impl.regWords"], plainKeys := false, apart := false, laid := [("loop.example/g00329/impl.opWords", laid_loop_example_g00329_impl_opWords), ("loop.example/g00329/impl.regWords", laid_loop_example_g00329_impl_regWords)], narrowed := true }
def FnPutInUptoSaid : Prop := fnPutInUptoRow.holds Tryd.pinned (OpenSpec.upto fnPutInSpec)

/-- 'laws.FnExactFold', WHERE WHAT IT READS IS OF BULK AT MOST 1048576: true; the input reads as it did. -/
def fnExactFoldUptoRow : OpenClaim := { program := "ytkolflcjkofleaadoor", sum := "3649efe6f0d0219c916c7608a3c3bcd00a5dcae45de8407e9a30389bf2ccb17c", func := "loop.example/g00329/laws.FnExactFold", spec := "fnExactFold", unfollowed := true, recurses := true, named := ["loop.example/g00329/impl.opWords", "loop.example/g00329/impl.regWords"], loops := true, plainKeys := false, apart := false, laid := [("loop.example/g00329/impl.opWords", laid_loop_example_g00329_impl_opWords), ("loop.example/g00329/impl.regWords", laid_loop_example_g00329_impl_regWords)], narrowed := true }
def FnExactFoldUptoSaid : Prop := fnExactFoldUptoRow.holds Tryd.pinned (OpenSpec.upto fnExactFoldSpec)

/-- 'laws.FnExactKnown', WHERE WHAT IT READS IS OF BULK AT MOST 1048576: true; the input reads as it did. -/
def fnExactKnownUptoRow : OpenClaim := { program := "ytkolflcjkofleaadoor", sum := "3649efe6f0d0219c916c7608a3c3bcd00a5dcae45de8407e9a30389bf2ccb17c", func := "loop.example/g00329/laws.FnExactKnown", spec := "fnExactKnown", unfollowed := true, recurses := true, named := ["loop.example/g00329/impl.opWords", "loop.example/g00329/impl.regWords"], loops := true, plainKeys := false, apart := false, laid := [("loop.example/g00329/impl.opWords", laid_loop_example_g00329_impl_opWords), ("loop.example/g00329/impl.regWords", laid_loop_example_g00329_impl_regWords)], narrowed := true }
def FnExactKnownUptoSaid : Prop := fnExactKnownUptoRow.holds Tryd.pinned (OpenSpec.upto fnExactKnownSpec)

/-- 'laws.FnExactPut', WHERE WHAT IT READS IS OF BULK AT MOST 1048576: true; the input reads as it did. -/
def fnExactPutUptoRow : OpenClaim := { program := "ytkolflcjkofleaadoor", sum := "3649efe6f0d0219c916c7608a3c3bcd00a5dcae45de8407e9a30389bf2ccb17c", func := "loop.example/g00329/laws.FnExactPut", spec := "fnExactPut", unfollowed := true, recurses := true, named := ["loop.example/g00329/impl.opWords", "loop.example/g00329/impl.regWords"], loops := true, plainKeys := false, apart := false, laid := [("loop.example/g00329/impl.opWords", laid_loop_example_g00329_impl_opWords), ("loop.example/g00329/impl.regWords", laid_loop_example_g00329_impl_regWords)], narrowed := true }
def FnExactPutUptoSaid : Prop := fnExactPutUptoRow.holds Tryd.pinned (OpenSpec.upto fnExactPutSpec)

/-- 'laws.FnExactWorth', WHERE WHAT IT READS IS OF BULK AT MOST 1048576: true; the input reads as it did. -/
def fnExactWorthUptoRow : OpenClaim := { program := "ytkolflcjkofleaadoor", sum := "3649efe6f0d0219c916c7608a3c3bcd00a5dcae45de8407e9a30389bf2ccb17c", func := "loop.example/g00329/laws.FnExactWorth", spec := "fnExactWorth", unfollowed := true, recurses := true, named := ["loop.example/g00329/impl.opWords", "loop.example/g00329/impl.regWords"], loops := true, plainKeys := false, apart := false, laid := [("loop.example/g00329/impl.opWords", laid_loop_example_g00329_impl_opWords), ("loop.example/g00329/impl.regWords", laid_loop_example_g00329_impl_regWords)], narrowed := true }
def FnExactWorthUptoSaid : Prop := fnExactWorthUptoRow.holds Tryd.pinned (OpenSpec.upto fnExactWorthSpec)

end Rows
end Go.Proofs.YtkolflcjkofleaaDoor
