/-
  No cell of these rows narrows 'for every input' (looked for: loops, veiled, ifaces, maps, wideKeys, modest, calm, conditions, laid).
  DERIVED. THE GIVEN ROWS OF THIS SEAT. 4 by the template 'for every input the law returns true; each argument reads behind the call as it read before'; 0 by the template 'total and deterministic' (their statements: YtailpommaeedoaaTotals.lean).
  GIVEN WITH THE SEED: the statements are not yours to turn. If you find one false, say at which input.
  Laid BY PROGRAM, IN A SANDBOX (cutbox-rows.mjs): the forced cells as the released guide's own fill.sh prints them over the translation f0763a81db7fd994… (all of the seat's roots in one cut). By AI agents, Wed Nov 11 2026. No macro, syntax, notation, axiom, sorry.
-/
import Derived.Test.YtailpommaeedoaaChecked
import GoSem.Claim
import GoSem.ClaimJoined
import GoSem.ClaimMapViews
import Derived.JoinedTies
import Derived.KernelRfl
namespace Go.Proofs.Ytailpommaeedoaa
/- THE CELL 'sum', in the pinned program and in every row, IS THE sha256 OF THE DUMP (.gsa) THAT YtailpommaeedoaaProg.lean LOADS. Nothing in Lean hashes anything: it is a label: what it is worth is what the hold of that sum in a sandbox is worth. -/
noncomputable def Try.pinned : Pinned := { name := "ytailpommaeedoaa", sum := "f0763a81db7fd994d6707693af61c0f7d9eb5e395b739258c4a2e141183a22db", checked := Try.checked }
namespace Rows
def none {H : Type} : Left H := { results := [], args := [] }

/-- 'laws.FnExactHasX': WHATEVER THE INPUT: true; the input reads as it did. -/
def fnExactHasXSpec : ChangeSpec := { name := "fnExactHasX", fn := fun _ => fun
  | [d] => { results := [.lit (.bool true)], args := [d] }
  | _ => none }
def fnExactHasXRow : OpenClaim := { program := "ytailpommaeedoaa", sum := "f0763a81db7fd994d6707693af61c0f7d9eb5e395b739258c4a2e141183a22db", func := "loop.example/g00329/laws.FnExactHasX", spec := "fnExactHasX", apart := false }
def FnExactHasXSaid : Prop := fnExactHasXRow.holds Try.pinned (OpenSpec.ofChange fnExactHasXSpec)

/-- ITS FALSE NEIGHBOUR: 'it returns false'. Refute it at one input. -/
def fnExactHasXWrong : ChangeSpec := { name := "fnExactHasX", fn := fun _ => fun
  | [d] => { results := [.lit (.bool false)], args := [d] }
  | _ => none }
def FnExactHasXWrongFalsely : Prop := fnExactHasXRow.holds Try.pinned (OpenSpec.ofChange fnExactHasXWrong)

/-- 'laws.FnExactOpdOk': WHATEVER THE INPUT: true; the input reads as it did. -/
def fnExactOpdOkSpec : ChangeSpec := { name := "fnExactOpdOk", fn := fun _ => fun
  | [d] => { results := [.lit (.bool true)], args := [d] }
  | _ => none }
def fnExactOpdOkRow : OpenClaim := { program := "ytailpommaeedoaa", sum := "f0763a81db7fd994d6707693af61c0f7d9eb5e395b739258c4a2e141183a22db", func := "loop.example/g00329/laws.FnExactOpdOk", spec := "fnExactOpdOk", apart := false }
def FnExactOpdOkSaid : Prop := fnExactOpdOkRow.holds Try.pinned (OpenSpec.ofChange fnExactOpdOkSpec)

/-- ITS FALSE NEIGHBOUR: 'it returns false'. Refute it at one input. -/
def fnExactOpdOkWrong : ChangeSpec := { name := "fnExactOpdOk", fn := fun _ => fun
  | [d] => { results := [.lit (.bool false)], args := [d] }
  | _ => none }
def FnExactOpdOkWrongFalsely : Prop := fnExactOpdOkRow.holds Try.pinned (OpenSpec.ofChange fnExactOpdOkWrong)

/-- 'laws.FnExactInsOk': WHATEVER THE INPUT: true; the input reads as it did. -/
def fnExactInsOkSpec : ChangeSpec := { name := "fnExactInsOk", fn := fun _ => fun
  | [d] => { results := [.lit (.bool true)], args := [d] }
  | _ => none }
def fnExactInsOkRow : OpenClaim := { program := "ytailpommaeedoaa", sum := "f0763a81db7fd994d6707693af61c0f7d9eb5e395b739258c4a2e141183a22db", func := "loop.example/g00329/laws.FnExactInsOk", spec := "fnExactInsOk", apart := false }
def FnExactInsOkSaid : Prop := fnExactInsOkRow.holds Try.pinned (OpenSpec.ofChange fnExactInsOkSpec)

/-- ITS FALSE NEIGHBOUR: 'it returns false'. Refute it at one input. -/
def fnExactInsOkWrong : ChangeSpec := { name := "fnExactInsOk", fn := fun _ => fun
  | [d] => { results := [.lit (.bool false)], args := [d] }
  | _ => none }
def FnExactInsOkWrongFalsely : Prop := fnExactInsOkRow.holds Try.pinned (OpenSpec.ofChange fnExactInsOkWrong)

/-- 'laws.FnExactWords': WHATEVER THE INPUT: true; the input reads as it did. -/
def fnExactWordsSpec : ChangeSpec := { name := "fnExactWords", fn := fun _ => fun
  | [d] => { results := [.lit (.bool true)], args := [d] }
  | _ => none }
def fnExactWordsRow : OpenClaim := { program := "ytailpommaeedoaa", sum := "f0763a81db7fd994d6707693af61c0f7d9eb5e395b739258c4a2e141183a22db", func := "loop.example/g00329/laws.FnExactWords", spec := "fnExactWords", apart := false }
def FnExactWordsSaid : Prop := fnExactWordsRow.holds Try.pinned (OpenSpec.ofChange fnExactWordsSpec)

/-- ITS FALSE NEIGHBOUR: 'it returns false'. Refute it at one input. -/
def fnExactWordsWrong : ChangeSpec := { name := "fnExactWords", fn := fun _ => fun
  | [d] => { results := [.lit (.bool false)], args := [d] }
  | _ => none }
def FnExactWordsWrongFalsely : Prop := fnExactWordsRow.holds Try.pinned (OpenSpec.ofChange fnExactWordsWrong)

/- THE SECOND FORM. 'bulk': how many values and letters a reading holds, each counted each time it is reached (what is shared counts as often as it is met; a slice's spare places count too). A statement '..UptoSaid' is the law's where the arguments, and the package variables that the reading takes, are together of bulk at most 1048576: NARROWER than '..Said'. Prove '..Said' where nothing that the law and all that it calls make is longer than what came in: it says more and counts as full. Else prove '..UptoSaid'. A law counts once. -/
mutual
def uptoBulk {H : Type} : DataW H → Nat
  | .lit (.string bytes) => bytes.length + 1
  | .lit _ => 1
  | .nil => 1
  | .ptr d => uptoBulk d + 1
  | .slice elems spare => uptoBulkAll elems + uptoBulkAll spare + 1
  | .agg parts => uptoBulkAll parts + 1
  | .iface _ d => uptoBulk d + 1
  | .map entries => uptoBulkEntries entries + 1
  | .held _ => 1
def uptoBulkAll {H : Type} : List (DataW H) → Nat
  | [] => 0
  | d :: r => uptoBulk d + uptoBulkAll r
def uptoBulkEntries {H : Type} : List (Lit × DataW H) → Nat
  | [] => 0
  | x :: r => uptoBulkEntry x + uptoBulkEntries r
def uptoBulkEntry {H : Type} : Lit × DataW H → Nat
  | (.string bytes, d) => bytes.length + uptoBulk d + 1
  | (_, d) => uptoBulk d + 1
 end
def uptoSmall : (H : Type) → List (DataW H) → Bool := fun _ ds => decide (uptoBulkAll ds ≤ 1048576)
def OpenSpec.upto (s : _root_.Go.ChangeSpec) : _root_.Go.OpenSpec := { _root_.Go.OpenSpec.ofChange s with cond := some uptoSmall }

/-- 'laws.FnExactHasX', WHERE WHAT IT READS IS OF BULK AT MOST 1048576: true; the input reads as it did. -/
def fnExactHasXUptoRow : OpenClaim := { program := "ytailpommaeedoaa", sum := "f0763a81db7fd994d6707693af61c0f7d9eb5e395b739258c4a2e141183a22db", func := "loop.example/g00329/laws.FnExactHasX", spec := "fnExactHasX", apart := false, narrowed := true }
def FnExactHasXUptoSaid : Prop := fnExactHasXUptoRow.holds Try.pinned (OpenSpec.upto fnExactHasXSpec)

/-- 'laws.FnExactOpdOk', WHERE WHAT IT READS IS OF BULK AT MOST 1048576: true; the input reads as it did. -/
def fnExactOpdOkUptoRow : OpenClaim := { program := "ytailpommaeedoaa", sum := "f0763a81db7fd994d6707693af61c0f7d9eb5e395b739258c4a2e141183a22db", func := "loop.example/g00329/laws.FnExactOpdOk", spec := "fnExactOpdOk", apart := false, narrowed := true }
def FnExactOpdOkUptoSaid : Prop := fnExactOpdOkUptoRow.holds Try.pinned (OpenSpec.upto fnExactOpdOkSpec)

/-- 'laws.FnExactInsOk', WHERE WHAT IT READS IS OF BULK AT MOST 1048576: true; the input reads as it did. -/
def fnExactInsOkUptoRow : OpenClaim := { program := "ytailpommaeedoaa", sum := "f0763a81db7fd994d6707693af61c0f7d9eb5e395b739258c4a2e141183a22db", func := "loop.example/g00329/laws.FnExactInsOk", spec := "fnExactInsOk", apart := false, narrowed := true }
def FnExactInsOkUptoSaid : Prop := fnExactInsOkUptoRow.holds Try.pinned (OpenSpec.upto fnExactInsOkSpec)

/-- 'laws.FnExactWords', WHERE WHAT IT READS IS OF BULK AT MOST 1048576: true; the input reads as it did. -/
def fnExactWordsUptoRow : OpenClaim := { program := "ytailpommaeedoaa", sum := "f0763a81db7fd994d6707693af61c0f7d9eb5e395b739258c4a2e141183a22db", func := "loop.example/g00329/laws.FnExactWords", spec := "fnExactWords", apart := false, narrowed := true }
def FnExactWordsUptoSaid : Prop := fnExactWordsUptoRow.holds Try.pinned (OpenSpec.upto fnExactWordsSpec)

end Rows
end Go.Proofs.Ytailpommaeedoaa
