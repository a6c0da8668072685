/- Contracts of chapter 3's model and of the laws' copies of operands and instructions, over this seat's translation; conditions stand as hypotheses of each. -/
import Derived.Test.YtboedaofbchdkaaDoorProg
import GoSem.Claim
import Derived.JoinedTies
import Derived.KernelRfl
import Derived.WalkKit
import Derived.ProofKit
import Derived.OpenShut
import Derived.ShutString
import Derived.ChangeOld
import Derived.Below
import Derived.Deep.OwnRows
import Derived.WalkSpells
import Derived.Deep.DeepMust
import Derived.BigQuiet
import Derived.WalkLawsBesides
namespace Go.Proofs.YtboedaofbchdkaaDoor
open Go.ChangeShapes Go.WideShapes Go.ChangeAt Go.RowKit
set_option linter.unusedVariables false
set_option maxRecDepth 8000

theorem hide {p : Prop} (h : p) : Hid p := h
theorem unhide {p : Prop} (h : Hid p) : p := h

/-- An operand: mode, register, word. -/
structure Od where
  m : Int
  r : Int
  x : Int
/-- An instruction. -/
structure Is where
  op : Int
  s : Od
  d : Od
  n : Int
def Od.v (o : Od) : Value := .agg #[.int .i64 o.m, .int .i64 o.r, .int .i64 o.x]
def Is.v (i : Is) : Value := .agg #[.int .i64 i.op, .int .i64 i.s.m, .int .i64 i.s.r, .int .i64 i.s.x, .int .i64 i.d.m, .int .i64 i.d.r, .int .i64 i.d.x, .int .i64 i.n]
def inB (x a b : Int) : Bool := decide (a ≤ x) && decide (x ≤ b)
def Od.hasX (o : Od) : Bool := (o.m == 6 || o.m == 7) || (o.r == 7 && (o.m == 2 || o.m == 3))
def Od.ok (o : Od) : Bool := ((inB o.m 0 7 && inB o.r 0 7) && inB o.x 0 65535) && (o.hasX || o.x == 0)
def Od.zero (o : Od) : Bool := o.m == 0 && (o.r == 0 && o.x == 0)
def Is.ok (i : Is) : Bool :=
  if inB i.op 1 6 = true then (i.s.ok && i.d.ok) && i.n == 0
  else if inB i.op 7 14 = true then (i.s.zero && i.d.ok) && i.n == 0
  else if i.op == 15 then (i.s.zero && i.d.ok) && inB i.n 0 7
  else if (!i.s.zero || !i.d.zero) = true then false
  else if i.op == 16 then inB i.n 0 7
  else if inB i.op 17 21 = true then inB i.n (-128) 127
  else if i.op == 22 then i.n == 0
  else if i.op == 23 then inB i.n 0 255
  else false
def Is.words (i : Is) : Int := 1 + (if (inB i.op 1 6 && i.s.hasX) = true then 1 else 0) + (if (inB i.op 1 15 && i.d.hasX) = true then 1 else 0)

end Go.Proofs.YtboedaofbchdkaaDoor
