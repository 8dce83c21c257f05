/- Plain facts of fold: the rules, what becomes of a sign. Nothing of the program's run. -/
import Derived.Test.YtkbfjhdpepbphaaUtfP
namespace Go.Proofs.Ytkbfjhdpepbphaa
set_option linter.unusedVariables false
/-- first, last, pairs, kind, to, then. -/
abbrev Rule := Int × Int × Bool × Int × Int × Int
def rules : List Rule :=
  [(173, 173, false, 3, 0, 0),
   (8203, 8203, false, 3, 0, 0),
   (8288, 8288, false, 3, 0, 0),
   (65024, 65039, false, 3, 0, 0),
   (65279, 65279, false, 3, 0, 0),
   (128, 160, false, 4, 0, 0),
   (57344, 63743, false, 4, 0, 0),
   (64976, 65007, false, 4, 0, 0),
   (983040, 1114111, false, 4, 0, 0),
   (65, 90, false, 2, 97, 0),
   (192, 214, false, 2, 224, 0),
   (216, 222, false, 2, 248, 0),
   (913, 929, false, 2, 945, 0),
   (931, 937, false, 2, 963, 0),
   (1024, 1039, false, 2, 1104, 0),
   (1040, 1071, false, 2, 1072, 0),
   (304, 304, false, 2, 105, 775),
   (256, 311, true, 2, 257, 0),
   (313, 328, true, 2, 314, 0),
   (329, 329, false, 2, 700, 110),
   (330, 375, true, 2, 331, 0),
   (376, 376, false, 2, 255, 0),
   (377, 382, true, 2, 378, 0),
   (383, 383, false, 2, 115, 0),
   (12290, 12290, false, 2, 46, 0),
   (65377, 65377, false, 2, 46, 0),
   (65313, 65338, false, 2, 97, 0),
   (65281, 65374, false, 2, 33, 0),
   (170, 170, false, 2, 97, 0),
   (178, 179, false, 2, 50, 0),
   (185, 185, false, 2, 49, 0),
   (186, 186, false, 2, 111, 0),
   (9312, 9320, false, 2, 49, 0),
   (8462, 8462, false, 2, 104, 0)]
def cellsR (r : Rule) : List Value := [.int .i64 r.1, .int .i64 r.2.1, .bool r.2.2.1, .int .i64 r.2.2.2.1, .int .i64 r.2.2.2.2.1, .int .i64 r.2.2.2.2.2]
def tabCells : Array Value := (rules.flatMap cellsR).toArray
/-- Does a rule fit? -/
def fitsR (r : Rule) (c : Int) : Bool := decide (r.1 ≤ c) && (decide (c ≤ r.2.1) && (!r.2.2.1 || decide ((c - r.1) % 2 = 0)))
/-- A sign that is Forbidden in every plane, or none. -/
def barred (c : Int) : Bool := !isS c || decide (65534 ≤ c % 65536)
def ruleOf (c : Int) : Rule := if barred c then (0, 0, false, 4, 0, 0) else (rules.find? (fitsR · c)).getD (0, 0, false, 1, 0, 0)
def kindOf (c : Int) : Int := (ruleOf c).2.2.2.1
/-- What becomes of a sign that is not Forbidden. -/
def signs (r : Rule) (c : Int) : List Int := if r.2.2.2.1 = 1 then [c] else if r.2.2.2.1 = 2 then (if r.2.2.2.2.2 = 0 then [r.2.2.2.2.1 + c - r.1] else [r.2.2.2.2.1 + c - r.1, r.2.2.2.2.2]) else []
theorem rules_len : rules.length = 34 := rfl
end Go.Proofs.Ytkbfjhdpepbphaa
