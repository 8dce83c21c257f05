/-
  NARROWER THAN 'FOR EVERY INPUT', by the rows' own cells (each row's printed sentence says how): PctSets: laid · PctCodes: laid · PctBack: laid · PctRise: laid · PctPlain: laid.
  DERIVED. THE GIVEN ROWS OF THIS SEAT. 5 by the template 'for every input the law returns true; each argument reads behind the call as it read before'; 0 by the template 'total and deterministic' (their statements: YtfglanhbjmlclaaDoorTotals.lean).
  GIVEN WITH THE SEED: the statements are not yours to turn. If you find one false, say at which input.
  Laid BY PROGRAM, IN A SANDBOX (cutbox-rows.mjs): the forced cells as the released guide's own fill.sh prints them over the translation dfd941577fda4a20… (all of the seat's roots in one cut). By AI agents, Wed Nov 11 2026. No macro, syntax, notation, axiom, sorry.
-/
import Derived.Test.YtfglanhbjmlclaaDoorChecked
import GoSem.Claim
import GoSem.ClaimJoined
import GoSem.ClaimMapViews
import Derived.JoinedTies
import Derived.KernelRfl
namespace Go.Proofs.YtfglanhbjmlclaaDoor
/- THE CELL 'sum', in the pinned program and in every row, IS THE sha256 OF THE DUMP (.gsa) THAT YtfglanhbjmlclaaDoorProg.lean LOADS. Nothing in Lean hashes anything: it is a label: what it is worth is what the hold of that sum in a sandbox is worth. -/
noncomputable def Tryd.pinned : Pinned := { name := "ytfglanhbjmlclaadoor", sum := "dfd941577fda4a207e295718f9e75d275f9bb521f70238b8706c540a41a874c6", checked := Tryd.checked }
namespace Rows
def none {H : Type} : Left H := { results := [], args := [] }

/- WHAT THE LISTED PACKAGE-LEVEL VARIABLES READ AS WHEN THE CALL BEGINS. Each datum BY PROGRAM (the guide's laid-datum.mjs) off the statement by which the dump's own 'gosem.cut.vars' lays the variable. In a bare row this is a premise. The card (YtfglanhbjmlclaaDoorCards.lean) ties it to the program's text. -/
def laid_springhouse_pct_words {H : Type} : DataW H := .agg [.agg [.lit (.int .u64 0), .lit (.int .u64 0), .lit (.int .u64 0), .lit (.int .u64 0)], .agg [.lit (.int .u64 4294967295), .lit (.int .u64 9223372036854775808), .lit (.int .u64 18446744073709551615), .lit (.int .u64 18446744073709551615)], .agg [.lit (.int .u64 5764607548804038655), .lit (.int .u64 9223372041149743104), .lit (.int .u64 18446744073709551615), .lit (.int .u64 18446744073709551615)], .agg [.lit (.int .u64 5764607583163777023), .lit (.int .u64 9223372036854775808), .lit (.int .u64 18446744073709551615), .lit (.int .u64 18446744073709551615)], .agg [.lit (.int .u64 5764608132919590911), .lit (.int .u64 9223372036854775808), .lit (.int .u64 18446744073709551615), .lit (.int .u64 18446744073709551615)], .agg [.lit (.int .u64 14987979620018552831), .lit (.int .u64 12105675803740602368), .lit (.int .u64 18446744073709551615), .lit (.int .u64 18446744073709551615)], .agg [.lit (.int .u64 18158654495175737343), .lit (.int .u64 13258597309286973441), .lit (.int .u64 18446744073709551615), .lit (.int .u64 18446744073709551615)], .agg [.lit (.int .u64 18158681364491141119), .lit (.int .u64 13258597309286973441), .lit (.int .u64 18446744073709551615), .lit (.int .u64 18446744073709551615)], .agg [.lit (.int .u64 18158685221371772927), .lit (.int .u64 17870283327714361345), .lit (.int .u64 18446744073709551615), .lit (.int .u64 18446744073709551615)]]

/-- 'sprlaw6.PctSets': WHATEVER THE INPUT: true; the input reads as it did. -/
def pctSetsSpec : ChangeSpec := { name := "pctSets", fn := fun _ => fun
  | [d1, d2] => { results := [.lit (.bool true)], args := [d1, d2] }
  | _ => none }
def pctSetsRow : OpenClaim := { program := "ytfglanhbjmlclaadoor", sum := "dfd941577fda4a207e295718f9e75d275f9bb521f70238b8706c540a41a874c6", func := "springhouse/sprlaw6.PctSets", spec := "pctSets", named := ["springhouse/pct.words"], apart := false, laid := [("springhouse/pct.words", laid_springhouse_pct_words)] }
def PctSetsSaid : Prop := pctSetsRow.holds Tryd.pinned (OpenSpec.ofChange pctSetsSpec)

/-- ITS FALSE NEIGHBOUR: 'it returns false'. Refute it at one input. -/
def pctSetsWrong : ChangeSpec := { name := "pctSets", fn := fun _ => fun
  | [d1, d2] => { results := [.lit (.bool false)], args := [d1, d2] }
  | _ => none }
def PctSetsWrongFalsely : Prop := pctSetsRow.holds Tryd.pinned (OpenSpec.ofChange pctSetsWrong)

/-- 'sprlaw6.PctCodes': WHATEVER THE INPUT: true; the input reads as it did. -/
def pctCodesSpec : ChangeSpec := { name := "pctCodes", fn := fun _ => fun
  | [d1, d2, d3] => { results := [.lit (.bool true)], args := [d1, d2, d3] }
  | _ => none }
def pctCodesRow : OpenClaim := { program := "ytfglanhbjmlclaadoor", sum := "dfd941577fda4a207e295718f9e75d275f9bb521f70238b8706c540a41a874c6", func := "springhouse/sprlaw6.PctCodes", spec := "pctCodes", named := ["springhouse/pct.words"], apart := false, laid := [("springhouse/pct.words", laid_springhouse_pct_words)] }
def PctCodesSaid : Prop := pctCodesRow.holds Tryd.pinned (OpenSpec.ofChange pctCodesSpec)

/-- ITS FALSE NEIGHBOUR: 'it returns false'. Refute it at one input. -/
def pctCodesWrong : ChangeSpec := { name := "pctCodes", fn := fun _ => fun
  | [d1, d2, d3] => { results := [.lit (.bool false)], args := [d1, d2, d3] }
  | _ => none }
def PctCodesWrongFalsely : Prop := pctCodesRow.holds Tryd.pinned (OpenSpec.ofChange pctCodesWrong)

/-- 'sprlaw6.PctBack': WHATEVER THE INPUT: true; the input reads as it did. -/
def pctBackSpec : ChangeSpec := { name := "pctBack", fn := fun _ => fun
  | [d1, d2] => { results := [.lit (.bool true)], args := [d1, d2] }
  | _ => none }
def pctBackRow : OpenClaim := { program := "ytfglanhbjmlclaadoor", sum := "dfd941577fda4a207e295718f9e75d275f9bb521f70238b8706c540a41a874c6", func := "springhouse/sprlaw6.PctBack", spec := "pctBack", named := ["springhouse/pct.words"], apart := false, laid := [("springhouse/pct.words", laid_springhouse_pct_words)] }
def PctBackSaid : Prop := pctBackRow.holds Tryd.pinned (OpenSpec.ofChange pctBackSpec)

/-- ITS FALSE NEIGHBOUR: 'it returns false'. Refute it at one input. -/
def pctBackWrong : ChangeSpec := { name := "pctBack", fn := fun _ => fun
  | [d1, d2] => { results := [.lit (.bool false)], args := [d1, d2] }
  | _ => none }
def PctBackWrongFalsely : Prop := pctBackRow.holds Tryd.pinned (OpenSpec.ofChange pctBackWrong)

/-- 'sprlaw6.PctRise': WHATEVER THE INPUT: true; the input reads as it did. -/
def pctRiseSpec : ChangeSpec := { name := "pctRise", fn := fun _ => fun
  | [d1, d2, d3, d4] => { results := [.lit (.bool true)], args := [d1, d2, d3, d4] }
  | _ => none }
def pctRiseRow : OpenClaim := { program := "ytfglanhbjmlclaadoor", sum := "dfd941577fda4a207e295718f9e75d275f9bb521f70238b8706c540a41a874c6", func := "springhouse/sprlaw6.PctRise", spec := "pctRise", named := ["springhouse/pct.words"], apart := false, laid := [("springhouse/pct.words", laid_springhouse_pct_words)] }
def PctRiseSaid : Prop := pctRiseRow.holds Tryd.pinned (OpenSpec.ofChange pctRiseSpec)

/-- ITS FALSE NEIGHBOUR: 'it returns false'. Refute it at one input. -/
def pctRiseWrong : ChangeSpec := { name := "pctRise", fn := fun _ => fun
  | [d1, d2, d3, d4] => { results := [.lit (.bool false)], args := [d1, d2, d3, d4] }
  | _ => none }
def PctRiseWrongFalsely : Prop := pctRiseRow.holds Tryd.pinned (OpenSpec.ofChange pctRiseWrong)

/-- 'sprlaw6.PctPlain': WHATEVER THE INPUT: true; the input reads as it did. -/
def pctPlainSpec : ChangeSpec := { name := "pctPlain", fn := fun _ => fun
  | [d1, d2] => { results := [.lit (.bool true)], args := [d1, d2] }
  | _ => none }
def pctPlainRow : OpenClaim := { program := "ytfglanhbjmlclaadoor", sum := "dfd941577fda4a207e295718f9e75d275f9bb521f70238b8706c540a41a874c6", func := "springhouse/sprlaw6.PctPlain", spec := "pctPlain", named := ["springhouse/pct.words"], apart := false, laid := [("springhouse/pct.words", laid_springhouse_pct_words)] }
def PctPlainSaid : Prop := pctPlainRow.holds Tryd.pinned (OpenSpec.ofChange pctPlainSpec)

/-- ITS FALSE NEIGHBOUR: 'it returns false'. Refute it at one input. -/
def pctPlainWrong : ChangeSpec := { name := "pctPlain", fn := fun _ => fun
  | [d1, d2] => { results := [.lit (.bool false)], args := [d1, d2] }
  | _ => none }
def PctPlainWrongFalsely : Prop := pctPlainRow.holds Tryd.pinned (OpenSpec.ofChange pctPlainWrong)

/- THE SECOND FORM. 'bulk': how many values and letters a reading holds, each counted each time it is reached (what is shared counts as often as it is met; a slice's spare places count too). A statement '..UptoSaid' is the law's where the arguments, and the package variables that the reading takes, are together of bulk at most 1048576: NARROWER than '..Said'. Prove '..Said' where nothing that the law and all that it calls make is longer than what came in: it says more and counts as full. Else prove '..UptoSaid'. A law counts once. -/
mutual
def uptoBulk {H : Type} : DataW H → Nat
  | .lit (.string bytes) => bytes.length + 1
  | .lit _ => 1
  | .nil => 1
  | .ptr d => uptoBulk d + 1
  | .slice elems spare => uptoBulkAll elems + uptoBulkAll spare + 1
  | .agg parts => uptoBulkAll parts + 1
  | .iface _ d => uptoBulk d + 1
  | .map entries => uptoBulkEntries entries + 1
  | .held _ => 1
def uptoBulkAll {H : Type} : List (DataW H) → Nat
  | [] => 0
  | d :: r => uptoBulk d + uptoBulkAll r
def uptoBulkEntries {H : Type} : List (Lit × DataW H) → Nat
  | [] => 0
  | x :: r => uptoBulkEntry x + uptoBulkEntries r
def uptoBulkEntry {H : Type} : Lit × DataW H → Nat
  | (.string bytes, d) => bytes.length + uptoBulk d + 1
  | (_, d) => uptoBulk d + 1
 end
def uptoSmall : (H : Type) → List (DataW H) → Bool := fun _ ds => decide (uptoBulkAll ds ≤ 1048576)
def OpenSpec.upto (s : _root_.Go.ChangeSpec) : _root_.Go.OpenSpec := { _root_.Go.OpenSpec.ofChange s with cond := some uptoSmall }

/-- 'sprlaw6.PctSets', WHERE WHAT IT READS IS OF BULK AT MOST 1048576: true; the input reads as it did. -/
def pctSetsUptoRow : OpenClaim := { program := "ytfglanhbjmlclaadoor", sum := "dfd941577fda4a207e295718f9e75d275f9bb521f70238b8706c540a41a874c6", func := "springhouse/sprlaw6.PctSets", spec := "pctSets", named := ["springhouse/pct.words"], apart := false, laid := [("springhouse/pct.words", laid_springhouse_pct_words)], narrowed := true }
def PctSetsUptoSaid : Prop := pctSetsUptoRow.holds Tryd.pinned (OpenSpec.upto pctSetsSpec)

/-- 'sprlaw6.PctCodes', WHERE WHAT IT READS IS OF BULK AT MOST 1048576: true; the input reads as it did. -/
def pctCodesUptoRow : OpenClaim := { program := "ytfglanhbjmlclaadoor", sum := "dfd941577fda4a207e295718f9e75d275f9bb521f70238b8706c540a41a874c6", func := "springhouse/sprlaw6.PctCodes", spec := "pctCodes", named := ["springhouse/pct.words"], apart := false, laid := [("springhouse/pct.words", laid_springhouse_pct_words)], narrowed := true }
def PctCodesUptoSaid : Prop := pctCodesUptoRow.holds Tryd.pinned (OpenSpec.upto pctCodesSpec)

/-- 'sprlaw6.PctBack', WHERE WHAT IT READS IS OF BULK AT MOST 1048576: true; the input reads as it did. -/
def pctBackUptoRow : OpenClaim := { program := "ytfglanhbjmlclaadoor", sum := "dfd941577fda4a207e295718f9e75d275f9bb521f70238b8706c540a41a874c6", func := "springhouse/sprlaw6.PctBack", spec := "pctBack", named := ["springhouse/pct.words"], apart := false, laid := [("springhouse/pct.words", laid_springhouse_pct_words)], narrowed := true }
def PctBackUptoSaid : Prop := pctBackUptoRow.holds Tryd.pinned (OpenSpec.upto pctBackSpec)

/-- 'sprlaw6.PctRise', WHERE WHAT IT READS IS OF BULK AT MOST 1048576: true; the input reads as it did. -/
def pctRiseUptoRow : OpenClaim := { program := "ytfglanhbjmlclaadoor", sum := "dfd941577fda4a207e295718f9e75d275f9bb521f70238b8706c540a41a874c6", func := "springhouse/sprlaw6.PctRise", spec := "pctRise", named := ["springhouse/pct.words"], apart := false, laid := [("springhouse/pct.words", laid_springhouse_pct_words)], narrowed := true }
def PctRiseUptoSaid : Prop := pctRiseUptoRow.holds Tryd.pinned (OpenSpec.upto pctRiseSpec)

/-- 'sprlaw6.PctPlain', WHERE WHAT IT READS IS OF BULK AT MOST 1048576: true; the input reads as it did. -/
def pctPlainUptoRow : OpenClaim := { program := "ytfglanhbjmlclaadoor", sum := "dfd941577fda4a207e295718f9e75d275f9bb521f70238b8706c540a41a874c6", func := "springhouse/sprlaw6.PctPlain", spec := "pctPlain", named := ["springhouse/pct.words"], apart := false, laid := [("springhouse/pct.words", laid_springhouse_pct_words)], narrowed := true }
def PctPlainUptoSaid : Prop := pctPlainUptoRow.holds Tryd.pinned (OpenSpec.upto pctPlainSpec)

end Rows
end Go.Proofs.YtfglanhbjmlclaaDoor
