/-
  NARROWER THAN 'FOR EVERY INPUT', by the rows' own cells (each row's printed sentence says how): BitsNumbers: laid · BitsSums: laid · BitsSecs: laid · BitsTexts: laid · BitsBack: laid · BitsTurns: laid.
  DERIVED. THE GIVEN ROWS OF THIS SEAT. 6 by the template 'for every input the law returns true; each argument reads behind the call as it read before'; 0 by the template 'total and deterministic' (their statements: YtbaomapkggomfaaDoorTotals.lean).
  GIVEN WITH THE SEED: the statements are not yours to turn. If you find one false, say at which input.
  Laid BY PROGRAM, IN A SANDBOX (cutbox-rows.mjs): the forced cells as the released guide's own fill.sh prints them over the translation 8be03de9071ee91a… (all of the seat's roots in one cut). By AI agents, Wed Nov 11 2026. No macro, syntax, notation, axiom, sorry.
-/
import Derived.Test.YtbaomapkggomfaaDoorChecked
import GoSem.Claim
import GoSem.ClaimJoined
import GoSem.ClaimMapViews
import Derived.JoinedTies
import Derived.KernelRfl
namespace Go.Proofs.YtbaomapkggomfaaDoor
/- THE CELL 'sum', in the pinned program and in every row, IS THE sha256 OF THE DUMP (.gsa) THAT YtbaomapkggomfaaDoorProg.lean LOADS. Nothing in Lean hashes anything: it is a label: what it is worth is what the hold of that sum in a sandbox is worth. -/
noncomputable def Tryd.pinned : Pinned := { name := "ytbaomapkggomfaadoor", sum := "8be03de9071ee91a64a14dd93416384706b2b73352637b50e9cdeff2387d8b4e", checked := Tryd.checked }
namespace Rows
def none {H : Type} : Left H := { results := [], args := [] }

/- WHAT THE LISTED PACKAGE-LEVEL VARIABLES READ AS WHEN THE CALL BEGINS. Each datum BY PROGRAM (the guide's laid-datum.mjs) off the statement by which the dump's own 'gosem.cut.vars' lays the variable. In a bare row this is a premise. The card (YtbaomapkggomfaaDoorCards.lean) ties it to the program's text. -/
def laid_springhouse_bits_crcSteps {H : Type} : DataW H := .agg [.lit (.int .u32 0), .lit (.int .u32 498536548), .lit (.int .u32 997073096), .lit (.int .u32 651767980), .lit (.int .u32 1994146192), .lit (.int .u32 1802195444), .lit (.int .u32 1303535960), .lit (.int .u32 1342533948), .lit (.int .u32 3988292384), .lit (.int .u32 4027552580), .lit (.int .u32 3604390888), .lit (.int .u32 3412177804), .lit (.int .u32 2607071920), .lit (.int .u32 2262029012), .lit (.int .u32 2685067896), .lit (.int .u32 3183342108)]

/-- 'sprlaw1.BitsNumbers': WHATEVER THE INPUT: true; the input reads as it did. -/
def bitsNumbersSpec : ChangeSpec := { name := "bitsNumbers", fn := fun _ => fun
  | [d1, d2, d3, d4] => { results := [.lit (.bool true)], args := [d1, d2, d3, d4] }
  | _ => none }
def bitsNumbersRow : OpenClaim := { program := "ytbaomapkggomfaadoor", sum := "8be03de9071ee91a64a14dd93416384706b2b73352637b50e9cdeff2387d8b4e", func := "springhouse/sprlaw1.BitsNumbers", spec := "bitsNumbers", named := ["springhouse/bits.crcSteps"], apart := false, laid := [("springhouse/bits.crcSteps", laid_springhouse_bits_crcSteps)] }
def BitsNumbersSaid : Prop := bitsNumbersRow.holds Tryd.pinned (OpenSpec.ofChange bitsNumbersSpec)

/-- ITS FALSE NEIGHBOUR: 'it returns false'. Refute it at one input. -/
def bitsNumbersWrong : ChangeSpec := { name := "bitsNumbers", fn := fun _ => fun
  | [d1, d2, d3, d4] => { results := [.lit (.bool false)], args := [d1, d2, d3, d4] }
  | _ => none }
def BitsNumbersWrongFalsely : Prop := bitsNumbersRow.holds Tryd.pinned (OpenSpec.ofChange bitsNumbersWrong)

/-- 'sprlaw1.BitsSums': WHATEVER THE INPUT: true; the input reads as it did. -/
def bitsSumsSpec : ChangeSpec := { name := "bitsSums", fn := fun _ => fun
  | [d1, d2, d3] => { results := [.lit (.bool true)], args := [d1, d2, d3] }
  | _ => none }
def bitsSumsRow : OpenClaim := { program := "ytbaomapkggomfaadoor", sum := "8be03de9071ee91a64a14dd93416384706b2b73352637b50e9cdeff2387d8b4e", func := "springhouse/sprlaw1.BitsSums", spec := "bitsSums", named := ["springhouse/bits.crcSteps"], apart := false, laid := [("springhouse/bits.crcSteps", laid_springhouse_bits_crcSteps)] }
def BitsSumsSaid : Prop := bitsSumsRow.holds Tryd.pinned (OpenSpec.ofChange bitsSumsSpec)

/-- ITS FALSE NEIGHBOUR: 'it returns false'. Refute it at one input. -/
def bitsSumsWrong : ChangeSpec := { name := "bitsSums", fn := fun _ => fun
  | [d1, d2, d3] => { results := [.lit (.bool false)], args := [d1, d2, d3] }
  | _ => none }
def BitsSumsWrongFalsely : Prop := bitsSumsRow.holds Tryd.pinned (OpenSpec.ofChange bitsSumsWrong)

/-- 'sprlaw1.BitsSecs': WHATEVER THE INPUT: true; the input reads as it did. -/
def bitsSecsSpec : ChangeSpec := { name := "bitsSecs", fn := fun _ => fun
  | [d1, d2] => { results := [.lit (.bool true)], args := [d1, d2] }
  | _ => none }
def bitsSecsRow : OpenClaim := { program := "ytbaomapkggomfaadoor", sum := "8be03de9071ee91a64a14dd93416384706b2b73352637b50e9cdeff2387d8b4e", func := "springhouse/sprlaw1.BitsSecs", spec := "bitsSecs", named := ["springhouse/bits.crcSteps"], apart := false, laid := [("springhouse/bits.crcSteps", laid_springhouse_bits_crcSteps)] }
def BitsSecsSaid : Prop := bitsSecsRow.holds Tryd.pinned (OpenSpec.ofChange bitsSecsSpec)

/-- ITS FALSE NEIGHBOUR: 'it returns false'. Refute it at one input. -/
def bitsSecsWrong : ChangeSpec := { name := "bitsSecs", fn := fun _ => fun
  | [d1, d2] => { results := [.lit (.bool false)], args := [d1, d2] }
  | _ => none }
def BitsSecsWrongFalsely : Prop := bitsSecsRow.holds Tryd.pinned (OpenSpec.ofChange bitsSecsWrong)

/-- 'sprlaw1.BitsTexts': WHATEVER THE INPUT: true; the input reads as it did. -/
def bitsTextsSpec : ChangeSpec := { name := "bitsTexts", fn := fun _ => fun
  | [d1, d2] => { results := [.lit (.bool true)], args := [d1, d2] }
  | _ => none }
def bitsTextsRow : OpenClaim := { program := "ytbaomapkggomfaadoor", sum := "8be03de9071ee91a64a14dd93416384706b2b73352637b50e9cdeff2387d8b4e", func := "springhouse/sprlaw1.BitsTexts", spec := "bitsTexts", named := ["springhouse/bits.crcSteps"], apart := false, laid := [("springhouse/bits.crcSteps", laid_springhouse_bits_crcSteps)] }
def BitsTextsSaid : Prop := bitsTextsRow.holds Tryd.pinned (OpenSpec.ofChange bitsTextsSpec)

/-- ITS FALSE NEIGHBOUR: 'it returns false'. Refute it at one input. -/
def bitsTextsWrong : ChangeSpec := { name := "bitsTexts", fn := fun _ => fun
  | [d1, d2] => { results := [.lit (.bool false)], args := [d1, d2] }
  | _ => none }
def BitsTextsWrongFalsely : Prop := bitsTextsRow.holds Tryd.pinned (OpenSpec.ofChange bitsTextsWrong)

/-- 'sprlaw1.BitsBack': WHATEVER THE INPUT: true; the input reads as it did. -/
def bitsBackSpec : ChangeSpec := { name := "bitsBack", fn := fun _ => fun
  | [d1, d2, d3] => { results := [.lit (.bool true)], args := [d1, d2, d3] }
  | _ => none }
def bitsBackRow : OpenClaim := { program := "ytbaomapkggomfaadoor", sum := "8be03de9071ee91a64a14dd93416384706b2b73352637b50e9cdeff2387d8b4e", func := "springhouse/sprlaw1.BitsBack", spec := "bitsBack", named := ["springhouse/bits.crcSteps"], apart := false, laid := [("springhouse/bits.crcSteps", laid_springhouse_bits_crcSteps)] }
def BitsBackSaid : Prop := bitsBackRow.holds Tryd.pinned (OpenSpec.ofChange bitsBackSpec)

/-- ITS FALSE NEIGHBOUR: 'it returns false'. Refute it at one input. -/
def bitsBackWrong : ChangeSpec := { name := "bitsBack", fn := fun _ => fun
  | [d1, d2, d3] => { results := [.lit (.bool false)], args := [d1, d2, d3] }
  | _ => none }
def BitsBackWrongFalsely : Prop := bitsBackRow.holds Tryd.pinned (OpenSpec.ofChange bitsBackWrong)

/-- 'sprlaw1.BitsTurns': WHATEVER THE INPUT: true; the input reads as it did. -/
def bitsTurnsSpec : ChangeSpec := { name := "bitsTurns", fn := fun _ => fun
  | [d1, d2, d3] => { results := [.lit (.bool true)], args := [d1, d2, d3] }
  | _ => none }
def bitsTurnsRow : OpenClaim := { program := "ytbaomapkggomfaadoor", sum := "8be03de9071ee91a64a14dd93416384706b2b73352637b50e9cdeff2387d8b4e", func := "springhouse/sprlaw1.BitsTurns", spec := "bitsTurns", named := ["springhouse/bits.crcSteps"], apart := false, laid := [("springhouse/bits.crcSteps", laid_springhouse_bits_crcSteps)] }
def BitsTurnsSaid : Prop := bitsTurnsRow.holds Tryd.pinned (OpenSpec.ofChange bitsTurnsSpec)

/-- ITS FALSE NEIGHBOUR: 'it returns false'. Refute it at one input. -/
def bitsTurnsWrong : ChangeSpec := { name := "bitsTurns", fn := fun _ => fun
  | [d1, d2, d3] => { results := [.lit (.bool false)], args := [d1, d2, d3] }
  | _ => none }
def BitsTurnsWrongFalsely : Prop := bitsTurnsRow.holds Tryd.pinned (OpenSpec.ofChange bitsTurnsWrong)

/- THE SECOND FORM. 'bulk': how many values and letters a reading holds, each counted each time it is reached (what is shared counts as often as it is met; a slice's spare places count too). A statement '..UptoSaid' is the law's where the arguments, and the package variables that the reading takes, are together of bulk at most 1048576: NARROWER than '..Said'. Prove '..Said' where nothing that the law and all that it calls make is longer than what came in: it says more and counts as full. Else prove '..UptoSaid'. A law counts once. -/
mutual
def uptoBulk {H : Type} : DataW H → Nat
  | .lit (.string bytes) => bytes.length + 1
  | .lit _ => 1
  | .nil => 1
  | .ptr d => uptoBulk d + 1
  | .slice elems spare => uptoBulkAll elems + uptoBulkAll spare + 1
  | .agg parts => uptoBulkAll parts + 1
  | .iface _ d => uptoBulk d + 1
  | .map entries => uptoBulkEntries entries + 1
  | .held _ => 1
def uptoBulkAll {H : Type} : List (DataW H) → Nat
  | [] => 0
  | d :: r => uptoBulk d + uptoBulkAll r
def uptoBulkEntries {H : Type} : List (Lit × DataW H) → Nat
  | [] => 0
  | x :: r => uptoBulkEntry x + uptoBulkEntries r
def uptoBulkEntry {H : Type} : Lit × DataW H → Nat
  | (.string bytes, d) => bytes.length + uptoBulk d + 1
  | (_, d) => uptoBulk d + 1
 end
def uptoSmall : (H : Type) → List (DataW H) → Bool := fun _ ds => decide (uptoBulkAll ds ≤ 1048576)
def OpenSpec.upto (s : _root_.Go.ChangeSpec) : _root_.Go.OpenSpec := { _root_.Go.OpenSpec.ofChange s with cond := some uptoSmall }

/-- 'sprlaw1.BitsNumbers', WHERE WHAT IT READS IS OF BULK AT MOST 1048576: true; the input reads as it did. -/
def bitsNumbersUptoRow : OpenClaim := { program := "ytbaomapkggomfaadoor", sum := "8be03de9071ee91a64a14dd93416384706b2b73352637b50e9cdeff2387d8b4e", func := "springhouse/sprlaw1.BitsNumbers", spec := "bitsNumbers", named := ["springhouse/bits.crcSteps"], apart := false, laid := [("springhouse/bits.crcSteps", laid_springhouse_bits_crcSteps)], narrowed := true }
def BitsNumbersUptoSaid : Prop := bitsNumbersUptoRow.holds Tryd.pinned (OpenSpec.upto bitsNumbersSpec)

/-- 'sprlaw1.BitsSums', WHERE WHAT IT READS IS OF BULK AT MOST 1048576: true; the input reads as it did. -/
def bitsSumsUptoRow : OpenClaim := { program := "ytbaomapkggomfaadoor", sum := "8be03de9071ee91a64a14dd93416384706b2b73352637b50e9cdeff2387d8b4e", func := "springhouse/sprlaw1.BitsSums", spec := "bitsSums", named := ["springhouse/bits.crcSteps"], apart := false, laid := [("springhouse/bits.crcSteps", laid_springhouse_bits_crcSteps)], narrowed := true }
def BitsSumsUptoSaid : Prop := bitsSumsUptoRow.holds Tryd.pinned (OpenSpec.upto bitsSumsSpec)

/-- 'sprlaw1.BitsSecs', WHERE WHAT IT READS IS OF BULK AT MOST 1048576: true; the input reads as it did. -/
def bitsSecsUptoRow : OpenClaim := { program := "ytbaomapkggomfaadoor", sum := "8be03de9071ee91a64a14dd93416384706b2b73352637b50e9cdeff2387d8b4e", func := "springhouse/sprlaw1.BitsSecs", spec := "bitsSecs", named := ["springhouse/bits.crcSteps"], apart := false, laid := [("springhouse/bits.crcSteps", laid_springhouse_bits_crcSteps)], narrowed := true }
def BitsSecsUptoSaid : Prop := bitsSecsUptoRow.holds Tryd.pinned (OpenSpec.upto bitsSecsSpec)

/-- 'sprlaw1.BitsTexts', WHERE WHAT IT READS IS OF BULK AT MOST 1048576: true; the input reads as it did. -/
def bitsTextsUptoRow : OpenClaim := { program := "ytbaomapkggomfaadoor", sum := "8be03de9071ee91a64a14dd93416384706b2b73352637b50e9cdeff2387d8b4e", func := "springhouse/sprlaw1.BitsTexts", spec := "bitsTexts", named := ["springhouse/bits.crcSteps"], apart := false, laid := [("springhouse/bits.crcSteps", laid_springhouse_bits_crcSteps)], narrowed := true }
def BitsTextsUptoSaid : Prop := bitsTextsUptoRow.holds Tryd.pinned (OpenSpec.upto bitsTextsSpec)

/-- 'sprlaw1.BitsBack', WHERE WHAT IT READS IS OF BULK AT MOST 1048576: true; the input reads as it did. -/
def bitsBackUptoRow : OpenClaim := { program := "ytbaomapkggomfaadoor", sum := "8be03de9071ee91a64a14dd93416384706b2b73352637b50e9cdeff2387d8b4e", func := "springhouse/sprlaw1.BitsBack", spec := "bitsBack", named := ["springhouse/bits.crcSteps"], apart := false, laid := [("springhouse/bits.crcSteps", laid_springhouse_bits_crcSteps)], narrowed := true }
def BitsBackUptoSaid : Prop := bitsBackUptoRow.holds Tryd.pinned (OpenSpec.upto bitsBackSpec)

/-- 'sprlaw1.BitsTurns', WHERE WHAT IT READS IS OF BULK AT MOST 1048576: true; the input reads as it did. -/
def bitsTurnsUptoRow : OpenClaim := { program := "ytbaomapkggomfaadoor", sum := "8be03de9071ee91a64a14dd93416384706b2b73352637b50e9cdeff2387d8b4e", func := "springhouse/sprlaw1.BitsTurns", spec := "bitsTurns", named := ["springhouse/bits.crcSteps"], apart := false, laid := [("springhouse/bits.crcSteps", laid_springhouse_bits_crcSteps)], narrowed := true }
def BitsTurnsUptoSaid : Prop := bitsTurnsUptoRow.holds Tryd.pinned (OpenSpec.upto bitsTurnsSpec)

end Rows
end Go.Proofs.YtbaomapkggomfaaDoor
