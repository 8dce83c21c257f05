/-
  No cell of these rows narrows 'for every input' (looked for: loops, veiled, ifaces, maps, wideKeys, modest, calm, conditions, laid).
  DERIVED. THE GIVEN ROWS OF THIS SEAT. 4 by the template 'for every input the law returns true; each argument reads behind the call as it read before'; 0 by the template 'total and deterministic' (their statements: YtpjajiilgojbgaaTotals.lean).
  GIVEN WITH THE SEED: the statements are not yours to turn. If you find one false, say at which input.
  Laid BY PROGRAM, IN A SANDBOX (cutbox-rows.mjs): the forced cells as the released guide's own fill.sh prints them over the translation c960667832db3078… (all of the seat's roots in one cut). By AI agents, Wed Nov 11 2026. No macro, syntax, notation, axiom, sorry.
-/
import Derived.Test.YtpjajiilgojbgaaChecked
import GoSem.Claim
import GoSem.ClaimJoined
import GoSem.ClaimMapViews
import Derived.JoinedTies
import Derived.KernelRfl
namespace Go.Proofs.Ytpjajiilgojbgaa
/- THE CELL 'sum', in the pinned program and in every row, IS THE sha256 OF THE DUMP (.gsa) THAT YtpjajiilgojbgaaProg.lean LOADS. Nothing in Lean hashes anything: it is a label: what it is worth is what the hold of that sum in a sandbox is worth. -/
noncomputable def Try.pinned : Pinned := { name := "ytpjajiilgojbgaa", sum := "c960667832db30786a2b31208d940629bee41f8496e06600b702f18ce0e3e8f2", checked := Try.checked }
namespace Rows
def none {H : Type} : Left H := { results := [], args := [] }

/-- 'sprlaw4.PunyCodes': WHATEVER THE INPUT: true; the input reads as it did. -/
def punyCodesSpec : ChangeSpec := { name := "punyCodes", fn := fun _ => fun
  | [d1, d2] => { results := [.lit (.bool true)], args := [d1, d2] }
  | _ => none }
def punyCodesRow : OpenClaim := { program := "ytpjajiilgojbgaa", sum := "c960667832db30786a2b31208d940629bee41f8496e06600b702f18ce0e3e8f2", func := "springhouse/sprlaw4.PunyCodes", spec := "punyCodes", inPlace := ["slices.overlaps[int]"], apart := false }
def PunyCodesSaid : Prop := punyCodesRow.holds Try.pinned (OpenSpec.ofChange punyCodesSpec)

/-- ITS FALSE NEIGHBOUR: 'it returns false'. Refute it at one input. -/
def punyCodesWrong : ChangeSpec := { name := "punyCodes", fn := fun _ => fun
  | [d1, d2] => { results := [.lit (.bool false)], args := [d1, d2] }
  | _ => none }
def PunyCodesWrongFalsely : Prop := punyCodesRow.holds Try.pinned (OpenSpec.ofChange punyCodesWrong)

/-- 'sprlaw4.PunyBack': WHATEVER THE INPUT: true; the input reads as it did. -/
def punyBackSpec : ChangeSpec := { name := "punyBack", fn := fun _ => fun
  | [d] => { results := [.lit (.bool true)], args := [d] }
  | _ => none }
def punyBackRow : OpenClaim := { program := "ytpjajiilgojbgaa", sum := "c960667832db30786a2b31208d940629bee41f8496e06600b702f18ce0e3e8f2", func := "springhouse/sprlaw4.PunyBack", spec := "punyBack", inPlace := ["slices.overlaps[int]"], apart := false }
def PunyBackSaid : Prop := punyBackRow.holds Try.pinned (OpenSpec.ofChange punyBackSpec)

/-- ITS FALSE NEIGHBOUR: 'it returns false'. Refute it at one input. -/
def punyBackWrong : ChangeSpec := { name := "punyBack", fn := fun _ => fun
  | [d] => { results := [.lit (.bool false)], args := [d] }
  | _ => none }
def PunyBackWrongFalsely : Prop := punyBackRow.holds Try.pinned (OpenSpec.ofChange punyBackWrong)

/-- 'sprlaw4.PunyPlain': WHATEVER THE INPUT: true; the input reads as it did. -/
def punyPlainSpec : ChangeSpec := { name := "punyPlain", fn := fun _ => fun
  | [d] => { results := [.lit (.bool true)], args := [d] }
  | _ => none }
def punyPlainRow : OpenClaim := { program := "ytpjajiilgojbgaa", sum := "c960667832db30786a2b31208d940629bee41f8496e06600b702f18ce0e3e8f2", func := "springhouse/sprlaw4.PunyPlain", spec := "punyPlain", inPlace := ["slices.overlaps[int]"], apart := false }
def PunyPlainSaid : Prop := punyPlainRow.holds Try.pinned (OpenSpec.ofChange punyPlainSpec)

/-- ITS FALSE NEIGHBOUR: 'it returns false'. Refute it at one input. -/
def punyPlainWrong : ChangeSpec := { name := "punyPlain", fn := fun _ => fun
  | [d] => { results := [.lit (.bool false)], args := [d] }
  | _ => none }
def PunyPlainWrongFalsely : Prop := punyPlainRow.holds Try.pinned (OpenSpec.ofChange punyPlainWrong)

/-- 'sprlaw4.PunyOrder': WHATEVER THE INPUT: true; the input reads as it did. -/
def punyOrderSpec : ChangeSpec := { name := "punyOrder", fn := fun _ => fun
  | [d1, d2] => { results := [.lit (.bool true)], args := [d1, d2] }
  | _ => none }
def punyOrderRow : OpenClaim := { program := "ytpjajiilgojbgaa", sum := "c960667832db30786a2b31208d940629bee41f8496e06600b702f18ce0e3e8f2", func := "springhouse/sprlaw4.PunyOrder", spec := "punyOrder", inPlace := ["slices.overlaps[int]"], apart := false }
def PunyOrderSaid : Prop := punyOrderRow.holds Try.pinned (OpenSpec.ofChange punyOrderSpec)

/-- ITS FALSE NEIGHBOUR: 'it returns false'. Refute it at one input. -/
def punyOrderWrong : ChangeSpec := { name := "punyOrder", fn := fun _ => fun
  | [d1, d2] => { results := [.lit (.bool false)], args := [d1, d2] }
  | _ => none }
def PunyOrderWrongFalsely : Prop := punyOrderRow.holds Try.pinned (OpenSpec.ofChange punyOrderWrong)

/- THE SECOND FORM. 'bulk': how many values and letters a reading holds, each counted each time it is reached (what is shared counts as often as it is met; a slice's spare places count too). A statement '..UptoSaid' is the law's where the arguments, and the package variables that the reading takes, are together of bulk at most 1048576: NARROWER than '..Said'. Prove '..Said' where nothing that the law and all that it calls make is longer than what came in: it says more and counts as full. Else prove '..UptoSaid'. A law counts once. -/
mutual
def uptoBulk {H : Type} : DataW H → Nat
  | .lit (.string bytes) => bytes.length + 1
  | .lit _ => 1
  | .nil => 1
  | .ptr d => uptoBulk d + 1
  | .slice elems spare => uptoBulkAll elems + uptoBulkAll spare + 1
  | .agg parts => uptoBulkAll parts + 1
  | .iface _ d => uptoBulk d + 1
  | .map entries => uptoBulkEntries entries + 1
  | .held _ => 1
def uptoBulkAll {H : Type} : List (DataW H) → Nat
  | [] => 0
  | d :: r => uptoBulk d + uptoBulkAll r
def uptoBulkEntries {H : Type} : List (Lit × DataW H) → Nat
  | [] => 0
  | x :: r => uptoBulkEntry x + uptoBulkEntries r
def uptoBulkEntry {H : Type} : Lit × DataW H → Nat
  | (.string bytes, d) => bytes.length + uptoBulk d + 1
  | (_, d) => uptoBulk d + 1
 end
def uptoSmall : (H : Type) → List (DataW H) → Bool := fun _ ds => decide (uptoBulkAll ds ≤ 1048576)
def OpenSpec.upto (s : _root_.Go.ChangeSpec) : _root_.Go.OpenSpec := { _root_.Go.OpenSpec.ofChange s with cond := some uptoSmall }

/-- 'sprlaw4.PunyCodes', WHERE WHAT IT READS IS OF BULK AT MOST 1048576: true; the input reads as it did. -/
def punyCodesUptoRow : OpenClaim := { program := "ytpjajiilgojbgaa", sum := "c960667832db30786a2b31208d940629bee41f8496e06600b702f18ce0e3e8f2", func := "springhouse/sprlaw4.PunyCodes", spec := "punyCodes", inPlace := ["slices.overlaps[int]"], apart := false, narrowed := true }
def PunyCodesUptoSaid : Prop := punyCodesUptoRow.holds Try.pinned (OpenSpec.upto punyCodesSpec)

/-- 'sprlaw4.PunyBack', WHERE WHAT IT READS IS OF BULK AT MOST 1048576: true; the input reads as it did. -/
def punyBackUptoRow : OpenClaim := { program := "ytpjajiilgojbgaa", sum := "c960667832db30786a2b31208d940629bee41f8496e06600b702f18ce0e3e8f2", func := "springhouse/sprlaw4.PunyBack", spec := "punyBack", inPlace := ["slices.overlaps[int]"], apart := false, narrowed := true }
def PunyBackUptoSaid : Prop := punyBackUptoRow.holds Try.pinned (OpenSpec.upto punyBackSpec)

/-- 'sprlaw4.PunyPlain', WHERE WHAT IT READS IS OF BULK AT MOST 1048576: true; the input reads as it did. -/
def punyPlainUptoRow : OpenClaim := { program := "ytpjajiilgojbgaa", sum := "c960667832db30786a2b31208d940629bee41f8496e06600b702f18ce0e3e8f2", func := "springhouse/sprlaw4.PunyPlain", spec := "punyPlain", inPlace := ["slices.overlaps[int]"], apart := false, narrowed := true }
def PunyPlainUptoSaid : Prop := punyPlainUptoRow.holds Try.pinned (OpenSpec.upto punyPlainSpec)

/-- 'sprlaw4.PunyOrder', WHERE WHAT IT READS IS OF BULK AT MOST 1048576: true; the input reads as it did. -/
def punyOrderUptoRow : OpenClaim := { program := "ytpjajiilgojbgaa", sum := "c960667832db30786a2b31208d940629bee41f8496e06600b702f18ce0e3e8f2", func := "springhouse/sprlaw4.PunyOrder", spec := "punyOrder", inPlace := ["slices.overlaps[int]"], apart := false, narrowed := true }
def PunyOrderUptoSaid : Prop := punyOrderUptoRow.holds Try.pinned (OpenSpec.upto punyOrderSpec)

end Rows
end Go.Proofs.Ytpjajiilgojbgaa
