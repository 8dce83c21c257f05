/-
  DERIVED. GIVEN WITH THE SEED: THE CARDS: each row of YtfglanhbjmlclaaDoorRows.lean that lists a variable, with what it lists TIED to the program's text (the seventh form; the later family's looks); each row that meets fmt, with fmt's text TOLD by the authors' own Lean function (tested against real Go, not proved from fmt's source: count such statements apart). THE CARD IS WHAT COUNTS. Prove the row's statement (the work); the ties are given (YtfglanhbjmlclaaDoorTie.lean); close each card by the builder's one call (the guide's Derived/Test/ToyasCard.lean, 'card_holds'). Laid BY PROGRAM, IN A SANDBOX (cutbox-door.mjs). By AI agents, Wed Nov 11 2026. No macro, syntax, notation, axiom, sorry.
-/
import Derived.Test.YtfglanhbjmlclaaDoorRows
import GoSem.ClaimSeven
namespace Go.Proofs.YtfglanhbjmlclaaDoor
namespace Rows

/-- THE TIED CARD OF 'sprlaw6.PctSets'. -/
def pctSetsCard : Claim7 := { stood := { row := pctSetsRow, standIns := [], harness := (true, "246013f076802937f6c9ae1a4ec67502974cbab92ae64090d127e888f106524c"), looks := false }, kinds := [], alts := [], laidByText := true, laidKinds := [.data], laidTests := true, laidLooks := .later }
def PctSetsCardSaid : Prop := Claim7.holds Tryd.pinned (.plain (OpenSpec.ofChange pctSetsSpec)) pctSetsCard

/-- THE TIED CARD OF 'sprlaw6.PctCodes'. -/
def pctCodesCard : Claim7 := { stood := { row := pctCodesRow, standIns := [], harness := (true, "246013f076802937f6c9ae1a4ec67502974cbab92ae64090d127e888f106524c"), looks := false }, kinds := [], alts := [], laidByText := true, laidKinds := [.data], laidTests := true, laidLooks := .later }
def PctCodesCardSaid : Prop := Claim7.holds Tryd.pinned (.plain (OpenSpec.ofChange pctCodesSpec)) pctCodesCard

/-- THE TIED CARD OF 'sprlaw6.PctBack'. -/
def pctBackCard : Claim7 := { stood := { row := pctBackRow, standIns := [], harness := (true, "246013f076802937f6c9ae1a4ec67502974cbab92ae64090d127e888f106524c"), looks := false }, kinds := [], alts := [], laidByText := true, laidKinds := [.data], laidTests := true, laidLooks := .later }
def PctBackCardSaid : Prop := Claim7.holds Tryd.pinned (.plain (OpenSpec.ofChange pctBackSpec)) pctBackCard

/-- THE TIED CARD OF 'sprlaw6.PctRise'. -/
def pctRiseCard : Claim7 := { stood := { row := pctRiseRow, standIns := [], harness := (true, "246013f076802937f6c9ae1a4ec67502974cbab92ae64090d127e888f106524c"), looks := false }, kinds := [], alts := [], laidByText := true, laidKinds := [.data], laidTests := true, laidLooks := .later }
def PctRiseCardSaid : Prop := Claim7.holds Tryd.pinned (.plain (OpenSpec.ofChange pctRiseSpec)) pctRiseCard

/-- THE TIED CARD OF 'sprlaw6.PctPlain'. -/
def pctPlainCard : Claim7 := { stood := { row := pctPlainRow, standIns := [], harness := (true, "246013f076802937f6c9ae1a4ec67502974cbab92ae64090d127e888f106524c"), looks := false }, kinds := [], alts := [], laidByText := true, laidKinds := [.data], laidTests := true, laidLooks := .later }
def PctPlainCardSaid : Prop := Claim7.holds Tryd.pinned (.plain (OpenSpec.ofChange pctPlainSpec)) pctPlainCard

/-- THE SECOND FORM's CARD OF 'sprlaw6.PctSets'. -/
def pctSetsUptoCard : Claim7 := { stood := { row := pctSetsUptoRow, standIns := [], harness := (true, "246013f076802937f6c9ae1a4ec67502974cbab92ae64090d127e888f106524c"), looks := false }, kinds := [], alts := [], laidByText := true, laidKinds := [.data], laidTests := true, laidLooks := .later }
def PctSetsUptoCardSaid : Prop := Claim7.holds Tryd.pinned (.plain (OpenSpec.upto pctSetsSpec)) pctSetsUptoCard

/-- THE SECOND FORM's CARD OF 'sprlaw6.PctCodes'. -/
def pctCodesUptoCard : Claim7 := { stood := { row := pctCodesUptoRow, standIns := [], harness := (true, "246013f076802937f6c9ae1a4ec67502974cbab92ae64090d127e888f106524c"), looks := false }, kinds := [], alts := [], laidByText := true, laidKinds := [.data], laidTests := true, laidLooks := .later }
def PctCodesUptoCardSaid : Prop := Claim7.holds Tryd.pinned (.plain (OpenSpec.upto pctCodesSpec)) pctCodesUptoCard

/-- THE SECOND FORM's CARD OF 'sprlaw6.PctBack'. -/
def pctBackUptoCard : Claim7 := { stood := { row := pctBackUptoRow, standIns := [], harness := (true, "246013f076802937f6c9ae1a4ec67502974cbab92ae64090d127e888f106524c"), looks := false }, kinds := [], alts := [], laidByText := true, laidKinds := [.data], laidTests := true, laidLooks := .later }
def PctBackUptoCardSaid : Prop := Claim7.holds Tryd.pinned (.plain (OpenSpec.upto pctBackSpec)) pctBackUptoCard

/-- THE SECOND FORM's CARD OF 'sprlaw6.PctRise'. -/
def pctRiseUptoCard : Claim7 := { stood := { row := pctRiseUptoRow, standIns := [], harness := (true, "246013f076802937f6c9ae1a4ec67502974cbab92ae64090d127e888f106524c"), looks := false }, kinds := [], alts := [], laidByText := true, laidKinds := [.data], laidTests := true, laidLooks := .later }
def PctRiseUptoCardSaid : Prop := Claim7.holds Tryd.pinned (.plain (OpenSpec.upto pctRiseSpec)) pctRiseUptoCard

/-- THE SECOND FORM's CARD OF 'sprlaw6.PctPlain'. -/
def pctPlainUptoCard : Claim7 := { stood := { row := pctPlainUptoRow, standIns := [], harness := (true, "246013f076802937f6c9ae1a4ec67502974cbab92ae64090d127e888f106524c"), looks := false }, kinds := [], alts := [], laidByText := true, laidKinds := [.data], laidTests := true, laidLooks := .later }
def PctPlainUptoCardSaid : Prop := Claim7.holds Tryd.pinned (.plain (OpenSpec.upto pctPlainSpec)) pctPlainUptoCard
end Rows
end Go.Proofs.YtfglanhbjmlclaaDoor
