/-
  DERIVED. GIVEN WITH THE SEED: THE CARDS: each row of YtbaomapkggomfabDoorRows.lean that lists a variable, with what it lists TIED to the program's text (the seventh form; the later family's looks); each row that meets fmt, with fmt's text TOLD by the authors' own Lean function (tested against real Go, not proved from fmt's source: count such statements apart). THE CARD IS WHAT COUNTS. Prove the row's statement (the work); the ties are given (YtbaomapkggomfabDoorTie.lean); close each card by the builder's one call (the guide's Derived/Test/ToyasCard.lean, 'card_holds'). Laid BY PROGRAM, IN A SANDBOX (cutbox-door.mjs). By AI agents, Wed Nov 11 2026. No macro, syntax, notation, axiom, sorry.
-/
import Derived.Test.YtbaomapkggomfabDoorRows
import GoSem.ClaimSeven
namespace Go.Proofs.YtbaomapkggomfabDoor
namespace Rows

/-- THE TIED CARD OF 'sprlaw1.BitsSaturate'. -/
def bitsSaturateCard : Claim7 := { stood := { row := bitsSaturateRow, standIns := [], harness := (true, "02d36bab974dd4a63eafc094ed74d13053bafd0c2e08196b26a73dde1f0e3a30"), looks := false }, kinds := [], alts := [], laidByText := true, laidKinds := [.data], laidTests := true, laidLooks := .later }
def BitsSaturateCardSaid : Prop := Claim7.holds Tryd.pinned (.plain (OpenSpec.ofChange bitsSaturateSpec)) bitsSaturateCard

/-- THE TIED CARD OF 'sprlaw1.BitsCrcs'. -/
def bitsCrcsCard : Claim7 := { stood := { row := bitsCrcsRow, standIns := [], harness := (true, "02d36bab974dd4a63eafc094ed74d13053bafd0c2e08196b26a73dde1f0e3a30"), looks := false }, kinds := [], alts := [], laidByText := true, laidKinds := [.data], laidTests := true, laidLooks := .later }
def BitsCrcsCardSaid : Prop := Claim7.holds Tryd.pinned (.plain (OpenSpec.ofChange bitsCrcsSpec)) bitsCrcsCard

/-- THE SECOND FORM's CARD OF 'sprlaw1.BitsSaturate'. -/
def bitsSaturateUptoCard : Claim7 := { stood := { row := bitsSaturateUptoRow, standIns := [], harness := (true, "02d36bab974dd4a63eafc094ed74d13053bafd0c2e08196b26a73dde1f0e3a30"), looks := false }, kinds := [], alts := [], laidByText := true, laidKinds := [.data], laidTests := true, laidLooks := .later }
def BitsSaturateUptoCardSaid : Prop := Claim7.holds Tryd.pinned (.plain (OpenSpec.upto bitsSaturateSpec)) bitsSaturateUptoCard

/-- THE SECOND FORM's CARD OF 'sprlaw1.BitsCrcs'. -/
def bitsCrcsUptoCard : Claim7 := { stood := { row := bitsCrcsUptoRow, standIns := [], harness := (true, "02d36bab974dd4a63eafc094ed74d13053bafd0c2e08196b26a73dde1f0e3a30"), looks := false }, kinds := [], alts := [], laidByText := true, laidKinds := [.data], laidTests := true, laidLooks := .later }
def BitsCrcsUptoCardSaid : Prop := Claim7.holds Tryd.pinned (.plain (OpenSpec.upto bitsCrcsSpec)) bitsCrcsUptoCard
end Rows
end Go.Proofs.YtbaomapkggomfabDoor
