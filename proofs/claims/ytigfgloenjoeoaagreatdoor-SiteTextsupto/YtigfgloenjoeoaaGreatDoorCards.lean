/-
  DERIVED. GIVEN WITH THE SEED: THE CARDS: each row of YtigfgloenjoeoaaGreatDoorRows.lean that lists a variable, with what it lists TIED to the program's text (the seventh form; the later family's looks); each row that meets fmt, with fmt's text TOLD by the authors' own Lean function (tested against real Go, not proved from fmt's source: count such statements apart). THE CARD IS WHAT COUNTS. Prove the row's statement (the work); the ties are given (YtigfgloenjoeoaaGreatDoorTie.lean); close each card by the builder's one call (the guide's Derived/Test/ToyasCard.lean, 'card_holds'). Laid BY PROGRAM, IN A SANDBOX (cutbox-door.mjs). By AI agents, Wed Nov 11 2026. No macro, syntax, notation, axiom, sorry.
-/
import Derived.Test.YtigfgloenjoeoaaGreatDoorRows
import GoSem.ClaimSeven
namespace Go.Proofs.YtigfgloenjoeoaaGreatDoor
namespace Rows

/-- THE TIED CARD OF 'sprlaw11.SiteAsks'. -/
def siteAsksCard : Claim7 := { stood := { row := siteAsksRow, standIns := [], harness := (true, "285f3b49c13eff27b3282140bdc467e8d66e08eb82d4f6903f2f6bc789c5ec55"), looks := false }, kinds := [], alts := [], laidByText := true, laidKinds := [.data, .data, .data, .data, .data, .pinned], laidTests := true, laidLooks := .later }
def SiteAsksCardSaid : Prop := Claim7.holds Tryz.pinned (.plain (OpenSpec.ofChange siteAsksSpec)) siteAsksCard

/-- THE TIED CARD OF 'sprlaw11.SiteSame'. -/
def siteSameCard : Claim7 := { stood := { row := siteSameRow, standIns := [], harness := (true, "285f3b49c13eff27b3282140bdc467e8d66e08eb82d4f6903f2f6bc789c5ec55"), looks := false }, kinds := [], alts := [], laidByText := true, laidKinds := [.data, .data, .pinned], laidTests := true, laidLooks := .later }
def SiteSameCardSaid : Prop := Claim7.holds Tryz.pinned (.plain (OpenSpec.ofChange siteSameSpec)) siteSameCard

/-- THE TIED CARD OF 'sprlaw11.SiteLabels'. -/
def siteLabelsCard : Claim7 := { stood := { row := siteLabelsRow, standIns := [], harness := (true, "285f3b49c13eff27b3282140bdc467e8d66e08eb82d4f6903f2f6bc789c5ec55"), looks := false }, kinds := [], alts := [], laidByText := true, laidKinds := [.data, .data, .pinned], laidTests := true, laidLooks := .later }
def SiteLabelsCardSaid : Prop := Claim7.holds Tryz.pinned (.plain (OpenSpec.ofChange siteLabelsSpec)) siteLabelsCard

/-- THE TIED CARD OF 'sprlaw11.SiteTexts'. -/
def siteTextsCard : Claim7 := { stood := { row := siteTextsRow, standIns := [], harness := (true, "285f3b49c13eff27b3282140bdc467e8d66e08eb82d4f6903f2f6bc789c5ec55"), looks := false }, kinds := [], alts := [], laidByText := true, laidKinds := [.data, .data, .data, .data, .data, .pinned], laidTests := true, laidLooks := .later }
def SiteTextsCardSaid : Prop := Claim7.holds Tryz.pinned (.plain (OpenSpec.ofChange siteTextsSpec)) siteTextsCard

/-- THE SECOND FORM's CARD OF 'sprlaw11.SiteAsks'. -/
def siteAsksUptoCard : Claim7 := { stood := { row := siteAsksUptoRow, standIns := [], harness := (true, "285f3b49c13eff27b3282140bdc467e8d66e08eb82d4f6903f2f6bc789c5ec55"), looks := false }, kinds := [], alts := [], laidByText := true, laidKinds := [.data, .data, .data, .data, .data, .pinned], laidTests := true, laidLooks := .later }
def SiteAsksUptoCardSaid : Prop := Claim7.holds Tryz.pinned (.plain (OpenSpec.upto siteAsksSpec)) siteAsksUptoCard

/-- THE SECOND FORM's CARD OF 'sprlaw11.SiteSame'. -/
def siteSameUptoCard : Claim7 := { stood := { row := siteSameUptoRow, standIns := [], harness := (true, "285f3b49c13eff27b3282140bdc467e8d66e08eb82d4f6903f2f6bc789c5ec55"), looks := false }, kinds := [], alts := [], laidByText := true, laidKinds := [.data, .data, .pinned], laidTests := true, laidLooks := .later }
def SiteSameUptoCardSaid : Prop := Claim7.holds Tryz.pinned (.plain (OpenSpec.upto siteSameSpec)) siteSameUptoCard

/-- THE SECOND FORM's CARD OF 'sprlaw11.SiteLabels'. -/
def siteLabelsUptoCard : Claim7 := { stood := { row := siteLabelsUptoRow, standIns := [], harness := (true, "285f3b49c13eff27b3282140bdc467e8d66e08eb82d4f6903f2f6bc789c5ec55"), looks := false }, kinds := [], alts := [], laidByText := true, laidKinds := [.data, .data, .pinned], laidTests := true, laidLooks := .later }
def SiteLabelsUptoCardSaid : Prop := Claim7.holds Tryz.pinned (.plain (OpenSpec.upto siteLabelsSpec)) siteLabelsUptoCard

/-- THE SECOND FORM's CARD OF 'sprlaw11.SiteTexts'. -/
def siteTextsUptoCard : Claim7 := { stood := { row := siteTextsUptoRow, standIns := [], harness := (true, "285f3b49c13eff27b3282140bdc467e8d66e08eb82d4f6903f2f6bc789c5ec55"), looks := false }, kinds := [], alts := [], laidByText := true, laidKinds := [.data, .data, .data, .data, .data, .pinned], laidTests := true, laidLooks := .later }
def SiteTextsUptoCardSaid : Prop := Claim7.holds Tryz.pinned (.plain (OpenSpec.upto siteTextsSpec)) siteTextsUptoCard
end Rows
end Go.Proofs.YtigfgloenjoeoaaGreatDoor
