/- Texts of one proof, laid behind one another. -/
import Derived.Test.YtkpkfcoljccimaaBundE
import Derived.Deep.RegionHeld3
/- The walk of the document's Unpuny, without a mark. -/
namespace Go.Proofs.Ytkpkfcoljccimaa
open Go.RowKit
set_option linter.unusedVariables false
end Go.Proofs.Ytkpkfcoljccimaa
/- The walk of the document's Unpuny, with a mark. -/
namespace Go.Proofs.Ytkpkfcoljccimaa
open Go.RowKit
set_option linter.unusedVariables false
end Go.Proofs.Ytkpkfcoljccimaa
/- The walk of the document's Unpuny. -/
namespace Go.Proofs.Ytkpkfcoljccimaa
open Go.RowKit
end Go.Proofs.Ytkpkfcoljccimaa
