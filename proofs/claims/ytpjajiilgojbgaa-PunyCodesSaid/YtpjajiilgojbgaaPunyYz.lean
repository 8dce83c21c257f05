/- The walk of the document's Unpuny. -/
import Derived.Test.YtpjajiilgojbgaaPunyYa
import Derived.Test.YtpjajiilgojbgaaPunyYb
namespace Go.Proofs.Ytpjajiilgojbgaa
open Go.RowKit
theorem unpuny_calls (s : ByteArray) (w : World) (hm : s.size ≤ maxLen) : Calls Try.prog 12 #[.string s] w fun e w' => DecPost (decR s) w e w' := by
  by_cases h : cutOf s = 0
  · exact unpuny_a s w hm h
  · exact unpuny_b s w hm h
end Go.Proofs.Ytpjajiilgojbgaa
