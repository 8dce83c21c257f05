/- The program's functions: the contracts that the statements' walks want. -/
import Derived.Test.YtghhdccnocpobaaDoorIpWt
import Derived.Test.YtghhdccnocpobaaDoorIpWl
import Derived.Test.YtghhdccnocpobaaDoorIpWh
import Derived.Test.YtghhdccnocpobaaDoorIpWd
namespace Go.Proofs.YtghhdccnocpobaaDoor
open Go.RowKit
set_option linter.unusedVariables false
set_option maxRecDepth 20000
theorem ip6_calls (s : ByteArray) (w : World) (hs : s.size ≤ 100000) (ht : Tab w) : Calls Tryd.prog 12 #[.string s] w fun e w' => P6Post s.data.toList w e w' := p6in_calls s w hs ht.1
/- Worlds that a call at hand may stand in. -/
theorem btw {a b : World} (h : Hid (Below a.heap.size a b)) : Below a.heap.size a b := h.out
theorem btw_al {a b : World} (h : Hid (Below a.heap.size a b)) (o : Obj) : Below a.heap.size a (b.alloc o) := h.out.alloc h.out.size o
theorem btw_dr {a b : World} (h : Hid (Below a.heap.size a b)) : Below a.heap.size a b.drew := h.out.drew
theorem btw_ad {a b : World} (h : Hid (Below a.heap.size a b)) (o : Obj) : Below a.heap.size a (b.alloc o).drew := (h.out.alloc h.out.size o).drew
end Go.Proofs.YtghhdccnocpobaaDoor
