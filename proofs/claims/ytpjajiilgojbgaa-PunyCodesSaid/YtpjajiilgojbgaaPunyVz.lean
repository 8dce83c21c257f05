/- The walk of the document's Puny. -/
import Derived.Test.YtpjajiilgojbgaaPunyVa
import Derived.Test.YtpjajiilgojbgaaPunyVb
namespace Go.Proofs.Ytpjajiilgojbgaa
open Go.RowKit
theorem puny_calls (v : Value) (l : List Int) (w : World) (hv : IRow w v l) :
    Calls Try.prog 10 #[v] w fun e w' => e = .returned (.tuple #[.string (encR l).1, .int .i64 (encR l).2]) ∧ Below w.heap.size w w' := by
  by_cases h : (low (nats l)).length = 0
  · exact puny_a v l w hv h
  · exact puny_b v l w hv h
end Go.Proofs.Ytpjajiilgojbgaa
