/- One small law on worlds: what is kept by two calls, one behind the other. -/
import Derived.Below
namespace Go.Proofs.Ytbjbjbpgmojcbaa
open Go.RowKit
theorem bch {B : Nat} {a b c : World} (h1 : Below B a b) (h2 : Below b.heap.size b c) (hB : B ≤ a.heap.size) : Below B a c := h1.trans (h2.mono (Nat.le_trans hB h1.size))
end Go.Proofs.Ytbjbjbpgmojcbaa
