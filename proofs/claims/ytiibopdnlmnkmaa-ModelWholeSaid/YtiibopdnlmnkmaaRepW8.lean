/- The walk of saucierref03.Echo. -/
import Derived.Test.YtiibopdnlmnkmaaRepJ
import Derived.Test.YtiibopdnlmnkmaaAG7
import Derived.Test.YtiibopdnlmnkmaaAG6
import Derived.Deep.RegionHeld3
set_option linter.unusedVariables false
set_option linter.unusedSimpArgs false
namespace Go.Proofs.Ytiibopdnlmnkmaa.AskW
open Go.RowKit Go.Proofs.Ytiibopdnlmnkmaa Go.Proofs.Ytiibopdnlmnkmaa.Ask
theorem row_drew {W : World} {o : Obj} {g : Nat} (h : W.heap[g]? = some o) : W.drew.heap[g]? = some o := h
theorem below_new {B : Nat} {a w : World} (hB : B ≤ a.heap.size) (h : Below B a w) (o : Obj) : Below B a (w.alloc o) := h.alloc (Nat.le_trans hB h.size) o
end Go.Proofs.Ytiibopdnlmnkmaa.AskW
