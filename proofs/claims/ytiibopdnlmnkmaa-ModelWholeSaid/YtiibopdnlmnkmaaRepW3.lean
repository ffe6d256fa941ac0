/- The walk of saucierref03.Bytes. -/
import Derived.Test.YtiibopdnlmnkmaaBase
import Derived.Test.YtiibopdnlmnkmaaAG7
import Derived.Test.YtiibopdnlmnkmaaAG3
import Derived.Test.YtiibopdnlmnkmaaAG6
import Derived.Test.YtiibopdnlmnkmaaRepW2
set_option linter.unusedVariables false
set_option linter.unusedSimpArgs false
namespace Go.Proofs.Ytiibopdnlmnkmaa.AskW
open Go.RowKit Go.Proofs.Ytiibopdnlmnkmaa Go.Proofs.Ytiibopdnlmnkmaa.Ask
theorem two_new (w0 w : World) (hb : Below w0.heap.size w0 w) (f N g : Nat) (hg : g = w.heap.size) : Has w0 (w.alloc (.cells #[.int .u8 (f : Nat), .int .u8 (N : Nat)] 5)) 5 (.slice (some ⟨g, 0, none⟩) 2 2) 2 (bs [f, N]) := by
  subst hg
  exact Has.of_row (w0 := w0) (hb.new (.cells #[.int .u8 (f : Nat), .int .u8 (N : Nat)] 5)) (heap_alloc_new w (.cells #[.int .u8 (f : Nat), .int .u8 (N : Nat)] 5)) hb.size (n := 2) rfl (by simp [maxLen])
end Go.Proofs.Ytiibopdnlmnkmaa.AskW
