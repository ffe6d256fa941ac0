/- Merged: AskW12 AskW13. -/
import Derived.Test.YtiibopdnlmnkmaaAG9
import Derived.Deep.RegionLaw
import Derived.Deep.RegionHeld3
/- The walk of saucierref02.Parse: where words are written, function 16. -/
set_option linter.unusedVariables false
set_option linter.unusedSimpArgs false
namespace Go.Proofs.Ytiibopdnlmnkmaa.AskW
open Go.RowKit Go.Proofs.Ytiibopdnlmnkmaa Go.Proofs.Ytiibopdnlmnkmaa.Ask
theorem words_snoc (xs : List Nat) (i j : Nat) (h : i + 2 * j + 1 < xs.length) : (pairs (xs.drop i)).take (j + 1) = (pairs (xs.drop i)).take j ++ [atF xs (i + 2 * j)] := by
  have hl : j < (pairs (xs.drop i)).length := by rw [pairs_len, List.length_drop]; omega
  rw [take_snoc hl, pairs_get _ _ (by rw [List.length_drop]; omega), atF_eq (by omega)]
  simp [num, List.getElem?_drop, Nat.add_assoc]
end Go.Proofs.Ytiibopdnlmnkmaa.AskW
/- The walk of saucierref02.Parse: where words are written, function 23. -/
set_option linter.unusedVariables false
set_option linter.unusedSimpArgs false
namespace Go.Proofs.Ytiibopdnlmnkmaa.AskW
open Go.RowKit Go.Proofs.Ytiibopdnlmnkmaa Go.Proofs.Ytiibopdnlmnkmaa.Ask
end Go.Proofs.Ytiibopdnlmnkmaa.AskW
