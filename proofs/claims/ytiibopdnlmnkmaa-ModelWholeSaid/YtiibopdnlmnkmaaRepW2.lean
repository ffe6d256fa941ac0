/- The walk of saucierref03.Right. -/
import Derived.Test.YtiibopdnlmnkmaaRepMath
import Derived.Deep.QuietTactic
import Derived.BigQuiet
set_option linter.unusedVariables false
set_option linter.unusedSimpArgs false
namespace Go.Proofs.Ytiibopdnlmnkmaa.AskW
open Go.RowKit Go.Proofs.Ytiibopdnlmnkmaa Go.Proofs.Ytiibopdnlmnkmaa.Ask
end Go.Proofs.Ytiibopdnlmnkmaa.AskW
