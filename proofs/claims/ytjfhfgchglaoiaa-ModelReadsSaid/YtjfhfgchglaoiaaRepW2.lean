/- The walk of saucierref03.Right. -/
import Derived.Test.YtjfhfgchglaoiaaRepMath
import Derived.Deep.QuietTactic
import Derived.BigQuiet
set_option linter.unusedVariables false
set_option linter.unusedSimpArgs false
namespace Go.Proofs.Ytjfhfgchglaoiaa.AskW
open Go.RowKit Go.Proofs.Ytjfhfgchglaoiaa Go.Proofs.Ytjfhfgchglaoiaa.Ask
end Go.Proofs.Ytjfhfgchglaoiaa.AskW
