/- The walk of saucierref03.Parse, all ways. -/
import Derived.Test.YtjfhfgchglaoiaaGreatRepW5
import Derived.Test.YtjfhfgchglaoiaaGreatRepW6
set_option linter.unusedVariables false
set_option linter.unusedSimpArgs false
namespace Go.Proofs.YtjfhfgchglaoiaaGreat.AskW
open Go.RowKit Go.Proofs.YtjfhfgchglaoiaaGreat Go.Proofs.YtjfhfgchglaoiaaGreat.Ask
end Go.Proofs.YtjfhfgchglaoiaaGreat.AskW
