/- The walk of saucierref03.Parse: words that were read. -/
import Derived.Test.YtjfhfgchglaoiaaGreatRepW4
import Derived.Test.YtjfhfgchglaoiaaGreatAG10
import Derived.Deep.RegionLaw
set_option linter.unusedVariables false
set_option linter.unusedSimpArgs false
namespace Go.Proofs.YtjfhfgchglaoiaaGreat.AskW
open Go.RowKit Go.Proofs.YtjfhfgchglaoiaaGreat Go.Proofs.YtjfhfgchglaoiaaGreat.Ask
end Go.Proofs.YtjfhfgchglaoiaaGreat.AskW
