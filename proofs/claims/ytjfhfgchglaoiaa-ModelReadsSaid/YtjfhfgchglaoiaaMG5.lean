/- Merged: MoG MoH MoI. -/
import Derived.Test.YtjfhfgchglaoiaaMG4
import Derived.Deep.RegionLaw
/- The walk of saucierref07.Do: what is written alone. -/
set_option linter.unusedVariables false
set_option linter.unusedSimpArgs false
namespace Go.Proofs.Ytjfhfgchglaoiaa.MoW
open Go.RowKit Go.Proofs.Ytjfhfgchglaoiaa Go.Proofs.Ytjfhfgchglaoiaa.Mo Go.Proofs.Ytjfhfgchglaoiaa.Ask Go.Proofs.Ytjfhfgchglaoiaa.AskW
end Go.Proofs.Ytjfhfgchglaoiaa.MoW
/- The walk of saucierref07.Do: function 1. -/
set_option linter.unusedVariables false
set_option linter.unusedSimpArgs false
namespace Go.Proofs.Ytjfhfgchglaoiaa.MoW
open Go.RowKit Go.Proofs.Ytjfhfgchglaoiaa Go.Proofs.Ytjfhfgchglaoiaa.Mo Go.Proofs.Ytjfhfgchglaoiaa.Ask Go.Proofs.Ytjfhfgchglaoiaa.AskW
end Go.Proofs.Ytjfhfgchglaoiaa.MoW
/- The walk of saucierref07.Do: function 2. -/
set_option linter.unusedVariables false
set_option linter.unusedSimpArgs false
namespace Go.Proofs.Ytjfhfgchglaoiaa.MoW
open Go.RowKit Go.Proofs.Ytjfhfgchglaoiaa Go.Proofs.Ytjfhfgchglaoiaa.Mo Go.Proofs.Ytjfhfgchglaoiaa.Ask Go.Proofs.Ytjfhfgchglaoiaa.AskW
end Go.Proofs.Ytjfhfgchglaoiaa.MoW
