/- The walk of words' read. -/
import Derived.Test.YtjfhfgchglaoiaaGreatRepF
import Derived.Test.YtjfhfgchglaoiaaGreatAG10
import Derived.Test.YtjfhfgchglaoiaaGreatRepD
import Derived.Test.YtjfhfgchglaoiaaGreatAG2
import Derived.Deep.RegionHeld3
import Derived.Deep.RegionLaw
import Derived.Deep.DeepCutAuto
set_option linter.unusedVariables false
set_option linter.unusedSimpArgs false
namespace Go.Proofs.YtjfhfgchglaoiaaGreat.AskW
open Go.RowKit Go.Proofs.YtjfhfgchglaoiaaGreat Go.Proofs.YtjfhfgchglaoiaaGreat.Ask
theorem Rt.other {w W : World} {k k' i : Nat} {cs : Array Value} {v : Value} (S : Rt w W k cs) (hne : k ≠ k') (hk' : w.heap.size ≤ k' := by omega) : Rt w (W.setCell ⟨k', i, none⟩ v) k cs :=
  ⟨S.bel.setCell hk' v, (grown_setCell W k' i v).row hne S.ra, S.hk⟩
theorem pairs_snoc (ys : List Nat) (j : Nat) (h : 2 * j + 1 < ys.length) : (pairs ys).take (j + 1) = (pairs ys).take j ++ [atF ys (2 * j)] := by
  have hl : j < (pairs ys).length := by rw [pairs_len]; omega
  rw [take_snoc hl, pairs_get _ _ h, atF_eq (by omega)]
end Go.Proofs.YtjfhfgchglaoiaaGreat.AskW
