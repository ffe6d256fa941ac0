/- The walks of layer 6's reference: Wide, Signed, PackRegs, Regs. -/
import Derived.RegionTactic
import Derived.Deep.RegionLaw
import Derived.Test.YtegcnnbhgdafmaaDoorWdA
import Derived.Test.YtegcnnbhgdafmaaDoorBase
set_option linter.unusedVariables false
set_option linter.unusedSimpArgs false
namespace Go.Proofs.YtegcnnbhgdafmaaDoor.WdW
open Go.RowKit Go.Proofs.YtegcnnbhgdafmaaDoor Go.Proofs.YtegcnnbhgdafmaaDoor.Wd
theorem ret_i64 {a b : Int} (h : a = b) : Ending.returned (.int .i64 a) = .returned (.int .i64 b) := by rw [h]
/-- Registers of the call's own, and a flag. -/
def RetRegs (w : World) (r : List Nat × Bool) (e : Ending) (w' : World) : Prop := ∃ v, e = .returned (.tuple #[v, .bool r.2]) ∧ Has w w' 36 v r.1.length (ws r.1)
theorem ret_tuple_bool {v : Value} {a b : Bool} (h : a = b) : Ending.returned (.tuple #[v, .bool a]) = .returned (.tuple #[v, .bool b]) := by rw [h]
theorem half_pow (X j : Nat) : X / 2 ^ (j + 1) = X / 2 ^ j / 2 := by rw [Nat.pow_succ, Nat.div_div_eq_div_mul]
end Go.Proofs.YtegcnnbhgdafmaaDoor.WdW
