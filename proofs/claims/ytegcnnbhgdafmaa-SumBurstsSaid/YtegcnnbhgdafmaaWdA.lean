/- The walks of saucierlaw06.Bools, Regs, Same. -/
import Derived.Test.YtegcnnbhgdafmaaChecked
import Derived.Test.YtegcnnbhgdafmaaBase
import Derived.Test.YtegcnnbhgdafmaaWdMath
import Derived.WalkKit
import Derived.Below
import Derived.BigQuiet
import Derived.Deep.QuietTactic
import Derived.Lib.Hide
import Derived.Laws.BitsAllLaws
set_option linter.unusedVariables false
set_option linter.unusedSimpArgs false
namespace Go.Proofs.Ytegcnnbhgdafmaa.WdW
open Go.RowKit Go.Proofs.Ytegcnnbhgdafmaa Go.Proofs.Ytegcnnbhgdafmaa.Wd
theorem u8 : Elem Try.prog 22 5 1 := .mk' (z := .int .u8 0) Try.underlying22 (by kernel_rfl) rfl
theorem u16 : Elem Try.prog 30 23 2 := Elem.mk' (z := .int .u16 0) Try.underlying30 (by kernel_rfl) rfl
theorem ret_bool {a b : Bool} (h : a = b) : Ending.returned (.bool a) = .returned (.bool b) := by rw [h]
end Go.Proofs.Ytegcnnbhgdafmaa.WdW
