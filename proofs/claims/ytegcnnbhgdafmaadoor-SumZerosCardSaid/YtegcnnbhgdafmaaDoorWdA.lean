/- The walks of saucierlaw06.Bools, Regs, Same. -/
import Derived.Test.YtegcnnbhgdafmaaDoorChecked
import Derived.Test.YtegcnnbhgdafmaaDoorBase
import Derived.Test.YtegcnnbhgdafmaaDoorWdMath
import Derived.WalkKit
import Derived.Below
import Derived.BigQuiet
import Derived.Deep.QuietTactic
import Derived.Lib.Hide
import Derived.Laws.BitsAllLaws
set_option linter.unusedVariables false
set_option linter.unusedSimpArgs false
namespace Go.Proofs.YtegcnnbhgdafmaaDoor.WdW
open Go.RowKit Go.Proofs.YtegcnnbhgdafmaaDoor Go.Proofs.YtegcnnbhgdafmaaDoor.Wd
theorem u8 : Elem Tryd.prog 23 5 1 := .mk' (z := .int .u8 0) Tryd.underlying23 (by kernel_rfl) rfl
theorem u16 : Elem Tryd.prog 24 36 2 := Elem.mk' (z := .int .u16 0) Tryd.underlying24 (by kernel_rfl) rfl
theorem ret_bool {a b : Bool} (h : a = b) : Ending.returned (.bool a) = .returned (.bool b) := by rw [h]
end Go.Proofs.YtegcnnbhgdafmaaDoor.WdW
