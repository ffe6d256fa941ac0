/- The walks of layer 6's reference: Bits. -/
import Derived.Test.YtegcnnbhgdafmaaDoorWdC
set_option linter.unusedVariables false
set_option linter.unusedSimpArgs false
namespace Go.Proofs.YtegcnnbhgdafmaaDoor.WdW
open Go.RowKit Go.Proofs.YtegcnnbhgdafmaaDoor Go.Proofs.YtegcnnbhgdafmaaDoor.Wd Go.Proofs.YtegcnnbhgdafmaaDoor.Ask
/-- Bits of the call's own. -/
def RetBits (w : World) (r : List Bool) (e : Ending) (w' : World) : Prop := ∃ v, e = .returned v ∧ Has w w' 4 v r.length (bl r)
theorem RetBits.none {w w' : World} (h : Below w.heap.size w w') : RetBits w [] (.returned (.slice none 0 0)) w' := ⟨_, rfl, Has.nil_ h _⟩
end Go.Proofs.YtegcnnbhgdafmaaDoor.WdW
