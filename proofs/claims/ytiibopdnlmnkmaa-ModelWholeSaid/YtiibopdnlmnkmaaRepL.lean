/- The walks of the third layer's said and awake. -/
import Derived.Test.YtiibopdnlmnkmaaAG6
import Derived.Test.YtiibopdnlmnkmaaRepI
import Derived.Test.YtiibopdnlmnkmaaRepK
set_option linter.unusedVariables false
set_option linter.unusedSimpArgs false
namespace Go.Proofs.Ytiibopdnlmnkmaa.AskW
open Go.RowKit Go.Proofs.Ytiibopdnlmnkmaa Go.Proofs.Ytiibopdnlmnkmaa.Ask
theorem words_then (w : World) (W : List Nat) (t : TypeId) (o : Obj) : Sl ((w.alloc (.cells (ws W).toArray t)).alloc o) ((w.alloc (.cells (ws W).toArray t)).alloc o).heap.size (some ⟨w.heap.size, 0, none⟩) W.length (ws W) := by
  have h := ((Sl.new w (ws W).toArray t (w.heap.size + 1) (by omega)).alloc (by simp) o).mono (B' := ((w.alloc (.cells (ws W).toArray t)).alloc o).heap.size) (by simp)
  simpa using h
theorem x1 : rbytesE ⟨3, 0, [], [1, 258], 0, 0⟩ = ([3, 4, 0, 1, 1, 2], 0) := by decide +kernel
theorem z1 : rparse [3, 4, 0, 1, 1, 2] = (⟨3, 0, [], [1, 258], 0, 0⟩, 0) := by decide +kernel
theorem x2 : rbytesE ⟨3, 2, [], [], 0, 0⟩ = ([131, 2], 0) := by decide +kernel
theorem z2 : rparse [131, 2] = (⟨3, 2, [], [], 0, 0⟩, 0) := by decide +kernel
theorem x3 : rbytesE ⟨15, 0, [], [], 19, 10⟩ = ([15, 0, 19, 0, 10], 0) := by decide +kernel
theorem z3 : rparse [15, 0, 19, 0, 10] = (⟨15, 0, [], [], 19, 10⟩, 0) := by decide +kernel
theorem fit1 : fitsF ⟨1, 0, 10, 0, [], []⟩ ⟨1, 0, [false, false, false, false, false, false, false, false, false, true, false, false, false, false, false, false], [], 0, 0⟩ = true := by decide +kernel
theorem fit2 : fitsF ⟨1, 0, 10, 0, [], []⟩ ⟨1, 0, [false, false, false, false, false, false, false, false, false, true, true, false, false, false, false, false], [], 0, 0⟩ = false := by decide +kernel
theorem rwf_of (f x a m : Nat) (W : List Nat) (h : f < 256 ∧ x < 256 ∧ a < 65536 ∧ m < 65536) (hW : ∀ y ∈ W, y < 65536) : Rep.Wf ⟨f, x, [], W, a, m⟩ := ⟨h.1, h.2.1, hW, h.2.2.1, h.2.2.2⟩
theorem sl_bits {w : World} {g : Nat} {cs : Array Value} {l : List Bool} {t : TypeId} (h : w.heap[g]? = some (.cells cs t (0, 0))) (e : cs = (bl l).toArray) : Sl w w.heap.size (some ⟨g, 0, none⟩) l.length (bl l) := by
  subst e
  have := Sl.of_block (B := w.heap.size) h (row_lt h)
  simpa using this
end Go.Proofs.Ytiibopdnlmnkmaa.AskW
