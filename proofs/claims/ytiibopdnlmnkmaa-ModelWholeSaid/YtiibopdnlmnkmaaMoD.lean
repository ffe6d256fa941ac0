/- The walks of saucierref07: Right, Check. -/
import Derived.Test.YtiibopdnlmnkmaaMG1
import Derived.Test.YtiibopdnlmnkmaaMG3
import Derived.Test.YtiibopdnlmnkmaaAskW14
import Derived.Test.YtiibopdnlmnkmaaRepW8
import Derived.Test.YtiibopdnlmnkmaaRepW3
set_option linter.unusedVariables false
set_option linter.unusedSimpArgs false
namespace Go.Proofs.Ytiibopdnlmnkmaa.MoW
open Go.RowKit Go.Proofs.Ytiibopdnlmnkmaa Go.Proofs.Ytiibopdnlmnkmaa.Mo Go.Proofs.Ytiibopdnlmnkmaa.Ask Go.Proofs.Ytiibopdnlmnkmaa.AskW
/-- Two boxes that a call has made at its beginning. -/
structure Bx (w w1 : World) (X Y : Obj) : Prop where
  x : w1.heap[w.heap.size]? = some X
  y : w1.heap[w.heap.size + 1]? = some Y
  bel : Below w.heap.size w w1
  sz : w.heap.size + 2 ≤ w1.heap.size
theorem Bx.first {w w1 : World} {X Y : Obj} (b : Below ((w.alloc X).alloc Y).heap.size ((w.alloc X).alloc Y) w1) : Bx w w1 X Y :=
  ⟨b.row (by simp; omega) (row_alloc (heap_alloc_new w X) Y), b.row (by simp) (heap_alloc2_new w X Y), (((Below.refl _ w).new _).new _).call b, by have := b.size; simp at this; omega⟩
theorem Bx.call {w w1 w2 : World} {X Y : Obj} (h : Bx w w1 X Y) (b : Below w1.heap.size w1 w2) : Bx w w2 X Y :=
  ⟨b.row (row_lt h.x) h.x, b.row (row_lt h.y) h.y, h.bel.call b, Nat.le_trans h.sz b.size⟩
theorem Bx.drew {w w1 : World} {X Y : Obj} (h : Bx w w1 X Y) : Bx w w1.drew X Y := ⟨h.x, h.y, h.bel.drew, h.sz⟩
theorem ret_u8 {a b : Int} (h : a = b) : Ending.returned (.int .u8 a) = .returned (.int .u8 b) := by rw [h]
structure _root_.Go.Proofs.Ytiibopdnlmnkmaa.Mo.Sp.Small (v : Sp) : Prop where
  a : v.a.n ≤ 100000
  b : v.b.n ≤ 100000
  c : v.c.n ≤ 100000
  d : v.d.n ≤ 100000
end Go.Proofs.Ytiibopdnlmnkmaa.MoW
