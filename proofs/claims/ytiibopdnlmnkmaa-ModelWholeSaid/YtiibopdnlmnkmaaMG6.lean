/- Merged: MoJ MoK MoL MoM. -/
import Derived.Test.YtiibopdnlmnkmaaMG4
import Derived.Deep.RegionLaw
import Derived.Test.YtiibopdnlmnkmaaMG5
/- The walk of saucierref07.Do: function 4. -/
set_option linter.unusedVariables false
set_option linter.unusedSimpArgs false
namespace Go.Proofs.Ytiibopdnlmnkmaa.MoW
open Go.RowKit Go.Proofs.Ytiibopdnlmnkmaa Go.Proofs.Ytiibopdnlmnkmaa.Mo Go.Proofs.Ytiibopdnlmnkmaa.Ask Go.Proofs.Ytiibopdnlmnkmaa.AskW
end Go.Proofs.Ytiibopdnlmnkmaa.MoW
/- The walk of saucierref07.Do: function 3. -/
set_option linter.unusedVariables false
set_option linter.unusedSimpArgs false
namespace Go.Proofs.Ytiibopdnlmnkmaa.MoW
open Go.RowKit Go.Proofs.Ytiibopdnlmnkmaa Go.Proofs.Ytiibopdnlmnkmaa.Mo Go.Proofs.Ytiibopdnlmnkmaa.Ask Go.Proofs.Ytiibopdnlmnkmaa.AskW
end Go.Proofs.Ytiibopdnlmnkmaa.MoW
/- The walk of saucierref07.Do: function 23. -/
set_option linter.unusedVariables false
set_option linter.unusedSimpArgs false
namespace Go.Proofs.Ytiibopdnlmnkmaa.MoW
open Go.RowKit Go.Proofs.Ytiibopdnlmnkmaa Go.Proofs.Ytiibopdnlmnkmaa.Mo Go.Proofs.Ytiibopdnlmnkmaa.Ask Go.Proofs.Ytiibopdnlmnkmaa.AskW
end Go.Proofs.Ytiibopdnlmnkmaa.MoW
/- The walks of saucierref07.Do (put together) and Serve. -/
set_option linter.unusedVariables false
set_option linter.unusedSimpArgs false
namespace Go.Proofs.Ytiibopdnlmnkmaa.MoW
open Go.RowKit Go.Proofs.Ytiibopdnlmnkmaa Go.Proofs.Ytiibopdnlmnkmaa.Mo Go.Proofs.Ytiibopdnlmnkmaa.Ask Go.Proofs.Ytiibopdnlmnkmaa.AskW
/-- What is answered: a memory, and bytes. -/
def RetSv (w : World) (r : Mem × List Nat) (e : Ending) (w' : World) : Prop := ∃ (y : Sp) (A : Option Addr) (n c : Nat), e = .returned (.tuple #[.agg #[.slice y.a.A y.a.n y.a.c, .slice y.b.A y.b.n y.b.c, .slice y.c.A y.c.n y.c.c, .slice y.d.A y.d.n y.d.c], .slice A n c]) ∧
  MmOk w' y r.1 ∧ Sl w' w'.heap.size A n (bs r.2) ∧ n ≤ c ∧ Below w.heap.size w w'
/-- Three boxes that a call has made at its beginning. -/
structure B3 (w X : World) (S M R : Array Value) : Prop where
  s : X.heap[w.heap.size]? = some (.cells S 24 (0, 0))
  m : X.heap[w.heap.size + 1]? = some (.cells M 28 (0, 0))
  r : X.heap[w.heap.size + 1 + 1]? = some (.cells R 28 (0, 0))
  bel : Below w.heap.size w X
section
variable {w X Y : World} {S M R : Array Value}
theorem B3.first {w X : World} {S M R : Array Value} (b : Below (((w.alloc (.cells S 24)).alloc (.cells M 28)).alloc (.cells R 28)).heap.size (((w.alloc (.cells S 24)).alloc (.cells M 28)).alloc (.cells R 28)) X) : B3 w X S M R := by
  have e3 : ((w.alloc (.cells S 24)).alloc (.cells M 28)).heap.size = w.heap.size + 1 + 1 := by simp
  refine ⟨b.row (by simp <;> omega) (row_alloc (row_alloc (heap_alloc_new w _) _) _), b.row (by simp <;> omega) (row_alloc (heap_alloc2_new w _ _) _), b.row (by simp) ?_, ((((Below.refl _ w).new _).new _).new _).call b⟩
  rw [← e3]; exact heap_alloc_new _ _
theorem B3.call (h : B3 w X S M R) (b : Below X.heap.size X Y) : B3 w Y S M R := ⟨b.row (row_lt h.s) h.s, b.row (row_lt h.m) h.m, b.row (row_lt h.r) h.r, h.bel.call b⟩
theorem B3.made {o : Obj} (h : B3 w X S M R) (k : (X.alloc o).grownBy Y (some X.heap.size)) : B3 w Y S M R :=
  ⟨k.row (Nat.ne_of_lt (row_lt h.s)) (row_alloc h.s o), k.row (Nat.ne_of_lt (row_lt h.m)) (row_alloc h.m o), k.row (Nat.ne_of_lt (row_lt h.r)) (row_alloc h.r o), (h.bel.new o).grown k (h.bel.new o).size (fun j e => by injection e with e; subst e; exact h.bel.size)⟩
theorem B3.grown {g : Nat} (h : B3 w X S M R) (k : X.grownBy Y (some g)) (hg : w.heap.size + 1 + 1 < g) : B3 w Y S M R :=
  ⟨k.row (by omega) h.s, k.row (by omega) h.m, k.row (by omega) h.r, h.bel.grown k h.bel.size (fun j e => by injection e with e; omega)⟩
theorem B3.lt (h : B3 w X S M R) : w.heap.size + 1 + 1 < X.heap.size := row_lt h.r
theorem _root_.Go.Proofs.Ytiibopdnlmnkmaa.Mo.MmOk.grown {y : Sp} {N : Mem} {g : Nat} (h : MmOk X y N) (k : X.grownBy Y (some g)) (ha : ∀ b o, y.a.A = some (⟨b, o, none⟩ : Addr) → b ≠ g) (hb : ∀ b o, y.b.A = some (⟨b, o, none⟩ : Addr) → b ≠ g) (hc : ∀ b o, y.c.A = some (⟨b, o, none⟩ : Addr) → b ≠ g) (hd : ∀ b o, y.d.A = some (⟨b, o, none⟩ : Addr) → b ≠ g) : MmOk Y y N :=
  ⟨h.coils.grown k (fun b o e e' => ha b o e (by injection e' with e'; exact e'.symm)), h.inputs.grown k (fun b o e e' => hb b o e (by injection e' with e'; exact e'.symm)), h.holding.grown k (fun b o e e' => hc b o e (by injection e' with e'; exact e'.symm)), h.words.grown k (fun b o e e' => hd b o e (by injection e' with e'; exact e'.symm))⟩
theorem _root_.Go.Proofs.Ytiibopdnlmnkmaa.Mo.MmOk.made {y : Sp} {N : Mem} {o : Obj} (h : MmOk X y N) (k : (X.alloc o).grownBy Y (some X.heap.size)) : MmOk Y y N :=
  ⟨h.coils.grownNew k, h.inputs.grownNew k, h.holding.grownNew k, h.words.grownNew k⟩
theorem new_ne {B g : Nat} {A : Option Addr} (h : New B A) (hg : g < B) : ∀ b o, A = some (⟨b, o, none⟩ : Addr) → b ≠ g := fun b o e => by have := h b o e; omega
end
end Go.Proofs.Ytiibopdnlmnkmaa.MoW
