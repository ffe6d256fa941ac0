/- The walks of the kinds' read, but words'. -/
import Derived.Test.YtjfhfgchglaoiaaGreatRepA
import Derived.Test.YtjfhfgchglaoiaaGreatRepD
import Derived.Test.YtjfhfgchglaoiaaGreatAG2
import Derived.Deep.RegionHeld3
import Derived.Deep.RegionLaw
import Derived.Deep.DeepCutAuto
set_option linter.unusedVariables false
set_option linter.unusedSimpArgs false
namespace Go.Proofs.YtjfhfgchglaoiaaGreat.AskW
open Go.RowKit Go.Proofs.YtjfhfgchglaoiaaGreat Go.Proofs.YtjfhfgchglaoiaaGreat.Ask
/-- A reply is handed back, in memory of its own. -/
def RetRep (w : World) (r : Rep) (e : Ending) (w' : World) : Prop := ∃ Ab nb cb Aw nw cw, e = .returned (.agg #[.int .u8 (r.f : Nat), .int .u8 (r.x : Nat), .slice Ab nb cb, .slice Aw nw cw, .int .u16 (r.at' : Nat), .int .u16 (r.many : Nat)]) ∧
  Sl w' w'.heap.size Ab nb (bl r.bits) ∧ Sl w' w'.heap.size Aw nw (ws r.words) ∧ nb ≤ cb ∧ nw ≤ cw ∧ (∀ b o, Ab = some (⟨b, o, none⟩ : Addr) → w.heap.size ≤ b) ∧ (∀ b o, Aw = some (⟨b, o, none⟩ : Addr) → w.heap.size ≤ b) ∧ Below w.heap.size w w'
/-- The world while a reply is laid at block k. -/
structure Rt (w W : World) (k : Nat) (cs : Array Value) : Prop where
  bel : Below w.heap.size w W
  ra : W.heap[k]? = some (.cells cs 40 (0, 0))
  hk : w.heap.size ≤ k
section
variable {w W W' : World} {k : Nat} {cs CS : Array Value}
theorem Rt.eq (S : Rt w W k cs) (h : cs = CS) : W.heap[k]? = some (.cells CS 40 (0, 0)) := h ▸ S.ra
theorem Rt.call (S : Rt w W k cs) (b : Below W.heap.size W W') : Rt w W' k cs := ⟨S.bel.call b, b.row (row_lt S.ra) S.ra, S.hk⟩
theorem Rt.new (S : Rt w W k cs) (o : Obj) : Rt w (W.alloc o) k cs := ⟨S.bel.new o, row_alloc S.ra o, S.hk⟩
theorem Rt.drewN (S : Rt w W k cs) (d : Nat) : Rt w (W.drewN d) k cs := ⟨S.bel.drewN d, S.ra, S.hk⟩
theorem Rt.drew (S : Rt w W k cs) : Rt w W.drew k cs := ⟨S.bel.drew, S.ra, S.hk⟩
theorem Rt.set (S : Rt w W k cs) (i : Nat) (v : Value) : Rt w (W.setCell ⟨k, i, none⟩ v) k (cs.setIfInBounds i v) :=
  ⟨S.bel.setCell S.hk v, heap_setCell_same W _ i _ _ _ S.ra, S.hk⟩
theorem Rt.grown (S : Rt w W k cs) {v : Value} (g : W.grownBy W' v.ownBlock) (h : ∀ b, v.ownBlock = some b → w.heap.size ≤ b ∧ b ≠ k) : Rt w W' k cs :=
  ⟨S.bel.grown g S.bel.size (fun k hk => (h k hk).1), (g.block _ (row_lt S.ra) (fun e => (h _ e.symm).2 rfl)).trans S.ra, S.hk⟩
theorem Sl.setOther {A : Option Addr} {n i : Nat} {xs : List Value} {v : Value} (h : Sl W W.heap.size A n xs) (hne : ∀ b o, A = some (⟨b, o, none⟩ : Addr) → b ≠ k) : Sl (W.setCell ⟨k, i, none⟩ v) (W.setCell ⟨k, i, none⟩ v).heap.size A n xs :=
  h.grown (grown_setCell W k i v) (fun b o e h => hne b o e (by injection h with h; exact h.symm))
end
theorem sl_row {W : World} {g : Nat} {v : Value} {t : TypeId} (h : W.heap[g]? = some (.cells #[v] t (0, 0))) : Sl W W.heap.size (some ⟨g, 0, none⟩) 1 [v] :=
  ⟨rfl, fun _ => ⟨g, 0, rfl, row_lt h, fun j hj => by (have e : j = 0 := (by omega)); subst e; exact cell_of_row W g 0 _ _ _ h⟩⟩
theorem row_set {W : World} {g k i : Nat} {v : Value} {o : Obj} (hne : g ≠ k) (h : W.heap[g]? = some o) : (W.setCell ⟨k, i, none⟩ v).heap[g]? = some o := (grown_setCell W k i v).row hne h
theorem row_last {W : World} {o : Obj} {g : Nat} (h : W.heap.size = g) : (W.alloc o).heap[g]? = some o := by rw [← h]; exact heap_alloc_new W o
end Go.Proofs.YtjfhfgchglaoiaaGreat.AskW
