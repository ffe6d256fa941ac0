/- Blocks that hold a struct: what is kept, stored, handed back. No program in sight. -/
import Derived.Test.YtpajpcaninjhfaaApp
import Derived.Laws.Rows
import Derived.Laws.Tables
import Derived.Deep.WholeRow
namespace Go.Proofs.Ytpajpcaninjhfaa
open Go.RowKit
theorem _root_.Go.RowKit.Below.row {B : Nat} {w w' : World} (h : Below B w w') {k : Nat} {o : Obj} (hk : k < B) (ho : w.heap[k]? = some o) : w'.heap[k]? = some o := (h.block k hk).trans ho
theorem _root_.Go.World.grownBy.row {w w' : World} {g k : Nat} (h : w.grownBy w' (some g)) {o : Obj} (hne : k ≠ g) (ho : w.heap[k]? = some o) : w'.heap[k]? = some o :=
  (h.block k ((Array.getElem?_eq_some_iff.1 ho).1) (fun e => hne (by injection e))).trans ho
theorem Sl.grown {w w' : World} {A : Option Addr} {n : Nat} {xs : List Value} {row : Option Nat} (h : Sl w w.heap.size A n xs) (g : w.grownBy w' row) (hne : ∀ b o, A = some ⟨b, o, none⟩ → row ≠ some b) : Sl w' w'.heap.size A n xs :=
  ⟨h.1, fun hn => by
    obtain ⟨b, o, rfl, hb, hc⟩ := h.2 hn
    have hs := g.size
    refine ⟨b, o, rfl, by omega, fun j hj => ?_⟩
    rw [← hc j hj]
    exact World.cell?_of_block (w := w) (a := ⟨b, o + j, none⟩) (g.block b hb (fun e => hne b o rfl e.symm))⟩
theorem Has.of_row {w0 w : World} (hb : Below w0.heap.size w0 w) {g n : Nat} {cs : Array Value} {e : TypeId} (hg : w.heap[g]? = some (.cells cs e (0, 0))) (hge : w0.heap.size ≤ g) (hn : cs.size = n) (hm : n ≤ maxLen) : Has w0 w e (.slice (some ⟨g, 0, none⟩) n n) n cs.toList :=
  ⟨⟨by simpa using hn, Or.inr ⟨g, n, cs, rfl, hge, hg, Nat.le_refl _, hm, by omega, by rw [Nat.mul_one, ← hn, Array.size_eq_length_toList, List.take_length]⟩⟩, hb⟩
theorem row4 {w : World} {g : Nat} {v0 v1 v2 v3 : Value} {t : TypeId} (h : w.heap[g]? = some (.cells #[v0, v1, v2, v3] t (0, 0))) :
    w.cell? ⟨g, 0, none⟩ = some v0 ∧ w.cell? ⟨g, 1, none⟩ = some v1 ∧ w.cell? ⟨g, 2, none⟩ = some v2 ∧ w.cell? ⟨g, 3, none⟩ = some v3 :=
  ⟨cell_of_row w g 0 _ _ _ h, cell_of_row w g 1 _ _ _ h, cell_of_row w g 2 _ _ _ h, cell_of_row w g 3 _ _ _ h⟩
theorem row6 {w : World} {g : Nat} {v0 v1 v2 v3 v4 v5 : Value} {t : TypeId} (h : w.heap[g]? = some (.cells #[v0, v1, v2, v3, v4, v5] t (0, 0))) :
    w.cell? ⟨g, 0, none⟩ = some v0 ∧ w.cell? ⟨g, 1, none⟩ = some v1 ∧ w.cell? ⟨g, 2, none⟩ = some v2 ∧ w.cell? ⟨g, 3, none⟩ = some v3 ∧ w.cell? ⟨g, 4, none⟩ = some v4 ∧ w.cell? ⟨g, 5, none⟩ = some v5 :=
  ⟨cell_of_row w g 0 _ _ _ h, cell_of_row w g 1 _ _ _ h, cell_of_row w g 2 _ _ _ h, cell_of_row w g 3 _ _ _ h, cell_of_row w g 4 _ _ _ h, cell_of_row w g 5 _ _ _ h⟩
theorem free6 {w : World} {g : Nat} {cs : Array Value} {t : TypeId} (h : w.heap[g]? = some (.cells cs t (0, 0))) :
    w.frozen? ⟨g, 0, none⟩ = false ∧ w.frozen? ⟨g, 1, none⟩ = false ∧ w.frozen? ⟨g, 2, none⟩ = false ∧ w.frozen? ⟨g, 3, none⟩ = false ∧ w.frozen? ⟨g, 4, none⟩ = false ∧ w.frozen? ⟨g, 5, none⟩ = false :=
  ⟨frozen_of_row w g 0 _ _ h, frozen_of_row w g 1 _ _ h, frozen_of_row w g 2 _ _ h, frozen_of_row w g 3 _ _ h, frozen_of_row w g 4 _ _ h, frozen_of_row w g 5 _ _ h⟩
theorem Has.weaken {w0 w1 w : World} {e : TypeId} {v : Value} {n : Nat} {xs : List Value} (H : Has w1 w e v n xs) (hb : Below w0.heap.size w0 w1) : Has w0 w e v n xs := by
  refine ⟨⟨H.own.1, ?_⟩, hb.call H.bel⟩
  rcases H.own.2 with h | ⟨g, cap, cur, hv, hg, r⟩
  · exact Or.inl h
  · exact Or.inr ⟨g, cap, cur, hv, Nat.le_trans hb.size hg, r⟩
theorem Has.cast {w0 w : World} {e : TypeId} {v : Value} {n : Nat} {xs ys : List Value} (H : Has w0 w e v n xs) (h : xs = ys) : Has w0 w e v ys.length ys := by
  subst h; rw [H.len]; exact H
theorem Has.apart {w0 w : World} {e : TypeId} {v : Value} {n : Nat} {xs : List Value} (H : Has w0 w e v n xs) {b : Nat} (hb : b < w0.heap.size) : v.ownBlock ≠ some b := by
  obtain ⟨_, _, _, _, _, h⟩ := H.slice
  intro e
  have := h b e
  omega
theorem Has.lt {w0 w : World} {e : TypeId} {v : Value} {n : Nat} {xs : List Value} (H : Has w0 w e v n xs) {b : Nat} (hb : v.ownBlock = some b) : b < w.heap.size := (H.own.lt b hb).2
theorem Has.other {w0 w w' : World} {e : TypeId} {v : Value} {n k : Nat} {xs : List Value} (H : Has w0 w e v n xs) (g : w.grownBy w' (some k)) (hk : w0.heap.size ≤ k) (hne : v.ownBlock ≠ some k) : Has w0 w' e v n xs :=
  ⟨H.own.kept g (Or.inr hne), H.bel.grown g H.bel.size (fun j hj => by injection hj with hj; omega)⟩
theorem row_lt {w : World} {k : Nat} {o : Obj} (ho : w.heap[k]? = some o) : k < w.heap.size := (Array.getElem?_eq_some_iff.1 ho).1
theorem row_alloc {w : World} {k : Nat} {o : Obj} (ho : w.heap[k]? = some o) (x : Obj) : (w.alloc x).heap[k]? = some o := (Below.heap_alloc w x k (row_lt ho)).trans ho
theorem grown_setRow {w : World} {g : Nat} (cs : Array Value) : w.grownBy (w.setRow g cs) (some g) := by
  refine ⟨rfl, rfl, rfl, by simp [World.setRow], fun j _ hne => ?_⟩
  show (w.heap.modify g _)[j]? = w.heap[j]?
  rw [Array.getElem?_modify, if_neg (fun e => hne (by rw [e]))]
theorem size_setRow (w : World) (g : Nat) (cs : Array Value) : (w.setRow g cs).heap.size = w.heap.size := by simp [World.setRow]
theorem _root_.Go.RowKit.Below.ins {b : Nat} {a w w' : World} {o : Obj} (h : Below b a w) (ho : w.heap[b]? = some o) (g : w.grownBy w' (some b)) : Below b a w' :=
  h.grown g (Nat.le_of_lt (row_lt ho)) (fun k hk => by injection hk with hk; omega)
section
variable {P : Program}
theorem below_setRow {B : Nat} {a w : World} {g : Nat} (h : Below B a w) (hg : B ≤ g) (cs : Array Value) : Below B a (w.setRow g cs) :=
  h.trans ⟨rfl, rfl, rfl, by rw [size_setRow]; exact Nat.le_refl _, fun k hk => by
    show (w.heap.modify g _)[k]? = w.heap[k]?
    rw [Array.getElem?_modify, if_neg (by omega)]⟩
theorem results_row_tmp {fn : Func} {p u : Tmp} {ty : TypeId} (h : fn.results = #[.cell p ty, .tmp u]) (tmps : Array Value) (w : World) (g : Nat) (t : TypeId) (cs : Array Value) (fr : Nat × Nat) (d : TypeDesc)
    (hp : tmps.getD p undef = .pointer (some ⟨g, 0, none⟩)) (hg : w.heap[g]? = some (.cells cs t fr)) (hu : P.underlying ty = some d) (hd : (match d with | .struct _ | .array _ _ => true | _ => false) = true) (hi : (P.info? ty).map (·.size) = some cs.size) :
    (results fn tmps).run P w = .ok (.tuple #[.agg cs, tmps.getD u undef]) w := by
  have hp' : tmps[p]?.getD undef = .pointer (some ⟨g, 0, none⟩) := by simpa using hp
  simp [results, h, hp', asAddr, run_loadVar_row w g t ty cs fr d hg hu hd hi, Result.andThen]
theorem bodyPost_row_tmp {fn : Func} {R : Ending → World → Prop} {a : Act} {w : World} {p u : Tmp} {ty : TypeId} (h : fn.results = #[.cell p ty, .tmp u]) (g : Nat) (t : TypeId) (cs : Array Value) (fr : Nat × Nat) (d : TypeDesc) (x : Value)
    (hp : a.tmps.getD p undef = .pointer (some ⟨g, 0, none⟩)) (hg : w.heap[g]? = some (.cells cs t fr)) (hu : P.underlying ty = some d) (hd : (match d with | .struct _ | .array _ _ => true | _ => false) = true) (hi : (P.info? ty).map (·.size) = some cs.size)
    (hx : a.tmps.getD u undef = x) (hdf : a.defers = []) (hR : R (.returned (.tuple #[.agg cs, x])) w) : bodyPost P fn R .ret a w :=
  bodyPost_ret (results_row_tmp h a.tmps w g t cs fr d hp hg hu hd hi) hdf (by rw [hx]; exact hR)
theorem bodyPost_row {fn : Func} {R : Ending → World → Prop} {a : Act} {w : World} {p : Tmp} {ty : TypeId} (h : fn.results = #[.cell p ty]) (g : Nat) (t : TypeId) (cs : Array Value) (fr : Nat × Nat) (d : TypeDesc)
    (hp : a.tmps.getD p undef = .pointer (some ⟨g, 0, none⟩)) (hg : w.heap[g]? = some (.cells cs t fr)) (hu : P.underlying ty = some d) (hd : (match d with | .struct _ | .array _ _ => true | _ => false) = true) (hi : (P.info? ty).map (·.size) = some cs.size)
    (hdf : a.defers = []) (hR : R (.returned (.agg cs)) w) : bodyPost P fn R .ret a w :=
  bodyPost_ret (results_cell_row h a.tmps w g t cs fr d hp hg hu hd hi) hdf hR
/-- A whole struct is stored: the walk goes on in a world of which the block is known, and that nothing else has turned. -/
theorem wpList_store_grown {ops : Array Oper} {rest : List Oper} {o : Oper} {a : Act} {w : World} {Q : Exit → Act → World → Prop} (hgd : o.guard = none) (ty : TypeId) (x y : Operand) (ho : o.op = .store ty x y)
    (g : Nat) (cells : Array Value) (hx : a.eval x = .pointer (some ⟨g, 0, none⟩)) (hy : a.eval y = .agg cells)
    (t : TypeId) (old : Array Value) (hg : w.heap[g]? = some (.cells old t (0, 0))) (hi : (P.info? ty).map (·.size) = some cells.size) (hold : old.size = cells.size) (h1 : cells.all (·.oneCell') = true)
    (h : ∀ w', w'.heap[g]? = some (.cells cells t (0, 0)) → w.grownBy w' (some g) → w'.heap.size = w.heap.size → wpList P ops Q rest (a.put o.dst undef) w') : wpList P ops Q (o :: rest) a w :=
  wpList_store_row hgd ty x y ho g cells hx hy t old hg hi hold h1 (h _ (setRow_heap w g old cells t (0, 0) hg) (grown_setRow cells) (size_setRow w g cells))
end
end Go.Proofs.Ytpajpcaninjhfaa
