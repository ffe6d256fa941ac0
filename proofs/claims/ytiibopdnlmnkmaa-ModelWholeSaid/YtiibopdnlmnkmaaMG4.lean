/- Merged: MoE MoF. -/
import Derived.Test.YtiibopdnlmnkmaaMoD
/- The walk of saucierref07.Copy. -/
set_option linter.unusedVariables false
set_option linter.unusedSimpArgs false
namespace Go.Proofs.Ytiibopdnlmnkmaa.MoW
open Go.RowKit Go.Proofs.Ytiibopdnlmnkmaa Go.Proofs.Ytiibopdnlmnkmaa.Mo Go.Proofs.Ytiibopdnlmnkmaa.Ask Go.Proofs.Ytiibopdnlmnkmaa.AskW
theorem eb : Elem Try.prog 25 4 1 := Elem.mk' (z := .bool false) Try.underlying25 (by kernel_rfl) rfl
theorem ew : Elem Try.prog 26 29 2 := Elem.mk' (z := .int .u16 0) Try.underlying26 (by kernel_rfl) rfl
/-- Rows of which none is another one. -/
def Apart (v u : Value) : Prop := ∀ k, v.ownBlock = some k → u.ownBlock ≠ some k
theorem Apart.symm {v u : Value} (h : Apart v u) : Apart u v := fun k e e' => h k e' e
/-- A memory of the call's own. -/
structure MmIs (w0 w : World) (va vb vc vd : Value) (M : Mem) : Prop where
  a : Has w0 w 4 va M.coils.length (bl M.coils)
  b : Has w0 w 4 vb M.inputs.length (bl M.inputs)
  c : Has w0 w 29 vc M.holding.length (ws M.holding)
  d : Has w0 w 29 vd M.words.length (ws M.words)
  ab : Apart va vb
  ac : Apart va vc
  ad : Apart va vd
  bc : Apart vb vc
  bd : Apart vb vd
  cd : Apart vc vd
def RetMm (w : World) (M : Mem) (e : Ending) (w' : World) : Prop := ∃ va vb vc vd, e = .returned (.agg #[va, vb, vc, vd]) ∧ MmIs w w' va vb vc vd M
/-- What a copy has made so far. -/
structure CpS (w X : World) (box : Obj) (cs : Array Value) : Prop where
  x : X.heap[w.heap.size]? = some box
  r : X.heap[w.heap.size + 1]? = some (.cells #[.slice none 0 0, .slice none 0 0, .slice none 0 0, .slice none 0 0] 28 (0, 0))
  o : X.heap[w.heap.size + 1 + 1]? = some (.cells cs 28 (0, 0))
  bel : Below w.heap.size w X
theorem free4 {w : World} {g : Nat} {cs : Array Value} {t : TypeId} (h : w.heap[g]? = some (.cells cs t (0, 0))) :
    w.frozen? ⟨g, 0, none⟩ = false ∧ w.frozen? ⟨g, 1, none⟩ = false ∧ w.frozen? ⟨g, 2, none⟩ = false ∧ w.frozen? ⟨g, 3, none⟩ = false :=
  ⟨frozen_of_row w g 0 _ _ h, frozen_of_row w g 1 _ _ h, frozen_of_row w g 2 _ _ h, frozen_of_row w g 3 _ _ h⟩
section
variable {w X Y : World} {box : Obj} {cs : Array Value}
theorem CpS.app (S : CpS w X box cs) (g : X.grownBy Y none) : CpS w Y box cs :=
  ⟨(g.block _ (row_lt S.x) (by simp)).trans S.x, (g.block _ (row_lt S.r) (by simp)).trans S.r, (g.block _ (row_lt S.o) (by simp)).trans S.o, S.bel.grown g S.bel.size (fun k hk => by cases hk)⟩
theorem CpS.set (S : CpS w X box cs) (j : Nat) (v : Value) : CpS w (X.setCell ⟨w.heap.size + 1 + 1, j, none⟩ v) box (cs.setIfInBounds j v) :=
  ⟨(grown_setCell X (w.heap.size + 1 + 1) j v).row (by omega) S.x, (grown_setCell X (w.heap.size + 1 + 1) j v).row (by omega) S.r, heap_setCell_same X _ j _ _ _ S.o, S.bel.setCell (by show _ ≤ w.heap.size + 1 + 1; omega) v⟩
theorem Has.app {e : TypeId} {v : Value} {n : Nat} {xs : List Value} (H : Has w X e v n xs) (g : X.grownBy Y none) : Has w Y e v n xs :=
  ⟨H.own.kept g (by cases h : v.ownBlock <;> simp), H.bel.grown g H.bel.size (fun k hk => by cases hk)⟩
theorem Has.set {e : TypeId} {v : Value} {n k j : Nat} {xs : List Value} (H : Has w X e v n xs) (x : Value) (hk : w.heap.size ≤ k) (hne : v.ownBlock ≠ some k) : Has w (X.setCell ⟨k, j, none⟩ x) e v n xs := H.other (grown_setCell X k j x) hk hne
theorem own_ne {v : Value} {g n : Nat} (h : v.ownBlock = (Value.slice none 0 0).ownBlock ∨ v.ownBlock = some n) (hg : g < n) : v.ownBlock ≠ some g := by
  rcases h with h | h <;> rw [h]
  · intro e; cases e
  · intro e; injection e with e; omega
theorem apart_of {v u : Value} {n : Nat} (h : u.ownBlock = (Value.slice none 0 0).ownBlock ∨ u.ownBlock = some n) (hv : ∀ k, v.ownBlock = some k → k < n) : Apart v u := fun k e => own_ne h (hv k e)
end
end Go.Proofs.Ytiibopdnlmnkmaa.MoW
/- The walk of saucierref07.Do. -/
set_option linter.unusedVariables false
set_option linter.unusedSimpArgs false
namespace Go.Proofs.Ytiibopdnlmnkmaa.MoW
open Go.RowKit Go.Proofs.Ytiibopdnlmnkmaa Go.Proofs.Ytiibopdnlmnkmaa.Mo Go.Proofs.Ytiibopdnlmnkmaa.Ask Go.Proofs.Ytiibopdnlmnkmaa.AskW
section
variable {P : Program}
theorem results_rows {fn : Func} {p u : Tmp} {ty ty2 : TypeId} (h : fn.results = #[.cell p ty, .cell u ty2]) (tmps : Array Value) (w : World) (g g2 : Nat) (t t2 : TypeId) (cs cs2 : Array Value) (fr fr2 : Nat × Nat) (d d2 : TypeDesc)
    (hp : tmps.getD p undef = .pointer (some ⟨g, 0, none⟩)) (hg : w.heap[g]? = some (.cells cs t fr)) (hu : P.underlying ty = some d) (hd : (match d with | .struct _ | .array _ _ => true | _ => false) = true) (hi : (P.info? ty).map (·.size) = some cs.size)
    (hp2 : tmps.getD u undef = .pointer (some ⟨g2, 0, none⟩)) (hg2 : w.heap[g2]? = some (.cells cs2 t2 fr2)) (hu2 : P.underlying ty2 = some d2) (hd2 : (match d2 with | .struct _ | .array _ _ => true | _ => false) = true) (hi2 : (P.info? ty2).map (·.size) = some cs2.size) :
    (results fn tmps).run P w = .ok (.tuple #[.agg cs, .agg cs2]) w := by
  have hp' : tmps[p]?.getD undef = .pointer (some ⟨g, 0, none⟩) := by simpa using hp
  have hq' : tmps[u]?.getD undef = .pointer (some ⟨g2, 0, none⟩) := by simpa using hp2
  simp [results, h, hp', hq', asAddr, run_loadVar_row w g t ty cs fr d hg hu hd hi, run_loadVar_row w g2 t2 ty2 cs2 fr2 d2 hg2 hu2 hd2 hi2, Result.andThen]
theorem bodyPost_rows {fn : Func} {R : Ending → World → Prop} {a : Act} {w : World} {p u : Tmp} {ty ty2 : TypeId} (h : fn.results = #[.cell p ty, .cell u ty2]) (g g2 : Nat) (t t2 : TypeId) (cs cs2 : Array Value) (fr fr2 : Nat × Nat) (d d2 : TypeDesc)
    (hp : a.tmps.getD p undef = .pointer (some ⟨g, 0, none⟩)) (hg : w.heap[g]? = some (.cells cs t fr)) (hu : P.underlying ty = some d) (hd : (match d with | .struct _ | .array _ _ => true | _ => false) = true) (hi : (P.info? ty).map (·.size) = some cs.size)
    (hp2 : a.tmps.getD u undef = .pointer (some ⟨g2, 0, none⟩)) (hg2 : w.heap[g2]? = some (.cells cs2 t2 fr2)) (hu2 : P.underlying ty2 = some d2) (hd2 : (match d2 with | .struct _ | .array _ _ => true | _ => false) = true) (hi2 : (P.info? ty2).map (·.size) = some cs2.size)
    (hdf : a.defers = []) (hR : R (.returned (.tuple #[.agg cs, .agg cs2])) w) : bodyPost P fn R .ret a w :=
  bodyPost_ret (results_rows h a.tmps w g g2 t t2 cs cs2 fr fr2 d d2 hp hg hu hd hi hp2 hg2 hu2 hd2 hi2) hdf hR
end
/-- Slices that are the call's own. -/
def New (B : Nat) (A : Option Addr) : Prop := ∀ b o, A = some (⟨b, o, none⟩ : Addr) → B ≤ b
theorem New.none (B : Nat) : New B none := fun _ _ h => by cases h
theorem New.mono {B C : Nat} {A : Option Addr} (h : New C A) (hB : B ≤ C) : New B A := fun b o e => Nat.le_trans hB (h b o e)
theorem New.of {w0 w : World} {e : TypeId} {A : Option Addr} {n m c : Nat} {xs : List Value} (h : Has w0 w e (.slice A n c) m xs) : New w0.heap.size A := by
  obtain ⟨A', c', e1, _, _, h2⟩ := h.slice
  injection e1 with e1 _ _
  subst e1
  exact fun b o e => h2 b (by rw [e]; rfl)
/-- What is answered: a memory, and a reply. -/
def RetDo (w : World) (r : Mem × Rep) (e : Ending) (w' : World) : Prop := ∃ (y : Sp) (Ab : Option Addr) (nb cb : Nat) (Aw : Option Addr) (nw cw : Nat), e = .returned (.tuple #[.agg #[.slice y.a.A y.a.n y.a.c, .slice y.b.A y.b.n y.b.c, .slice y.c.A y.c.n y.c.c, .slice y.d.A y.d.n y.d.c], .agg #[.int .u8 (r.2.f : Nat), .int .u8 (r.2.x : Nat), .slice Ab nb cb, .slice Aw nw cw, .int .u16 (r.2.at' : Nat), .int .u16 (r.2.many : Nat)]]) ∧
  MmOk w' y r.1 ∧ Sl w' w'.heap.size Ab nb (bl r.2.bits) ∧ Sl w' w'.heap.size Aw nw (ws r.2.words) ∧ nb ≤ cb ∧ nw ≤ cw ∧ Below w.heap.size w w' ∧ (New w.heap.size y.a.A ∧ New w.heap.size y.b.A ∧ New w.heap.size y.c.A ∧ New w.heap.size y.d.A ∧ New w.heap.size Ab ∧ New w.heap.size Aw)
/-- The boxes that Do has made, and where its own memory lies. -/
structure Ds (w X : World) (g : Nat) (S M R O : Array Value) : Prop where
  s : X.heap[w.heap.size]? = some (.cells S 24 (0, 0))
  m : X.heap[w.heap.size + 1]? = some (.cells M 28 (0, 0))
  r : X.heap[w.heap.size + 1 + 1]? = some (.cells R 31 (0, 0))
  p : X.heap[w.heap.size + 1 + 1 + 1]? = some (.cells #[.slice none 0 0, .slice none 0 0, .slice none 0 0, .slice none 0 0] 28 (0, 0))
  q : X.heap[w.heap.size + 1 + 1 + 1 + 1]? = some (.cells #[.int .u8 0, .int .u8 0, .slice none 0 0, .slice none 0 0, .int .u16 0, .int .u16 0] 36 (0, 0))
  o : X.heap[g]? = some (.cells O 28 (0, 0))
  bel : Below w.heap.size w X
  hg : w.heap.size + 5 ≤ g
section
variable {w X Y : World} {g : Nat} {S M R O : Array Value}
theorem Ds.to (h : Ds w X g S M R O) (k : ∀ k, (w.heap.size ≤ k ∧ k < w.heap.size + 5) ∨ k = g → Y.heap[k]? = X.heap[k]?) (b : Below w.heap.size w Y) : Ds w Y g S M R O :=
  ⟨(k _ (.inl ⟨by omega, by omega⟩)).trans h.s, (k _ (.inl ⟨by omega, by omega⟩)).trans h.m, (k _ (.inl ⟨by omega, by omega⟩)).trans h.r, (k _ (.inl ⟨by omega, by omega⟩)).trans h.p, (k _ (.inl ⟨by omega, by omega⟩)).trans h.q, (k _ (.inr rfl)).trans h.o, b, h.hg⟩
theorem Ds.lt (h : Ds w X g S M R O) (k : Nat) (hk : (w.heap.size ≤ k ∧ k < w.heap.size + 5) ∨ k = g) : k < X.heap.size := by
  have h1 := row_lt h.q
  have h2 := row_lt h.o
  omega
theorem Ds.call (h : Ds w X g S M R O) (b : Below X.heap.size X Y) : Ds w Y g S M R O := h.to (fun k hk => b.block k (h.lt k hk)) (h.bel.call b)
theorem Ds.drew (h : Ds w X g S M R O) : Ds w X.drew g S M R O := ⟨h.s, h.m, h.r, h.p, h.q, h.o, h.bel.drew, h.hg⟩
theorem Ds.grown {i : Option Nat} (h : Ds w X g S M R O) (k : X.grownBy Y i) (hi : ∀ j, i = some j → w.heap.size + 5 ≤ j ∧ j ≠ g) : Ds w Y g S M R O :=
  h.to (fun j hj => k.block j (h.lt j hj) (fun e => by have := hi j e.symm; omega)) (h.bel.grown k h.bel.size (fun j e => by have := (hi j e).1; omega))
end
theorem Ds.put {w X Y : World} {g : Nat} {S M R O O' : Array Value} (h : Ds w X g S M R O) (k : X.grownBy Y (some g)) (hr : Y.heap[g]? = some (.cells O' 28 (0, 0))) : Ds w Y g S M R O' :=
  ⟨k.row (by have := h.hg; omega) h.s, k.row (by have := h.hg; omega) h.m, k.row (by have := h.hg; omega) h.r, k.row (by have := h.hg; omega) h.p, k.row (by have := h.hg; omega) h.q, hr, h.bel.grown k h.bel.size (fun j e => by injection e with e; have := h.hg; omega), h.hg⟩
theorem Apart.none_of {v : Value} {k : Nat} (h : ∀ b, v.ownBlock = some b → b ≠ k) : v.ownBlock ≠ some k := fun e => h k e rfl
/-- All rows lie elsewhere. -/
structure Off (va vb vc vd : Value) (k : Nat) : Prop where
  a : va.ownBlock ≠ some k
  b : vb.ownBlock ≠ some k
  c : vc.ownBlock ≠ some k
  d : vd.ownBlock ≠ some k
theorem _root_.Go.Proofs.Ytiibopdnlmnkmaa.Has.own' {w0 w : World} {e : TypeId} {A : Option Addr} {n m c : Nat} {xs : List Value} (h : Has w0 w e (.slice A n c) m xs) : w.ownsRow w0.heap.size e 1 (.slice A n c) n xs := by
  have e : n = m := by
    obtain ⟨_, _, e, _, _, _⟩ := h.slice
    injection e with _ e _
  subst e
  exact h.own
theorem MmIs.fresh {w0 w : World} {va vb vc vd : Value} {M : Mem} (h : MmIs w0 w va vb vc vd M) : Off va vb vc vd w.heap.size :=
  ⟨fun e => Nat.lt_irrefl _ (h.a.lt e), fun e => Nat.lt_irrefl _ (h.b.lt e), fun e => Nat.lt_irrefl _ (h.c.lt e), fun e => Nat.lt_irrefl _ (h.d.lt e)⟩
theorem MmIs.grown {w0 w w' : World} {va vb vc vd : Value} {M : Mem} {k : Nat} (h : MmIs w0 w va vb vc vd M) (g : w.grownBy w' (some k)) (f : Off va vb vc vd k) (hk : w0.heap.size ≤ k) : MmIs w0 w' va vb vc vd M :=
  ⟨h.a.other g hk f.a, h.b.other g hk f.b, h.c.other g hk f.c, h.d.other g hk f.d, h.ab, h.ac, h.ad, h.bc, h.bd, h.cd⟩
theorem MmIs.to {w0 w w' : World} {va vb vc vd : Value} {M : Mem} (h : MmIs w0 w va vb vc vd M) (b : Below w.heap.size w w') : MmIs w0 w' va vb vc vd M :=
  ⟨h.a.below b, h.b.below b, h.c.below b, h.d.below b, h.ab, h.ac, h.ad, h.bc, h.bd, h.cd⟩
theorem MmIs.ok {w0 w : World} {va vb vc vd : Value} {M : Mem} (h : MmIs w0 w va vb vc vd M) : ∃ A1 n1 c1 A2 n2 c2 A3 n3 c3 A4 n4 c4, va = .slice A1 n1 c1 ∧ vb = .slice A2 n2 c2 ∧ vc = .slice A3 n3 c3 ∧ vd = .slice A4 n4 c4 ∧ n1 = M.coils.length ∧ n2 = M.inputs.length ∧ n3 = M.holding.length ∧ n4 = M.words.length := by
  obtain ⟨A1, c1, e1, _, S1, _⟩ := h.a.slice
  obtain ⟨A2, c2, e2, _, S2, _⟩ := h.b.slice
  obtain ⟨A3, c3, e3, _, S3, _⟩ := h.c.slice
  obtain ⟨A4, c4, e4, _, S4, _⟩ := h.d.slice
  exact ⟨A1, _, c1, A2, _, c2, A3, _, c3, A4, _, c4, e1, e2, e3, e4, rfl, rfl, rfl, rfl⟩
theorem _root_.Go.Proofs.Ytiibopdnlmnkmaa.Has.cellAt {w0 w : World} {e : TypeId} {A : Option Addr} {n m c i : Nat} {xs : List Value} (h : Has w0 w e (.slice A n c) m xs) (hi : i < m) : ∃ g cur, A = some (⟨g, 0, none⟩ : Addr) ∧ w.heap[g]? = some (.cells cur e (0, 0)) ∧ w.cell? ⟨g, i, none⟩ = xs[i]? ∧ w.frozen? ⟨g, i, none⟩ = false ∧ w0.heap.size ≤ g ∧ g < w.heap.size ∧ cur.toList.take m = xs ∧ m ≤ cur.size := by
  rcases h.own.2 with ⟨h1, h2⟩ | ⟨g, cap, cur, e1, hb, hg, hc, hm, hs, ht⟩
  · injection h1 with _ h1 _; omega
  · injection e1 with e1 e2 e3
    subst e1
    rw [Nat.mul_one] at hs ht
    refine ⟨g, cur, rfl, hg, ?_, frozen_of_row w g i cur e hg, hb, row_lt hg, ht, by omega⟩
    rw [cell_of_row w g i cur e (0, 0) hg, ← ht, List.getElem?_take, if_pos hi]
    simp
theorem _root_.Go.Proofs.Ytiibopdnlmnkmaa.Has.put {w0 w : World} {e : TypeId} {g n m c i : Nat} {xs : List Value} (h : Has w0 w e (.slice (some ⟨g, 0, none⟩) n c) m xs) (hi : i < m) (v : Value) : Has w0 (w.setCell ⟨g, i, none⟩ v) e (.slice (some ⟨g, 0, none⟩) n c) m (xs.set i v) := by
  refine ⟨⟨by rw [List.length_set]; exact h.own.1, ?_⟩, h.bel.setCell ((h.own.lt g rfl).1) v⟩
  rcases h.own.2 with ⟨h1, h2⟩ | ⟨g', cap, cur, e1, hb, hg, hc, hm, hs, ht⟩
  · cases h1
  · injection e1 with e1 e2 e3
    injection e1 with e1
    injection e1 with e1
    subst e1 e2 e3
    refine .inr ⟨g, c, cur.setIfInBounds i v, rfl, hb, heap_setCell_same w g i _ _ v hg, hc, hm, by simpa using hs, ?_⟩
    rw [Array.toList_setIfInBounds, List.take_set, ht]
theorem MmIs.putA {w0 X : World} {g n c i : Nat} {vb vc vd : Value} {M : Mem} (h : MmIs w0 X (.slice (some ⟨g, 0, none⟩) n c) vb vc vd M) (hi : i < M.coils.length) (x : Bool) : MmIs w0 (X.setCell ⟨g, i, none⟩ (.bool x)) (.slice (some ⟨g, 0, none⟩) n c) vb vc vd ⟨M.coils.set i x, M.inputs, M.holding, M.words⟩ := by
  have hg := (h.a.own.lt g rfl).1
  refine ⟨?_, h.b.other (grown_setCell X g i _) hg (h.ab g rfl), h.c.other (grown_setCell X g i _) hg (h.ac g rfl), h.d.other (grown_setCell X g i _) hg (h.ad g rfl), h.ab, h.ac, h.ad, h.bc, h.bd, h.cd⟩
  have := h.a.put hi (.bool x)
  rw [show (bl M.coils).set i (.bool x) = bl (M.coils.set i x) from by unfold bl; rw [List.map_set]] at this
  simpa using this
theorem MmIs.putC {w0 X : World} {g n c i : Nat} {va vb vd : Value} {M : Mem} (h : MmIs w0 X va vb (.slice (some ⟨g, 0, none⟩) n c) vd M) (hi : i < M.holding.length) (x : Nat) : MmIs w0 (X.setCell ⟨g, i, none⟩ (.int .u16 (x : Nat))) va vb (.slice (some ⟨g, 0, none⟩) n c) vd ⟨M.coils, M.inputs, M.holding.set i x, M.words⟩ := by
  have hg := (h.c.own.lt g rfl).1
  refine ⟨h.a.other (grown_setCell X g i _) hg (h.ac.symm g rfl), h.b.other (grown_setCell X g i _) hg (h.bc.symm g rfl), ?_, h.d.other (grown_setCell X g i _) hg (h.cd g rfl), h.ab, h.ac, h.ad, h.bc, h.bd, h.cd⟩
  have := h.c.put hi (.int .u16 (x : Nat))
  rw [show (ws M.holding).set i (.int .u16 (x : Nat)) = ws (M.holding.set i x) from by unfold ws; rw [List.map_set]] at this
  simpa using this
theorem MmIs.drew {w0 w : World} {va vb vc vd : Value} {M : Mem} (h : MmIs w0 w va vb vc vd M) : MmIs w0 w.drew va vb vc vd M := ⟨h.a.drew, h.b.drew, h.c.drew, h.d.drew, h.ab, h.ac, h.ad, h.bc, h.bd, h.cd⟩
theorem _root_.Go.Proofs.Ytiibopdnlmnkmaa.AskW.RetRepFlag.out {w w' : World} {e : Ending} {ef ex ea em : Nat} {eB : List Bool} {eW : List Nat} {b : Bool} (h : RetRepFlag w (⟨ef, ex, eB, eW, ea, em⟩, b) e w') :
    ∃ Ab nb cb Aw nw cw, e = .returned (.tuple #[.agg #[.int .u8 (ef : Nat), .int .u8 (ex : Nat), .slice Ab nb cb, .slice Aw nw cw, .int .u16 (ea : Nat), .int .u16 (em : Nat)], .bool b]) ∧
      Sl w' w'.heap.size Ab nb (bl eB) ∧ Sl w' w'.heap.size Aw nw (ws eW) ∧ nb ≤ cb ∧ nw ≤ cw ∧ (∀ b o, Ab = some (⟨b, o, none⟩ : Addr) → w.heap.size ≤ b) ∧ (∀ b o, Aw = some (⟨b, o, none⟩ : Addr) → w.heap.size ≤ b) ∧ Below w.heap.size w w' := h
theorem _root_.Go.Proofs.Ytiibopdnlmnkmaa.Sl.grownNew {w w' : World} {o : Obj} {A : Option Addr} {n : Nat} {xs : List Value} (h : Sl w w.heap.size A n xs) (g : (w.alloc o).grownBy w' (some w.heap.size)) : Sl w' w'.heap.size A n xs :=
  ⟨h.1, fun hn => by
    obtain ⟨b, k, rfl, hb, hc⟩ := h.2 hn
    have hs := g.size
    have ha : (w.alloc o).heap.size = w.heap.size + 1 := by simp
    refine ⟨b, k, rfl, by omega, fun j hj => ?_⟩
    rw [← hc j hj]
    exact World.cell?_of_block (w := w) (a := ⟨b, k + j, none⟩) ((g.block b (by omega) (fun e => by injection e with e; omega)).trans (Below.heap_alloc w o b hb))⟩
theorem Ds.made {w X Y : World} {g : Nat} {S M R O : Array Value} {o : Obj} (h : Ds w X g S M R O) (k : (X.alloc o).grownBy Y (some X.heap.size)) : Ds w Y g S M R O :=
  (h.call ((Below.refl _ X).new o)).grown k (fun j e => by injection e with e; have h1 := h.lt g (.inr rfl); have h2 := row_lt h.q; omega)
theorem MmIs.made {w0 X Y : World} {va vb vc vd : Value} {M : Mem} {o : Obj} (h : MmIs w0 X va vb vc vd M) (k : (X.alloc o).grownBy Y (some X.heap.size)) : MmIs w0 Y va vb vc vd M :=
  (h.to ((Below.refl _ X).new o)).grown k h.fresh h.a.bel.size
theorem MmIs.off {w0 X : World} {va vb vc vd : Value} {M : Mem} (h : MmIs w0 X va vb vc vd M) {b : Nat} (hb : X.heap.size ≤ b) : Off va vb vc vd b :=
  ⟨fun e => by have := h.a.lt e; omega, fun e => by have := h.b.lt e; omega, fun e => by have := h.c.lt e; omega, fun e => by have := h.d.lt e; omega⟩
theorem MmIs.app {w0 X Y : World} {va vb vc vd v : Value} {M : Mem} (h : MmIs w0 X va vb vc vd M) (g : X.grownBy Y v.ownBlock) (hv : ∀ b, v.ownBlock = some b → w0.heap.size ≤ b ∧ Off va vb vc vd b) : MmIs w0 Y va vb vc vd M := by
  cases hb : v.ownBlock with
  | none => rw [hb] at g; exact ⟨Has.app h.a g, Has.app h.b g, Has.app h.c g, Has.app h.d g, h.ab, h.ac, h.ad, h.bc, h.bd, h.cd⟩
  | some b => rw [hb] at g; exact h.grown g (hv b hb).2 (hv b hb).1
theorem grown_kept {X Y : World} {v : Value} {B k : Nat} {o : Obj} (g : X.grownBy Y v.ownBlock) (hv : ∀ b, v.ownBlock = some b → B ≤ b) (ho : X.heap[k]? = some o) (hk : k < B) : Y.heap[k]? = some o :=
  (g.block k (row_lt ho) (fun e => by have := hv k e.symm; omega)).trans ho
/-- How many bits a reply's box has. -/
def bitsAt (w : World) (k : Nat) : Nat := match w.cell? ⟨k, 2, none⟩ with | some (.slice _ n _) => n | _ => 0
theorem bitsAt_row {w : World} {k : Nat} {c0 c1 c3 c4 c5 : Value} {A : Option Addr} {n c : Nat} {t : TypeId} (h : w.heap[k]? = some (.cells #[c0, c1, .slice A n c, c3, c4, c5] t (0, 0))) : bitsAt w k = n := by
  unfold bitsAt; rw [cell_of_row w k 2 _ t (0, 0) h]; rfl
theorem grown_then' {w w1 w2 : World} {k : Option Nat} (h : w.grownBy w1 k) (g : w1.grownBy w2 k) : w.grownBy w2 k :=
  ⟨g.os.trans h.os, g.tape.trans h.tape, g.output.trans h.output, Nat.le_trans h.size g.size, fun j hj hne => (g.block j (Nat.lt_of_lt_of_le hj h.size) hne).trans (h.block j hj hne)⟩
theorem grown_cell' (w : World) (g i : Nat) (v : Value) : w.grownBy (w.setCell ⟨g, i, none⟩ v) (some g) :=
  ⟨rfl, rfl, rfl, by simp [World.setCell], fun k _ hk => heap_setCell_other w ⟨g, i, none⟩ k v (fun e => hk (by rw [e]))⟩
theorem set4 {w : World} {g : Nat} {a b c d : Value} {t : TypeId} (x y z u : Value) (h : w.heap[g]? = some (.cells #[a, b, c, d] t (0, 0))) :
    ((((w.setCell ⟨g, 0, none⟩ x).setCell ⟨g, 1, none⟩ y).setCell ⟨g, 2, none⟩ z).setCell ⟨g, 3, none⟩ u).heap[g]? = some (.cells #[x, y, z, u] t (0, 0)) ∧ w.grownBy ((((w.setCell ⟨g, 0, none⟩ x).setCell ⟨g, 1, none⟩ y).setCell ⟨g, 2, none⟩ z).setCell ⟨g, 3, none⟩ u) (some g) :=
  ⟨heap_setCell_same _ g 3 _ _ _ (heap_setCell_same _ g 2 _ _ _ (heap_setCell_same _ g 1 _ _ _ (heap_setCell_same w g 0 _ _ _ h))), grown_then' (grown_then' (grown_then' (grown_cell' _ _ _ _) (grown_cell' _ _ _ _)) (grown_cell' _ _ _ _)) (grown_cell' _ _ _ _)⟩
theorem set6 {w : World} {g : Nat} {a b c d e f : Value} {t : TypeId} (x y z u v q : Value) (h : w.heap[g]? = some (.cells #[a, b, c, d, e, f] t (0, 0))) :
    ((((((w.setCell ⟨g, 0, none⟩ x).setCell ⟨g, 1, none⟩ y).setCell ⟨g, 2, none⟩ z).setCell ⟨g, 3, none⟩ u).setCell ⟨g, 4, none⟩ v).setCell ⟨g, 5, none⟩ q).heap[g]? = some (.cells #[x, y, z, u, v, q] t (0, 0)) ∧ w.grownBy ((((((w.setCell ⟨g, 0, none⟩ x).setCell ⟨g, 1, none⟩ y).setCell ⟨g, 2, none⟩ z).setCell ⟨g, 3, none⟩ u).setCell ⟨g, 4, none⟩ v).setCell ⟨g, 5, none⟩ q) (some g) :=
  ⟨heap_setCell_same _ g 5 _ _ _ (heap_setCell_same _ g 4 _ _ _ (heap_setCell_same _ g 3 _ _ _ (heap_setCell_same _ g 2 _ _ _ (heap_setCell_same _ g 1 _ _ _ (heap_setCell_same w g 0 _ _ _ h))))), grown_then' (grown_then' (grown_then' (grown_then' (grown_then' (grown_cell' _ _ _ _) (grown_cell' _ _ _ _)) (grown_cell' _ _ _ _)) (grown_cell' _ _ _ _)) (grown_cell' _ _ _ _)) (grown_cell' _ _ _ _)⟩
/-- Both answers are written: what is known then. -/
structure Fin (w X Y : World) (base : Nat) (C E : Array Value) : Prop where
  p : Y.heap[w.heap.size + 1 + 1 + 1]? = some (.cells C 28 (0, 0))
  q : Y.heap[w.heap.size + 1 + 1 + 1 + 1]? = some (.cells E 36 (0, 0))
  bel : Below w.heap.size w Y
  sl : ∀ {A : Option Addr} {n : Nat} {xs : List Value}, Sl X X.heap.size A n xs → (∀ b o, A = some (⟨b, o, none⟩ : Addr) → base ≤ b) → Sl Y Y.heap.size A n xs
  own : ∀ {e : TypeId} {v : Value} {n : Nat} {xs : List Value}, X.ownsRow base e 1 v n xs → Y.ownsRow base e 1 v n xs
theorem Ds.fin {w X : World} {g base : Nat} {S M R O : Array Value} (D : Ds w X g S M R O) (hz : base = w.heap.size + 5) (x0 x1 x2 x3 e0 e1 e2 e3 e4 e5 : Value) :
    Fin w X ((((((((((((X.setCell ⟨w.heap.size + 1 + 1 + 1, 0, none⟩ x0).setCell ⟨w.heap.size + 1 + 1 + 1, 1, none⟩ x1).setCell ⟨w.heap.size + 1 + 1 + 1, 2, none⟩ x2).setCell ⟨w.heap.size + 1 + 1 + 1, 3, none⟩ x3).setCell ⟨w.heap.size + 1 + 1 + 1 + 1, 0, none⟩ e0).setCell ⟨w.heap.size + 1 + 1 + 1 + 1, 1, none⟩ e1).setCell ⟨w.heap.size + 1 + 1 + 1 + 1, 2, none⟩ e2).setCell ⟨w.heap.size + 1 + 1 + 1 + 1, 3, none⟩ e3).setCell ⟨w.heap.size + 1 + 1 + 1 + 1, 4, none⟩ e4).setCell ⟨w.heap.size + 1 + 1 + 1 + 1, 5, none⟩ e5).drew)) base #[x0, x1, x2, x3] #[e0, e1, e2, e3, e4, e5] := by
  have s1 := set4 x0 x1 x2 x3 D.p
  generalize (((X.setCell ⟨w.heap.size + 1 + 1 + 1, 0, none⟩ x0).setCell ⟨w.heap.size + 1 + 1 + 1, 1, none⟩ x1).setCell ⟨w.heap.size + 1 + 1 + 1, 2, none⟩ x2).setCell ⟨w.heap.size + 1 + 1 + 1, 3, none⟩ x3 = Z at s1 ⊢
  obtain ⟨h1, g1⟩ := s1
  have s2 := set6 e0 e1 e2 e3 e4 e5 (g1.row (k := w.heap.size + 1 + 1 + 1 + 1) (by omega) D.q)
  generalize (((((Z.setCell ⟨w.heap.size + 1 + 1 + 1 + 1, 0, none⟩ e0).setCell ⟨w.heap.size + 1 + 1 + 1 + 1, 1, none⟩ e1).setCell ⟨w.heap.size + 1 + 1 + 1 + 1, 2, none⟩ e2).setCell ⟨w.heap.size + 1 + 1 + 1 + 1, 3, none⟩ e3).setCell ⟨w.heap.size + 1 + 1 + 1 + 1, 4, none⟩ e4).setCell ⟨w.heap.size + 1 + 1 + 1 + 1, 5, none⟩ e5 = Y at s2 ⊢
  obtain ⟨h2, g2⟩ := s2
  have bz : Below w.heap.size w Z := D.bel.grown g1 D.bel.size (fun j e => by injection e with e; omega)
  have by' : Below w.heap.size w Y := bz.grown g2 bz.size (fun j e => by injection e with e; omega)
  have hp : Y.heap[w.heap.size + 1 + 1 + 1]? = some (.cells #[x0, x1, x2, x3] 28 (0, 0)) := g2.row (by omega) h1
  have sl : ∀ {A : Option Addr} {n : Nat} {xs : List Value}, Sl X X.heap.size A n xs → (∀ b o, A = some (⟨b, o, none⟩ : Addr) → base ≤ b) → Sl Y Y.heap.size A n xs := fun {A n xs} h hb =>
    (h.grown g1 (fun b o e e' => by have := hb b o e; injection e' with e'; omega)).grown g2 (fun b o e e' => by have := hb b o e; injection e' with e'; omega)
  refine ⟨hp, h2, by'.drew, sl, fun {e v n xs} h => ?_⟩
  have f1 : v.ownBlock ≠ some (w.heap.size + 1 + 1 + 1) := fun e => by have := (h.lt _ e).1; omega
  have f2 : v.ownBlock ≠ some (w.heap.size + 1 + 1 + 1 + 1) := fun e => by have := (h.lt _ e).1; omega
  have r : Y.ownsRow base e 1 v n xs := (h.kept g1 (Or.inr f1)).kept g2 (Or.inr f2)
  exact r
end Go.Proofs.Ytiibopdnlmnkmaa.MoW
