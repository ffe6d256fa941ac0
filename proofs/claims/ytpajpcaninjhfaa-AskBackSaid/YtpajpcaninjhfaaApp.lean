/- make and append on a row of the call's own, one-cell elements, the source nil, empty or not. No program in sight. -/
import Derived.Test.YtpajpcaninjhfaaMem
import Derived.Maps.AppendAt
import Derived.OwnWalk
namespace Go.Proofs.Ytpajpcaninjhfaa
open Go.RowKit

/-- Slice type t of one-cell elements e of so many bytes. -/
structure Elem (P : Program) (t e : TypeId) (bytes : Nat) : Prop where
  slice : P.underlying t = some (.slice e)
  info : ∃ i z, P.info? e = some i ∧ i.zero = some z ∧ i.size = 1 ∧ i.bytes = bytes ∧ z.cells.size = 1
theorem Elem.mk' {P : Program} {t e : TypeId} {bytes : Nat} {z : Value} (h : P.underlying t = some (.slice e)) (hi : (P.info? e).map (fun i => (i.zero, i.size, i.bytes)) = some (some z, 1, bytes)) (hz : z.cells.size = 1) : Elem P t e bytes := by
  refine ⟨h, ?_⟩
  cases hq : P.info? e with
  | none => simp [hq] at hi
  | some i =>
    simp [hq] at hi
    exact ⟨i, z, rfl, hi.1, hi.2.1, hi.2.2, hz⟩

/-- Behind w0 the world w has a row of the call's own, and nothing that was there has turned. -/
structure Has (w0 w : World) (e : TypeId) (v : Value) (n : Nat) (xs : List Value) : Prop where
  own : w.ownsRow w0.heap.size e 1 v n xs
  bel : Below w0.heap.size w0 w
section
variable {w0 w w' : World} {e : TypeId} {v : Value} {n : Nat} {xs : List Value}
theorem Has.nil_ (hb : Below w0.heap.size w0 w) (e : TypeId) : Has w0 w e (.slice none 0 0) 0 [] := ⟨World.ownsRow_nil _ _ _ _, hb⟩
theorem Has.len (h : Has w0 w e v n xs) : xs.length = n := by simpa using h.own.1
theorem Has.alloc (h : Has w0 w e v n xs) (o : Obj) : Has w0 (w.alloc o) e v n xs := ⟨h.own.alloc o, h.bel.alloc h.bel.size o⟩
theorem Has.drew (h : Has w0 w e v n xs) : Has w0 w.drew e v n xs := ⟨h.own, h.bel.drew⟩
theorem Has.made0 (hb : Below w0.heap.size w0 w) (e : TypeId) : Has w0 (w.alloc (.cells #[] e)) e (.slice (some ⟨w.heap.size, 0, none⟩) 0 0) 0 [] :=
  ⟨World.ownsRow_made w #[] 0 hb.size (by simp [maxLen]) (by simp), hb.alloc hb.size _⟩
/-- The value: a slice, its address, and what is read there. -/
theorem Has.slice (h : Has w0 w e v n xs) : ∃ A c, v = .slice A n c ∧ n ≤ c ∧ Sl w w.heap.size A n xs ∧ (∀ b, v.ownBlock = some b → w0.heap.size ≤ b) := by
  rcases h.own.2 with ⟨rfl, rfl⟩ | ⟨g, cap, cur, rfl, hb, hg, hc, _⟩
  · exact ⟨none, 0, rfl, Nat.le_refl _, Sl.of_own h.own, by simp [Value.ownBlock]⟩
  · refine ⟨some ⟨g, 0, none⟩, cap, rfl, hc, Sl.of_own h.own, fun b hb' => ?_⟩
    simp [Value.ownBlock] at hb'
    omega
/-- Over what is new above: a call that leaves all that there is as it was. -/
theorem Has.below (h : Has w0 w e v n xs) (hb : Below w.heap.size w w') : Has w0 w' e v n xs := by
  refine ⟨?_, h.bel.trans (hb.mono h.bel.size)⟩
  refine h.own.kept (row := none) ⟨hb.os, hb.tape, hb.output, hb.size, fun k hk _ => hb.block k hk⟩ ?_
  cases hv : v.ownBlock with
  | none => exact .inl rfl
  | some b => exact .inr (by simp)
end
/-- A new block's cells read. -/
theorem Sl.new (w : World) (cs : Array Value) (t : TypeId) (B : Nat) (hB : w.heap.size < B) : Sl (w.alloc (.cells cs t)) B (some ⟨w.heap.size, 0, none⟩) cs.size cs.toList :=
  ⟨by simp, fun _ => ⟨_, _, rfl, hB, fun j _ => by rw [Nat.zero_add, World.cell?_alloc_at _ _ _ _ rfl]; simp⟩⟩

theorem Sl.newF (w : World) (cs : Array Value) (t : TypeId) (fr : Nat × Nat) (B : Nat) (hB : w.heap.size < B) : Sl (w.alloc (.cells cs t fr)) B (some ⟨w.heap.size, 0, none⟩) cs.size cs.toList :=
  ⟨by simp, fun _ => ⟨_, _, rfl, hB, fun j _ => by rw [Nat.zero_add, cell_of_row _ _ _ _ _ _ (heap_alloc_new w _)]; simp⟩⟩
theorem Sl.new1 (w : World) (x : Value) (t : TypeId) : Sl (w.alloc (.cells #[x] t)) (w.heap.size + 1) (some ⟨w.heap.size, 0, none⟩) 1 [x] := Sl.new w #[x] t _ (by omega)
theorem Sl.new2 (w : World) (x y : Value) (t : TypeId) : Sl (w.alloc (.cells #[x, y] t)) (w.heap.size + 1) (some ⟨w.heap.size, 0, none⟩) 2 [x, y] := Sl.new w #[x, y] t _ (by omega)
theorem one1 (k : IntKind) (a : Int) : ∀ u ∈ [Value.int k a], u.oneCell' = true := by simp [Value.oneCell']
theorem one2 (k : IntKind) (a b : Int) : ∀ u ∈ [Value.int k a, Value.int k b], u.oneCell' = true := by simp [Value.oneCell']

section
variable {P : Program}
theorem run_app {t e : TypeId} {bytes : Nat} (E : Elem P t e bytes) (ty : TypeId) {w0 w : World} {v : Value} {n : Nat} {xs : List Value} (h : Has w0 w e v n xs)
    {B : Nat} {A : Option Addr} {m c : Nat} {news : List Value} (hr : Sl w B A m news) (h1 : ∀ u ∈ news, u.oneCell' = true) (hbytes : (n + m) * bytes ≤ 140737488355328) (h63 : n + m ≤ maxLen) :
    ∃ v' w', (Builtin.append_ #[t, t] ty #[v, .slice A m c]).run P w = .ok v' w' ∧ Has w0 w' e v' (n + m) (xs ++ news) ∧ w.grownBy w' v.ownBlock ∧ (v'.ownBlock = v.ownBlock ∨ v'.ownBlock = some w.heap.size) := by
  obtain ⟨i, z, hi, hz, hsize, hby, hzs⟩ := E.info
  rcases A with _ | ad
  · have hm : m = 0 := by
      rcases Nat.eq_zero_or_pos m with h0 | h0
      · exact h0
      · obtain ⟨b, o, he, _⟩ := hr.2 h0
        cases he
    subst hm
    obtain rfl : news = [] := List.eq_nil_of_length_eq_zero hr.1
    refine ⟨v, w, ?_, by simpa using h, ⟨rfl, rfl, rfl, Nat.le_refl _, fun _ _ _ => rfl⟩, .inl rfl⟩
    rcases h.own.2 with ⟨rfl, rfl⟩ | ⟨g, cap, cur, rfl, _, _, hnc, _⟩
    · simp [Builtin.append_, run_underlying E.slice, sizeOf, typeInfo, hi, Builtin.lenOf, Builtin.firstCells]
    · simp [Builtin.append_, run_underlying E.slice, sizeOf, typeInfo, hi, Builtin.lenOf, Builtin.firstCells, hnc, storeCells]
  · have hcells : ∀ j u, news[j]? = some u → w.cell? (ad.add j) = some u := by
      intro j u hu
      have hj : j < news.length := (List.getElem?_eq_some_iff.1 hu).1
      rw [hr.1] at hj
      obtain ⟨b, o, he, _, hc⟩ := hr.2 (by omega)
      injection he with he
      subst he
      have hadd : (⟨b, o, none⟩ : Addr).add j = ⟨b, o + j, none⟩ := by unfold Addr.add; split <;> simp_all
      rw [hadd, hc j hj, hu]
    obtain ⟨v', w', hrun, h2, h3, _, h5⟩ := run_append_own_at (P := P) w w0.heap.size t ty e i z 1 bytes E.slice hi hz hsize hby hzs (by omega) v n xs h.own ad m c news (by simpa using hr.1) hcells h1 h63 hbytes h.bel.size
    exact ⟨v', w', hrun, ⟨h2, h.bel.grown h3 h.bel.size (fun k hk => (h.own.lt k hk).1)⟩, h3, h5⟩

/-- AT THE OPERATION. -/
theorem wpList_app {t e : TypeId} {bytes : Nat} (E : Elem P t e bytes) {w0 w : World} {ops : Array Oper} {rest : List Oper} {o : Oper} {a : Act} {Q : Exit → Act → World → Prop} (hgd : o.guard = none) (s x : Operand)
    (ho : o.op = .call { callee := .builtin .append, args := #[s, x], argTypes := #[t, t] })
    {v : Value} {n : Nat} {xs : List Value} (h : Has w0 w e v n xs) (hs : a.eval s = v)
    {B : Nat} {A : Option Addr} {m c : Nat} {news : List Value} (hr : Sl w B A m news) (hx : a.eval x = .slice A m c) (h1 : ∀ u ∈ news, u.oneCell' = true) (hbytes : (n + m) * bytes ≤ 140737488355328) (h63 : n + m ≤ maxLen)
    (hk : ∀ v' w', Has w0 w' e v' (n + m) (xs ++ news) → w.grownBy w' v.ownBlock → (v'.ownBlock = v.ownBlock ∨ v'.ownBlock = some w.heap.size) → wpList P ops Q rest (a.put o.dst v') w') : wpList P ops Q (o :: rest) a w := by
  refine wpList_plain hgd fun K hK => ?_
  obtain ⟨v', w', hrun, h2, h3, h4⟩ := run_app (P := P) E o.type h (c := c) hr h1 hbytes h63
  unfold Oper.wp execOp
  simp only [ho, resolve, invoke, builtin, Sem.run_bind, Sem.run_pure, Result.andThen_ok, List.map_toArray, List.map_cons, List.map_nil, hs, hx, hrun]
  exact hK _ _ (hk v' w' h2 h3 h4)

/-- make([]T, 0, c). -/
theorem wpList_make0 {t e : TypeId} {bytes : Nat} (E : Elem P t e bytes) {w0 w : World} {ops : Array Oper} {rest : List Oper} {o : Oper} {a : Act} {Q : Exit → Act → World → Prop} (hgd : o.guard = none) (x y : Operand)
    (ho : o.op = .makeSlice t x y) (c : Nat) (hx : a.eval x = .int .i64 0) (hy : a.eval y = .int .i64 (c : Int)) (hb : Below w0.heap.size w0 w) (hbytes : bytes * c ≤ 281474976710656) (h63 : c ≤ maxLen)
    (hk : ∀ v' w', Has w0 w' e v' 0 [] → wpList P ops Q rest (a.put o.dst v') w') : wpList P ops Q (o :: rest) a w := by
  refine wpList_plain hgd fun K hK => ?_
  obtain ⟨i, z, hi, hz, hsize, hby, hzs⟩ := E.info
  obtain ⟨w', hrun, h2, h3⟩ := run_make_own (P := P) w w0.heap.size t e i z 1 E.slice hi hz hsize .i64 .i64 c (by rw [hby]; exact hbytes) h63 hb.size
  unfold Oper.wp
  simp [execOp, ho, hx, hy, hrun, Result.andThen]
  exact hK _ _ (hk _ w' ⟨h2, hb.grown h3 hb.size (by simp)⟩)
/-- make([]T, n): a new block of n zeros. -/
theorem made_one (z : Value) (n : Nat) : madeCells #[z] n = Array.replicate n z := by
  apply Array.ext
  · simp [madeCells]
  · intro i h1 h2
    simp [madeCells, Nat.mod_one]
theorem wpList_makeN {t e : TypeId} {i : TypeInfo} {z : Value} (ht : P.underlying t = some (.slice e)) (hi : P.info? e = some i) (hz : i.zero = some z) (hs : i.size = 1) (hzc : z.cells = #[z]) {w : World} {ops : Array Oper} {rest : List Oper} {o : Oper} {a : Act} {Q : Exit → Act → World → Prop} (hgd : o.guard = none) (x y : Operand)
    (ho : o.op = .makeSlice t x y) (n : Nat) (hx : a.eval x = .int .i64 (n : Int)) (hy : a.eval y = .int .i64 (n : Int)) (hbytes : i.bytes * n ≤ 281474976710656) (h63 : n ≤ 9223372036854775807)
    (hk : wpList P ops Q rest (a.put o.dst (.slice (some ⟨w.heap.size, 0, none⟩) n n)) (w.alloc (.cells (Array.replicate n z) e))) : wpList P ops Q (o :: rest) a w := by
  refine wpList_plain hgd fun K hK => ?_
  have hb' : (i.bytes : Int) * (n : Int) ≤ 281474976710656 := by
    have h : ((i.bytes * n : Nat) : Int) ≤ 281474976710656 := by omega
    rwa [Int.natCast_mul] at h
  have hrun := run_make (P := P) w t e i z ht hi hz .i64 .i64 n n (by omega) (by omega) hb' (by omega)
  rw [Int.toNat_natCast, hs, Nat.mul_one, hzc, made_one] at hrun
  unfold Oper.wp
  simp [execOp, ho, hx, hy, hrun, Result.andThen]
  exact hK _ _ hk
end
end Go.Proofs.Ytpajpcaninjhfaa
