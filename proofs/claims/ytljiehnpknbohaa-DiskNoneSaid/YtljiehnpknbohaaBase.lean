/- Merged: Mem Str App Elem Row MapN Args Step AskMath AskPack AskPack2. -/
import Derived.WalkKit
import Derived.Below
import Derived.Lib.Hide
import Derived.WalkSmall
import Derived.Laws.BytesArg
import Derived.Maps.AppendAt
import Derived.OwnWalk
import Derived.Laws.BitsAllLaws
import Derived.Laws.Rows
import Derived.Laws.Tables
import Derived.Deep.WholeRow
import Derived.MapKept
import Derived.Maps.OwnOps
import Derived.Lib.SmallJoins
import Derived.ChangeSlices
import Derived.OpenShut
import Derived.RegionTactic
/- Words for memory: a slice of one-cell elements that reads as a list. No program in sight. -/
namespace Go.Proofs.Ytljiehnpknbohaa
open Go.RowKit

theorem _root_.Go.RowKit.Below.drewN {B : Nat} {a w : World} (h : Below B a w) (n : Nat) : Below B a (w.drewN n) := ⟨h.os, h.tape, h.output, h.size, h.block⟩
/-- Over a call that leaves all that there is as it was; over a new block. -/
theorem _root_.Go.RowKit.Below.call {a w w' : World} (h : Below a.heap.size a w) (k : Below w.heap.size w w') : Below a.heap.size a w' := h.trans (k.mono h.size)
theorem _root_.Go.RowKit.Below.new {a w : World} (h : Below a.heap.size a w) (o : Obj) : Below a.heap.size a (w.alloc o) := h.alloc h.size o
/-- The slice at A of length n, which lies below block B (where it lies at all), reads as xs. -/
def Sl (w : World) (B : Nat) (A : Option Addr) (n : Nat) (xs : List Value) : Prop :=
  xs.length = n ∧ (0 < n → ∃ b o, A = some ⟨b, o, none⟩ ∧ b < B ∧ ∀ j, j < n → w.cell? ⟨b, o + j, none⟩ = xs[j]?)

section
variable {w w' : World} {B B' : Nat} {A : Option Addr} {n : Nat} {xs : List Value}
theorem Sl.len (h : Sl w B A n xs) : xs.length = n := h.1
theorem Sl.empty (w : World) (B : Nat) (A : Option Addr) : Sl w B A 0 [] := ⟨rfl, fun h => absurd h (by omega)⟩
theorem Sl.keep (h : Sl w B A n xs) (hk : ∀ b o, b < B → w'.cell? ⟨b, o, none⟩ = w.cell? ⟨b, o, none⟩) : Sl w' B A n xs :=
  ⟨h.1, fun hn => by
    obtain ⟨b, o, e, hb, hc⟩ := h.2 hn
    exact ⟨b, o, e, hb, fun j hj => (hk b _ hb).trans (hc j hj)⟩⟩
theorem Sl.mono (h : Sl w B A n xs) (hB : B ≤ B') : Sl w B' A n xs :=
  ⟨h.1, fun hn => by
    obtain ⟨b, o, e, hb, hc⟩ := h.2 hn
    exact ⟨b, o, e, by omega, hc⟩⟩
theorem Sl.below (h : Sl w B A n xs) (hb : Below B w w') : Sl w' B A n xs := h.keep fun b o hl => hb.cell (p := ⟨b, o, none⟩) hl
theorem Sl.alloc (h : Sl w B A n xs) (hB : B ≤ w.heap.size) (o : Obj) : Sl (w.alloc o) B A n xs := h.below ((Below.refl _ _).alloc hB o)
theorem Sl.drew (h : Sl w B A n xs) : Sl w.drew B A n xs := h
theorem Sl.drewN (h : Sl w B A n xs) (k : Nat) : Sl (w.drewN k) B A n xs := h
/-- In a later world. -/
theorem Sl.to (h : Sl w w.heap.size A n xs) (k : Below w.heap.size w w') : Sl w' w'.heap.size A n xs := (h.below k).mono k.size
/-- A first part. -/
theorem Sl.take (h : Sl w B A n xs) {k : Nat} (hk : k ≤ n) : Sl w B A k (xs.take k) := by
  refine ⟨by rw [List.length_take, h.1]; omega, fun hn => ?_⟩
  obtain ⟨b, o, e, hb, hc⟩ := h.2 (by omega)
  refine ⟨b, o, e, hb, fun j hj => ?_⟩
  rw [hc j (by omega), List.getElem?_take, if_pos hj]
/-- A last part, at the address as a slice expression leaves it. -/
theorem Sl.drop (h : Sl w B A n xs) {k cap : Nat} (hk : k ≤ n) (hc : n ≤ cap) : Sl w B (if cap = k then A else Option.map (fun x => x.add k) A) (n - k) (xs.drop k) := by
  refine ⟨by rw [List.length_drop, h.1], fun hn => ?_⟩
  obtain ⟨b, o, rfl, hb, hcell⟩ := h.2 (by omega)
  rw [if_neg (by omega)]
  refine ⟨b, o + k, ?_, hb, fun j hj => ?_⟩
  · show some ((⟨b, o, none⟩ : Addr).add k) = _
    unfold Addr.add; split <;> simp_all
  · rw [Nat.add_assoc, hcell (k + j) (by omega), List.getElem?_drop]
/-- Out of an owned row. -/
theorem Sl.of_own {base : Nat} {e : TypeId} {c : Nat} (h : w.ownsRow base e 1 (.slice A n c) n xs) : Sl w w.heap.size A n xs := by
  refine ⟨by simpa using h.1, fun hn => ?_⟩
  rcases h.2 with ⟨hv, h0⟩ | ⟨g, cap, cur, hv, hb, hg, hc, hm, hs, ht⟩
  · omega
  · injection hv with hA _ _
    subst hA
    refine ⟨g, 0, rfl, (Array.getElem?_eq_some_iff.1 hg).1, fun j hj => ?_⟩
    rw [Nat.zero_add, cell_of_row w g j cur e (0, 0) hg, ← ht, List.getElem?_take, if_pos (by omega)]
    simp
end

/-- Bytes. -/
def bs (l : List Nat) : List Value := l.map fun c => .int .u8 (c : Nat)
@[simp] theorem bs_length (l : List Nat) : (bs l).length = l.length := by simp [bs]
theorem bs_get {l : List Nat} {j : Nat} (h : j < l.length) : (bs l)[j]? = some (.int .u8 ((l[j]?.getD 0 : Nat) : Int)) := by
  simp [bs, h]
theorem bs_take (l : List Nat) (k : Nat) : (bs l).take k = bs (l.take k) := by simp [bs]
theorem bs_drop (l : List Nat) (k : Nat) : (bs l).drop k = bs (l.drop k) := by simp [bs]
theorem bs_append (l r : List Nat) : bs l ++ bs r = bs (l ++ r) := by simp [bs]
theorem bs_one (l : List Nat) : ∀ u ∈ bs l, u.oneCell' = true := by
  intro u hu
  simp [bs] at hu
  obtain ⟨_, _, rfl⟩ := hu
  rfl
/-- Each is a byte. -/
def Bytes (l : List Nat) : Prop := ∀ c ∈ l, c < 256
theorem Bytes.at {l : List Nat} (h : Bytes l) (j : Nat) : l[j]?.getD 0 < 256 := by
  by_cases hj : j < l.length
  · rw [List.getElem?_eq_getElem hj]; exact h _ (List.getElem_mem hj)
  · rw [List.getElem?_eq_none (by omega)]; decide
theorem Bytes.take {l : List Nat} (h : Bytes l) (k : Nat) : Bytes (l.take k) := fun c hc => h c (List.mem_of_mem_take hc)
theorem Bytes.drop {l : List Nat} (h : Bytes l) (k : Nat) : Bytes (l.drop k) := fun c hc => h c (List.mem_of_mem_drop hc)
theorem take_snoc {l : List Nat} {k : Nat} (h : k < l.length) : l.take (k + 1) = l.take k ++ [l[k]?.getD 0] := by
  rw [List.take_succ_eq_append_getElem h, List.getElem?_eq_getElem h]; rfl
end Go.Proofs.Ytljiehnpknbohaa
/- string(b) of a slice of bytes that reads as a list. -/
namespace Go.Proofs.Ytljiehnpknbohaa
open Go.RowKit
/-- Bytes as a text. -/
def strB (l : List Nat) : ByteArray := ⟨(l.map UInt8.ofNat).toArray⟩
theorem strB_ofInts (l : List Nat) : strOfNums (l.map fun c => ((c : Nat) : Int)) = strB l := by
  unfold strOfNums strB
  simp
theorem strB_data (l : List Nat) : (strB l).data.toList = l.map UInt8.ofNat := rfl
theorem strB_size (l : List Nat) : (strB l).size = l.length := by simp [strB, ByteArray.size]
theorem toList_data (s : ByteArray) : s.toList = s.data.toList := by
  rw [ByteArray.toList_eq]
theorem ofNat_inj {a b : Nat} (ha : a < 256) (hb : b < 256) (h : UInt8.ofNat a = UInt8.ofNat b) : a = b := by
  have := congrArg UInt8.toNat h
  simpa [UInt8.toNat_ofNat, Nat.mod_eq_of_lt ha, Nat.mod_eq_of_lt hb] using this
theorem map_ofNat_inj : ∀ (l r : List Nat), Bytes l → Bytes r → l.map UInt8.ofNat = r.map UInt8.ofNat → l = r
  | [], [], _, _, _ => rfl
  | [], _ :: _, _, _, h => by simp at h
  | _ :: _, [], _, _, h => by simp at h
  | x :: l, y :: r, hl, hr, h => by
    simp only [List.map_cons, List.cons.injEq] at h
    have e := ofNat_inj (hl x (by simp)) (hr y (by simp)) h.1
    rw [e, map_ofNat_inj l r (fun c hc => hl c (by simp [hc])) (fun c hc => hr c (by simp [hc])) h.2]
theorem strB_eq (l r : List Nat) (hl : Bytes l) (hr : Bytes r) : ((strB l).toList == (strB r).toList) = (l == r) := by
  rw [Bool.eq_iff_iff]
  simp only [beq_iff_eq, toList_data, strB_data]
  constructor
  · exact map_ofNat_inj l r hl hr
  · rintro rfl; rfl
theorem run_string {P : Program} (w : World) (B : Nat) (src dst e : TypeId) (hsrc : P.underlying src = some (.slice e)) (he : P.underlying e = some (.int .u8)) (hdst : P.underlying dst = some .string)
    (A : Option Addr) (n cap : Nat) (l : List Nat) (hs : Sl w B A n (bs l)) :
    (convert src dst (.slice A n cap)).run P w = .ok (.string (strB l)) w := by
  have hlen : l.length = n := by simpa using hs.len
  by_cases h0 : 0 < n
  · obtain ⟨b, o, rfl, _, hc⟩ := hs.2 h0
    rw [← strB_ofInts]
    refine run_convert_bytes_arg w src e hsrc he b o n cap (l.map fun c => ((c : Nat) : Int)) (by simpa using hlen) (fun i hi => ?_) dst hdst
    rw [hc i hi]
    have hi' : i < l.length := by omega
    simp [bs, hi']
  · obtain rfl : n = 0 := by omega
    obtain rfl : l = [] := List.eq_nil_of_length_eq_zero hlen
    rcases A with _ | ad
    · rw [run_convert_bytes_nil w src e hsrc he 0 cap dst hdst]; rfl
    · rw [run_convert_bytes_string w src dst e _ 0 cap hsrc he hdst]
      have := run_bytesToString (P := P) w ad 0 cap [] (by simp [loadCells, loadCellsFrom])
      rw [this]; rfl
end Go.Proofs.Ytljiehnpknbohaa
/- make and append on a row of the call's own, one-cell elements, the source nil, empty or not. No program in sight. -/
namespace Go.Proofs.Ytljiehnpknbohaa
open Go.RowKit

/-- Slice type t of one-cell elements e of so many bytes. -/
structure Elem (P : Program) (t e : TypeId) (bytes : Nat) : Prop where
  slice : P.underlying t = some (.slice e)
  info : ∃ i z, P.info? e = some i ∧ i.zero = some z ∧ i.size = 1 ∧ i.bytes = bytes ∧ z.cells.size = 1
theorem Elem.mk' {P : Program} {t e : TypeId} {bytes : Nat} {z : Value} (h : P.underlying t = some (.slice e)) (hi : (P.info? e).map (fun i => (i.zero, i.size, i.bytes)) = some (some z, 1, bytes)) (hz : z.cells.size = 1) : Elem P t e bytes := by
  refine ⟨h, ?_⟩
  cases hq : P.info? e with
  | none => simp [hq] at hi
  | some i =>
    simp [hq] at hi
    exact ⟨i, z, rfl, hi.1, hi.2.1, hi.2.2, hz⟩

/-- Behind w0 the world w has a row of the call's own, and nothing that was there has turned. -/
structure Has (w0 w : World) (e : TypeId) (v : Value) (n : Nat) (xs : List Value) : Prop where
  own : w.ownsRow w0.heap.size e 1 v n xs
  bel : Below w0.heap.size w0 w
section
variable {w0 w w' : World} {e : TypeId} {v : Value} {n : Nat} {xs : List Value}
theorem Has.nil_ (hb : Below w0.heap.size w0 w) (e : TypeId) : Has w0 w e (.slice none 0 0) 0 [] := ⟨World.ownsRow_nil _ _ _ _, hb⟩
theorem Has.len (h : Has w0 w e v n xs) : xs.length = n := by simpa using h.own.1
theorem Has.alloc (h : Has w0 w e v n xs) (o : Obj) : Has w0 (w.alloc o) e v n xs := ⟨h.own.alloc o, h.bel.alloc h.bel.size o⟩
theorem Has.drew (h : Has w0 w e v n xs) : Has w0 w.drew e v n xs := ⟨h.own, h.bel.drew⟩
theorem Has.made0 (hb : Below w0.heap.size w0 w) (e : TypeId) : Has w0 (w.alloc (.cells #[] e)) e (.slice (some ⟨w.heap.size, 0, none⟩) 0 0) 0 [] :=
  ⟨World.ownsRow_made w #[] 0 hb.size (by simp [maxLen]) (by simp), hb.alloc hb.size _⟩
/-- The value: a slice, its address, and what is read there. -/
theorem Has.slice (h : Has w0 w e v n xs) : ∃ A c, v = .slice A n c ∧ n ≤ c ∧ Sl w w.heap.size A n xs ∧ (∀ b, v.ownBlock = some b → w0.heap.size ≤ b) := by
  rcases h.own.2 with ⟨rfl, rfl⟩ | ⟨g, cap, cur, rfl, hb, hg, hc, _⟩
  · exact ⟨none, 0, rfl, Nat.le_refl _, Sl.of_own h.own, by simp [Value.ownBlock]⟩
  · refine ⟨some ⟨g, 0, none⟩, cap, rfl, hc, Sl.of_own h.own, fun b hb' => ?_⟩
    simp [Value.ownBlock] at hb'
    omega
/-- Over what is new above: a call that leaves all that there is as it was. -/
theorem Has.below (h : Has w0 w e v n xs) (hb : Below w.heap.size w w') : Has w0 w' e v n xs := by
  refine ⟨?_, h.bel.trans (hb.mono h.bel.size)⟩
  refine h.own.kept (row := none) ⟨hb.os, hb.tape, hb.output, hb.size, fun k hk _ => hb.block k hk⟩ ?_
  cases hv : v.ownBlock with
  | none => exact .inl rfl
  | some b => exact .inr (by simp)
end
/-- A new block's cells read. -/
theorem Sl.new (w : World) (cs : Array Value) (t : TypeId) (B : Nat) (hB : w.heap.size < B) : Sl (w.alloc (.cells cs t)) B (some ⟨w.heap.size, 0, none⟩) cs.size cs.toList :=
  ⟨by simp, fun _ => ⟨_, _, rfl, hB, fun j _ => by rw [Nat.zero_add, World.cell?_alloc_at _ _ _ _ rfl]; simp⟩⟩

theorem Sl.newF (w : World) (cs : Array Value) (t : TypeId) (fr : Nat × Nat) (B : Nat) (hB : w.heap.size < B) : Sl (w.alloc (.cells cs t fr)) B (some ⟨w.heap.size, 0, none⟩) cs.size cs.toList :=
  ⟨by simp, fun _ => ⟨_, _, rfl, hB, fun j _ => by rw [Nat.zero_add, cell_of_row _ _ _ _ _ _ (heap_alloc_new w _)]; simp⟩⟩
theorem Sl.new1 (w : World) (x : Value) (t : TypeId) : Sl (w.alloc (.cells #[x] t)) (w.heap.size + 1) (some ⟨w.heap.size, 0, none⟩) 1 [x] := Sl.new w #[x] t _ (by omega)
theorem Sl.new2 (w : World) (x y : Value) (t : TypeId) : Sl (w.alloc (.cells #[x, y] t)) (w.heap.size + 1) (some ⟨w.heap.size, 0, none⟩) 2 [x, y] := Sl.new w #[x, y] t _ (by omega)
theorem one1 (k : IntKind) (a : Int) : ∀ u ∈ [Value.int k a], u.oneCell' = true := by simp [Value.oneCell']
theorem one2 (k : IntKind) (a b : Int) : ∀ u ∈ [Value.int k a, Value.int k b], u.oneCell' = true := by simp [Value.oneCell']

section
variable {P : Program}
theorem run_app {t e : TypeId} {bytes : Nat} (E : Elem P t e bytes) (ty : TypeId) {w0 w : World} {v : Value} {n : Nat} {xs : List Value} (h : Has w0 w e v n xs)
    {B : Nat} {A : Option Addr} {m c : Nat} {news : List Value} (hr : Sl w B A m news) (h1 : ∀ u ∈ news, u.oneCell' = true) (hbytes : (n + m) * bytes ≤ 140737488355328) (h63 : n + m ≤ maxLen) :
    ∃ v' w', (Builtin.append_ #[t, t] ty #[v, .slice A m c]).run P w = .ok v' w' ∧ Has w0 w' e v' (n + m) (xs ++ news) ∧ w.grownBy w' v.ownBlock ∧ (v'.ownBlock = v.ownBlock ∨ v'.ownBlock = some w.heap.size) := by
  obtain ⟨i, z, hi, hz, hsize, hby, hzs⟩ := E.info
  rcases A with _ | ad
  · have hm : m = 0 := by
      rcases Nat.eq_zero_or_pos m with h0 | h0
      · exact h0
      · obtain ⟨b, o, he, _⟩ := hr.2 h0
        cases he
    subst hm
    obtain rfl : news = [] := List.eq_nil_of_length_eq_zero hr.1
    refine ⟨v, w, ?_, by simpa using h, ⟨rfl, rfl, rfl, Nat.le_refl _, fun _ _ _ => rfl⟩, .inl rfl⟩
    rcases h.own.2 with ⟨rfl, rfl⟩ | ⟨g, cap, cur, rfl, _, _, hnc, _⟩
    · simp [Builtin.append_, run_underlying E.slice, sizeOf, typeInfo, hi, Builtin.lenOf, Builtin.firstCells]
    · simp [Builtin.append_, run_underlying E.slice, sizeOf, typeInfo, hi, Builtin.lenOf, Builtin.firstCells, hnc, storeCells]
  · have hcells : ∀ j u, news[j]? = some u → w.cell? (ad.add j) = some u := by
      intro j u hu
      have hj : j < news.length := (List.getElem?_eq_some_iff.1 hu).1
      rw [hr.1] at hj
      obtain ⟨b, o, he, _, hc⟩ := hr.2 (by omega)
      injection he with he
      subst he
      have hadd : (⟨b, o, none⟩ : Addr).add j = ⟨b, o + j, none⟩ := by unfold Addr.add; split <;> simp_all
      rw [hadd, hc j hj, hu]
    obtain ⟨v', w', hrun, h2, h3, _, h5⟩ := run_append_own_at (P := P) w w0.heap.size t ty e i z 1 bytes E.slice hi hz hsize hby hzs (by omega) v n xs h.own ad m c news (by simpa using hr.1) hcells h1 h63 hbytes h.bel.size
    exact ⟨v', w', hrun, ⟨h2, h.bel.grown h3 h.bel.size (fun k hk => (h.own.lt k hk).1)⟩, h3, h5⟩

/-- AT THE OPERATION. -/
theorem wpList_app {t e : TypeId} {bytes : Nat} (E : Elem P t e bytes) {w0 w : World} {ops : Array Oper} {rest : List Oper} {o : Oper} {a : Act} {Q : Exit → Act → World → Prop} (hgd : o.guard = none) (s x : Operand)
    (ho : o.op = .call { callee := .builtin .append, args := #[s, x], argTypes := #[t, t] })
    {v : Value} {n : Nat} {xs : List Value} (h : Has w0 w e v n xs) (hs : a.eval s = v)
    {B : Nat} {A : Option Addr} {m c : Nat} {news : List Value} (hr : Sl w B A m news) (hx : a.eval x = .slice A m c) (h1 : ∀ u ∈ news, u.oneCell' = true) (hbytes : (n + m) * bytes ≤ 140737488355328) (h63 : n + m ≤ maxLen)
    (hk : ∀ v' w', Has w0 w' e v' (n + m) (xs ++ news) → w.grownBy w' v.ownBlock → (v'.ownBlock = v.ownBlock ∨ v'.ownBlock = some w.heap.size) → wpList P ops Q rest (a.put o.dst v') w') : wpList P ops Q (o :: rest) a w := by
  refine wpList_plain hgd fun K hK => ?_
  obtain ⟨v', w', hrun, h2, h3, h4⟩ := run_app (P := P) E o.type h (c := c) hr h1 hbytes h63
  unfold Oper.wp execOp
  simp only [ho, resolve, invoke, builtin, Sem.run_bind, Sem.run_pure, Result.andThen_ok, List.map_toArray, List.map_cons, List.map_nil, hs, hx, hrun]
  exact hK _ _ (hk v' w' h2 h3 h4)

/-- make([]T, 0, c). -/
theorem wpList_make0 {t e : TypeId} {bytes : Nat} (E : Elem P t e bytes) {w0 w : World} {ops : Array Oper} {rest : List Oper} {o : Oper} {a : Act} {Q : Exit → Act → World → Prop} (hgd : o.guard = none) (x y : Operand)
    (ho : o.op = .makeSlice t x y) (c : Nat) (hx : a.eval x = .int .i64 0) (hy : a.eval y = .int .i64 (c : Int)) (hb : Below w0.heap.size w0 w) (hbytes : bytes * c ≤ 281474976710656) (h63 : c ≤ maxLen)
    (hk : ∀ v' w', Has w0 w' e v' 0 [] → wpList P ops Q rest (a.put o.dst v') w') : wpList P ops Q (o :: rest) a w := by
  refine wpList_plain hgd fun K hK => ?_
  obtain ⟨i, z, hi, hz, hsize, hby, hzs⟩ := E.info
  obtain ⟨w', hrun, h2, h3⟩ := run_make_own (P := P) w w0.heap.size t e i z 1 E.slice hi hz hsize .i64 .i64 c (by rw [hby]; exact hbytes) h63 hb.size
  unfold Oper.wp
  simp [execOp, ho, hx, hy, hrun, Result.andThen]
  exact hK _ _ (hk _ w' ⟨h2, hb.grown h3 hb.size (by simp)⟩)
/-- make([]T, n): a new block of n zeros. -/
theorem made_one (z : Value) (n : Nat) : madeCells #[z] n = Array.replicate n z := by
  apply Array.ext
  · simp [madeCells]
  · intro i h1 h2
    simp [madeCells, Nat.mod_one]
theorem wpList_makeN {t e : TypeId} {i : TypeInfo} {z : Value} (ht : P.underlying t = some (.slice e)) (hi : P.info? e = some i) (hz : i.zero = some z) (hs : i.size = 1) (hzc : z.cells = #[z]) {w : World} {ops : Array Oper} {rest : List Oper} {o : Oper} {a : Act} {Q : Exit → Act → World → Prop} (hgd : o.guard = none) (x y : Operand)
    (ho : o.op = .makeSlice t x y) (n : Nat) (hx : a.eval x = .int .i64 (n : Int)) (hy : a.eval y = .int .i64 (n : Int)) (hbytes : i.bytes * n ≤ 281474976710656) (h63 : n ≤ 9223372036854775807)
    (hk : wpList P ops Q rest (a.put o.dst (.slice (some ⟨w.heap.size, 0, none⟩) n n)) (w.alloc (.cells (Array.replicate n z) e))) : wpList P ops Q (o :: rest) a w := by
  refine wpList_plain hgd fun K hK => ?_
  have hb' : (i.bytes : Int) * (n : Int) ≤ 281474976710656 := by
    have h : ((i.bytes * n : Nat) : Int) ≤ 281474976710656 := by omega
    rwa [Int.natCast_mul] at h
  have hrun := run_make (P := P) w t e i z ht hi hz .i64 .i64 n n (by omega) (by omega) hb' (by omega)
  rw [Int.toNat_natCast, hs, Nat.mul_one, hzc, made_one] at hrun
  unfold Oper.wp
  simp [execOp, ho, hx, hy, hrun, Result.andThen]
  exact hK _ _ hk
end
end Go.Proofs.Ytljiehnpknbohaa
/- Words and bits as lists in memory. No program in sight. -/
namespace Go.Proofs.Ytljiehnpknbohaa
open Go.RowKit
theorem w64 {n : Nat} (h : n ≤ 9223372036854775807) : IntKind.i64.wrap (n : Int) = n := by rw [IntKind.wrap_i64]; omega
/-- Words. -/
def ws (l : List Nat) : List Value := l.map fun c => .int .u16 (c : Nat)
@[simp] theorem ws_length (l : List Nat) : (ws l).length = l.length := by simp [ws]
theorem ws_get {l : List Nat} {j : Nat} (h : j < l.length) : (ws l)[j]? = some (.int .u16 ((l[j]?.getD 0 : Nat) : Int)) := by simp [ws, h]
theorem ws_take (l : List Nat) (k : Nat) : (ws l).take k = ws (l.take k) := by simp [ws]
theorem ws_drop (l : List Nat) (k : Nat) : (ws l).drop k = ws (l.drop k) := by simp [ws]
theorem ws_append (l r : List Nat) : ws l ++ ws r = ws (l ++ r) := by simp [ws]
theorem ws_one (l : List Nat) : ∀ u ∈ ws l, u.oneCell' = true := by
  intro u hu
  simp [ws] at hu
  obtain ⟨_, _, rfl⟩ := hu
  rfl
/-- Bits. -/
def bl (l : List Bool) : List Value := l.map Value.bool
@[simp] theorem bl_length (l : List Bool) : (bl l).length = l.length := by simp [bl]
theorem bl_get {l : List Bool} {j : Nat} (h : j < l.length) : (bl l)[j]? = some (.bool (l[j]?.getD false)) := by simp [bl, h]
theorem bl_take (l : List Bool) (k : Nat) : (bl l).take k = bl (l.take k) := by simp [bl]
theorem bl_drop (l : List Bool) (k : Nat) : (bl l).drop k = bl (l.drop k) := by simp [bl]
theorem bl_append (l r : List Bool) : bl l ++ bl r = bl (l ++ r) := by simp [bl]
theorem bl_one (l : List Bool) : ∀ u ∈ bl l, u.oneCell' = true := by
  intro u hu
  simp [bl] at hu
  rcases hu with ⟨_, rfl⟩ | ⟨_, rfl⟩ <;> rfl
/-- Rows that are the same up to k, and one further. -/
theorem take_eq_snoc {α : Type} [DecidableEq α] (d : α) {l r : List α} {k : Nat} (hl : k < l.length) (hr : k < r.length) : l.take (k + 1) = r.take (k + 1) ↔ l.take k = r.take k ∧ l[k]?.getD d = r[k]?.getD d := by
  rw [List.take_succ_eq_append_getElem hl, List.take_succ_eq_append_getElem hr, List.getElem?_eq_getElem hl, List.getElem?_eq_getElem hr]
  constructor
  · intro h
    have := List.append_inj h (by simp; omega)
    exact ⟨this.1, by simpa using this.2⟩
  · rintro ⟨h1, h2⟩
    rw [h1]
    simp at h2
    rw [h2]
theorem ne_of_at {α : Type} [DecidableEq α] (d : α) {l r : List α} {k : Nat} (h : l[k]?.getD d ≠ r[k]?.getD d) : (l == r) = false := by
  rw [beq_eq_false_iff_ne]; rintro rfl; exact h rfl
theorem ne_of_len {α : Type} [DecidableEq α] {l r : List α} (h : l.length ≠ r.length) : (l == r) = false := by
  rw [beq_eq_false_iff_ne]; rintro rfl; exact h rfl
theorem eq_of_take {α : Type} [DecidableEq α] {l r : List α} {n : Nat} (hl : l.length = n) (hr : r.length = n) (h : l.take n = r.take n) : (l == r) = true := by
  rw [List.take_of_length_le (by omega), List.take_of_length_le (by omega)] at h
  simpa using h
end Go.Proofs.Ytljiehnpknbohaa
/- Blocks that hold a struct: what is kept, stored, handed back. No program in sight. -/
namespace Go.Proofs.Ytljiehnpknbohaa
open Go.RowKit
theorem _root_.Go.RowKit.Below.row {B : Nat} {w w' : World} (h : Below B w w') {k : Nat} {o : Obj} (hk : k < B) (ho : w.heap[k]? = some o) : w'.heap[k]? = some o := (h.block k hk).trans ho
theorem _root_.Go.World.grownBy.row {w w' : World} {g k : Nat} (h : w.grownBy w' (some g)) {o : Obj} (hne : k ≠ g) (ho : w.heap[k]? = some o) : w'.heap[k]? = some o :=
  (h.block k ((Array.getElem?_eq_some_iff.1 ho).1) (fun e => hne (by injection e))).trans ho
theorem Sl.grown {w w' : World} {A : Option Addr} {n : Nat} {xs : List Value} {row : Option Nat} (h : Sl w w.heap.size A n xs) (g : w.grownBy w' row) (hne : ∀ b o, A = some ⟨b, o, none⟩ → row ≠ some b) : Sl w' w'.heap.size A n xs :=
  ⟨h.1, fun hn => by
    obtain ⟨b, o, rfl, hb, hc⟩ := h.2 hn
    have hs := g.size
    refine ⟨b, o, rfl, by omega, fun j hj => ?_⟩
    rw [← hc j hj]
    exact World.cell?_of_block (w := w) (a := ⟨b, o + j, none⟩) (g.block b hb (fun e => hne b o rfl e.symm))⟩
theorem Has.of_row {w0 w : World} (hb : Below w0.heap.size w0 w) {g n : Nat} {cs : Array Value} {e : TypeId} (hg : w.heap[g]? = some (.cells cs e (0, 0))) (hge : w0.heap.size ≤ g) (hn : cs.size = n) (hm : n ≤ maxLen) : Has w0 w e (.slice (some ⟨g, 0, none⟩) n n) n cs.toList :=
  ⟨⟨by simpa using hn, Or.inr ⟨g, n, cs, rfl, hge, hg, Nat.le_refl _, hm, by omega, by rw [Nat.mul_one, ← hn, Array.size_eq_length_toList, List.take_length]⟩⟩, hb⟩
theorem row4 {w : World} {g : Nat} {v0 v1 v2 v3 : Value} {t : TypeId} (h : w.heap[g]? = some (.cells #[v0, v1, v2, v3] t (0, 0))) :
    w.cell? ⟨g, 0, none⟩ = some v0 ∧ w.cell? ⟨g, 1, none⟩ = some v1 ∧ w.cell? ⟨g, 2, none⟩ = some v2 ∧ w.cell? ⟨g, 3, none⟩ = some v3 :=
  ⟨cell_of_row w g 0 _ _ _ h, cell_of_row w g 1 _ _ _ h, cell_of_row w g 2 _ _ _ h, cell_of_row w g 3 _ _ _ h⟩
theorem row6 {w : World} {g : Nat} {v0 v1 v2 v3 v4 v5 : Value} {t : TypeId} (h : w.heap[g]? = some (.cells #[v0, v1, v2, v3, v4, v5] t (0, 0))) :
    w.cell? ⟨g, 0, none⟩ = some v0 ∧ w.cell? ⟨g, 1, none⟩ = some v1 ∧ w.cell? ⟨g, 2, none⟩ = some v2 ∧ w.cell? ⟨g, 3, none⟩ = some v3 ∧ w.cell? ⟨g, 4, none⟩ = some v4 ∧ w.cell? ⟨g, 5, none⟩ = some v5 :=
  ⟨cell_of_row w g 0 _ _ _ h, cell_of_row w g 1 _ _ _ h, cell_of_row w g 2 _ _ _ h, cell_of_row w g 3 _ _ _ h, cell_of_row w g 4 _ _ _ h, cell_of_row w g 5 _ _ _ h⟩
theorem free6 {w : World} {g : Nat} {cs : Array Value} {t : TypeId} (h : w.heap[g]? = some (.cells cs t (0, 0))) :
    w.frozen? ⟨g, 0, none⟩ = false ∧ w.frozen? ⟨g, 1, none⟩ = false ∧ w.frozen? ⟨g, 2, none⟩ = false ∧ w.frozen? ⟨g, 3, none⟩ = false ∧ w.frozen? ⟨g, 4, none⟩ = false ∧ w.frozen? ⟨g, 5, none⟩ = false :=
  ⟨frozen_of_row w g 0 _ _ h, frozen_of_row w g 1 _ _ h, frozen_of_row w g 2 _ _ h, frozen_of_row w g 3 _ _ h, frozen_of_row w g 4 _ _ h, frozen_of_row w g 5 _ _ h⟩
theorem Has.weaken {w0 w1 w : World} {e : TypeId} {v : Value} {n : Nat} {xs : List Value} (H : Has w1 w e v n xs) (hb : Below w0.heap.size w0 w1) : Has w0 w e v n xs := by
  refine ⟨⟨H.own.1, ?_⟩, hb.call H.bel⟩
  rcases H.own.2 with h | ⟨g, cap, cur, hv, hg, r⟩
  · exact Or.inl h
  · exact Or.inr ⟨g, cap, cur, hv, Nat.le_trans hb.size hg, r⟩
theorem Has.cast {w0 w : World} {e : TypeId} {v : Value} {n : Nat} {xs ys : List Value} (H : Has w0 w e v n xs) (h : xs = ys) : Has w0 w e v ys.length ys := by
  subst h; rw [H.len]; exact H
theorem Has.apart {w0 w : World} {e : TypeId} {v : Value} {n : Nat} {xs : List Value} (H : Has w0 w e v n xs) {b : Nat} (hb : b < w0.heap.size) : v.ownBlock ≠ some b := by
  obtain ⟨_, _, _, _, _, h⟩ := H.slice
  intro e
  have := h b e
  omega
theorem Has.lt {w0 w : World} {e : TypeId} {v : Value} {n : Nat} {xs : List Value} (H : Has w0 w e v n xs) {b : Nat} (hb : v.ownBlock = some b) : b < w.heap.size := (H.own.lt b hb).2
theorem Has.other {w0 w w' : World} {e : TypeId} {v : Value} {n k : Nat} {xs : List Value} (H : Has w0 w e v n xs) (g : w.grownBy w' (some k)) (hk : w0.heap.size ≤ k) (hne : v.ownBlock ≠ some k) : Has w0 w' e v n xs :=
  ⟨H.own.kept g (Or.inr hne), H.bel.grown g H.bel.size (fun j hj => by injection hj with hj; omega)⟩
theorem row_lt {w : World} {k : Nat} {o : Obj} (ho : w.heap[k]? = some o) : k < w.heap.size := (Array.getElem?_eq_some_iff.1 ho).1
theorem row_alloc {w : World} {k : Nat} {o : Obj} (ho : w.heap[k]? = some o) (x : Obj) : (w.alloc x).heap[k]? = some o := (Below.heap_alloc w x k (row_lt ho)).trans ho
theorem grown_setRow {w : World} {g : Nat} (cs : Array Value) : w.grownBy (w.setRow g cs) (some g) := by
  refine ⟨rfl, rfl, rfl, by simp [World.setRow], fun j _ hne => ?_⟩
  show (w.heap.modify g _)[j]? = w.heap[j]?
  rw [Array.getElem?_modify, if_neg (fun e => hne (by rw [e]))]
theorem size_setRow (w : World) (g : Nat) (cs : Array Value) : (w.setRow g cs).heap.size = w.heap.size := by simp [World.setRow]
theorem _root_.Go.RowKit.Below.ins {b : Nat} {a w w' : World} {o : Obj} (h : Below b a w) (ho : w.heap[b]? = some o) (g : w.grownBy w' (some b)) : Below b a w' :=
  h.grown g (Nat.le_of_lt (row_lt ho)) (fun k hk => by injection hk with hk; omega)
section
variable {P : Program}
theorem below_setRow {B : Nat} {a w : World} {g : Nat} (h : Below B a w) (hg : B ≤ g) (cs : Array Value) : Below B a (w.setRow g cs) :=
  h.trans ⟨rfl, rfl, rfl, by rw [size_setRow]; exact Nat.le_refl _, fun k hk => by
    show (w.heap.modify g _)[k]? = w.heap[k]?
    rw [Array.getElem?_modify, if_neg (by omega)]⟩
theorem results_row_tmp {fn : Func} {p u : Tmp} {ty : TypeId} (h : fn.results = #[.cell p ty, .tmp u]) (tmps : Array Value) (w : World) (g : Nat) (t : TypeId) (cs : Array Value) (fr : Nat × Nat) (d : TypeDesc)
    (hp : tmps.getD p undef = .pointer (some ⟨g, 0, none⟩)) (hg : w.heap[g]? = some (.cells cs t fr)) (hu : P.underlying ty = some d) (hd : (match d with | .struct _ | .array _ _ => true | _ => false) = true) (hi : (P.info? ty).map (·.size) = some cs.size) :
    (results fn tmps).run P w = .ok (.tuple #[.agg cs, tmps.getD u undef]) w := by
  have hp' : tmps[p]?.getD undef = .pointer (some ⟨g, 0, none⟩) := by simpa using hp
  simp [results, h, hp', asAddr, run_loadVar_row w g t ty cs fr d hg hu hd hi, Result.andThen]
theorem bodyPost_row_tmp {fn : Func} {R : Ending → World → Prop} {a : Act} {w : World} {p u : Tmp} {ty : TypeId} (h : fn.results = #[.cell p ty, .tmp u]) (g : Nat) (t : TypeId) (cs : Array Value) (fr : Nat × Nat) (d : TypeDesc) (x : Value)
    (hp : a.tmps.getD p undef = .pointer (some ⟨g, 0, none⟩)) (hg : w.heap[g]? = some (.cells cs t fr)) (hu : P.underlying ty = some d) (hd : (match d with | .struct _ | .array _ _ => true | _ => false) = true) (hi : (P.info? ty).map (·.size) = some cs.size)
    (hx : a.tmps.getD u undef = x) (hdf : a.defers = []) (hR : R (.returned (.tuple #[.agg cs, x])) w) : bodyPost P fn R .ret a w :=
  bodyPost_ret (results_row_tmp h a.tmps w g t cs fr d hp hg hu hd hi) hdf (by rw [hx]; exact hR)
theorem bodyPost_row {fn : Func} {R : Ending → World → Prop} {a : Act} {w : World} {p : Tmp} {ty : TypeId} (h : fn.results = #[.cell p ty]) (g : Nat) (t : TypeId) (cs : Array Value) (fr : Nat × Nat) (d : TypeDesc)
    (hp : a.tmps.getD p undef = .pointer (some ⟨g, 0, none⟩)) (hg : w.heap[g]? = some (.cells cs t fr)) (hu : P.underlying ty = some d) (hd : (match d with | .struct _ | .array _ _ => true | _ => false) = true) (hi : (P.info? ty).map (·.size) = some cs.size)
    (hdf : a.defers = []) (hR : R (.returned (.agg cs)) w) : bodyPost P fn R .ret a w :=
  bodyPost_ret (results_cell_row h a.tmps w g t cs fr d hp hg hu hd hi) hdf hR
/-- A whole struct is stored: the walk goes on in a world of which the block is known, and that nothing else has turned. -/
theorem wpList_store_grown {ops : Array Oper} {rest : List Oper} {o : Oper} {a : Act} {w : World} {Q : Exit → Act → World → Prop} (hgd : o.guard = none) (ty : TypeId) (x y : Operand) (ho : o.op = .store ty x y)
    (g : Nat) (cells : Array Value) (hx : a.eval x = .pointer (some ⟨g, 0, none⟩)) (hy : a.eval y = .agg cells)
    (t : TypeId) (old : Array Value) (hg : w.heap[g]? = some (.cells old t (0, 0))) (hi : (P.info? ty).map (·.size) = some cells.size) (hold : old.size = cells.size) (h1 : cells.all (·.oneCell') = true)
    (h : ∀ w', w'.heap[g]? = some (.cells cells t (0, 0)) → w.grownBy w' (some g) → w'.heap.size = w.heap.size → wpList P ops Q rest (a.put o.dst undef) w') : wpList P ops Q (o :: rest) a w :=
  wpList_store_row hgd ty x y ho g cells hx hy t old hg hi hold h1 (h _ (setRow_heap w g old cells t (0, 0) hg) (grown_setRow cells) (size_setRow w g cells))
end
end Go.Proofs.Ytljiehnpknbohaa
/- A map of the call's own whose keys are numbers, written entry by entry, then asked: insert of a new key, look-up with ok. No program in sight. -/
namespace Go.Proofs.Ytljiehnpknbohaa
open Go.RowKit
section
variable {P : Program} {t k e : TypeId} {q : IntKind} {w : World} {b clock : Nat} {es : Array MapEntry}
theorem run_insert_new (ht : P.underlying t = some (.map k e)) (hk : P.underlying k = some (.int q)) (hb : w.heap[b]? = some (.map es clock)) (key : Int) (val : Value) (hf : Instr.findNow (.int q) (.int q key) es.toList 0 = some none) :
    (Instr.mapUpdate t (.map (some b)) (.int q key) val).run P w = .ok () { w with heap := w.heap.setIfInBounds b (.map (es.push ⟨.int q key, val, clock⟩) (clock + 1)) } := by
  simp [Instr.mapUpdate, run_underlying ht, MapKept.run_getObj_map hb, MapKept.run_checkKey hk (k := .int q key) (by simp [MapKept.IsKey]), MapKept.run_findKey hk hf, MapKept.run_setObj_map _ hb, Result.andThen]
theorem grown_set (hb : w.heap[b]? = some (.map es clock)) (o : Obj) : w.grownBy { w with heap := w.heap.setIfInBounds b o } (some b) := by
  refine ⟨rfl, rfl, rfl, by simp, fun j hj hne => ?_⟩
  exact (MapKept.heap_set hb).2 j (fun h => hne (by rw [h]))
theorem wpList_insert_new {ops : Array Oper} {rest : List Oper} {o : Oper} {a : Act} {Q : Exit → Act → World → Prop}
    (hg : o.guard = none) (m x v : Operand) (hop : o.op = Op.insert t m x v) (ht : P.underlying t = some (.map k e)) (hk : P.underlying k = some (.int q))
    (hm : a.eval m = .map (some b)) (hb : w.heap[b]? = some (.map es clock)) (key : Int) (val : Value) (hx : a.eval x = .int q key) (hv : a.eval v = val) (hf : Instr.findNow (.int q) (.int q key) es.toList 0 = some none)
    (hK : ∀ w', w'.heap[b]? = some (.map (es.push ⟨.int q key, val, clock⟩) (clock + 1)) → w.grownBy w' (some b) → wpList P ops Q rest (a.put o.dst undef) w') : wpList P ops Q (o :: rest) a w := by
  refine wpList_plain hg fun K' hK' => ?_
  have hrun := run_insert_new ht hk hb key val hf
  unfold Oper.wp
  simp [execOp, hop, hm, hx, hv, hrun, Result.andThen]
  exact hK' _ _ (hK _ (MapKept.heap_set hb).1 (grown_set hb _))
theorem run_lookup_now (ht : P.underlying t = some (.map k e)) (hk : P.underlying k = some (.int q)) (hb : w.heap[b]? = some (.map es clock)) (key : Int) {r : Option (Nat × Value)} (hf : Instr.findNow (.int q) (.int q key) es.toList 0 = some r) {z : Value} (hz : (zeroValue e).run P w = .ok z w) :
    (Instr.lookup t (.map (some b)) (.int q key) true).run P w = .ok (.tuple #[(r.map (·.2)).getD z, .bool r.isSome]) w := by
  rcases r with _ | ⟨i, v⟩ <;> simp [Instr.lookup, run_underlying ht, MapKept.run_getObj_map hb, MapKept.run_checkKey hk (k := .int q key) (by simp [MapKept.IsKey]), MapKept.run_findKey hk hf, Result.andThen, hz]
theorem wpList_lookup_now {ops : Array Oper} {rest : List Oper} {o : Oper} {a : Act} {Q : Exit → Act → World → Prop}
    (hg : o.guard = none) (m x : Operand) (hop : o.op = Op.lookup t m x true) (ht : P.underlying t = some (.map k e)) (hk : P.underlying k = some (.int q))
    (hm : a.eval m = .map (some b)) (hb : w.heap[b]? = some (.map es clock)) (key : Int) (hx : a.eval x = .int q key) {r : Option (Nat × Value)} (hf : Instr.findNow (.int q) (.int q key) es.toList 0 = some r) {z : Value} (hz : (zeroValue e).run P w = .ok z w)
    {v : Value} (hv : (r.map (·.2)).getD z = v) {ok : Bool} (hok : r.isSome = ok)
    (hK : wpList P ops Q rest (a.put o.dst (.tuple #[v, .bool ok])) w) : wpList P ops Q (o :: rest) a w := by
  refine wpList_plain hg fun K' hK' => ?_
  have hrun := run_lookup_now ht hk hb key hf hz
  rw [hv, hok] at hrun
  unfold Oper.wp
  simp [execOp, hop, hm, hx, hrun, Result.andThen]
  exact hK' _ _ hK
end
end Go.Proofs.Ytljiehnpknbohaa
/- Arguments that came in: slices of one-cell elements, structs of six one-cell fields. No program in sight. -/
namespace Go.Proofs.Ytljiehnpknbohaa
open Go.RowKit Go.WideShapes Go.ChangeShapes Go.Joins Go.Deep Go.WideElems Go.Maps
theorem pick {α : Type} {R : Nat → α → Prop} : ∀ n, (∀ i, i < n → ∃ a, R i a) → ∃ l : List α, l.length = n ∧ ∀ i, i < n → ∃ a, l[i]? = some a ∧ R i a
  | 0, _ => ⟨[], rfl, fun i h => absurd h (by omega)⟩
  | n + 1, h => by
    obtain ⟨l, hl, hr⟩ := pick n (fun i hi => h i (by omega))
    obtain ⟨a, ha⟩ := h n (by omega)
    refine ⟨l ++ [a], by simp [hl], fun i hi => ?_⟩
    by_cases he : i < n
    · obtain ⟨b, hb, hb2⟩ := hr i he
      exact ⟨b, by rw [List.getElem?_append_left (by omega)]; exact hb, hb2⟩
    · obtain rfl : i = n := by omega
      exact ⟨a, by rw [List.getElem?_append_right (by omega)]; simp [hl], ha⟩
section
variable {H : Type} {enc : TypeId × Value → H} {P : Program} {w : World} {base : Nat} {spare : Nat → Bool} {held : Bool}
theorem slice_in {α : Type} (f : α → Value) (C : α → Prop) {t e : TypeId} (ht : P.underlying t = some (.slice e)) (hc : P.cellsOf e = 1) (he : ∀ fuel v y, DataW.trod enc P w base spare held fuel e [v] = some y → ∃ a : α, C a ∧ v = f a)
    {fuel : Nat} {cs : List Value} {x : DataW H × List MemPlace} (h : DataW.trod enc P w base spare held fuel t cs = some x) :
    ∃ A n c, ∃ l : List α, cs = [.slice A n c] ∧ Sl w w.heap.size A n (l.map f) ∧ (∀ a ∈ l, C a) ∧ n ≤ c ∧ n ≤ 9223372036854775807 := by
  rcases DataW.trod_slice ht h with ⟨rfl, _⟩ | ⟨a, len, cap, elems, rest, n, _, rfl, rfl, hb, hl, hm, hlen, hel, hsp, hns⟩
  · exact ⟨none, 0, 0, [], rfl, Sl.empty _ _ _, (fun a h => by cases h), Nat.le_refl _, by omega⟩
  have each : ∀ i, i < len → ∃ z : α, C z ∧ w.cell? (a.add i) = some (f z) := by
    intro i hi
    have hE := hel i hi
    rw [hc, Nat.mul_one] at hE
    cases hy : elems[i]? with
    | none => rw [List.getElem?_eq_none_iff] at hy; omega
    | some y =>
      rw [hy, Option.bind_eq_some_iff] at hE
      obtain ⟨cs', hcs, hy'⟩ := hE
      obtain ⟨v, rfl, hv⟩ : ∃ v, cs' = [v] ∧ w.cell? (a.add i) = some v := by
        unfold World.cells? at hcs
        split at hcs
        · simp only [List.range_succ, List.range_zero, List.nil_append, List.mapM_cons, List.mapM_nil, show (a.add i).add 0 = a.add i by simp [Addr.add]] at hcs
          cases hcc : w.cell? (a.add i) with
          | none => simp [hcc] at hcs
          | some c => simp [hcc] at hcs; exact ⟨c, hcs.symm, rfl⟩
        · cases hcs
      obtain ⟨z, hz, rfl⟩ := he _ _ _ hy'
      exact ⟨z, hz, hv⟩
  obtain ⟨l, hll, hr⟩ := pick len each
  have hm' : cap ≤ 9223372036854775807 := by simpa [maxLen] using hm
  refine ⟨some a, len, cap, l, rfl, ⟨by simpa using hll, fun hn => ?_⟩, ?_, hl, by omega⟩
  · obtain ⟨z0, hz0, _, hcell⟩ := hr 0 (by omega)
    obtain ⟨b, o, spot⟩ := a
    have hspot : spot = none := by simpa [Addr.add] using World.cell?_spot hcell
    subst hspot
    have hadd : ∀ j, (⟨b, o, none⟩ : Addr).add j = ⟨b, o + j, none⟩ := fun j => by unfold Addr.add; split <;> simp_all
    have hbb := World.block_lt_of_cell? w _ hcell
    rw [hadd] at hbb
    refine ⟨b, o, rfl, hbb, fun j hj => ?_⟩
    obtain ⟨z, hz, _, hcj⟩ := hr j hj
    rw [← hadd, hcj, List.getElem?_map, hz]; rfl
  · intro z hz
    obtain ⟨i, hi, rfl⟩ := List.mem_iff_getElem.1 hz
    obtain ⟨a', ha', hC, _⟩ := hr i (by omega)
    rw [List.getElem?_eq_getElem hi] at ha'
    injection ha' with ha'
    rw [ha']; exact hC
theorem array6 {α : Type} {cs : Array α} (h : cs.size = 6) : ∃ c0 c1 c2 c3 c4 c5, cs = #[c0, c1, c2, c3, c4, c5] := by
  obtain ⟨l⟩ := cs
  match l, h with
  | [c0, c1, c2, c3, c4, c5], _ => exact ⟨c0, c1, c2, c3, c4, c5, rfl⟩
theorem trod_struct6 {t : TypeId} {f0 f1 f2 f3 f4 f5 : Field} {fuel : Nat} {cs : List Value} {x : DataW H × List MemPlace} (ht : P.underlying t = some (.struct #[f0, f1, f2, f3, f4, f5])) (h : DataW.trod enc P w base spare held fuel t cs = some x) :
    ∃ y0 y1 y2 y3 y4 y5 n, DataW.trod enc P w base spare held n f0.type ((cs.drop f0.offset).take (P.cellsOf f0.type)) = some y0 ∧
      DataW.trod enc P w base spare held n f1.type ((cs.drop f1.offset).take (P.cellsOf f1.type)) = some y1 ∧ DataW.trod enc P w base spare held n f2.type ((cs.drop f2.offset).take (P.cellsOf f2.type)) = some y2 ∧
      DataW.trod enc P w base spare held n f3.type ((cs.drop f3.offset).take (P.cellsOf f3.type)) = some y3 ∧ DataW.trod enc P w base spare held n f4.type ((cs.drop f4.offset).take (P.cellsOf f4.type)) = some y4 ∧
      DataW.trod enc P w base spare held n f5.type ((cs.drop f5.offset).take (P.cellsOf f5.type)) = some y5 := by
  obtain ⟨xs, n, _, rfl, hl, hlen, hf⟩ := DataW.trod_struct ht h
  match xs, hlen with
  | [y0, y1, y2, y3, y4, y5], _ => exact ⟨y0, y1, y2, y3, y4, y5, n, by simpa using hf 0 f0 rfl, by simpa using hf 1 f1 rfl, by simpa using hf 2 f2 rfl, by simpa using hf 3 f3 rfl, by simpa using hf 4 f4 rfl, by simpa using hf 5 f5 rfl⟩
theorem open_agg6 {r : Reach} {b0 : Nat} {t : TypeId} {f0 f1 f2 f3 f4 f5 : Field} {v : Value} {d : DataW H} {p : List MemPlace} (hs : P.underlying t = some (.struct #[f0, f1, f2, f3, f4, f5])) (hone : oneCellFields P #[f0, f1, f2, f3, f4, f5] = true) (hC : P.cellsOf t = 6)
    (hv : Value.okWide P w r b0 t v) (h : DataW.Trod enc P w base spare held t v d p) :
    ∃ (v0 v1 v2 v3 v4 v5 : Value) (y0 y1 y2 y3 y4 y5 : DataW H × List MemPlace) (n : Nat), v = .agg #[v0, v1, v2, v3, v4, v5] ∧
      DataW.trod enc P w base spare held n f0.type [v0] = some y0 ∧ DataW.trod enc P w base spare held n f1.type [v1] = some y1 ∧ DataW.trod enc P w base spare held n f2.type [v2] = some y2 ∧ DataW.trod enc P w base spare held n f3.type [v3] = some y3 ∧
      DataW.trod enc P w base spare held n f4.type [v4] = some y4 ∧ DataW.trod enc P w base spare held n f5.type [v5] = some y5 := by
  obtain ⟨cs, rfl, hsz⟩ := okWide_struct hs hv
  obtain ⟨c0, c1, c2, c3, c4, c5, rfl⟩ := array6 (hsz.trans hC)
  obtain ⟨fuel, hf⟩ := h
  obtain ⟨y0, y1, y2, y3, y4, y5, n, h0, h1, h2, h3, h4, h5⟩ := trod_struct6 hs hf
  obtain ⟨o0, k0⟩ := hone_of hone 0 f0 rfl
  obtain ⟨o1, k1⟩ := hone_of hone 1 f1 rfl
  obtain ⟨o2, k2⟩ := hone_of hone 2 f2 rfl
  obtain ⟨o3, k3⟩ := hone_of hone 3 f3 rfl
  obtain ⟨o4, k4⟩ := hone_of hone 4 f4 rfl
  obtain ⟨o5, k5⟩ := hone_of hone 5 f5 rfl
  exact ⟨c0, c1, c2, c3, c4, c5, y0, y1, y2, y3, y4, y5, n, rfl, by simpa [Value.cells, o0, k0] using h0, by simpa [Value.cells, o1, k1] using h1, by simpa [Value.cells, o2, k2] using h2, by simpa [Value.cells, o3, k3] using h3, by simpa [Value.cells, o4, k4] using h4, by simpa [Value.cells, o5, k5] using h5⟩
theorem int_el {e : TypeId} {k : IntKind} (he : P.underlying e = some (.int k)) (fuel : Nat) (v : Value) (y : DataW H × List MemPlace) (h : DataW.trod enc P w base spare held fuel e [v] = some y) : ∃ a : Int, v = .int k a ∧ (Lit.int k a).wf = true := by
  obtain ⟨n, hn, _, hw⟩ := DataW.trod_int he h
  simp at hn
  exact ⟨n, hn, hw⟩
theorem u8_el {e : TypeId} (he : P.underlying e = some (.int .u8)) (fuel : Nat) (v : Value) (y : DataW H × List MemPlace) (h : DataW.trod enc P w base spare held fuel e [v] = some y) : ∃ a : Nat, a < 256 ∧ v = .int .u8 (a : Nat) := by
  obtain ⟨n, rfl, hw⟩ := int_el he fuel v y h
  have := bounds_u8 hw
  exact ⟨n.toNat, by omega, by congr 1; omega⟩
theorem u16_el {e : TypeId} (he : P.underlying e = some (.int .u16)) (fuel : Nat) (v : Value) (y : DataW H × List MemPlace) (h : DataW.trod enc P w base spare held fuel e [v] = some y) : ∃ a : Nat, a < 65536 ∧ v = .int .u16 (a : Nat) := by
  obtain ⟨n, rfl, hw⟩ := int_el he fuel v y h
  have := bounds_u16 hw
  exact ⟨n.toNat, by omega, by congr 1; omega⟩
theorem bool_el {e : TypeId} (he : P.underlying e = some .bool) (fuel : Nat) (v : Value) (y : DataW H × List MemPlace) (h : DataW.trod enc P w base spare held fuel e [v] = some y) : ∃ a : Bool, True ∧ v = .bool a := by
  obtain ⟨b, hb, _⟩ := DataW.trod_bool he h
  simp at hb
  exact ⟨b, trivial, hb⟩
end
end Go.Proofs.Ytljiehnpknbohaa
/- append at a step of a region that draws its order; what an append leaves as it was. No program in sight. -/
namespace Go.Proofs.Ytljiehnpknbohaa
open Go.RowKit
/-- Blocks that are there, but v's own row, are as they were. -/
def Keeps (w w' : World) (v : Value) : Prop := ∀ b, b < w.heap.size → v.ownBlock ≠ some b → w'.heap[b]? = w.heap[b]?
/-- v' lies in v's own row, or in a new block. -/
def Moves (w : World) (v v' : Value) : Prop := ∀ b, v'.ownBlock = some b → v.ownBlock = some b ∨ w.heap.size ≤ b
theorem Keeps.refl (w : World) (v : Value) : Keeps w w v := fun _ _ _ => rfl
theorem Moves.refl (w : World) (v : Value) : Moves w v v := fun _ h => Or.inl h
theorem Keeps.grown {w w' : World} {v : Value} (g : w.grownBy w' v.ownBlock) : Keeps w w' v := fun b hb hne => g.block b hb (fun e => hne e.symm)
theorem Moves.grown {w : World} {v v' : Value} (h : v'.ownBlock = v.ownBlock ∨ v'.ownBlock = some w.heap.size) : Moves w v v' := fun b hb => by
  rcases h with h | h
  · exact Or.inl (by rw [← h]; exact hb)
  · right; rw [h] at hb; injection hb with hb; omega
/-- One behind the other: from w by v to w1, v1, and from there to w2. -/
theorem Keeps.then {w w1 w2 : World} {v v1 : Value} (h : Keeps w w1 v) (m : Moves w v v1) (hs : w.heap.size ≤ w1.heap.size) (g : Keeps w1 w2 v1) : Keeps w w2 v := fun b hb hne =>
  (g b (by omega) (fun e => by rcases m b e with e' | e'
                               · exact hne e'
                               · omega)).trans (h b hb hne)
theorem Moves.then {w w1 : World} {v v1 v2 : Value} (m : Moves w v v1) (hs : w.heap.size ≤ w1.heap.size) (g : Moves w1 v1 v2) : Moves w v v2 := fun b hb => by
  rcases g b hb with h | h
  · exact m b h
  · exact Or.inr (by omega)
theorem Keeps.alloc (w : World) (o : Obj) (v : Value) : Keeps w (w.alloc o) v := fun b hb _ => Below.heap_alloc w o b hb
theorem Sl.of_block {w : World} {b B : Nat} {cs : Array Value} {t : TypeId} (h : w.heap[b]? = some (.cells cs t (0, 0))) (hB : b < B) : Sl w B (some ⟨b, 0, none⟩) cs.size cs.toList :=
  ⟨by simp, fun _ => ⟨b, 0, rfl, hB, fun j _ => by rw [Nat.zero_add, cell_of_row w b j cs t _ h]; simp⟩⟩
theorem Sl.keeps {w w' : World} {A : Option Addr} {n : Nat} {xs : List Value} {v : Value} (h : Sl w w.heap.size A n xs) (k : Keeps w w' v) (hs : w.heap.size ≤ w'.heap.size) (hne : ∀ b o, A = some (⟨b, o, none⟩ : Addr) → v.ownBlock ≠ some b) : Sl w' w'.heap.size A n xs :=
  ⟨h.1, fun hn => by
    obtain ⟨b, o, rfl, hb, hc⟩ := h.2 hn
    refine ⟨b, o, rfl, by omega, fun j hj => ?_⟩
    rw [← hc j hj]
    exact World.cell?_of_block (w := w) (a := ⟨b, o + j, none⟩) (k b hb (hne b o rfl))⟩
section
variable {P : Program}
/-- AT A STEP OF A REGION THAT DRAWS ITS ORDER. -/
theorem step_app {t e : TypeId} {bytes : Nat} (E : Elem P t e bytes) {w0 w : World} {ops : Array Oper} {o : Oper} {a : Act} {K : Act → World → Prop} {Q : Exit → Act → World → Prop} {F : Prop} (hgd : o.guard = none) (s x : Operand)
    (ho : o.op = .call { callee := .builtin .append, args := #[s, x], argTypes := #[t, t] })
    {v : Value} {n : Nat} {xs : List Value} (h : Has w0 w e v n xs) (hs : a.eval s = v)
    {B : Nat} {A : Option Addr} {m c : Nat} {news : List Value} (hr : Sl w B A m news) (hx : a.eval x = .slice A m c) (h1 : ∀ u ∈ news, u.oneCell' = true) (hbytes : (n + m) * bytes ≤ 140737488355328) (h63 : n + m ≤ maxLen)
    (hk : ∀ v' w', Has w0 w' e v' (n + m) (xs ++ news) → w.grownBy w' v.ownBlock → (v'.ownBlock = v.ownBlock ∨ v'.ownBlock = some w.heap.size) → K (a.put o.dst v') w') :
    if Region.wanted o (yielded ops a.tmps) = true then Oper.wp P o a w K Q else F := by
  have hw : Region.wanted o (yielded ops a.tmps) = true := by simp [Region.wanted, hgd]
  rw [if_pos hw]
  obtain ⟨v', w', hrun, h2, h3, h4⟩ := run_app (P := P) E o.type h (c := c) hr h1 hbytes h63
  unfold Oper.wp execOp
  simp only [ho, resolve, invoke, builtin, Sem.run_bind, Sem.run_pure, Result.andThen_ok, List.map_toArray, List.map_cons, List.map_nil, hs, hx, hrun]
  exact hk v' w' h2 h3 h4
end
end Go.Proofs.Ytljiehnpknbohaa
/- Layer 2's answers as plain functions: requests, their bytes, packed bits. No program in sight. -/
namespace Go.Proofs.Ytljiehnpknbohaa.Ask
/-- A request. -/
structure Req where
  f : Nat
  at' : Nat
  many : Nat
  to : Nat
  words : List Nat
  bits : List Bool
deriving DecidableEq
structure Req.Wf (r : Req) : Prop where
  f : r.f < 256
  at' : r.at' < 65536
  many : r.many < 65536
  to : r.to < 65536
  words : ∀ x ∈ r.words, x < 65536
/-- A request of a function alone. -/
def bare (f : Nat) : Req := ⟨f, 0, 0, 0, [], []⟩
/-- What the requests of a function have. -/
structure Fld where
  many : Nat
  to : Bool
  bits : Nat
  words : Nat
def fld (f : Nat) : Option Fld :=
  if f = 1 ∨ f = 2 then some ⟨2000, false, 0, 0⟩
  else if f = 3 ∨ f = 4 then some ⟨125, false, 0, 0⟩
  else if f = 5 then some ⟨0, false, 1, 0⟩
  else if f = 6 then some ⟨0, false, 0, 1⟩
  else if f = 15 then some ⟨1968, false, 2, 0⟩
  else if f = 16 then some ⟨123, false, 0, 2⟩
  else if f = 23 then some ⟨125, true, 0, 3⟩
  else none
def fits (l n many : Nat) : Bool := if l = 1 then n == 1 else if l = 2 then n == many else if l = 3 then decide (1 ≤ n ∧ n ≤ 121) else n == 0
def Fld.right (f : Fld) (r : Req) : Bool := !(decide (f.many < r.many) || (r.many == 0 && decide (0 < f.many))) && ((f.to || r.to == 0) && fits f.bits r.bits.length r.many && fits f.words r.words.length r.many)
/-- Is a request right? -/
def right (r : Req) : Bool := match fld r.f with | some f => f.right r | none => false
def Fld.counted (f : Fld) : Bool := decide (2 ≤ f.bits) || decide (2 ≤ f.words)
end Go.Proofs.Ytljiehnpknbohaa.Ask
/- Bits in bytes, as plain functions. No program in sight. -/
namespace Go.Proofs.Ytljiehnpknbohaa.Ask
open Go.RowKit
def bitN (l : List Bool) (j : Nat) : Nat := if l[j]?.getD false then 1 else 0
theorem bitN_le (l : List Bool) (j : Nat) : bitN l j ≤ 1 := by unfold bitN; split <;> omega
theorem bitN_past {l : List Bool} {j : Nat} (h : l.length ≤ j) : bitN l j = 0 := by simp [bitN, List.getElem?_eq_none h]
/-- Byte i of bits packed. -/
def octet (l : List Bool) (i : Nat) : Nat := bitN l (8 * i) + 2 * bitN l (8 * i + 1) + 4 * bitN l (8 * i + 2) + 8 * bitN l (8 * i + 3) + 16 * bitN l (8 * i + 4) + 32 * bitN l (8 * i + 5) + 64 * bitN l (8 * i + 6) + 128 * bitN l (8 * i + 7)
def pack (l : List Bool) : List Nat := (List.range ((l.length + 7) / 8)).map (octet l)
def unpack (b : List Nat) : List Bool := (List.range (8 * b.length)).map fun j => (b[j / 8]?.getD 0).testBit (j % 8)
theorem octet_lt (l : List Bool) (i : Nat) : octet l i < 256 := by
  unfold octet
  have h0 := bitN_le l (8 * i)
  have h1 := bitN_le l (8 * i + 1)
  have h2 := bitN_le l (8 * i + 2)
  have h3 := bitN_le l (8 * i + 3)
  have h4 := bitN_le l (8 * i + 4)
  have h5 := bitN_le l (8 * i + 5)
  have h6 := bitN_le l (8 * i + 6)
  have h7 := bitN_le l (8 * i + 7)
  omega
theorem pack_length (l : List Bool) : (pack l).length = (l.length + 7) / 8 := by simp [pack]
theorem pack_bytes (l : List Bool) : Bytes (pack l) := by
  intro c hc
  simp only [pack, List.mem_map] at hc
  obtain ⟨i, _, rfl⟩ := hc
  exact octet_lt l i
theorem pack_get {l : List Bool} {i : Nat} (h : i < (l.length + 7) / 8) : (pack l)[i]?.getD 0 = octet l i := by simp [pack, h]
theorem unpack_length (b : List Nat) : (unpack b).length = 8 * b.length := by simp [unpack]
theorem unpack_get {b : List Nat} {j : Nat} (h : j < 8 * b.length) : (unpack b)[j]?.getD false = (b[j / 8]?.getD 0).testBit (j % 8) := by simp [unpack, h]
theorem bitN_take_lt {l : List Bool} {k j : Nat} (h : j < k) : bitN (l.take k) j = bitN l j := by simp [bitN, h]
theorem bitN_take_ge {l : List Bool} {k j : Nat} (h : k ≤ j) : bitN (l.take k) j = 0 := bitN_past (by simp; omega)
theorem octet_take_ne {l : List Bool} {k i : Nat} (h : i ≠ k / 8) : octet (l.take (k + 1)) i = octet (l.take k) i := by
  have e : ∀ j, j < 8 → bitN (l.take (k + 1)) (8 * i + j) = bitN (l.take k) (8 * i + j) := by
    intro j hj
    by_cases hk : 8 * i + j < k
    · rw [bitN_take_lt hk, bitN_take_lt (by omega)]
    · rw [bitN_take_ge (k := k) (by omega), bitN_take_ge (by omega)]
  unfold octet
  have e0 : bitN (l.take (k + 1)) (8 * i) = bitN (l.take k) (8 * i) := e 0 (by omega)
  rw [e0, e 1 (by omega), e 2 (by omega), e 3 (by omega), e 4 (by omega), e 5 (by omega), e 6 (by omega), e 7 (by omega)]
theorem octet_take_eq {l : List Bool} {q m : Nat} (hm : m < 8) : octet (l.take (8 * q + m)) q < 2 ^ m ∧ octet (l.take (8 * q + m + 1)) q = octet (l.take (8 * q + m)) q + 2 ^ m * bitN l (8 * q + m) := by
  have a0 := bitN_le l (8 * q)
  have a1 := bitN_le l (8 * q + 1)
  have a2 := bitN_le l (8 * q + 2)
  have a3 := bitN_le l (8 * q + 3)
  have a4 := bitN_le l (8 * q + 4)
  have a5 := bitN_le l (8 * q + 5)
  have a6 := bitN_le l (8 * q + 6)
  have lt : ∀ j k, j < k → bitN (l.take k) j = bitN l j := fun j k => bitN_take_lt
  have ge : ∀ j k, k ≤ j → bitN (l.take k) j = 0 := fun j k => bitN_take_ge
  obtain rfl | rfl | rfl | rfl | rfl | rfl | rfl | rfl : m = 0 ∨ m = 1 ∨ m = 2 ∨ m = 3 ∨ m = 4 ∨ m = 5 ∨ m = 6 ∨ m = 7 := by omega
  all_goals
    unfold octet
    simp (discharger := omega) only [lt, ge, Nat.add_zero]
    constructor <;> omega
theorem or_add {a m : Nat} (h : a < 2 ^ m) : a ||| 2 ^ m = a + 2 ^ m := by
  have := Nat.two_pow_add_eq_or_of_lt h 1
  rw [Nat.mul_one] at this
  rw [Nat.or_comm, ← this, Nat.add_comm]
/-- A row of N bytes that holds the first k bits. -/
def packTo (l : List Bool) (N k : Nat) : Array Value := ((List.range N).map fun i => Value.int .u8 ((octet (l.take k) i : Nat) : Int)).toArray
theorem packTo_size (l : List Bool) (N k : Nat) : (packTo l N k).size = N := by simp [packTo]
theorem packTo_zero (l : List Bool) (N : Nat) : packTo l N 0 = Array.replicate N (.int .u8 0) := by
  apply Array.ext
  · simp [packTo]
  · intro i h1 h2
    simp [packTo, octet, bitN]
theorem packTo_get (l : List Bool) (N k i : Nat) (h : i < N) : (packTo l N k)[i]? = some (.int .u8 ((octet (l.take k) i : Nat) : Int)) := by simp [packTo, h]
theorem packTo_off {l : List Bool} {N k : Nat} (h : l[k]?.getD false = false) : packTo l N (k + 1) = packTo l N k := by
  unfold packTo
  congr 1
  apply List.map_congr_left
  intro i _
  by_cases hi : i = k / 8
  · subst hi
    have := (octet_take_eq (l := l) (q := k / 8) (m := k % 8) (by omega)).2
    rw [Nat.div_add_mod] at this
    rw [this]; simp [bitN, h]
  · rw [octet_take_ne hi]
theorem packTo_on {l : List Bool} {N k : Nat} (h : l[k]?.getD false = true) : (packTo l N k).setIfInBounds (k / 8) (.int .u8 ((octet (l.take k) (k / 8) ||| 2 ^ (k % 8) : Nat) : Int)) = packTo l N (k + 1) := by
  have h2 := octet_take_eq (l := l) (q := k / 8) (m := k % 8) (by omega)
  rw [Nat.div_add_mod] at h2
  apply Array.ext_getElem?
  intro i
  rw [Array.getElem?_setIfInBounds, packTo_size]
  by_cases hi : i < N
  · rw [packTo_get l N (k + 1) i hi]
    by_cases he : k / 8 = i
    · subst he
      rw [if_pos rfl, if_pos hi, h2.2, or_add h2.1]
      simp [bitN, h]
    · rw [if_neg he, packTo_get l N k i hi, octet_take_ne (fun e => he e.symm)]
  · have n1 : (packTo l N (k + 1))[i]? = none := Array.getElem?_eq_none (by rw [packTo_size]; omega)
    have n2 : (packTo l N k)[i]? = none := Array.getElem?_eq_none (by rw [packTo_size]; omega)
    rw [n1, n2]
    by_cases he : k / 8 = i
    · rw [if_pos he, if_neg (by omega)]
    · rw [if_neg he]
theorem packTo_full (l : List Bool) : (packTo l ((l.length + 7) / 8) l.length).toList = bs (pack l) := by
  simp [packTo, bs, pack]
/-- A row of N bits of which the first k are written. -/
def unTo (b : List Nat) (N k : Nat) : Array Value := ((List.range N).map fun j => Value.bool (decide (j < k) && (b[j / 8]?.getD 0).testBit (j % 8))).toArray
theorem unTo_size (b : List Nat) (N k : Nat) : (unTo b N k).size = N := by simp [unTo]
theorem unTo_zero (b : List Nat) (N : Nat) : unTo b N 0 = Array.replicate N (.bool false) := by
  apply Array.ext
  · simp [unTo]
  · intro i h1 h2
    simp [unTo]
theorem unTo_get (b : List Nat) (N k i : Nat) (h : i < N) : (unTo b N k)[i]? = some (.bool (decide (i < k) && (b[i / 8]?.getD 0).testBit (i % 8))) := by simp [unTo, h]
theorem unTo_set (b : List Nat) (N k : Nat) : (unTo b N k).setIfInBounds k (.bool ((b[k / 8]?.getD 0).testBit (k % 8))) = unTo b N (k + 1) := by
  apply Array.ext_getElem?
  intro i
  rw [Array.getElem?_setIfInBounds, unTo_size]
  by_cases hi : i < N
  · rw [unTo_get b N (k + 1) i hi]
    by_cases he : k = i
    · subst he
      rw [if_pos rfl, if_pos hi]
      simp
    · rw [if_neg he, unTo_get b N k i hi]
      have : decide (i < k + 1) = decide (i < k) := by rw [decide_eq_decide]; omega
      rw [this]
  · have n1 : (unTo b N (k + 1))[i]? = none := Array.getElem?_eq_none (by rw [unTo_size]; omega)
    have n2 : (unTo b N k)[i]? = none := Array.getElem?_eq_none (by rw [unTo_size]; omega)
    rw [n1, n2]
    by_cases he : k = i
    · rw [if_pos he, if_neg (by omega)]
    · rw [if_neg he]
theorem unTo_full (b : List Nat) : (unTo b (8 * b.length) (8 * b.length)).toList = bl (unpack b) := by
  simp only [unTo, bl, unpack, List.map_map]
  apply List.map_congr_left
  intro j hj
  have : j < 8 * b.length := by simpa using hj
  simp [this]
end Go.Proofs.Ytljiehnpknbohaa.Ask
/- Bits packed and unpacked are as they were. No program in sight. -/
namespace Go.Proofs.Ytljiehnpknbohaa.Ask
open Go.RowKit
theorem bitN_iff (l : List Bool) (j : Nat) : (bitN l j = 1) ↔ l[j]?.getD false = true := by
  unfold bitN; split <;> simp_all
theorem octet_testBit (l : List Bool) (i m : Nat) (hm : m < 8) : (octet l i).testBit m = l[8 * i + m]?.getD false := by
  have h0 := bitN_le l (8 * i)
  have h1 := bitN_le l (8 * i + 1)
  have h2 := bitN_le l (8 * i + 2)
  have h3 := bitN_le l (8 * i + 3)
  have h4 := bitN_le l (8 * i + 4)
  have h5 := bitN_le l (8 * i + 5)
  have h6 := bitN_le l (8 * i + 6)
  have h7 := bitN_le l (8 * i + 7)
  rw [Nat.testBit_eq_decide_div_mod_eq, Bool.eq_iff_iff, decide_eq_true_iff, ← bitN_iff]
  obtain rfl | rfl | rfl | rfl | rfl | rfl | rfl | rfl : m = 0 ∨ m = 1 ∨ m = 2 ∨ m = 3 ∨ m = 4 ∨ m = 5 ∨ m = 6 ∨ m = 7 := by omega
  all_goals
    unfold octet
    simp only [Nat.add_zero, Nat.reducePow]
    omega
theorem unpack_pack_get (l : List Bool) (j : Nat) (h : j < 8 * ((l.length + 7) / 8)) : (unpack (pack l))[j]?.getD false = l[j]?.getD false := by
  rw [unpack_get (by rw [pack_length]; exact h), pack_get (by omega), octet_testBit l _ _ (by omega), Nat.div_add_mod]
theorem ext_getD {α : Type} (d : α) {l r : List α} (hl : l.length = r.length) (h : ∀ j, j < l.length → l[j]?.getD d = r[j]?.getD d) : l = r := by
  apply List.ext_getElem hl
  intro j h1 h2
  have := h j h1
  rw [List.getElem?_eq_getElem h1, List.getElem?_eq_getElem h2] at this
  simpa using this
theorem unpack_pack (l : List Bool) : (unpack (pack l)).take l.length = l := by
  have hl : ((unpack (pack l)).take l.length).length = l.length := by rw [List.length_take, unpack_length, pack_length]; omega
  refine ext_getD false hl (fun j hj => ?_)
  rw [hl] at hj
  rw [List.getElem?_take, if_pos hj, unpack_pack_get l j (by omega)]
theorem octet_unpack (b : List Nat) (hb : Bytes b) (i : Nat) (h : i < b.length) : octet (unpack b) i = b[i]?.getD 0 := by
  have hx := hb.at i
  obtain ⟨x, ex⟩ : ∃ x, x = b[i]?.getD 0 := ⟨_, rfl⟩
  have e : ∀ m, m < 8 → bitN (unpack b) (8 * i + m) = x / 2 ^ m % 2 := by
    intro m hm
    have : (unpack b)[8 * i + m]?.getD false = x.testBit m := by
      rw [unpack_get (by omega), show (8 * i + m) / 8 = i by omega, show (8 * i + m) % 8 = m by omega, ex]
    unfold bitN
    rw [this, Nat.testBit_eq_decide_div_mod_eq]
    have := Nat.mod_lt (x / 2 ^ m) (show 2 > 0 by decide)
    split <;> simp_all <;> omega
  rw [← ex] at hx ⊢
  have e0 : bitN (unpack b) (8 * i) = x % 2 := by
    have := e 0 (by omega)
    rwa [Nat.add_zero, Nat.pow_zero, Nat.div_one] at this
  unfold octet
  rw [e0, e 1 (by omega), e 2 (by omega), e 3 (by omega), e 4 (by omega), e 5 (by omega), e 6 (by omega), e 7 (by omega)]
  simp only [Nat.reducePow]
  omega
theorem pack_unpack (b : List Nat) (hb : Bytes b) : pack (unpack b) = b := by
  refine ext_getD 0 (by rw [pack_length, unpack_length]; omega) (fun j hj => ?_)
  rw [pack_length, unpack_length] at hj
  rw [pack_get (by rw [unpack_length]; omega), octet_unpack b hb j (by omega)]
end Go.Proofs.Ytljiehnpknbohaa.Ask
