/- Frames in memory: rows of three cells, one of which is a slice of bytes. No program in sight. -/
import Derived.Test.YtofigldbkndjlaaMbMath
import Derived.Test.YtofigldbkndjlaaBase
import Derived.RegionTactic
import Derived.RangeFuncBox
namespace Go.Proofs.Ytofigldbkndjlaa.Mb
open Go.RowKit Go.Proofs.Ytofigldbkndjlaa
/-- A frame's cells: two numbers, and where its bytes lie. -/
structure Fv where
  tx : Nat
  unit : Nat
  A : Option Addr
  n : Nat
  c : Nat
def Fv.cells (v : Fv) : List Value := [.int .u16 (v.tx : Nat), .int .u8 (v.unit : Nat), .slice v.A v.n v.c]
def fcells (V : List Fv) : List Value := V.flatMap Fv.cells
theorem fcells_nil : fcells [] = [] := rfl
theorem fcells_cons (v : Fv) (V : List Fv) : fcells (v :: V) = v.cells ++ fcells V := by simp [fcells]
theorem fcells_append (V W : List Fv) : fcells (V ++ W) = fcells V ++ fcells W := by simp [fcells]
theorem fcells_length (V : List Fv) : (fcells V).length = V.length * 3 := by
  induction V with
  | nil => rfl
  | cons v V ih => rw [fcells_cons, List.length_append, ih, List.length_cons]; show 3 + _ = _; omega
theorem fcells_one (V : List Fv) : ∀ u ∈ fcells V, u.oneCell' = true := by
  intro u hu
  simp only [fcells, List.mem_flatMap] at hu
  obtain ⟨v, _, hu⟩ := hu
  simp only [Fv.cells, List.mem_cons, List.not_mem_nil, or_false] at hu
  rcases hu with rfl | rfl | rfl <;> rfl
theorem fcells_get {V : List Fv} {i : Nat} {v : Fv} (h : V[i]? = some v) (j : Nat) (hj : j < 3) : (fcells V)[i * 3 + j]? = v.cells[j]? := by
  induction V generalizing i with
  | nil => cases h
  | cons u V ih =>
    rw [fcells_cons]
    cases i with
    | zero =>
      have h : u = v := by simpa using h
      subst h
      rw [List.getElem?_append_left (by show _ < 3; omega)]
      congr 1
      omega
    | succ i =>
      have h : V[i]? = some v := by simpa using h
      rw [List.getElem?_append_right (by show 3 ≤ _; omega), ← ih h]
      congr 1
      show (i + 1) * 3 + j - 3 = _
      omega
/-- These cells are that frame's. -/
structure FvOk (w : World) (B : Nat) (v : Fv) (m : Fm) : Prop where
  tx : v.tx = m.tx
  unit : v.unit = m.unit
  pdu : Sl w B v.A v.n (bs m.pdu)
section
variable {w w' : World} {B B' : Nat} {v : Fv} {m : Fm} {V : List Fv} {L : List Fm}
theorem FvOk.len (h : FvOk w B v m) : v.n = m.pdu.length := by have := h.pdu.len; rw [bs_length] at this; omega
theorem FvOk.mono (h : FvOk w B v m) (hB : B ≤ B') : FvOk w B' v m := ⟨h.tx, h.unit, h.pdu.mono hB⟩
theorem FvOk.keep (h : FvOk w B v m) (hk : ∀ b o, b < B → w'.cell? ⟨b, o, none⟩ = w.cell? ⟨b, o, none⟩) : FvOk w' B v m := ⟨h.tx, h.unit, h.pdu.keep hk⟩
theorem FvOk.to (h : FvOk w w.heap.size v m) (k : Below w.heap.size w w') : FvOk w' w'.heap.size v m := ⟨h.tx, h.unit, h.pdu.to k⟩
/-- These rows are those frames'. -/
def FvsOk (w : World) (B : Nat) (V : List Fv) (L : List Fm) : Prop := V.length = L.length ∧ ∀ (i : Nat) v m, V[i]? = some v → L[i]? = some m → FvOk w B v m
theorem FvsOk.len (h : FvsOk w B V L) : V.length = L.length := h.1
theorem FvsOk.nil (w : World) (B : Nat) : FvsOk w B [] [] := ⟨rfl, fun i v m h => by cases h⟩
theorem FvsOk.imp (h : FvsOk w B V L) (k : ∀ v m, FvOk w B v m → FvOk w' B' v m) : FvsOk w' B' V L := ⟨h.1, fun i v m a b => k v m (h.2 i v m a b)⟩
theorem FvsOk.mono (h : FvsOk w B V L) (hB : B ≤ B') : FvsOk w B' V L := h.imp fun _ _ k => k.mono hB
theorem FvsOk.keep (h : FvsOk w B V L) (hk : ∀ b o, b < B → w'.cell? ⟨b, o, none⟩ = w.cell? ⟨b, o, none⟩) : FvsOk w' B V L := h.imp fun _ _ k => k.keep hk
theorem FvsOk.to (h : FvsOk w w.heap.size V L) (k : Below w.heap.size w w') : FvsOk w' w'.heap.size V L := h.imp fun _ _ j => j.to k
theorem FvsOk.append {V2 : List Fv} {L2 : List Fm} (h : FvsOk w B V L) (k : FvsOk w B V2 L2) : FvsOk w B (V ++ V2) (L ++ L2) := by
  refine ⟨by rw [List.length_append, List.length_append, h.1, k.1], fun i v m hv hm => ?_⟩
  by_cases hi : i < V.length
  · rw [List.getElem?_append_left hi] at hv
    rw [List.getElem?_append_left (by rw [← h.1]; exact hi)] at hm
    exact h.2 i v m hv hm
  · rw [List.getElem?_append_right (by omega)] at hv
    rw [List.getElem?_append_right (by rw [← h.1]; omega), ← h.1] at hm
    exact k.2 _ v m hv hm
theorem FvsOk.one (h : FvOk w B v m) : FvsOk w B [v] [m] := by
  refine ⟨rfl, fun i v' m' a b => ?_⟩
  cases i with
  | zero =>
    have a : v = v' := by simpa using a
    have b : m = m' := by simpa using b
    subst a b
    exact h
  | succ i => simp at a
theorem FvsOk.snoc (h : FvsOk w B V L) (k : FvOk w B v m) : FvsOk w B (V ++ [v]) (L ++ [m]) := h.append (.one k)
theorem FvsOk.take (h : FvsOk w B V L) (k : Nat) : FvsOk w B (V.take k) (L.take k) := by
  refine ⟨by rw [List.length_take, List.length_take, h.1], fun i v m hv hm => ?_⟩
  rw [List.getElem?_take] at hv hm
  split at hv
  · rename_i hi
    rw [if_pos hi] at hm
    exact h.2 i v m hv hm
  · cases hv
theorem FvsOk.at (h : FvsOk w B V L) {i : Nat} (hi : i < V.length) : ∃ v, V[i]? = some v ∧ FvOk w B v (L[i]?.getD fm0) := by
  refine ⟨V[i], List.getElem?_eq_getElem hi, ?_⟩
  rw [List.getElem?_eq_getElem (by rw [← h.1]; exact hi)]
  exact h.2 i _ _ (List.getElem?_eq_getElem hi) (by rw [List.getElem?_eq_getElem (by rw [← h.1]; exact hi)]; rfl)
end
/-- Where their bytes lie. -/
def At (V : List Fv) (P : Nat → Prop) : Prop := ∀ u ∈ V, 0 < u.n → ∀ b o, u.A = some (⟨b, o, none⟩ : Addr) → P b
theorem At.nil (P : Nat → Prop) : At [] P := fun _ h => by cases h
theorem At.imp {V : List Fv} {P Q : Nat → Prop} (h : At V P) (k : ∀ b, P b → Q b) : At V Q := fun u hu hn b o e => k b (h u hu hn b o e)
theorem At.and {V : List Fv} {P Q : Nat → Prop} (h : At V P) (k : At V Q) : At V (fun b => P b ∧ Q b) := fun u hu hn b o e => ⟨h u hu hn b o e, k u hu hn b o e⟩
theorem At.append {V U : List Fv} {P : Nat → Prop} (h : At V P) (k : At U P) : At (V ++ U) P := fun u hu => by
  rcases List.mem_append.1 hu with hu | hu
  · exact h u hu
  · exact k u hu
theorem FvOk.lt {w : World} {B : Nat} {v : Fv} {m : Fm} (h : FvOk w B v m) (hn : 0 < v.n) (b o : Nat) (e : v.A = some (⟨b, o, none⟩ : Addr)) : b < B := by
  obtain ⟨b', o', e', hb, _⟩ := h.pdu.2 hn
  rw [e] at e'
  injection e' with e'
  injection e' with e1 e2
  omega
theorem FvsOk.lt {w : World} {B : Nat} {V : List Fv} {L : List Fm} (h : FvsOk w B V L) : At V (· < B) := fun u hu hn b o e => by
  obtain ⟨i, hi, rfl⟩ := List.mem_iff_getElem.1 hu
  obtain ⟨v, hv, hm⟩ := h.at hi
  rw [List.getElem?_eq_getElem hi] at hv
  injection hv with hv
  subst hv
  exact hm.lt hn b o e
/-- Frames of a world that are there in another one in which a row of its own alone has turned. -/
theorem FvsOk.grown {w w' : World} {V : List Fv} {L : List Fm} {row : Option Nat} (h : FvsOk w w.heap.size V L) (g : w.grownBy w' row) (hne : At V (fun b => row ≠ some b)) : FvsOk w' w'.heap.size V L :=
  ⟨h.1, fun i v m hv hm => ⟨(h.2 i v m hv hm).tx, (h.2 i v m hv hm).unit, (h.2 i v m hv hm).pdu.1, fun hn => by
    obtain ⟨b, o, e, hb, hc⟩ := (h.2 i v m hv hm).pdu.2 hn
    have hs := g.size
    refine ⟨b, o, e, by omega, fun j hj => ?_⟩
    rw [← hc j hj]
    exact World.cell?_of_block (w := w) (a := ⟨b, o + j, none⟩) (g.block b hb (fun e' => hne v (List.mem_of_getElem? hv) hn b o e e'.symm))⟩⟩
/-- A slice of frames. -/
def Fr (w : World) (A : Option Addr) (n : Nat) (L : List Fm) (P : Nat → Prop) : Prop := ∃ V, V.length = n ∧ Sl w w.heap.size A (n * 3) (fcells V) ∧ FvsOk w w.heap.size V L ∧ At V P
section
variable {w w' : World} {A : Option Addr} {n : Nat} {L : List Fm} {P : Nat → Prop}
theorem Fr.to (h : Fr w A n L P) (k : Below w.heap.size w w') : Fr w' A n L P := by
  obtain ⟨V, h1, h2, h3, h4⟩ := h
  exact ⟨V, h1, h2.to k, h3.to k, h4⟩
theorem Fr.len (h : Fr w A n L P) : L.length = n := by
  obtain ⟨V, h1, _, h3, _⟩ := h
  rw [← h3.1, h1]
theorem Fr.nil (w : World) (A : Option Addr) (P : Nat → Prop) : Fr w A 0 [] P := ⟨[], rfl, Sl.empty _ _ _, FvsOk.nil _ _, At.nil _⟩
theorem Fr.imp {Q : Nat → Prop} (h : Fr w A n L P) (k : ∀ b, P b → Q b) : Fr w A n L Q := by
  obtain ⟨V, h1, h2, h3, h4⟩ := h
  exact ⟨V, h1, h2, h3, h4.imp k⟩
theorem Fr.drewN (h : Fr w A n L P) (q : Nat) : Fr (w.drewN q) A n L P := h.to ((Below.refl _ _).drewN q)
theorem Fr.drew (h : Fr w A n L P) : Fr w.drew A n L P := h.to ((Below.refl _ _).drew)
theorem Fr.lt (h : Fr w A n L P) : Fr w A n L (· < w.heap.size) := by
  obtain ⟨V, h1, h2, h3, h4⟩ := h
  exact ⟨V, h1, h2, h3, h3.lt⟩
theorem Fr.take (h : Fr w A n L P) {k : Nat} (hk : k ≤ n) : Fr w A k (L.take k) P := by
  obtain ⟨V, h1, h2, h3, h4⟩ := h
  have e : (fcells V).take (k * 3) = fcells (V.take k) := by
    have hh := fcells_append (V.take k) (V.drop k)
    rw [List.take_append_drop] at hh
    rw [hh, List.take_left' (by rw [fcells_length, List.length_take]; congr 1; omega)]
  have h5 := h2.take (k := k * 3) (by omega)
  rw [e] at h5
  exact ⟨V.take k, by rw [List.length_take]; omega, h5, h3.take k, fun u hu => h4 u (List.mem_of_mem_take hu)⟩
/-- A place in it. -/
theorem Fr.at (h : Fr w A n L P) {i : Nat} (hi : i < n) :
    ∃ b o, A = some ⟨b, o, none⟩ ∧ b < w.heap.size ∧ ∃ C k c, w.cell? ⟨b, o + i * 3, none⟩ = some (.int .u16 ((L[i]?.getD fm0).tx : Nat)) ∧ w.cell? ⟨b, o + i * 3 + 1, none⟩ = some (.int .u8 ((L[i]?.getD fm0).unit : Nat)) ∧
      w.cell? ⟨b, o + i * 3 + 2, none⟩ = some (.slice C k c) ∧ Sl w w.heap.size C k (bs (L[i]?.getD fm0).pdu) ∧ (0 < k → ∀ b o, C = some (⟨b, o, none⟩ : Addr) → P b) := by
  obtain ⟨V, h1, h2, h3, h4⟩ := h
  obtain ⟨v, hv, hm⟩ := h3.at (i := i) (by omega)
  obtain ⟨b, o, rfl, hb, hc⟩ := h2.2 (by omega)
  refine ⟨b, o, rfl, hb, v.A, v.n, v.c, ?_, ?_, ?_, hm.pdu, h4 v (List.mem_of_getElem? hv)⟩
  · have := (hc (i * 3 + 0) (by omega)).trans (fcells_get hv 0 (by omega))
    rw [Nat.add_zero] at this
    rw [this, ← hm.tx]; rfl
  · rw [Nat.add_assoc, (hc (i * 3 + 1) (by omega)).trans (fcells_get hv 1 (by omega)), ← hm.unit]; rfl
  · rw [Nat.add_assoc, (hc (i * 3 + 2) (by omega)).trans (fcells_get hv 2 (by omega))]; rfl
/-- One frame in a block of its own. -/
theorem Fr.new (w : World) (x : Fm) (C : Option Addr) (k c : Nat) (t : TypeId) (hs : Sl w w.heap.size C k (bs x.pdu)) (hP : 0 < k → ∀ b o, C = some (⟨b, o, none⟩ : Addr) → P b) :
    Fr (w.alloc (.cells #[.int .u16 (x.tx : Nat), .int .u8 (x.unit : Nat), .slice C k c] t)) (some ⟨w.heap.size, 0, none⟩) 1 [x] P := by
  refine ⟨[⟨x.tx, x.unit, C, k, c⟩], rfl, ?_, FvsOk.one ⟨rfl, rfl, hs.to ((Below.refl _ _).new _)⟩, fun u hu hn => ?_⟩
  · have := Sl.new w #[.int .u16 (x.tx : Nat), .int .u8 (x.unit : Nat), .slice C k c] t (w.alloc (.cells #[.int .u16 (x.tx : Nat), .int .u8 (x.unit : Nat), .slice C k c] t)).heap.size (by simp)
    exact this
  · obtain rfl : u = ⟨x.tx, x.unit, C, k, c⟩ := by simpa using hu
    exact hP hn
end
theorem Fr.newAt {P : Nat → Prop} (w : World) (x : Fm) (C : Option Addr) (k c : Nat) (t : TypeId) (g : Nat) (hg : g = w.heap.size) (hs : Sl w w.heap.size C k (bs x.pdu)) (hP : 0 < k → ∀ b o, C = some (⟨b, o, none⟩ : Addr) → P b) :
    Fr (w.alloc (.cells #[.int .u16 (x.tx : Nat), .int .u8 (x.unit : Nat), .slice C k c] t)) (some ⟨g, 0, none⟩) 1 [x] P := by subst hg; exact Fr.new w x C k c t hs hP
/-- A row of the call's own, of frames. -/
structure HasF (w0 w : World) (e : TypeId) (v : Value) (n : Nat) (L : List Fm) (P : Nat → Prop) : Prop where
  row : ∃ V, w.ownsRow w0.heap.size e 3 v n (fcells V) ∧ FvsOk w w.heap.size V L ∧ At V P ∧ At V (fun b => v.ownBlock ≠ some b)
  bel : Below w0.heap.size w0 w
section
variable {w0 w w' : World} {e : TypeId} {v : Value} {n : Nat} {L : List Fm} {P : Nat → Prop}
theorem HasF.nil_ (hb : Below w0.heap.size w0 w) (e : TypeId) (P : Nat → Prop) : HasF w0 w e (.slice none 0 0) 0 [] P := ⟨⟨[], World.ownsRow_nil _ _ _ _, FvsOk.nil _ _, At.nil _, At.nil _⟩, hb⟩
theorem HasF.len (h : HasF w0 w e v n L P) : L.length = n := by
  obtain ⟨V, h1, h2, _⟩ := h.row
  have := h1.1
  rw [fcells_length] at this
  rw [← h2.1]; omega
theorem HasF.imp {Q : Nat → Prop} (h : HasF w0 w e v n L P) (k : ∀ b, P b → Q b) : HasF w0 w e v n L Q := by
  obtain ⟨V, h1, h2, h3, h4⟩ := h.row
  exact ⟨⟨V, h1, h2, h3.imp k, h4⟩, h.bel⟩
theorem HasF.below (h : HasF w0 w e v n L P) (hb : Below w.heap.size w w') : HasF w0 w' e v n L P := by
  obtain ⟨V, h1, h2, h3, h4⟩ := h.row
  refine ⟨⟨V, ?_, h2.to hb, h3, h4⟩, h.bel.call hb⟩
  refine h1.kept (row := none) ⟨hb.os, hb.tape, hb.output, hb.size, fun k hk _ => hb.block k hk⟩ ?_
  cases hv : v.ownBlock with
  | none => exact .inl rfl
  | some b => exact .inr (by simp)
theorem HasF.drew (h : HasF w0 w e v n L P) : HasF w0 w.drew e v n L P := h.below ((Below.refl _ _).drew)
theorem HasF.drewN (h : HasF w0 w e v n L P) (q : Nat) : HasF w0 (w.drewN q) e v n L P := h.below ((Below.refl _ _).drewN q)
theorem HasF.alloc (h : HasF w0 w e v n L P) (o : Obj) : HasF w0 (w.alloc o) e v n L P := h.below ((Below.refl _ _).new o)
theorem HasF.weaken {w1 : World} (h : HasF w1 w e v n L P) (hb : Below w0.heap.size w0 w1) : HasF w0 w e v n L P := by
  obtain ⟨V, h1, h2⟩ := h.row
  refine ⟨⟨V, ⟨h1.1, ?_⟩, h2⟩, hb.call h.bel⟩
  rcases h1.2 with h | ⟨g, cap, cur, hv, hg, r⟩
  · exact Or.inl h
  · exact Or.inr ⟨g, cap, cur, hv, Nat.le_trans hb.size hg, r⟩
/-- Where another block has turned. -/
theorem HasF.other (h : HasF w0 w e v n L P) {k : Nat} (g : w.grownBy w' (some k)) (hk : w0.heap.size ≤ k) (hne : v.ownBlock ≠ some k) (hP : ∀ b, P b → b ≠ k) : HasF w0 w' e v n L P := by
  obtain ⟨V, h1, h2, h3, h4⟩ := h.row
  exact ⟨⟨V, h1.kept g (Or.inr hne), h2.grown g (h3.imp fun b hb e => hP b hb (by injection e with e; exact e.symm)), h3, h4⟩, h.bel.grown g h.bel.size (fun j hj => by injection hj with hj; omega)⟩
/-- Where another row has turned. -/
theorem HasF.beside {row : Option Nat} (h : HasF w0 w e v n L P) (g : w.grownBy w' row) (hr : ∀ k, row = some k → w0.heap.size ≤ k ∧ v.ownBlock ≠ some k) (hP : ∀ b k, P b → row = some k → b ≠ k) : HasF w0 w' e v n L P := by
  obtain ⟨V, h1, h2, h3, h4⟩ := h.row
  refine ⟨⟨V, h1.kept g ?_, h2.grown g (h3.imp fun b hb e => hP b b hb e rfl), h3, h4⟩, h.bel.grown g h.bel.size (fun k hk => (hr k hk).1)⟩
  cases hv : v.ownBlock with
  | none => exact .inl rfl
  | some b => exact .inr (fun e => (hr b e.symm).2 hv)
theorem _root_.Go.Proofs.Ytofigldbkndjlaa.Has.beside {row : Option Nat} {xs : List Value} (h : Has w0 w e v n xs) (g : w.grownBy w' row) (hr : ∀ k, row = some k → w0.heap.size ≤ k ∧ v.ownBlock ≠ some k) : Has w0 w' e v n xs := by
  refine ⟨h.own.kept g ?_, h.bel.grown g h.bel.size (fun k hk => (hr k hk).1)⟩
  cases hv : v.ownBlock with
  | none => exact .inl rfl
  | some b => exact .inr (fun e => (hr b e.symm).2 hv)
/-- A block that holds a cell is of cells. -/
theorem cells_of_cell {w : World} {a : Addr} {u : Value} {o : Obj} (h : w.cell? a = some u) (ho : w.heap[a.block]? = some o) : o.isCells = true := by
  unfold World.cell? at h
  rw [ho] at h
  cases o <;> first | rfl | (simp at h)
theorem FvsOk.still {V : List Fv} {row : Option Nat} (h : FvsOk w w.heap.size V L) (hr : ∀ r, row = some r → ∃ o : Obj, w.heap[r]? = some o ∧ o.isCells = false) : At V (fun b => row ≠ some b) := fun u hu hn b o e he => by
  obtain ⟨i, hi, rfl⟩ := List.mem_iff_getElem.1 hu
  obtain ⟨v, hv, hm⟩ := h.at hi
  rw [List.getElem?_eq_getElem hi] at hv
  injection hv with hv
  subst hv
  obtain ⟨b', o', e', _, hc⟩ := hm.pdu.2 hn
  rw [e] at e'
  injection e' with e'
  injection e' with e1 e2
  subst e1 e2
  have h0 := hc 0 hn
  obtain ⟨ob, ho, hf⟩ := hr b he
  have hl : 0 < (bs (L[i]?.getD fm0).pdu).length := by rw [hm.pdu.1]; exact hn
  rw [List.getElem?_eq_getElem hl] at h0
  have := cells_of_cell (a := ⟨b, o + 0, none⟩) h0 ho
  rw [hf] at this
  cases this
/-- Where a block that is no cells has turned. -/
theorem HasF.still {row : Option Nat} (h : HasF w0 w e v n L P) (g : w.grownBy w' row) (hr : ∀ r, row = some r → w0.heap.size ≤ r ∧ ∃ o : Obj, w.heap[r]? = some o ∧ o.isCells = false) : HasF w0 w' e v n L P := by
  obtain ⟨V, h1, h2, h3, h4⟩ := h.row
  refine ⟨⟨V, h1.kept g ?_, h2.grown g (h2.still fun r e => (hr r e).2), h3, h4⟩, h.bel.grown g h.bel.size (fun k hk => (hr k hk).1)⟩
  rcases h1.2 with ⟨rfl, _⟩ | ⟨b, cap, cur, rfl, _, hgb, _⟩
  · exact .inl rfl
  · refine .inr fun e' => ?_
    obtain ⟨_, o, ho, hf⟩ := hr b (by simpa [Value.ownBlock] using e'.symm)
    rw [hgb] at ho
    cases ho
    cases hf
theorem HasF.own (h : HasF w0 w e v n L P) : ∀ b, v.ownBlock = some b → w0.heap.size ≤ b ∧ b < w.heap.size := by
  obtain ⟨V, h1, _⟩ := h.row
  exact fun b hb => h1.lt b hb
theorem HasF.slice (h : HasF w0 w e v n L P) : ∃ A c, v = .slice A n c ∧ n ≤ c ∧ Fr w A n L P := by
  obtain ⟨V, h1, h2, h3, h4⟩ := h.row
  have hl : V.length = n := by have := h1.1; rw [fcells_length] at this; omega
  rcases h1.2 with ⟨rfl, rfl⟩ | ⟨g, cap, cur, rfl, hb, hg, hc, hm, hs, ht⟩
  · refine ⟨none, 0, rfl, Nat.le_refl _, ⟨V, hl, ?_, h2, h3⟩⟩
    have : V = [] := List.eq_nil_of_length_eq_zero hl
    subst this
    exact Sl.empty _ _ _
  · refine ⟨some ⟨g, 0, none⟩, cap, rfl, hc, ⟨V, hl, ⟨by rw [fcells_length, hl], fun _ => ⟨g, 0, rfl, (Array.getElem?_eq_some_iff.1 hg).1, fun j hj => ?_⟩⟩, h2, h3⟩⟩
    rw [Nat.zero_add, cell_of_row w g j cur e (0, 0) hg, ← ht, List.getElem?_take, if_pos hj]
    simp
end
/-- Slice type t of elements e of three cells. -/
structure Elem3 (P : Program) (t e : TypeId) (bytes : Nat) : Prop where
  slice : P.underlying t = some (.slice e)
  info : ∃ i z, P.info? e = some i ∧ i.zero = some z ∧ i.size = 3 ∧ i.bytes = bytes ∧ z.cells.size = 3
theorem Elem3.mk' {P : Program} {t e : TypeId} {bytes : Nat} {z : Value} (h : P.underlying t = some (.slice e)) (hi : (P.info? e).map (fun i => (i.zero, i.size, i.bytes)) = some (some z, 3, bytes)) (hz : z.cells.size = 3) : Elem3 P t e bytes := by
  refine ⟨h, ?_⟩
  cases hq : P.info? e with
  | none => simp [hq] at hi
  | some i =>
    simp [hq] at hi
    exact ⟨i, z, rfl, hi.1, hi.2.1, hi.2.2, hz⟩
section
variable {P : Program}
theorem run_app3 {t e : TypeId} {bytes : Nat} (E : Elem3 P t e bytes) (ty : TypeId) {w0 w : World} {v : Value} {n : Nat} {xs : List Value} (h : w.ownsRow w0.heap.size e 3 v n xs) (hbel : Below w0.heap.size w0 w)
    {B : Nat} {A : Option Addr} {m c : Nat} {news : List Value} (hr : Sl w B A (m * 3) news) (h1 : ∀ u ∈ news, u.oneCell' = true) (hbytes : (n + m) * bytes ≤ 140737488355328) (h63 : n + m ≤ maxLen) :
    ∃ v' w', (Builtin.append_ #[t, t] ty #[v, .slice A m c]).run P w = .ok v' w' ∧ w'.ownsRow w0.heap.size e 3 v' (n + m) (xs ++ news) ∧ Below w0.heap.size w0 w' ∧ w.grownBy w' v.ownBlock ∧ (v'.ownBlock = v.ownBlock ∨ v'.ownBlock = some w.heap.size) := by
  obtain ⟨i, z, hi, hz, hsize, hby, hzs⟩ := E.info
  rcases A with _ | ad
  · have hm : m = 0 := by
      rcases Nat.eq_zero_or_pos m with h0 | h0
      · exact h0
      · obtain ⟨b, o, he, _⟩ := hr.2 (by omega)
        cases he
    subst hm
    obtain rfl : news = [] := List.eq_nil_of_length_eq_zero (by have := hr.1; omega)
    refine ⟨v, w, ?_, by simpa using h, hbel, ⟨rfl, rfl, rfl, Nat.le_refl _, fun _ _ _ => rfl⟩, .inl rfl⟩
    rcases h.2 with ⟨rfl, rfl⟩ | ⟨g, cap, cur, rfl, _, _, hnc, _⟩
    · simp [Builtin.append_, run_underlying E.slice, sizeOf, typeInfo, hi, Builtin.lenOf, Builtin.firstCells]
    · simp [Builtin.append_, run_underlying E.slice, sizeOf, typeInfo, hi, Builtin.lenOf, Builtin.firstCells, hnc, storeCells]
  · have hcells : ∀ j u, news[j]? = some u → w.cell? (ad.add j) = some u := by
      intro j u hu
      have hj : j < news.length := (List.getElem?_eq_some_iff.1 hu).1
      rw [hr.1] at hj
      obtain ⟨b, o, he, _, hc⟩ := hr.2 (by omega)
      injection he with he
      subst he
      have hadd : (⟨b, o, none⟩ : Addr).add j = ⟨b, o + j, none⟩ := by unfold Addr.add; split <;> simp_all
      rw [hadd, hc j hj, hu]
    obtain ⟨v', w', hrun, h2, h3, _, h5⟩ := run_append_own_at (P := P) w w0.heap.size t ty e i z 3 bytes E.slice hi hz hsize hby hzs (by omega) v n xs h ad m c news hr.1 hcells h1 h63 hbytes hbel.size
    exact ⟨v', w', hrun, h2, hbel.grown h3 hbel.size (fun k hk => (h.lt k hk).1), h3, h5⟩
/-- AT THE OPERATION: frames are appended to a row of the call's own. -/
theorem wp_app3 {t e : TypeId} {bytes : Nat} (E : Elem3 P t e bytes) {w0 w : World} {o : Oper} {a : Act} {K : Act → World → Prop} {Q : Exit → Act → World → Prop} (s x : Operand)
    (ho : o.op = .call { callee := .builtin .append, args := #[s, x], argTypes := #[t, t] })
    {v : Value} {n : Nat} {L : List Fm} {R : Nat → Prop} (h : HasF w0 w e v n L R) (hs : a.eval s = v)
    {A : Option Addr} {m c : Nat} {M : List Fm} {R2 : Nat → Prop} (hr : Fr w A m M R2) (hx : a.eval x = .slice A m c) (hap : ∀ b, R2 b → R b ∧ v.ownBlock ≠ some b) (hbytes : (n + m) * bytes ≤ 140737488355328) (h63 : n + m ≤ maxLen)
    (hk : ∀ v' w', HasF w0 w' e v' (n + m) (L ++ M) R → w.grownBy w' v.ownBlock → (v'.ownBlock = v.ownBlock ∨ v'.ownBlock = some w.heap.size) → K (a.put o.dst v') w') : o.wp P a w K Q := by
  obtain ⟨V, hV, hVL, hV1, hV2⟩ := h.row
  obtain ⟨U, hU1, hU2, hU3, hU4⟩ := hr
  obtain ⟨v', w', hrun, h2, hb, h3, h4⟩ := run_app3 (P := P) E o.type hV h.bel (c := c) hU2 (fcells_one U) hbytes h63
  unfold Oper.wp execOp
  simp only [ho, resolve, invoke, builtin, Sem.run_bind, Sem.run_pure, Result.andThen_ok, List.map_toArray, List.map_cons, List.map_nil, hs, hx, hrun]
  refine hk v' w' ⟨?_, hb⟩ h3 h4
  rw [← fcells_append] at h2
  have hall := hVL.append hU3
  have hne : At (V ++ U) (fun b => v.ownBlock ≠ some b) := hV2.append (hU4.imp fun b hb => (hap b hb).2)
  refine ⟨V ++ U, h2, hall.grown h3 hne, hV1.append (hU4.imp fun b hb => (hap b hb).1), ?_⟩
  rcases h4 with h4 | h4
  · rw [h4]; exact hne
  · rw [h4]
    exact hall.lt.imp fun b hb e => by injection e with e; omega
theorem wpList_app3 {t e : TypeId} {bytes : Nat} (E : Elem3 P t e bytes) {w0 w : World} {ops : Array Oper} {rest : List Oper} {o : Oper} {a : Act} {Q : Exit → Act → World → Prop} (hgd : o.guard = none) (s x : Operand)
    (ho : o.op = .call { callee := .builtin .append, args := #[s, x], argTypes := #[t, t] })
    {v : Value} {n : Nat} {L : List Fm} {R : Nat → Prop} (h : HasF w0 w e v n L R) (hs : a.eval s = v)
    {A : Option Addr} {m c : Nat} {M : List Fm} {R2 : Nat → Prop} (hr : Fr w A m M R2) (hx : a.eval x = .slice A m c) (hap : ∀ b, R2 b → R b ∧ v.ownBlock ≠ some b) (hbytes : (n + m) * bytes ≤ 140737488355328) (h63 : n + m ≤ maxLen)
    (hk : ∀ v' w', HasF w0 w' e v' (n + m) (L ++ M) R → w.grownBy w' v.ownBlock → (v'.ownBlock = v.ownBlock ∨ v'.ownBlock = some w.heap.size) → wpList P ops Q rest (a.put o.dst v') w') : wpList P ops Q (o :: rest) a w :=
  wpList_plain hgd fun _ hK => wp_app3 E s x ho h hs hr hx hap hbytes h63 fun v' w' a b c => hK _ _ (hk v' w' a b c)
/-- AT A STEP OF A REGION THAT DRAWS ITS ORDER. -/
theorem step_of_wp {ops : Array Oper} {o : Oper} {a : Act} {w : World} {K : Act → World → Prop} {Q : Exit → Act → World → Prop} {F : Prop} (hgd : o.guard = none) (h : Oper.wp P o a w K Q) : if Region.wanted o (yielded ops a.tmps) = true then Oper.wp P o a w K Q else F := by
  have hw : Region.wanted o (yielded ops a.tmps) = true := by simp [Region.wanted, hgd]
  rw [if_pos hw]; exact h
/-- A whole struct is stored: the world behind it is known by its block, and by what has not turned. -/
theorem wp_store_grown {o : Oper} {a : Act} {w : World} {K : Act → World → Prop} {Q : Exit → Act → World → Prop} (ty : TypeId) (x y : Operand) (ho : o.op = .store ty x y)
    (g : Nat) (cells : Array Value) (hx : a.eval x = .pointer (some ⟨g, 0, none⟩)) (hy : a.eval y = .agg cells)
    (t : TypeId) (old : Array Value) (hg : w.heap[g]? = some (.cells old t (0, 0))) (hi : (P.info? ty).map (·.size) = some cells.size) (hold : old.size = cells.size) (h1 : cells.all (·.oneCell') = true)
    (h : ∀ w', w'.heap[g]? = some (.cells cells t (0, 0)) → w.grownBy w' (some g) → w'.heap.size = w.heap.size → K (a.put o.dst undef) w') : o.wp P a w K Q :=
  wp_store_row ty x y ho g cells hx hy t old hg hi hold h1 (h _ (setRow_heap w g old cells t (0, 0) hg) (grown_setRow cells) (size_setRow w g cells))
/-- A whole struct of three cells is loaded, wherever it lies. -/
theorem run_loadVar_three (w : World) (b o : Nat) (ty : TypeId) (c0 c1 c2 : Value) (d : TypeDesc) (h0 : w.cell? ⟨b, o, none⟩ = some c0) (h1 : w.cell? ⟨b, o + 1, none⟩ = some c1) (h2 : w.cell? ⟨b, o + 2, none⟩ = some c2)
    (hu : P.underlying ty = some d) (hd : (match d with | .struct _ | .array _ _ => true | _ => false) = true) (hi : (P.info? ty).map (·.size) = some 3) :
    (loadVar ty ⟨b, o, none⟩).run P w = .ok (.agg #[c0, c1, c2]) w := by
  have hl : (loadCells ⟨b, o, none⟩ [c0, c1, c2].length).run P w = .ok [c0, c1, c2].toArray w :=
    run_loadCells_list (P := P) w ⟨b, o, none⟩ [c0, c1, c2] (fun j v hv => by
      have hadd : (⟨b, o, none⟩ : Addr).add j = ⟨b, o + j, none⟩ := by unfold Addr.add; split <;> simp_all
      rw [hadd]
      match j, hv with
      | 0, hv => simp at hv; subst hv; exact h0
      | 1, hv => simp at hv; subst hv; exact h1
      | 2, hv => simp at hv; subst hv; exact h2)
  cases hq : P.info? ty with
  | none => simp [hq] at hi
  | some i =>
    have hs : i.size = 3 := by simpa [hq] using hi
    have hagg : (isAgg ty).run P w = .ok true w := by
      unfold isAgg
      rw [Sem.run_bind, run_underlying hu w]
      cases d <;> simp_all
    simp only [List.length_cons, List.length_nil, Nat.zero_add, Nat.reduceAdd] at hl
    simp [loadVar, Sem.run_bind, hagg, sizeOf, typeInfo, hq, hs, hl]
theorem wp_load_three {o : Oper} {a : Act} {w : World} {K : Act → World → Prop} {Q : Exit → Act → World → Prop} (ty : TypeId) (x : Operand) (ho : o.op = .load ty x)
    (b k : Nat) (c0 c1 c2 : Value) (hx : a.eval x = .pointer (some ⟨b, k, none⟩)) (d : TypeDesc) (h0 : w.cell? ⟨b, k, none⟩ = some c0) (h1 : w.cell? ⟨b, k + 1, none⟩ = some c1) (h2 : w.cell? ⟨b, k + 2, none⟩ = some c2)
    (hu : P.underlying ty = some d) (hd : (match d with | .struct _ | .array _ _ => true | _ => false) = true) (hi : (P.info? ty).map (·.size) = some 3)
    (h : K (a.put o.dst (.agg #[c0, c1, c2])) w) : o.wp P a w K Q := by
  unfold Oper.wp execOp
  simp only [ho, hx, Instr.loadAt, Instr.sureAddr, Sem.run_bind, Sem.run_pure, Result.andThen_ok, run_loadVar_three w b k ty c0 c1 c2 d h0 h1 h2 hu hd hi]
  exact h
theorem wpList_load_three {ops : Array Oper} {rest : List Oper} {o : Oper} {a : Act} {w : World} {Q : Exit → Act → World → Prop} (hgd : o.guard = none) (ty : TypeId) (x : Operand) (ho : o.op = .load ty x)
    (b k : Nat) (c0 c1 c2 : Value) (hx : a.eval x = .pointer (some ⟨b, k, none⟩)) (d : TypeDesc) (h0 : w.cell? ⟨b, k, none⟩ = some c0) (h1 : w.cell? ⟨b, k + 1, none⟩ = some c1) (h2 : w.cell? ⟨b, k + 2, none⟩ = some c2)
    (hu : P.underlying ty = some d) (hd : (match d with | .struct _ | .array _ _ => true | _ => false) = true) (hi : (P.info? ty).map (·.size) = some 3)
    (h : wpList P ops Q rest (a.put o.dst (.agg #[c0, c1, c2])) w) : wpList P ops Q (o :: rest) a w :=
  wpList_plain hgd fun _ hK => wp_load_three ty x ho b k c0 c1 c2 hx d h0 h1 h2 hu hd hi (hK _ _ h)
theorem grown_then {w w1 w2 : World} {k : Option Nat} (h : w.grownBy w1 k) (g : w1.grownBy w2 k) : w.grownBy w2 k :=
  ⟨g.os.trans h.os, g.tape.trans h.tape, g.output.trans h.output, Nat.le_trans h.size g.size, fun j hj hne => (g.block j (Nat.lt_of_lt_of_le hj h.size) hne).trans (h.block j hj hne)⟩
theorem grown_cell (w : World) (g i : Nat) (v : Value) : w.grownBy (w.setCell ⟨g, i, none⟩ v) (some g) :=
  ⟨rfl, rfl, rfl, by simp [World.setCell], fun k _ hk => heap_setCell_other w ⟨g, i, none⟩ k v (fun e => hk (by rw [e]))⟩
/-- All three cells are stored. -/
theorem set3 {w : World} {g : Nat} {a b c : Value} {t : TypeId} (x y z : Value) (h : w.heap[g]? = some (.cells #[a, b, c] t (0, 0))) :
    (((w.setCell ⟨g, 0, none⟩ x).setCell ⟨g, 1, none⟩ y).setCell ⟨g, 2, none⟩ z).heap[g]? = some (.cells #[x, y, z] t (0, 0)) ∧ w.grownBy (((w.setCell ⟨g, 0, none⟩ x).setCell ⟨g, 1, none⟩ y).setCell ⟨g, 2, none⟩ z) (some g) :=
  ⟨heap_setCell_same _ g 2 _ _ _ (heap_setCell_same _ g 1 _ _ _ (heap_setCell_same w g 0 _ _ _ h)), grown_then (grown_then (grown_cell _ _ _ _) (grown_cell _ _ _ _)) (grown_cell _ _ _ _)⟩
theorem row3 {w : World} {g : Nat} {v0 v1 v2 : Value} {t : TypeId} (h : w.heap[g]? = some (.cells #[v0, v1, v2] t (0, 0))) :
    w.cell? ⟨g, 0, none⟩ = some v0 ∧ w.cell? ⟨g, 1, none⟩ = some v1 ∧ w.cell? ⟨g, 2, none⟩ = some v2 :=
  ⟨cell_of_row w g 0 _ _ _ h, cell_of_row w g 1 _ _ _ h, cell_of_row w g 2 _ _ _ h⟩
theorem free3 {w : World} {g : Nat} {cs : Array Value} {t : TypeId} (h : w.heap[g]? = some (.cells cs t (0, 0))) :
    w.frozen? ⟨g, 0, none⟩ = false ∧ w.frozen? ⟨g, 1, none⟩ = false ∧ w.frozen? ⟨g, 2, none⟩ = false :=
  ⟨frozen_of_row w g 0 _ _ h, frozen_of_row w g 1 _ _ h, frozen_of_row w g 2 _ _ h⟩
end
end Go.Proofs.Ytofigldbkndjlaa.Mb
