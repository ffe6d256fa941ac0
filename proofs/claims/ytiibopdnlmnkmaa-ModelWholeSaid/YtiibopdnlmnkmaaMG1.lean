/- Merged: MoA MoMem MoB. -/
import Derived.Test.YtiibopdnlmnkmaaBase
import Derived.Test.YtiibopdnlmnkmaaChecked
import Derived.Test.YtiibopdnlmnkmaaFill
import Derived.WalkKit
import Derived.Below
import Derived.BigQuiet
import Derived.Deep.QuietTactic
import Derived.Lib.Hide
import Derived.Laws.BitsAllLaws
/- Areas, spaces, memories, lists that are written over, as plain functions. No program in sight. -/
namespace Go.Proofs.Ytiibopdnlmnkmaa.Mo
open Go.Proofs.Ytiibopdnlmnkmaa
/-- Addresses that lie beside one another. -/
structure Area where
  at' : Int
  many : Int
  rd : Bool
  wr : Bool
  whole : Bool
structure Area.Ok (a : Area) : Prop where
  at0 : -9223372036854775808 ≤ a.at'
  at1 : a.at' ≤ 9223372036854775807
  many0 : -9223372036854775808 ≤ a.many
  many1 : a.many ≤ 9223372036854775807
def AOk (L : List Area) : Prop := ∀ a ∈ L, a.Ok
structure Space where
  coils : List Area
  inputs : List Area
  holding : List Area
  words : List Area
structure Space.Ok (s : Space) : Prop where
  coils : AOk s.coils
  inputs : AOk s.inputs
  holding : AOk s.holding
  words : AOk s.words
structure Mem where
  coils : List Bool
  inputs : List Bool
  holding : List Nat
  words : List Nat
deriving DecidableEq
structure Mem.Wf (m : Mem) : Prop where
  holding : ∀ x ∈ m.holding, x < 65536
  words : ∀ x ∈ m.words, x < 65536
/-- May an area stand there, in a table so long? -/
def Area.fits (a : Area) (e : Int) (long : Nat) (fixed : Bool) : Bool :=
  decide (0 ≤ a.at') && (decide (1 ≤ a.many) && (decide (a.at' ≤ 65536) && (decide (a.many ≤ 65536) && (decide (e ≤ a.at') && (decide (a.at' + a.many ≤ long) && !(fixed && a.wr))))))
def areasFrom (e : Int) (L : List Area) (long : Nat) (fixed : Bool) : Bool :=
  match L with
  | [] => decide (long ≤ 65536)
  | a :: l => a.fits e long fixed && areasFrom (a.at' + a.many) l long fixed
theorem areas_step {e : Int} {L : List Area} {i long : Nat} {fixed : Bool} {a : Area} (h : L[i]? = some a) : areasFrom e (L.drop i) long fixed = (a.fits e long fixed && areasFrom (a.at' + a.many) (L.drop (i + 1)) long fixed) := by
  have hi := (List.getElem?_eq_some_iff.1 h).1
  have hd : L.drop i = a :: L.drop (i + 1) := by
    rw [List.drop_eq_getElem_cons hi]
    congr 1
    exact (List.getElem?_eq_some_iff.1 h).2
  rw [hd]
  rfl
theorem areas_end {e : Int} {L : List Area} {i long : Nat} {fixed : Bool} (h : L.length ≤ i) : areasFrom e (L.drop i) long fixed = decide (long ≤ 65536) := by
  rw [List.drop_eq_nil_of_le h]; rfl
/-- Are space and memory right? -/
def rightM (s : Space) (m : Mem) : Bool :=
  areasFrom 0 s.coils m.coils.length false && (areasFrom 0 s.inputs m.inputs.length true && (areasFrom 0 s.holding m.holding.length false && areasFrom 0 s.words m.words.length true))
def Area.has (a : Area) (x : Int) : Bool := decide (a.at' ≤ x) && (decide (0 < a.many) && decide (x - a.at' < a.many))
/-- The area of an address. -/
def findA (L : List Area) (x : Int) : Option Area := L.find? fun a => a.has x
theorem find_step {L : List Area} {i : Nat} {x : Int} {a : Area} (h : L[i]? = some a) : findA (L.drop i) x = if a.has x then some a else findA (L.drop (i + 1)) x := by
  have hi := (List.getElem?_eq_some_iff.1 h).1
  have hd : L.drop i = a :: L.drop (i + 1) := by
    rw [List.drop_eq_getElem_cons hi]
    congr 1
    exact (List.getElem?_eq_some_iff.1 h).2
  rw [hd]
  unfold findA
  rw [List.find?_cons]
  cases a.has x <;> rfl
theorem find_end {L : List Area} {i : Nat} {x : Int} (h : L.length ≤ i) : findA (L.drop i) x = none := by
  rw [List.drop_eq_nil_of_le h]; rfl
def readAt (L : List Area) (x : Int) : Bool := match findA L x with | some a => a.rd | none => false
def readsOk (L : List Area) (at' many : Nat) : Bool := (List.range many).all fun k => readAt L ((at' + k : Nat) : Int)
def writeAt (L : List Area) (at' many : Nat) (x : Int) : Bool := match findA L x with | some a => a.wr && !(a.whole && (a.at' != (at' : Int) || a.many != (many : Int))) | none => false
def writesOk (L : List Area) (at' many : Nat) : Bool := (List.range many).all fun k => writeAt L at' many ((at' + k : Nat) : Int)
theorem reads_iff (L : List Area) (at' many : Nat) : readsOk L at' many = true ↔ ∀ k, k < many → readAt L ((at' + k : Nat) : Int) = true := by
  unfold readsOk; simp
theorem writes_iff (L : List Area) (at' many : Nat) : writesOk L at' many = true ↔ ∀ k, k < many → writeAt L at' many ((at' + k : Nat) : Int) = true := by
  unfold writesOk; simp
theorem reads_no {L : List Area} {at' many k : Nat} (hk : k < many) (h : readAt L ((at' + k : Nat) : Int) = false) : readsOk L at' many = false := by
  cases e : readsOk L at' many
  · rfl
  · have := (reads_iff L at' many).1 e k hk
    rw [h] at this; cases this
theorem writes_no {L : List Area} {at' many k : Nat} (hk : k < many) (h : writeAt L at' many ((at' + k : Nat) : Int) = false) : writesOk L at' many = false := by
  cases e : writesOk L at' many
  · rfl
  · have := (writes_iff L at' many).1 e k hk
    rw [h] at this; cases this
/-- A list of which some is written over. -/
def over {α : Type} (l : List α) (k : Nat) (v : List α) : List α := l.take k ++ (v ++ l.drop (k + v.length))
theorem over_nil {α : Type} (l : List α) (k : Nat) : over l k [] = l := by simp [over]
theorem over_length {α : Type} {l : List α} {k : Nat} {v : List α} (h : v = [] ∨ k + v.length ≤ l.length) : (over l k v).length = l.length := by
  rcases h with rfl | h
  · rw [over_nil]
  · simp [over]; omega
theorem over_get {α : Type} {l : List α} {k : Nat} {v : List α} (h : v = [] ∨ k + v.length ≤ l.length) (i : Nat) : (over l k v)[i]? = if k ≤ i ∧ i < k + v.length then v[i - k]? else l[i]? := by
  rcases h with rfl | h
  · rw [over_nil, if_neg (by simp)]
  · unfold over
    by_cases h1 : i < k
    · rw [List.getElem?_append_left (by simp; omega), if_neg (by omega), List.getElem?_take, if_pos h1]
    · rw [List.getElem?_append_right (by simp; omega)]
      have e : (l.take k).length = k := by simp; omega
      rw [e]
      by_cases h2 : i < k + v.length
      · rw [List.getElem?_append_left (by omega), if_pos (by omega)]
      · rw [List.getElem?_append_right (by omega), if_neg (by omega), List.getElem?_drop]
        congr 1
        omega
theorem over_snoc {α : Type} {l : List α} {k j : Nat} {v : List α} {x : α} (h : k + v.length ≤ l.length) (hj : v[j]? = some x) : (over l k (v.take j)).set (k + j) x = over l k (v.take (j + 1)) := by
  have hjl := (List.getElem?_eq_some_iff.1 hj).1
  apply List.ext_getElem?
  intro i
  rw [List.getElem?_set, over_length (.inr (by simp; omega)), over_get (.inr (by simp; omega)), over_get (.inr (by simp; omega))]
  simp only [List.length_take]
  by_cases h1 : k + j = i
  · subst h1
    rw [if_pos rfl, if_pos (by omega), if_pos (by omega), List.getElem?_take, if_pos (by omega), show k + j - k = j by omega, hj]
  · rw [if_neg h1]
    by_cases h2 : k ≤ i ∧ i < k + j
    · rw [if_pos (by omega), if_pos (by omega), List.getElem?_take, List.getElem?_take, if_pos (by omega), if_pos (by omega)]
    · rw [if_neg (by omega), if_neg (by omega)]
/-- Bits up to a multiple of eight. -/
def pad8 (l : List Bool) : List Bool := l ++ List.replicate ((l.length + 7) / 8 * 8 - l.length) false
theorem pad8_length (l : List Bool) : (pad8 l).length = (l.length + 7) / 8 * 8 := by
  simp [pad8]; omega
def slab {α : Type} (l : List α) (k n : Nat) : List α := (l.drop k).take n
theorem slab_length {α : Type} {l : List α} {k n : Nat} (h : k + n ≤ l.length) : (slab l k n).length = n := by simp [slab]; omega
theorem slab_get {α : Type} {l : List α} {k n i : Nat} (h : i < n) : (slab l k n)[i]? = l[k + i]? := by
  unfold slab; rw [List.getElem?_take, if_pos h, List.getElem?_drop]
theorem slab_snoc {α : Type} {l : List α} {k n : Nat} {x : α} (h : l[k + n]? = some x) : slab l k (n + 1) = slab l k n ++ [x] := by
  unfold slab
  have hl := (List.getElem?_eq_some_iff.1 h).1
  rw [List.take_succ_eq_append_getElem (by simp; omega)]
  congr 2
  rw [List.getElem_drop]
  exact (List.getElem?_eq_some_iff.1 h).2
theorem slab_split {α : Type} (l : List α) (k a b : Nat) : slab l k a ++ slab l (k + a) b = slab l k (a + b) := by
  unfold slab
  rw [List.take_add, List.drop_drop]
/-- Where areas are right, what may be read, or written, is there. -/
theorem find_some {L : List Area} {x : Int} {a : Area} (h : findA L x = some a) : a ∈ L ∧ a.at' ≤ x ∧ x < a.at' + a.many := by
  unfold findA at h
  have h1 := List.mem_of_find?_eq_some h
  have h2 := List.find?_some h
  unfold Area.has at h2
  rw [Bool.and_eq_true, Bool.and_eq_true, decide_eq_true_iff, decide_eq_true_iff, decide_eq_true_iff] at h2
  exact ⟨h1, h2.1, by omega⟩
theorem areas_mem {e : Int} {L : List Area} {long : Nat} {fixed : Bool} (h : areasFrom e L long fixed = true) : long ≤ 65536 ∧ ∀ a ∈ L, e ≤ a.at' ∧ 0 ≤ a.at' ∧ 1 ≤ a.many ∧ a.at' + a.many ≤ long ∧ (fixed = true → a.wr = false) := by
  induction L generalizing e with
  | nil =>
    exact ⟨by simpa [areasFrom] using h, fun a h => by cases h⟩
  | cons b l ih =>
    unfold areasFrom at h
    rw [Bool.and_eq_true] at h
    obtain ⟨h1, h2⟩ := h
    obtain ⟨i1, i2⟩ := ih h2
    unfold Area.fits at h1
    simp only [Bool.and_eq_true, decide_eq_true_iff, Bool.not_eq_true'] at h1
    refine ⟨i1, fun a ha => ?_⟩
    rcases List.mem_cons.1 ha with rfl | ha
    · refine ⟨h1.2.2.2.2.1, h1.1, h1.2.1, h1.2.2.2.2.2.1, fun hf => ?_⟩
      have := h1.2.2.2.2.2.2
      rw [hf] at this
      simpa using this
    · have := i2 a ha
      exact ⟨by omega, this.2⟩
theorem reads_in {L : List Area} {e : Int} {long : Nat} {fixed : Bool} {at' many : Nat} (h : areasFrom e L long fixed = true) (hr : readsOk L at' many = true) (hm : 0 < many) : at' + many ≤ long := by
  have := (reads_iff L at' many).1 hr (many - 1) (by omega)
  unfold readAt at this
  cases hf : findA L ((at' + (many - 1) : Nat) : Int) with
  | none => rw [hf] at this; cases this
  | some a =>
    obtain ⟨h1, h2, h3⟩ := find_some hf
    have := (areas_mem h).2 a h1
    omega
theorem writes_in {L : List Area} {e : Int} {long : Nat} {fixed : Bool} {at' many : Nat} (h : areasFrom e L long fixed = true) (hr : writesOk L at' many = true) (hm : 0 < many) : at' + many ≤ long := by
  have := (writes_iff L at' many).1 hr (many - 1) (by omega)
  unfold writeAt at this
  cases hf : findA L ((at' + (many - 1) : Nat) : Int) with
  | none => rw [hf] at this; cases this
  | some a =>
    obtain ⟨h1, h2, h3⟩ := find_some hf
    have := (areas_mem h).2 a h1
    omega
theorem right_long {s : Space} {m : Mem} (h : rightM s m = true) : areasFrom 0 s.coils m.coils.length false = true ∧ areasFrom 0 s.inputs m.inputs.length true = true ∧ areasFrom 0 s.holding m.holding.length false = true ∧ areasFrom 0 s.words m.words.length true = true := by
  unfold rightM at h
  simpa only [Bool.and_eq_true] using h
end Go.Proofs.Ytiibopdnlmnkmaa.Mo
/- Areas in memory: rows of five cells. Spaces and memories as values. No program in sight. -/
namespace Go.Proofs.Ytiibopdnlmnkmaa.Mo
open Go.RowKit Go.Proofs.Ytiibopdnlmnkmaa
def Area.cells (a : Area) : List Value := [.int .i64 a.at', .int .i64 a.many, .bool a.rd, .bool a.wr, .bool a.whole]
def acells (L : List Area) : List Value := L.flatMap Area.cells
theorem acells_cons (a : Area) (L : List Area) : acells (a :: L) = a.cells ++ acells L := by simp [acells]
theorem acells_length (L : List Area) : (acells L).length = L.length * 5 := by
  induction L with
  | nil => rfl
  | cons a L ih => rw [acells_cons, List.length_append, ih, List.length_cons]; show 5 + _ = _; omega
theorem acells_get {L : List Area} {i : Nat} {a : Area} (h : L[i]? = some a) (j : Nat) (hj : j < 5) : (acells L)[i * 5 + j]? = a.cells[j]? := by
  induction L generalizing i with
  | nil => cases h
  | cons u L ih =>
    rw [acells_cons]
    cases i with
    | zero =>
      have h : u = a := by simpa using h
      subst h
      rw [List.getElem?_append_left (by show _ < 5; omega)]
      congr 1
      omega
    | succ i =>
      have h : L[i]? = some a := by simpa using h
      rw [List.getElem?_append_right (by show 5 ≤ _; omega), ← ih h]
      congr 1
      show (i + 1) * 5 + j - 5 = _
      omega
/-- A slice of areas. -/
structure Ar (w : World) (A : Option Addr) (n : Nat) (L : List Area) : Prop where
  row : Sl w w.heap.size A (n * 5) (acells L)
section
variable {w w' : World} {A : Option Addr} {n : Nat} {L : List Area}
theorem Ar.to (h : Ar w A n L) (k : Below w.heap.size w w') : Ar w' A n L := ⟨h.row.to k⟩
theorem Ar.len (h : Ar w A n L) : L.length = n := by have := h.row.len; rw [acells_length] at this; omega
theorem Ar.nil (w : World) (A : Option Addr) : Ar w A 0 [] := ⟨Sl.empty _ _ _⟩
/-- The five cells of one of them. -/
theorem Ar.at (h : Ar w A n L) {i : Nat} (hi : i < n) : ∃ b o a, A = some (⟨b, o, none⟩ : Addr) ∧ b < w.heap.size ∧ L[i]? = some a ∧
    w.cell? ⟨b, o + i * 5, none⟩ = some (.int .i64 a.at') ∧ w.cell? ⟨b, o + i * 5 + 1, none⟩ = some (.int .i64 a.many) ∧ w.cell? ⟨b, o + i * 5 + 2, none⟩ = some (.bool a.rd) ∧
    w.cell? ⟨b, o + i * 5 + 3, none⟩ = some (.bool a.wr) ∧ w.cell? ⟨b, o + i * 5 + 4, none⟩ = some (.bool a.whole) := by
  obtain ⟨b, o, rfl, hb, d⟩ := h.row.2 (by omega)
  have hl : i < L.length := by rw [h.len]; exact hi
  refine ⟨b, o, L[i], rfl, hb, List.getElem?_eq_getElem hl, ?_, ?_, ?_, ?_, ?_⟩
  · have := d (i * 5 + 0) (by omega)
    rw [acells_get (List.getElem?_eq_getElem hl) 0 (by omega)] at this
    exact this
  · have := d (i * 5 + 1) (by omega)
    rw [acells_get (List.getElem?_eq_getElem hl) 1 (by omega), ← Nat.add_assoc] at this
    exact this
  · have := d (i * 5 + 2) (by omega)
    rw [acells_get (List.getElem?_eq_getElem hl) 2 (by omega), ← Nat.add_assoc] at this
    exact this
  · have := d (i * 5 + 3) (by omega)
    rw [acells_get (List.getElem?_eq_getElem hl) 3 (by omega), ← Nat.add_assoc] at this
    exact this
  · have := d (i * 5 + 4) (by omega)
    rw [acells_get (List.getElem?_eq_getElem hl) 4 (by omega), ← Nat.add_assoc] at this
    exact this
end
/-- Where a slice lies: its block, its length, its room. -/
structure Sv where
  A : Option Addr
  n : Nat
  c : Nat
def Sv.val (v : Sv) : Value := .slice v.A v.n v.c
def sv0 : Sv := ⟨none, 0, 0⟩
/-- A space's cells. -/
structure Sp where
  a : Sv
  b : Sv
  c : Sv
  d : Sv
def Sp.cells (v : Sp) : Array Value := #[.slice v.a.A v.a.n v.a.c, .slice v.b.A v.b.n v.b.c, .slice v.c.A v.c.n v.c.c, .slice v.d.A v.d.n v.d.c]
structure SpOk (w : World) (v : Sp) (s : Space) : Prop where
  coils : Ar w v.a.A v.a.n s.coils
  inputs : Ar w v.b.A v.b.n s.inputs
  holding : Ar w v.c.A v.c.n s.holding
  words : Ar w v.d.A v.d.n s.words
structure MmOk (w : World) (v : Sp) (m : Mem) : Prop where
  coils : Sl w w.heap.size v.a.A v.a.n (bl m.coils)
  inputs : Sl w w.heap.size v.b.A v.b.n (bl m.inputs)
  holding : Sl w w.heap.size v.c.A v.c.n (ws m.holding)
  words : Sl w w.heap.size v.d.A v.d.n (ws m.words)
section
variable {w w' : World} {v : Sp} {s : Space} {m : Mem}
theorem SpOk.to (h : SpOk w v s) (k : Below w.heap.size w w') : SpOk w' v s := ⟨h.coils.to k, h.inputs.to k, h.holding.to k, h.words.to k⟩
theorem MmOk.to (h : MmOk w v m) (k : Below w.heap.size w w') : MmOk w' v m := ⟨h.coils.to k, h.inputs.to k, h.holding.to k, h.words.to k⟩
theorem MmOk.lens (h : MmOk w v m) : m.coils.length = v.a.n ∧ m.inputs.length = v.b.n ∧ m.holding.length = v.c.n ∧ m.words.length = v.d.n :=
  ⟨by simpa using h.coils.len, by simpa using h.inputs.len, by simpa using h.holding.len, by simpa using h.words.len⟩
end
end Go.Proofs.Ytiibopdnlmnkmaa.Mo
/- The walks of saucierref07: areas, in, reads, writes. -/
set_option linter.unusedVariables false
set_option linter.unusedSimpArgs false
namespace Go.Proofs.Ytiibopdnlmnkmaa.MoW
open Go.RowKit Go.Proofs.Ytiibopdnlmnkmaa Go.Proofs.Ytiibopdnlmnkmaa.Mo
theorem fits_no {a : Area} {E : Int} {long : Nat} {fixed : Bool} {x : Bool} (h : 0 ≤ a.at' → 1 ≤ a.many → a.at' ≤ 65536 → a.many ≤ 65536 → E ≤ a.at' → a.at' + a.many ≤ (long : Int) → (fixed && a.wr) = false → False) : (a.fits E long fixed && x) = false := by
  cases hq : a.fits E long fixed
  · rfl
  · exfalso
    simp only [Area.fits, Bool.and_eq_true, decide_eq_true_iff, Bool.not_eq_true'] at hq
    obtain ⟨p1, p2, p3, p4, p5, p6, p7⟩ := hq
    exact h p1 p2 p3 p4 p5 p6 p7
theorem fits_yes {a : Area} {E : Int} {long : Nat} {fixed : Bool} (h1 : 0 ≤ a.at') (h2 : 1 ≤ a.many) (h3 : a.at' ≤ 65536) (h4 : a.many ≤ 65536) (h5 : E ≤ a.at') (h6 : a.at' + a.many ≤ (long : Int)) (h7 : (fixed && a.wr) = false) : a.fits E long fixed = true := by
  simp only [Area.fits, Bool.and_eq_true, decide_eq_true_iff, Bool.not_eq_true']
  exact ⟨h1, h2, h3, h4, h5, h6, h7⟩
theorem ret_bool {a b : Bool} (h : a = b) : Ending.returned (.bool a) = .returned (.bool b) := by rw [h]
def InIs (L : List Area) (x k : Int) : Prop := (findA L x = none ∧ k = -1) ∨ ∃ (i : Nat) (a : Area), k = (i : Int) ∧ L[i]? = some a ∧ findA L x = some a
end Go.Proofs.Ytiibopdnlmnkmaa.MoW
