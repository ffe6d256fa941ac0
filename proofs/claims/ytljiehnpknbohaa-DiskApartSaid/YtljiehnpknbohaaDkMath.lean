/- Layer 9's answers as plain functions: a disk. No program in sight. -/
import Derived.Test.YtljiehnpknbohaaBase
set_option linter.unusedVariables false
namespace Go.Proofs.Ytljiehnpknbohaa.Dk
open Go.Proofs.Ytljiehnpknbohaa
/-- A disk; left below 0: as many sparks as one likes. -/
structure D where
  room : Nat
  safe : Nat
  left : Int
  b : List Nat
  off : Bool
/-- One that can be. -/
structure D.Ok (d : D) : Prop where
  room : d.room ≤ 262144
  len : d.b.length ≤ d.room
  safe : d.safe ≤ d.b.length
  left : -1 ≤ d.left
  hi : d.left ≤ 9223372036854775807
  bytes : Bytes d.b
def new (room : Nat) : D := ⟨room, 0, -1, [], false⟩
theorem new_ok {room : Nat} (h : room ≤ 262144) : (new room).Ok := ⟨h, Nat.zero_le _, Nat.le_refl _, by show (-1 : Int) ≤ -1; decide, by show (-1 : Int) ≤ _; decide, (fun _ h => by cases h)⟩
def spend (l : Int) : Int := if 0 < l then l - 1 else l
/-- So many bytes of b are there behind the others, each for a spark. -/
def put (d : D) (xs : List Nat) (k : Nat) : D := { d with b := d.b ++ xs.take k, left := if 0 ≤ d.left then d.left - k else d.left }
def append (d : D) (xs : List Nat) : D × Int :=
  if d.off = true then (d, 6)
  else if d.room < d.b.length + xs.length then (d, 5)
  else if 0 ≤ d.left ∧ d.left < xs.length then ({ put d xs d.left.toNat with left := 0, off := true }, 6)
  else (put d xs xs.length, 0)
def sync (d : D) : D × Int :=
  if d.off = true then (d, 6)
  else if d.left = 0 then ({ d with off := true }, 6)
  else ({ d with safe := d.b.length, left := spend d.left }, 0)
def cut (d : D) (n : Int) : D × Int :=
  if d.off = true then (d, 6)
  else if n < 0 ∨ d.b.length < n then (d, 2)
  else if d.left = 0 then ({ d with off := true }, 6)
  else ({ d with b := d.b.take n.toNat, safe := min d.safe n.toNat, left := spend d.left }, 0)
def sparks (d : D) (n : Int) : D := { d with left := if n < 0 then -1 else n }
def keepN (d : D) (n : Int) : Nat := d.safe + (min (max n 0) ((d.b.length : Int) - d.safe)).toNat
def crash (d : D) (n : Int) : D := { d with b := d.b.take (keepN d n), safe := keepN d n, left := -1, off := false }

theorem put_ok {d : D} (h : d.Ok) {xs : List Nat} (hx : Bytes xs) {k : Nat} (hr : d.b.length + xs.length ≤ d.room) (hk : 0 ≤ d.left → (k : Int) ≤ d.left) : (put d xs k).Ok := by
  refine ⟨h.room, ?_, ?_, ?_, ?_, ?_⟩
  · show (d.b ++ xs.take k).length ≤ d.room
    rw [List.length_append, List.length_take]; omega
  · show d.safe ≤ (d.b ++ xs.take k).length
    rw [List.length_append]; have := h.safe; omega
  · show -1 ≤ (if 0 ≤ d.left then d.left - k else d.left)
    split
    · rename_i h0; have := hk h0; omega
    · exact h.left
  · show (if 0 ≤ d.left then d.left - k else d.left) ≤ _
    have := h.hi
    split <;> omega
  · intro c hc
    rcases List.mem_append.1 hc with hc | hc
    · exact h.bytes c hc
    · exact hx c (List.mem_of_mem_take hc)
theorem append_ok {d : D} (h : d.Ok) {xs : List Nat} (hx : Bytes xs) : (append d xs).1.Ok := by
  unfold append
  split
  · exact h
  · split
    · exact h
    · rename_i h1 h2
      split
      · rename_i h3
        have hp := put_ok h hx (k := d.left.toNat) (by omega) (by omega)
        exact ⟨hp.room, hp.len, hp.safe, by show (-1 : Int) ≤ 0; decide, by show (0 : Int) ≤ _; decide, hp.bytes⟩
      · rename_i h3
        exact put_ok h hx (by omega) (by omega)
theorem spend_ok {l : Int} (h : -1 ≤ l) (h2 : l ≤ 9223372036854775807) : -1 ≤ spend l ∧ spend l ≤ 9223372036854775807 := by
  unfold spend; split <;> omega
theorem sync_ok {d : D} (h : d.Ok) : (sync d).1.Ok := by
  unfold sync
  split
  · exact h
  · split
    · exact ⟨h.room, h.len, h.safe, h.left, h.hi, h.bytes⟩
    · have := spend_ok h.left h.hi
      exact ⟨h.room, h.len, Nat.le_refl _, this.1, this.2, h.bytes⟩
theorem cut_ok {d : D} (h : d.Ok) (n : Int) : (cut d n).1.Ok := by
  unfold cut
  split
  · exact h
  · split
    · exact h
    · rename_i h1 h2
      split
      · exact ⟨h.room, h.len, h.safe, h.left, h.hi, h.bytes⟩
      · have sp := spend_ok h.left h.hi
        have := h.len
        have := h.safe
        refine ⟨h.room, ?_, ?_, sp.1, sp.2, h.bytes.take _⟩
        · show (d.b.take n.toNat).length ≤ d.room
          rw [List.length_take]; omega
        · show min d.safe n.toNat ≤ (d.b.take n.toNat).length
          rw [List.length_take]; omega
theorem sparks_ok {d : D} (h : d.Ok) {n : Int} (hn : n ≤ 9223372036854775807) : (sparks d n).Ok := by
  refine ⟨h.room, h.len, h.safe, ?_, ?_, h.bytes⟩
  · show -1 ≤ (if n < 0 then -1 else n); split <;> omega
  · show (if n < 0 then -1 else n) ≤ _; split <;> omega
theorem keepN_le {d : D} (h : d.Ok) (n : Int) : keepN d n ≤ d.b.length ∧ d.safe ≤ keepN d n := by
  have := h.safe
  unfold keepN; omega
theorem crash_ok {d : D} (h : d.Ok) (n : Int) : (crash d n).Ok := by
  have := keepN_le h n
  have := h.len
  refine ⟨h.room, ?_, ?_, by show (-1 : Int) ≤ -1; decide, by show (-1 : Int) ≤ _; decide, h.bytes.take _⟩
  · show (d.b.take (keepN d n)).length ≤ d.room
    rw [List.length_take]; omega
  · show keepN d n ≤ (d.b.take (keepN d n)).length
    rw [List.length_take]; omega
/-- Something that is done. -/
structure Deed where
  what : Nat
  b : List Nat
  n : Int
structure Deed.Ok (o : Deed) : Prop where
  what : o.what < 256
  b : Bytes o.b
  lo : -9223372036854775808 ≤ o.n
  hi : o.n ≤ 9223372036854775807
def op0 : Deed := ⟨0, [], 0⟩
theorem op0_ok : op0.Ok := ⟨by decide, (fun _ h => by cases h), by decide, by decide⟩
def act (d : D) (o : Deed) : D × Int :=
  if o.what % 5 = 0 then append d o.b
  else if o.what % 5 = 1 then sync d
  else if o.what % 5 = 2 then cut d o.n
  else if o.what % 5 = 3 then (sparks d o.n, 0)
  else (crash d o.n, 0)
theorem act_ok {d : D} (h : d.Ok) {o : Deed} (ho : o.Ok) : (act d o).1.Ok := by
  unfold act
  split
  · exact append_ok h ho.b
  · split
    · exact sync_ok h
    · split
      · exact cut_ok h o.n
      · split
        · exact sparks_ok h ho.hi
        · exact crash_ok h o.n
/-- The operations, up to 60; are all of them light? -/
def light (l : List Deed) : Bool := (l.take 60).all fun o => decide (o.b.length ≤ 200)
/-- All that is done, one behind the other. -/
def acts (d : D) (l : List Deed) : D := l.foldl (fun d o => (act d o).1) d
theorem acts_ok {d : D} (h : d.Ok) {l : List Deed} (hl : ∀ o ∈ l, o.Ok) : (acts d l).Ok := by
  induction l generalizing d with
  | nil => exact h
  | cons o r ih => exact ih (act_ok h (hl o (by simp))) (fun x hx => hl x (by simp [hx]))
theorem acts_room {d : D} {l : List Deed} : (acts d l).room = d.room := by
  induction l generalizing d with
  | nil => rfl
  | cons o r ih =>
    have h1 : (act d o).1.room = d.room := by
      unfold act append sync cut sparks crash put
      repeat' split
      all_goals rfl
    rw [← h1]; exact ih
end Go.Proofs.Ytljiehnpknbohaa.Dk
