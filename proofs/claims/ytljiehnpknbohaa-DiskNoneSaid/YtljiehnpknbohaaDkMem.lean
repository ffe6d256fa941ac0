/- A disk in memory: its blocks S, and what a call that changes it leaves as it was. (The layout, Lay, is the one part that speaks of the program's own struct.) -/
import Derived.Test.YtljiehnpknbohaaChecked
import Derived.Test.YtljiehnpknbohaaDkMath
import Derived.Test.YtljiehnpknbohaaBase
set_option linter.unusedVariables false
namespace Go.Proofs.Ytljiehnpknbohaa.DkW
open Go.RowKit Go.Proofs.Ytljiehnpknbohaa Go.Proofs.Ytljiehnpknbohaa.Dk
/-- Outside the blocks S all that there is is as it was. -/
structure Stays (S : Nat → Prop) (w w' : World) : Prop where
  os : w'.os = w.os
  tape : w'.tape = w.tape
  output : w'.output = w.output
  size : w.heap.size ≤ w'.heap.size
  rows : ∀ k, k < w.heap.size → ¬ S k → w'.heap[k]? = w.heap[k]?
theorem Stays.refl (S : Nat → Prop) (w : World) : Stays S w w := ⟨rfl, rfl, rfl, Nat.le_refl _, fun _ _ _ => rfl⟩
theorem Stays.below {S : Nat → Prop} {w w' : World} {base : Nat} (h : Stays S w w') (hb : base ≤ w.heap.size) (hS : ∀ k, S k → base ≤ k) : Below base w w' :=
  ⟨h.os, h.tape, h.output, h.size, fun k hk => h.rows k (by omega) (fun hs => by have := hS k hs; omega)⟩
theorem Stays.of {S : Nat → Prop} {w w' : World} (h : Below w.heap.size w w') : Stays S w w' := ⟨h.os, h.tape, h.output, h.size, fun k hk _ => h.block k hk⟩
theorem Stays.trans {S S' : Nat → Prop} {a b c : World} (h : Stays S a b) (k : Stays S' b c) (hS : ∀ k, S' k → S k ∨ a.heap.size ≤ k) : Stays S a c :=
  ⟨k.os.trans h.os, k.tape.trans h.tape, k.output.trans h.output, Nat.le_trans h.size k.size, fun i hi hn => by
    have hs := h.size
    refine (k.rows i (by omega) (fun h2 => ?_)).trans (h.rows i hi hn)
    rcases hS i h2 with h1 | h1
    · exact hn h1
    · omega⟩
theorem Stays.row {S : Nat → Prop} {w w' : World} (h : Stays S w w') {k : Nat} {o : Obj} (hk : ¬ S k) (ho : w.heap[k]? = some o) : w'.heap[k]? = some o := (h.rows k (row_lt ho) hk).trans ho
/-- The slice lies outside S. -/
def Away (S : Nat → Prop) (A : Option Addr) (n : Nat) : Prop := 0 < n → ∀ b o, A = some (⟨b, o, none⟩ : Addr) → ¬ S b
theorem Sl.stays {S : Nat → Prop} {w w' : World} {A : Option Addr} {n : Nat} {xs : List Value} (h : Sl w w.heap.size A n xs) (k : Stays S w w') (ha : Away S A n) : Sl w' w'.heap.size A n xs :=
  ⟨h.1, fun hn => by
    obtain ⟨b, o, rfl, hb, hc⟩ := h.2 hn
    have hs := k.size
    refine ⟨b, o, rfl, by omega, fun j hj => ?_⟩
    rw [← hc j hj]
    exact World.cell?_of_block (w := w) (a := ⟨b, o + j, none⟩) (k.rows b hb (ha hn b o rfl))⟩
theorem Away.low {S : Nat → Prop} {w : World} {A : Option Addr} {n : Nat} {xs : List Value} (h : Sl w w.heap.size A n xs) (hS : ∀ k, S k → w.heap.size ≤ k) : Away S A n := fun hn b o e hs => by
  obtain ⟨b', o', e', hb, _⟩ := h.2 hn
  rw [e] at e'
  injection e' with e'
  injection e' with e1 _ _
  have := hS b hs
  omega
theorem Away.fresh {S : Nat → Prop} {B : Nat} {A : Option Addr} {n : Nat} (h : ∀ b o, A = some (⟨b, o, none⟩ : Addr) → B ≤ b) (hS : ∀ k, S k → k < B) : Away S A n := fun hn b o e hs => by
  have := h b o e
  have := hS b hs
  omega
/-! ### the program's own layout -/
/-- What the program has where sparks are counted: any number below 0 where there are as many as one likes. -/
def Spk (l s : Int) : Prop := -9223372036854775808 ≤ s ∧ s ≤ 9223372036854775807 ∧ (l < 0 → s < 0) ∧ (0 ≤ l → s = l)
def dkC (d : D) (A : Option Addr) (c : Nat) (s : Int) : Array Value := #[.bool true, .int .i64 (d.room : Nat), .slice A d.b.length c, .int .i64 (d.safe : Nat), .int .i64 s, .bool d.off]
def Lay (w : World) (base : Nat) (S : Nat → Prop) (p : Nat) (d : D) : Prop := ∃ A c s, w.heap[p]? = some (.cells (dkC d A c s) 51 (0, 0)) ∧ w.ownsRow base 5 1 (.slice A d.b.length c) d.b.length (bs d.b) ∧
  (∀ g, (Value.slice A d.b.length c).ownBlock = some g → S g ∧ g ≠ p) ∧ Spk d.left s
theorem Lay.keep {w w' : World} {base : Nat} {S : Nat → Prop} {p : Nat} {d : D} (h : Lay w base S p d) (hp : S p) (k : ∀ i, S i → w'.heap[i]? = w.heap[i]?) : Lay w' base S p d := by
  obtain ⟨A, c, s, h1, ⟨hl, h2⟩, h3, h4⟩ := h
  refine ⟨A, c, s, (k p hp).trans h1, ⟨hl, ?_⟩, h3, h4⟩
  rcases h2 with h2 | ⟨g, cap, cur, hv, hb, hg, r⟩
  · exact Or.inl h2
  · exact Or.inr ⟨g, cap, cur, hv, hb, (k g (h3 g (by rw [hv]; rfl)).1).trans hg, r⟩
/-! ### a disk, whatever its layout -/
structure Dk (w : World) (base : Nat) (S : Nat → Prop) (p : Nat) (d : D) : Prop where
  me : S p
  lo : ∀ k, S k → base ≤ k
  hi : ∀ k, S k → k < w.heap.size
  lay : Lay w base S p d
  ok : d.Ok
theorem Dk.keep {w w' : World} {base : Nat} {S : Nat → Prop} {p : Nat} {d : D} (h : Dk w base S p d) (hs : w.heap.size ≤ w'.heap.size) (k : ∀ i, S i → w'.heap[i]? = w.heap[i]?) : Dk w' base S p d :=
  ⟨h.me, h.lo, fun i hi => by have := h.hi i hi; omega, h.lay.keep h.me k, h.ok⟩
theorem Dk.to {w w' : World} {base : Nat} {S : Nat → Prop} {p : Nat} {d : D} (h : Dk w base S p d) (b : Below w.heap.size w w') : Dk w' base S p d := h.keep b.size fun i hi => b.block i (h.hi i hi)
theorem Dk.other {w w' : World} {base : Nat} {S : Nat → Prop} {p : Nat} {d : D} (h : Dk w base S p d) {row : Option Nat} (g : w.grownBy w' row) (hn : ∀ k, row = some k → ¬ S k) : Dk w' base S p d :=
  h.keep g.size fun i hi => g.block i (h.hi i hi) (fun e => hn i e.symm hi)
/-- What a call that changes a disk makes of it. -/
def Did (w : World) (base : Nat) (S : Nat → Prop) (p : Nat) (d : D) (w' : World) : Prop := ∃ S', Dk w' base S' p d ∧ Stays S w w' ∧ (∀ k, S' k → S k ∨ w.heap.size ≤ k)
theorem Did.behind {w w1 w' : World} {base : Nat} {S : Nat → Prop} {p : Nat} {d : D} (b : Below w.heap.size w w1) (h : Did w1 base S p d w') : Did w base S p d w' := by
  obtain ⟨S', h1, h2, h3⟩ := h
  refine ⟨S', h1, (Stays.of (S := S) b).trans h2 (fun k h => Or.inl h), fun k hk => ?_⟩
  rcases h3 k hk with h | h
  · exact Or.inl h
  · exact Or.inr (Nat.le_trans b.size h)
/-- What the program's calls do: to be shown of its code. -/
structure DiskK : Prop where
  new : ∀ (room : Nat) (w : World), room ≤ 262144 → Calls Try.prog 8 #[.int .i64 (room : Nat)] w fun e w' => ∃ p S, e = .returned (.tuple #[.pointer (some ⟨p, 0, none⟩), .int .i64 0]) ∧ Dk w' w.heap.size S p (Dk.new room) ∧ Below w.heap.size w w'
  bad : ∀ (room : Int) (w : World), room < 0 ∨ 262144 < room → Calls Try.prog 8 #[.int .i64 room] w fun e w' => e = .returned (.tuple #[.pointer none, .int .i64 2]) ∧ Below w.heap.size w w'
  append : ∀ (d : D) (base : Nat) (S : Nat → Prop) (p : Nat) (A : Option Addr) (n c : Nat) (xs : List Nat) (w : World), Dk w base S p d → Sl w w.heap.size A n (bs xs) → Away S A n → Bytes xs → n ≤ 100000 →
    Calls Try.prog 22 #[.pointer (some ⟨p, 0, none⟩), .slice A n c] w fun e w' => e = .returned (.int .i64 (append d xs).2) ∧ Did w base S p (append d xs).1 w'
  sync : ∀ (d : D) (base : Nat) (S : Nat → Prop) (p : Nat) (w : World), Dk w base S p d →
    Calls Try.prog 23 #[.pointer (some ⟨p, 0, none⟩)] w fun e w' => e = .returned (.int .i64 (sync d).2) ∧ Did w base S p (sync d).1 w'
  cut : ∀ (d : D) (base : Nat) (S : Nat → Prop) (p : Nat) (z : Int) (w : World), Dk w base S p d → -9223372036854775808 ≤ z → z ≤ 9223372036854775807 →
    Calls Try.prog 24 #[.pointer (some ⟨p, 0, none⟩), .int .i64 z] w fun e w' => e = .returned (.int .i64 (cut d z).2) ∧ Did w base S p (cut d z).1 w'
  sparks : ∀ (d : D) (base : Nat) (S : Nat → Prop) (p : Nat) (z : Int) (w : World), Dk w base S p d → -9223372036854775808 ≤ z → z ≤ 9223372036854775807 →
    Calls Try.prog 21 #[.pointer (some ⟨p, 0, none⟩), .int .i64 z] w fun e w' => e = .returned (.tuple #[]) ∧ Did w base S p (sparks d z) w'
  crash : ∀ (d : D) (base : Nat) (S : Nat → Prop) (p : Nat) (z : Int) (w : World), Dk w base S p d → -9223372036854775808 ≤ z → z ≤ 9223372036854775807 →
    Calls Try.prog 25 #[.pointer (some ⟨p, 0, none⟩), .int .i64 z] w fun e w' => e = .returned (.tuple #[]) ∧ Did w base S p (crash d z) w'
  bytes : ∀ (d : D) (base : Nat) (S : Nat → Prop) (p : Nat) (w : World), Dk w base S p d →
    Calls Try.prog 15 #[.pointer (some ⟨p, 0, none⟩)] w fun e w' => ∃ v, e = .returned v ∧ Has w w' 5 v d.b.length (bs d.b)
  len : ∀ (d : D) (base : Nat) (S : Nat → Prop) (p : Nat) (w : World), Dk w base S p d →
    Calls Try.prog 16 #[.pointer (some ⟨p, 0, none⟩)] w fun e w' => e = .returned (.int .i64 (d.b.length : Nat)) ∧ Below w.heap.size w w'
  safe : ∀ (d : D) (base : Nat) (S : Nat → Prop) (p : Nat) (w : World), Dk w base S p d →
    Calls Try.prog 17 #[.pointer (some ⟨p, 0, none⟩)] w fun e w' => e = .returned (.int .i64 (d.safe : Nat)) ∧ Below w.heap.size w w'
  room : ∀ (d : D) (base : Nat) (S : Nat → Prop) (p : Nat) (w : World), Dk w base S p d →
    Calls Try.prog 18 #[.pointer (some ⟨p, 0, none⟩)] w fun e w' => e = .returned (.int .i64 (d.room : Nat)) ∧ Below w.heap.size w w'
  off : ∀ (d : D) (base : Nat) (S : Nat → Prop) (p : Nat) (w : World), Dk w base S p d →
    Calls Try.prog 19 #[.pointer (some ⟨p, 0, none⟩)] w fun e w' => e = .returned (.bool d.off) ∧ Below w.heap.size w w'
end Go.Proofs.Ytljiehnpknbohaa.DkW
