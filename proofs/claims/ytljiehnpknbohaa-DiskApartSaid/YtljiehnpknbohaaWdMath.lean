/- Layer 6's answers as plain functions: bits, registers, numbers. No program in sight. -/
import Derived.Test.YtljiehnpknbohaaBase
namespace Go.Proofs.Ytljiehnpknbohaa.Wd
open Go.Proofs.Ytljiehnpknbohaa Go.Proofs.Ytljiehnpknbohaa.Ask
/-- A register's bytes. -/
def two (x : Nat) : List Nat := [x / 256, x % 256]
def twos (l : List Nat) : List Nat := (l.map two).flatten
theorem twos_nil : twos [] = [] := rfl
theorem twos_cons (x : Nat) (l : List Nat) : twos (x :: l) = two x ++ twos l := by simp [twos]
theorem twos_append (l r : List Nat) : twos (l ++ r) = twos l ++ twos r := by simp [twos]
theorem twos_length (l : List Nat) : (twos l).length = 2 * l.length := by
  induction l with
  | nil => rfl
  | cons x l ih => rw [twos_cons, List.length_append, ih, List.length_cons]; show 2 + _ = _; omega
theorem twos_bytes {l : List Nat} (h : ∀ x ∈ l, x < 65536) : Bytes (twos l) := by
  induction l with
  | nil => exact fun _ h => by cases h
  | cons x l ih =>
    have hx := h x List.mem_cons_self
    intro c hc
    rw [twos_cons] at hc
    rcases List.mem_append.1 hc with hc | hc
    · simp only [two, List.mem_cons, List.not_mem_nil, or_false] at hc
      omega
    · exact ih (fun y hy => h y (List.mem_cons_of_mem _ hy)) c hc
theorem twos_snoc {l : List Nat} {k : Nat} (h : k < l.length) : twos (l.take (k + 1)) = twos (l.take k) ++ two (l[k]?.getD 0) := by
  rw [take_snoc h, twos_append]
  simp [twos]
/-- The registers that bytes are. -/
def regs : List Nat → List Nat
  | a :: b :: r => (256 * a + b) :: regs r
  | _ => []
theorem regs_twos : ∀ {l : List Nat}, regs (twos l) = l
  | [] => rfl
  | x :: l => by
    rw [twos_cons]
    show (256 * (x / 256) + x % 256) :: regs (twos l) = x :: l
    rw [regs_twos, Nat.div_add_mod]
theorem regs_length : ∀ xs : List Nat, (regs xs).length = xs.length / 2
  | [] => rfl
  | [_] => by simp [regs]
  | a :: b :: r => by
    show (regs r).length + 1 = (r.length + 1 + 1) / 2
    rw [regs_length r]; omega
theorem twos_regs : ∀ {xs : List Nat}, Bytes xs → xs.length % 2 = 0 → twos (regs xs) = xs
  | [], _, _ => rfl
  | [_], _, h => by simp at h
  | a :: b :: r, hb, h => by
    have hb1 := hb b (by simp)
    show twos ((256 * a + b) :: regs r) = _
    rw [twos_cons, twos_regs (fun c hc => hb c (by simp [hc])) (by simp at h; omega)]
    show [(256 * a + b) / 256, (256 * a + b) % 256] ++ r = _
    rw [show (256 * a + b) / 256 = a by omega, show (256 * a + b) % 256 = b by omega]
    rfl
theorem regs_lt : ∀ {xs : List Nat}, Bytes xs → ∀ x ∈ regs xs, x < 65536
  | [], _, x, h => by cases h
  | [_], _, x, h => by cases h
  | a :: b :: r, hb, x, h => by
    have h1 := hb a (by simp)
    have h2 := hb b (by simp)
    rcases List.mem_cons.1 h with rfl | h
    · omega
    · exact regs_lt (fun c hc => hb c (by simp [hc])) x h
theorem regs_get : ∀ {xs : List Nat} {i : Nat}, 2 * i + 1 < xs.length → (regs xs)[i]?.getD 0 = 256 * xs[2 * i]?.getD 0 + xs[2 * i + 1]?.getD 0
  | [], i, h => by simp at h
  | [_], i, h => by simp at h
  | a :: b :: r, 0, h => rfl
  | a :: b :: r, i + 1, h => by
    have h1 : 2 * i + 1 < r.length := by simp at h; omega
    show (regs r)[i]?.getD 0 = _
    rw [regs_get h1, show 2 * (i + 1) = 2 * i + 1 + 1 by omega]
    rfl
theorem regs_snoc {xs : List Nat} {i : Nat} (h : 2 * i + 1 < xs.length) : (regs xs).take (i + 1) = (regs xs).take i ++ [256 * xs[2 * i]?.getD 0 + xs[2 * i + 1]?.getD 0] := by
  rw [take_snoc (by rw [regs_length]; omega), regs_get h]
def regsE (xs : List Nat) : List Nat × Bool := if xs.length % 2 = 0 then (regs xs, true) else ([], false)
/-- The first n bits of bytes, if these are just as many, and packed so. -/
def bitsOf (b : List Nat) (n : Int) : List Bool := if 0 ≤ n ∧ n ≤ 8 * b.length ∧ pack ((unpack b).take n.toNat) = b then (unpack b).take n.toNat else []
theorem bits_pack (l : List Bool) : bitsOf (pack l) l.length = l := by
  have h := unpack_pack l
  unfold bitsOf
  rw [Int.toNat_natCast, h, if_pos ⟨by omega, by rw [pack_length]; omega, rfl⟩]
theorem bits_length (b : List Nat) (n : Int) : bitsOf b n = [] ∨ ((bitsOf b n).length : Int) = n ∧ pack (bitsOf b n) = b := by
  unfold bitsOf
  split
  · rename_i h
    refine .inr ⟨?_, h.2.2⟩
    rw [List.length_take, unpack_length]
    omega
  · exact .inl rfl
/-- The value of a signed register, and the register of a value. -/
def signed (x : Nat) : Int := if x < 32768 then (x : Int) else (x : Int) - 65536
def word (x : Int) : Nat × Bool := if -32768 ≤ x ∧ x ≤ 32767 then ((x % 65536).toNat, true) else (0, false)
theorem word_signed {x : Nat} (h : x < 65536) : word (signed x) = (x, true) := by
  unfold word signed
  split
  · rw [if_pos (by omega)]
    congr 1
    omega
  · rw [if_pos (by omega)]
    congr 1
    omega
theorem signed_word {x : Int} (h : -32768 ≤ x ∧ x ≤ 32767) : (word x).2 = true ∧ (word x).1 < 65536 ∧ signed (word x).1 = x := by
  unfold word
  rw [if_pos h]
  refine ⟨rfl, by show (x % 65536).toNat < 65536; omega, ?_⟩
  show signed (x % 65536).toNat = x
  unfold signed
  split <;> omega
end Go.Proofs.Ytljiehnpknbohaa.Wd
