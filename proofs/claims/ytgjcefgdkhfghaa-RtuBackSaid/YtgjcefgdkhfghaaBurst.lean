/- Bits beside one another are turned: the plain mathematics of check sums of 16 bits. -/
import Derived.Test.YtgjcefgdkhfghaaRtuA
set_option linter.unusedVariables false
namespace Go.Proofs.Ytgjcefgdkhfghaa.Crc
open Go.Proofs.Ytgjcefgdkhfghaa
/-- Bytes as one number, the first one the lowest. -/
def val : List Nat → Nat
  | [] => 0
  | c :: r => c + 256 * val r
/-- So many bits. -/
def it : Nat → Nat → Nat
  | 0, s => s
  | k + 1, s => it k (sh s)
theorem it_xor (k a b : Nat) : it k (a ^^^ b) = it k a ^^^ it k b := by
  induction k generalizing a b with
  | zero => rfl
  | succ k ih => unfold it; rw [sh_xor, ih]
theorem it_add (j k s : Nat) : it (j + k) s = it k (it j s) := by
  induction j generalizing s with
  | zero => rw [Nat.zero_add]; rfl
  | succ j ih => rw [Nat.succ_add]; exact ih (sh s)
theorem it_two (j x : Nat) : it j (2 ^ j * x) = x := by
  induction j with
  | zero => rw [Nat.pow_zero, Nat.one_mul]; rfl
  | succ j ih =>
    unfold it
    rw [show 2 ^ (j + 1) * x = 2 * (2 ^ j * x) by rw [Nat.pow_succ, Nat.mul_comm (2 ^ j) 2, Nat.mul_assoc], sh_two, ih]
theorem it_zero {k x : Nat} (hx : x < 65536) (h : it k x = 0) : x = 0 := by
  induction k generalizing x with
  | zero => exact h
  | succ k ih => exact sh_zero_of hx (ih (sh_lt hx) h)
theorem it_of_zero (k : Nat) : it k 0 = 0 := by
  induction k with
  | zero => rfl
  | succ k ih => exact ih
theorem low_xor {a b : Nat} (ha : a < 256) : a + 256 * b = a ^^^ (256 * b) := by
  have h := Nat.two_pow_add_eq_or_of_lt (i := 8) (b := a) (by omega) b
  have h2 : 2 ^ 8 * b ^^^ a = 2 ^ 8 * b ||| a := by
    apply Nat.eq_of_testBit_eq
    intro i
    rw [Nat.testBit_xor, Nat.testBit_or, Nat.testBit_two_pow_mul]
    by_cases hi : 8 ≤ i
    · have : a.testBit i = false := Nat.testBit_lt_two_pow (Nat.lt_of_lt_of_le (by omega : a < 2 ^ 8) (Nat.pow_le_pow_right (by omega) hi))
      simp [this]
    · simp [hi]
  rw [show (256 : Nat) = 2 ^ 8 from rfl, Nat.xor_comm, h2, ← h, Nat.add_comm]
theorem mul_xor (k a b : Nat) : 2 ^ k * (a ^^^ b) = (2 ^ k * a) ^^^ (2 ^ k * b) := by
  have h := Nat.shiftLeft_xor_distrib (a := a) (b := b) (i := k)
  rw [Nat.shiftLeft_eq, Nat.shiftLeft_eq, Nat.shiftLeft_eq] at h
  rw [Nat.mul_comm, h, Nat.mul_comm a, Nat.mul_comm b]
theorem sumFrom_val (l : List Nat) (hl : Bytes l) (s : Nat) : sumFrom s l = it (8 * l.length) (s ^^^ val l) := by
  induction l generalizing s with
  | nil => show s = s ^^^ 0; rw [Nat.xor_zero]
  | cons c r ih =>
    have hc : c < 256 := hl c (by simp)
    have h1 : sumFrom s (c :: r) = sumFrom (nx s c) r := rfl
    rw [h1, ih (fun d hd => hl d (by simp [hd]))]
    rw [show 8 * (c :: r).length = 8 + 8 * r.length by simp; omega, it_add]
    congr 1
    show nx s c ^^^ val r = it 8 (s ^^^ (c + 256 * val r))
    rw [low_xor hc, ← Nat.xor_assoc, it_xor 8 (s ^^^ c), show (256 : Nat) = 2 ^ 8 from rfl, it_two]
    rfl
theorem val_flip (l : List Nat) (hl : Bytes l) (q r : Nat) (hq : q < l.length) (hr : r < 8) : val (l.set q (l[q]?.getD 0 ^^^ 2 ^ r)) = val l ^^^ 2 ^ (8 * q + r) := by
  induction l generalizing q with
  | nil => simp at hq
  | cons c t ih =>
    have hc : c < 256 := hl c (by simp)
    cases q with
    | zero =>
      have h2 : 2 ^ r < 256 := Nat.pow_lt_pow_of_lt (a := 2) (n := r) (m := 8) (by omega) hr
      have h3 : c ^^^ 2 ^ r < 256 := Nat.xor_lt_two_pow (n := 8) hc h2
      show (c ^^^ 2 ^ r) + 256 * val t = (c + 256 * val t) ^^^ 2 ^ (8 * 0 + r)
      rw [low_xor h3, low_xor hc, Nat.mul_zero, Nat.zero_add, Nat.xor_assoc, Nat.xor_assoc, Nat.xor_comm (2 ^ r)]
    | succ q =>
      have h := ih (fun d hd => hl d (by simp [hd])) q (by simpa using hq)
      show c + 256 * val (t.set q (t[q]?.getD 0 ^^^ 2 ^ r)) = (c + 256 * val t) ^^^ 2 ^ (8 * (q + 1) + r)
      rw [h, low_xor hc, low_xor hc, show (256 : Nat) = 2 ^ 8 from rfl, mul_xor, Nat.xor_assoc, ← Nat.pow_add, show 8 + (8 * q + r) = 8 * (q + 1) + r by omega]
theorem sum_put (l : List Nat) : sum (CrcW.put l) = 0 := by
  unfold CrcW.put sum
  rw [sumFrom_append]
  exact nx_own _
theorem burst {Z bad : List Nat} (hZ : Bytes Z) (hb : Bytes bad) (hl : bad.length = Z.length) {p x : Nat} (hp : p ≤ 8 * Z.length) (hx : x < 65536) (hv : val bad = val Z ^^^ 2 ^ p * x) (hs : sum Z = 0) : sum bad = 0 ↔ x = 0 := by
  unfold sum at hs ⊢
  rw [sumFrom_val _ hZ] at hs
  rw [sumFrom_val _ hb, hl, hv, ← Nat.xor_assoc, it_xor, hs, Nat.zero_xor]
  obtain ⟨k, hk⟩ : ∃ k, 8 * Z.length = p + k := ⟨8 * Z.length - p, by omega⟩
  rw [hk, it_add, it_two]
  constructor
  · exact it_zero hx
  · rintro rfl; exact it_of_zero k
end Go.Proofs.Ytgjcefgdkhfghaa.Crc
namespace Go.Proofs.Ytgjcefgdkhfghaa.AskW
open Go.Proofs.Ytgjcefgdkhfghaa
theorem last_two {xs : List Nat} (h : 2 ≤ xs.length) : xs = xs.take (xs.length - 2) ++ [xs[xs.length - 2]?.getD 0, xs[xs.length - 1]?.getD 0] := by
  have t1 := take_snoc (l := xs) (k := xs.length - 2) (by omega)
  have t2 := take_snoc (l := xs) (k := xs.length - 1) (by omega)
  rw [show xs.length - 2 + 1 = xs.length - 1 by omega] at t1
  rw [show xs.length - 1 + 1 = xs.length by omega, List.take_length] at t2
  rw [show [xs[xs.length - 2]?.getD 0, xs[xs.length - 1]?.getD 0] = [xs[xs.length - 2]?.getD 0] ++ [xs[xs.length - 1]?.getD 0] from rfl, ← List.append_assoc, ← t1, ← t2]
theorem rtuP_eleven {xs : List Nat} (hx : Bytes xs) (h1 : 4 ≤ xs.length) (h2 : xs.length ≤ 256) : ((rtuP xs).2 == 11) = !(decide (Crc.sum xs = 0)) := by
  have b1 := hx.at (xs.length - 2)
  have b2 := hx.at (xs.length - 1)
  have hlt := Crc.sum_lt (xs.take (xs.length - 2)) (hx.take _)
  have hiff : Crc.sum xs = 0 ↔ Crc.sum (xs.take (xs.length - 2)) = xs[xs.length - 2]?.getD 0 + 256 * xs[xs.length - 1]?.getD 0 := by
    have e : Crc.sum xs = Crc.nx (Crc.nx (Crc.sum (xs.take (xs.length - 2))) (xs[xs.length - 2]?.getD 0)) (xs[xs.length - 1]?.getD 0) := by
      conv => lhs; rw [last_two (xs := xs) (by omega)]
      unfold Crc.sum
      rw [Crc.sumFrom_append]; rfl
    obtain ⟨s, hs⟩ : ∃ s, s = Crc.sum (xs.take (xs.length - 2)) := ⟨_, rfl⟩
    obtain ⟨y, hy⟩ : ∃ y, y = xs[xs.length - 2]?.getD 0 := ⟨_, rfl⟩
    obtain ⟨z, hz⟩ : ∃ z, z = xs[xs.length - 1]?.getD 0 := ⟨_, rfl⟩
    rw [← hs, ← hy, ← hz] at e
    rw [← hs] at hlt
    rw [← hy] at b1
    rw [← hz] at b2
    rw [e, ← hs, ← hy, ← hz]
    have own := Crc.nx_own (y + 256 * z)
    rw [show (y + 256 * z) % 256 = y by omega, show (y + 256 * z) / 256 = z by omega] at own
    constructor
    · intro h
      rw [← own] at h
      exact (Crc.nx_inj_sum hlt (by omega) b1).1 ((Crc.nx_inj_sum (Crc.nx_lt hlt b1) (Crc.nx_lt (by omega) b1) b2).1 h)
    · rintro rfl; exact own
  unfold rtuP
  rw [if_neg (by omega)]
  by_cases h3 : Crc.sum (xs.take (xs.length - 2)) = xs[xs.length - 2]?.getD 0 + 256 * xs[xs.length - 1]?.getD 0
  · rw [if_pos h3, decide_eq_true (hiff.2 h3)]
    split <;> rfl
  · rw [if_neg h3, decide_eq_false (fun h => h3 (hiff.1 h))]
    rfl
end Go.Proofs.Ytgjcefgdkhfghaa.AskW
