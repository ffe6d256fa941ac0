/- Layer 8's plain mathematics: a register of 32 bits takes in bytes, and many noughts at once. No program in sight. -/
import Derived.Test.YtegcnnbhgdafmaaDoorBase
import Derived.Lib.TrailingZeros
set_option linter.unusedVariables false
namespace Go.Proofs.YtegcnnbhgdafmaaDoor.Sm
open Go.Proofs.YtegcnnbhgdafmaaDoor
/-- One bit. -/
def sh (s : Nat) : Nat := if s % 2 = 1 then (s / 2) ^^^ 3988292384 else s / 2
/-- So many bits. -/
def it : Nat → Nat → Nat
  | 0, s => s
  | k + 1, s => it k (sh s)
/-- One byte more. -/
def ad (s c : Nat) : Nat := it 8 (s ^^^ c)
def raw (s : Nat) (l : List Nat) : Nat := l.foldl ad s
def chk (l : List Nat) : Nat := raw 4294967295 l ^^^ 4294967295

theorem sh_lt {s : Nat} (h : s < 4294967296) : sh s < 4294967296 := by
  unfold sh
  split
  · exact Nat.xor_lt_two_pow (n := 32) (by omega) (by omega)
  · omega
theorem it_lt {k s : Nat} (h : s < 4294967296) : it k s < 4294967296 := by
  induction k generalizing s with
  | zero => exact h
  | succ k ih => exact ih (sh_lt h)
theorem ad_lt {s c : Nat} (h : s < 4294967296) (hc : c < 256) : ad s c < 4294967296 :=
  it_lt (Nat.xor_lt_two_pow (n := 32) h (by omega))
theorem raw_lt {s : Nat} {l : List Nat} (hs : s < 4294967296) (hl : Bytes l) : raw s l < 4294967296 := by
  induction l generalizing s with
  | nil => exact hs
  | cons c r ih => exact ih (ad_lt hs (hl c (by simp))) (fun d hd => hl d (by simp [hd]))
theorem chk_lt {l : List Nat} (hl : Bytes l) : chk l < 4294967296 :=
  Nat.xor_lt_two_pow (n := 32) (raw_lt (by omega) hl) (by omega)
theorem raw_append (s : Nat) (l r : List Nat) : raw s (l ++ r) = raw (raw s l) r := by simp [raw]
theorem raw_snoc {s k : Nat} {l : List Nat} (h : k < l.length) : raw s (l.take (k + 1)) = ad (raw s (l.take k)) (l[k]?.getD 0) := by
  rw [take_snoc h, raw_append]; rfl

theorem half_xor (a b : Nat) : (a ^^^ b) / 2 = (a / 2) ^^^ (b / 2) := by
  have := Nat.shiftRight_xor_distrib (a := a) (b := b) (i := 1)
  simpa [Nat.shiftRight_eq_div_pow] using this
theorem sh_xor (a b : Nat) : sh (a ^^^ b) = sh a ^^^ sh b := by
  unfold sh
  have hm : (a ^^^ b) % 2 = (a % 2 + b % 2) % 2 := by
    have h := Nat.testBit_xor a b 0
    simp only [Nat.testBit_zero] at h
    rcases Nat.mod_two_eq_zero_or_one a with ha | ha <;> rcases Nat.mod_two_eq_zero_or_one b with hb | hb <;> rw [ha, hb] at h ⊢ <;> rcases Nat.mod_two_eq_zero_or_one (a ^^^ b) with hx | hx <;> rw [hx] at h ⊢ <;> first | rfl | exact absurd h (by decide)
  rw [half_xor]
  rcases Nat.mod_two_eq_zero_or_one a with ha | ha <;> rcases Nat.mod_two_eq_zero_or_one b with hb | hb <;> simp only [ha, hb] at hm <;> simp [hm, ha, hb]
  · rw [Nat.xor_assoc]
  · rw [Nat.xor_assoc, Nat.xor_assoc, Nat.xor_comm 3988292384]
  · rw [Nat.xor_assoc, ← Nat.xor_assoc 3988292384, Nat.xor_comm 3988292384 (b / 2), Nat.xor_assoc (b / 2), Nat.xor_self, Nat.xor_zero]
theorem it_xor (k a b : Nat) : it k (a ^^^ b) = it k a ^^^ it k b := by
  induction k generalizing a b with
  | zero => rfl
  | succ k ih => unfold it; rw [sh_xor, ih]
theorem it_add (j k s : Nat) : it (j + k) s = it k (it j s) := by
  induction j generalizing s with
  | zero => rw [Nat.zero_add]; rfl
  | succ j ih => rw [Nat.succ_add]; exact ih (sh s)
theorem it_comm (j k s : Nat) : it j (it k s) = it k (it j s) := by rw [← it_add, ← it_add, Nat.add_comm]
theorem it_one (s : Nat) : it 1 s = sh s := rfl
theorem it_succ (k s : Nat) : it (k + 1) s = sh (it k s) := by rw [it_add]; rfl
theorem sh_two (k : Nat) : sh (2 * k) = k := by
  unfold sh
  have h : ¬ (2 * k) % 2 = 1 := by omega
  rw [if_neg h]; omega
theorem it_two (j x : Nat) : it j (2 ^ j * x) = x := by
  induction j with
  | zero => rw [Nat.pow_zero, Nat.one_mul]; rfl
  | succ j ih =>
    unfold it
    rw [show 2 ^ (j + 1) * x = 2 * (2 ^ j * x) by rw [Nat.pow_succ, Nat.mul_comm (2 ^ j) 2, Nat.mul_assoc], sh_two, ih]
theorem xor_eq_zero {a b : Nat} (h : a ^^^ b = 0) : a = b := by
  have : (a ^^^ b) ^^^ b = b := by rw [h]; exact Nat.zero_xor b
  rwa [Nat.xor_assoc, Nat.xor_self, Nat.xor_zero] at this
theorem xor_left_inj {a b c : Nat} (h : a ^^^ c = b ^^^ c) : a = b := by
  have : (a ^^^ c) ^^^ c = (b ^^^ c) ^^^ c := by rw [h]
  rwa [Nat.xor_assoc, Nat.xor_assoc, Nat.xor_self, Nat.xor_zero, Nat.xor_zero] at this
theorem sh_zero_of {x : Nat} (hx : x < 4294967296) (h : sh x = 0) : x = 0 := by
  unfold sh at h
  split at h
  · have := xor_eq_zero h; omega
  · omega
theorem it_zero {k x : Nat} (hx : x < 4294967296) (h : it k x = 0) : x = 0 := by
  induction k generalizing x with
  | zero => exact h
  | succ k ih => exact sh_zero_of hx (ih (sh_lt hx) h)
theorem it_of_zero (k : Nat) : it k 0 = 0 := by
  induction k with
  | zero => rfl
  | succ k ih => exact ih
theorem it_inj {k a b : Nat} (ha : a < 4294967296) (hb : b < 4294967296) (h : it k a = it k b) : a = b := by
  have h0 : it k (a ^^^ b) = 0 := by rw [it_xor, h, Nat.xor_self]
  exact xor_eq_zero (it_zero (Nat.xor_lt_two_pow (n := 32) ha hb) h0)
theorem raw_noughts (n s : Nat) : it (8 * (n + 1)) s = ad (it (8 * n) s) 0 := by
  unfold ad
  rw [Nat.xor_zero, ← it_add, Nat.mul_succ]

/-! ### many noughts at once -/
/-- What x's bits below the k-th come to, the k-th one being t alone, the highest first. -/
def go : Nat → Nat → Nat → Nat
  | 0, _, _ => 0
  | k + 1, t, x => (if x / 2 ^ k % 2 = 1 then t else 0) ^^^ go k (sh t) x
theorem low_split (k x : Nat) : x % 2 ^ (k + 1) = (if x / 2 ^ k % 2 = 1 then 2 ^ k else 0) ^^^ (x % 2 ^ k) := by
  have hl : x % 2 ^ k < 2 ^ k := Nat.mod_lt _ (Nat.two_pow_pos k)
  have e : x % 2 ^ (k + 1) = 2 ^ k * (x / 2 ^ k % 2) + x % 2 ^ k := by
    rw [Nat.pow_succ, Nat.mod_mul, Nat.add_comm]
  rw [e]
  have h := Nat.two_pow_add_eq_or_of_lt (i := k) (b := x % 2 ^ k) hl (x / 2 ^ k % 2)
  rw [h]
  have h2 : 2 ^ k * (x / 2 ^ k % 2) = if x / 2 ^ k % 2 = 1 then 2 ^ k else 0 := by
    rcases Nat.mod_two_eq_zero_or_one (x / 2 ^ k) with h | h <;> rw [h] <;> simp
  rw [h2]
  split
  · apply Nat.eq_of_testBit_eq
    intro i
    rw [Nat.testBit_xor, Nat.testBit_or, Nat.testBit_two_pow]
    by_cases hi : k = i
    · subst hi
      rw [Nat.testBit_lt_two_pow hl]; simp
    · simp [hi]
  · rw [Nat.zero_or, Nat.zero_xor]
theorem go_it (m : Nat) : ∀ k x : Nat, go (k + 1) (it m (2 ^ k)) x = it m (x % 2 ^ (k + 1)) := by
  intro k
  induction k with
  | zero =>
    intro x
    rw [low_split, it_xor]
    show (if x / 2 ^ 0 % 2 = 1 then it m (2 ^ 0) else 0) ^^^ 0 = _
    rw [Nat.pow_zero, Nat.mod_one, it_of_zero]
    split
    · rfl
    · rw [it_of_zero]
  | succ k ih =>
    intro x
    rw [low_split, it_xor, ← ih x]
    show (if x / 2 ^ (k + 1) % 2 = 1 then it m (2 ^ (k + 1)) else 0) ^^^ go (k + 1) (sh (it m (2 ^ (k + 1)))) x = _
    rw [← it_succ, Nat.add_comm m 1, it_add 1 m, it_one, show 2 ^ (k + 1) = 2 * 2 ^ k by rw [Nat.pow_succ, Nat.mul_comm], sh_two]
    split
    · rfl
    · rw [it_of_zero]
theorem go_top (m x : Nat) (hx : x < 4294967296) : go 32 (it m 2147483648) x = it m x := by
  have h := go_it m 31 x
  rw [Nat.mod_eq_of_lt (show x < 2 ^ (31 + 1) from hx)] at h
  exact h
def dbl : Nat → Nat → Nat
  | 0, t => t
  | k + 1, t => dbl k (go 32 t t)
theorem dbl_it (k m : Nat) : dbl k (it m 2147483648) = it (2 ^ k * m) 2147483648 := by
  induction k generalizing m with
  | zero => rw [Nat.pow_zero, Nat.one_mul]; rfl
  | succ k ih =>
    show dbl k (go 32 (it m 2147483648) (it m 2147483648)) = _
    rw [go_top m _ (it_lt (by omega)), ← it_add, ih, Nat.pow_succ, Nat.mul_assoc, Nat.two_mul]
theorem dbl_all : dbl 32 1073741824 = 1073741824 := by decide +kernel
theorem it_round_top (r : Nat) (hr : r + 1 = 2 ^ 32) : it r 2147483648 = 2147483648 := by
  have h1 : it 1 2147483648 = 1073741824 := by rw [it_one]; decide
  have h := dbl_it 32 1
  rw [h1, dbl_all, Nat.mul_one, ← hr, it_succ] at h
  rw [← h1, it_one] at h
  exact (it_inj (k := 1) (it_lt (by omega)) (by omega) h.symm)
theorem it_round (r : Nat) (hr : r + 1 = 2 ^ 32) {x : Nat} (hx : x < 4294967296) : it r x = x := by
  rw [← go_top r x hx, it_round_top r hr]
  exact go_top 0 x hx
theorem it_rounds (r : Nat) (hr : r + 1 = 2 ^ 32) (q : Nat) {x : Nat} (hx : x < 4294967296) : it (r * q) x = x := by
  induction q with
  | zero => rfl
  | succ q ih => rw [Nat.mul_succ, it_add, ih, it_round r hr hx]
theorem it_left (n : Nat) {x : Nat} (hx : x < 4294967296) : it (8 * (n % 4294967295)) x = it (8 * n) x := by
  obtain ⟨r, hr⟩ : ∃ r, r = 4294967295 := ⟨_, rfl⟩
  rw [← hr]
  have e : 8 * n = r * (8 * (n / r)) + 8 * (n % r) := by
    conv => lhs; rw [← Nat.div_add_mod n r]
    rw [Nat.mul_add, Nat.mul_left_comm]
  rw [e, it_add, it_rounds r (by rw [hr]) _ hx]
/-- The table's number i: what the bit i alone becomes. -/
theorem tab_at {m i : Nat} (hi : i < 32) : it (31 - i) (it m 2147483648) = it m (2 ^ i) := by
  rw [it_comm]
  congr 1
  have h := it_two (31 - i) (2 ^ i)
  rw [← Nat.pow_add, show 31 - i + i = 31 by omega] at h
  exact h
/-- The lowest bit that is on goes. -/
theorem low_gone {x : Nat} (h0 : x ≠ 0) (h : x < 4294967296) : x &&& (x - 1) = x ^^^ 2 ^ Lib.ctz 32 x ∧ x &&& (x - 1) < x ∧ Lib.ctz 32 x < 32 := by
  obtain ⟨m, hm, hk⟩ := Lib.ctzFrom_spec 32 x (by omega) h
  have e : Lib.ctz 32 x = Lib.ctzFrom 32 x := by simp [Lib.ctz, h0]
  rw [← e] at hm hk
  obtain ⟨k, hke⟩ : ∃ k, k = Lib.ctz 32 x := ⟨_, rfl⟩
  rw [← hke] at hm hk ⊢
  clear e hke
  have hp : 0 < 2 ^ k := Nat.two_pow_pos k
  have e1 : x - 1 = 2 ^ k * (2 * m) + (2 ^ k - 1) := by
    have : x = 2 ^ k * (2 * m) + 2 ^ k := by rw [hm, Nat.mul_succ]
    omega
  have key : x &&& (x - 1) = x ^^^ 2 ^ k := by
    apply Nat.eq_of_testBit_eq
    intro i
    rw [Nat.testBit_and, Nat.testBit_xor, Nat.testBit_two_pow, e1, Nat.testBit_two_pow_mul_add _ (by omega), hm, Nat.mul_comm, Nat.testBit_mul_two_pow]
    by_cases hik : i < k
    · rw [if_pos hik]
      simp [show ¬ k ≤ i by omega, show ¬ k = i by omega]
    · rw [if_neg hik]
      by_cases he : i = k
      · subst he; simp [Nat.testBit_zero]
      · obtain ⟨j, rfl⟩ : ∃ j, i = k + (j + 1) := ⟨i - k - 1, by omega⟩
        rw [show k + (j + 1) - k = j + 1 by omega, Nat.testBit_succ, Nat.testBit_succ, show (2 * m + 1) / 2 = m by omega, show 2 * m / 2 = m by omega]
        simp [show k ≤ k + (j + 1) by omega]
  refine ⟨key, ?_, hk⟩
  have hle : x &&& (x - 1) ≤ x - 1 := Nat.and_le_right
  omega

/-! ### bytes as one number -/
/-- Bytes as one number, the first one the lowest. -/
def val : List Nat → Nat
  | [] => 0
  | c :: r => c + 256 * val r
theorem low_xor {a b : Nat} (ha : a < 256) : a + 256 * b = a ^^^ (256 * b) := by
  have h := Nat.two_pow_add_eq_or_of_lt (i := 8) (b := a) (by omega) b
  have h2 : 2 ^ 8 * b ^^^ a = 2 ^ 8 * b ||| a := by
    apply Nat.eq_of_testBit_eq
    intro i
    rw [Nat.testBit_xor, Nat.testBit_or, Nat.testBit_two_pow_mul]
    by_cases hi : 8 ≤ i
    · have : a.testBit i = false := Nat.testBit_lt_two_pow (Nat.lt_of_lt_of_le (by omega : a < 2 ^ 8) (Nat.pow_le_pow_right (by omega) hi))
      simp [this]
    · simp [hi]
  rw [show (256 : Nat) = 2 ^ 8 from rfl, Nat.xor_comm, h2, ← h, Nat.add_comm]
theorem mul_xor (k a b : Nat) : 2 ^ k * (a ^^^ b) = (2 ^ k * a) ^^^ (2 ^ k * b) := by
  have h := Nat.shiftLeft_xor_distrib (a := a) (b := b) (i := k)
  rw [Nat.shiftLeft_eq, Nat.shiftLeft_eq, Nat.shiftLeft_eq] at h
  rw [Nat.mul_comm, h, Nat.mul_comm a, Nat.mul_comm b]
theorem raw_val (l : List Nat) (hl : Bytes l) (s : Nat) : raw s l = it (8 * l.length) (s ^^^ val l) := by
  induction l generalizing s with
  | nil => show s = s ^^^ 0; rw [Nat.xor_zero]
  | cons c r ih =>
    have hc : c < 256 := hl c (by simp)
    have h1 : raw s (c :: r) = raw (ad s c) r := rfl
    rw [h1, ih (fun d hd => hl d (by simp [hd]))]
    rw [show 8 * (c :: r).length = 8 + 8 * r.length by simp; omega, it_add]
    congr 1
    show ad s c ^^^ val r = it 8 (s ^^^ (c + 256 * val r))
    rw [low_xor hc, ← Nat.xor_assoc, it_xor 8 (s ^^^ c), show (256 : Nat) = 2 ^ 8 from rfl, it_two]
    rfl
theorem val_flip (l : List Nat) (hl : Bytes l) (q r : Nat) (hq : q < l.length) (hr : r < 8) : val (l.set q (l[q]?.getD 0 ^^^ 2 ^ r)) = val l ^^^ 2 ^ (8 * q + r) := by
  induction l generalizing q with
  | nil => simp at hq
  | cons c t ih =>
    have hc : c < 256 := hl c (by simp)
    cases q with
    | zero =>
      have h2 : 2 ^ r < 256 := Nat.pow_lt_pow_of_lt (a := 2) (n := r) (m := 8) (by omega) hr
      have h3 : c ^^^ 2 ^ r < 256 := Nat.xor_lt_two_pow (n := 8) hc h2
      show (c ^^^ 2 ^ r) + 256 * val t = (c + 256 * val t) ^^^ 2 ^ (8 * 0 + r)
      rw [low_xor h3, low_xor hc, Nat.mul_zero, Nat.zero_add, Nat.xor_assoc, Nat.xor_assoc, Nat.xor_comm (2 ^ r)]
    | succ q =>
      have h := ih (fun d hd => hl d (by simp [hd])) q (by simpa using hq)
      show c + 256 * val (t.set q (t[q]?.getD 0 ^^^ 2 ^ r)) = (c + 256 * val t) ^^^ 2 ^ (8 * (q + 1) + r)
      rw [h, low_xor hc, low_xor hc, show (256 : Nat) = 2 ^ 8 from rfl, mul_xor, Nat.xor_assoc, ← Nat.pow_add, show 8 + (8 * q + r) = 8 * (q + 1) + r by omega]
theorem val_inj : ∀ {l r : List Nat}, Bytes l → Bytes r → l.length = r.length → val l = val r → l = r
  | [], [], _, _, _, _ => rfl
  | [], _ :: _, _, _, h, _ => by simp at h
  | _ :: _, [], _, _, h, _ => by simp at h
  | a :: l, b :: r, hl, hr, h, hv => by
    have ha := hl a (by simp)
    have hb := hr b (by simp)
    change a + 256 * val l = b + 256 * val r at hv
    have e1 : a = b := by omega
    have e2 : val l = val r := by omega
    rw [e1, val_inj (fun d hd => hl d (by simp [hd])) (fun d hd => hr d (by simp [hd])) (by simpa using h) e2]
theorem pow_xor_ne {p x v : Nat} (h : v = v ^^^ 2 ^ p * x) : x = 0 := by
  have h2 : (v ^^^ v) = v ^^^ (v ^^^ 2 ^ p * x) := by rw [← h]
  rw [Nat.xor_self, ← Nat.xor_assoc, Nat.xor_self, Nat.zero_xor] at h2
  rcases Nat.mul_eq_zero.1 h2.symm with h | h
  · exact absurd h (Nat.ne_of_gt (Nat.two_pow_pos p))
  · exact h
/-- 32 bits beside one another that are turned. -/
theorem burst {Z bad : List Nat} (hZ : Bytes Z) (hb : Bytes bad) (hl : bad.length = Z.length) {p x : Nat} (hp : p ≤ 8 * Z.length) (hx : x < 4294967296) (hv : val bad = val Z ^^^ 2 ^ p * x) : (chk Z = chk bad ↔ x = 0) ∧ (Z = bad ↔ x = 0) := by
  constructor
  · unfold chk
    rw [raw_val _ hZ, raw_val _ hb, hl, hv, ← Nat.xor_assoc, it_xor _ (4294967295 ^^^ val Z)]
    obtain ⟨k, hk⟩ : ∃ k, 8 * Z.length = p + k := ⟨8 * Z.length - p, by omega⟩
    constructor
    · intro h
      have h2 := xor_left_inj h
      have h3 : it (8 * Z.length) (2 ^ p * x) = 0 := by
        have h4 := congrArg (it (8 * Z.length) (4294967295 ^^^ val Z) ^^^ ·) h2
        simp only [Nat.xor_self, ← Nat.xor_assoc, Nat.zero_xor] at h4
        exact h4.symm
      rw [hk, it_add, it_two] at h3
      exact it_zero hx h3
    · rintro rfl
      rw [Nat.mul_zero, it_of_zero, Nat.xor_zero]
  · constructor
    · rintro rfl
      exact pow_xor_ne hv
    · rintro rfl
      rw [Nat.mul_zero, Nat.xor_zero] at hv
      exact (val_inj hb hZ hl hv).symm

/-! ### three rows, and rows behind others -/
theorem ad_xor (a b c d : Nat) : ad (a ^^^ b) (c ^^^ d) = ad a c ^^^ ad b d := by
  unfold ad
  rw [← it_xor]
  congr 1
  rw [Nat.xor_assoc, Nat.xor_assoc, ← Nat.xor_assoc b, Nat.xor_comm b c, Nat.xor_assoc c]
def xor3 (a b c : List Nat) : List Nat := List.zipWith (· ^^^ ·) (List.zipWith (· ^^^ ·) a b) c
theorem raw_xor3 (a b c : List Nat) (hb : b.length = a.length) (hc : c.length = a.length) :
    ∀ s t u : Nat, raw (s ^^^ t ^^^ u) (xor3 a b c) = raw s a ^^^ raw t b ^^^ raw u c := by
  induction a generalizing b c with
  | nil =>
    intro s t u
    cases b with
    | nil => cases c with
      | nil => rfl
      | cons _ _ => simp at hc
    | cons _ _ => simp at hb
  | cons x r ih =>
    intro s t u
    cases b with
    | nil => simp at hb
    | cons y r2 => cases c with
      | nil => simp at hc
      | cons z r3 =>
        have h := ih r2 r3 (by simpa using hb) (by simpa using hc) (ad s x) (ad t y) (ad u z)
        rw [← ad_xor, ← ad_xor] at h
        exact h
theorem xor_cancel4 (A B C o : Nat) : A ^^^ B ^^^ C ^^^ o = (A ^^^ o) ^^^ (B ^^^ o) ^^^ (C ^^^ o) := by
  apply Nat.eq_of_testBit_eq
  intro i
  simp only [Nat.testBit_xor]
  cases A.testBit i <;> cases B.testBit i <;> cases C.testBit i <;> cases o.testBit i <;> rfl
theorem chk_xor3 {a b c : List Nat} (hb : b.length = a.length) (hc : c.length = a.length) : chk (xor3 a b c) = chk a ^^^ chk b ^^^ chk c := by
  unfold chk
  rw [← xor_cancel4, ← raw_xor3 a b c hb hc, show (4294967295 : Nat) ^^^ 4294967295 ^^^ 4294967295 = 4294967295 by decide]
theorem raw_join (s : Nat) {a b : List Nat} (ha : Bytes a) (hb : Bytes b) : raw s (a ++ b) = it (8 * b.length) (raw s a) ^^^ raw 0 b := by
  rw [raw_append, raw_val b hb, raw_val b hb 0, Nat.zero_xor, it_xor]
/-- The four bytes of a number, the lowest first. -/
def four (x : Nat) : List Nat := [x % 256, x / 256 % 256, x / 65536 % 256, x / 16777216 % 256]
theorem four_bytes (x : Nat) : Bytes (four x) := by
  intro c hc
  simp only [four, List.mem_cons, List.not_mem_nil, or_false] at hc
  omega
theorem val_four {x : Nat} (h : x < 4294967296) : val (four x) = x := by
  simp only [four, val]; omega
theorem chk_own {a : List Nat} (ha : Bytes a) : chk (a ++ four (chk a)) = chk [0, 0, 0, 0] := by
  have h0 : Bytes [0, 0, 0, 0] := by intro c hc; simp at hc; omega
  have hv := val_four (chk_lt ha)
  unfold chk at hv ⊢
  rw [raw_append, raw_val _ (four_bytes _), raw_val _ h0, hv]
  have e : raw 4294967295 a ^^^ (raw 4294967295 a ^^^ 4294967295) = 4294967295 := by rw [← Nat.xor_assoc, Nat.xor_self, Nat.zero_xor]
  rw [e]
  rfl
end Go.Proofs.YtegcnnbhgdafmaaDoor.Sm
