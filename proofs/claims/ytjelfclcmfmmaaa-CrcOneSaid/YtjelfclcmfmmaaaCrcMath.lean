/- The plain mathematics of layer 1: the check sum's step on natural numbers, without any program. -/
namespace Go.Proofs.Ytjelfclcmfmmaaa.Crc

/-- One bit. -/
def sh (s : Nat) : Nat := if s % 2 = 1 then (s / 2) ^^^ 40961 else s / 2
def sh4 (s : Nat) : Nat := sh (sh (sh (sh s)))
/-- One byte more. -/
def nx (s c : Nat) : Nat := sh4 (sh4 (s ^^^ c))

theorem sh_lt {s : Nat} (h : s < 65536) : sh s < 65536 := by
  unfold sh
  split
  · exact Nat.xor_lt_two_pow (n := 16) (by omega) (by omega)
  · omega
theorem sh4_lt {s : Nat} (h : s < 65536) : sh4 s < 65536 := sh_lt (sh_lt (sh_lt (sh_lt h)))
theorem nx_lt {s c : Nat} (h : s < 65536) (hc : c < 256) : nx s c < 65536 :=
  sh4_lt (sh4_lt (Nat.xor_lt_two_pow (n := 16) (by omega) (by omega)))

theorem half_xor (a b : Nat) : (a ^^^ b) / 2 = (a / 2) ^^^ (b / 2) := by
  have := Nat.shiftRight_xor_distrib (a := a) (b := b) (i := 1)
  simpa [Nat.shiftRight_eq_div_pow] using this

theorem sh_xor (a b : Nat) : sh (a ^^^ b) = sh a ^^^ sh b := by
  unfold sh
  have hm : (a ^^^ b) % 2 = (a % 2 + b % 2) % 2 := by
    have h := Nat.testBit_xor a b 0
    simp only [Nat.testBit_zero] at h
    rcases Nat.mod_two_eq_zero_or_one a with ha | ha <;> rcases Nat.mod_two_eq_zero_or_one b with hb | hb <;> rw [ha, hb] at h ⊢ <;> rcases Nat.mod_two_eq_zero_or_one (a ^^^ b) with hx | hx <;> rw [hx] at h ⊢ <;> first | rfl | exact absurd h (by decide)
  rw [half_xor]
  rcases Nat.mod_two_eq_zero_or_one a with ha | ha <;> rcases Nat.mod_two_eq_zero_or_one b with hb | hb <;> simp only [ha, hb] at hm <;> simp [hm, ha, hb]
  · rw [Nat.xor_assoc]
  · rw [Nat.xor_assoc, Nat.xor_assoc, Nat.xor_comm 40961]
  · rw [Nat.xor_assoc, ← Nat.xor_assoc 40961, Nat.xor_comm 40961 (b / 2), Nat.xor_assoc (b / 2), Nat.xor_self, Nat.xor_zero]

theorem sh4_xor (a b : Nat) : sh4 (a ^^^ b) = sh4 a ^^^ sh4 b := by simp only [sh4, sh_xor]

theorem sh_two (k : Nat) : sh (2 * k) = k := by
  unfold sh
  have h : ¬ (2 * k) % 2 = 1 := by omega
  rw [if_neg h]; omega
theorem sh4_sixteen (k : Nat) : sh4 (16 * k) = k := by
  unfold sh4
  rw [show 16 * k = 2 * (2 * (2 * (2 * k))) from by omega, sh_two, sh_two, sh_two, sh_two]

theorem split16 (s : Nat) : (16 * (s / 16)) ^^^ (s % 16) = s := by
  have h := Nat.two_pow_add_eq_or_of_lt (i := 4) (b := s % 16) (by omega) (s / 16)
  have h2 : 2 ^ 4 * (s / 16) ^^^ (s % 16) = 2 ^ 4 * (s / 16) ||| (s % 16) := by
    apply Nat.eq_of_testBit_eq
    intro i
    rw [Nat.testBit_xor, Nat.testBit_or, Nat.testBit_two_pow_mul]
    by_cases hi : 4 ≤ i
    · have : (s % 16).testBit i = false := Nat.testBit_lt_two_pow (Nat.lt_of_lt_of_le (by omega : s % 16 < 2 ^ 4) (Nat.pow_le_pow_right (by omega) hi))
      simp [this]
    · simp [hi]
  have e : (2 : Nat) ^ 4 = 16 := rfl
  rw [e] at h h2
  rw [h2, ← h]
  omega

theorem sh4_split (s : Nat) : sh4 s = (s / 16) ^^^ sh4 (s % 16) := by
  have h := sh4_xor (16 * (s / 16)) (s % 16)
  rw [split16, sh4_sixteen] at h
  exact h

theorem xor_eq_zero {a b : Nat} (h : a ^^^ b = 0) : a = b := by
  have : (a ^^^ b) ^^^ b = b := by rw [h]; exact Nat.zero_xor b
  rwa [Nat.xor_assoc, Nat.xor_self, Nat.xor_zero] at this

theorem sh_zero_of {x : Nat} (hx : x < 65536) (h : sh x = 0) : x = 0 := by
  unfold sh at h
  split at h
  · have := xor_eq_zero h; omega
  · omega
theorem sh4_zero_of {x : Nat} (hx : x < 65536) (h : sh4 x = 0) : x = 0 :=
  sh_zero_of hx (sh_zero_of (sh_lt hx) (sh_zero_of (sh_lt (sh_lt hx)) (sh_zero_of (sh_lt (sh_lt (sh_lt hx))) h)))
theorem sh4_inj {a b : Nat} (ha : a < 65536) (hb : b < 65536) (h : sh4 a = sh4 b) : a = b := by
  have h0 : sh4 (a ^^^ b) = 0 := by rw [sh4_xor, h, Nat.xor_self]
  exact xor_eq_zero (sh4_zero_of (Nat.xor_lt_two_pow (n := 16) ha hb) h0)

theorem xor_left_inj {a b c : Nat} (h : a ^^^ c = b ^^^ c) : a = b := by
  have : (a ^^^ c) ^^^ c = (b ^^^ c) ^^^ c := by rw [h]
  rwa [Nat.xor_assoc, Nat.xor_assoc, Nat.xor_self, Nat.xor_zero, Nat.xor_zero] at this
theorem xor_right_inj {a b c : Nat} (h : c ^^^ a = c ^^^ b) : a = b := by
  rw [Nat.xor_comm c, Nat.xor_comm c] at h; exact xor_left_inj h

theorem nx_inj_sum {s t c : Nat} (hs : s < 65536) (ht : t < 65536) (hc : c < 256) : nx s c = nx t c ↔ s = t := by
  constructor
  · intro h
    have x1 : s ^^^ c < 65536 := Nat.xor_lt_two_pow (n := 16) (by omega) (by omega)
    have x2 : t ^^^ c < 65536 := Nat.xor_lt_two_pow (n := 16) (by omega) (by omega)
    exact xor_left_inj (sh4_inj x1 x2 (sh4_inj (sh4_lt x1) (sh4_lt x2) h))
  · rintro rfl; rfl
theorem nx_inj_byte {s c d : Nat} (hs : s < 65536) (hc : c < 256) (hd : d < 256) : nx s c = nx s d ↔ c = d := by
  constructor
  · intro h
    have x1 : s ^^^ c < 65536 := Nat.xor_lt_two_pow (n := 16) (by omega) (by omega)
    have x2 : s ^^^ d < 65536 := Nat.xor_lt_two_pow (n := 16) (by omega) (by omega)
    exact xor_right_inj (sh4_inj x1 x2 (sh4_inj (sh4_lt x1) (sh4_lt x2) h))
  · rintro rfl; rfl

/-- Two nibbles by the table. -/
theorem nx_nibbles (s c : Nat) : nx s c = ((s ^^^ c) / 16 ^^^ sh4 ((s ^^^ c) % 16)) / 16 ^^^ sh4 (((s ^^^ c) / 16 ^^^ sh4 ((s ^^^ c) % 16)) % 16) := by
  unfold nx
  rw [← sh4_split, ← sh4_split]

theorem nx_xor (a b c d : Nat) : nx (a ^^^ b) (c ^^^ d) = nx a c ^^^ nx b d := by
  unfold nx
  rw [← sh4_xor, ← sh4_xor]
  congr 2
  rw [Nat.xor_assoc, Nat.xor_assoc, ← Nat.xor_assoc b, Nat.xor_comm b c, Nat.xor_assoc c]

/-- The sum of bytes, begun anywhere. -/
def sumFrom (s : Nat) (l : List Nat) : Nat := l.foldl nx s
def sum (l : List Nat) : Nat := sumFrom 65535 l
theorem sumFrom_lt {s : Nat} (l : List Nat) (hs : s < 65536) (hl : ∀ c ∈ l, c < 256) : sumFrom s l < 65536 := by
  induction l generalizing s with
  | nil => exact hs
  | cons c r ih => exact ih (nx_lt hs (hl c (by simp))) (fun d hd => hl d (by simp [hd]))
theorem sum_lt (l : List Nat) (hl : ∀ c ∈ l, c < 256) : sum l < 65536 := sumFrom_lt l (by omega) hl
theorem sumFrom_append (s : Nat) (l r : List Nat) : sumFrom s (l ++ r) = sumFrom (sumFrom s l) r := by
  simp [sumFrom]

/-- Behind its own sum the sum is 0. -/
theorem nx_own (s : Nat) : nx (nx s (s % 256)) (s / 256) = 0 := by
  have e : s ^^^ (s % 256) = 256 * (s / 256) := by
    have h := Nat.two_pow_add_eq_or_of_lt (i := 8) (b := s % 256) (by omega) (s / 256)
    have h2 : 2 ^ 8 * (s / 256) ^^^ (s % 256) = 2 ^ 8 * (s / 256) ||| (s % 256) := by
      apply Nat.eq_of_testBit_eq
      intro i
      rw [Nat.testBit_xor, Nat.testBit_or, Nat.testBit_two_pow_mul]
      by_cases hi : 8 ≤ i
      · have : (s % 256).testBit i = false := Nat.testBit_lt_two_pow (Nat.lt_of_lt_of_le (by omega : s % 256 < 2 ^ 8) (Nat.pow_le_pow_right (by omega) hi))
        simp [this]
      · simp [hi]
    have e : (2 : Nat) ^ 8 = 256 := rfl
    rw [e] at h h2
    have h3 : 256 * (s / 256) ^^^ (s % 256) = s := by rw [h2, ← h]; omega
    have h4 : (256 * (s / 256) ^^^ (s % 256)) ^^^ (s % 256) = s ^^^ (s % 256) := by rw [h3]
    rw [← h4, Nat.xor_assoc, Nat.xor_self, Nat.xor_zero]
  have e1 : nx s (s % 256) = s / 256 := by
    unfold nx
    rw [e, show 256 * (s / 256) = 16 * (16 * (s / 256)) from by omega, sh4_sixteen, sh4_sixteen]
  rw [e1]
  unfold nx
  rw [Nat.xor_self]
  rfl

/-- Three rows changed together. -/
theorem sum_xor3 (a b c : List Nat) (hb : b.length = a.length) (hc : c.length = a.length) :
    ∀ s t u : Nat, sumFrom (s ^^^ t ^^^ u) (List.zipWith (· ^^^ ·) (List.zipWith (· ^^^ ·) a b) c) = sumFrom s a ^^^ sumFrom t b ^^^ sumFrom u c := by
  induction a generalizing b c with
  | nil =>
    intro s t u
    cases b with
    | nil => cases c with
      | nil => rfl
      | cons _ _ => simp at hc
    | cons _ _ => simp at hb
  | cons x r ih =>
    intro s t u
    cases b with
    | nil => simp at hb
    | cons y r2 => cases c with
      | nil => simp at hc
      | cons z r3 =>
        have h := ih r2 r3 (by simpa using hb) (by simpa using hc) (nx s x) (nx t y) (nx u z)
        rw [← nx_xor, ← nx_xor] at h
        exact h
end Go.Proofs.Ytjelfclcmfmmaaa.Crc
