/- Merged: CrcMath CrcA CrcB CrcC CrcD CrcE CrcF CrcG. -/
import Derived.Test.YtgjcefgdkhfghaaChecked
import Derived.WalkKit
import Derived.Below
import Derived.Lib.Hide
import Derived.Laws.BitsAllLaws
import Derived.Deep.WholeRow
import Derived.Test.YtgjcefgdkhfghaaBase
import Derived.Deep.RegionHeld3
import Derived.Deep.QuietTactic
import Derived.BigQuiet
/- The plain mathematics of layer 1: the check sum's step on natural numbers, without any program. -/
namespace Go.Proofs.Ytgjcefgdkhfghaa.Crc

/-- One bit. -/
def sh (s : Nat) : Nat := if s % 2 = 1 then (s / 2) ^^^ 40961 else s / 2
def sh4 (s : Nat) : Nat := sh (sh (sh (sh s)))
/-- One byte more. -/
def nx (s c : Nat) : Nat := sh4 (sh4 (s ^^^ c))

theorem sh_lt {s : Nat} (h : s < 65536) : sh s < 65536 := by
  unfold sh
  split
  · exact Nat.xor_lt_two_pow (n := 16) (by omega) (by omega)
  · omega
theorem sh4_lt {s : Nat} (h : s < 65536) : sh4 s < 65536 := sh_lt (sh_lt (sh_lt (sh_lt h)))
theorem nx_lt {s c : Nat} (h : s < 65536) (hc : c < 256) : nx s c < 65536 :=
  sh4_lt (sh4_lt (Nat.xor_lt_two_pow (n := 16) (by omega) (by omega)))

theorem half_xor (a b : Nat) : (a ^^^ b) / 2 = (a / 2) ^^^ (b / 2) := by
  have := Nat.shiftRight_xor_distrib (a := a) (b := b) (i := 1)
  simpa [Nat.shiftRight_eq_div_pow] using this

theorem sh_xor (a b : Nat) : sh (a ^^^ b) = sh a ^^^ sh b := by
  unfold sh
  have hm : (a ^^^ b) % 2 = (a % 2 + b % 2) % 2 := by
    have h := Nat.testBit_xor a b 0
    simp only [Nat.testBit_zero] at h
    rcases Nat.mod_two_eq_zero_or_one a with ha | ha <;> rcases Nat.mod_two_eq_zero_or_one b with hb | hb <;> rw [ha, hb] at h ⊢ <;> rcases Nat.mod_two_eq_zero_or_one (a ^^^ b) with hx | hx <;> rw [hx] at h ⊢ <;> first | rfl | exact absurd h (by decide)
  rw [half_xor]
  rcases Nat.mod_two_eq_zero_or_one a with ha | ha <;> rcases Nat.mod_two_eq_zero_or_one b with hb | hb <;> simp only [ha, hb] at hm <;> simp [hm, ha, hb]
  · rw [Nat.xor_assoc]
  · rw [Nat.xor_assoc, Nat.xor_assoc, Nat.xor_comm 40961]
  · rw [Nat.xor_assoc, ← Nat.xor_assoc 40961, Nat.xor_comm 40961 (b / 2), Nat.xor_assoc (b / 2), Nat.xor_self, Nat.xor_zero]

theorem sh4_xor (a b : Nat) : sh4 (a ^^^ b) = sh4 a ^^^ sh4 b := by simp only [sh4, sh_xor]

theorem sh_two (k : Nat) : sh (2 * k) = k := by
  unfold sh
  have h : ¬ (2 * k) % 2 = 1 := by omega
  rw [if_neg h]; omega
theorem sh4_sixteen (k : Nat) : sh4 (16 * k) = k := by
  unfold sh4
  rw [show 16 * k = 2 * (2 * (2 * (2 * k))) from by omega, sh_two, sh_two, sh_two, sh_two]

theorem split16 (s : Nat) : (16 * (s / 16)) ^^^ (s % 16) = s := by
  have h := Nat.two_pow_add_eq_or_of_lt (i := 4) (b := s % 16) (by omega) (s / 16)
  have h2 : 2 ^ 4 * (s / 16) ^^^ (s % 16) = 2 ^ 4 * (s / 16) ||| (s % 16) := by
    apply Nat.eq_of_testBit_eq
    intro i
    rw [Nat.testBit_xor, Nat.testBit_or, Nat.testBit_two_pow_mul]
    by_cases hi : 4 ≤ i
    · have : (s % 16).testBit i = false := Nat.testBit_lt_two_pow (Nat.lt_of_lt_of_le (by omega : s % 16 < 2 ^ 4) (Nat.pow_le_pow_right (by omega) hi))
      simp [this]
    · simp [hi]
  have e : (2 : Nat) ^ 4 = 16 := rfl
  rw [e] at h h2
  rw [h2, ← h]
  omega

theorem sh4_split (s : Nat) : sh4 s = (s / 16) ^^^ sh4 (s % 16) := by
  have h := sh4_xor (16 * (s / 16)) (s % 16)
  rw [split16, sh4_sixteen] at h
  exact h

theorem xor_eq_zero {a b : Nat} (h : a ^^^ b = 0) : a = b := by
  have : (a ^^^ b) ^^^ b = b := by rw [h]; exact Nat.zero_xor b
  rwa [Nat.xor_assoc, Nat.xor_self, Nat.xor_zero] at this

theorem sh_zero_of {x : Nat} (hx : x < 65536) (h : sh x = 0) : x = 0 := by
  unfold sh at h
  split at h
  · have := xor_eq_zero h; omega
  · omega
theorem sh4_zero_of {x : Nat} (hx : x < 65536) (h : sh4 x = 0) : x = 0 :=
  sh_zero_of hx (sh_zero_of (sh_lt hx) (sh_zero_of (sh_lt (sh_lt hx)) (sh_zero_of (sh_lt (sh_lt (sh_lt hx))) h)))
theorem sh4_inj {a b : Nat} (ha : a < 65536) (hb : b < 65536) (h : sh4 a = sh4 b) : a = b := by
  have h0 : sh4 (a ^^^ b) = 0 := by rw [sh4_xor, h, Nat.xor_self]
  exact xor_eq_zero (sh4_zero_of (Nat.xor_lt_two_pow (n := 16) ha hb) h0)

theorem xor_left_inj {a b c : Nat} (h : a ^^^ c = b ^^^ c) : a = b := by
  have : (a ^^^ c) ^^^ c = (b ^^^ c) ^^^ c := by rw [h]
  rwa [Nat.xor_assoc, Nat.xor_assoc, Nat.xor_self, Nat.xor_zero, Nat.xor_zero] at this
theorem xor_right_inj {a b c : Nat} (h : c ^^^ a = c ^^^ b) : a = b := by
  rw [Nat.xor_comm c, Nat.xor_comm c] at h; exact xor_left_inj h

theorem nx_inj_sum {s t c : Nat} (hs : s < 65536) (ht : t < 65536) (hc : c < 256) : nx s c = nx t c ↔ s = t := by
  constructor
  · intro h
    have x1 : s ^^^ c < 65536 := Nat.xor_lt_two_pow (n := 16) (by omega) (by omega)
    have x2 : t ^^^ c < 65536 := Nat.xor_lt_two_pow (n := 16) (by omega) (by omega)
    exact xor_left_inj (sh4_inj x1 x2 (sh4_inj (sh4_lt x1) (sh4_lt x2) h))
  · rintro rfl; rfl
theorem nx_inj_byte {s c d : Nat} (hs : s < 65536) (hc : c < 256) (hd : d < 256) : nx s c = nx s d ↔ c = d := by
  constructor
  · intro h
    have x1 : s ^^^ c < 65536 := Nat.xor_lt_two_pow (n := 16) (by omega) (by omega)
    have x2 : s ^^^ d < 65536 := Nat.xor_lt_two_pow (n := 16) (by omega) (by omega)
    exact xor_right_inj (sh4_inj x1 x2 (sh4_inj (sh4_lt x1) (sh4_lt x2) h))
  · rintro rfl; rfl

/-- Two nibbles by the table. -/
theorem nx_nibbles (s c : Nat) : nx s c = ((s ^^^ c) / 16 ^^^ sh4 ((s ^^^ c) % 16)) / 16 ^^^ sh4 (((s ^^^ c) / 16 ^^^ sh4 ((s ^^^ c) % 16)) % 16) := by
  unfold nx
  rw [← sh4_split, ← sh4_split]

theorem nx_xor (a b c d : Nat) : nx (a ^^^ b) (c ^^^ d) = nx a c ^^^ nx b d := by
  unfold nx
  rw [← sh4_xor, ← sh4_xor]
  congr 2
  rw [Nat.xor_assoc, Nat.xor_assoc, ← Nat.xor_assoc b, Nat.xor_comm b c, Nat.xor_assoc c]

/-- The sum of bytes, begun anywhere. -/
def sumFrom (s : Nat) (l : List Nat) : Nat := l.foldl nx s
def sum (l : List Nat) : Nat := sumFrom 65535 l
theorem sumFrom_lt {s : Nat} (l : List Nat) (hs : s < 65536) (hl : ∀ c ∈ l, c < 256) : sumFrom s l < 65536 := by
  induction l generalizing s with
  | nil => exact hs
  | cons c r ih => exact ih (nx_lt hs (hl c (by simp))) (fun d hd => hl d (by simp [hd]))
theorem sum_lt (l : List Nat) (hl : ∀ c ∈ l, c < 256) : sum l < 65536 := sumFrom_lt l (by omega) hl
theorem sumFrom_append (s : Nat) (l r : List Nat) : sumFrom s (l ++ r) = sumFrom (sumFrom s l) r := by
  simp [sumFrom]

/-- Behind its own sum the sum is 0. -/
theorem nx_own (s : Nat) : nx (nx s (s % 256)) (s / 256) = 0 := by
  have e : s ^^^ (s % 256) = 256 * (s / 256) := by
    have h := Nat.two_pow_add_eq_or_of_lt (i := 8) (b := s % 256) (by omega) (s / 256)
    have h2 : 2 ^ 8 * (s / 256) ^^^ (s % 256) = 2 ^ 8 * (s / 256) ||| (s % 256) := by
      apply Nat.eq_of_testBit_eq
      intro i
      rw [Nat.testBit_xor, Nat.testBit_or, Nat.testBit_two_pow_mul]
      by_cases hi : 8 ≤ i
      · have : (s % 256).testBit i = false := Nat.testBit_lt_two_pow (Nat.lt_of_lt_of_le (by omega : s % 256 < 2 ^ 8) (Nat.pow_le_pow_right (by omega) hi))
        simp [this]
      · simp [hi]
    have e : (2 : Nat) ^ 8 = 256 := rfl
    rw [e] at h h2
    have h3 : 256 * (s / 256) ^^^ (s % 256) = s := by rw [h2, ← h]; omega
    have h4 : (256 * (s / 256) ^^^ (s % 256)) ^^^ (s % 256) = s ^^^ (s % 256) := by rw [h3]
    rw [← h4, Nat.xor_assoc, Nat.xor_self, Nat.xor_zero]
  have e1 : nx s (s % 256) = s / 256 := by
    unfold nx
    rw [e, show 256 * (s / 256) = 16 * (16 * (s / 256)) from by omega, sh4_sixteen, sh4_sixteen]
  rw [e1]
  unfold nx
  rw [Nat.xor_self]
  rfl

/-- Three rows changed together. -/
theorem sum_xor3 (a b c : List Nat) (hb : b.length = a.length) (hc : c.length = a.length) :
    ∀ s t u : Nat, sumFrom (s ^^^ t ^^^ u) (List.zipWith (· ^^^ ·) (List.zipWith (· ^^^ ·) a b) c) = sumFrom s a ^^^ sumFrom t b ^^^ sumFrom u c := by
  induction a generalizing b c with
  | nil =>
    intro s t u
    cases b with
    | nil => cases c with
      | nil => rfl
      | cons _ _ => simp at hc
    | cons _ _ => simp at hb
  | cons x r ih =>
    intro s t u
    cases b with
    | nil => simp at hb
    | cons y r2 => cases c with
      | nil => simp at hc
      | cons z r3 =>
        have h := ih r2 r3 (by simpa using hb) (by simpa using hc) (nx s x) (nx t y) (nx u z)
        rw [← nx_xor, ← nx_xor] at h
        exact h
end Go.Proofs.Ytgjcefgdkhfghaa.Crc
/- The walks of layer 1's leaves: crc.shift, crc.nibbles, crc.step, saucierref01.Next. -/
namespace Go.Proofs.Ytgjcefgdkhfghaa.CrcW
open Go.RowKit Go.Proofs.Ytgjcefgdkhfghaa
theorem ret_u16 {a b : Int} (h : a = b) : Ending.returned (.int .u16 a) = .returned (.int .u16 b) := by rw [h]
theorem and1 (s : Nat) (h : s < 65536) : bits .and .u16 (s : Int) 1 = ((s % 2 : Nat) : Int) := by
  have := u16_and (s : Int) 1 (by omega) (by omega) (by omega) (by omega)
  rw [this]
  simp [Nat.and_one_is_mod]
theorem xor_sh (s : Nat) (h : s < 65536) (hs : s % 2 = 1) : bits .xor .u16 ((s : Int) / 2) 40961 = ((Crc.sh s : Nat) : Int) := by
  have h2 := u16_xor_nat (s / 2) 40961 (by omega) (by omega)
  unfold Crc.sh; rw [if_pos hs]
  exact h2
theorem half_sh (s : Nat) (hs : ¬ s % 2 = 1) : (s : Int) / 2 = ((Crc.sh s : Nat) : Int) := by
  unfold Crc.sh; rw [if_neg hs]; omega

theorem shift_any (s : Nat) (h : s < 65536) (w : World) :
    Calls Try.prog 81 #[.int .u16 s] w fun e w' => e = .returned (.int .u16 (Crc.sh s : Nat)) ∧ w = w' := by
  have h1 := and1 s h
  by_cases hs : s % 2 = 1
  · have H := Lib.hid (xor_sh s h hs)
    rw [hs] at h1
    clear hs
    go_enter Try.func81, Try.ntmps81
    go_wp2
    go_ret
    exact ⟨ret_u16 H.out, rfl⟩
  · have H := Lib.hid (half_sh s hs)
    rw [show s % 2 = 0 from by omega] at h1
    clear hs
    go_enter Try.func81, Try.ntmps81
    go_wp2
    go_ret
    exact ⟨ret_u16 H.out, rfl⟩

/-! ### saucierref01.Next -/
def shN : Nat → Nat → Nat
  | 0, s => s
  | k + 1, s => Crc.sh (shN k s)
theorem shN_lt (k s : Nat) (h : s < 65536) : shN k s < 65536 := by
  induction k with
  | zero => exact h
  | succ k ih => exact Crc.sh_lt ih
theorem shN8 (s c : Nat) : shN 8 (s ^^^ c) = Crc.nx s c := rfl

theorem refNext_any (s c : Nat) (h : s < 65536) (hc : c < 256) (w : World) :
    Calls Try.prog 72 #[.int .u16 s, .int .u8 c] w fun e w' => e = .returned (.int .u16 (Crc.nx s c : Nat)) ∧ w = w' := by
  have hx := u16_xor_nat s c h (by omega)
  have hlt : s ^^^ c < 65536 := Nat.xor_lt_two_pow (n := 16) (by omega) (by omega)
  obtain ⟨y, hy⟩ : ∃ y, y = s ^^^ c := ⟨_, rfl⟩
  rw [← hy] at hx hlt
  have HY := Lib.hid hy; clear hy
  go_enter Try.func72, Try.ntmps72
  go_wp2
  clear hx
  go_loop [0, 5] (fun t i => ∃ k : Nat, k ≤ 8 ∧ i = .int .i64 k ∧ t = .int .u16 (shN k y : Nat)) (fun _ i => 8 - (intOf i).toNat)
  case atStart => exact ⟨0, by omega, rfl, rfl⟩
  case round =>
    obtain ⟨k, hk, rfl, rfl⟩ := hrel
    have hb := shN_lt k y hlt
    obtain ⟨z, hz⟩ : ∃ z, z = shN k y := ⟨_, rfl⟩
    have hn : shN (k + 1) y = Crc.sh z := by rw [hz]; rfl
    have HZ := Lib.hid hz
    have HN := Lib.hid hn
    rw [← hz] at hb ⊢
    clear hz hn
    by_cases hlt8 : k < 8
    · by_cases hs : z % 2 = 1
      · have H := Lib.hid (xor_sh z hb hs)
        have h1 : ((z : Int) % 2) = 1 := by omega
        clear hs
        go_wp2
        go_round
        case rel => exact ⟨k + 1, by omega, by go_num, by rw [HN.out, H.out]⟩
        case measure => simp [intOf]; omega
      · have H := Lib.hid (half_sh z hs)
        have h1 : ((z : Int) % 2) = 0 := by omega
        clear hs
        go_wp2
        go_round
        case rel => exact ⟨k + 1, by omega, by go_num, by rw [HN.out, H.out]⟩
        case measure => simp [intOf]; omega
    · obtain rfl : k = 8 := by omega
      go_wp2
      go_ret
      exact ⟨ret_u16 (by rw [HZ.out, HY.out, shN8]), rfl⟩
end Go.Proofs.Ytgjcefgdkhfghaa.CrcW
/- The walks of crc.nibbles and crc.step. -/
namespace Go.Proofs.Ytgjcefgdkhfghaa.CrcW
open Go.RowKit Go.Proofs.Ytgjcefgdkhfghaa
/-- The table behind k rounds. -/
def arr (k : Nat) : Array Value := ((List.range 16).map fun i => Value.int .u16 (if i < k then (Crc.sh4 i : Nat) else (0 : Nat) : Nat)).toArray
theorem arr_set (k : Nat) (h : k < 16) : (arr k).setIfInBounds k (.int .u16 (Crc.sh4 k : Nat)) = arr (k + 1) := by
  rcases show k = 0 ∨ k = 1 ∨ k = 2 ∨ k = 3 ∨ k = 4 ∨ k = 5 ∨ k = 6 ∨ k = 7 ∨ k = 8 ∨ k = 9 ∨ k = 10 ∨ k = 11 ∨ k = 12 ∨ k = 13 ∨ k = 14 ∨ k = 15 from by omega with
    rfl | rfl | rfl | rfl | rfl | rfl | rfl | rfl | rfl | rfl | rfl | rfl | rfl | rfl | rfl | rfl <;> rfl
theorem arr_get (k i : Nat) (h : i < 16) : ∃ v : Int, (arr k)[i]? = some (.int .u16 v) := by
  unfold arr
  rw [List.getElem?_toArray, List.getElem?_map, List.getElem?_range h]
  exact ⟨_, rfl⟩
theorem arr_last (i : Nat) (h : i < 16) : (arr 16)[i]? = some (.int .u16 (Crc.sh4 i : Nat)) := by
  unfold arr
  rw [List.getElem?_toArray, List.getElem?_map, List.getElem?_range h]
  simp [h]
theorem shN4 (k : Nat) : shN 4 k = Crc.sh4 k := rfl
def tabV : Value := .agg (arr 16)
theorem arr_size (k : Nat) : (arr k).size = 16 := by simp [arr]
theorem arr_one (k : Nat) : (arr k).all (·.oneCell') = true := by
  rw [Array.all_eq_true_iff_forall_mem]
  intro v hv
  simp [arr] at hv
  obtain ⟨i, _, rfl⟩ := hv
  rfl
theorem info_arr : (Try.prog.info? 107).map (·.size) = some 16 := by kernel_rfl
theorem below_setRow {B : Nat} {a w : World} (h : Below B a w) {g : Nat} (hg : B ≤ g) (cs : Array Value) : Below B a (w.setRow g cs) :=
  h.trans ⟨rfl, rfl, rfl, by simp, fun k hk => by
    simp only [World.setRow, Array.getElem?_modify]
    rw [if_neg (by omega)]⟩

theorem nibbles_any (w : World) :
    Calls Try.prog 70 #[] w fun e w' => e = .returned tabV ∧ Below w.heap.size w w' := by
  go_enter Try.func70, Try.ntmps70
  go_wp2_with fail
  go_loopw [4] (fun i wr => ∃ k : Nat, k ≤ 16 ∧ i = .int .i64 k ∧ wr = (w.alloc (.cells (arr 0) 107)).alloc (.cells (arr k) 107)) (fun i _ => 16 - (intOf i).toNat)
  case atStart => exact ⟨0, by omega, rfl, rfl⟩
  case round =>
    obtain ⟨k, hk, rfl, rfl⟩ := hrel
    by_cases hlt : k < 16
    · have hd : decide ((k : Int) < 16) = true := by simp; omega
      obtain ⟨v, hv⟩ := arr_get k k hlt
      have hset := arr_set k hlt
      rw [← shN4] at hset
      have HS := Lib.hid hset
      clear hset
      go_wp2_with fail
      go_loop [3, 9] (fun t i => ∃ m : Nat, m ≤ 4 ∧ i = .int .i64 m ∧ t = .int .u16 (shN m k : Nat)) (fun _ i => 4 - (intOf i).toNat)
      case atStart => exact ⟨0, by omega, rfl, rfl⟩
      case round =>
        obtain ⟨m, hm, rfl, rfl⟩ := hrel
        by_cases hm4 : m < 4
        · go_wp2_with (go_at_call 81; refine (shift_any _ (shN_lt m k (by omega)) _).mono ?_; rintro e w' ⟨rfl, rfl⟩)
          go_round
          case rel => exact ⟨m + 1, by omega, by go_num, rfl⟩
          case measure => simp [intOf]; omega
        · obtain rfl : m = 4 := by omega
          clear hm4
          go_wp2_with fail
          rw [HS.out]
          go_roundw
          case rel => exact ⟨k + 1, by omega, by go_num, rfl⟩
          case measure => simp [intOf]; omega
    · obtain rfl : k = 16 := by omega
      clear hk
      go_wp2_with (first | (refine wpList_load_row rfl 107 _ rfl (w.heap.size + 1) rfl 107 (arr 16) (0, 0) _ (heap_alloc2_new _ _ _) Try.underlying107 rfl (by rw [arr_size]; exact info_arr) ?_) | (refine wpList_store_row rfl 107 _ _ rfl w.heap.size (arr 16) rfl rfl 107 (arr 0) (heap_alloc2_old _ _ _) (by rw [arr_size]; exact info_arr) (by rw [arr_size, arr_size]) (arr_one 16) ?_))
      refine bodyPost_ret (v := tabV) (results_cell_row rfl _ _ w.heap.size 107 (arr 16) (0, 0) _ rfl (setRow_heap _ _ (arr 0) _ _ _ (heap_alloc2_old _ _ _)) Try.underlying107 rfl (by rw [arr_size]; exact info_arr)) rfl ⟨rfl, ?_⟩
      exact below_setRow (((Below.refl _ _).alloc (Nat.le_refl _) _).alloc (by simp) _) (Nat.le_refl _) _
end Go.Proofs.Ytgjcefgdkhfghaa.CrcW
/- The walks of crc.step, crc.Next. -/
namespace Go.Proofs.Ytgjcefgdkhfghaa.CrcW
open Go.RowKit Go.Proofs.Ytgjcefgdkhfghaa
def nib : Nat → Nat → Nat
  | 0, s => s
  | k + 1, s => Crc.sh4 (nib k s)
theorem nib_lt (k s : Nat) (h : s < 65536) : nib k s < 65536 := by
  induction k with
  | zero => exact h
  | succ k ih => exact Crc.sh4_lt ih
theorem nib2 (s c : Nat) : nib 2 (s ^^^ c) = Crc.nx s c := rfl
theorem and15 (s : Nat) (h : s < 65536) : bits .and .u16 (s : Int) 15 = ((s % 16 : Nat) : Int) := by
  have := u16_and (s : Int) 15 (by omega) (by omega) (by omega) (by omega)
  rw [this]
  have h2 : s &&& 15 = s % 16 := Nat.and_two_pow_sub_one_eq_mod s 4
  show (((s : Int).toNat &&& (15 : Int).toNat : Nat) : Int) = _
  rw [Int.toNat_natCast, ← h2]; rfl
theorem xor_sh4 (s : Nat) (h : s < 65536) : bits .xor .u16 ((s : Int) / 16) ((Crc.sh4 (s % 16) : Nat) : Int) = ((Crc.sh4 s : Nat) : Int) := by
  have h2 := u16_xor_nat (s / 16) (Crc.sh4 (s % 16)) (by omega) (Crc.sh4_lt (by omega))
  rw [← Crc.sh4_split] at h2
  exact h2
/-- The table lies in block b. -/
def TabAt (w : World) (b : Nat) : Prop := ∀ i : Nat, i < 16 → w.cell? ⟨b, i, none⟩ = some (.int .u16 (Crc.sh4 i : Nat))

theorem step_any (b s c : Nat) (h : s < 65536) (hc : c < 256) (w : World) (ht : TabAt w b) :
    Calls Try.prog 71 #[.pointer (some ⟨b, 0, none⟩), .int .u16 s, .int .u8 c] w fun e w' => e = .returned (.int .u16 (Crc.nx s c : Nat)) ∧ w = w' := by
  have hx := u16_xor_nat s c h (by omega)
  have hlt : s ^^^ c < 65536 := Nat.xor_lt_two_pow (n := 16) (by omega) (by omega)
  obtain ⟨y, hy⟩ : ∃ y, y = s ^^^ c := ⟨_, rfl⟩
  rw [← hy] at hx hlt
  have HY := Lib.hid hy; clear hy
  go_enter Try.func71, Try.ntmps71
  go_wp2
  clear hx
  go_loop [1, 11] (fun t i => ∃ k : Nat, k ≤ 2 ∧ i = .int .i64 k ∧ t = .int .u16 (nib k y : Nat)) (fun _ i => 2 - (intOf i).toNat)
  case atStart => exact ⟨0, by omega, rfl, rfl⟩
  case round =>
    obtain ⟨k, hk, rfl, rfl⟩ := hrel
    have hb := nib_lt k y hlt
    obtain ⟨z, hz⟩ : ∃ z, z = nib k y := ⟨_, rfl⟩
    have hn : nib (k + 1) y = Crc.sh4 z := by rw [hz]; rfl
    have HZ := Lib.hid hz
    have HN := Lib.hid hn
    rw [← hz] at hb ⊢
    clear hz hn
    by_cases hlt2 : k < 2
    · have H := Lib.hid (xor_sh4 z hb)
      have ha := and15 z hb
      have hcell := ht (z % 16) (by omega)
      have hm : z % 16 < 16 := by omega
      obtain ⟨q, hq⟩ : ∃ q, q = z % 16 := ⟨_, rfl⟩
      rw [← hq] at ha hcell hm
      have HQ := Lib.hid hq; clear hq
      go_wp2
      go_round
      case rel => exact ⟨k + 1, by omega, by go_num, by rw [HN.out, ← H.out, HQ.out]⟩
      case measure => simp [intOf]; omega
    · obtain rfl : k = 2 := by omega
      go_wp2
      go_ret
      exact ⟨ret_u16 (by rw [HZ.out, HY.out, nib2]), rfl⟩

theorem tabAt_new (w : World) : TabAt (w.alloc (.cells (arr 16) 107)) w.heap.size := fun i hi => by
  rw [World.cell?_alloc_at _ _ _ _ rfl]
  exact arr_last i hi

end Go.Proofs.Ytgjcefgdkhfghaa.CrcW
/- The walks of crc.Sum and saucierref01.Sum. -/
namespace Go.Proofs.Ytgjcefgdkhfghaa.CrcW
open Go.RowKit Go.Proofs.Ytgjcefgdkhfghaa
theorem sum_snoc {l : List Nat} {k : Nat} (h : k < l.length) : Crc.sum (l.take (k + 1)) = Crc.nx (Crc.sum (l.take k)) (l[k]?.getD 0) := by
  rw [take_snoc h]; unfold Crc.sum; rw [Crc.sumFrom_append]; rfl

theorem sum_any (A : Option Addr) (n cap : Nat) (l : List Nat) (w : World) (hs : Sl w w.heap.size A n (bs l)) (hl : Bytes l) (hn : n ≤ 9223372036854775807) :
    Calls Try.prog 66 #[.slice A n cap] w fun e w' => e = .returned (.int .u16 (Crc.sum l : Nat)) ∧ Below w.heap.size w w' := by
  have hlen : l.length = n := by simpa using hs.len
  have HL := Lib.hid hlen; clear hlen
  go_enter Try.func66, Try.ntmps66
  go_wp2_with (first | (go_at_call 70; refine (nibbles_any _).mono ?_; rintro e w' ⟨rfl, hb⟩) | (refine wpList_store_row rfl 107 _ _ rfl w'.heap.size (arr 16) rfl rfl 107 _ (heap_alloc_last _ _) (by rw [arr_size]; exact info_arr) (by rw [arr_size]; rfl) (arr_one 16) ?_; rw [World.setRow_alloc_new]))
  have hb2 : Below w.heap.size w (w'.alloc (.cells (arr 16) 107)) := hb.alloc hb.size _
  have hs2 := hs.below hb2
  have ht := tabAt_new w'
  obtain ⟨W, hW⟩ : ∃ W, W = w'.alloc (.cells (arr 16) 107) := ⟨_, rfl⟩
  rw [← hW] at hb2 hs2 ht ⊢
  clear hW hb hs
  go_loop [4, 10] (fun t i => ∃ k : Nat, k ≤ n ∧ i = .int .i64 k ∧ t = .int .u16 (Crc.sum (l.take k) : Nat)) (fun _ i => n - (intOf i).toNat)
  case atStart => exact ⟨0, by omega, rfl, rfl⟩
  case round =>
    obtain ⟨k, hk, rfl, rfl⟩ := hrel
    have hz : Crc.sum (l.take k) < 65536 := Crc.sum_lt _ (hl.take k)
    by_cases hlt : k < n
    · obtain ⟨b, o, rfl, hbl, hc⟩ := hs2.2 (by omega)
      have hck := (hc k hlt).trans (bs_get (by rw [HL.out]; exact hlt))
      have hby := hl.at k
      have HN := Lib.hid (sum_snoc (l := l) (k := k) (by rw [HL.out]; exact hlt))
      clear hc
      obtain ⟨x, hx⟩ : ∃ x, x = l[k]?.getD 0 := ⟨_, rfl⟩
      rw [← hx] at hck hby
      have HX := Lib.hid hx; clear hx
      go_wp2_with (go_at_call 71; refine (step_any _ _ _ hz hby _ ht).mono ?_; rintro e w2 ⟨rfl, rfl⟩)
      go_round
      case rel => exact ⟨k + 1, by omega, by go_num, by rw [HN.out, HX.out]⟩
      case measure => simp [intOf]; omega
    · obtain rfl : k = n := by omega
      go_wp2_with fail
      go_ret
      exact ⟨ret_u16 (by rw [List.take_of_length_le (by rw [HL.out]; omega)]), hb2⟩

theorem refSum_any (A : Option Addr) (n cap : Nat) (l : List Nat) (w : World) (hs : Sl w w.heap.size A n (bs l)) (hl : Bytes l) (hn : n ≤ 9223372036854775807) :
    Calls Try.prog 67 #[.slice A n cap] w fun e w' => e = .returned (.int .u16 (Crc.sum l : Nat)) ∧ w = w' := by
  have hlen : l.length = n := by simpa using hs.len
  have HL := Lib.hid hlen; clear hlen
  go_enter Try.func67, Try.ntmps67
  go_wp2_with fail
  go_loop [3, 4] (fun t i => ∃ k : Nat, k ≤ n ∧ i = .int .i64 k ∧ t = .int .u16 (Crc.sum (l.take k) : Nat)) (fun _ i => n - (intOf i).toNat)
  case atStart => exact ⟨0, by omega, rfl, rfl⟩
  case round =>
    obtain ⟨k, hk, rfl, rfl⟩ := hrel
    have hz : Crc.sum (l.take k) < 65536 := Crc.sum_lt _ (hl.take k)
    by_cases hlt : k < n
    · obtain ⟨b, o, rfl, hbl, hc⟩ := hs.2 (by omega)
      have hck := (hc k hlt).trans (bs_get (by rw [HL.out]; exact hlt))
      have hby := hl.at k
      have HN := Lib.hid (sum_snoc (l := l) (k := k) (by rw [HL.out]; exact hlt))
      clear hc
      obtain ⟨x, hx⟩ : ∃ x, x = l[k]?.getD 0 := ⟨_, rfl⟩
      rw [← hx] at hck hby
      have HX := Lib.hid hx; clear hx
      go_wp2_with (go_at_call 72; refine (refNext_any _ _ hz hby _).mono ?_; rintro e w2 ⟨rfl, rfl⟩)
      go_round
      case rel => exact ⟨k + 1, by omega, by go_num, by rw [HN.out, HX.out]⟩
      case measure => simp [intOf]; omega
    · obtain rfl : k = n := by omega
      go_wp2_with fail
      go_ret
      exact ⟨ret_u16 (by rw [List.take_of_length_le (by rw [HL.out]; omega)]), rfl⟩
end Go.Proofs.Ytgjcefgdkhfghaa.CrcW
/- The walk of saucierlow.Same. -/
namespace Go.Proofs.Ytgjcefgdkhfghaa.CrcW
open Go.RowKit Go.Proofs.Ytgjcefgdkhfghaa
theorem same_any (A A2 : Option Addr) (n cap n2 cap2 B : Nat) (l r : List Nat) (w : World) (hs : Sl w B A n (bs l)) (hl : Bytes l) (hs2 : Sl w B A2 n2 (bs r)) (hr : Bytes r) :
    Calls Try.prog 19 #[.slice A n cap, .slice A2 n2 cap2] w fun e w' => e = .returned (.bool (l == r)) ∧ w = w' := by
  have H1 := run_string (P := Try.prog) w B 29 9 5 Try.underlying29 Try.underlying5 Try.underlying9 A n cap l hs
  have H2 := run_string (P := Try.prog) w B 29 9 5 Try.underlying29 Try.underlying5 Try.underlying9 A2 n2 cap2 r hs2
  have HE := Lib.hid (strB_eq l r hl hr)
  clear hs hs2
  go_enter Try.func19, Try.ntmps19
  go_wp2
  go_ret
  exact ⟨by rw [← HE.out]; rfl, rfl⟩
end Go.Proofs.Ytgjcefgdkhfghaa.CrcW
/- The walks of crc.Put and saucierref01.Put. -/
namespace Go.Proofs.Ytgjcefgdkhfghaa.CrcW
open Go.RowKit Go.Proofs.Ytgjcefgdkhfghaa
theorem u8 : Elem Try.prog 29 5 1 := .mk' (z := .int .u8 0) Try.underlying29 (by kernel_rfl) rfl
/-- What is put behind l. -/
def put (l : List Nat) : List Nat := l ++ [Crc.sum l % 256, Crc.sum l / 256]
theorem put_bytes {l : List Nat} (h : Bytes l) : Bytes (put l) := by
  have := Crc.sum_lt l h
  intro c hc
  simp [put] at hc
  rcases hc with hc | rfl | rfl
  · exact h c hc
  · omega
  · omega
@[simp] theorem put_length (l : List Nat) : (put l).length = l.length + 2 := by simp [put]
theorem put_cells (l : List Nat) (S : Nat) (h : S = Crc.sum l) : bs l ++ [Value.int .u8 ((S : Int) % 256), Value.int .u8 ((S : Int) / 256)] = bs (put l) := by
  subst h; simp [put, bs]
/-- A call that hands back a row of its own. -/
def RetRow (w : World) (t : TypeId) (n : Nat) (xs : List Value) (e : Ending) (w' : World) : Prop := ∃ v, e = .returned v ∧ Has w w' t v n xs

theorem put_any (A : Option Addr) (n cap : Nat) (l : List Nat) (w : World) (hs : Sl w w.heap.size A n (bs l)) (hl : Bytes l) (hn : n ≤ 140737488351232) :
    Calls Try.prog 56 #[.slice A n cap] w (RetRow w 5 (n + 2) (bs (put l))) := by
  have hS : Crc.sum l < 65536 := Crc.sum_lt l hl
  obtain ⟨S, hSe⟩ : ∃ S, S = Crc.sum l := ⟨_, rfl⟩
  have HS := Lib.hid hSe
  go_enter Try.func56, Try.ntmps56
  go_wp2_with fail
  refine (sum_any A n cap l w hs hl (by omega)).mono ?_
  rw [← hSe] at hS ⊢; clear hSe
  rintro e w1 ⟨rfl, hb1⟩
  go_wp2_with (first
    | (at_make; refine wpList_make0 u8 rfl _ _ rfl (n + 2) rfl rfl hb1 (by omega) (by simp only [maxLen]; omega) ?_; intro v2 w2 H2)
    | (at_builtin; refine wpList_app u8 rfl (.tmp 11) (.tmp 12) rfl H2 rfl (hs.below H2.bel) rfl (bs_one l) (by omega) (by simp only [maxLen]; omega) ?_; intro v3 w3 H3 _ _)
    | (at_builtin; refine wpList_app u8 rfl (.tmp 14) (.tmp 20) rfl (H3.alloc _) rfl (Sl.new2 _ _ _ _) rfl (one2 _ _ _) (by omega) (by simp only [maxLen]; omega) ?_; intro v4 w4 H4 _ _))
  go_ret
  refine ⟨v4, rfl, ?_⟩
  rw [List.nil_append, Nat.zero_add] at H4
  rw [← put_cells l S HS.out]
  exact H4

theorem refPut_any (A : Option Addr) (n cap : Nat) (l : List Nat) (w : World) (hs : Sl w w.heap.size A n (bs l)) (hl : Bytes l) (hn : n ≤ 140737488351232) :
    Calls Try.prog 57 #[.slice A n cap] w (RetRow w 5 (n + 2) (bs (put l))) := by
  have hS : Crc.sum l < 65536 := Crc.sum_lt l hl
  obtain ⟨S, hSe⟩ : ∃ S, S = Crc.sum l := ⟨_, rfl⟩
  have HS := Lib.hid hSe
  go_enter Try.func57, Try.ntmps57
  go_wp2_with (at_builtin; refine wpList_app u8 rfl (.tmp 5) (.tmp 6) rfl (Has.nil_ (Below.refl _ w) _) rfl hs rfl (bs_one l) (by omega) (by simp only [maxLen]; omega) ?_; intro v2 w2 H2 _ _)
  have hs2 := hs.below H2.bel
  have H2' := H2
  refine (refSum_any A n cap l w2 (hs2.mono H2.bel.size) hl (by omega)).mono ?_
  rw [← hSe] at hS ⊢; clear hSe
  rintro e w1 ⟨rfl, rfl⟩
  go_wp2_with (first
    | (at_builtin; refine wpList_app u8 rfl (.tmp 10) (.tmp 14) rfl (H2.alloc _) rfl (Sl.new1 _ _ _) rfl (one1 _ _) (by omega) (by simp only [maxLen]; omega) ?_; intro v3 w3 H3 _ _)
    | (at_builtin; refine wpList_app u8 rfl (.tmp 16) (.tmp 20) rfl (H3.alloc _) rfl (Sl.new1 _ _ _) rfl (one1 _ _) (by omega) (by simp only [maxLen]; omega) ?_; intro v4 w4 H4 _ _))
  go_ret
  refine ⟨v4, rfl, ?_⟩
  rw [List.nil_append, Nat.zero_add, List.append_assoc, Nat.add_assoc] at H4
  rw [← put_cells l S HS.out]
  exact H4
end Go.Proofs.Ytgjcefgdkhfghaa.CrcW
/- The walks of crc.Cut and saucierref01.Cut. -/
namespace Go.Proofs.Ytgjcefgdkhfghaa.CrcW
open Go.RowKit Go.Proofs.Ytgjcefgdkhfghaa
/-- What is cut, or the error. -/
def cutF (l : List Nat) : List Nat × Int :=
  if l.length < 2 then ([], 10)
  else if Crc.sum (l.take (l.length - 2)) = l[l.length - 2]?.getD 0 + 256 * l[l.length - 1]?.getD 0 then (l.take (l.length - 2), 0) else ([], 11)
/-- A call that hands back a row of its own, and an error. -/
def RetRowErr (w : World) (t : TypeId) (r : List Nat × Int) (e : Ending) (w' : World) : Prop := ∃ v, e = .returned (.tuple #[v, .int .i64 r.2]) ∧ Has w w' t v r.1.length (bs r.1)
theorem or_lohi (x y : Nat) (hx : x < 256) (hy : y < 256) : bits .or .u16 (x : Int) ((y : Int) * 256) = ((x + 256 * y : Nat) : Int) := by
  have h := u16_or_nat x (y * 256) (by omega) (by omega)
  have e : x ||| y * 256 = x + 256 * y := by
    have := Nat.two_pow_add_eq_or_of_lt (i := 8) (b := x) (by omega) y
    rw [show (2 : Nat) ^ 8 = 256 from rfl] at this
    rw [Nat.or_comm, Nat.mul_comm, ← this]; omega
  rw [e] at h
  rw [← h]; rfl

theorem wrapxy (x y : Nat) (hx : x < 256) (hy : y < 256) : bits .or .u16 (IntKind.u16.wrap (x : Int)) (IntKind.u16.wrap (IntKind.u16.wrap (y : Int) * 256)) = ((x + 256 * y : Nat) : Int) := by
  rw [IntKind.wrap_u16, IntKind.wrap_u16, IntKind.wrap_u16, show ((x : Int) % 65536) = x from by omega, show ((y : Int) % 65536) = y from by omega, show ((y : Int) * 256 % 65536) = y * 256 from by omega, or_lohi x y hx hy]
theorem Keep.go {w w1 w2 : World} {b o o2 : Nat} {u v : Value} (hb : b < w.heap.size) (h : Below w.heap.size w w1) (h1 : w1.cell? ⟨b, o, none⟩ = some u) (h2 : w1.cell? ⟨b, o2, none⟩ = some v) (k : Below w1.heap.size w1 w2) :
    Below w.heap.size w w2 ∧ w2.cell? ⟨b, o, none⟩ = some u ∧ w2.cell? ⟨b, o2, none⟩ = some v :=
  ⟨h.trans (k.mono h.size), (k.cell (p := ⟨b, o, none⟩) (Nat.lt_of_lt_of_le hb h.size)).trans h1, (k.cell (p := ⟨b, o2, none⟩) (Nat.lt_of_lt_of_le hb h.size)).trans h2⟩
theorem cut_any (A : Option Addr) (n cap : Nat) (l : List Nat) (w : World) (hs : Sl w w.heap.size A n (bs l)) (hl : Bytes l) (hn : n ≤ 140737488351232) (hcap : n ≤ cap) :
    Calls Try.prog 58 #[.slice A n cap] w (RetRowErr w 5 (cutF l)) := by
  have hlen : l.length = n := by simpa using hs.len
  by_cases h2 : n < 2
  · have HF : Hid (cutF l = ([], 10)) := by unfold cutF; rw [if_pos (by omega)]; rfl
    clear hlen
    go_enter Try.func58, Try.ntmps58
    go_wp2
    go_ret2
    rw [HF.out]
    exact ⟨_, rfl, Has.nil_ (Below.refl _ _) _⟩
  · obtain ⟨m, rfl⟩ : ∃ m, n = m + 2 := ⟨n - 2, by omega⟩
    have hs1 := hs.take (k := m) (by omega)
    rw [bs_take] at hs1
    obtain ⟨b, o, rfl, hbl, hc⟩ := hs.2 (by omega)
    have hc0 := (hc m (by omega)).trans (bs_get (by omega))
    have hc1 : w.cell? ⟨b, o + m + 1, none⟩ = _ := (hc (m + 1) (by omega)).trans (bs_get (by omega))
    have hx := hl.at m
    have hy := hl.at (m + 1)
    have hF : cutF l = if Crc.sum (l.take m) = l[m]?.getD 0 + 256 * l[m + 1]?.getD 0 then (l.take m, 0) else ([], 11) := by
      unfold cutF
      rw [if_neg (by omega), hlen]; rfl
    have HF := Lib.hid hF
    have HLn := Lib.hid hlen
    clear hF hlen hc
    obtain ⟨x, hxe⟩ : ∃ x, x = l[m]?.getD 0 := ⟨_, rfl⟩
    obtain ⟨y, hye⟩ : ∃ y, y = l[m + 1]?.getD 0 := ⟨_, rfl⟩
    rw [← hxe] at hc0 hx
    rw [← hye] at hc1 hy
    have HX := Lib.hid hxe
    have HY := Lib.hid hye
    clear hxe hye
    have hor := or_lohi x y hx hy
    go_enter Try.func58, Try.ntmps58
    go_wp2_with fail
    go_quiet (fail)
    go_wp2_with fail
    obtain ⟨S, hSe⟩ : ∃ S, S = Crc.sum (l.take m) := ⟨_, rfl⟩
    have HS := Lib.hid hSe
    clear hSe
    have hbd : Below w.heap.size w (w.drewN nq).drew := ((Below.refl _ _).drewN nq).drew
    go_region_held3 (fun w' => Below w.heap.size w w' ∧ w'.cell? ⟨b, o + m, none⟩ = some (.int .u8 (x : Nat)) ∧ w'.cell? ⟨b, o + m + 1, none⟩ = some (.int .u8 (y : Nat))) (first | exact ⟨hbd, hc0, hc1⟩ | exact ⟨hbk1, hbk2, hbk3⟩)
      (first | (go_at_call 66; go_split_ands; refine (sum_any _ m cap (l.take m) _ (Sl.mono (hs1.below (by assumption)) (Below.size (by assumption))) (hl.take m) (by omega)).mono ?_; rintro e w1 ⟨rfl, hb1⟩; have hbk := Keep.go (o := o + m) (o2 := o + m + 1) (u := .int .u8 (x : Nat)) (v := .int .u8 (y : Nat)) hbl (by assumption) (by assumption) (by assumption) hb1; have hbk1 := hbk.1; have hbk2 := hbk.2.1; have hbk3 := hbk.2.2; clear hbk))
    have hb2 : Below w.heap.size w w1 := hbk1
    have hs3 := (hs1.below hb2).mono hb2.size
    clear hbk1 hbk2 hbk3 hb1 hbd hc0 hc1 hs hs1
    by_cases hq : Crc.sum (l.take m) = x + 256 * y
    · have hT : (((Crc.sum (l.take m) : Nat) : Int) != bits .or .u16 (IntKind.u16.wrap (x : Int)) (IntKind.u16.wrap (IntKind.u16.wrap (y : Int) * 256))) = false := by
        rw [wrapxy x y hx hy, hq]; simp
      rw [hT]
      rw [← HX.out, ← HY.out, if_pos hq] at HF
      clear hT hq hor
      go_wp2_with (at_builtin; refine wpList_app u8 rfl (.const (.slice none 0 0)) (.tmp 32) rfl (Has.nil_ hb2 _) rfl hs3 rfl (bs_one _) (by omega) (by simp only [maxLen]; omega) ?_; intro v2 w2 H2 _ _)
      go_ret2
      rw [HF.out]
      rw [Nat.zero_add, List.nil_append] at H2
      refine ⟨v2, rfl, ?_⟩
      rw [show (l.take m).length = m from by rw [List.length_take, HLn.out]; omega]
      exact H2
    · have hT : (((Crc.sum (l.take m) : Nat) : Int) != bits .or .u16 (IntKind.u16.wrap (x : Int)) (IntKind.u16.wrap (IntKind.u16.wrap (y : Int) * 256))) = true := by
        rw [wrapxy x y hx hy]; simp; omega
      rw [hT]
      rw [← HX.out, ← HY.out, if_neg hq] at HF
      clear hT hq hor
      go_wp2
      go_ret2
      rw [HF.out]
      exact ⟨_, rfl, Has.nil_ hb2 _⟩

theorem refCut_any (A : Option Addr) (n cap : Nat) (l : List Nat) (w : World) (hs : Sl w w.heap.size A n (bs l)) (hl : Bytes l) (hn : n ≤ 140737488351232) (hcap : n ≤ cap) :
    Calls Try.prog 60 #[.slice A n cap] w (RetRowErr w 5 (cutF l)) := by
  have hlen : l.length = n := by simpa using hs.len
  by_cases h2 : n < 2
  · have HF : Hid (cutF l = ([], 10)) := by unfold cutF; rw [if_pos (by omega)]; rfl
    clear hlen
    go_enter Try.func60, Try.ntmps60
    go_wp2
    go_ret2
    rw [HF.out]
    exact ⟨_, rfl, Has.nil_ (Below.refl _ _) _⟩
  · obtain ⟨m, rfl⟩ : ∃ m, n = m + 2 := ⟨n - 2, by omega⟩
    have hs1 := hs.take (k := m) (by omega)
    rw [bs_take] at hs1
    obtain ⟨b, o, rfl, hbl, hc⟩ := hs.2 (by omega)
    have hc0 := (hc m (by omega)).trans (bs_get (by omega))
    have hc1 : w.cell? ⟨b, o + (m + 1), none⟩ = _ := (hc (m + 1) (by omega)).trans (bs_get (by omega))
    have hx := hl.at m
    have hy := hl.at (m + 1)
    have hF : cutF l = if Crc.sum (l.take m) = l[m]?.getD 0 + 256 * l[m + 1]?.getD 0 then (l.take m, 0) else ([], 11) := by
      unfold cutF
      rw [if_neg (by omega), hlen]; rfl
    have HF := Lib.hid hF
    have HLn := Lib.hid hlen
    have hz := Crc.sum_lt _ (hl.take m)
    have CS := fun W h => refSum_any (some ⟨b, o, none⟩) m cap (l.take m) W h (hl.take m) (by omega)
    clear hF hlen hc hs
    obtain ⟨x, hxe⟩ : ∃ x, x = l[m]?.getD 0 := ⟨_, rfl⟩
    obtain ⟨y, hye⟩ : ∃ y, y = l[m + 1]?.getD 0 := ⟨_, rfl⟩
    obtain ⟨S, hSe⟩ : ∃ S, S = Crc.sum (l.take m) := ⟨_, rfl⟩
    rw [← hxe] at hc0 hx
    rw [← hye] at hc1 hy
    rw [← hSe] at hz CS
    have HX := Lib.hid hxe
    have HY := Lib.hid hye
    have HS := Lib.hid hSe
    clear hxe hye hSe
    have HC := Lib.hid CS
    clear CS
    go_enter Try.func60, Try.ntmps60
    go_wp2_with (go_at_call 67; refine (HC.out _ hs1).mono ?_; rintro e w1 ⟨rfl, rfl⟩)
    have w1 : IntKind.i64.wrap ((m : Int) + 1) = m + 1 := by rw [IntKind.wrap_i64]; omega
    have w2 : (0 : Int) ≤ (m : Int) + 1 := by omega
    have w3 : ((m : Int) + 1).toNat = m + 1 := by omega
    by_cases hq : S = x + 256 * y
    · have hT : ((x : Int) + 256 * (y : Int) != (S : Int)) = false := by rw [bne_eq_false_iff_eq]; omega
      rw [← HX.out, ← HY.out, ← HS.out, if_pos hq] at HF
      clear hq
      go_quiet (fail)
      clear hT w1 w2 w3 hc0 hc1
      go_wp2_with (at_builtin; refine wpList_app u8 rfl (.tmp 33) (.tmp 36) rfl (Has.nil_ ((Below.refl _ w).drewN nq) _) rfl (hs1.drewN nq) rfl (bs_one _) (by omega) (by simp only [maxLen]; omega) ?_; intro v2 w2 H2 _ _)
      go_ret2
      rw [HF.out]
      rw [Nat.zero_add, List.nil_append] at H2
      refine ⟨v2, rfl, ?_⟩
      rw [show (l.take m).length = m from by rw [List.length_take, HLn.out]; omega]
      exact H2
    · have hT : ((x : Int) + 256 * (y : Int) != (S : Int)) = true := by rw [bne_iff_ne]; omega
      rw [← HX.out, ← HY.out, ← HS.out, if_neg hq] at HF
      clear hq
      go_quiet (fail)
      clear hT w1 w2 w3 hc0 hc1
      go_wp2
      go_ret2
      rw [HF.out]
      exact ⟨_, rfl, Has.nil_ ((Below.refl _ w).drewN nq) _⟩
end Go.Proofs.Ytgjcefgdkhfghaa.CrcW
