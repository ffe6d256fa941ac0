/- The walks of words. -/
import Derived.Test.YtcckplpfgpagmaaWdD
import Derived.Test.YtcckplpfgpagmaaFill
import Derived.Test.YtcckplpfgpagmaaBase
import Derived.Test.YtcckplpfgpagmaaWdOne
import Derived.BigRegion
set_option linter.unusedVariables false
set_option linter.unusedSimpArgs false
namespace Go.Proofs.Ytcckplpfgpagmaa.WdW
open Go.RowKit Go.Proofs.Ytcckplpfgpagmaa Go.Proofs.Ytcckplpfgpagmaa.Wd Go.Proofs.Ytcckplpfgpagmaa.Ask
theorem tdiv_nat (a b : Nat) : Int.tdiv (a : Int) (b : Int) = ((a / b : Nat) : Int) := by
  rw [Int.tdiv_eq_ediv_of_nonneg (by omega), Int.natCast_ediv]
theorem tmod_nat (a b : Nat) : Int.tmod (a : Int) (b : Int) = ((a % b : Nat) : Int) := by
  rw [Int.tmod_eq_emod_of_nonneg (by omega), Int.natCast_emod]
theorem size_any (n : Nat) (hn : n ≤ 9223372036854775807) (w : World) :
    Calls Try.prog 25 #[.int .i64 (n : Nat)] w fun e w' => e = .returned (.int .i64 (((n + 7) / 8 : Nat) : Int)) ∧ w = w' := by
  have hq : Int.tdiv (n : Int) 8 = ((n / 8 : Nat) : Int) := tdiv_nat n 8
  have hr : Int.tmod (n : Int) 8 = ((n % 8 : Nat) : Int) := tmod_nat n 8
  have w0 := w64 (show n / 8 ≤ 9223372036854775807 by omega)
  have w1 := w64 (show n % 8 ≤ 9223372036854775807 by omega)
  have w2 : IntKind.i64.wrap (((n % 8 : Nat) : Int) + 7) = ((n % 8 + 7 : Nat) : Int) := by rw [IntKind.wrap_i64]; omega
  have w3 : Int.tdiv ((n % 8 + 7 : Nat) : Int) 8 = (((n % 8 + 7) / 8 : Nat) : Int) := tdiv_nat _ 8
  have w4 := w64 (show (n % 8 + 7) / 8 ≤ 9223372036854775807 by omega)
  have w5 : IntKind.i64.wrap (((n / 8 : Nat) : Int) + (((n % 8 + 7) / 8 : Nat) : Int)) = (((n + 7) / 8 : Nat) : Int) := by rw [IntKind.wrap_i64]; omega
  obtain ⟨a, ea⟩ : ∃ a, a = n / 8 := ⟨_, rfl⟩
  obtain ⟨b, eb⟩ : ∃ b, b = n % 8 := ⟨_, rfl⟩
  rw [← ea] at hq w0 w5
  rw [← eb] at hr w1 w2 w3 w4 w5
  obtain ⟨c, ec⟩ : ∃ c, c = b + 7 := ⟨_, rfl⟩
  rw [← ec] at w2 w3 w4 w5
  obtain ⟨d, ed⟩ : ∃ d, d = c / 8 := ⟨_, rfl⟩
  rw [← ed] at w3 w4 w5
  obtain ⟨e, ee⟩ : ∃ e, e = (n + 7) / 8 := ⟨_, rfl⟩
  rw [← ee] at w5 ⊢
  clear ea eb ec ed ee hn
  go_enter Try.func25, Try.ntmps25
  go_wp2_with fail
  go_ret
  exact ⟨rfl, rfl⟩
/-- Are the bits off that are behind the first k? -/
def cleanF (xs : List Nat) (k : Nat) : Bool := decide (k % 8 = 0) || decide (xs[k / 8]?.getD 0 / 2 ^ (k % 8) = 0)
theorem clean_any (A : Option Addr) (n c k : Nat) (xs : List Nat) (w : World) (hs : Sl w w.heap.size A n (bs xs)) (hx : Bytes xs) (hn : n = (k + 7) / 8) (hk : k ≤ 1000000) :
    Calls Try.prog 26 #[.slice A n c, .int .i64 (k : Nat)] w fun e w' => e = .returned (.bool (cleanF xs k)) ∧ w = w' := by
  have q1 : xs.length = n := by simpa using hs.len
  have hq : Int.tdiv (k : Int) 8 = ((k / 8 : Nat) : Int) := tdiv_nat k 8
  have hr : Int.tmod (k : Int) 8 = ((k % 8 : Nat) : Int) := tmod_nat k 8
  have w0 := w64 (show k / 8 ≤ 9223372036854775807 by omega)
  have w1 := w64 (show k % 8 ≤ 9223372036854775807 by omega)
  have hm8 : k % 8 < 8 := by omega
  by_cases hm : k % 8 = 0
  · have HC := Lib.hid (show cleanF xs k = true from by unfold cleanF; simp [hm])
    rw [hm] at hr w1
    clear hs hx hn hk hm hm8
    go_enter Try.func26, Try.ntmps26
    go_wp2_with fail
    go_ret
    rw [HC.out]
    exact ⟨rfl, rfl⟩
  · have h8 : k / 8 < n := by omega
    obtain ⟨b, o, rfl, hbl, d1⟩ := hs.2 (by omega)
    have g1 := (d1 (k / 8) h8).trans (bs_get (by omega))
    have hb := hx.at (k / 8)
    have HC := Lib.hid (show cleanF xs k = decide (xs[k / 8]?.getD 0 / 2 ^ (k % 8) = 0) from by unfold cleanF; simp [hm])
    obtain ⟨R, eR⟩ : ∃ R, R = cleanF xs k := ⟨_, rfl⟩
    rw [← eR] at HC ⊢
    obtain ⟨q, eq⟩ : ∃ q, q = k / 8 := ⟨_, rfl⟩
    obtain ⟨m, em⟩ : ∃ m, m = k % 8 := ⟨_, rfl⟩
    rw [← eq] at hq w0 g1 hb HC h8
    rw [← em] at hr w1 hm8 HC hm
    obtain ⟨y, ey⟩ : ∃ y, y = xs[q]?.getD 0 := ⟨_, rfl⟩
    rw [← ey] at g1 hb HC
    have z0 : (0 : Int) ≤ (q : Int) := by omega
    have z1 : (q : Int) < (n : Int) := by omega
    have z2 : (0 : Int) ≤ (m : Int) := by omega
    have hm0 : ((m : Int) == 0) = false := by rw [beq_eq_false_iff_ne]; omega
    have hm0' : ¬ (m : Int) = 0 := by omega
    clear eR eq em ey d1 hx hn hk hs
    go_enter Try.func26, Try.ntmps26
    go_wp2_with fail
    go_ret
    refine ⟨ret_bool ?_, rfl⟩
    rw [HC.out, show (y : Int) / (2 : Int) ^ m = ((y / 2 ^ m : Nat) : Int) from by rw [Int.natCast_ediv, Int.natCast_pow]; rfl]
    rw [Bool.eq_iff_iff, beq_iff_eq, decide_eq_true_iff]
    omega
theorem octet_eq_iff (L : List Bool) (x j : Nat) (hx : x < 256) : octet L j = x ↔ ∀ m, m < 8 → L[8 * j + m]?.getD false = x.testBit m := by
  constructor
  · intro h m hm
    rw [← octet_testBit L j m hm, h]
  · intro h
    apply Nat.eq_of_testBit_eq
    intro i
    by_cases hi : i < 8
    · rw [octet_testBit L j i hi, h i hi]
    · have hp : 2 ^ 8 ≤ 2 ^ i := Nat.pow_le_pow_right (by decide) (by omega)
      rw [Nat.testBit_lt_two_pow (Nat.lt_of_lt_of_le (octet_lt L j) hp), Nat.testBit_lt_two_pow (Nat.lt_of_lt_of_le hx hp)]
/-- Bytes that are as many as k bits need are these bits packed if nothing is on behind them. -/
theorem pack_take_iff {xs : List Nat} {k : Nat} (hb : Bytes xs) (hl : xs.length = (k + 7) / 8) : pack ((unpack xs).take k) = xs ↔ cleanF xs k = true := by
  have hL : ((unpack xs).take k).length = k := by rw [List.length_take, unpack_length]; omega
  have hg : ∀ i, i < 8 * xs.length → ((unpack xs).take k)[i]?.getD false = (decide (i < k) && (xs[i / 8]?.getD 0).testBit (i % 8)) := by
    intro i hi
    rw [List.getElem?_take]
    by_cases h : i < k
    · rw [if_pos h, unpack_get hi, decide_eq_true h, Bool.true_and]
    · rw [if_neg h, decide_eq_false h, Bool.false_and]; rfl
  have hj : ∀ j, j < xs.length → (octet ((unpack xs).take k) j = xs[j]?.getD 0 ↔ ∀ m, m < 8 → k ≤ 8 * j + m → (xs[j]?.getD 0).testBit m = false) := by
    intro j hj
    rw [octet_eq_iff _ _ _ (hb.at j)]
    constructor
    · intro h m hm hk
      have := h m hm
      rw [hg _ (by omega), decide_eq_false (by omega), Bool.false_and] at this
      exact this.symm
    · intro h m hm
      rw [hg _ (by omega), show (8 * j + m) / 8 = j by omega, show (8 * j + m) % 8 = m by omega]
      by_cases hk : 8 * j + m < k
      · rw [decide_eq_true hk, Bool.true_and]
      · rw [h m hm (by omega), Bool.and_false]
  unfold cleanF
  rw [Bool.or_eq_true, decide_eq_true_iff, decide_eq_true_iff]
  constructor
  · intro h
    by_cases hm : k % 8 = 0
    · exact .inl hm
    · right
      have h8 : k / 8 < xs.length := by omega
      have h1 : octet ((unpack xs).take k) (k / 8) = xs[k / 8]?.getD 0 := by
        have := congrArg (fun l => l[k / 8]?.getD 0) h
        rw [pack_get (by rw [hL]; omega)] at this
        exact this
      rw [hj _ h8] at h1
      apply Nat.div_eq_of_lt
      apply Nat.lt_pow_two_of_testBit
      intro i hi
      by_cases h88 : i < 8
      · exact h1 i h88 (by omega)
      · exact Nat.testBit_lt_two_pow (Nat.lt_of_lt_of_le (hb.at _) (show 2 ^ 8 ≤ 2 ^ i from Nat.pow_le_pow_right (by decide) (by omega)))
  · intro h
    refine ext_getD 0 (by rw [pack_length, hL, hl]) (fun j hj' => ?_)
    rw [pack_length, hL] at hj'
    rw [pack_get (by rw [hL]; exact hj'), hj j (by omega)]
    intro m hm hk
    rcases h with h | h
    · omega
    · have e : j = k / 8 := by omega
      subst e
      have h2 : xs[k / 8]?.getD 0 < 2 ^ (k % 8) := by
        rcases Nat.lt_or_ge (xs[k / 8]?.getD 0) (2 ^ (k % 8)) with h' | h'
        · exact h'
        · have := Nat.div_pos h' (Nat.two_pow_pos _)
          omega
      exact Nat.testBit_lt_two_pow (Nat.lt_of_lt_of_le h2 (Nat.pow_le_pow_right (by decide) (by omega)))
theorem bits_clean {xs : List Nat} {k : Nat} (hb : Bytes xs) (hl : xs.length = (k + 7) / 8) : bitsOf xs (k : Nat) = if cleanF xs k then (unpack xs).take k else [] := by
  have h := pack_take_iff hb hl
  unfold bitsOf
  rw [Int.toNat_natCast]
  by_cases hc : cleanF xs k = true
  · rw [if_pos hc, if_pos ⟨by omega, by omega, h.2 hc⟩]
  · rw [if_neg hc, if_neg (fun h' => hc (h.1 h'.2.2))]
theorem or_pow2 (y m : Nat) (hy : y < 256) (hm : m < 8) : bits .or .u8 (y : Int) ((2 : Int) ^ m % 256) = ((y ||| 2 ^ m : Nat) : Int) := by
  have e : (2 : Int) ^ m % 256 = ((2 ^ m : Nat) : Int) := by
    obtain rfl | rfl | rfl | rfl | rfl | rfl | rfl | rfl : m = 0 ∨ m = 1 ∨ m = 2 ∨ m = 3 ∨ m = 4 ∨ m = 5 ∨ m = 6 ∨ m = 7 := by omega
    all_goals rfl
  rw [e]
  refine u8_or_nat y (2 ^ m) hy ?_
  exact Nat.pow_lt_pow_of_lt (a := 2) (n := m) (m := 8) (by omega) hm
theorem bit_of (y m : Nat) (hy : y < 256) : (bits .and .u8 ((y : Int) / (2 : Int) ^ m) 1 == 1) = y.testBit m := by
  have e : (y : Int) / (2 : Int) ^ m = ((y / 2 ^ m : Nat) : Int) := by
    rw [Int.natCast_ediv, Int.natCast_pow]; rfl
  have h := u8_and_nat (y / 2 ^ m) 1 (Nat.lt_of_le_of_lt (Nat.div_le_self _ _) hy) (by omega)
  rw [e, show (1 : Int) = ((1 : Nat) : Int) from rfl, h, Nat.and_one_is_mod, Nat.testBit_eq_decide_div_mod_eq, Bool.eq_iff_iff]
  simp
  omega
set_option maxHeartbeats 1000000 in
theorem packBits_any (A : Option Addr) (n c : Nat) (l : List Bool) (w : World) (hs : Sl w w.heap.size A n (bl l)) (hn : n ≤ 100000) :
    Calls Try.prog 14 #[.slice A n c] w fun e w' => ∃ v, e = .returned v ∧ Has w w' 5 v ((n + 7) / 8) (bs (pack l)) := by
  have q1 : l.length = n := by simpa using hs.len
  have Q1 := Lib.hid q1
  clear q1
  have K1 := Lib.hid (size_any n (by omega) w)
  obtain ⟨N, hN⟩ : ∃ N, N = (n + 7) / 8 := ⟨_, rfl⟩
  rw [← hN] at K1 ⊢
  have hN64 := w64 (show N ≤ 9223372036854775807 by omega)
  have HN := Lib.hid hN
  clear hN
  obtain ⟨i0, hi0, hz0, hs0, hb0⟩ := info_parts (P := Try.prog) (e := 5) (z := .int .u8 0) (size := 1) (bytes := 1) (by kernel_rfl)
  go_enter Try.func14, Try.ntmps14
  go_wp2_with fail
  refine K1.out.mono ?_
  rintro e w1 ⟨rfl, rfl⟩
  clear K1
  go_wp2_with (at_make; refine wpList_makeN Try.underlying22 hi0 hz0 hs0 rfl rfl _ _ rfl N rfl rfl (by have := HN.out; rw [hb0]; omega) (by have := HN.out; omega) ?_)
  go_loopw [11] (fun i wr => ∃ k : Nat, k ≤ n ∧ i = .int .i64 k ∧ Below w.heap.size w wr ∧ wr.heap[w.heap.size]? = some (.cells (packTo l N k) 5 (0, 0))) (fun i _ => n - (intOf i).toNat)
  case atStart => exact ⟨0, by omega, rfl, (Below.refl _ w).new _, by rw [packTo_zero]; exact heap_alloc_new w _⟩
  case round =>
    obtain ⟨k, hk, rfl, bk, hx⟩ := hrel
    by_cases hlt : k < n
    · have s1 := hs.below bk
      obtain ⟨b, o, rfl, hbl, d1⟩ := s1.2 (by omega)
      have g1 := (d1 k hlt).trans (bl_get (by rw [Q1.out]; exact hlt))
      have z0 : (0 : Int) ≤ (k : Int) := by omega
      have z1 : (k : Int) < (n : Int) := by omega
      have hON := Lib.hid (packTo_on (l := l) (N := N) (k := k))
      have hOF := Lib.hid (packTo_off (l := l) (N := N) (k := k))
      obtain ⟨x, ex⟩ : ∃ x, x = l[k]?.getD false := ⟨_, rfl⟩
      rw [← ex] at g1 hON hOF
      clear d1 ex s1 hs
      cases x
      · have HX := Lib.hid hx
        clear hx
        go_wp2_with fail
        go_roundw
        case rel => exact ⟨k + 1, by omega, by go_num, bk, by rw [hOF.out rfl]; exact HX.out⟩
        case measure => simp [intOf]; omega
      · have hq : Int.tdiv (k : Int) 8 = ((k / 8 : Nat) : Int) := tdiv_nat k 8
        have hr : Int.tmod (k : Int) 8 = ((k % 8 : Nat) : Int) := tmod_nat k 8
        have hqN : k / 8 < N := by have := HN.out; omega
        have gx := (cell_of_row wr _ (k / 8) _ _ _ hx).trans (packTo_get l N k (k / 8) hqN)
        have fx : wr.frozen? ⟨w.heap.size, k / 8, none⟩ = false := frozen_of_row wr _ (k / 8) _ _ hx
        have y0 : (0 : Int) ≤ ((k / 8 : Nat) : Int) := by omega
        have y1 : ((k / 8 : Nat) : Int) < (N : Int) := by omega
        have y2 : (0 : Int) ≤ ((k % 8 : Nat) : Int) := by omega
        have hbt := octet_lt (l.take k) (k / 8)
        have hm8 : k % 8 < 8 := by omega
        obtain ⟨q, eq⟩ : ∃ q, q = k / 8 := ⟨_, rfl⟩
        obtain ⟨m, em⟩ : ∃ m, m = k % 8 := ⟨_, rfl⟩
        have hq64 := w64 (show q ≤ 9223372036854775807 by omega)
        have hm64 := w64 (show m ≤ 9223372036854775807 by omega)
        rw [← eq] at hq gx fx y0 y1 hON hqN hbt
        rw [← em] at hr y2 hON hm8
        obtain ⟨y, ey⟩ : ∃ y, y = octet (l.take k) q := ⟨_, rfl⟩
        rw [← ey] at gx hON hbt
        have HX := Lib.hid hx
        clear hx eq em ey
        go_wp2_with fail
        go_region
        go_wp2_with fail
        go_roundw
        case rel =>
          refine ⟨k + 1, by omega, rfl, (bk.setCell (Nat.le_refl _) _).drew, ?_⟩
          show (wr.setCell _ _).heap[w.heap.size]? = _
          rw [heap_setCell_same wr _ q _ _ _ HX.out, or_pow2 y m hbt hm8, hON.out trivial]
        case measure => simp [intOf]; omega
    · obtain rfl : k = n := by omega
      go_wp2_with fail
      go_ret
      refine ⟨_, rfl, ?_⟩
      have hNl : (l.length + 7) / 8 = N := by rw [Q1.out, HN.out]
      have H := Has.of_row bk hx (Nat.le_refl _) (packTo_size l N k) (by have := HN.out; simp only [maxLen]; omega)
      have hf := packTo_full l
      rw [hNl, Q1.out] at hf
      rw [hf] at H
      exact H
theorem unTo_part {b : List Nat} {k : Nat} (h : k ≤ 8 * b.length) : (unTo b k k).toList = bl ((unpack b).take k) := by
  have e : (unpack b).take k = (List.range k).map fun j => (b[j / 8]?.getD 0).testBit (j % 8) := by
    unfold unpack
    rw [← List.map_take, List.take_range, Nat.min_eq_left h]
  rw [e]
  simp only [unTo, bl, List.map_map]
  apply List.map_congr_left
  intro j hj
  simp [List.mem_range.1 hj]
theorem or16 (x y : Nat) (hx : x < 256) (hy : y < 256) : bits .or .u16 ((x : Int) * 256) (y : Int) = ((256 * x + y : Nat) : Int) := by
  have e : (x : Int) * 256 = ((256 * x : Nat) : Int) := by omega
  rw [e, u16_or_nat _ _ (by omega) (by omega)]
  exact congrArg Int.ofNat (Nat.two_pow_add_eq_or_of_lt (i := 8) (show y < 2 ^ 8 by omega) x).symm
theorem or32 (x y : Nat) (hx : x < 65536) (hy : y < 65536) : bits .or .u32 ((x : Int) * 65536) (y : Int) = ((65536 * x + y : Nat) : Int) := by
  have e : (x : Int) * 65536 = ((65536 * x : Nat) : Int) := by omega
  rw [e, u32_or_nat _ _ (by omega) (by omega)]
  exact congrArg Int.ofNat (Nat.two_pow_add_eq_or_of_lt (i := 16) (show y < 2 ^ 16 by omega) x).symm
theorem wide_any (h l : Nat) (hh : h < 65536) (hl : l < 65536) (w : World) :
    Calls Try.prog 19 #[.int .u16 (h : Nat), .int .u16 (l : Nat)] w fun e w' => e = .returned (.int .u32 ((65536 * h + l : Nat) : Int)) ∧ w = w' := by
  have w1 : IntKind.u32.wrap (h : Int) = (h : Int) := by rw [IntKind.wrap_u32]; omega
  have w2 : IntKind.u32.wrap (l : Int) = (l : Int) := by rw [IntKind.wrap_u32]; omega
  have w3 : IntKind.u32.wrap ((h : Int) * 65536) = (h : Int) * 65536 := by rw [IntKind.wrap_u32]; omega
  have HO := Lib.hid (or32 h l hh hl)
  go_enter Try.func19, Try.ntmps19
  go_wp2_with fail
  go_ret
  exact ⟨congrArg (fun v => Ending.returned (Value.int .u32 v)) HO.out, rfl⟩
theorem signed_any (x : Nat) (hx : x < 65536) (w : World) :
    Calls Try.prog 22 #[.int .u16 (x : Nat)] w fun e w' => e = .returned (.int .i64 (signed x)) ∧ w = w' := by
  have HS := Lib.hid (show wrap64 (IntKind.i16.wrap (x : Int)) = signed x from by
    have h1 : IntKind.i16.wrap (x : Int) = signed x := by unfold signed; simp [IntKind.wrap, IntKind.bits, IntKind.signed]; split <;> split <;> omega
    rw [h1]; unfold wrap64 signed; split <;> omega)
  go_enter Try.func22, Try.ntmps22
  go_wp2_with fail
  go_ret
  exact ⟨ret_i64 HS.out, rfl⟩
theorem parts_any (x : Nat) (hx : x < 4294967296) (w : World) :
    Calls Try.prog 20 #[.int .u32 (x : Nat)] w fun e w' => e = .returned (.tuple #[.int .u16 ((x / 65536 : Nat) : Int), .int .u16 ((x % 65536 : Nat) : Int)]) ∧ w = w' := by
  have w1 : IntKind.u16.wrap ((x : Int) / 65536) = (x : Int) / 65536 := by rw [IntKind.wrap_u16]; omega
  have H1 := Lib.hid (show (x : Int) / 65536 = ((x / 65536 : Nat) : Int) from by omega)
  have H2 := Lib.hid (show IntKind.u16.wrap (x : Int) = ((x % 65536 : Nat) : Int) from by rw [IntKind.wrap_u16]; omega)
  go_enter Try.func20, Try.ntmps20
  go_wp2_with fail
  go_ret2
  rw [← H1.out, ← H2.out]
  exact ⟨rfl, rfl⟩
theorem word_any (x : Int) (w : World) :
    Calls Try.prog 24 #[.int .i64 x] w fun e w' => e = .returned (.tuple #[.int .u16 (((word x).1 : Nat) : Int), .bool (word x).2]) ∧ w = w' := by
  by_cases h1 : x < -32768
  · have HE := Lib.hid (show word x = (0, false) from by unfold word; rw [if_neg (by omega)])
    go_enter Try.func24, Try.ntmps24
    go_wp2_with fail
    go_ret2
    rw [HE.out]
    exact ⟨rfl, rfl⟩
  by_cases h2 : 32767 < x
  · have HE := Lib.hid (show word x = (0, false) from by unfold word; rw [if_neg (by omega)])
    have h1d : decide (x < -32768) = false := decide_eq_false h1
    go_enter Try.func24, Try.ntmps24
    go_wp2_with fail
    go_ret2
    rw [HE.out]
    exact ⟨rfl, rfl⟩
  have HE := Lib.hid (show word x = ((x % 65536).toNat, true) from by unfold word; rw [if_pos (by omega)])
  have w1 : IntKind.u16.wrap x = (((x % 65536).toNat : Nat) : Int) := by rw [IntKind.wrap_u16]; omega
  obtain ⟨y, ey⟩ : ∃ y, y = (x % 65536).toNat := ⟨_, rfl⟩
  rw [← ey] at w1 HE
  have h1d : decide (x < -32768) = false := decide_eq_false h1
  have h2d : decide (32767 < x) = false := decide_eq_false h2
  clear ey
  go_enter Try.func24, Try.ntmps24
  go_wp2_with fail
  go_ret2
  rw [HE.out]
  exact ⟨rfl, rfl⟩
set_option maxHeartbeats 1000000 in
theorem bits_any (A : Option Addr) (n c : Nat) (xs : List Nat) (N : Int) (w : World) (hs : Sl w w.heap.size A n (bs xs)) (hx : Bytes xs) (hn : n ≤ 12500) (h0 : -9223372036854775808 ≤ N) (h1 : N ≤ 9223372036854775807) :
    Calls Try.prog 11 #[.slice A n c, .int .i64 N] w (RetBits w (bitsOf xs N)) := by
  have q1 : xs.length = n := by simpa using hs.len
  by_cases hneg : N < 0
  · have HR := Lib.hid (bits_neg xs hneg)
    clear hs hx q1
    go_enter Try.func11, Try.ntmps11
    go_wp2_with fail
    go_ret
    rw [HR.out]
    exact RetBits.none (Below.refl _ _)
  obtain ⟨k, rfl⟩ : ∃ k : Nat, N = (k : Int) := ⟨N.toNat, by omega⟩
  have hnegd : decide ((k : Int) < 0) = false := decide_eq_false hneg
  have K1 := Lib.hid (fun w => size_any k (by omega) w)
  have HM := Lib.hid (show (k + 7) / 8 = (k + 7) / 8 from rfl)
  obtain ⟨M, hM⟩ : ∃ M, M = (k + 7) / 8 := ⟨_, rfl⟩
  rw [← hM] at K1
  by_cases hcnt : M = n
  · have HC := Lib.hid (bits_clean (k := k) hx (by omega))
    have K2 := Lib.hid (fun w' (S : Sl w' w'.heap.size A n (bs xs)) => clean_any A n c k xs w' S hx (by omega) (by omega))
    have hnn : ((n : Int) != (M : Int)) = false := by rw [hcnt]; simp
    obtain ⟨R, hR⟩ : ∃ R, R = bitsOf xs (k : Nat) := ⟨_, rfl⟩
    rw [← hR] at HC ⊢
    clear hR
    cases hcl : cleanF xs k
    · rw [hcl] at K2 HC
      clear HM hM hcnt hcl
      go_enter Try.func11, Try.ntmps11
      go_wp2_with fail
      refine (K1.out _).mono ?_
      rintro e w1 ⟨rfl, rfl⟩
      go_wp2_with fail
      refine (K2.out _ hs).mono ?_
      rintro e w1 ⟨rfl, rfl⟩
      go_wp2_with fail
      go_ret
      rw [HC.out]
      exact RetBits.none (Below.refl _ _)
    · rw [hcl] at K2 HC
      have Q1 := Lib.hid q1
      have HX := Lib.hid hx
      have hk8 : k ≤ 8 * n := by omega
      have HK8 := Lib.hid hk8
      obtain ⟨i0, hi0, hz0, hs0, hb0⟩ := info_parts (P := Try.prog) (e := 4) (z := .bool false) (size := 1) (bytes := 1) (by kernel_rfl)
      clear HM hM hcnt hcl hneg q1 h0 h1 hx hk8
      go_enter Try.func11, Try.ntmps11
      go_wp2_with fail
      refine (K1.out _).mono ?_
      rintro e w1 ⟨rfl, rfl⟩
      go_wp2_with fail
      refine (K2.out _ hs).mono ?_
      rintro e w1 ⟨rfl, rfl⟩
      clear K1 K2
      go_wp2_with (at_make; refine wpList_makeN Try.underlying23 hi0 hz0 hs0 rfl rfl _ _ rfl k rfl rfl (by have := HK8.out; rw [hb0]; omega) (by have := HK8.out; omega) ?_)
      go_loopw [25] (fun i wr => ∃ j : Nat, j ≤ k ∧ i = .int .i64 j ∧ Below w.heap.size w wr ∧ wr.heap[w.heap.size]? = some (.cells (unTo xs k j) 4 (0, 0))) (fun i _ => k - (intOf i).toNat)
      case atStart => exact ⟨0, by omega, rfl, (Below.refl _ w).new _, by rw [unTo_zero]; exact heap_alloc_new w _⟩
      case round =>
        obtain ⟨j, hj, rfl, bk, hx⟩ := hrel
        by_cases hlt : j < k
        · have s1 := hs.below bk
          have h8 : j / 8 < n := by have := HK8.out; omega
          obtain ⟨b, o, rfl, hbl, d1⟩ := s1.2 (by omega)
          have g1 := (d1 (j / 8) h8).trans (bs_get (by rw [Q1.out]; exact h8))
          have hj9 : j ≤ 100000 := by have := HK8.out; omega
          have z0 : (0 : Int) ≤ (j : Int) := by omega
          have z1 : (j : Int) < (k : Int) := by omega
          have z2 : (0 : Int) ≤ ((j / 8 : Nat) : Int) := by omega
          have z3 : ((j / 8 : Nat) : Int) < (n : Int) := by omega
          have hq : Int.tdiv (j : Int) 8 = ((j / 8 : Nat) : Int) := tdiv_nat j 8
          have hr : Int.tmod (j : Int) 8 = ((j % 8 : Nat) : Int) := tmod_nat j 8
          have hq64 := w64 (show j / 8 ≤ 9223372036854775807 by omega)
          have hm64 := w64 (show j % 8 ≤ 9223372036854775807 by omega)
          have y2 : (0 : Int) ≤ ((j % 8 : Nat) : Int) := by omega
          have hm8 : j % 8 < 8 := by omega
          have hbt := HX.out.at (j / 8)
          have hset := Lib.hid (unTo_set xs k j)
          have gx := (cell_of_row wr _ j _ _ _ hx).trans (unTo_get xs k j j hlt)
          have fx : wr.frozen? ⟨w.heap.size, j, none⟩ = false := frozen_of_row wr _ j _ _ hx
          obtain ⟨q, eq⟩ : ∃ q, q = j / 8 := ⟨_, rfl⟩
          obtain ⟨m, em⟩ : ∃ m, m = j % 8 := ⟨_, rfl⟩
          rw [← eq] at hq g1 z2 z3 hq64 hset hbt gx
          rw [← em] at hr y2 hm8 hm64 hset gx
          obtain ⟨y, ey⟩ : ∃ y, y = xs[q]?.getD 0 := ⟨_, rfl⟩
          rw [← ey] at g1 hset hbt gx
          have HX := Lib.hid hx
          clear d1 ey eq em s1 hs hx
          go_wp2_with fail
          go_roundw
          case rel =>
            refine ⟨j + 1, by omega, by go_num, bk.setCell (Nat.le_refl _) _, ?_⟩
            rw [heap_setCell_same wr _ j _ _ _ HX.out, bit_of y m hbt, hset.out]
          case measure => simp [intOf]; omega
        · obtain rfl : j = k := by omega
          go_wp2_with fail
          go_ret
          rw [HC.out, if_pos trivial]
          have hl : ((unpack xs).take j).length = j := by rw [List.length_take, unpack_length, Q1.out]; have := HK8.out; omega
          refine ⟨_, rfl, ?_⟩
          have H := Has.of_row bk hx (Nat.le_refl _) (unTo_size xs j j) (by have := HK8.out; simp only [maxLen]; omega)
          rw [unTo_part (by rw [Q1.out]; exact HK8.out)] at H
          rw [hl]
          exact H
  · have HR := Lib.hid (bits_count (b := xs) (n := k) (by omega))
    have hnn : ((n : Int) != (M : Int)) = true := by rw [bne_iff_ne]; omega
    clear HM hM hcnt hs hx q1
    go_enter Try.func11, Try.ntmps11
    go_wp2_with fail
    refine (K1.out _).mono ?_
    rintro e w1 ⟨rfl, rfl⟩
    go_wp2_with fail
    go_ret
    rw [HR.out]
    exact RetBits.none (Below.refl _ _)
set_option maxHeartbeats 1000000 in
theorem regs_any (A : Option Addr) (n c : Nat) (xs : List Nat) (w : World) (hs : Sl w w.heap.size A n (bs xs)) (hx : Bytes xs) (hn : n ≤ 100000) :
    Calls Try.prog 8 #[.slice A n c] w (RetRegs w (regsE xs)) := by
  have q1 : xs.length = n := by simpa using hs.len
  by_cases he : n % 2 = 0
  · have HE := Lib.hid (show regsE xs = (regs xs, true) from by unfold regsE; rw [if_pos (by omega)])
    have HL := Lib.hid (show (regs xs).length = n / 2 from by rw [regs_length, q1])
    have Q1 := Lib.hid q1
    have HX := Lib.hid hx
    have hrem : Int.tmod (n : Int) 2 = 0 := by rw [Int.tmod_eq_emod_of_nonneg (by omega)]; omega
    have hquo : Int.tdiv (n : Int) 2 = ((n / 2 : Nat) : Int) := tdiv_nat n 2
    obtain ⟨h, hh⟩ : ∃ h, h = n / 2 := ⟨_, rfl⟩
    rw [← hh] at hquo HL
    have hn2 : n = 2 * h := by omega
    have hn3 : h ≤ 50000 := by omega
    have HN := Lib.hid hn2
    have h64 := w64 (show h ≤ 9223372036854775807 by omega)
    obtain ⟨i0, hi0, hz0, hs0, hb0⟩ := info_parts (P := Try.prog) (e := 36) (z := .int .u16 0) (size := 1) (bytes := 2) (by kernel_rfl)
    clear q1 hx he hh hn2
    go_enter Try.func8, Try.ntmps8
    go_wp2_with (at_make; refine wpList_makeN Try.underlying24 hi0 hz0 hs0 rfl rfl _ _ rfl h rfl rfl (by rw [hb0]; omega) (by omega) ?_)
    go_loopw [16] (fun i wr => ∃ k : Nat, k ≤ h ∧ i = .int .i64 k ∧ Below w.heap.size w wr ∧ wr.heap[w.heap.size]? = some (.cells (fillTo (.int .u16 0) (fun i => .int .u16 (((regs xs)[i]?.getD 0 : Nat) : Int)) h k) 36 (0, 0))) (fun i _ => h - (intOf i).toNat)
    case atStart => exact ⟨0, by omega, rfl, (Below.refl _ w).new _, by rw [fillTo_zero]; exact heap_alloc_new w _⟩
    case round =>
      obtain ⟨k, hk, rfl, bk, hx⟩ := hrel
      by_cases hlt : k < h
      · have s1 := hs.below bk
        obtain ⟨b, o, rfl, hbl, d1⟩ := s1.2 (by have := HN.out; omega)
        have hI1 : IntKind.i64.wrap (2 * (k : Int)) = ((2 * k : Nat) : Int) := by rw [IntKind.wrap_i64]; omega
        have hI2 : IntKind.i64.wrap (((2 * k : Nat) : Int) + 1) = ((2 * k + 1 : Nat) : Int) := by rw [IntKind.wrap_i64]; omega
        have hI9 : 2 * k + 1 < n := by have := HN.out; omega
        have hS := Lib.hid (fillTo_set (.int .u16 0) (fun i => .int .u16 (((regs xs)[i]?.getD 0 : Nat) : Int)) h k)
        have gx := (cell_of_row wr _ k _ _ _ hx).trans (fillTo_get (.int .u16 0) (fun i => .int .u16 (((regs xs)[i]?.getD 0 : Nat) : Int)) h k k hlt)
        rw [if_neg (Nat.lt_irrefl k)] at gx
        have fx : wr.frozen? ⟨w.heap.size, k, none⟩ = false := frozen_of_row wr _ k _ _ hx
        have hV := regs_get (xs := xs) (i := k) (by rw [Q1.out]; exact hI9)
        rw [hV] at hS
        have g1 := (d1 (2 * k) (by omega)).trans (bs_get (by rw [Q1.out]; omega))
        have g2 := (d1 (2 * k + 1) (by omega)).trans (bs_get (by rw [Q1.out]; omega))
        have hx1 := HX.out.at (2 * k)
        have hy1 := HX.out.at (2 * k + 1)
        obtain ⟨I, eI⟩ : ∃ I, I = 2 * k := ⟨_, rfl⟩
        obtain ⟨J, eJ⟩ : ∃ J, J = 2 * k + 1 := ⟨_, rfl⟩
        rw [← eJ] at hI2 hI9 g2 hy1 hS
        rw [← eI] at hI1 hI2 g1 hx1 hS
        have z0 : (0 : Int) ≤ (I : Int) := by omega
        have z1 : (0 : Int) ≤ (J : Int) := by omega
        have z2 : (I : Int) < (n : Int) := by omega
        have z3 : (J : Int) < (n : Int) := by omega
        have z4 : (0 : Int) ≤ (k : Int) := by omega
        have z5 : (k : Int) < (h : Int) := by omega
        obtain ⟨x, ex⟩ : ∃ x, x = xs[I]?.getD 0 := ⟨_, rfl⟩
        obtain ⟨y, ey⟩ : ∃ y, y = xs[J]?.getD 0 := ⟨_, rfl⟩
        rw [← ex] at g1 hx1 hS
        rw [← ey] at g2 hy1 hS
        have HR := Lib.hid hx
        clear d1 ex ey eI eJ s1 hs hx hV
        go_wp2_with fail
        go_region
        go_wp2_with fail
        go_roundw
        case rel =>
          refine ⟨k + 1, by omega, by go_num, (bk.setCell (Nat.le_refl _) _).drew, ?_⟩
          show (wr.setCell _ _).heap[w.heap.size]? = _
          rw [heap_setCell_same wr _ k _ _ _ HR.out, or16 x y hx1 hy1, hS.out]
        case measure => simp [intOf]; omega
      · obtain rfl : k = h := by omega
        go_wp2_with fail
        go_ret2
        rw [HE.out]
        refine ⟨_, rfl, ?_⟩
        have H := Has.of_row bk hx (Nat.le_refl _) (fillTo_size _ _ k k) (by simp only [maxLen]; omega)
        rw [fillTo_full] at H
        dsimp only
        rw [HL.out]
        have e : (List.range k).map (fun i => Value.int .u16 (((regs xs)[i]?.getD 0 : Nat) : Int)) = ws (regs xs) := by
          rw [← HL.out]; exact range_map_getD (regs xs) 0 fun v => Value.int .u16 ((v : Nat) : Int)
        rw [e] at H
        exact H
  · have HE := Lib.hid (show regsE xs = ([], false) from by unfold regsE; rw [if_neg (by omega)])
    have hrem : Int.tmod (n : Int) 2 = 1 := by rw [Int.tmod_eq_emod_of_nonneg (by omega)]; omega
    clear q1 hs hx
    go_enter Try.func8, Try.ntmps8
    go_wp2_with fail
    go_ret2
    rw [HE.out]
    exact ⟨_, rfl, Has.nil_ (Below.refl _ _) _⟩
theorem twos_get : ∀ {l : List Nat} {k : Nat}, k < l.length → (twos l)[2 * k]?.getD 0 = l[k]?.getD 0 / 256 ∧ (twos l)[2 * k + 1]?.getD 0 = l[k]?.getD 0 % 256
  | [], k, h => by simp at h
  | x :: l, 0, h => ⟨rfl, rfl⟩
  | x :: l, k + 1, h => by
    have h1 : k < l.length := by simp at h; omega
    have h2 := twos_get h1
    rw [twos_cons, show 2 * (k + 1) = 2 * k + 1 + 1 by omega]
    exact h2
set_option maxHeartbeats 1000000 in
theorem packRegs_any (A : Option Addr) (n c : Nat) (l : List Nat) (w : World) (hs : Sl w w.heap.size A n (ws l)) (hw : ∀ x ∈ l, x < 65536) (hn : n ≤ 100000) :
    Calls Try.prog 16 #[.slice A n c] w fun e w' => ∃ v, e = .returned v ∧ Has w w' 5 v (2 * n) (bs (twos l)) := by
  have q1 : l.length = n := by simpa using hs.len
  have Q1 := Lib.hid q1
  have HW := Lib.hid hw
  have hN64 : IntKind.i64.wrap (2 * (n : Int)) = ((2 * n : Nat) : Int) := by rw [IntKind.wrap_i64]; omega
  obtain ⟨N, hN⟩ : ∃ N, N = 2 * n := ⟨_, rfl⟩
  rw [← hN] at hN64 ⊢
  have HN := Lib.hid hN
  have HTL := Lib.hid (show (twos l).length = N from by rw [twos_length, q1, hN])
  obtain ⟨i0, hi0, hz0, hs0, hb0⟩ := info_parts (P := Try.prog) (e := 5) (z := .int .u8 0) (size := 1) (bytes := 1) (by kernel_rfl)
  clear q1 hw hN
  go_enter Try.func16, Try.ntmps16
  go_wp2_with (at_make; refine wpList_makeN Try.underlying22 hi0 hz0 hs0 rfl rfl _ _ rfl N rfl rfl (by have := HN.out; rw [hb0]; omega) (by have := HN.out; omega) ?_)
  go_loopw [11] (fun i wr => ∃ k : Nat, k ≤ n ∧ i = .int .i64 k ∧ Below w.heap.size w wr ∧ wr.heap[w.heap.size]? = some (.cells (fillTo (.int .u8 0) (fun i => .int .u8 (((twos l)[i]?.getD 0 : Nat) : Int)) N (2 * k)) 5 (0, 0))) (fun i _ => n - (intOf i).toNat)
  case atStart => exact ⟨0, by omega, rfl, (Below.refl _ w).new _, by rw [show 2 * 0 = 0 from rfl, fillTo_zero]; exact heap_alloc_new w _⟩
  case round =>
    obtain ⟨k, hk, rfl, bk, hx⟩ := hrel
    by_cases hlt : k < n
    · have s1 := hs.below bk
      obtain ⟨b, o, rfl, hbl, d1⟩ := s1.2 (by omega)
      have g1 := (d1 k hlt).trans (ws_get (by rw [Q1.out]; exact hlt))
      have hX : l[k]?.getD 0 < 65536 := by
        rw [List.getElem?_eq_getElem (by rw [Q1.out]; exact hlt)]; exact HW.out _ (List.getElem_mem _)
      have hT := twos_get (l := l) (k := k) (by rw [Q1.out]; exact hlt)
      have hI1 : IntKind.i64.wrap (2 * (k : Int)) = ((2 * k : Nat) : Int) := by rw [IntKind.wrap_i64]; omega
      have hI2 : IntKind.i64.wrap (((2 * k : Nat) : Int) + 1) = ((2 * k + 1 : Nat) : Int) := by rw [IntKind.wrap_i64]; omega
      have hI9 : 2 * k + 1 < N := by have := HN.out; omega
      have hS1 := Lib.hid (fillTo_set (.int .u8 0) (fun i => .int .u8 (((twos l)[i]?.getD 0 : Nat) : Int)) N (2 * k))
      have hS2 := Lib.hid (fillTo_set (.int .u8 0) (fun i => .int .u8 (((twos l)[i]?.getD 0 : Nat) : Int)) N (2 * k + 1))
      rw [hT.1] at hS1
      rw [hT.2] at hS2
      have gx1 := (cell_of_row wr _ (2 * k) _ _ _ hx).trans (fillTo_get (.int .u8 0) (fun i => .int .u8 (((twos l)[i]?.getD 0 : Nat) : Int)) N (2 * k) (2 * k) (by omega))
      rw [if_neg (Nat.lt_irrefl _)] at gx1
      have fx1 : wr.frozen? ⟨w.heap.size, 2 * k, none⟩ = false := frozen_of_row wr _ (2 * k) _ _ hx
      have gx2 := (cell_of_row wr _ (2 * k + 1) _ _ _ hx).trans (fillTo_get (.int .u8 0) (fun i => .int .u8 (((twos l)[i]?.getD 0 : Nat) : Int)) N (2 * k) (2 * k + 1) (by omega))
      rw [if_neg (show ¬ 2 * k + 1 < 2 * k by omega)] at gx2
      have fx2 : wr.frozen? ⟨w.heap.size, 2 * k + 1, none⟩ = false := frozen_of_row wr _ (2 * k + 1) _ _ hx
      obtain ⟨x, ex⟩ : ∃ x, x = l[k]?.getD 0 := ⟨_, rfl⟩
      rw [← ex] at g1 hX hS1 hS2
      have v1 : IntKind.u8.wrap ((x : Int) / 256) = ((x / 256 : Nat) : Int) := by rw [IntKind.wrap_u8]; omega
      have v2 : IntKind.u8.wrap (x : Int) = ((x % 256 : Nat) : Int) := by rw [IntKind.wrap_u8]; omega
      obtain ⟨p, ep⟩ : ∃ p, p = x / 256 := ⟨_, rfl⟩
      obtain ⟨q, eq⟩ : ∃ q, q = x % 256 := ⟨_, rfl⟩
      rw [← ep] at v1 hS1
      rw [← eq] at v2 hS2
      obtain ⟨J, eJ⟩ : ∃ J, J = 2 * k + 1 := ⟨_, rfl⟩
      obtain ⟨I, eI⟩ : ∃ I, I = 2 * k := ⟨_, rfl⟩
      rw [← eJ] at hI2 hI9 hS1 hS2 gx2 fx2
      rw [← eI] at hI1 hI2 hS1 gx1 fx1 hx
      have HJ := Lib.hid (show J + 1 = 2 * (k + 1) by omega)
      have z0 : (0 : Int) ≤ (I : Int) := by omega
      have z1 : (0 : Int) ≤ (J : Int) := by omega
      have z2 : (I : Int) < (N : Int) := by omega
      have z3 : (J : Int) < (N : Int) := by omega
      have z4 : (0 : Int) ≤ (k : Int) := by omega
      have z5 : (k : Int) < (n : Int) := by omega
      have hr1 := heap_setCell_same wr w.heap.size I _ _ (.int .u8 (p : Int)) hx
      rw [hS1.out] at hr1
      have gx3 := (cell_of_row _ _ J _ _ _ hr1).trans (fillTo_get (.int .u8 0) (fun i => .int .u8 (((twos l)[i]?.getD 0 : Nat) : Int)) N J J (by omega))
      rw [if_neg (Nat.lt_irrefl J)] at gx3
      have fx3 : (wr.setCell ⟨w.heap.size, I, none⟩ (.int .u8 (p : Int))).frozen? ⟨w.heap.size, J, none⟩ = false := frozen_of_row _ _ J _ _ hr1
      have hr2 := heap_setCell_same (wr.setCell ⟨w.heap.size, I, none⟩ (.int .u8 (p : Int))) w.heap.size J _ _ (.int .u8 (q : Int)) hr1
      rw [hS2.out] at hr2
      have HR := Lib.hid hr2
      clear d1 ex ep eq eI eJ s1 hs hx hT hr1 hr2
      go_wp2_with fail
      go_region
      all_goals (
        go_wp2_with fail
        go_roundw
        case rel =>
          refine ⟨k + 1, by omega, by go_num, ((bk.setCell (Nat.le_refl _) _).setCell (Nat.le_refl _) _).drew, ?_⟩
          rw [← HJ.out]
          exact HR.out
        case measure => simp [intOf]; omega)
    · obtain rfl : k = n := by omega
      go_wp2_with fail
      go_ret
      refine ⟨_, rfl, ?_⟩
      rw [← HN.out] at hx
      have H := Has.of_row bk hx (Nat.le_refl _) (fillTo_size _ _ N N) (by have := HN.out; simp only [maxLen]; omega)
      rw [fillTo_full] at H
      have e : (List.range N).map (fun i => Value.int .u8 (((twos l)[i]?.getD 0 : Nat) : Int)) = bs (twos l) := by
        rw [← HTL.out]; exact range_map_getD (twos l) 0 fun v => Value.int .u8 ((v : Nat) : Int)
      rw [e] at H
      exact H
end Go.Proofs.Ytcckplpfgpagmaa.WdW
