/- The walks of words. -/
import Derived.Test.YtegcnnbhgdafmaaDoorWdD
import Derived.Test.YtegcnnbhgdafmaaDoorFill
import Derived.Test.YtegcnnbhgdafmaaDoorBase
import Derived.Test.YtegcnnbhgdafmaaDoorWdOne
import Derived.BigRegion
set_option linter.unusedVariables false
set_option linter.unusedSimpArgs false
namespace Go.Proofs.YtegcnnbhgdafmaaDoor.WdW
open Go.RowKit Go.Proofs.YtegcnnbhgdafmaaDoor Go.Proofs.YtegcnnbhgdafmaaDoor.Wd Go.Proofs.YtegcnnbhgdafmaaDoor.Ask
theorem tdiv_nat (a b : Nat) : Int.tdiv (a : Int) (b : Int) = ((a / b : Nat) : Int) := by
  rw [Int.tdiv_eq_ediv_of_nonneg (by omega), Int.natCast_ediv]
theorem tmod_nat (a b : Nat) : Int.tmod (a : Int) (b : Int) = ((a % b : Nat) : Int) := by
  rw [Int.tmod_eq_emod_of_nonneg (by omega), Int.natCast_emod]
/-- Are the bits off that are behind the first k? -/
def cleanF (xs : List Nat) (k : Nat) : Bool := decide (k % 8 = 0) || decide (xs[k / 8]?.getD 0 / 2 ^ (k % 8) = 0)
theorem octet_eq_iff (L : List Bool) (x j : Nat) (hx : x < 256) : octet L j = x ↔ ∀ m, m < 8 → L[8 * j + m]?.getD false = x.testBit m := by
  constructor
  · intro h m hm
    rw [← octet_testBit L j m hm, h]
  · intro h
    apply Nat.eq_of_testBit_eq
    intro i
    by_cases hi : i < 8
    · rw [octet_testBit L j i hi, h i hi]
    · have hp : 2 ^ 8 ≤ 2 ^ i := Nat.pow_le_pow_right (by decide) (by omega)
      rw [Nat.testBit_lt_two_pow (Nat.lt_of_lt_of_le (octet_lt L j) hp), Nat.testBit_lt_two_pow (Nat.lt_of_lt_of_le hx hp)]
/-- Bytes that are as many as k bits need are these bits packed if nothing is on behind them. -/
theorem pack_take_iff {xs : List Nat} {k : Nat} (hb : Bytes xs) (hl : xs.length = (k + 7) / 8) : pack ((unpack xs).take k) = xs ↔ cleanF xs k = true := by
  have hL : ((unpack xs).take k).length = k := by rw [List.length_take, unpack_length]; omega
  have hg : ∀ i, i < 8 * xs.length → ((unpack xs).take k)[i]?.getD false = (decide (i < k) && (xs[i / 8]?.getD 0).testBit (i % 8)) := by
    intro i hi
    rw [List.getElem?_take]
    by_cases h : i < k
    · rw [if_pos h, unpack_get hi, decide_eq_true h, Bool.true_and]
    · rw [if_neg h, decide_eq_false h, Bool.false_and]; rfl
  have hj : ∀ j, j < xs.length → (octet ((unpack xs).take k) j = xs[j]?.getD 0 ↔ ∀ m, m < 8 → k ≤ 8 * j + m → (xs[j]?.getD 0).testBit m = false) := by
    intro j hj
    rw [octet_eq_iff _ _ _ (hb.at j)]
    constructor
    · intro h m hm hk
      have := h m hm
      rw [hg _ (by omega), decide_eq_false (by omega), Bool.false_and] at this
      exact this.symm
    · intro h m hm
      rw [hg _ (by omega), show (8 * j + m) / 8 = j by omega, show (8 * j + m) % 8 = m by omega]
      by_cases hk : 8 * j + m < k
      · rw [decide_eq_true hk, Bool.true_and]
      · rw [h m hm (by omega), Bool.and_false]
  unfold cleanF
  rw [Bool.or_eq_true, decide_eq_true_iff, decide_eq_true_iff]
  constructor
  · intro h
    by_cases hm : k % 8 = 0
    · exact .inl hm
    · right
      have h8 : k / 8 < xs.length := by omega
      have h1 : octet ((unpack xs).take k) (k / 8) = xs[k / 8]?.getD 0 := by
        have := congrArg (fun l => l[k / 8]?.getD 0) h
        rw [pack_get (by rw [hL]; omega)] at this
        exact this
      rw [hj _ h8] at h1
      apply Nat.div_eq_of_lt
      apply Nat.lt_pow_two_of_testBit
      intro i hi
      by_cases h88 : i < 8
      · exact h1 i h88 (by omega)
      · exact Nat.testBit_lt_two_pow (Nat.lt_of_lt_of_le (hb.at _) (show 2 ^ 8 ≤ 2 ^ i from Nat.pow_le_pow_right (by decide) (by omega)))
  · intro h
    refine ext_getD 0 (by rw [pack_length, hL, hl]) (fun j hj' => ?_)
    rw [pack_length, hL] at hj'
    rw [pack_get (by rw [hL]; exact hj'), hj j (by omega)]
    intro m hm hk
    rcases h with h | h
    · omega
    · have e : j = k / 8 := by omega
      subst e
      have h2 : xs[k / 8]?.getD 0 < 2 ^ (k % 8) := by
        rcases Nat.lt_or_ge (xs[k / 8]?.getD 0) (2 ^ (k % 8)) with h' | h'
        · exact h'
        · have := Nat.div_pos h' (Nat.two_pow_pos _)
          omega
      exact Nat.testBit_lt_two_pow (Nat.lt_of_lt_of_le h2 (Nat.pow_le_pow_right (by decide) (by omega)))
theorem bits_clean {xs : List Nat} {k : Nat} (hb : Bytes xs) (hl : xs.length = (k + 7) / 8) : bitsOf xs (k : Nat) = if cleanF xs k then (unpack xs).take k else [] := by
  have h := pack_take_iff hb hl
  unfold bitsOf
  rw [Int.toNat_natCast]
  by_cases hc : cleanF xs k = true
  · rw [if_pos hc, if_pos ⟨by omega, by omega, h.2 hc⟩]
  · rw [if_neg hc, if_neg (fun h' => hc (h.1 h'.2.2))]
theorem or_pow2 (y m : Nat) (hy : y < 256) (hm : m < 8) : bits .or .u8 (y : Int) ((2 : Int) ^ m % 256) = ((y ||| 2 ^ m : Nat) : Int) := by
  have e : (2 : Int) ^ m % 256 = ((2 ^ m : Nat) : Int) := by
    obtain rfl | rfl | rfl | rfl | rfl | rfl | rfl | rfl : m = 0 ∨ m = 1 ∨ m = 2 ∨ m = 3 ∨ m = 4 ∨ m = 5 ∨ m = 6 ∨ m = 7 := by omega
    all_goals rfl
  rw [e]
  refine u8_or_nat y (2 ^ m) hy ?_
  exact Nat.pow_lt_pow_of_lt (a := 2) (n := m) (m := 8) (by omega) hm
theorem bit_of (y m : Nat) (hy : y < 256) : (bits .and .u8 ((y : Int) / (2 : Int) ^ m) 1 == 1) = y.testBit m := by
  have e : (y : Int) / (2 : Int) ^ m = ((y / 2 ^ m : Nat) : Int) := by
    rw [Int.natCast_ediv, Int.natCast_pow]; rfl
  have h := u8_and_nat (y / 2 ^ m) 1 (Nat.lt_of_le_of_lt (Nat.div_le_self _ _) hy) (by omega)
  rw [e, show (1 : Int) = ((1 : Nat) : Int) from rfl, h, Nat.and_one_is_mod, Nat.testBit_eq_decide_div_mod_eq, Bool.eq_iff_iff]
  simp
  omega
theorem unTo_part {b : List Nat} {k : Nat} (h : k ≤ 8 * b.length) : (unTo b k k).toList = bl ((unpack b).take k) := by
  have e : (unpack b).take k = (List.range k).map fun j => (b[j / 8]?.getD 0).testBit (j % 8) := by
    unfold unpack
    rw [← List.map_take, List.take_range, Nat.min_eq_left h]
  rw [e]
  simp only [unTo, bl, List.map_map]
  apply List.map_congr_left
  intro j hj
  simp [List.mem_range.1 hj]
theorem or16 (x y : Nat) (hx : x < 256) (hy : y < 256) : bits .or .u16 ((x : Int) * 256) (y : Int) = ((256 * x + y : Nat) : Int) := by
  have e : (x : Int) * 256 = ((256 * x : Nat) : Int) := by omega
  rw [e, u16_or_nat _ _ (by omega) (by omega)]
  exact congrArg Int.ofNat (Nat.two_pow_add_eq_or_of_lt (i := 8) (show y < 2 ^ 8 by omega) x).symm
theorem or32 (x y : Nat) (hx : x < 65536) (hy : y < 65536) : bits .or .u32 ((x : Int) * 65536) (y : Int) = ((65536 * x + y : Nat) : Int) := by
  have e : (x : Int) * 65536 = ((65536 * x : Nat) : Int) := by omega
  rw [e, u32_or_nat _ _ (by omega) (by omega)]
  exact congrArg Int.ofNat (Nat.two_pow_add_eq_or_of_lt (i := 16) (show y < 2 ^ 16 by omega) x).symm
theorem twos_get : ∀ {l : List Nat} {k : Nat}, k < l.length → (twos l)[2 * k]?.getD 0 = l[k]?.getD 0 / 256 ∧ (twos l)[2 * k + 1]?.getD 0 = l[k]?.getD 0 % 256
  | [], k, h => by simp at h
  | x :: l, 0, h => ⟨rfl, rfl⟩
  | x :: l, k + 1, h => by
    have h1 : k < l.length := by simp at h; omega
    have h2 := twos_get h1
    rw [twos_cons, show 2 * (k + 1) = 2 * k + 1 + 1 by omega]
    exact h2
set_option maxHeartbeats 1000000 in
theorem packRegs_any (A : Option Addr) (n c : Nat) (l : List Nat) (w : World) (hs : Sl w w.heap.size A n (ws l)) (hw : ∀ x ∈ l, x < 65536) (hn : n ≤ 100000) :
    Calls Tryd.prog 18 #[.slice A n c] w fun e w' => ∃ v, e = .returned v ∧ Has w w' 5 v (2 * n) (bs (twos l)) := by
  have q1 : l.length = n := by simpa using hs.len
  have Q1 := Lib.hid q1
  have HW := Lib.hid hw
  have hN64 : IntKind.i64.wrap (2 * (n : Int)) = ((2 * n : Nat) : Int) := by rw [IntKind.wrap_i64]; omega
  obtain ⟨N, hN⟩ : ∃ N, N = 2 * n := ⟨_, rfl⟩
  rw [← hN] at hN64 ⊢
  have HN := Lib.hid hN
  have HTL := Lib.hid (show (twos l).length = N from by rw [twos_length, q1, hN])
  obtain ⟨i0, hi0, hz0, hs0, hb0⟩ := info_parts (P := Tryd.prog) (e := 5) (z := .int .u8 0) (size := 1) (bytes := 1) (by kernel_rfl)
  clear q1 hw hN
  go_enter Tryd.func18, Tryd.ntmps18
  go_wp2_with (at_make; refine wpList_makeN Tryd.underlying23 hi0 hz0 hs0 rfl rfl _ _ rfl N rfl rfl (by have := HN.out; rw [hb0]; omega) (by have := HN.out; omega) ?_)
  go_loopw [11] (fun i wr => ∃ k : Nat, k ≤ n ∧ i = .int .i64 k ∧ Below w.heap.size w wr ∧ wr.heap[w.heap.size]? = some (.cells (fillTo (.int .u8 0) (fun i => .int .u8 (((twos l)[i]?.getD 0 : Nat) : Int)) N (2 * k)) 5 (0, 0))) (fun i _ => n - (intOf i).toNat)
  case atStart => exact ⟨0, by omega, rfl, (Below.refl _ w).new _, by rw [show 2 * 0 = 0 from rfl, fillTo_zero]; exact heap_alloc_new w _⟩
  case round =>
    obtain ⟨k, hk, rfl, bk, hx⟩ := hrel
    by_cases hlt : k < n
    · have s1 := hs.below bk
      obtain ⟨b, o, rfl, hbl, d1⟩ := s1.2 (by omega)
      have g1 := (d1 k hlt).trans (ws_get (by rw [Q1.out]; exact hlt))
      have hX : l[k]?.getD 0 < 65536 := by
        rw [List.getElem?_eq_getElem (by rw [Q1.out]; exact hlt)]; exact HW.out _ (List.getElem_mem _)
      have hT := twos_get (l := l) (k := k) (by rw [Q1.out]; exact hlt)
      have hI1 : IntKind.i64.wrap (2 * (k : Int)) = ((2 * k : Nat) : Int) := by rw [IntKind.wrap_i64]; omega
      have hI2 : IntKind.i64.wrap (((2 * k : Nat) : Int) + 1) = ((2 * k + 1 : Nat) : Int) := by rw [IntKind.wrap_i64]; omega
      have hI9 : 2 * k + 1 < N := by have := HN.out; omega
      have hS1 := Lib.hid (fillTo_set (.int .u8 0) (fun i => .int .u8 (((twos l)[i]?.getD 0 : Nat) : Int)) N (2 * k))
      have hS2 := Lib.hid (fillTo_set (.int .u8 0) (fun i => .int .u8 (((twos l)[i]?.getD 0 : Nat) : Int)) N (2 * k + 1))
      rw [hT.1] at hS1
      rw [hT.2] at hS2
      have gx1 := (cell_of_row wr _ (2 * k) _ _ _ hx).trans (fillTo_get (.int .u8 0) (fun i => .int .u8 (((twos l)[i]?.getD 0 : Nat) : Int)) N (2 * k) (2 * k) (by omega))
      rw [if_neg (Nat.lt_irrefl _)] at gx1
      have fx1 : wr.frozen? ⟨w.heap.size, 2 * k, none⟩ = false := frozen_of_row wr _ (2 * k) _ _ hx
      have gx2 := (cell_of_row wr _ (2 * k + 1) _ _ _ hx).trans (fillTo_get (.int .u8 0) (fun i => .int .u8 (((twos l)[i]?.getD 0 : Nat) : Int)) N (2 * k) (2 * k + 1) (by omega))
      rw [if_neg (show ¬ 2 * k + 1 < 2 * k by omega)] at gx2
      have fx2 : wr.frozen? ⟨w.heap.size, 2 * k + 1, none⟩ = false := frozen_of_row wr _ (2 * k + 1) _ _ hx
      obtain ⟨x, ex⟩ : ∃ x, x = l[k]?.getD 0 := ⟨_, rfl⟩
      rw [← ex] at g1 hX hS1 hS2
      have v1 : IntKind.u8.wrap ((x : Int) / 256) = ((x / 256 : Nat) : Int) := by rw [IntKind.wrap_u8]; omega
      have v2 : IntKind.u8.wrap (x : Int) = ((x % 256 : Nat) : Int) := by rw [IntKind.wrap_u8]; omega
      obtain ⟨p, ep⟩ : ∃ p, p = x / 256 := ⟨_, rfl⟩
      obtain ⟨q, eq⟩ : ∃ q, q = x % 256 := ⟨_, rfl⟩
      rw [← ep] at v1 hS1
      rw [← eq] at v2 hS2
      obtain ⟨J, eJ⟩ : ∃ J, J = 2 * k + 1 := ⟨_, rfl⟩
      obtain ⟨I, eI⟩ : ∃ I, I = 2 * k := ⟨_, rfl⟩
      rw [← eJ] at hI2 hI9 hS1 hS2 gx2 fx2
      rw [← eI] at hI1 hI2 hS1 gx1 fx1 hx
      have HJ := Lib.hid (show J + 1 = 2 * (k + 1) by omega)
      have z0 : (0 : Int) ≤ (I : Int) := by omega
      have z1 : (0 : Int) ≤ (J : Int) := by omega
      have z2 : (I : Int) < (N : Int) := by omega
      have z3 : (J : Int) < (N : Int) := by omega
      have z4 : (0 : Int) ≤ (k : Int) := by omega
      have z5 : (k : Int) < (n : Int) := by omega
      have hr1 := heap_setCell_same wr w.heap.size I _ _ (.int .u8 (p : Int)) hx
      rw [hS1.out] at hr1
      have gx3 := (cell_of_row _ _ J _ _ _ hr1).trans (fillTo_get (.int .u8 0) (fun i => .int .u8 (((twos l)[i]?.getD 0 : Nat) : Int)) N J J (by omega))
      rw [if_neg (Nat.lt_irrefl J)] at gx3
      have fx3 : (wr.setCell ⟨w.heap.size, I, none⟩ (.int .u8 (p : Int))).frozen? ⟨w.heap.size, J, none⟩ = false := frozen_of_row _ _ J _ _ hr1
      have hr2 := heap_setCell_same (wr.setCell ⟨w.heap.size, I, none⟩ (.int .u8 (p : Int))) w.heap.size J _ _ (.int .u8 (q : Int)) hr1
      rw [hS2.out] at hr2
      have HR := Lib.hid hr2
      clear d1 ex ep eq eI eJ s1 hs hx hT hr1 hr2
      go_wp2_with fail
      go_region
      all_goals (
        go_wp2_with fail
        go_roundw
        case rel =>
          refine ⟨k + 1, by omega, by go_num, ((bk.setCell (Nat.le_refl _) _).setCell (Nat.le_refl _) _).drew, ?_⟩
          rw [← HJ.out]
          exact HR.out
        case measure => simp [intOf]; omega)
    · obtain rfl : k = n := by omega
      go_wp2_with fail
      go_ret
      refine ⟨_, rfl, ?_⟩
      rw [← HN.out] at hx
      have H := Has.of_row bk hx (Nat.le_refl _) (fillTo_size _ _ N N) (by have := HN.out; simp only [maxLen]; omega)
      rw [fillTo_full] at H
      have e : (List.range N).map (fun i => Value.int .u8 (((twos l)[i]?.getD 0 : Nat) : Int)) = bs (twos l) := by
        rw [← HTL.out]; exact range_map_getD (twos l) 0 fun v => Value.int .u8 ((v : Nat) : Int)
      rw [e] at H
      exact H
end Go.Proofs.YtegcnnbhgdafmaaDoor.WdW
