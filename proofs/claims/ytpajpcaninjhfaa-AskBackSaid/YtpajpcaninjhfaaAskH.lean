/- The walk of ask.Pack. -/
import Derived.Test.YtpajpcaninjhfaaAskF
import Derived.Test.YtpajpcaninjhfaaAskPack
import Derived.RegionTactic
namespace Go.Proofs.Ytpajpcaninjhfaa.AskW
open Go.RowKit Go.Proofs.Ytpajpcaninjhfaa Go.Proofs.Ytpajpcaninjhfaa.Ask
theorem or_pow (y m : Nat) (hy : y < 256) (hm : m < 8) : bits .or .u8 (y : Int) ((2 : Int) ^ m % 256) = ((y ||| 2 ^ m : Nat) : Int) := by
  have e : (2 : Int) ^ m % 256 = ((2 ^ m : Nat) : Int) := by
    obtain rfl | rfl | rfl | rfl | rfl | rfl | rfl | rfl : m = 0 ∨ m = 1 ∨ m = 2 ∨ m = 3 ∨ m = 4 ∨ m = 5 ∨ m = 6 ∨ m = 7 := by omega
    all_goals rfl
  rw [e]
  refine u8_or_nat y (2 ^ m) hy ?_
  exact Nat.pow_lt_pow_of_lt (a := 2) (n := m) (m := 8) (by omega) hm
theorem pack_any (A : Option Addr) (n c : Nat) (l : List Bool) (w : World) (hs : Sl w w.heap.size A n (bl l)) (hn : n ≤ 1000000) :
    Calls Try.prog 22 #[.slice A n c] w fun e w' => ∃ v, e = .returned v ∧ Has w w' 5 v ((n + 7) / 8) (bs (pack l)) := by
  have q1 : l.length = n := by simpa using hs.len
  have Q1 := Lib.hid q1
  clear q1
  have hd : Int.tdiv ((n : Int) + 7) 8 = (((n + 7) / 8 : Nat) : Int) := by rw [Int.tdiv_eq_ediv_of_nonneg (by omega)]; omega
  have hw : IntKind.i64.wrap ((n : Int) + 7) = (n : Int) + 7 := by rw [IntKind.wrap_i64]; omega
  obtain ⟨N, hN⟩ : ∃ N, N = (n + 7) / 8 := ⟨_, rfl⟩
  rw [← hN] at hd ⊢
  have hN64 := w64 (show N ≤ 9223372036854775807 by omega)
  have HN := Lib.hid hN
  clear hN
  obtain ⟨i0, hi0, hz0, hs0, hb0⟩ := info_parts (P := Try.prog) (e := 5) (z := .int .u8 0) (size := 1) (bytes := 1) (by kernel_rfl)
  go_enter Try.func22, Try.ntmps22
  go_wp2_with (at_make; refine wpList_makeN Try.underlying27 hi0 hz0 hs0 rfl rfl _ _ rfl N rfl rfl (by have := HN.out; rw [hb0]; omega) (by have := HN.out; omega) ?_)
  go_loopw [13] (fun i wr => ∃ k : Nat, k ≤ n ∧ i = .int .i64 k ∧ Below w.heap.size w wr ∧ wr.heap[w.heap.size]? = some (.cells (packTo l N k) 5 (0, 0))) (fun i _ => n - (intOf i).toNat)
  case atStart => exact ⟨0, by omega, rfl, (Below.refl _ w).new _, by rw [packTo_zero]; exact heap_alloc_new w _⟩
  case round =>
    obtain ⟨k, hk, rfl, bk, hx⟩ := hrel
    by_cases hlt : k < n
    · have s1 := hs.below bk
      obtain ⟨b, o, rfl, hbl, d1⟩ := s1.2 (by omega)
      have g1 := (d1 k hlt).trans (bl_get (by rw [Q1.out]; exact hlt))
      have z0 : (0 : Int) ≤ (k : Int) := by omega
      have z1 : (k : Int) < (n : Int) := by omega
      have hON := Lib.hid (packTo_on (l := l) (N := N) (k := k))
      have hOF := Lib.hid (packTo_off (l := l) (N := N) (k := k))
      obtain ⟨x, ex⟩ : ∃ x, x = l[k]?.getD false := ⟨_, rfl⟩
      rw [← ex] at g1 hON hOF
      clear d1 ex s1 hs
      cases x
      · have HX := Lib.hid hx
        clear hx
        go_wp2_with fail
        go_roundw
        case rel => exact ⟨k + 1, by omega, by go_num, bk, by rw [hOF.out rfl]; exact HX.out⟩
        case measure => simp [intOf]; omega
      · have hq : Int.tdiv (k : Int) 8 = ((k / 8 : Nat) : Int) := by rw [Int.tdiv_eq_ediv_of_nonneg (by omega)]; omega
        have hr : Int.tmod (k : Int) 8 = ((k % 8 : Nat) : Int) := by rw [Int.tmod_eq_emod_of_nonneg (by omega)]; omega
        have hqN : k / 8 < N := by have := HN.out; omega
        have gx := (cell_of_row wr _ (k / 8) _ _ _ hx).trans (packTo_get l N k (k / 8) hqN)
        have fx : wr.frozen? ⟨w.heap.size, k / 8, none⟩ = false := frozen_of_row wr _ (k / 8) _ _ hx
        have y0 : (0 : Int) ≤ ((k / 8 : Nat) : Int) := by omega
        have y1 : ((k / 8 : Nat) : Int) < (N : Int) := by omega
        have y2 : (0 : Int) ≤ ((k % 8 : Nat) : Int) := by omega
        have hbt := octet_lt (l.take k) (k / 8)
        have hm8 : k % 8 < 8 := by omega
        obtain ⟨q, eq⟩ : ∃ q, q = k / 8 := ⟨_, rfl⟩
        obtain ⟨m, em⟩ : ∃ m, m = k % 8 := ⟨_, rfl⟩
        have hq64 := w64 (show q ≤ 9223372036854775807 by omega)
        have hm64 := w64 (show m ≤ 9223372036854775807 by omega)
        rw [← eq] at hq gx fx y0 y1 hON hqN hbt
        rw [← em] at hr y2 hON hm8
        obtain ⟨y, ey⟩ : ∃ y, y = octet (l.take k) q := ⟨_, rfl⟩
        rw [← ey] at gx hON hbt
        have HX := Lib.hid hx
        clear hx eq em ey
        go_wp2_with fail
        go_region
        go_wp2_with fail
        go_roundw
        case rel =>
          refine ⟨k + 1, by omega, rfl, (bk.setCell (Nat.le_refl _) _).drew, ?_⟩
          show (wr.setCell _ _).heap[w.heap.size]? = _
          rw [heap_setCell_same wr _ q _ _ _ HX.out, or_pow y m hbt hm8, hON.out trivial]
        case measure => simp [intOf]; omega
    · obtain rfl : k = n := by omega
      go_wp2_with fail
      go_ret
      refine ⟨_, rfl, ?_⟩
      have hNl : (l.length + 7) / 8 = N := by rw [Q1.out, HN.out]
      have H := Has.of_row bk hx (Nat.le_refl _) (packTo_size l N k) (by have := HN.out; simp only [maxLen]; omega)
      have hf := packTo_full l
      rw [hNl, Q1.out] at hf
      rw [hf] at H
      exact H
end Go.Proofs.Ytpajpcaninjhfaa.AskW
