/- The walk of ask.Unpack. -/
import Derived.Test.YtpajpcaninjhfaaAskF
import Derived.Test.YtpajpcaninjhfaaAskPack
import Derived.RegionTactic
namespace Go.Proofs.Ytpajpcaninjhfaa.AskW
open Go.RowKit Go.Proofs.Ytpajpcaninjhfaa Go.Proofs.Ytpajpcaninjhfaa.Ask
theorem bit_of (y m : Nat) (hy : y < 256) : (bits .and .u8 ((y : Int) / (2 : Int) ^ m) 1 == 1) = y.testBit m := by
  have e : (y : Int) / (2 : Int) ^ m = ((y / 2 ^ m : Nat) : Int) := by
    rw [Int.natCast_ediv, Int.natCast_pow]; rfl
  have h := u8_and_nat (y / 2 ^ m) 1 (Nat.lt_of_le_of_lt (Nat.div_le_self _ _) hy) (by omega)
  rw [e, show (1 : Int) = ((1 : Nat) : Int) from rfl, h, Nat.and_one_is_mod, Nat.testBit_eq_decide_div_mod_eq, Bool.eq_iff_iff]
  simp
  omega
theorem unpack_any (A : Option Addr) (n c : Nat) (l : List Nat) (w : World) (hs : Sl w w.heap.size A n (bs l)) (hl : Bytes l) (hn : n ≤ 1000000) :
    Calls Try.prog 25 #[.slice A n c] w fun e w' => ∃ v, e = .returned v ∧ Has w w' 4 v (8 * n) (bl (unpack l)) := by
  have q1 : l.length = n := by simpa using hs.len
  have Q1 := Lib.hid q1
  clear q1
  obtain ⟨N, hN⟩ : ∃ N, N = 8 * n := ⟨_, rfl⟩
  rw [← hN]
  have hN64 : IntKind.i64.wrap (8 * (n : Int)) = N := by rw [IntKind.wrap_i64]; omega
  have HN := Lib.hid hN
  clear hN
  obtain ⟨i0, hi0, hz0, hs0, hb0⟩ := info_parts (P := Try.prog) (e := 4) (z := .bool false) (size := 1) (bytes := 1) (by kernel_rfl)
  go_enter Try.func25, Try.ntmps25
  go_wp2_with (at_make; refine wpList_makeN Try.underlying24 hi0 hz0 hs0 rfl rfl _ _ rfl N rfl rfl (by have := HN.out; rw [hb0]; omega) (by have := HN.out; omega) ?_)
  go_loopw [11] (fun i wr => ∃ k : Nat, k ≤ N ∧ i = .int .i64 k ∧ Below w.heap.size w wr ∧ wr.heap[w.heap.size]? = some (.cells (unTo l N k) 4 (0, 0))) (fun i _ => N - (intOf i).toNat)
  case atStart => exact ⟨0, by omega, rfl, (Below.refl _ w).new _, by rw [unTo_zero]; exact heap_alloc_new w _⟩
  case round =>
    obtain ⟨k, hk, rfl, bk, hx⟩ := hrel
    have hNN : N ≤ 8000000 := by have := HN.out; omega
    by_cases hlt : k < N
    · have s1 := hs.below bk
      have h8 : k / 8 < n := by have := HN.out; omega
      obtain ⟨b, o, rfl, hbl, d1⟩ := s1.2 (by omega)
      have g1 := (d1 (k / 8) h8).trans (bs_get (by rw [Q1.out]; exact h8))
      have z0 : (0 : Int) ≤ (k : Int) := by omega
      have z1 : (k : Int) < (N : Int) := by omega
      have z2 : (0 : Int) ≤ ((k / 8 : Nat) : Int) := by omega
      have z3 : ((k / 8 : Nat) : Int) < (n : Int) := by omega
      have hq : Int.tdiv (k : Int) 8 = ((k / 8 : Nat) : Int) := by rw [Int.tdiv_eq_ediv_of_nonneg (by omega)]; omega
      have hr : Int.tmod (k : Int) 8 = ((k % 8 : Nat) : Int) := by rw [Int.tmod_eq_emod_of_nonneg (by omega)]; omega
      have hq64 := w64 (show k / 8 ≤ 9223372036854775807 by omega)
      have hm64 := w64 (show k % 8 ≤ 9223372036854775807 by omega)
      have y2 : (0 : Int) ≤ ((k % 8 : Nat) : Int) := by omega
      have hm8 : k % 8 < 8 := by omega
      have hbt := hl.at (k / 8)
      have hset := Lib.hid (unTo_set l N k)
      have gx := (cell_of_row wr _ k _ _ _ hx).trans (unTo_get l N k k hlt)
      have fx : wr.frozen? ⟨w.heap.size, k, none⟩ = false := frozen_of_row wr _ k _ _ hx
      obtain ⟨q, eq⟩ : ∃ q, q = k / 8 := ⟨_, rfl⟩
      obtain ⟨m, em⟩ : ∃ m, m = k % 8 := ⟨_, rfl⟩
      rw [← eq] at hq g1 z2 z3 hq64 hset hbt gx
      rw [← em] at hr y2 hm8 hm64 hset gx
      obtain ⟨y, ey⟩ : ∃ y, y = l[q]?.getD 0 := ⟨_, rfl⟩
      rw [← ey] at g1 hset hbt gx
      have HX := Lib.hid hx
      clear d1 ey eq em s1 hs hx
      go_wp2_with fail
      go_roundw
      case rel =>
        refine ⟨k + 1, by omega, by go_num, bk.setCell (Nat.le_refl _) _, ?_⟩
        rw [heap_setCell_same wr _ k _ _ _ HX.out, bit_of y m hbt, hset.out]
      case measure => simp [intOf]; omega
    · obtain rfl : k = N := by omega
      go_wp2_with fail
      go_ret
      refine ⟨_, rfl, ?_⟩
      have H := Has.of_row bk hx (Nat.le_refl _) (unTo_size l k k) (by simp only [maxLen]; omega)
      have hf := unTo_full l
      rw [Q1.out, ← HN.out] at hf
      rw [hf] at H
      exact H
end Go.Proofs.Ytpajpcaninjhfaa.AskW
