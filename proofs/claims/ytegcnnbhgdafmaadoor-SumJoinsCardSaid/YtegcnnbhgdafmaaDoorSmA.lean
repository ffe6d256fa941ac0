/- The walks of sum.shift, Add, Bytes, the law's raw, and the reference's Add, Raw, Bytes, Zeros. -/
import Derived.Test.YtegcnnbhgdafmaaDoorChecked
import Derived.Test.YtegcnnbhgdafmaaDoorSmMath
import Derived.Test.YtegcnnbhgdafmaaDoorBase
import Derived.WalkKit
import Derived.Below
import Derived.Lib.Hide
import Derived.Laws.BitsAllLaws
set_option linter.unusedVariables false
namespace Go.Proofs.YtegcnnbhgdafmaaDoor.SmW
open Go.RowKit Go.Proofs.YtegcnnbhgdafmaaDoor Go.Proofs.YtegcnnbhgdafmaaDoor.Sm
theorem ret_u32 {a b : Int} (h : a = b) : Ending.returned (.int .u32 a) = .returned (.int .u32 b) := by rw [h]
theorem and1 (s : Nat) (h : s < 4294967296) : bits .and .u32 (s : Int) 1 = ((s % 2 : Nat) : Int) := by
  have := u32_and_nat s 1 h (by omega)
  rw [Nat.and_one_is_mod] at this
  exact this
theorem xor_sh (s : Nat) (h : s < 4294967296) (hs : s % 2 = 1) : bits .xor .u32 ((s : Int) / 2) 3988292384 = ((sh s : Nat) : Int) := by
  have h2 := u32_xor_nat (s / 2) 3988292384 (by omega) (by omega)
  unfold sh; rw [if_pos hs]
  exact h2
theorem xor_sh0 (s : Nat) (h : s < 4294967296) (hs : ¬ s % 2 = 1) : bits .xor .u32 ((s : Int) / 2) 0 = ((sh s : Nat) : Int) := by
  have h2 := u32_xor_nat (s / 2) 0 (by omega) (by omega)
  unfold sh; rw [if_neg hs]
  rw [Nat.xor_zero] at h2
  exact h2
theorem half_sh (s : Nat) (hs : ¬ s % 2 = 1) : (s : Int) / 2 = ((sh s : Nat) : Int) := by
  unfold sh; rw [if_neg hs]; omega
theorem turned_all : bits .and .u32 3988292384 4294967295 = 3988292384 := by
  have := u32_and_nat 3988292384 4294967295 (by omega) (by omega)
  exact this
theorem turned_none : bits .and .u32 3988292384 0 = 0 := by
  have := u32_and_nat 3988292384 0 (by omega) (by omega)
  exact this
theorem shift_any (s : Nat) (h : s < 4294967296) (w : World) :
    Calls Tryd.prog 16 #[.int .u32 s] w fun e w' => e = .returned (.int .u32 (sh s : Nat)) ∧ w = w' := by
  have h1 := and1 s h
  have k1 := turned_all
  have k2 := turned_none
  by_cases hs : s % 2 = 1
  · have H := Lib.hid (xor_sh s h hs)
    rw [hs] at h1
    clear hs
    go_enter Tryd.func16, Tryd.ntmps16
    go_wp2
    go_ret
    exact ⟨ret_u32 H.out, rfl⟩
  · have H := Lib.hid (xor_sh0 s h hs)
    rw [show s % 2 = 0 from by omega] at h1
    clear hs
    go_enter Tryd.func16, Tryd.ntmps16
    go_wp2
    go_ret
    exact ⟨ret_u32 H.out, rfl⟩

theorem add_any (s c : Nat) (h : s < 4294967296) (hc : c < 256) (w : World) :
    Calls Tryd.prog 7 #[.int .u32 s, .int .u8 c] w fun e w' => e = .returned (.int .u32 (ad s c : Nat)) ∧ w = w' := by
  have hx := u32_xor_nat s c h (by omega)
  have hlt : s ^^^ c < 4294967296 := Nat.xor_lt_two_pow (n := 32) (by omega) (by omega)
  obtain ⟨y, hy⟩ : ∃ y, y = s ^^^ c := ⟨_, rfl⟩
  rw [← hy] at hx hlt
  have HY := Lib.hid hy; clear hy
  go_enter Tryd.func7, Tryd.ntmps7
  go_wp2
  clear hx
  go_loop [0, 9] (fun t i => ∃ k : Nat, k ≤ 8 ∧ i = .int .i64 k ∧ t = .int .u32 (it k y : Nat)) (fun _ i => 8 - (intOf i).toNat)
  case atStart => exact ⟨0, by omega, rfl, rfl⟩
  case round =>
    obtain ⟨k, hk, rfl, rfl⟩ := hrel
    have hb := it_lt (k := k) hlt
    have HN := Lib.hid (it_succ k y)
    obtain ⟨z, hz⟩ : ∃ z, z = it k y := ⟨_, rfl⟩
    have HZ := Lib.hid hz
    rw [← hz] at hb HN ⊢
    clear hz
    by_cases hlt8 : k < 8
    · go_wp2_with (go_at_call 16; refine (shift_any _ hb _).mono ?_; rintro e w' ⟨rfl, rfl⟩)
      go_round
      case rel => exact ⟨k + 1, by omega, by go_num, by rw [HN.out]⟩
      case measure => simp [intOf]; omega
    · obtain rfl : k = 8 := by omega
      go_wp2
      go_ret
      exact ⟨ret_u32 (by rw [HZ.out, HY.out]; rfl), rfl⟩

theorem refAdd_any (s c : Nat) (h : s < 4294967296) (hc : c < 256) (w : World) :
    Calls Tryd.prog 8 #[.int .u32 s, .int .u8 c] w fun e w' => e = .returned (.int .u32 (ad s c : Nat)) ∧ w = w' := by
  have hx := u32_xor_nat s c h (by omega)
  have hlt : s ^^^ c < 4294967296 := Nat.xor_lt_two_pow (n := 32) (by omega) (by omega)
  obtain ⟨y, hy⟩ : ∃ y, y = s ^^^ c := ⟨_, rfl⟩
  rw [← hy] at hx hlt
  have HY := Lib.hid hy; clear hy
  go_enter Tryd.func8, Tryd.ntmps8
  go_wp2
  clear hx
  go_loop [0, 5] (fun t i => ∃ k : Nat, k ≤ 8 ∧ i = .int .i64 k ∧ t = .int .u32 (it k y : Nat)) (fun _ i => 8 - (intOf i).toNat)
  case atStart => exact ⟨0, by omega, rfl, rfl⟩
  case round =>
    obtain ⟨k, hk, rfl, rfl⟩ := hrel
    have hb := it_lt (k := k) hlt
    have HN := Lib.hid (it_succ k y)
    obtain ⟨z, hz⟩ : ∃ z, z = it k y := ⟨_, rfl⟩
    have HZ := Lib.hid hz
    rw [← hz] at hb HN ⊢
    clear hz
    by_cases hlt8 : k < 8
    · by_cases hs : z % 2 = 1
      · have H := Lib.hid (xor_sh z hb hs)
        have h1 : ((z : Int) % 2) = 1 := by omega
        clear hs
        go_wp2
        go_round
        case rel => exact ⟨k + 1, by omega, by go_num, by rw [HN.out, H.out]⟩
        case measure => simp [intOf]; omega
      · have H := Lib.hid (half_sh z hs)
        have h1 : ((z : Int) % 2) = 0 := by omega
        clear hs
        go_wp2
        go_round
        case rel => exact ⟨k + 1, by omega, by go_num, by rw [HN.out, H.out]⟩
        case measure => simp [intOf]; omega
    · obtain rfl : k = 8 := by omega
      go_wp2
      go_ret
      exact ⟨ret_u32 (by rw [HZ.out, HY.out]; rfl), rfl⟩

theorem max_xor (x : Nat) (h : x < 4294967296) : bits .xor .u32 IntKind.u32.max (x : Int) = ((x ^^^ 4294967295 : Nat) : Int) := by
  have := u32_xor_nat 4294967295 x (by omega) h
  rw [Nat.xor_comm]
  exact this

theorem bytes_any (A : Option Addr) (n cap : Nat) (l : List Nat) (w : World) (hs : Sl w w.heap.size A n (bs l)) (hl : Bytes l) (hn : n ≤ 9223372036854775807) :
    Calls Tryd.prog 9 #[.slice A n cap] w fun e w' => e = .returned (.int .u32 (chk l : Nat)) ∧ w = w' := by
  have hlen : l.length = n := by simpa using hs.len
  have HL := Lib.hid hlen; clear hlen
  go_enter Tryd.func9, Tryd.ntmps9
  go_wp2_with fail
  go_loop [3, 8] (fun t i => ∃ k : Nat, k ≤ n ∧ i = .int .i64 k ∧ t = .int .u32 (raw 4294967295 (l.take k) : Nat)) (fun _ i => n - (intOf i).toNat)
  case atStart => exact ⟨0, by omega, rfl, rfl⟩
  case round =>
    obtain ⟨k, hk, rfl, rfl⟩ := hrel
    have hz : raw 4294967295 (l.take k) < 4294967296 := raw_lt (by omega) (hl.take k)
    by_cases hlt : k < n
    · obtain ⟨b, o, rfl, hbl, hc⟩ := hs.2 (by omega)
      have hck := (hc k hlt).trans (bs_get (by rw [HL.out]; exact hlt))
      have hby := hl.at k
      have HN := Lib.hid (raw_snoc (s := 4294967295) (l := l) (k := k) (by rw [HL.out]; exact hlt))
      clear hc
      obtain ⟨x, hx⟩ : ∃ x, x = l[k]?.getD 0 := ⟨_, rfl⟩
      rw [← hx] at hck hby HN
      have HX := Lib.hid hx; clear hx
      go_wp2_with (go_at_call 7; refine (add_any _ _ hz hby _).mono ?_; rintro e w2 ⟨rfl, rfl⟩)
      go_round
      case rel => exact ⟨k + 1, by omega, by go_num, by rw [HN.out]⟩
      case measure => simp [intOf]; omega
    · obtain rfl : k = n := by omega
      have ht : l.take k = l := List.take_of_length_le (by rw [HL.out]; omega)
      rw [ht] at hz ⊢
      clear ht hlt
      obtain ⟨R, hR⟩ : ∃ R, R = raw 4294967295 l := ⟨_, rfl⟩
      rw [← hR] at hz ⊢
      have HR := Lib.hid hR; clear hR
      go_wp2_with fail
      go_ret
      refine ⟨ret_u32 ?_, rfl⟩
      unfold chk
      rw [← HR.out]
      exact max_xor R hz

theorem refRaw_any (s : Nat) (A : Option Addr) (n cap : Nat) (l : List Nat) (w : World) (h : s < 4294967296) (hs : Sl w w.heap.size A n (bs l)) (hl : Bytes l) (hn : n ≤ 9223372036854775807) :
    Calls Tryd.prog 17 #[.int .u32 s, .slice A n cap] w fun e w' => e = .returned (.int .u32 (raw s l : Nat)) ∧ w = w' := by
  have hlen : l.length = n := by simpa using hs.len
  have HL := Lib.hid hlen; clear hlen
  go_enter Tryd.func17, Tryd.ntmps17
  go_wp2_with fail
  go_loop [0, 5] (fun t i => ∃ k : Nat, k ≤ n ∧ i = .int .i64 k ∧ t = .int .u32 (raw s (l.take k) : Nat)) (fun _ i => n - (intOf i).toNat)
  case atStart => exact ⟨0, by omega, rfl, rfl⟩
  case round =>
    obtain ⟨k, hk, rfl, rfl⟩ := hrel
    have hz : raw s (l.take k) < 4294967296 := raw_lt h (hl.take k)
    by_cases hlt : k < n
    · obtain ⟨b, o, rfl, hbl, hc⟩ := hs.2 (by omega)
      have hck := (hc k hlt).trans (bs_get (by rw [HL.out]; exact hlt))
      have hby := hl.at k
      have HN := Lib.hid (raw_snoc (s := s) (l := l) (k := k) (by rw [HL.out]; exact hlt))
      clear hc
      obtain ⟨x, hx⟩ : ∃ x, x = l[k]?.getD 0 := ⟨_, rfl⟩
      rw [← hx] at hck hby HN
      have HX := Lib.hid hx; clear hx
      go_wp2_with (go_at_call 8; refine (refAdd_any _ _ hz hby _).mono ?_; rintro e w2 ⟨rfl, rfl⟩)
      go_round
      case rel => exact ⟨k + 1, by omega, by go_num, by rw [HN.out]⟩
      case measure => simp [intOf]; omega
    · obtain rfl : k = n := by omega
      go_wp2_with fail
      go_ret
      exact ⟨ret_u32 (by rw [List.take_of_length_le (by rw [HL.out]; omega)]), rfl⟩

theorem raw_any (s : Nat) (A : Option Addr) (n cap : Nat) (l : List Nat) (w : World) (h : s < 4294967296) (hs : Sl w w.heap.size A n (bs l)) (hl : Bytes l) (hn : n ≤ 9223372036854775807) :
    Calls Tryd.prog 15 #[.int .u32 s, .slice A n cap] w fun e w' => e = .returned (.int .u32 (raw s l : Nat)) ∧ w = w' := by
  have hlen : l.length = n := by simpa using hs.len
  have HL := Lib.hid hlen; clear hlen
  go_enter Tryd.func15, Tryd.ntmps15
  go_wp2_with fail
  go_loop [0, 9] (fun t i => ∃ k : Nat, k ≤ n ∧ i = .int .i64 k ∧ t = .int .u32 (raw s (l.take k) : Nat)) (fun _ i => n - (intOf i).toNat)
  case atStart => exact ⟨0, by omega, rfl, rfl⟩
  case round =>
    obtain ⟨k, hk, rfl, rfl⟩ := hrel
    have hz : raw s (l.take k) < 4294967296 := raw_lt h (hl.take k)
    by_cases hlt : k < n
    · obtain ⟨b, o, rfl, hbl, hc⟩ := hs.2 (by omega)
      have hck := (hc k hlt).trans (bs_get (by rw [HL.out]; exact hlt))
      have hby := hl.at k
      have HN := Lib.hid (raw_snoc (s := s) (l := l) (k := k) (by rw [HL.out]; exact hlt))
      clear hc
      obtain ⟨x, hx⟩ : ∃ x, x = l[k]?.getD 0 := ⟨_, rfl⟩
      rw [← hx] at hck hby HN
      have HX := Lib.hid hx; clear hx
      go_wp2_with (go_at_call 7; refine (add_any _ _ hz hby _).mono ?_; rintro e w2 ⟨rfl, rfl⟩)
      go_round
      case rel => exact ⟨k + 1, by omega, by go_num, by rw [HN.out]⟩
      case measure => simp [intOf]; omega
    · obtain rfl : k = n := by omega
      go_wp2_with fail
      go_ret
      exact ⟨ret_u32 (by rw [List.take_of_length_le (by rw [HL.out]; omega)]), rfl⟩

theorem xor_not (x : Nat) (h : x < 4294967296) : bits .xor .u32 (x : Int) 4294967295 = ((x ^^^ 4294967295 : Nat) : Int) := u32_xor_nat x 4294967295 h (by omega)
theorem refBytes_any (A : Option Addr) (n cap : Nat) (l : List Nat) (w : World) (hs : Sl w w.heap.size A n (bs l)) (hl : Bytes l) (hn : n ≤ 9223372036854775807) :
    Calls Tryd.prog 10 #[.slice A n cap] w fun e w' => e = .returned (.int .u32 (chk l : Nat)) ∧ w = w' := by
  have HX := Lib.hid (xor_not _ (raw_lt (s := 4294967295) (by omega) hl))
  go_enter Tryd.func10, Tryd.ntmps10
  go_wp2_with (go_at_call 17; refine (refRaw_any 4294967295 A n cap l _ (by omega) hs hl hn).mono ?_; rintro e w2 ⟨rfl, rfl⟩)
  go_ret
  exact ⟨ret_u32 HX.out, rfl⟩

theorem refZeros_any (s n : Nat) (w : World) (h : s < 4294967296) (hn : n ≤ 9223372036854775807) :
    Calls Tryd.prog 14 #[.int .u32 s, .int .i64 (n : Nat)] w fun e w' => e = .returned (.int .u32 (it (8 * n) s : Nat)) ∧ w = w' := by
  go_enter Tryd.func14, Tryd.ntmps14
  go_wp2_with fail
  go_loop [0, 5] (fun t i => ∃ k : Nat, k ≤ n ∧ i = .int .i64 k ∧ t = .int .u32 (it (8 * k) s : Nat)) (fun _ i => n - (intOf i).toNat)
  case atStart => exact ⟨0, by omega, rfl, rfl⟩
  case round =>
    obtain ⟨k, hk, rfl, rfl⟩ := hrel
    have hz : it (8 * k) s < 4294967296 := it_lt h
    have HN := Lib.hid (raw_noughts k s)
    obtain ⟨z, ez⟩ : ∃ z, z = it (8 * k) s := ⟨_, rfl⟩
    rw [← ez] at hz HN ⊢
    have HZ := Lib.hid ez; clear ez
    by_cases hlt : k < n
    · go_wp2_with (go_at_call 8; refine (refAdd_any z 0 hz (by omega) _).mono ?_; rintro e w2 ⟨rfl, rfl⟩)
      go_round
      case rel => exact ⟨k + 1, by omega, by go_num, by rw [HN.out]⟩
      case measure => simp [intOf]; omega
    · obtain rfl : k = n := by omega
      go_wp2_with fail
      go_ret
      exact ⟨ret_u32 (by rw [HZ.out]), rfl⟩
theorem refZeros_neg (s : Nat) (m : Int) (w : World) (hm : m < 0) :
    Calls Tryd.prog 14 #[.int .u32 s, .int .i64 m] w fun e w' => e = .returned (.int .u32 s) ∧ w = w' := by
  have hd : ¬ (0 : Int) < m := by omega
  go_enter Tryd.func14, Tryd.ntmps14
  go_wp2_with fail
  go_loop [0, 5] (fun t i => i = .int .i64 0 ∧ t = .int .u32 (s : Nat)) (fun _ _ => 0)
  case atStart => exact ⟨rfl, rfl⟩
  case round =>
    obtain ⟨rfl, rfl⟩ := hrel
    go_wp2_with fail
    go_ret
    exact ⟨rfl, rfl⟩
end Go.Proofs.YtegcnnbhgdafmaaDoor.SmW
