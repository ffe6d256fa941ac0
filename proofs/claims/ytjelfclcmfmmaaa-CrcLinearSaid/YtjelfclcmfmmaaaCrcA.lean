/- The walks of layer 1's leaves: crc.shift, crc.nibbles, crc.step, saucierref01.Next. -/
import Derived.Test.YtjelfclcmfmmaaaChecked
import Derived.Test.YtjelfclcmfmmaaaCrcMath
import Derived.WalkKit
import Derived.Below
import Derived.Lib.Hide
import Derived.Laws.BitsAllLaws
namespace Go.Proofs.Ytjelfclcmfmmaaa.CrcW
open Go.RowKit Go.Proofs.Ytjelfclcmfmmaaa
theorem ret_u16 {a b : Int} (h : a = b) : Ending.returned (.int .u16 a) = .returned (.int .u16 b) := by rw [h]
theorem and1 (s : Nat) (h : s < 65536) : bits .and .u16 (s : Int) 1 = ((s % 2 : Nat) : Int) := by
  have := u16_and (s : Int) 1 (by omega) (by omega) (by omega) (by omega)
  rw [this]
  simp [Nat.and_one_is_mod]
theorem xor_sh (s : Nat) (h : s < 65536) (hs : s % 2 = 1) : bits .xor .u16 ((s : Int) / 2) 40961 = ((Crc.sh s : Nat) : Int) := by
  have h2 := u16_xor_nat (s / 2) 40961 (by omega) (by omega)
  unfold Crc.sh; rw [if_pos hs]
  exact h2
theorem half_sh (s : Nat) (hs : ¬ s % 2 = 1) : (s : Int) / 2 = ((Crc.sh s : Nat) : Int) := by
  unfold Crc.sh; rw [if_neg hs]; omega

theorem shift_any (s : Nat) (h : s < 65536) (w : World) :
    Calls Try.prog 19 #[.int .u16 s] w fun e w' => e = .returned (.int .u16 (Crc.sh s : Nat)) ∧ w = w' := by
  have h1 := and1 s h
  by_cases hs : s % 2 = 1
  · have H := Lib.hid (xor_sh s h hs)
    rw [hs] at h1
    clear hs
    go_enter Try.func19, Try.ntmps19
    go_wp2
    go_ret
    exact ⟨ret_u16 H.out, rfl⟩
  · have H := Lib.hid (half_sh s hs)
    rw [show s % 2 = 0 from by omega] at h1
    clear hs
    go_enter Try.func19, Try.ntmps19
    go_wp2
    go_ret
    exact ⟨ret_u16 H.out, rfl⟩

/-! ### saucierref01.Next -/
def shN : Nat → Nat → Nat
  | 0, s => s
  | k + 1, s => Crc.sh (shN k s)
theorem shN_lt (k s : Nat) (h : s < 65536) : shN k s < 65536 := by
  induction k with
  | zero => exact h
  | succ k ih => exact Crc.sh_lt ih
theorem shN8 (s c : Nat) : shN 8 (s ^^^ c) = Crc.nx s c := rfl

theorem refNext_any (s c : Nat) (h : s < 65536) (hc : c < 256) (w : World) :
    Calls Try.prog 11 #[.int .u16 s, .int .u8 c] w fun e w' => e = .returned (.int .u16 (Crc.nx s c : Nat)) ∧ w = w' := by
  have hx := u16_xor_nat s c h (by omega)
  have hlt : s ^^^ c < 65536 := Nat.xor_lt_two_pow (n := 16) (by omega) (by omega)
  obtain ⟨y, hy⟩ : ∃ y, y = s ^^^ c := ⟨_, rfl⟩
  rw [← hy] at hx hlt
  have HY := Lib.hid hy; clear hy
  go_enter Try.func11, Try.ntmps11
  go_wp2
  clear hx
  go_loop [0, 5] (fun t i => ∃ k : Nat, k ≤ 8 ∧ i = .int .i64 k ∧ t = .int .u16 (shN k y : Nat)) (fun _ i => 8 - (intOf i).toNat)
  case atStart => exact ⟨0, by omega, rfl, rfl⟩
  case round =>
    obtain ⟨k, hk, rfl, rfl⟩ := hrel
    have hb := shN_lt k y hlt
    obtain ⟨z, hz⟩ : ∃ z, z = shN k y := ⟨_, rfl⟩
    have hn : shN (k + 1) y = Crc.sh z := by rw [hz]; rfl
    have HZ := Lib.hid hz
    have HN := Lib.hid hn
    rw [← hz] at hb ⊢
    clear hz hn
    by_cases hlt8 : k < 8
    · by_cases hs : z % 2 = 1
      · have H := Lib.hid (xor_sh z hb hs)
        have h1 : ((z : Int) % 2) = 1 := by omega
        clear hs
        go_wp2
        go_round
        case rel => exact ⟨k + 1, by omega, by go_num, by rw [HN.out, H.out]⟩
        case measure => simp [intOf]; omega
      · have H := Lib.hid (half_sh z hs)
        have h1 : ((z : Int) % 2) = 0 := by omega
        clear hs
        go_wp2
        go_round
        case rel => exact ⟨k + 1, by omega, by go_num, by rw [HN.out, H.out]⟩
        case measure => simp [intOf]; omega
    · obtain rfl : k = 8 := by omega
      go_wp2
      go_ret
      exact ⟨ret_u16 (by rw [HZ.out, HY.out, shN8]), rfl⟩
end Go.Proofs.Ytjelfclcmfmmaaa.CrcW
