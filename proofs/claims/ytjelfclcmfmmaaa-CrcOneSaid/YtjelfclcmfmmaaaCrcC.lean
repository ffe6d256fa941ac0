/- The walks of crc.step, crc.Next. -/
import Derived.Test.YtjelfclcmfmmaaaCrcB
import Derived.Deep.WholeRow
namespace Go.Proofs.Ytjelfclcmfmmaaa.CrcW
open Go.RowKit Go.Proofs.Ytjelfclcmfmmaaa
def nib : Nat → Nat → Nat
  | 0, s => s
  | k + 1, s => Crc.sh4 (nib k s)
theorem nib_lt (k s : Nat) (h : s < 65536) : nib k s < 65536 := by
  induction k with
  | zero => exact h
  | succ k ih => exact Crc.sh4_lt ih
theorem nib2 (s c : Nat) : nib 2 (s ^^^ c) = Crc.nx s c := rfl
theorem and15 (s : Nat) (h : s < 65536) : bits .and .u16 (s : Int) 15 = ((s % 16 : Nat) : Int) := by
  have := u16_and (s : Int) 15 (by omega) (by omega) (by omega) (by omega)
  rw [this]
  have h2 : s &&& 15 = s % 16 := Nat.and_two_pow_sub_one_eq_mod s 4
  show (((s : Int).toNat &&& (15 : Int).toNat : Nat) : Int) = _
  rw [Int.toNat_natCast, ← h2]; rfl
theorem xor_sh4 (s : Nat) (h : s < 65536) : bits .xor .u16 ((s : Int) / 16) ((Crc.sh4 (s % 16) : Nat) : Int) = ((Crc.sh4 s : Nat) : Int) := by
  have h2 := u16_xor_nat (s / 16) (Crc.sh4 (s % 16)) (by omega) (Crc.sh4_lt (by omega))
  rw [← Crc.sh4_split] at h2
  exact h2
/-- The table lies in block b. -/
def TabAt (w : World) (b : Nat) : Prop := ∀ i : Nat, i < 16 → w.cell? ⟨b, i, none⟩ = some (.int .u16 (Crc.sh4 i : Nat))

theorem step_any (b s c : Nat) (h : s < 65536) (hc : c < 256) (w : World) (ht : TabAt w b) :
    Calls Try.prog 18 #[.pointer (some ⟨b, 0, none⟩), .int .u16 s, .int .u8 c] w fun e w' => e = .returned (.int .u16 (Crc.nx s c : Nat)) ∧ w = w' := by
  have hx := u16_xor_nat s c h (by omega)
  have hlt : s ^^^ c < 65536 := Nat.xor_lt_two_pow (n := 16) (by omega) (by omega)
  obtain ⟨y, hy⟩ : ∃ y, y = s ^^^ c := ⟨_, rfl⟩
  rw [← hy] at hx hlt
  have HY := Lib.hid hy; clear hy
  go_enter Try.func18, Try.ntmps18
  go_wp2
  clear hx
  go_loop [1, 11] (fun t i => ∃ k : Nat, k ≤ 2 ∧ i = .int .i64 k ∧ t = .int .u16 (nib k y : Nat)) (fun _ i => 2 - (intOf i).toNat)
  case atStart => exact ⟨0, by omega, rfl, rfl⟩
  case round =>
    obtain ⟨k, hk, rfl, rfl⟩ := hrel
    have hb := nib_lt k y hlt
    obtain ⟨z, hz⟩ : ∃ z, z = nib k y := ⟨_, rfl⟩
    have hn : nib (k + 1) y = Crc.sh4 z := by rw [hz]; rfl
    have HZ := Lib.hid hz
    have HN := Lib.hid hn
    rw [← hz] at hb ⊢
    clear hz hn
    by_cases hlt2 : k < 2
    · have H := Lib.hid (xor_sh4 z hb)
      have ha := and15 z hb
      have hcell := ht (z % 16) (by omega)
      have hm : z % 16 < 16 := by omega
      obtain ⟨q, hq⟩ : ∃ q, q = z % 16 := ⟨_, rfl⟩
      rw [← hq] at ha hcell hm
      have HQ := Lib.hid hq; clear hq
      go_wp2
      go_round
      case rel => exact ⟨k + 1, by omega, by go_num, by rw [HN.out, ← H.out, HQ.out]⟩
      case measure => simp [intOf]; omega
    · obtain rfl : k = 2 := by omega
      go_wp2
      go_ret
      exact ⟨ret_u16 (by rw [HZ.out, HY.out, nib2]), rfl⟩

theorem tabAt_new (w : World) : TabAt (w.alloc (.cells (arr 16) 37)) w.heap.size := fun i hi => by
  rw [World.cell?_alloc_at _ _ _ _ rfl]
  exact arr_last i hi

theorem next_any (s c : Nat) (h : s < 65536) (hc : c < 256) (w : World) :
    Calls Try.prog 10 #[.int .u16 s, .int .u8 c] w fun e w' => e = .returned (.int .u16 (Crc.nx s c : Nat)) ∧ Below w.heap.size w w' := by
  go_enter Try.func10, Try.ntmps10
  go_wp2_with (first | (go_at_call 17; refine (nibbles_any _).mono ?_; rintro e w' ⟨rfl, hb⟩) | (refine wpList_store_row rfl 37 _ _ rfl w'.heap.size (arr 16) rfl rfl 37 _ (heap_alloc_last _ _) (by rw [arr_size]; exact info_arr) (by rw [arr_size]; rfl) (arr_one 16) ?_; rw [World.setRow_alloc_new]) | (go_at_call 18; refine (step_any _ s c h hc _ (tabAt_new _)).mono ?_; rintro e w2 ⟨rfl, rfl⟩))
  go_ret
  exact ⟨rfl, hb.alloc hb.size _⟩
end Go.Proofs.Ytjelfclcmfmmaaa.CrcW
