/- The walks of crc.Sum and saucierref01.Sum. -/
import Derived.Test.YtjelfclcmfmmaaaCrcC
import Derived.Test.YtjelfclcmfmmaaaMem
namespace Go.Proofs.Ytjelfclcmfmmaaa.CrcW
open Go.RowKit Go.Proofs.Ytjelfclcmfmmaaa
theorem sum_snoc {l : List Nat} {k : Nat} (h : k < l.length) : Crc.sum (l.take (k + 1)) = Crc.nx (Crc.sum (l.take k)) (l[k]?.getD 0) := by
  rw [take_snoc h]; unfold Crc.sum; rw [Crc.sumFrom_append]; rfl

theorem sum_any (A : Option Addr) (n cap : Nat) (l : List Nat) (w : World) (hs : Sl w w.heap.size A n (bs l)) (hl : Bytes l) (hn : n ≤ 9223372036854775807) :
    Calls Try.prog 12 #[.slice A n cap] w fun e w' => e = .returned (.int .u16 (Crc.sum l : Nat)) ∧ Below w.heap.size w w' := by
  have hlen : l.length = n := by simpa using hs.len
  have HL := Lib.hid hlen; clear hlen
  go_enter Try.func12, Try.ntmps12
  go_wp2_with (first | (go_at_call 17; refine (nibbles_any _).mono ?_; rintro e w' ⟨rfl, hb⟩) | (refine wpList_store_row rfl 37 _ _ rfl w'.heap.size (arr 16) rfl rfl 37 _ (heap_alloc_last _ _) (by rw [arr_size]; exact info_arr) (by rw [arr_size]; rfl) (arr_one 16) ?_; rw [World.setRow_alloc_new]))
  have hb2 : Below w.heap.size w (w'.alloc (.cells (arr 16) 37)) := hb.alloc hb.size _
  have hs2 := hs.below hb2
  have ht := tabAt_new w'
  obtain ⟨W, hW⟩ : ∃ W, W = w'.alloc (.cells (arr 16) 37) := ⟨_, rfl⟩
  rw [← hW] at hb2 hs2 ht ⊢
  clear hW hb hs
  go_loop [4, 10] (fun t i => ∃ k : Nat, k ≤ n ∧ i = .int .i64 k ∧ t = .int .u16 (Crc.sum (l.take k) : Nat)) (fun _ i => n - (intOf i).toNat)
  case atStart => exact ⟨0, by omega, rfl, rfl⟩
  case round =>
    obtain ⟨k, hk, rfl, rfl⟩ := hrel
    have hz : Crc.sum (l.take k) < 65536 := Crc.sum_lt _ (hl.take k)
    by_cases hlt : k < n
    · obtain ⟨b, o, rfl, hbl, hc⟩ := hs2.2 (by omega)
      have hck := (hc k hlt).trans (bs_get (by rw [HL.out]; exact hlt))
      have hby := hl.at k
      have HN := Lib.hid (sum_snoc (l := l) (k := k) (by rw [HL.out]; exact hlt))
      clear hc
      obtain ⟨x, hx⟩ : ∃ x, x = l[k]?.getD 0 := ⟨_, rfl⟩
      rw [← hx] at hck hby
      have HX := Lib.hid hx; clear hx
      go_wp2_with (go_at_call 18; refine (step_any _ _ _ hz hby _ ht).mono ?_; rintro e w2 ⟨rfl, rfl⟩)
      go_round
      case rel => exact ⟨k + 1, by omega, by go_num, by rw [HN.out, HX.out]⟩
      case measure => simp [intOf]; omega
    · obtain rfl : k = n := by omega
      go_wp2_with fail
      go_ret
      exact ⟨ret_u16 (by rw [List.take_of_length_le (by rw [HL.out]; omega)]), hb2⟩

theorem refSum_any (A : Option Addr) (n cap : Nat) (l : List Nat) (w : World) (hs : Sl w w.heap.size A n (bs l)) (hl : Bytes l) (hn : n ≤ 9223372036854775807) :
    Calls Try.prog 13 #[.slice A n cap] w fun e w' => e = .returned (.int .u16 (Crc.sum l : Nat)) ∧ w = w' := by
  have hlen : l.length = n := by simpa using hs.len
  have HL := Lib.hid hlen; clear hlen
  go_enter Try.func13, Try.ntmps13
  go_wp2_with fail
  go_loop [3, 4] (fun t i => ∃ k : Nat, k ≤ n ∧ i = .int .i64 k ∧ t = .int .u16 (Crc.sum (l.take k) : Nat)) (fun _ i => n - (intOf i).toNat)
  case atStart => exact ⟨0, by omega, rfl, rfl⟩
  case round =>
    obtain ⟨k, hk, rfl, rfl⟩ := hrel
    have hz : Crc.sum (l.take k) < 65536 := Crc.sum_lt _ (hl.take k)
    by_cases hlt : k < n
    · obtain ⟨b, o, rfl, hbl, hc⟩ := hs.2 (by omega)
      have hck := (hc k hlt).trans (bs_get (by rw [HL.out]; exact hlt))
      have hby := hl.at k
      have HN := Lib.hid (sum_snoc (l := l) (k := k) (by rw [HL.out]; exact hlt))
      clear hc
      obtain ⟨x, hx⟩ : ∃ x, x = l[k]?.getD 0 := ⟨_, rfl⟩
      rw [← hx] at hck hby
      have HX := Lib.hid hx; clear hx
      go_wp2_with (go_at_call 11; refine (refNext_any _ _ hz hby _).mono ?_; rintro e w2 ⟨rfl, rfl⟩)
      go_round
      case rel => exact ⟨k + 1, by omega, by go_num, by rw [HN.out, HX.out]⟩
      case measure => simp [intOf]; omega
    · obtain rfl : k = n := by omega
      go_wp2_with fail
      go_ret
      exact ⟨ret_u16 (by rw [List.take_of_length_le (by rw [HL.out]; omega)]), rfl⟩
end Go.Proofs.Ytjelfclcmfmmaaa.CrcW
