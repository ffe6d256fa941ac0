/- The walk of saucierlaw01.awake: the chapter's examples. -/
import Derived.Test.YtjelfclcmfmmaaaCrcG
import Derived.Lib.SlBytesConst
namespace Go.Proofs.Ytjelfclcmfmmaaa.CrcW
open Go.RowKit Go.Proofs.Ytjelfclcmfmmaaa
theorem bytes_of {l : List Nat} (h : (l.all fun c => decide (c < 256)) = true) : Bytes l := fun c hc => by
  have := List.all_eq_true.1 h c hc
  simpa using this
theorem cut1 : cutF [2, 7, 65, 18] = ([2, 7], 0) := by decide +kernel
theorem cut2 : cutF [2, 7, 65, 19] = ([], 11) := by decide +kernel
theorem cut3 : cutF [2] = ([], 10) := by decide +kernel
theorem sum1 : Crc.sum [] = 65535 := rfl
theorem sum2 : Crc.sum [2, 7] = 4673 := by decide +kernel
theorem sum3 : Crc.sum [49, 50, 51, 52, 53, 54, 55, 56, 57] = 19255 := by decide +kernel
theorem put1 : put [2, 7] = [2, 7, 65, 18] := by decide +kernel

theorem awake_any (w : World) :
    Calls Try.prog 7 #[] w fun e w' => e = .returned (.bool true) ∧ Below w.heap.size w w' := by
  have kc := fun (w : World) (C : Array Value) (n c : Nat) => Lib.run_convert_bytes_const (P := Try.prog) w 22 5 C n c Try.underlying22 Try.underlying5
  go_enter Try.func7, Try.ntmps7
  go_wp2_with fail
  refine (cut_any _ 4 4 [2, 7, 65, 18] _ (Sl.new _ #[_, _, _, _] _ _ (by simp)) (bytes_of (by decide)) (by omega) (by omega)).mono ?_
  rw [cut1]
  rintro e w1 ⟨v1, rfl, H1⟩
  have B1 := ((Below.refl _ w).new _).call H1.bel
  obtain ⟨A1, c1, rfl, _, S1, _⟩ := H1.slice
  clear H1
  go_wp2_with fail
  refine (cut_any _ 4 4 [2, 7, 65, 19] _ (Sl.new _ #[_, _, _, _] _ _ (by simp)) (bytes_of (by decide)) (by omega) (by omega)).mono ?_
  rw [cut2]
  rintro e w2 ⟨v2, rfl, H2⟩
  have B2 := (B1.new _).call H2.bel
  have S2 := (S1.below ((Below.refl _ _).new _)).below (H2.bel.mono (by simp))
  have L2 : w1.heap.size ≤ w2.heap.size := Nat.le_trans (by simp) H2.bel.size
  clear H2 B1 S1
  go_wp2_with fail
  refine (cut_any _ 1 1 [2] _ (Sl.new _ #[_] _ _ (by simp)) (bytes_of (by decide)) (by omega) (by omega)).mono ?_
  rw [cut3]
  rintro e w3 ⟨v3, rfl, H3⟩
  have B3 := (B2.new _).call H3.bel
  have S3 := ((S2.mono L2).below ((Below.refl _ _).new _)).below (H3.bel.mono (by simp))
  have L3 : w2.heap.size ≤ w3.heap.size := Nat.le_trans (by simp) H3.bel.size
  clear H3 B2 S2 L2
  go_wp2_with fail
  refine (sum_any none 0 0 [] _ (Sl.empty _ _ _) (bytes_of (by decide)) (by omega)).mono ?_
  rw [sum1]
  rintro e w4 ⟨rfl, b4⟩
  have B4 := B3.call b4
  have S4 := (S3.mono L3).below b4
  have L4 := b4.size
  clear B3 S3 L3 b4
  go_wp2_with fail
  refine (sum_any _ 2 2 [2, 7] _ (Sl.new _ #[_, _] _ _ (by simp)) (bytes_of (by decide)) (by omega)).mono ?_
  rw [sum2]
  rintro e w5 ⟨rfl, b5⟩
  have B5 := (B4.new _).call b5
  have S5 := ((S4.mono L4).below ((Below.refl _ _).new _)).below (b5.mono (by simp))
  have L5 : w4.heap.size ≤ w5.heap.size := Nat.le_trans (by simp) b5.size
  clear B4 S4 L4 b5
  go_wp2_with fail
  refine (put_any _ 2 2 [2, 7] _ (Sl.new _ #[_, _] _ _ (by simp)) (bytes_of (by decide)) (by omega)).mono ?_
  rw [put1]
  rintro e w6 ⟨v6, rfl, H6⟩
  have B6 := (B5.new _).call H6.bel
  have S6 := ((S5.mono L5).below ((Below.refl _ _).new _)).below (H6.bel.mono (by simp))
  have L6 : w5.heap.size ≤ w6.heap.size := Nat.le_trans (by simp) H6.bel.size
  obtain ⟨A6, c6, rfl, _, T6, _⟩ := H6.slice
  clear B5 S5 L5 H6
  go_wp2_with fail
  refine (same_any A6 _ _ c6 4 4 _ [2, 7, 65, 18] [2, 7, 65, 18] _ ((T6.alloc (Nat.le_refl _) _).mono (Nat.le_succ _)) (bytes_of (by decide)) (Sl.new _ #[_, _, _, _] _ _ (Nat.lt_succ_self _)) (bytes_of (by decide))).mono ?_
  rintro e w7 ⟨rfl, hw7'⟩
  have hw7 : w6.alloc (.cells #[.int .u8 2, .int .u8 7, .int .u8 65, .int .u8 18] 5) = w7 := hw7'
  clear hw7'
  have B7 := B6.new (.cells #[.int .u8 2, .int .u8 7, .int .u8 65, .int .u8 18] 5)
  have S7 := (S6.mono L6).alloc (Nat.le_refl _) (.cells #[.int .u8 2, .int .u8 7, .int .u8 65, .int .u8 18] 5)
  have L7 : w6.heap.size ≤ w7.heap.size := by rw [← hw7]; simp
  rw [hw7] at B7 S7
  clear B6 S6 L6 T6 hw7
  have e7 : (([2, 7, 65, 18] : List Nat) == [2, 7, 65, 18]) = true := rfl
  rw [e7]
  clear e7
  go_wp2_with fail
  refine (sum_any _ 9 9 [49, 50, 51, 52, 53, 54, 55, 56, 57] _ (Sl.newF _ #[_, _, _, _, _, _, _, _, _] _ _ _ (by simp)) (bytes_of (by decide)) (by omega)).mono ?_
  rw [sum3]
  rintro e w8 ⟨rfl, b8⟩
  have B8 := (B7.new _).call b8
  have S8 := ((S7.mono L7).below ((Below.refl _ _).new _)).below (b8.mono (by simp))
  have L8 : w7.heap.size ≤ w8.heap.size := Nat.le_trans (by simp) b8.size
  clear B7 S7 L7 b8
  go_wp2_with fail
  refine (same_any A1 _ _ c1 2 2 _ [2, 7] [2, 7] _ ((S8.mono L8).alloc (Nat.le_refl _) _ |>.mono (Nat.le_succ _)) (bytes_of (by decide)) (Sl.new _ #[_, _] _ _ (Nat.lt_succ_self _)) (bytes_of (by decide))).mono ?_
  rintro e w9 ⟨rfl, hw9'⟩
  have hw9 : w8.alloc (.cells #[.int .u8 2, .int .u8 7] 5) = w9 := hw9'
  clear hw9'
  have B9 := B8.new (.cells #[.int .u8 2, .int .u8 7] 5)
  rw [hw9] at B9
  clear B8 S8 L8 hw9
  have e9 : (([2, 7] : List Nat) == [2, 7]) = true := rfl
  rw [e9]
  clear e9
  go_wp2_with fail
  go_ret
  exact ⟨rfl, B9⟩
end Go.Proofs.Ytjelfclcmfmmaaa.CrcW
