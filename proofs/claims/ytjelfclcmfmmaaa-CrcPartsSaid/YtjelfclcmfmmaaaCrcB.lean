/- The walks of crc.nibbles and crc.step. -/
import Derived.Test.YtjelfclcmfmmaaaCrcA
namespace Go.Proofs.Ytjelfclcmfmmaaa.CrcW
open Go.RowKit Go.Proofs.Ytjelfclcmfmmaaa
/-- The table behind k rounds. -/
def arr (k : Nat) : Array Value := ((List.range 16).map fun i => Value.int .u16 (if i < k then (Crc.sh4 i : Nat) else (0 : Nat) : Nat)).toArray
theorem arr_set (k : Nat) (h : k < 16) : (arr k).setIfInBounds k (.int .u16 (Crc.sh4 k : Nat)) = arr (k + 1) := by
  rcases show k = 0 ∨ k = 1 ∨ k = 2 ∨ k = 3 ∨ k = 4 ∨ k = 5 ∨ k = 6 ∨ k = 7 ∨ k = 8 ∨ k = 9 ∨ k = 10 ∨ k = 11 ∨ k = 12 ∨ k = 13 ∨ k = 14 ∨ k = 15 from by omega with
    rfl | rfl | rfl | rfl | rfl | rfl | rfl | rfl | rfl | rfl | rfl | rfl | rfl | rfl | rfl | rfl <;> rfl
theorem arr_get (k i : Nat) (h : i < 16) : ∃ v : Int, (arr k)[i]? = some (.int .u16 v) := by
  unfold arr
  rw [List.getElem?_toArray, List.getElem?_map, List.getElem?_range h]
  exact ⟨_, rfl⟩
theorem arr_last (i : Nat) (h : i < 16) : (arr 16)[i]? = some (.int .u16 (Crc.sh4 i : Nat)) := by
  unfold arr
  rw [List.getElem?_toArray, List.getElem?_map, List.getElem?_range h]
  simp [h]
theorem shN4 (k : Nat) : shN 4 k = Crc.sh4 k := rfl
def tabV : Value := .agg (arr 16)
theorem arr_size (k : Nat) : (arr k).size = 16 := by simp [arr]
theorem arr_one (k : Nat) : (arr k).all (·.oneCell') = true := by
  rw [Array.all_eq_true_iff_forall_mem]
  intro v hv
  simp [arr] at hv
  obtain ⟨i, _, rfl⟩ := hv
  rfl
theorem info_arr : (Try.prog.info? 37).map (·.size) = some 16 := by kernel_rfl
theorem below_setRow {B : Nat} {a w : World} (h : Below B a w) {g : Nat} (hg : B ≤ g) (cs : Array Value) : Below B a (w.setRow g cs) :=
  h.trans ⟨rfl, rfl, rfl, by simp, fun k hk => by
    simp only [World.setRow, Array.getElem?_modify]
    rw [if_neg (by omega)]⟩

theorem nibbles_any (w : World) :
    Calls Try.prog 17 #[] w fun e w' => e = .returned tabV ∧ Below w.heap.size w w' := by
  go_enter Try.func17, Try.ntmps17
  go_wp2_with fail
  go_loopw [4] (fun i wr => ∃ k : Nat, k ≤ 16 ∧ i = .int .i64 k ∧ wr = (w.alloc (.cells (arr 0) 37)).alloc (.cells (arr k) 37)) (fun i _ => 16 - (intOf i).toNat)
  case atStart => exact ⟨0, by omega, rfl, rfl⟩
  case round =>
    obtain ⟨k, hk, rfl, rfl⟩ := hrel
    by_cases hlt : k < 16
    · have hd : decide ((k : Int) < 16) = true := by simp; omega
      obtain ⟨v, hv⟩ := arr_get k k hlt
      have hset := arr_set k hlt
      rw [← shN4] at hset
      have HS := Lib.hid hset
      clear hset
      go_wp2_with fail
      go_loop [3, 9] (fun t i => ∃ m : Nat, m ≤ 4 ∧ i = .int .i64 m ∧ t = .int .u16 (shN m k : Nat)) (fun _ i => 4 - (intOf i).toNat)
      case atStart => exact ⟨0, by omega, rfl, rfl⟩
      case round =>
        obtain ⟨m, hm, rfl, rfl⟩ := hrel
        by_cases hm4 : m < 4
        · go_wp2_with (go_at_call 19; refine (shift_any _ (shN_lt m k (by omega)) _).mono ?_; rintro e w' ⟨rfl, rfl⟩)
          go_round
          case rel => exact ⟨m + 1, by omega, by go_num, rfl⟩
          case measure => simp [intOf]; omega
        · obtain rfl : m = 4 := by omega
          clear hm4
          go_wp2_with fail
          rw [HS.out]
          go_roundw
          case rel => exact ⟨k + 1, by omega, by go_num, rfl⟩
          case measure => simp [intOf]; omega
    · obtain rfl : k = 16 := by omega
      clear hk
      go_wp2_with (first | (refine wpList_load_row rfl 37 _ rfl (w.heap.size + 1) rfl 37 (arr 16) (0, 0) _ (heap_alloc2_new _ _ _) Try.underlying37 rfl (by rw [arr_size]; exact info_arr) ?_) | (refine wpList_store_row rfl 37 _ _ rfl w.heap.size (arr 16) rfl rfl 37 (arr 0) (heap_alloc2_old _ _ _) (by rw [arr_size]; exact info_arr) (by rw [arr_size, arr_size]) (arr_one 16) ?_))
      refine bodyPost_ret (v := tabV) (results_cell_row rfl _ _ w.heap.size 37 (arr 16) (0, 0) _ rfl (setRow_heap _ _ (arr 0) _ _ _ (heap_alloc2_old _ _ _)) Try.underlying37 rfl (by rw [arr_size]; exact info_arr)) rfl ⟨rfl, ?_⟩
      exact below_setRow (((Below.refl _ _).alloc (Nat.le_refl _) _).alloc (by simp) _) (Nat.le_refl _) _
end Go.Proofs.Ytjelfclcmfmmaaa.CrcW
