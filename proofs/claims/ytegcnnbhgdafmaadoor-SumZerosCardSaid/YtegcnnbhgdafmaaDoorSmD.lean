/- The walks of zerosOf, zeros.twice, sum.Zeros. -/
import Derived.Test.YtegcnnbhgdafmaaDoorSmC
set_option linter.unusedVariables false
set_option linter.unusedSimpArgs false
namespace Go.Proofs.YtegcnnbhgdafmaaDoor.SmW
open Go.RowKit Go.Proofs.YtegcnnbhgdafmaaDoor Go.Proofs.YtegcnnbhgdafmaaDoor.Sm
/-- The table behind k rounds, filled from its end. -/
def arr (t k : Nat) : Array Value := ((List.range 32).map fun i => Value.int .u32 (if 32 ≤ i + k then (it (31 - i) t : Nat) else (0 : Nat) : Nat)).toArray
theorem arr_size (t k : Nat) : (arr t k).size = 32 := by simp [arr]
theorem arr_get (t k i : Nat) (h : i < 32) : (arr t k)[i]? = some (.int .u32 (if 32 ≤ i + k then (it (31 - i) t : Nat) else (0 : Nat) : Nat)) := by
  unfold arr
  rw [List.getElem?_toArray, List.getElem?_map, List.getElem?_range h]
  rfl
theorem arr_old (t k i : Nat) (h : i < 32) : ∃ v : Int, (arr t k)[i]? = some (.int .u32 v) := ⟨_, arr_get t k i h⟩
theorem arr_set (t k : Nat) (h : k < 32) : (arr t k).setIfInBounds (31 - k) (.int .u32 (it k t : Nat)) = arr t (k + 1) := by
  apply Array.ext_getElem?
  intro i
  rw [Array.getElem?_setIfInBounds, arr_size]
  by_cases hi : i < 32
  · rw [arr_get t k i hi, arr_get t (k + 1) i hi]
    by_cases hk : 31 - k = i
    · rw [if_pos hk, if_pos (by omega), if_pos (by omega), show 31 - i = k by omega]
    · rw [if_neg hk]
      by_cases hlt : 32 ≤ i + k
      · rw [if_pos hlt, if_pos (by omega)]
      · rw [if_neg hlt, if_neg (by omega)]
  · have e : ∀ m, (arr t m)[i]? = none := fun m => by
      rw [Array.getElem?_eq_none]; rw [arr_size]; omega
    rw [e, e]
    by_cases hk : 31 - k = i
    · rw [if_pos hk, if_neg (by omega)]
    · rw [if_neg hk]
theorem arr_full (m i : Nat) (h : i < 32) : (arr (it m 2147483648) 32)[i]? = some (.int .u32 (it m (2 ^ i) : Nat)) := by
  rw [arr_get _ _ _ h, if_pos (by omega), tab_at h]
theorem arr_one (t k : Nat) : (arr t k).all (·.oneCell') = true := by
  rw [Array.all_eq_true_iff_forall_mem]
  intro v hv
  simp [arr] at hv
  obtain ⟨i, _, rfl⟩ := hv
  rfl
theorem arr_none : arr 0 0 = arr 0 0 := rfl
theorem info_arr : (Tryd.prog.info? 40).map (·.size) = some 32 := by kernel_rfl
theorem below_setRow {B : Nat} {a w : World} (h : Below B a w) {g : Nat} (hg : B ≤ g) (cs : Array Value) : Below B a (w.setRow g cs) :=
  h.trans ⟨rfl, rfl, rfl, by simp, fun k hk => by
    simp only [World.setRow, Array.getElem?_modify]
    rw [if_neg (by omega)]⟩
theorem zat_row {w : World} {b m T : Nat} {t : TypeId} (hT : Hid (T = it m 2147483648)) (h : w.heap[b]? = some (.cells (arr T 32) t (0, 0))) : ZAt w b m := fun i hi => by
  rw [cell_of_row w b i _ _ _ h, hT.out]; exact arr_full m i hi

set_option maxHeartbeats 1000000 in
theorem zerosOf_any (t : Nat) (ht : t < 4294967296) (w : World) :
    Calls Tryd.prog 19 #[.int .u32 t] w fun e w' => e = .returned (.agg (arr t 32)) ∧ Below w.heap.size w w' := by
  go_enter Tryd.func19, Tryd.ntmps19
  go_wp2_with fail
  go_loopw [0, 5] (fun x i wr => ∃ k : Nat, k ≤ 32 ∧ i = .int .i64 k ∧ x = .int .u32 (it k t : Nat) ∧ wr = (w.alloc (.cells (arr t 0) 40)).alloc (.cells (arr t k) 40)) (fun _ i _ => 32 - (intOf i).toNat)
  case atStart => exact ⟨0, by omega, rfl, rfl, rfl⟩
  case round =>
    obtain ⟨k, hk, rfl, rfl, rfl⟩ := hrel
    by_cases hlt : k < 32
    · have hd : decide ((k : Int) < 32) = true := by simp; omega
      have hw : IntKind.i64.wrap (31 - (k : Int)) = ((31 - k : Nat) : Int) := by rw [IntKind.wrap_i64]; omega
      have hz : it k t < 4294967296 := it_lt ht
      have HS := Lib.hid (arr_set t k hlt)
      have HN := Lib.hid (it_succ k t)
      obtain ⟨v, hv⟩ := arr_old t k (31 - k) (by omega)
      obtain ⟨j, ej⟩ : ∃ j, j = 31 - k := ⟨_, rfl⟩
      rw [← ej] at hw hv HS
      have z0 : (0 : Int) ≤ (j : Int) := by omega
      have z1 : (j : Int) < 32 := by omega
      obtain ⟨z, ez⟩ : ∃ z, z = it k t := ⟨_, rfl⟩
      rw [← ez] at hz HN HS ⊢
      clear ej ez
      go_wp2_with (go_at_call 16; refine (shift_any _ hz _).mono ?_; rintro e w' ⟨rfl, hw'⟩)
      rw [HS.out] at hw'
      subst hw'
      go_roundw
      case rel => exact ⟨k + 1, by omega, by go_num, by rw [HN.out], rfl⟩
      case measure => simp [intOf]; omega
    · obtain rfl : k = 32 := by omega
      clear hk
      go_wp2_with (first | (refine wpList_load_row rfl 40 _ rfl (w.heap.size + 1) rfl 40 (arr t 32) (0, 0) _ (heap_alloc2_new _ _ _) Tryd.underlying40 rfl (by rw [arr_size]; exact info_arr) ?_) | (refine wpList_store_row rfl 40 _ _ rfl w.heap.size (arr t 32) rfl rfl 40 (arr t 0) (heap_alloc2_old _ _ _) (by rw [arr_size]; exact info_arr) (by rw [arr_size, arr_size]) (arr_one t 32) ?_))
      refine bodyPost_ret (v := .agg (arr t 32)) (results_cell_row rfl _ _ w.heap.size 40 (arr t 32) (0, 0) _ rfl (setRow_heap _ _ (arr t 0) _ _ _ (heap_alloc2_old _ _ _)) Tryd.underlying40 rfl (by rw [arr_size]; exact info_arr)) rfl ⟨rfl, ?_⟩
      exact below_setRow (((Below.refl _ _).alloc (Nat.le_refl _) _).alloc (by simp) _) (Nat.le_refl _) _

set_option maxHeartbeats 1000000 in
theorem twice_any (b m : Nat) (w : World) (hz : ZAt w b m) (hb : b < w.heap.size) (ht : TabW w) :
    Calls Tryd.prog 21 #[.pointer (some ⟨b, 0, none⟩)] w fun e w' => ∃ T : Nat, Hid (T = it (m + m) 2147483648) ∧ T < 4294967296 ∧ e = .returned (.agg (arr T 32)) ∧ Below w.heap.size w w' := by
  have h31 : it m 2147483648 < 4294967296 := it_lt (by omega)
  have h2 : it (m + m) 2147483648 < 4294967296 := it_lt (by omega)
  have hA := it_add m m 2147483648
  obtain ⟨T, eT⟩ : ∃ T, T = it (m + m) 2147483648 := ⟨_, rfl⟩
  obtain ⟨U, eU⟩ : ∃ U, U = it m 2147483648 := ⟨_, rfl⟩
  rw [← eT] at h2 hA
  have ET := Lib.hid eT
  rw [← eU] at h31 hA
  have HA := Lib.hid hA.symm
  have EU := Lib.hid eU
  clear eT eU hA
  go_enter Tryd.func21, Tryd.ntmps21
  obtain ⟨X, hX⟩ : ∃ X, X = w.alloc (.cells (arr 0 0) 40) := ⟨_, rfl⟩
  have BX : Below w.heap.size w X := by rw [hX]; exact (Below.refl _ _).new _
  have ZX : ZAt X b m := fun i hi => (BX.cell (p := ⟨b, i, none⟩) hb).trans (hz i hi)
  have RX : X.heap[w.heap.size]? = some (.cells (arr 0 0) 40 (0, 0)) := by rw [hX]; exact heap_alloc_new w _
  have z31 := ZX 31 (by omega)
  rw [show (2 : Nat) ^ 31 = 2147483648 from rfl, ← EU.out] at z31
  have hX2 : w.alloc (.cells #[.int .u32 0, .int .u32 0, .int .u32 0, .int .u32 0, .int .u32 0, .int .u32 0, .int .u32 0, .int .u32 0, .int .u32 0, .int .u32 0, .int .u32 0, .int .u32 0, .int .u32 0, .int .u32 0, .int .u32 0, .int .u32 0, .int .u32 0, .int .u32 0, .int .u32 0, .int .u32 0, .int .u32 0, .int .u32 0, .int .u32 0, .int .u32 0, .int .u32 0, .int .u32 0, .int .u32 0, .int .u32 0, .int .u32 0, .int .u32 0, .int .u32 0, .int .u32 0] 40) = X := by rw [hX]; rfl
  have KA := Lib.hid (fun s hs => apply_any b s m hs X ZX (Nat.lt_of_lt_of_le hb BX.size) (ht.to BX))
  clear hX
  go_wp2_with (rw [hX2])
  refine (KA.out _ h31).mono ?_
  rw [HA.out]
  rintro e w1 ⟨rfl, b1⟩
  have R1 := b1.row (row_lt RX) RX
  have B1 := BX.call b1
  clear b1 KA ZX z31 RX hX2 BX
  clear HA EU h31 hz
  go_wp2_with fail
  refine (zerosOf_any T h2 _).mono ?_
  rintro e w2 ⟨rfl, b2⟩
  have R2 := b2.row (row_lt R1) R1
  have B2 := B1.call b2
  clear b2 R1 B1
  go_wp2_with (refine wpList_store_row rfl 40 _ _ rfl w.heap.size (arr T 32) rfl rfl 40 (arr 0 0) R2 (by rw [arr_size]; exact info_arr) (by rw [arr_size, arr_size]) (arr_one T 32) ?_)
  refine bodyPost_ret (v := .agg (arr T 32)) (results_cell_row rfl _ _ w.heap.size 40 (arr T 32) (0, 0) _ rfl (setRow_heap _ _ (arr 0 0) _ _ _ R2) Tryd.underlying40 rfl (by rw [arr_size]; exact info_arr)) rfl ⟨T, ET, h2, rfl, ?_⟩
  exact below_setRow B2 (Nat.le_refl _) _

set_option maxHeartbeats 1000000 in
theorem zeros_any (s n : Nat) (hs : s < 4294967296) (hn : n ≤ 9223372036854775807) (w : World) (ht : TabW w) :
    Calls Tryd.prog 13 #[.int .u32 s, .int .i64 (n : Nat)] w fun e w' => e = .returned (.int .u32 (it (8 * n) s : Nat)) ∧ Below w.heap.size w w' := by
  have HT := Lib.hid ht
  have hcv : IntKind.u64.wrap (n : Int) = (n : Int) := by rw [IntKind.wrap_u64]; omega
  have hmod : (n : Int) % 4294967295 = ((n % 4294967295 : Nat) : Int) := by omega
  have hlt : n % 4294967295 < 4294967295 := Nat.mod_lt _ (by omega)
  have HF := Lib.hid (it_left n hs)
  have hd0 : ¬ (n : Int) < 0 := by omega
  obtain ⟨L, eL⟩ : ∃ L, L = n % 4294967295 := ⟨_, rfl⟩
  rw [← eL] at hmod hlt HF
  obtain ⟨T, ET, h8, had⟩ : ∃ T : Nat, Hid (T = it 8 2147483648) ∧ T < 4294967296 ∧ ad 2147483648 0 = T :=
    ⟨it 8 2147483648, Eq.refl _, it_lt (by omega), by unfold ad; rw [Nat.xor_zero]⟩
  have HAD := Lib.hid had
  clear ht eL had
  go_enter Tryd.func13, Tryd.ntmps13
  go_wp2_with fail
  refine (add_any 2147483648 0 (by omega) (by omega) _).mono ?_
  rw [HAD.out]
  rintro e w0 ⟨rfl, rfl⟩
  clear HAD
  go_wp2_with fail
  refine (zerosOf_any T h8 _).mono ?_
  rintro e w1 ⟨rfl, b1⟩
  go_wp2_with (refine wpList_store_row rfl 40 _ _ rfl w1.heap.size (arr T 32) rfl rfl 40 _ (heap_alloc_last _ _) (by rw [arr_size]; exact info_arr) (by rw [arr_size]; rfl) (arr_one T 32) ?_; rw [World.setRow_alloc_new])
  have hg := Nat.le_trans (Nat.le_refl _) b1.size
  have R0 : (w1.alloc (.cells (arr T 32) 40)).heap[w1.heap.size]? = some (.cells (arr T 32) 40 (0, 0)) := heap_alloc_last _ _
  have B0 := b1.alloc b1.size (.cells (arr T 32) 40)
  obtain ⟨X, hX⟩ : ∃ X, X = w1.alloc (.cells (arr T 32) 40) := ⟨_, rfl⟩
  rw [← hX] at R0 B0 ⊢
  obtain ⟨g, eg⟩ : ∃ g, g = w1.heap.size := ⟨_, rfl⟩
  rw [← eg] at R0 hg ⊢
  have HMOD := Lib.hid hmod
  clear hX b1 eg hmod
  go_loopw [0, 6] (fun x l wr => ∃ y k m T : Nat, x = .int .u32 y ∧ l = .int .u64 k ∧ y < 4294967296 ∧ k < 4294967295 ∧ Hid (it (m * k) y = it (8 * L) s) ∧ Hid (T = it m 2147483648) ∧ wr.heap[g]? = some (.cells (arr T 32) 40 (0, 0)) ∧ Below w.heap.size w wr) (fun _ l _ => (intOf l).toNat)
  case atStart => exact ⟨s, L, 8, T, rfl, by rw [HMOD.out], hs, hlt, Eq.refl (it (8 * L) s), ET, R0, B0⟩
  case round =>
    obtain ⟨y, k, m, T1, rfl, rfl, hy, hk, HR, HT1, hrow, hbel⟩ := hrel
    clear R0 B0 ET h8
    have hgl := row_lt hrow
    by_cases h0 : k = 0
    · subst h0
      have HQ := Lib.hid (show y = it (8 * n) s from by have := HR.out; rw [Nat.mul_zero] at this; rw [← HF.out]; exact this)
      go_wp2_with fail
      go_ret
      exact ⟨ret_u32 (by rw [HQ.out]), hbel⟩
    · have hpos : (0 : Int) < (k : Int) := by omega
      have HTW := Lib.hid (HT.out.to hbel)
      have HZ := Lib.hid (zat_row HT1 hrow)
      have hh : (k : Int) / 2 = ((k / 2 : Nat) : Int) := by omega
      have hk2 : k / 2 < k := by omega
      by_cases hodd : k % 2 = 1
      · have ho : (k : Int) % 2 = 1 := by omega
        have HN := Lib.hid (show it ((m + m) * (k / 2)) (it m y) = it (8 * L) s from by
          rw [← HR.out, ← it_add]
          congr 1
          obtain ⟨q, rfl⟩ : ∃ q, k = 2 * q + 1 := ⟨k / 2, by omega⟩
          rw [show (2 * q + 1) / 2 = q by omega, Nat.mul_add, Nat.mul_one, Nat.add_mul, ← Nat.mul_assoc, Nat.mul_comm m 2, Nat.two_mul, Nat.add_mul, Nat.add_comm m])
        have hy2 : it m y < 4294967296 := it_lt hy
        obtain ⟨h, eh⟩ : ∃ h, h = k / 2 := ⟨_, rfl⟩
        rw [← eh] at hh hk2 HN
        have HRW := Lib.hid hrow
        clear hodd eh hrow
        go_wp2_with fail
        refine (apply_any g y m hy _ HZ.out hgl HTW.out).mono ?_
        rintro e w2 ⟨rfl, b2⟩
        have r2 := b2.row hgl HRW.out
        have B2 := hbel.call b2
        have HR2 := Lib.hid r2
        have hg2 := row_lt r2
        clear b2 r2
        go_wp2_with fail
        refine (twice_any g m _ (zat_row HT1 HR2.out) hg2 (HT.out.to B2)).mono ?_
        rintro e w3 ⟨T2, HT2, hT2, rfl, b3⟩
        have r3 := b3.row hg2 HR2.out
        have B3 := B2.call b3
        clear b3 B2
        go_wp2_with (refine wpList_store_row rfl 40 _ _ rfl g (arr T2 32) rfl rfl 40 (arr T1 32) r3 (by rw [arr_size]; exact info_arr) (by rw [arr_size, arr_size]) (arr_one _ 32) ?_)
        go_roundw
        case rel => exact ⟨it m y, h, m + m, T2, rfl, rfl, hy2, by omega, HN, HT2, setRow_heap _ _ _ _ _ _ r3, below_setRow B3 hg _⟩
        case measure => simp [intOf]; omega
      · have ho : (k : Int) % 2 = 0 := by omega
        have HN := Lib.hid (show it ((m + m) * (k / 2)) y = it (8 * L) s from by
          rw [← HR.out]
          congr 1
          obtain ⟨q, rfl⟩ : ∃ q, k = 2 * q := ⟨k / 2, by omega⟩
          rw [show (2 * q) / 2 = q by omega, ← Nat.mul_assoc, Nat.mul_comm m 2, Nat.two_mul])
        obtain ⟨h, eh⟩ : ∃ h, h = k / 2 := ⟨_, rfl⟩
        rw [← eh] at hh hk2 HN
        have HR2 := Lib.hid hrow
        clear hodd eh hrow
        go_wp2_with fail
        refine (twice_any g m _ HZ.out hgl HTW.out).mono ?_
        rintro e w3 ⟨T2, HT2, hT2, rfl, b3⟩
        have r3 := b3.row hgl HR2.out
        have B3 := hbel.call b3
        clear b3
        go_wp2_with (refine wpList_store_row rfl 40 _ _ rfl g (arr T2 32) rfl rfl 40 (arr T1 32) r3 (by rw [arr_size]; exact info_arr) (by rw [arr_size, arr_size]) (arr_one _ 32) ?_)
        go_roundw
        case rel => exact ⟨y, h, m + m, T2, rfl, rfl, hy, by omega, HN, HT2, setRow_heap _ _ _ _ _ _ r3, below_setRow B3 hg _⟩
        case measure => simp [intOf]; omega
theorem zeros_neg (s : Nat) (a : Int) (ha : a < 0) (w : World) :
    Calls Tryd.prog 13 #[.int .u32 s, .int .i64 a] w fun e w' => e = .returned (.int .u32 s) ∧ Below w.heap.size w w' := by
  go_enter Tryd.func13, Tryd.ntmps13
  go_wp2_with fail
  go_ret
  exact ⟨rfl, Below.refl _ _⟩
end Go.Proofs.YtegcnnbhgdafmaaDoor.SmW
