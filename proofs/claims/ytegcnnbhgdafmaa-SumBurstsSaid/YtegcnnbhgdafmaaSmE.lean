/- The walk of SumThrees. -/
import Derived.Test.YtegcnnbhgdafmaaSmB
import Derived.Test.YtegcnnbhgdafmaaBase
import Derived.WalkLawsBesides
import Derived.RegionTactic
import Derived.ChangeAlike
import Derived.Deep.RegionHeld3
set_option linter.unusedVariables false
set_option linter.unusedSimpArgs false
namespace Go.Proofs.Ytegcnnbhgdafmaa.SmW
open Go.RowKit Go.Proofs.Ytegcnnbhgdafmaa Go.Proofs.Ytegcnnbhgdafmaa.Sm
theorem bytes_below (A : Option Addr) (n cap : Nat) (l : List Nat) (w : World) (hs : Sl w w.heap.size A n (bs l)) (hl : Bytes l) (hn : n ≤ 9223372036854775807) :
    Calls Try.prog 6 #[.slice A n cap] w fun e w' => e = .returned (.int .u32 (chk l : Nat)) ∧ Below w.heap.size w w' :=
  (bytes_any A n cap l w hs hl hn).mono fun e w' ⟨h, hw⟩ => ⟨h, by rw [← hw]; exact Below.refl _ _⟩
theorem xor3_get (a b c : List Nat) (m j : Nat) (ha : a.length = m) (hb : b.length = m) (hc : c.length = m) (hj : j < m) : (xor3 a b c)[j]?.getD 0 = a[j]?.getD 0 ^^^ b[j]?.getD 0 ^^^ c[j]?.getD 0 := by
  unfold xor3
  simp [List.getElem?_zipWith, List.getElem?_eq_getElem (show j < a.length by omega), List.getElem?_eq_getElem (show j < b.length by omega), List.getElem?_eq_getElem (show j < c.length by omega)]
theorem xor3_len (a b c : List Nat) (m : Nat) (ha : a.length = m) (hb : b.length = m) (hc : c.length = m) : (xor3 a b c).length = m := by
  unfold xor3; simp; omega
/-- A row of which the first j are written. -/
def rowTo (m : Nat) (X : List Nat) (j : Nat) : Array Value := ((List.range m).map fun i => Value.int .u8 ((if i < j then X[i]?.getD 0 else 0 : Nat) : Int)).toArray
theorem rowTo_zero (m : Nat) (X : List Nat) : rowTo m X 0 = Array.replicate m (.int .u8 0) := by
  apply Array.ext
  · simp [rowTo]
  · intro i h1 h2
    simp [rowTo]
theorem rowTo_set (m : Nat) (X : List Nat) (j : Nat) : (rowTo m X j).setIfInBounds j (.int .u8 ((X[j]?.getD 0 : Nat) : Int)) = rowTo m X (j + 1) := by
  apply Array.ext
  · simp [rowTo]
  · intro i h1 h2
    simp only [rowTo, List.getElem_toArray, List.getElem_map, List.getElem_range]
    by_cases hij : j = i
    · subst hij; simp
    · by_cases h : i < j
      · simp [hij, h, show i < j + 1 by omega]
      · simp [hij, h, show ¬ i < j + 1 by omega]
theorem rowTo_full (m : Nat) (X : List Nat) (hX : X.length = m) : (rowTo m X m).toList = bs X := by
  apply List.ext_getElem
  · simp [rowTo, hX]
  · intro i h1 h2
    simp [rowTo, bs] at h1 ⊢
    rw [if_pos h1, List.getElem?_eq_getElem (by omega)]; rfl
theorem rowTo_get (m : Nat) (X : List Nat) (j i : Nat) (hi : i < m) : ∃ v, (rowTo m X j)[i]? = some v := by
  rw [Array.getElem?_eq_getElem (by simpa [rowTo] using hi)]; exact ⟨_, rfl⟩
theorem xor_u8_3 (x y z : Nat) (hx : x < 256) (hy : y < 256) (hz : z < 256) : bits .xor .u8 (bits .xor .u8 (x : Int) (y : Int)) (z : Int) = ((x ^^^ y ^^^ z : Nat) : Int) := by
  rw [u8_xor_nat x y hx hy]
  exact u8_xor_nat _ z (Nat.xor_lt_two_pow (n := 8) (by omega) (by omega)) hz

theorem threes_any (A1 A2 A3 : Option Addr) (n1 n2 n3 cap1 cap2 cap3 : Nat) (l1 l2 l3 : List Nat) (w : World) (h1 : Sl w w.heap.size A1 n1 (bs l1)) (h2 : Sl w w.heap.size A2 n2 (bs l2)) (h3 : Sl w w.heap.size A3 n3 (bs l3))
    (b1 : Bytes l1) (b2 : Bytes l2) (b3 : Bytes l3) (c1 : n1 ≤ cap1) (c2 : n2 ≤ cap2) (c3 : n3 ≤ cap3) :
    Calls Try.prog 4 #[.slice A1 n1 cap1, .slice A2 n2 cap2, .slice A3 n3 cap3] w fun e w' => e = .returned (.bool true) ∧ Below w.heap.size w w' := by
  obtain ⟨m, hm1, hm2, hm3, hm4, hmin⟩ : ∃ m : Nat, m ≤ n1 ∧ m ≤ n2 ∧ m ≤ n3 ∧ m ≤ 300 ∧ ∀ W, (Builtin.min_ #[3, 3, 3, 3] 3 #[.int .i64 (n1 : Int), .int .i64 (n2 : Int), .int .i64 (n3 : Int), .int .i64 300]).run Try.prog W = .ok (.int .i64 (m : Int)) W := by
    refine ⟨min (min (min n1 n2) n3) 300, by omega, by omega, by omega, by omega, fun W => ?_⟩
    simp [Builtin.min_, Builtin.min2]
    (repeat' split) <;> omega
  have t1 := h1.take hm1
  have t2 := h2.take hm2
  have t3 := h3.take hm3
  rw [bs_take] at t1 t2 t3
  have q1 : (l1.take m).length = m := by simpa using t1.len
  have q2 : (l2.take m).length = m := by simpa using t2.len
  have q3 : (l3.take m).length = m := by simpa using t3.len
  have p1 := b1.take m
  have p2 := b2.take m
  have p3 := b3.take m
  obtain ⟨i0, hi0, hz0, hs0, hb0⟩ := info_parts (P := Try.prog) (e := 5) (z := .int .u8 0) (size := 1) (bytes := 1) (by kernel_rfl)
  go_enter Try.func4, Try.ntmps4
  go_wp2_with (at_make; refine wpList_makeN Try.underlying22 hi0 hz0 hs0 rfl rfl _ _ rfl m rfl rfl (by rw [hb0]; omega) (by omega) ?_)
  go_loopw [21] (fun i wr => ∃ j : Nat, j ≤ m ∧ i = .int .i64 j ∧ Below w.heap.size w wr ∧ wr.heap[w.heap.size]? = some (.cells (rowTo m (xor3 (l1.take m) (l2.take m) (l3.take m)) j) 5 (0, 0))) (fun i _ => m - (intOf i).toNat)
  case atStart => exact ⟨0, by omega, rfl, (Below.refl _ w).new _, by rw [rowTo_zero]; exact heap_alloc_new w _⟩
  case round =>
    obtain ⟨j, hj, rfl, bj, hx⟩ := hrel
    by_cases hlt : j < m
    · have s1 := t1.below bj
      have s2 := t2.below bj
      have s3 := t3.below bj
      obtain ⟨d1, o1, rfl, hd1, k1⟩ := s1.2 (by omega)
      obtain ⟨d2, o2, rfl, hd2, k2⟩ := s2.2 (by omega)
      obtain ⟨d3, o3, rfl, hd3, k3⟩ := s3.2 (by omega)
      have g1 := (k1 j hlt).trans (bs_get (by omega))
      have g2 := (k2 j hlt).trans (bs_get (by omega))
      have g3 := (k3 j hlt).trans (bs_get (by omega))
      have y1 := p1.at j
      have y2 := p2.at j
      have y3 := p3.at j
      have hX := xor3_get _ _ _ m j q1 q2 q3 hlt
      obtain ⟨x1, e1⟩ : ∃ x, x = (l1.take m)[j]?.getD 0 := ⟨_, rfl⟩
      obtain ⟨x2, e2⟩ : ∃ x, x = (l2.take m)[j]?.getD 0 := ⟨_, rfl⟩
      obtain ⟨x3, e3⟩ : ∃ x, x = (l3.take m)[j]?.getD 0 := ⟨_, rfl⟩
      rw [← e1] at g1 y1 hX
      rw [← e2] at g2 y2 hX
      rw [← e3] at g3 y3 hX
      have HXX := Lib.hid hX
      have HV := Lib.hid (xor_u8_3 x1 x2 x3 y1 y2 y3)
      obtain ⟨v0, hv0⟩ := rowTo_get m (xor3 (l1.take m) (l2.take m) (l3.take m)) j j hlt
      have gx : wr.cell? ⟨w.heap.size, j, none⟩ = some v0 := (cell_of_row wr _ j _ _ _ hx).trans hv0
      have fx : wr.frozen? ⟨w.heap.size, j, none⟩ = false := frozen_of_row wr _ j _ _ hx
      have HR := Lib.hid hx
      have z0 : (0 : Int) ≤ (j : Int) := by omega
      have z1 : (j : Int) < (n1 : Int) := by omega
      have z2 : (j : Int) < (n2 : Int) := by omega
      have z3 : (j : Int) < (n3 : Int) := by omega
      have z4 : (j : Int) < (m : Int) := by omega
      clear hx hX e1 e2 e3 k1 k2 k3 s1 s2 s3 hv0
      go_wp2_with fail
      go_region
      go_wp2_with fail
      rw [HV.out, ← HXX.out]
      go_roundw
      case rel =>
        refine ⟨j + 1, by omega, by go_num, (bj.setCell (Nat.le_refl _) _).drew, ?_⟩
        show (wr.setCell _ _).heap[w.heap.size]? = _
        rw [heap_setCell_same wr _ j _ _ _ HR.out, rowTo_set]
      case measure => simp [intOf]; omega
    · obtain rfl : j = m := by omega
      have hX : (xor3 (l1.take j) (l2.take j) (l3.take j)).length = j := xor3_len _ _ _ j q1 q2 q3
      have sx : Sl wr wr.heap.size (some ⟨w.heap.size, 0, none⟩) j (bs (xor3 (l1.take j) (l2.take j) (l3.take j))) := by
        refine ⟨by simpa using hX, fun _ => ⟨_, _, rfl, (Array.getElem?_eq_some_iff.1 hx).1, fun i hi => ?_⟩⟩
        rw [Nat.zero_add, cell_of_row wr _ i _ _ _ hx, ← rowTo_full j _ hX]
        simp
      have bX : Bytes (xor3 (l1.take j) (l2.take j) (l3.take j)) := by
        intro c hc
        obtain ⟨i, hi, rfl⟩ := List.mem_iff_getElem.1 hc
        have hi' : i < j := by omega
        have e := xor3_get _ _ _ j i q1 q2 q3 hi'
        rw [List.getElem?_eq_getElem hi] at e
        have e' : (xor3 (l1.take j) (l2.take j) (l3.take j))[i] = _ := e
        rw [e']
        exact Nat.xor_lt_two_pow (n := 8) (Nat.xor_lt_two_pow (n := 8) (p1.at i) (p2.at i)) (p3.at i)
      have hsum : chk (xor3 (l1.take j) (l2.take j) (l3.take j)) = chk (l1.take j) ^^^ chk (l2.take j) ^^^ chk (l3.take j) := chk_xor3 (by omega) (by omega)
      have hT : (((chk (xor3 (l1.take j) (l2.take j) (l3.take j)) : Nat) : Int) == bits .xor .u32 (bits .xor .u32 ((chk (l1.take j) : Nat) : Int) ((chk (l2.take j) : Nat) : Int)) ((chk (l3.take j) : Nat) : Int)) = true := by
        rw [hsum, u32_xor_nat _ _ (chk_lt p1) (chk_lt p2), u32_xor_nat _ _ (Nat.xor_lt_two_pow (n := 32) (chk_lt p1) (chk_lt p2)) (chk_lt p3)]
        simp
      have K0 := Lib.hid (fun W (h : Below wr.heap.size wr W) cap => bytes_below _ j cap _ W (sx.to h) bX (by omega))
      have K1 := Lib.hid (fun W (h : Below wr.heap.size wr W) => bytes_below _ j cap1 _ W ((t1.to bj).to h) p1 (by omega))
      have K2 := Lib.hid (fun W (h : Below wr.heap.size wr W) => bytes_below _ j cap2 _ W ((t2.to bj).to h) p2 (by omega))
      have K3 := Lib.hid (fun W (h : Below wr.heap.size wr W) => bytes_below _ j cap3 _ W ((t3.to bj).to h) p3 (by omega))
      obtain ⟨r0, hr0⟩ : ∃ r, r = chk (xor3 (l1.take j) (l2.take j) (l3.take j)) := ⟨_, rfl⟩
      obtain ⟨r1, hr1⟩ : ∃ r, r = chk (l1.take j) := ⟨_, rfl⟩
      obtain ⟨r2, hr2⟩ : ∃ r, r = chk (l2.take j) := ⟨_, rfl⟩
      obtain ⟨r3, hr3⟩ : ∃ r, r = chk (l3.take j) := ⟨_, rfl⟩
      rw [← hr0, ← hr1, ← hr2, ← hr3] at hT
      rw [← hr0] at K0
      rw [← hr1] at K1
      rw [← hr2] at K2
      rw [← hr3] at K3
      clear hr0 hr1 hr2 hr3 hsum bX sx hX hx t1 t2 t3 h1 h2 h3 p1 p2 p3 q1 q2 q3 b1 b2 b3
      have z0 : (0 : Int) ≤ (j : Int) := by omega
      have z1 : (j : Int) ≤ (cap1 : Int) := by omega
      have z2 : (j : Int) ≤ (cap2 : Int) := by omega
      have z3 : (j : Int) ≤ (cap3 : Int) := by omega
      have hb0 : Below wr.heap.size wr wr.drew := (Below.refl _ _).drew
      go_wp2_with fail
      go_region_held3 (fun w' => Below wr.heap.size wr w') (first | exact hb0 | exact hk4 | exact hk3 | exact hk2 | exact hk1 | exact hk0)
        (first
          | (go_at_call_of 6 (Value.slice (some ⟨w.heap.size, 0, none⟩) j j); refine (K0.out _ (by assumption) _).mono ?_; rintro e w0 ⟨rfl, bb⟩; have hk0 := Below.call (a := wr) (by assumption) bb)
          | (go_at_call_of 6 (Value.slice A1 j cap1); refine (K1.out _ (by assumption)).mono ?_; rintro e w0 ⟨rfl, bb⟩; have hk1 := Below.call (a := wr) (by assumption) bb)
          | (go_at_call_of 6 (Value.slice A2 j cap2); refine (K2.out _ (by assumption)).mono ?_; rintro e w0 ⟨rfl, bb⟩; have hk2 := Below.call (a := wr) (by assumption) bb)
          | (go_at_call_of 6 (Value.slice A3 j cap3); refine (K3.out _ (by assumption)).mono ?_; rintro e w0 ⟨rfl, bb⟩; have hk3 := Below.call (a := wr) (by assumption) bb)
          | (go_at_call 5; refine (awake_any _).mono ?_; rintro e w0 ⟨rfl, bb⟩; have hk4 := Below.call (a := wr) (by assumption) bb))
      go_wp2_with fail
      go_ret
      exact ⟨rfl, bj.call hk4⟩
end Go.Proofs.Ytegcnnbhgdafmaa.SmW
