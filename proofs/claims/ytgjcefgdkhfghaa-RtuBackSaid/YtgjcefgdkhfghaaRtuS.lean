/- The walk of saucierlow.Spoil. -/
import Derived.Test.YtgjcefgdkhfghaaBurst
import Derived.Test.YtgjcefgdkhfghaaAG1
import Derived.RegionTactic
set_option linter.unusedVariables false
set_option linter.unusedSimpArgs false
namespace Go.Proofs.Ytgjcefgdkhfghaa.AskW
open Go.RowKit Go.Proofs.Ytgjcefgdkhfghaa Go.Proofs.Ytgjcefgdkhfghaa.Ask
theorem xor_pow (y m : Nat) (hy : y < 256) (hm : m < 8) : bits .xor .u8 (y : Int) ((2 : Int) ^ m % 256) = ((y ^^^ 2 ^ m : Nat) : Int) := by
  have e : (2 : Int) ^ m % 256 = ((2 ^ m : Nat) : Int) := by
    obtain rfl | rfl | rfl | rfl | rfl | rfl | rfl | rfl : m = 0 ∨ m = 1 ∨ m = 2 ∨ m = 3 ∨ m = 4 ∨ m = 5 ∨ m = 6 ∨ m = 7 := by omega
    all_goals rfl
  rw [e]
  refine u8_xor_nat y (2 ^ m) hy ?_
  exact Nat.pow_lt_pow_of_lt (a := 2) (n := m) (m := 8) (by omega) hm
/-- A row of its own, with bits turned, and whether any is. -/
def RetSpoil (w : World) (l : List Nat) (p : Nat) (e : Ending) (w' : World) : Prop := ∃ v x l', e = .returned (.tuple #[v, .bool (decide (x ≠ 0))]) ∧ Has w w' 5 v l.length (bs l') ∧ Bytes l' ∧ l'.length = l.length ∧ x < 65536 ∧ Crc.val l' = Crc.val l ^^^ 2 ^ p * x
theorem step_xor {x k : Nat} (h : x < 2 ^ k) : x ^^^ 2 ^ k < 2 ^ (k + 1) ∧ x ^^^ 2 ^ k ≠ 0 := by
  refine ⟨Nat.xor_lt_two_pow (Nat.lt_of_lt_of_le h (Nat.pow_le_pow_right (by omega) (by omega))) (Nat.pow_lt_pow_of_lt (by omega) (by omega)), fun h0 => ?_⟩
  have := Crc.xor_eq_zero h0
  omega
set_option maxRecDepth 100000 in
set_option maxHeartbeats 8000000 in
theorem spoil_any (A : Option Addr) (n cap : Nat) (l : List Nat) (p t : Nat) (w : World) (hs : Sl w w.heap.size A n (bs l)) (hl : Bytes l) (h1 : 1 ≤ n) (hn : n ≤ 1000) (hp : p < 8 * n) (ht : t < 65536) :
    Calls Try.prog 35 #[.slice A n cap, .int .i64 (p : Nat), .int .u16 (t : Nat)] w (RetSpoil w l p) := by
  have q1 : l.length = n := by simpa using hs.len
  have S0 := hs.to ((Below.refl _ _).new (.cells #[] 5))
  have HQ := Lib.hid q1
  have HLB := Lib.hid hl
  clear hs hl q1
  go_enter Try.func35, Try.ntmps35
  go_wp2_with (at_builtin; refine wpList_app _root_.Go.Proofs.Ytgjcefgdkhfghaa.AskW.u8 rfl (.tmp 12) (.tmp 13) rfl (Has.made0 (Below.refl w.heap.size w) _) rfl S0 rfl (bs_one _) (by omega) (by simp only [maxLen]; omega) ?_; intro v3 w3 H3 _ _; obtain ⟨g, cp, cur, rfl, hge, hg, hcap, hmax, hsz, hcur⟩ := Or.resolve_left H3.own.2 (fun h => absurd h.2 (by omega)); have b3 := H3.bel; clear H3 S0)
  rw [Nat.zero_add] at hcap hcur
  rw [List.nil_append, Nat.mul_one] at hcur
  have HSZ := Lib.hid hsz
  have HMX := Lib.hid hmax
  have HCP := Lib.hid hcap
  clear hsz hmax hcap
  go_loopw [9, 15] (fun a i wr => ∃ k x : Nat, ∃ l' : List Nat, ∃ cur' : Array Value, k ≤ 16 ∧ i = .int .i64 k ∧ a = .bool (decide (x ≠ 0)) ∧ x < 2 ^ k ∧ Bytes l' ∧ l'.length = n ∧ Crc.val l' = Crc.val l ^^^ 2 ^ p * x ∧ wr.heap[g]? = some (.cells cur' 5 (0, 0)) ∧ cur'.size = cur.size ∧ cur'.toList.take n = bs l' ∧ Below w.heap.size w wr) (fun _ i _ => 16 - (intOf i).toNat)
  case atStart => exact ⟨0, 0, l, cur, by omega, rfl, rfl, by decide, HLB.out, HQ.out, by rw [Nat.mul_zero, Nat.xor_zero], hg, rfl, hcur, b3⟩
  case round =>
    obtain ⟨k, x, l', cur', hk, rfl, rfl, hx, hb', hl', hv, hrow, hsize, htake, hbel⟩ := hrel
    clear hg hcur b3
    by_cases hlt : k < 16
    · obtain ⟨J, hJ⟩ : ∃ J, J = p + k := ⟨_, rfl⟩
      have hw1 : IntKind.i64.wrap ((p : Int) + (k : Int)) = (J : Int) := by rw [IntKind.wrap_i64]; omega
      have hw2 : IntKind.i64.wrap (8 * (n : Int)) = 8 * (n : Int) := by rw [IntKind.wrap_i64]; omega
      have hk64 := w64 (show k ≤ 9223372036854775807 by omega)
      have z0 : (0 : Int) ≤ (k : Int) := by omega
      have zJ : (0 : Int) ≤ (J : Int) := by omega
      have same : ∃ k' x' : Nat, ∃ l'' : List Nat, ∃ cur'' : Array Value, k' ≤ 16 ∧ Value.int .i64 ((k : Int) + 1) = .int .i64 k' ∧ Value.bool (decide (x ≠ 0)) = .bool (decide (x' ≠ 0)) ∧ x' < 2 ^ k' ∧ Bytes l'' ∧ l''.length = n ∧ Crc.val l'' = Crc.val l ^^^ 2 ^ p * x' ∧ wr.heap[g]? = some (.cells cur'' 5 (0, 0)) ∧ cur''.size = cur.size ∧ cur''.toList.take n = bs l'' ∧ Below w.heap.size w wr := ⟨k + 1, x, l', cur', by omega, by go_num, rfl, Nat.lt_of_lt_of_le hx (Nat.pow_le_pow_right (by omega) (by omega)), hb', hl', hv, hrow, hsize, htake, hbel⟩
      have HSAME := Lib.hid same
      clear same
      cases hB : (bits .and .u16 ((t : Int) / (2 : Int) ^ k) 1 == 1)
      · go_wp2_with fail
        go_roundw
        case rel => exact HSAME.out
        case measure => simp [intOf]; omega
      · by_cases hJ2 : J < 8 * n
        · have zJ2 : (J : Int) < 8 * (n : Int) := by omega
          have hq : Int.tdiv (J : Int) 8 = ((J / 8 : Nat) : Int) := by rw [Int.tdiv_eq_ediv_of_nonneg (by omega)]; omega
          have hr : Int.tmod (J : Int) 8 = ((J % 8 : Nat) : Int) := by rw [Int.tmod_eq_emod_of_nonneg (by omega)]; omega
          have hqN : J / 8 < n := by omega
          have hm8 : J % 8 < 8 := by omega
          have hJJ : 8 * (J / 8) + J % 8 = p + k := by omega
          obtain ⟨q, eq⟩ : ∃ q, q = J / 8 := ⟨_, rfl⟩
          obtain ⟨m, em⟩ : ∃ m, m = J % 8 := ⟨_, rfl⟩
          rw [← eq] at hq hqN hJJ
          rw [← em] at hr hm8 hJJ
          have hq64 := w64 (show q ≤ 9223372036854775807 by omega)
          have hm64 := w64 (show m ≤ 9223372036854775807 by omega)
          have gq : cur'.toList[q]? = some (.int .u8 ((l'[q]?.getD 0 : Nat) : Int)) := by
            have : (cur'.toList.take n)[q]? = (bs l')[q]? := by rw [htake]
            rw [List.getElem?_take, if_pos hqN, bs_get (by omega)] at this
            exact this
          have gx : wr.cell? ⟨g, q, none⟩ = some (.int .u8 ((l'[q]?.getD 0 : Nat) : Int)) := by rw [cell_of_row wr g q _ _ _ hrow]; simpa using gq
          have fx : wr.frozen? ⟨g, q, none⟩ = false := frozen_of_row wr _ q _ _ hrow
          have y0 : (0 : Int) ≤ (q : Int) := by omega
          have y1 : (q : Int) < (n : Int) := by omega
          have y2 : (0 : Int) ≤ (m : Int) := by omega
          have hy := hb'.at q
          have hbg : g < wr.heap.size := row_lt hrow
          have HFL := Lib.hid (Crc.val_flip l' hb' q m (by omega) hm8)
          obtain ⟨y, ey⟩ : ∃ y, y = l'[q]?.getD 0 := ⟨_, rfl⟩
          rw [← ey] at gx hy HFL
          have hxp := Lib.hid (step_xor hx)
          have HX := Lib.hid hrow
          have HJJ := Lib.hid hJJ
          have HTK := Lib.hid htake
          have HV := Lib.hid hv
          clear hrow eq em ey gq HSAME hJ hJJ htake hv
          go_wp2_with fail
          go_region
          go_wp2_with fail
          go_roundw
          case rel =>
            have h256 : y ^^^ 2 ^ m < 256 := Nat.xor_lt_two_pow (n := 8) hy (Nat.pow_lt_pow_of_lt (a := 2) (n := m) (m := 8) (by omega) hm8)
            refine ⟨k + 1, x ^^^ 2 ^ k, l'.set q (y ^^^ 2 ^ m), _, by omega, by go_num, by rw [decide_eq_true hxp.out.2], hxp.out.1, ?_, by rw [List.length_set]; exact hl', ?_, heap_setCell_same wr g q _ _ _ HX.out, by simp [hsize], ?_, (hbel.setCell hge _).drew⟩
            · intro c hc'
              rcases List.mem_or_eq_of_mem_set hc' with h | rfl
              · exact hb' c h
              · exact h256
            · rw [HFL.out, HJJ.out, HV.out, Nat.xor_assoc, Nat.pow_add, ← Crc.mul_xor]
            · rw [xor_pow y m hy hm8, Array.toList_setIfInBounds, List.take_set, HTK.out]; simp [bs, List.map_set]
          case measure => simp [intOf]; omega
        · have zJ2 : ¬ (J : Int) < 8 * (n : Int) := by omega
          go_wp2_with fail
          go_roundw
          case rel => have h := HSAME.out; simp only [ne_eq, decide_not] at h ⊢; exact h
          case measure => simp [intOf]; omega
    · obtain rfl : k = 16 := by omega
      have hF := Lib.hid (show Has w wr 5 (.slice (some ⟨g, 0, none⟩) n cp) l.length (bs l') from by
        rw [HQ.out]
        exact ⟨⟨by simpa using hl', Or.inr ⟨g, cp, cur', rfl, hge, hrow, HCP.out, HMX.out, by rw [hsize]; exact HSZ.out, by rw [Nat.mul_one]; exact htake⟩⟩, hbel⟩)
      have hl2 := Lib.hid (show l'.length = l.length from by rw [hl', HQ.out])
      clear hrow htake
      go_wp2_with fail
      go_ret2
      exact ⟨_, x, l', rfl, hF.out, hb', hl2.out, hx, hv⟩
end Go.Proofs.Ytgjcefgdkhfghaa.AskW
