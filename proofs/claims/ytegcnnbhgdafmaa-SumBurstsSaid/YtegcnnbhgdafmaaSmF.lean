/- The walk of SumBursts. -/
import Derived.Test.YtegcnnbhgdafmaaSmE
import Derived.Test.YtegcnnbhgdafmaaBase
import Derived.WalkLawsBesides
import Derived.RegionTactic
import Derived.ChangeAlike
import Derived.Deep.RegionHeld3
set_option linter.unusedVariables false
set_option linter.unusedSimpArgs false
namespace Go.Proofs.Ytegcnnbhgdafmaa.SmW
open Go.RowKit Go.Proofs.Ytegcnnbhgdafmaa Go.Proofs.Ytegcnnbhgdafmaa.Sm
theorem xor_pow (y m : Nat) (hy : y < 256) (hm : m < 8) : bits .xor .u8 (y : Int) ((2 : Int) ^ m % 256) = ((y ^^^ 2 ^ m : Nat) : Int) := by
  have e : (2 : Int) ^ m % 256 = ((2 ^ m : Nat) : Int) := by
    obtain rfl | rfl | rfl | rfl | rfl | rfl | rfl | rfl : m = 0 ∨ m = 1 ∨ m = 2 ∨ m = 3 ∨ m = 4 ∨ m = 5 ∨ m = 6 ∨ m = 7 := by omega
    all_goals rfl
  rw [e]
  refine u8_xor_nat y (2 ^ m) hy ?_
  exact Nat.pow_lt_pow_of_lt (a := 2) (n := m) (m := 8) (by omega) hm
theorem step_xor {x k : Nat} (h : x < 2 ^ k) : x ^^^ 2 ^ k < 2 ^ (k + 1) :=
  Nat.xor_lt_two_pow (Nat.lt_of_lt_of_le h (Nat.pow_le_pow_right (by omega) (by omega))) (Nat.pow_lt_pow_of_lt (by omega) (by omega))
set_option maxRecDepth 100000 in
theorem bursts_big (A : Option Addr) (n cap : Nat) (l : List Nat) (p t : Nat) (w : World) (hn : 500 < n) :
    Calls Try.prog 3 #[.slice A n cap, .int .u16 (p : Nat), .int .u32 (t : Nat)] w fun e w' => e = .returned (.bool true) ∧ Below w.heap.size w w' := by
  have hd : (500 : Int) < (n : Int) := by omega
  go_enter Try.func3, Try.ntmps3
  go_wp2_with fail
  refine (awake_any _).mono ?_
  rintro e w1 ⟨rfl, b1⟩
  go_wp2_with fail
  go_ret
  exact ⟨rfl, b1⟩
set_option maxRecDepth 100000 in
theorem bursts_none (A : Option Addr) (cap : Nat) (p t : Nat) (w : World) :
    Calls Try.prog 3 #[.slice A 0 cap, .int .u16 (p : Nat), .int .u32 (t : Nat)] w fun e w' => e = .returned (.bool true) ∧ Below w.heap.size w w' := by
  go_enter Try.func3, Try.ntmps3
  go_wp2_with fail
  refine (awake_any _).mono ?_
  rintro e w1 ⟨rfl, b1⟩
  go_wp2_with fail
  go_ret
  exact ⟨rfl, b1⟩
set_option maxRecDepth 100000 in
set_option maxHeartbeats 8000000 in
theorem bursts_some (A : Option Addr) (n cap : Nat) (l : List Nat) (p0 t : Nat) (w : World) (hs : Sl w w.heap.size A n (bs l)) (hl : Bytes l) (h1 : 1 ≤ n) (hn : n ≤ 500) (hp0 : p0 < 65536) (ht : t < 4294967296) :
    Calls Try.prog 3 #[.slice A n cap, .int .u16 (p0 : Nat), .int .u32 (t : Nat)] w fun e w' => e = .returned (.bool true) ∧ Below w.heap.size w w' := by
  have q1 : l.length = n := by simpa using hs.len
  have S0 := hs.to ((Below.refl _ _).new (.cells #[] 5))
  have hd1 : ¬ (500 : Int) < (n : Int) := by omega
  have hd2 : decide ((n : Int) = 0) = false := decide_eq_false (by omega)
  have hd3 : ((n : Int) == 0) = false := by rw [beq_eq_false_iff_ne]; omega
  have hm8 : IntKind.i64.wrap (8 * (n : Int)) = ((8 * n : Nat) : Int) := by rw [IntKind.wrap_i64]; omega
  have hpc := w64 (show p0 ≤ 9223372036854775807 by omega)
  have hmod : Int.tmod (p0 : Int) ((8 * n : Nat) : Int) = ((p0 % (8 * n) : Nat) : Int) := by rw [Int.tmod_eq_emod_of_nonneg (by omega), Int.natCast_emod]
  have hp : p0 % (8 * n) < 8 * n := Nat.mod_lt _ (by omega)
  obtain ⟨N, hN⟩ : ∃ N, N = 8 * n := ⟨_, rfl⟩
  rw [← hN] at hm8 hmod hp
  obtain ⟨p, ep⟩ : ∃ p, p = p0 % N := ⟨_, rfl⟩
  rw [← ep] at hmod hp
  have hp64 := w64 (show p ≤ 9223372036854775807 by omega)
  have hN0 : (N : Int) ≠ 0 := by omega
  have hN1 : ((N : Int) == 0) = false := by rw [beq_eq_false_iff_ne]; exact hN0
  have HQ := Lib.hid q1
  have HLB := Lib.hid hl
  have HS := Lib.hid hs
  have HNN := Lib.hid hN
  clear hs hl q1 ep hN
  go_enter Try.func3, Try.ntmps3
  go_wp2_with (at_builtin; refine wpList_app u8 rfl (.tmp 20) (.tmp 21) rfl (Has.made0 (Below.refl w.heap.size w) _) rfl S0 rfl (bs_one _) (by omega) (by simp only [maxLen]; omega) ?_; intro v3 w3 H3 _ _; obtain ⟨g, cp, cur, rfl, hge, hg, hcap, hmax, hsz, hcur⟩ := Or.resolve_left H3.own.2 (fun h => absurd h.2 (by omega)); have b3 := H3.bel; clear H3 S0)
  rw [Nat.zero_add] at hcap hcur
  rw [List.nil_append, Nat.mul_one] at hcur
  have HSZ := Lib.hid hsz
  have HMX := Lib.hid hmax
  have HCP := Lib.hid hcap
  clear hsz hmax hcap
  go_loopw [29] (fun i wr => ∃ k x : Nat, ∃ l' : List Nat, ∃ cur' : Array Value, k ≤ 32 ∧ i = .int .i64 k ∧ x < 2 ^ k ∧ Bytes l' ∧ l'.length = n ∧ val l' = val l ^^^ 2 ^ p * x ∧ wr.heap[g]? = some (.cells cur' 5 (0, 0)) ∧ cur'.size = cur.size ∧ cur'.toList.take n = bs l' ∧ Below w.heap.size w wr) (fun i _ => 32 - (intOf i).toNat)
  case atStart => exact ⟨0, 0, l, cur, by omega, rfl, by decide, HLB.out, HQ.out, by rw [Nat.mul_zero, Nat.xor_zero], hg, rfl, hcur, b3⟩
  case round =>
    obtain ⟨k, x, l', cur', hk, rfl, hx, hb', hl', hv, hrow, hsize, htake, hbel⟩ := hrel
    clear hg hcur b3
    by_cases hlt : k < 32
    · obtain ⟨J, hJ⟩ : ∃ J, J = p + k := ⟨_, rfl⟩
      have hw1 : IntKind.i64.wrap ((p : Int) + (k : Int)) = (J : Int) := by have := HNN.out; rw [IntKind.wrap_i64]; omega
      have hk64 := w64 (show k ≤ 9223372036854775807 by omega)
      have z0 : (0 : Int) ≤ (k : Int) := by omega
      have zJ : (0 : Int) ≤ (J : Int) := by omega
      have same : ∃ k' x' : Nat, ∃ l'' : List Nat, ∃ cur'' : Array Value, k' ≤ 32 ∧ Value.int .i64 ((k : Int) + 1) = .int .i64 k' ∧ x' < 2 ^ k' ∧ Bytes l'' ∧ l''.length = n ∧ val l'' = val l ^^^ 2 ^ p * x' ∧ wr.heap[g]? = some (.cells cur'' 5 (0, 0)) ∧ cur''.size = cur.size ∧ cur''.toList.take n = bs l'' ∧ Below w.heap.size w wr := ⟨k + 1, x, l', cur', by omega, by go_num, Nat.lt_of_lt_of_le hx (Nat.pow_le_pow_right (by omega) (by omega)), hb', hl', hv, hrow, hsize, htake, hbel⟩
      have HSAME := Lib.hid same
      clear same
      cases hB : (bits .and .u32 ((t : Int) / (2 : Int) ^ k) 1 == 1)
      · go_wp2_with fail
        go_roundw
        case rel => exact HSAME.out
        case measure => simp [intOf]; omega
      · by_cases hJ2 : J < N
        · have zJ2 : (J : Int) < (N : Int) := by omega
          have hq : Int.tdiv (J : Int) 8 = ((J / 8 : Nat) : Int) := by rw [Int.tdiv_eq_ediv_of_nonneg (by omega)]; omega
          have hr : Int.tmod (J : Int) 8 = ((J % 8 : Nat) : Int) := by rw [Int.tmod_eq_emod_of_nonneg (by omega)]; omega
          have hqN : J / 8 < n := by have := HNN.out; omega
          have hm8 : J % 8 < 8 := by omega
          have hJJ : 8 * (J / 8) + J % 8 = p + k := by omega
          obtain ⟨q, eq⟩ : ∃ q, q = J / 8 := ⟨_, rfl⟩
          obtain ⟨m, em⟩ : ∃ m, m = J % 8 := ⟨_, rfl⟩
          rw [← eq] at hq hqN hJJ
          rw [← em] at hr hm8 hJJ
          have hq64 := w64 (show q ≤ 9223372036854775807 by omega)
          have hm64 := w64 (show m ≤ 9223372036854775807 by omega)
          have gq : cur'.toList[q]? = some (.int .u8 ((l'[q]?.getD 0 : Nat) : Int)) := by
            have : (cur'.toList.take n)[q]? = (bs l')[q]? := by rw [htake]
            rw [List.getElem?_take, if_pos hqN, bs_get (by omega)] at this
            exact this
          have gx : wr.cell? ⟨g, q, none⟩ = some (.int .u8 ((l'[q]?.getD 0 : Nat) : Int)) := by rw [cell_of_row wr g q _ _ _ hrow]; simpa using gq
          have fx : wr.frozen? ⟨g, q, none⟩ = false := frozen_of_row wr _ q _ _ hrow
          have y0 : (0 : Int) ≤ (q : Int) := by omega
          have y1 : (q : Int) < (n : Int) := by omega
          have y2 : (0 : Int) ≤ (m : Int) := by omega
          have hy := hb'.at q
          have hbg : g < wr.heap.size := row_lt hrow
          have HFL := Lib.hid (val_flip l' hb' q m (by omega) hm8)
          obtain ⟨y, ey⟩ : ∃ y, y = l'[q]?.getD 0 := ⟨_, rfl⟩
          rw [← ey] at gx hy HFL
          have hxp := Lib.hid (step_xor hx)
          have HX := Lib.hid hrow
          have HJJ := Lib.hid hJJ
          have HTK := Lib.hid htake
          have HV := Lib.hid hv
          clear hrow eq em ey gq HSAME hJ hJJ htake hv
          go_wp2_with fail
          go_region
          go_wp2_with fail
          go_roundw
          case rel =>
            have h256 : y ^^^ 2 ^ m < 256 := Nat.xor_lt_two_pow (n := 8) hy (Nat.pow_lt_pow_of_lt (a := 2) (n := m) (m := 8) (by omega) hm8)
            refine ⟨k + 1, x ^^^ 2 ^ k, l'.set q (y ^^^ 2 ^ m), _, by omega, by go_num, hxp.out, ?_, by rw [List.length_set]; exact hl', ?_, heap_setCell_same wr g q _ _ _ HX.out, by simp [hsize], ?_, (hbel.setCell hge _).drew⟩
            · intro c hc'
              rcases List.mem_or_eq_of_mem_set hc' with h | rfl
              · exact hb' c h
              · exact h256
            · rw [HFL.out, HJJ.out, HV.out, Nat.xor_assoc, Nat.pow_add, ← mul_xor]
            · rw [xor_pow y m hy hm8, Array.toList_setIfInBounds, List.take_set, HTK.out]; simp [bs, List.map_set]
          case measure => simp [intOf]; omega
        · have zJ2 : ¬ (J : Int) < (N : Int) := by omega
          go_wp2_with fail
          go_roundw
          case rel => exact HSAME.out
          case measure => simp [intOf]; omega
    · obtain rfl : k = 32 := by omega
      have hx32 : x < 4294967296 := hx
      have hB := burst HLB.out hb' (by rw [hl', HQ.out]) (p := p) (x := x) (by have := HNN.out; have := HQ.out; omega) hx32 hv
      have hF : Has w wr 5 (.slice (some ⟨g, 0, none⟩) n cp) n (bs l') :=
        ⟨⟨by simpa using hl', Or.inr ⟨g, cp, cur', rfl, hge, hrow, HCP.out, HMX.out, by rw [hsize]; exact HSZ.out, by rw [Nat.mul_one]; exact htake⟩⟩, hbel⟩
      obtain ⟨A1, c1, he, hle, SB, -⟩ := hF.slice
      cases he
      have SA := HS.out.to hbel
      have hT : (((chk l : Nat) : Int) != ((chk l' : Nat) : Int)) = ((strB l).toList != (strB l').toList) := by
        have e := strB_eq l l' HLB.out hb'
        by_cases h0 : x = 0
        · have e1 := hB.1.2 h0
          have e2 := hB.2.2 h0
          rw [e2]; simp
        · have e1 : chk l ≠ chk l' := fun h => h0 (hB.1.1 h)
          have e2 : l ≠ l' := fun h => h0 (hB.2.1 h)
          have e3 : (l == l') = false := beq_eq_false_iff_ne.2 e2
          rw [e3] at e
          have e4 : (((chk l : Nat) : Int) != ((chk l' : Nat) : Int)) = true := by rw [bne_iff_ne]; omega
          rw [e4]
          simp only [bne, e]
          rfl
      have K1 := Lib.hid (fun W (h : Below wr.heap.size wr W) => bytes_below A n cap l W (SA.to h) HLB.out (by omega))
      have K2 := Lib.hid (fun W (h : Below wr.heap.size wr W) => bytes_below _ n cp l' W (SB.to h) hb' (by omega))
      have R1 := (fun W (h : Below wr.heap.size wr W) => run_string (P := Try.prog) W W.heap.size 22 9 5 Try.underlying22 Try.underlying5 Try.underlying9 A n cap l (SA.to h))
      have R2 := (fun W (h : Below wr.heap.size wr W) => run_string (P := Try.prog) W W.heap.size 22 9 5 Try.underlying22 Try.underlying5 Try.underlying9 (some ⟨g, 0, none⟩) n cp l' (SB.to h))
      obtain ⟨r1, er1⟩ : ∃ r, r = chk l := ⟨_, rfl⟩
      obtain ⟨r2, er2⟩ : ∃ r, r = chk l' := ⟨_, rfl⟩
      rw [← er1] at hT K1
      rw [← er2] at hT K2
      clear hrow htake hv hB er1 er2 hF SA SB hx hx32
      have hb0 : Below wr.heap.size wr wr.drew := (Below.refl _ _).drew
      go_wp2_with fail
      go_region_held3 (fun w' => Below wr.heap.size wr w') (first | exact hb0 | exact hk3 | exact hk2 | exact hk1)
        (first
          | (go_at_call_of 6 (Value.slice A n cap); refine (K1.out _ (by assumption)).mono ?_; rintro e w0 ⟨rfl, bb⟩; have hk1 := Below.call (a := wr) (by assumption) bb)
          | (go_at_call_of 6 (Value.slice (some ⟨g, 0, none⟩) n cp); refine (K2.out _ (by assumption)).mono ?_; rintro e w0 ⟨rfl, bb⟩; have hk2 := Below.call (a := wr) (by assumption) bb)
          | (go_at_call 5; refine (awake_any _).mono ?_; rintro e w0 ⟨rfl, bb⟩; have hk3 := Below.call (a := wr) (by assumption) bb)
          | fail)
      go_wp2_with fail
      go_ret
      exact ⟨rfl, hbel.call hk3⟩
theorem bursts_any (A : Option Addr) (n cap : Nat) (l : List Nat) (p t : Nat) (w : World) (hs : Sl w w.heap.size A n (bs l)) (hl : Bytes l) (hp : p < 65536) (ht : t < 4294967296) :
    Calls Try.prog 3 #[.slice A n cap, .int .u16 (p : Nat), .int .u32 (t : Nat)] w fun e w' => e = .returned (.bool true) ∧ Below w.heap.size w w' := by
  by_cases h5 : 500 < n
  · exact bursts_big A n cap l p t w h5
  · by_cases h0 : n = 0
    · subst h0
      exact bursts_none A cap p t w
    · exact bursts_some A n cap l p t w hs hl (by omega) (by omega) hp ht
end Go.Proofs.Ytegcnnbhgdafmaa.SmW
