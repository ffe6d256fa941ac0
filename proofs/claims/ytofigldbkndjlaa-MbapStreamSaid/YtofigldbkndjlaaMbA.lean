/- The walks of mbap's number, begins, whole. -/
import Derived.Test.YtofigldbkndjlaaChecked
import Derived.Test.YtofigldbkndjlaaMbMath
import Derived.Test.YtofigldbkndjlaaBase
import Derived.WalkKit
import Derived.Below
import Derived.BigQuiet
import Derived.Lib.Hide
import Derived.Laws.BitsAllLaws
set_option linter.unusedVariables false
set_option linter.unusedSimpArgs false
namespace Go.Proofs.Ytofigldbkndjlaa.MbW
open Go.RowKit Go.Proofs.Ytofigldbkndjlaa Go.Proofs.Ytofigldbkndjlaa.Mb
theorem u8 : Elem Try.prog 23 5 1 := .mk' (z := .int .u8 0) Try.underlying23 (by kernel_rfl) rfl
theorem ret_i64 {a b : Int} (h : a = b) : Ending.returned (.int .i64 a) = .returned (.int .i64 b) := by rw [h]
theorem ret_bool {a b : Bool} (h : a = b) : Ending.returned (.bool a) = .returned (.bool b) := by rw [h]
theorem ofInt_i64 (a : Nat) (ha : a < 18446744073709551616) : (BitVec.ofInt 64 (a : Int)).toNat = a := by
  rw [BitVec.ofInt_natCast, BitVec.toNat_ofNat]; exact Nat.mod_eq_of_lt (by omega)
theorem i64_or_nat (a b : Nat) (ha : a < 9223372036854775808) (hb : b < 9223372036854775808) : bits .or .i64 (a : Int) (b : Int) = ((a ||| b : Nat) : Int) := by
  have hx : a ||| b < 2 ^ 63 := Nat.or_lt_two_pow (by omega) (by omega)
  show IntKind.i64.wrap ((BitVec.ofInt 64 (a : Int) ||| BitVec.ofInt 64 (b : Int)).toNat : Int) = _
  rw [BitVec.toNat_or, ofInt_i64 a (by omega), ofInt_i64 b (by omega), IntKind.wrap_i64]
  omega
theorem or_hilo64 (x y : Nat) (hx : x < 256) (hy : y < 256) : bits .or .i64 ((x : Int) * 256) (y : Int) = ((256 * x + y : Nat) : Int) := by
  have h := i64_or_nat (x * 256) y (by omega) (by omega)
  have e : x * 256 ||| y = 256 * x + y := by
    have := Nat.two_pow_add_eq_or_of_lt (i := 8) (b := y) (by omega) x
    rw [show (2 : Nat) ^ 8 = 256 from rfl] at this
    rw [Nat.mul_comm, ← this]
  rw [e] at h
  rw [← h]; rfl
def num (xs : List Nat) (i : Nat) : Nat := 256 * xs[i]?.getD 0 + xs[i + 1]?.getD 0
set_option maxHeartbeats 1000000 in
theorem number_any (A : Option Addr) (n c : Nat) (xs : List Nat) (i : Nat) (w : World) (hs : Sl w w.heap.size A n (bs xs)) (hx : Bytes xs) (hi : i + 1 < n) (hn : n ≤ 1000000) :
    Calls Try.prog 23 #[.slice A n c, .int .i64 (i : Nat)] w fun e w' => e = .returned (.int .i64 ((num xs i : Nat) : Int)) ∧ ∃ q, w' = w.drewN q := by
  have hlen : xs.length = n := by simpa using hs.len
  obtain ⟨b, o, rfl, hb, hc⟩ := hs.2 (by omega)
  have h0 := (hc i (by omega)).trans (bs_get (by omega))
  have h1 := (hc (i + 1) (by omega)).trans (bs_get (by omega))
  have b0 := hx.at i
  have b1 := hx.at (i + 1)
  have HN := Lib.hid (show num xs i = 256 * xs[i]?.getD 0 + xs[i + 1]?.getD 0 from rfl)
  obtain ⟨N, eN⟩ : ∃ N, N = num xs i := ⟨_, rfl⟩
  obtain ⟨x, ex⟩ : ∃ x, x = xs[i]?.getD 0 := ⟨_, rfl⟩
  obtain ⟨y, ey⟩ : ∃ y, y = xs[i + 1]?.getD 0 := ⟨_, rfl⟩
  rw [← eN, ← ex, ← ey] at HN
  rw [← eN]
  rw [← ex] at h0 b0
  rw [← ey] at h1 b1
  have HOR := Lib.hid (or_hilo64 x y b0 b1)
  have wx : IntKind.i64.wrap (x : Int) = x := w64 (by omega)
  have wy : IntKind.i64.wrap (y : Int) = y := w64 (by omega)
  have wxx : IntKind.i64.wrap ((x : Int) * 256) = (x : Int) * 256 := by rw [IntKind.wrap_i64]; omega
  have wi : IntKind.i64.wrap ((i : Int) + 1) = ((i + 1 : Nat) : Int) := by rw [IntKind.wrap_i64]; omega
  have z0 : (i : Int) < (n : Int) := by omega
  have z1 : ((i + 1 : Nat) : Int) < (n : Int) := by omega
  have z2 : (i : Int) + 1 < (n : Int) := by omega
  have z3 : i < n := by omega
  have z4 : i + 1 < n := by omega
  clear hs hx eN ex ey hc hb hlen
  go_enter Try.func23, Try.ntmps23
  go_wp2_with fail
  go_quiet (fail)
  go_wp2_with fail
  go_ret
  exact ⟨ret_i64 (by rw [HN.out, ← HOR.out]), _, rfl⟩
theorem begins_zero {xs : List Nat} (h : ∀ j, 2 ≤ j → j < 5 → xs[j]?.getD 0 = 0) : begins xs = (decide (xs.length < 6) || decide (2 ≤ xs[5]?.getD 0 ∧ xs[5]?.getD 0 ≤ 254)) := by
  unfold begins
  rw [h 2 (by omega) (by omega), h 3 (by omega) (by omega), h 4 (by omega) (by omega)]
  rfl
theorem begins_not {xs : List Nat} {j : Nat} (h2 : 2 ≤ j) (h5 : j < 5) (h : xs[j]?.getD 0 ≠ 0) : begins xs = false := by
  unfold begins
  have : j = 2 ∨ j = 3 ∨ j = 4 := by omega
  rcases this with rfl | rfl | rfl
  · rw [beq_eq_false_iff_ne.2 h]; rfl
  · rw [beq_eq_false_iff_ne.2 h]; simp
  · rw [beq_eq_false_iff_ne.2 h]; simp
theorem num_five {xs : List Nat} (h : xs[4]?.getD 0 = 0) : num xs 4 = xs[5]?.getD 0 := by
  show 256 * xs[4]?.getD 0 + xs[5]?.getD 0 = _
  omega
set_option maxHeartbeats 1000000 in
theorem begins_any (A : Option Addr) (n c : Nat) (xs : List Nat) (w : World) (hs : Sl w w.heap.size A n (bs xs)) (hx : Bytes xs) (hn : n ≤ 1000000) :
    Calls Try.prog 22 #[.slice A n c] w fun e w' => e = .returned (.bool (begins xs)) ∧ ∃ q, w' = w.drewN q := by
  have hlen : xs.length = n := by simpa using hs.len
  have KN := Lib.hid (fun h => number_any A n c xs 4 w hs hx h hn)
  have HC := Lib.hid (show ∀ k, k < n → ∃ b o, A = some ⟨b, o, none⟩ ∧ w.cell? ⟨b, o + k, none⟩ = some (.int .u8 ((xs[k]?.getD 0 : Nat) : Int)) from fun k hk => by
    obtain ⟨b, o, e, _, hc⟩ := hs.2 (by omega)
    exact ⟨b, o, e, (hc k hk).trans (bs_get (by omega))⟩)
  have HL := Lib.hid hlen
  have HX := Lib.hid hx
  obtain ⟨R, hR⟩ : ∃ R, R = begins xs := ⟨_, rfl⟩
  rw [← hR]
  have HR := Lib.hid hR
  clear hR hs hlen hx
  go_enter Try.func22, Try.ntmps22
  go_wp2_with fail
  go_loop [3] (fun i => ∃ k : Nat, 2 ≤ k ∧ k ≤ 5 ∧ i = .int .i64 k ∧ Hid (∀ j, 2 ≤ j → j < k → xs[j]?.getD 0 = 0)) (fun i => 5 - (intOf i).toNat)
  case atStart => exact ⟨2, by omega, by omega, rfl, fun j h1 h2 => by omega⟩
  case round =>
    obtain ⟨k, hk2, hk5, rfl, HZ⟩ := hrel
    by_cases h5 : k = 5
    · subst h5
      have HB := Lib.hid (begins_zero HZ.out)
      rw [HL.out, ← HR.out] at HB
      by_cases h6 : (n : Int) < 6
      · have HT := Lib.hid (show R = true from by rw [HB.out, decide_eq_true (by omega)]; rfl)
        go_wp2_with fail
        go_ret
        exact ⟨ret_bool HT.out.symm, 0, rfl⟩
      · have KN4 := Lib.hid (KN.out (by omega))
        rw [num_five (HZ.out 4 (by omega) (by omega))] at KN4
        have HD := Lib.hid (show R = decide (2 ≤ xs[5]?.getD 0 ∧ xs[5]?.getD 0 ≤ 254) from by rw [HB.out, decide_eq_false (by omega)]; rfl)
        obtain ⟨x, ex⟩ : ∃ x, x = xs[5]?.getD 0 := ⟨_, rfl⟩
        rw [← ex] at KN4 HD
        clear ex
        go_wp2_with fail
        refine KN4.out.mono ?_
        rintro e w1 ⟨rfl, q, rfl⟩
        by_cases h2 : (2 : Int) ≤ (x : Int)
        · have HE := Lib.hid (show decide ((x : Int) ≤ 254) = R from by rw [HD.out, decide_eq_decide]; omega)
          go_wp2_with fail
          go_ret
          exact ⟨ret_bool HE.out, q, rfl⟩
        · have HE := Lib.hid (show false = R from by rw [HD.out, decide_eq_false (by omega)])
          go_wp2_with fail
          go_ret
          exact ⟨ret_bool HE.out, q, rfl⟩
    · have g4 : (k : Int) ≤ 4 := by omega
      by_cases hkn : (k : Int) < (n : Int)
      · obtain ⟨b, o, rfl, hcell⟩ := HC.out k (by omega)
        have zk : k < n := by omega
        obtain ⟨x, ex⟩ : ∃ x, x = xs[k]?.getD 0 := ⟨_, rfl⟩
        rw [← ex] at hcell
        by_cases hx0 : x = 0
        · have hT : ((x : Int) != 0) = false := by rw [bne_eq_false_iff_eq]; omega
          have HZ1 : Hid (∀ j, 2 ≤ j → j < k + 1 → xs[j]?.getD 0 = 0) := Lib.hid (fun j h1 h2 => by
            by_cases hj : j = k
            · subst hj; omega
            · exact HZ.out j h1 (by omega))
          go_wp2_with fail
          go_round
          case rel => exact ⟨k + 1, by omega, by omega, by go_num, HZ1⟩
          case measure => simp [intOf]; omega
        · have hT : ((x : Int) != 0) = true := by rw [bne_iff_ne]; omega
          have HE := Lib.hid (show false = R from by rw [HR.out]; exact (begins_not hk2 (by omega) (by omega)).symm)
          go_wp2_with fail
          go_ret
          exact ⟨ret_bool HE.out, 0, rfl⟩
      · have HB := Lib.hid (begins_zero (xs := xs) (fun j h1 h2 => by
          by_cases hj : j < k
          · exact HZ.out j h1 hj
          · rw [List.getElem?_eq_none (by have := HL.out; omega)]; rfl))
        rw [HL.out, ← HR.out] at HB
        have h6 : (n : Int) < 6 := by omega
        have HT := Lib.hid (show R = true from by rw [HB.out, decide_eq_true (by omega)]; rfl)
        go_wp2_with fail
        go_ret
        exact ⟨ret_bool HT.out.symm, 0, rfl⟩
theorem whole_of {xs : List Nat} {n : Nat} (hl : xs.length = n) : whole xs = if begins xs = true ∧ 7 ≤ n ∧ 6 + xs[5]?.getD 0 ≤ n then 6 + xs[5]?.getD 0 else 0 := by
  unfold whole; rw [hl]
theorem begins_four {xs : List Nat} (h : begins xs = true) : xs[4]?.getD 0 = 0 := by
  unfold begins at h
  simp only [Bool.and_eq_true, beq_iff_eq] at h
  exact h.1.2
set_option maxHeartbeats 1000000 in
theorem whole_any (A : Option Addr) (n c : Nat) (xs : List Nat) (w : World) (hs : Sl w w.heap.size A n (bs xs)) (hx : Bytes xs) (hn : n ≤ 1000000) :
    Calls Try.prog 18 #[.slice A n c] w fun e w' => e = .returned (.int .i64 ((whole xs : Nat) : Int)) ∧ ∃ q, w' = w.drewN q := by
  have hlen : xs.length = n := by simpa using hs.len
  have KN := Lib.hid (fun q h => number_any A n c xs 4 (w.drewN q) hs hx h hn)
  have KB := Lib.hid (begins_any A n c xs w hs hx hn)
  have HF := Lib.hid (whole_of hlen)
  obtain ⟨R, hR⟩ : ∃ R, R = whole xs := ⟨_, rfl⟩
  rw [← hR] at HF ⊢
  have b5 := hx.at 5
  clear hs hx hR
  by_cases h7 : (n : Int) < 7
  · have HE := Lib.hid (show (0 : Int) = (R : Nat) from by rw [HF.out, if_neg (by omega)]; rfl)
    go_enter Try.func18, Try.ntmps18
    go_wp2_with fail
    go_ret
    exact ⟨ret_i64 HE.out, 0, rfl⟩
  by_cases hb : begins xs = true
  · rw [hb] at KB
    have KN4 := Lib.hid (fun q => KN.out q (by omega))
    rw [num_five (begins_four hb)] at KN4
    have HG := Lib.hid (show R = if 6 + xs[5]?.getD 0 ≤ n then 6 + xs[5]?.getD 0 else 0 from by
      rw [HF.out]
      by_cases h : 6 + xs[5]?.getD 0 ≤ n
      · rw [if_pos h, if_pos ⟨hb, by omega, h⟩]
      · rw [if_neg h, if_neg (by omega)])
    obtain ⟨x, ex⟩ : ∃ x, x = xs[5]?.getD 0 := ⟨_, rfl⟩
    rw [← ex] at KN4 HG b5
    have wx : IntKind.i64.wrap (6 + (x : Int)) = 6 + (x : Int) := by rw [IntKind.wrap_i64]; omega
    clear ex hb HF hlen
    go_enter Try.func18, Try.ntmps18
    go_wp2_with fail
    refine KB.out.mono ?_
    rintro e w1 ⟨rfl, q, rfl⟩
    go_wp2_with fail
    refine (KN4.out q).mono ?_
    rintro e w1 ⟨rfl, q2, rfl⟩
    by_cases hle : (n : Int) < 6 + (x : Int)
    · have HE := Lib.hid (show (0 : Int) = (R : Nat) from by rw [HG.out, if_neg (by omega)]; rfl)
      go_wp2_with fail
      go_ret
      exact ⟨ret_i64 HE.out, q + q2, by first | rfl | simp [World.drewN, Nat.add_assoc]⟩
    · have HE := Lib.hid (show 6 + (x : Int) = (R : Nat) from by rw [HG.out, if_pos (by omega)]; omega)
      go_wp2_with fail
      go_ret
      exact ⟨ret_i64 HE.out, q + q2, by first | rfl | simp [World.drewN, Nat.add_assoc]⟩
  · have hb : begins xs = false := by simpa using hb
    rw [hb] at KB
    have HE := Lib.hid (show (0 : Int) = (R : Nat) from by rw [HF.out, if_neg (by simp [hb])]; rfl)
    clear HF hlen
    go_enter Try.func18, Try.ntmps18
    go_wp2_with fail
    refine KB.out.mono ?_
    rintro e w1 ⟨rfl, q, rfl⟩
    go_wp2_with fail
    go_ret
    exact ⟨ret_i64 HE.out, q, rfl⟩
end Go.Proofs.Ytofigldbkndjlaa.MbW
