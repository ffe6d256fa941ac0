/- The walks of layer 5's reference: Right, long. -/
import Derived.Test.YtofigldbkndjlaaMbC
set_option linter.unusedVariables false
set_option linter.unusedSimpArgs false
namespace Go.Proofs.Ytofigldbkndjlaa.MbW
open Go.RowKit Go.Proofs.Ytofigldbkndjlaa Go.Proofs.Ytofigldbkndjlaa.Mb
theorem law6Same_any (A A2 : Option Addr) (n cap n2 cap2 B : Nat) (l r : List Nat) (w : World) (hs : Sl w B A n (bs l)) (hl : Bytes l) (hs2 : Sl w B A2 n2 (bs r)) (hr : Bytes r) :
    Calls Try.prog 10 #[.slice A n cap, .slice A2 n2 cap2] w fun e w' => e = .returned (.bool (l == r)) ∧ w = w' := by
  have H1 := run_string (P := Try.prog) w B 23 9 5 Try.underlying23 Try.underlying5 Try.underlying9 A n cap l hs
  have H2 := run_string (P := Try.prog) w B 23 9 5 Try.underlying23 Try.underlying5 Try.underlying9 A2 n2 cap2 r hs2
  have HE := Lib.hid (strB_eq l r hl hr)
  clear hs hs2
  go_enter Try.func10, Try.ntmps10
  go_wp2
  go_ret
  exact ⟨by rw [← HE.out]; rfl, rfl⟩
theorem refRight_any (tx u : Nat) (C : Option Addr) (k c : Nat) (w : World) :
    Calls Try.prog 9 #[.agg #[.int .u16 (tx : Nat), .int .u8 (u : Nat), .slice C k c]] w fun e w' => e = .returned (.bool (decide (1 ≤ k ∧ k ≤ 253))) ∧ Below w.heap.size w w' := by
  obtain ⟨R, hR⟩ : ∃ R, R = decide (1 ≤ k ∧ k ≤ 253) := ⟨_, rfl⟩
  rw [← hR]
  by_cases h1 : (1 : Int) ≤ (k : Int)
  · have HE := Lib.hid (show decide ((k : Int) ≤ 253) = R from by rw [hR, decide_eq_decide]; omega)
    clear hR
    go_enter Try.func9, Try.ntmps9
    go_wp2_with fail
    go_ret
    exact ⟨ret_bool HE.out, (Below.refl _ _).new _⟩
  · have HE := Lib.hid (show false = R from by rw [hR, decide_eq_false (by omega)])
    clear hR
    go_enter Try.func9, Try.ntmps9
    go_wp2_with fail
    go_ret
    exact ⟨ret_bool HE.out, (Below.refl _ _).new _⟩
theorem long_of {xs : List Nat} {n : Nat} (hl : xs.length = n) : long xs = (if begins xs = true then (if n < 6 then (0 : Int) else 6 + ((xs[5]?.getD 0 : Nat) : Int)) else (-1 : Int)) := by
  unfold long; rw [hl]
set_option maxHeartbeats 1000000 in
theorem refLong_any (A : Option Addr) (n c : Nat) (xs : List Nat) (w : World) (hs : Sl w w.heap.size A n (bs xs)) (hx : Bytes xs) (hn : n ≤ 1000000) :
    Calls Try.prog 20 #[.slice A n c] w fun e w' => e = .returned (.int .i64 (long xs)) ∧ w = w' := by
  have hlen : xs.length = n := by simpa using hs.len
  have HC := Lib.hid (show ∀ k, k < n → ∃ b o, A = some ⟨b, o, none⟩ ∧ w.cell? ⟨b, o + k, none⟩ = some (.int .u8 ((xs[k]?.getD 0 : Nat) : Int)) from fun k hk => by
    obtain ⟨b, o, e, _, hc⟩ := hs.2 (by omega)
    exact ⟨b, o, e, (hc k hk).trans (bs_get (by omega))⟩)
  have HL := Lib.hid hlen
  have b5 := hx.at 5
  obtain ⟨R, hR⟩ : ∃ R, R = long xs := ⟨_, rfl⟩
  have HR := Lib.hid (hR.trans (long_of hlen))
  rw [← hR]
  clear hR hs hlen hx
  go_enter Try.func20, Try.ntmps20
  go_wp2_with fail
  go_loop [3] (fun i => ∃ k : Nat, 2 ≤ k ∧ k ≤ 4 ∧ i = .int .i64 k ∧ Hid (∀ j, 2 ≤ j → j < k → xs[j]?.getD 0 = 0)) (fun i => 5 - (intOf i).toNat)
  case atStart => exact ⟨2, by omega, by omega, rfl, fun j h1 h2 => by omega⟩
  case round =>
    obtain ⟨k, hk2, hk4, rfl, HZ⟩ := hrel
    by_cases hkn : k < 4 ∧ k < n
    · obtain ⟨b, o, rfl, hcell⟩ := HC.out k (by omega)
      have g4 : (k : Int) < 4 := by omega
      have gn : (k : Int) < (n : Int) := by omega
      have zk : k < n := by omega
      obtain ⟨x, ex⟩ : ∃ x, x = xs[k]?.getD 0 := ⟨_, rfl⟩
      rw [← ex] at hcell
      by_cases hx0 : x = 0
      · have hT : ((x : Int) != 0) = false := by rw [bne_eq_false_iff_eq]; omega
        have HZ1 : Hid (∀ j, 2 ≤ j → j < k + 1 → xs[j]?.getD 0 = 0) := Lib.hid (fun j h1 h2 => by
          by_cases hj : j = k
          · subst hj; omega
          · exact HZ.out j h1 (by omega))
        go_wp2_with fail
        go_round
        case rel => exact ⟨k + 1, by omega, by omega, by go_num, HZ1⟩
        case measure => simp [intOf]; omega
      · have hT : ((x : Int) != 0) = true := by rw [bne_iff_ne]; omega
        have HE := Lib.hid (show (-1 : Int) = R from by rw [HR.out, if_neg (by rw [begins_not hk2 (by omega) (by omega)]; simp)])
        go_wp2_with fail
        go_ret
        exact ⟨ret_i64 HE.out, rfl⟩
    · have HZ3 := Lib.hid (fun j (h1 : 2 ≤ j) (h2 : j < 4) => show xs[j]?.getD 0 = 0 from by
        by_cases hj : j < k
        · exact HZ.out j h1 hj
        · rw [List.getElem?_eq_none (by have := HL.out; omega)]; rfl)
      by_cases hn5 : 4 < n
      · have hk : k = 4 := by omega
        subst hk
        obtain ⟨b, o, hA, hc4⟩ := HC.out 4 hn5
        have g4n : (4 : Int) < (n : Int) := by omega
        obtain ⟨x, ex⟩ : ∃ x, x = xs[4]?.getD 0 := ⟨_, rfl⟩
        rw [← ex] at hc4
        by_cases hx0 : x = 0
        · have hT : ((x : Int) != 0) = false := by rw [bne_eq_false_iff_eq]; omega
          have HB := Lib.hid (begins_zero (xs := xs) (fun j h1 h2 => by
            by_cases hj : j = 4
            · subst hj; omega
            · exact HZ3.out j h1 (by omega)))
          rw [HL.out] at HB
          by_cases h6 : (n : Int) < 6
          · have HE := Lib.hid (show (0 : Int) = R from by rw [HR.out, HB.out, decide_eq_true (by omega), Bool.true_or, if_pos rfl, if_pos (by omega)])
            clear ex
            subst hA
            go_wp2_with fail
            go_ret
            exact ⟨ret_i64 HE.out, rfl⟩
          · obtain ⟨b2, o2, hA2, hc5⟩ := HC.out 5 (by omega)
            rw [hA] at hA2
            injection hA2 with hA2
            injection hA2 with e1 e2
            subst e1 e2
            have g5n : (5 : Int) < (n : Int) := by omega
            have HB2 := Lib.hid (show begins xs = decide (2 ≤ xs[5]?.getD 0 ∧ xs[5]?.getD 0 ≤ 254) from by rw [HB.out, decide_eq_false (by omega)]; rfl)
            obtain ⟨y, ey⟩ : ∃ y, y = xs[5]?.getD 0 := ⟨_, rfl⟩
            rw [← ey] at hc5 HB2 HR b5
            have wy : IntKind.i64.wrap (6 + (y : Int)) = 6 + (y : Int) := by rw [IntKind.wrap_i64]; omega
            clear ex ey HC
            subst hA
            by_cases h2 : (y : Int) < 2
            · have HE := Lib.hid (show (-1 : Int) = R from by rw [HR.out, HB2.out, decide_eq_false (by omega), if_neg (by simp)])
              go_wp2_with fail
              go_ret
              exact ⟨ret_i64 HE.out, rfl⟩
            · by_cases h254 : (254 : Int) < (y : Int)
              · have HE := Lib.hid (show (-1 : Int) = R from by rw [HR.out, HB2.out, decide_eq_false (by omega), if_neg (by simp)])
                go_wp2_with fail
                go_ret
                exact ⟨ret_i64 HE.out, rfl⟩
              · have HE := Lib.hid (show 6 + (y : Int) = R from by rw [HR.out, HB2.out, decide_eq_true (by omega), if_pos rfl, if_neg (by omega)])
                go_wp2_with fail
                go_ret
                exact ⟨ret_i64 HE.out, rfl⟩
        · have hT : ((x : Int) != 0) = true := by rw [bne_iff_ne]; omega
          have HE := Lib.hid (show (-1 : Int) = R from by rw [HR.out, if_neg (by rw [begins_not (j := 4) (by omega) (by omega) (by omega)]; simp)])
          clear ex
          subst hA
          go_wp2_with fail
          go_ret
          exact ⟨ret_i64 HE.out, rfl⟩
      · have g4n : ¬ (4 : Int) < (n : Int) := by omega
        have g6n : (n : Int) < 6 := by omega
        have HB := Lib.hid (begins_zero (xs := xs) (fun j h1 h2 => by
          by_cases hj : j < 4
          · exact HZ3.out j h1 hj
          · rw [List.getElem?_eq_none (by have := HL.out; omega)]; rfl))
        rw [HL.out] at HB
        have HE := Lib.hid (show (0 : Int) = R from by rw [HR.out, HB.out, decide_eq_true (by omega)]; simp; omega)
        by_cases hk : (k : Int) < 4
        · have hkn2 : ¬ (k : Int) < (n : Int) := by omega
          go_wp2_with fail
          go_ret
          exact ⟨ret_i64 HE.out, rfl⟩
        · go_wp2_with fail
          go_ret
          exact ⟨ret_i64 HE.out, rfl⟩
end Go.Proofs.Ytofigldbkndjlaa.MbW
