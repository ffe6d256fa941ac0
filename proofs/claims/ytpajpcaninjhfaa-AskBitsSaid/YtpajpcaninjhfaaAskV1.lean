/- The walk of AskBits. -/
import Derived.Test.YtpajpcaninjhfaaAskU
import Derived.Test.YtpajpcaninjhfaaAskE2
import Derived.Test.YtpajpcaninjhfaaAskPack2
set_option linter.unusedVariables false
set_option linter.unusedSimpArgs false
namespace Go.Proofs.Ytpajpcaninjhfaa.AskW
open Go.RowKit Go.Proofs.Ytpajpcaninjhfaa Go.Proofs.Ytpajpcaninjhfaa.Ask
set_option maxHeartbeats 4000000 in
theorem askBits_any (A1 A2 : Option Addr) (n1 c1 n2 c2 : Nat) (l : List Bool) (b : List Nat) (w : World) (h1 : Sl w w.heap.size A1 n1 (bl l)) (h2 : Sl w w.heap.size A2 n2 (bs b)) (hb : Bytes b) (k1 : n1 ≤ c1) (k2 : n2 ≤ c2) :
    Calls Try.prog 7 #[.slice A1 n1 c1, .slice A2 n2 c2] w fun e w' => e = .returned (.bool true) ∧ Below w.heap.size w w' := by
  by_cases g1 : (2100 : Int) < n1
  · go_enter Try.func7, Try.ntmps7
    go_wp2_with (go_at_call 10; refine (awake_any _).mono ?_; rintro e w1 ⟨rfl, b1⟩)
    go_ret
    exact ⟨rfl, b1⟩
  by_cases g2 : (300 : Int) < n2
  · go_enter Try.func7, Try.ntmps7
    go_wp2_with (go_at_call 10; refine (awake_any _).mono ?_; rintro e w1 ⟨rfl, b1⟩)
    go_ret
    exact ⟨rfl, b1⟩
  have q1 : l.length = n1 := by simpa using h1.len
  have q2 : b.length = n2 := by simpa using h2.len
  obtain ⟨N, hN⟩ : ∃ N, N = (n1 + 7) / 8 := ⟨_, rfl⟩
  obtain ⟨M, hM⟩ : ∃ M, M = 8 * N := ⟨_, rfl⟩
  have hd : Int.tdiv ((n1 : Int) + 7) 8 = (N : Int) := by rw [Int.tdiv_eq_ediv_of_nonneg (by omega)]; omega
  have hw : IntKind.i64.wrap ((n1 : Int) + 7) = (n1 : Int) + 7 := by rw [IntKind.wrap_i64]; omega
  have hN64 := w64 (show N ≤ 9223372036854775807 by omega)
  have hM64 : IntKind.i64.wrap (8 * (N : Int)) = (M : Int) := by rw [IntKind.wrap_i64]; omega
  have K1 := Lib.hid (pack_any A1 n1 c1 l w h1 (by omega))
  rw [← hN] at K1
  have K2 := Lib.hid (fun X A3 c3 (S : Sl X X.heap.size A3 N (bs (pack l))) => unpack_any A3 N c3 (pack l) X S (pack_bytes l) (by omega))
  rw [← hM] at K2
  have hmn : n1 ≤ M := by omega
  have hup : (unpack (pack l)).take n1 = l := by rw [← q1]; exact unpack_pack l
  have K3 := Lib.hid (fun X A4 c4 (S : Sl X X.heap.size A4 n1 (bl l)) (S2 : Sl X X.heap.size A1 n1 (bl l)) => lowBits_any A4 A1 n1 c4 n1 c1 l l X S S2 (by omega) (by omega))
  have hoff : ∀ j, n1 ≤ j → j < M → (unpack (pack l))[j]?.getD false = false := fun j hj hj2 => by
    rw [unpack_pack_get l j (by omega), List.getElem?_eq_none (by omega)]; rfl
  have hUl : (unpack (pack l)).length = M := by rw [unpack_length, pack_length]; omega
  have K4 := Lib.hid (fun X (S : Sl X X.heap.size A2 n2 (bs b)) => unpack_any A2 n2 c2 b X S hb (by omega))
  have K5 := Lib.hid (fun X A5 c5 (S : Sl X X.heap.size A5 (8 * n2) (bl (unpack b))) => pack_any A5 (8 * n2) c5 (unpack b) X S (by omega))
  rw [pack_unpack b hb, show (8 * n2 + 7) / 8 = n2 by omega] at K5
  have K6 := Lib.hid (fun X A6 c6 (S : Sl X X.heap.size A6 n2 (bs b)) (S2 : Sl X X.heap.size A2 n2 (bs b)) => lowSame_any A6 A2 n2 c6 n2 c2 X.heap.size b b X S hb S2 hb)
  have HO := Lib.hid hoff
  have HUP := Lib.hid hup
  have HUL := Lib.hid hUl
  obtain ⟨U, hU⟩ : ∃ U, U = unpack (pack l) := ⟨_, rfl⟩
  rw [← hU] at HO HUP HUL K2
  have hM2 : M ≤ 10000 := by omega
  clear hU hoff hup hUl q1 q2 hN hM
  go_enter Try.func7, Try.ntmps7
  go_wp2_with fail
  refine K1.out.mono ?_
  rintro e w1 ⟨v1, rfl, H1⟩
  obtain ⟨A3, c3, rfl, _, S3, _⟩ := H1.slice
  have B1 := H1.bel
  clear H1
  go_wp2_with fail
  refine (K2.out _ _ _ S3).mono ?_
  rintro e w2 ⟨v2, rfl, H2⟩
  obtain ⟨A4, c4, rfl, hc4, S4, _⟩ := H2.slice
  have B2 := B1.call H2.bel
  clear H2 B1 S3
  have z1 : (n1 : Int) ≤ (c4 : Int) := by omega
  have z2 : (0 : Int) ≤ (n1 : Int) := by omega
  have z3 : (n1 : Int) ≤ (M : Int) := by omega
  have S5 := S4.take hmn
  rw [bl_take, HUP.out] at S5
  have S6 := S4.drop (cap := c4) hmn hc4
  rw [bl_drop] at S6
  obtain ⟨A6, hA6⟩ : ∃ A6, (if c4 = n1 then A4 else Option.map (fun x : Addr => x.add n1) A4) = A6 := ⟨_, rfl⟩
  rw [hA6] at S6
  obtain ⟨R, hR⟩ : ∃ R, M - n1 = R := ⟨_, rfl⟩
  rw [hR] at S6
  go_wp2_with fail
  refine (K3.out _ _ _ S5 (h1.to B2)).mono ?_
  rintro e w3 ⟨rfl, b3⟩
  rw [beq_self_eq_true]
  have B3 := B2.call b3
  have S6 := S6.to b3
  clear b3 S5 B2
  go_wp2_with fail
  have HR := Lib.hid hR
  have q6 : (U.drop n1).length = R := by simpa using S6.len
  have Q6 := Lib.hid q6
  clear q6
  go_loop [51] (fun i => ∃ k : Nat, k ≤ R ∧ i = .int .i64 k) (fun i => R - (intOf i).toNat)
  case atStart => exact ⟨0, by omega, rfl⟩
  case round =>
    obtain ⟨k, hk, rfl⟩ := hrel
    by_cases hlt : k < R
    · obtain ⟨bb, o, rfl, hbl, d1⟩ := S6.2 (by omega)
      have g1 := (d1 k hlt).trans (bl_get (by rw [Q6.out]; exact hlt))
      have e0 : (U.drop n1)[k]?.getD false = false := by
        rw [List.getElem?_drop]
        exact HO.out _ (by omega) (by have := HR.out; omega)
      rw [e0] at g1
      have y0 : (0 : Int) ≤ (k : Int) := by omega
      have y1 : (k : Int) < (R : Int) := by omega
      clear d1 e0
      go_wp2_with fail
      go_round
      case rel => exact ⟨k + 1, by omega, by go_num⟩
      case measure => simp [intOf]; omega
    · obtain rfl : k = R := by omega
      go_wp2_with fail
      refine (K4.out _ (h2.to B3)).mono ?_
      rintro e w4 ⟨v4, rfl, H4⟩
      obtain ⟨A5, c5, rfl, _, S7, _⟩ := H4.slice
      have B4 := B3.call H4.bel
      clear H4
      go_wp2_with fail
      refine (K5.out _ _ _ S7).mono ?_
      rintro e w5 ⟨v5, rfl, H5⟩
      obtain ⟨A7, c7, rfl, _, S8, _⟩ := H5.slice
      have B5 := B4.call H5.bel
      clear H5
      go_wp2_with fail
      refine (K6.out _ _ _ S8 (h2.to B5)).mono ?_
      rintro e w6 ⟨rfl, rfl⟩
      rw [beq_self_eq_true]
      go_wp2_with fail
      refine (awake_any _).mono ?_
      rintro e w7 ⟨rfl, b7⟩
      go_wp2_with fail
      go_ret
      exact ⟨rfl, B5.call b7⟩
end Go.Proofs.Ytpajpcaninjhfaa.AskW
