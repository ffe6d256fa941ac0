/- The walk of WordsBack. -/
import Derived.Test.YtcckplpfgpagmaaWdF
set_option linter.unusedVariables false
set_option linter.unusedSimpArgs false
namespace Go.Proofs.Ytcckplpfgpagmaa.WdW
open Go.RowKit Go.Proofs.Ytcckplpfgpagmaa Go.Proofs.Ytcckplpfgpagmaa.Wd Go.Proofs.Ytcckplpfgpagmaa.Ask
theorem regsE_twos (l : List Nat) : regsE (twos l) = (l, true) := by
  unfold regsE
  rw [if_pos (by rw [twos_length]; omega), regs_twos]
set_option maxHeartbeats 16000000 in
theorem wordsBack_any (A0 : Option Addr) (n0 c0 : Nat) (L : List Bool) (A1 : Option Addr) (n1 c1 : Nat) (R : List Nat) (x z : Nat) (A4 : Option Addr) (n4 c4 : Nat) (Bs : List Nat) (m : Nat) (w : World)
    (h0 : Sl w w.heap.size A0 n0 (bl L)) (h1 : Sl w w.heap.size A1 n1 (ws R)) (hR : ∀ x ∈ R, x < 65536) (hx : x < 4294967296) (hz : z < 65536) (h4 : Sl w w.heap.size A4 n4 (bs Bs)) (hB : Bytes Bs) (hm : m < 65536) :
    Calls Try.prog 4 #[.slice A0 n0 c0, .slice A1 n1 c1, .int .u32 (x : Nat), .int .u16 (z : Nat), .slice A4 n4 c4, .int .u16 (m : Nat)] w fun e w' => e = .returned (.bool true) ∧ Below w.heap.size w w' := by
  by_cases g0 : (500 : Int) < (n0 : Int)
  · clear h0 h1 hR h4 hB
    go_enter Try.func4, Try.ntmps4
    go_wp2_with (go_at_call 7; refine (awake6_any _).mono ?_; rintro e wa ⟨rfl, ba⟩)
    go_ret
    exact ⟨rfl, ba⟩
  have g0d : decide ((500 : Int) < (n0 : Int)) = false := decide_eq_false g0
  by_cases g1 : (200 : Int) < (n1 : Int)
  · clear h0 h1 hR h4 hB
    go_enter Try.func4, Try.ntmps4
    go_wp2_with (go_at_call 7; refine (awake6_any _).mono ?_; rintro e wa ⟨rfl, ba⟩)
    go_ret
    exact ⟨rfl, ba⟩
  have g1d : decide ((200 : Int) < (n1 : Int)) = false := decide_eq_false g1
  by_cases g4 : (300 : Int) < (n4 : Int)
  · clear h0 h1 hR h4 hB
    go_enter Try.func4, Try.ntmps4
    go_wp2_with (go_at_call 7; refine (awake6_any _).mono ?_; rintro e wa ⟨rfl, ba⟩)
    go_ret
    exact ⟨rfl, ba⟩
  have g4d : decide ((300 : Int) < (n4 : Int)) = false := decide_eq_false g4
  have HLL := Lib.hid (show L.length = n0 by simpa using h0.len)
  have HRL := Lib.hid (show R.length = n1 by simpa using h1.len)
  have HBL := Lib.hid (show Bs.length = n4 by simpa using h4.len)
  have HR := Lib.hid hR
  have HB := Lib.hid hB
  have bw := Below.refl w.heap.size w
  have m64 := w64 (show m ≤ 9223372036854775807 by omega)
  have HSM := Lib.hid (word_signed hz)
  have HXX := Lib.hid (show 65536 * (x / 65536) + x % 65536 = x by omega)
  have hp : x / 65536 < 65536 := by omega
  have hq : x % 65536 < 65536 := by omega
  have HT0 := Lib.hid (regsE_twos R)
  have HB0 := Lib.hid (show bitsOf (pack L) (n0 : Int) = L from by rw [← HLL.out]; exact bits_pack L)
  clear hR hB
  go_enter Try.func4, Try.ntmps4
  go_wp2_with fail
  refine (packRegs_any A1 n1 c1 R _ h1 HR.out (by omega)).mono ?_
  rintro e w1 ⟨v1, rfl, H1⟩
  have h0 := h0.to H1.bel
  have h1 := h1.to H1.bel
  have h4 := h4.to H1.bel
  have bw := bw.call H1.bel
  obtain ⟨B1, d1, rfl, -, S1, -⟩ := H1.slice
  clear H1
  go_wp2_with fail
  refine (regs_any B1 _ d1 (twos R) _ S1 (twos_bytes HR.out) (by omega)).mono ?_
  rw [HT0.out]
  rintro e w2 ⟨v2, rfl, H2⟩
  have h0 := h0.to H2.bel
  have h1 := h1.to H2.bel
  have h4 := h4.to H2.bel
  have bw := bw.call H2.bel
  dsimp only at H2 ⊢
  rw [HRL.out] at H2
  obtain ⟨B2, d2, rfl, -, S2, -⟩ := H2.slice
  clear H2 S1
  go_wp2_with fail
  refine (parts_any x hx _).mono ?_
  rintro e w3 ⟨rfl, rfl⟩
  obtain ⟨p, hpp⟩ : ∃ p, p = x / 65536 := ⟨_, rfl⟩
  obtain ⟨q, hqq⟩ : ∃ q, q = x % 65536 := ⟨_, rfl⟩
  rw [← hpp] at hp ⊢
  rw [← hqq] at hq ⊢
  rw [← hpp, ← hqq] at HXX
  clear hpp hqq
  go_wp2_with fail
  refine (signed_any z hz _).mono ?_
  rintro e w4 ⟨rfl, rfl⟩
  go_wp2_with fail
  refine (word_any (signed z) _).mono ?_
  rw [HSM.out]
  rintro e w5 ⟨rfl, rfl⟩
  dsimp only
  obtain ⟨sz, hsz⟩ : ∃ sz, sz = signed z := ⟨_, rfl⟩
  rw [← hsz]
  clear hsz
  go_wp2_with fail
  refine (packBits_any A0 n0 c0 L _ h0 (by omega)).mono ?_
  rintro e w6 ⟨v6, rfl, H6⟩
  have h0 := h0.to H6.bel
  have h1 := h1.to H6.bel
  have h4 := h4.to H6.bel
  have S2 := S2.to H6.bel
  have bw := bw.call H6.bel
  obtain ⟨B6, d6, rfl, -, S6, -⟩ := H6.slice
  clear H6
  go_wp2_with fail
  refine (bits_any B6 _ d6 (pack L) n0 _ S6 (pack_bytes L) (by omega) (by omega) (by omega)).mono ?_
  rw [HB0.out]
  rintro e w7 ⟨v7, rfl, H7⟩
  rw [HLL.out] at H7
  have h0 := h0.to H7.bel
  have h1 := h1.to H7.bel
  have h4 := h4.to H7.bel
  have S2 := S2.to H7.bel
  have bw := bw.call H7.bel
  obtain ⟨B7, d7, rfl, -, S7, -⟩ := H7.slice
  clear H7 S6
  go_wp2_with fail
  refine (lawBools_any B7 A0 n0 d7 n0 c0 L L _ S7 h0 (by omega) (by omega)).mono ?_
  rw [beq_self_eq_true]
  rintro e w8 ⟨rfl, b8⟩
  have h1 := h1.to b8
  have h4 := h4.to b8
  have S2 := S2.to b8
  have bw := bw.call b8
  clear S7 h0 b8
  go_wp2_with fail
  refine (lawRegs_any B2 A1 n1 d2 n1 c1 R R _ S2 h1 (by omega) (by omega)).mono ?_
  rw [beq_self_eq_true]
  rintro e w9 ⟨rfl, b9⟩
  have h4 := h4.to b9
  have bw := bw.call b9
  clear S2 h1 b9
  go_wp2_with fail
  refine (wide_any p q hp hq _).mono ?_
  rw [HXX.out]
  rintro e w10 ⟨rfl, rfl⟩
  go_wp2_with fail
  refine (bits_any A4 n4 c4 Bs m _ h4 HB.out (by omega) (by omega) (by omega)).mono ?_
  rintro e w11 ⟨v11, rfl, H11⟩
  have S4 := h4.to H11.bel
  have bw := bw.call H11.bel
  have HC := bits_length Bs m
  obtain ⟨LB, hLB⟩ : ∃ LB, LB = bitsOf Bs (m : Int) := ⟨_, rfl⟩
  rw [← hLB] at HC H11
  clear hLB h4
  obtain ⟨nb, hnb⟩ : ∃ nb, nb = LB.length := ⟨_, rfl⟩
  rw [← hnb] at H11 HC
  obtain ⟨A11, c11, rfl, -, S11, -⟩ := H11.slice
  clear H11
  by_cases hpos : (0 : Int) < (nb : Int)
  · have hne : (nb : Int) = (m : Int) ∧ pack LB = Bs := by
      rcases HC with h | h
      · exfalso
        rw [h] at hnb
        simp at hnb
        omega
      · exact h
    have HPB := Lib.hid hne.2
    have hnm : ((nb : Int) != (m : Int)) = false := by rw [bne_eq_false_iff_eq]; exact hne.1
    have hnb2 : nb ≤ 100000 := by omega
    clear HC hne hnb
    go_wp2_with fail
    refine (packBits_any A11 nb c11 LB _ S11 hnb2).mono ?_
    rw [HPB.out]
    rintro e w12 ⟨v12, rfl, H12⟩
    have S4 := S4.to H12.bel
    have bw := bw.call H12.bel
    obtain ⟨A12, c12, rfl, -, S12, -⟩ := H12.slice
    clear H12 S11
    go_wp2_with fail
    refine (law6Same_any A12 A4 _ c12 n4 c4 _ Bs Bs _ S12 HB.out S4 HB.out).mono ?_
    rw [beq_self_eq_true]
    rintro e w13 ⟨rfl, rfl⟩
    clear S12
    by_cases hev : n4 % 2 = 0
    · have HTR := Lib.hid (twos_regs HB.out (by rw [HBL.out]; exact hev))
      go_wp2_with fail
      refine (regs_any _ n4 c4 Bs _ S4 HB.out (by omega)).mono ?_
      rw [show regsE Bs = (regs Bs, true) from by unfold regsE; rw [if_pos (by rw [HBL.out]; exact hev)]]
      rintro e w20 ⟨v20, rfl, H20⟩
      have S4 := S4.to H20.bel
      have bw := bw.call H20.bel
      obtain ⟨A20, c20, rfl, -, S20, -⟩ := H20.slice
      clear H20
      have hrl : (regs Bs).length = n4 / 2 := by rw [regs_length, HBL.out]
      dsimp only at S20 ⊢
      rw [hrl] at S20 ⊢
      have hrem : Int.tmod (n4 : Int) 2 = 0 := by rw [Int.tmod_eq_emod_of_nonneg (by omega)]; omega
      obtain ⟨h, hh⟩ : ∃ h, h = n4 / 2 := ⟨_, rfl⟩
      rw [← hh] at S20 ⊢
      have h100 : h ≤ 100000 := by omega
      clear hh hrl hev
      go_wp2_with fail
      refine (packRegs_any A20 h c20 (regs Bs) _ S20 (regs_lt HB.out) h100).mono ?_
      rw [HTR.out]
      rintro e w21 ⟨v21, rfl, H21⟩
      have S4 := S4.to H21.bel
      have bw := bw.call H21.bel
      obtain ⟨A21, c21, rfl, -, S21, -⟩ := H21.slice
      clear H21 S20
      go_wp2_with fail
      refine (law6Same_any A21 A4 _ c21 n4 c4 _ Bs Bs _ S21 HB.out S4 HB.out).mono ?_
      rw [beq_self_eq_true]
      rintro e w22 ⟨rfl, rfl⟩
      go_wp2_with (go_at_call 7; refine (awake6_any _).mono ?_; rintro e wa ⟨rfl, ba⟩)
      go_ret
      exact ⟨rfl, bw.call ba⟩
    · go_wp2_with fail
      refine (regs_any _ n4 c4 Bs _ S4 HB.out (by omega)).mono ?_
      rw [show regsE Bs = ([], false) from by unfold regsE; rw [if_neg (by rw [HBL.out]; exact hev)]]
      rintro e w20 ⟨v20, rfl, H20⟩
      have bw := bw.call H20.bel
      obtain ⟨A20, c20, rfl, -, -, -⟩ := H20.slice
      clear H20
      dsimp only [List.length_nil]
      have hrem : Int.tmod (n4 : Int) 2 = 1 := by rw [Int.tmod_eq_emod_of_nonneg (by omega)]; omega
      clear hev
      go_wp2_with (go_at_call 7; refine (awake6_any _).mono ?_; rintro e wa ⟨rfl, ba⟩)
      go_ret
      exact ⟨rfl, bw.call ba⟩
  · have hposd : decide ((0 : Int) < (nb : Int)) = false := decide_eq_false hpos
    clear HC hnb S11
    by_cases hev : n4 % 2 = 0
    · have HTR := Lib.hid (twos_regs HB.out (by rw [HBL.out]; exact hev))
      go_wp2_with fail
      refine (regs_any _ n4 c4 Bs _ S4 HB.out (by omega)).mono ?_
      rw [show regsE Bs = (regs Bs, true) from by unfold regsE; rw [if_pos (by rw [HBL.out]; exact hev)]]
      rintro e w20 ⟨v20, rfl, H20⟩
      have S4 := S4.to H20.bel
      have bw := bw.call H20.bel
      obtain ⟨A20, c20, rfl, -, S20, -⟩ := H20.slice
      clear H20
      have hrl : (regs Bs).length = n4 / 2 := by rw [regs_length, HBL.out]
      dsimp only at S20 ⊢
      rw [hrl] at S20 ⊢
      have hrem : Int.tmod (n4 : Int) 2 = 0 := by rw [Int.tmod_eq_emod_of_nonneg (by omega)]; omega
      obtain ⟨h, hh⟩ : ∃ h, h = n4 / 2 := ⟨_, rfl⟩
      rw [← hh] at S20 ⊢
      have h100 : h ≤ 100000 := by omega
      clear hh hrl hev
      go_wp2_with fail
      refine (packRegs_any A20 h c20 (regs Bs) _ S20 (regs_lt HB.out) h100).mono ?_
      rw [HTR.out]
      rintro e w21 ⟨v21, rfl, H21⟩
      have S4 := S4.to H21.bel
      have bw := bw.call H21.bel
      obtain ⟨A21, c21, rfl, -, S21, -⟩ := H21.slice
      clear H21 S20
      go_wp2_with fail
      refine (law6Same_any A21 A4 _ c21 n4 c4 _ Bs Bs _ S21 HB.out S4 HB.out).mono ?_
      rw [beq_self_eq_true]
      rintro e w22 ⟨rfl, rfl⟩
      go_wp2_with (go_at_call 7; refine (awake6_any _).mono ?_; rintro e wa ⟨rfl, ba⟩)
      go_ret
      exact ⟨rfl, bw.call ba⟩
    · go_wp2_with fail
      refine (regs_any _ n4 c4 Bs _ S4 HB.out (by omega)).mono ?_
      rw [show regsE Bs = ([], false) from by unfold regsE; rw [if_neg (by rw [HBL.out]; exact hev)]]
      rintro e w20 ⟨v20, rfl, H20⟩
      have bw := bw.call H20.bel
      obtain ⟨A20, c20, rfl, -, -, -⟩ := H20.slice
      clear H20
      dsimp only [List.length_nil]
      have hrem : Int.tmod (n4 : Int) 2 = 1 := by rw [Int.tmod_eq_emod_of_nonneg (by omega)]; omega
      clear hev
      go_wp2_with (go_at_call 7; refine (awake6_any _).mono ?_; rintro e wa ⟨rfl, ba⟩)
      go_ret
      exact ⟨rfl, bw.call ba⟩
end Go.Proofs.Ytcckplpfgpagmaa.WdW
