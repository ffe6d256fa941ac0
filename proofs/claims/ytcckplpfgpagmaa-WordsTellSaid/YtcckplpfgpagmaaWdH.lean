/- The walk of WordsTell. -/
import Derived.Test.YtcckplpfgpagmaaWdF
set_option linter.unusedVariables false
set_option linter.unusedSimpArgs false
namespace Go.Proofs.Ytcckplpfgpagmaa.WdW
open Go.RowKit Go.Proofs.Ytcckplpfgpagmaa Go.Proofs.Ytcckplpfgpagmaa.Wd Go.Proofs.Ytcckplpfgpagmaa.Ask
set_option maxRecDepth 10000 in
set_option maxHeartbeats 16000000 in
theorem wordsTell_any (A0 : Option Addr) (n0 c0 : Nat) (Bs : List Nat) (N : Int) (A2 : Option Addr) (n2 c2 : Nat) (L : List Bool) (A3 : Option Addr) (n3 c3 : Nat) (R : List Nat) (X : Int) (w : World)
    (h0 : Sl w w.heap.size A0 n0 (bs Bs)) (hB : Bytes Bs) (hN0 : -9223372036854775808 ≤ N) (hN1 : N ≤ 9223372036854775807) (h2 : Sl w w.heap.size A2 n2 (bl L)) (h3 : Sl w w.heap.size A3 n3 (ws R)) (hR : ∀ x ∈ R, x < 65536) :
    Calls Try.prog 3 #[.slice A0 n0 c0, .int .i64 N, .slice A2 n2 c2, .slice A3 n3 c3, .int .i64 X] w fun e w' => e = .returned (.bool true) ∧ Below w.heap.size w w' := by
  by_cases g0 : (300 : Int) < (n0 : Int)
  · clear h0 hB h2 h3 hR
    go_enter Try.func3, Try.ntmps3
    go_wp2_with (go_at_call 7; refine (awake6_any _).mono ?_; rintro e wa ⟨rfl, ba⟩)
    go_ret
    exact ⟨rfl, ba⟩
  have g0d : decide ((300 : Int) < (n0 : Int)) = false := decide_eq_false g0
  by_cases g2 : (500 : Int) < (n2 : Int)
  · clear h0 hB h2 h3 hR
    go_enter Try.func3, Try.ntmps3
    go_wp2_with (go_at_call 7; refine (awake6_any _).mono ?_; rintro e wa ⟨rfl, ba⟩)
    go_ret
    exact ⟨rfl, ba⟩
  have g2d : decide ((500 : Int) < (n2 : Int)) = false := decide_eq_false g2
  by_cases g3 : (200 : Int) < (n3 : Int)
  · clear h0 hB h2 h3 hR
    go_enter Try.func3, Try.ntmps3
    go_wp2_with (go_at_call 7; refine (awake6_any _).mono ?_; rintro e wa ⟨rfl, ba⟩)
    go_ret
    exact ⟨rfl, ba⟩
  have g3d : decide ((200 : Int) < (n3 : Int)) = false := decide_eq_false g3
  have HRL := Lib.hid (show R.length = n3 by simpa using h3.len)
  have HR := Lib.hid hR
  have HB := Lib.hid hB
  have bw := Below.refl w.heap.size w
  clear hR hB
  obtain ⟨rl, rb, hE⟩ : ∃ rl rb, regsE Bs = (rl, rb) := ⟨_, _, rfl⟩
  have HE := Lib.hid hE
  have hrl : rl.length ≤ 150 := by
    have hl : Bs.length = n0 := by simpa using h0.len
    have h1 := regs_length Bs
    unfold regsE at hE
    split at hE
    · injection hE with e1 e2
      rw [← e1, h1]; omega
    · injection hE with e1 e2
      rw [← e1]; simp
  obtain ⟨LB, hLB⟩ : ∃ LB, LB = bitsOf Bs N := ⟨_, rfl⟩
  have HLB := Lib.hid hLB
  have hlb : LB.length ≤ 2400 := by
    have hl : Bs.length = n0 := by simpa using h0.len
    rw [hLB]; unfold bitsOf
    split
    · rw [List.length_take, unpack_length]; omega
    · simp
  obtain ⟨nr, hnr⟩ : ∃ nr, nr = rl.length := ⟨_, rfl⟩
  obtain ⟨nl, hnl⟩ : ∃ nl, nl = LB.length := ⟨_, rfl⟩
  rw [← hnr] at hrl
  rw [← hnl] at hlb
  have HNR := Lib.hid hnr
  have HNL := Lib.hid hnl
  clear hE hLB hnr hnl
  go_enter Try.func3, Try.ntmps3
  go_wp2_with fail
  refine (regs_any A0 n0 c0 Bs _ h0 HB.out (by omega)).mono ?_
  rw [HE.out]
  rintro e w1 ⟨v1, rfl, H1⟩
  dsimp only at H1 ⊢
  rw [← HNR.out] at H1
  have h0 := h0.to H1.bel
  have h2 := h2.to H1.bel
  have h3 := h3.to H1.bel
  have bw := bw.call H1.bel
  obtain ⟨B1, d1, rfl, -, S1, -⟩ := H1.slice
  clear H1
  go_wp2_with fail
  refine (refRegs_any A0 n0 c0 Bs _ h0 HB.out (by omega)).mono ?_
  rw [HE.out]
  rintro e w2 ⟨v2, rfl, H2⟩
  dsimp only at H2 ⊢
  rw [← HNR.out] at H2
  have h0 := h0.to H2.bel
  have h2 := h2.to H2.bel
  have h3 := h3.to H2.bel
  have S1 := S1.to H2.bel
  have bw := bw.call H2.bel
  obtain ⟨B2, d2, rfl, -, S2, -⟩ := H2.slice
  clear H2
  go_wp2_with fail
  refine (bits_any A0 n0 c0 Bs N _ h0 HB.out (by omega) hN0 hN1).mono ?_
  rw [← HLB.out]
  rintro e w3 ⟨v3, rfl, H3⟩
  rw [← HNL.out] at H3
  have h0 := h0.to H3.bel
  have h2 := h2.to H3.bel
  have h3 := h3.to H3.bel
  have S1 := S1.to H3.bel
  have S2 := S2.to H3.bel
  have bw := bw.call H3.bel
  obtain ⟨B3, d3, rfl, -, S3, -⟩ := H3.slice
  clear H3
  go_wp2_with fail
  refine (refBits_any A0 n0 c0 Bs N _ h0 HB.out (by omega) hN0 hN1).mono ?_
  rw [← HLB.out]
  rintro e w4 ⟨v4, rfl, H4⟩
  rw [← HNL.out] at H4
  have h2 := h2.to H4.bel
  have h3 := h3.to H4.bel
  have S1 := S1.to H4.bel
  have S2 := S2.to H4.bel
  have S3 := S3.to H4.bel
  have bw := bw.call H4.bel
  obtain ⟨B4, d4, rfl, -, S4, -⟩ := H4.slice
  clear H4 h0
  go_wp2_with fail
  refine (lawBools_any B3 B4 nl d3 nl d4 LB LB _ S3 S4 (by omega) (by omega)).mono ?_
  rw [beq_self_eq_true]
  rintro e w5 ⟨rfl, b5⟩
  have h2 := h2.to b5
  have h3 := h3.to b5
  have S1 := S1.to b5
  have S2 := S2.to b5
  have bw := bw.call b5
  clear S3 S4 b5
  go_wp2_with fail
  refine (packBits_any A2 n2 c2 L _ h2 (by omega)).mono ?_
  rintro e w6 ⟨v6, rfl, H6⟩
  have h2 := h2.to H6.bel
  have h3 := h3.to H6.bel
  have S1 := S1.to H6.bel
  have S2 := S2.to H6.bel
  have bw := bw.call H6.bel
  obtain ⟨B6, d6, rfl, -, S6, -⟩ := H6.slice
  clear H6
  go_wp2_with fail
  refine (refPackBits_any A2 n2 c2 L _ h2 (by omega)).mono ?_
  rintro e w7 ⟨v7, rfl, H7⟩
  have h3 := h3.to H7.bel
  have S1 := S1.to H7.bel
  have S2 := S2.to H7.bel
  have S6 := S6.to H7.bel
  have bw := bw.call H7.bel
  obtain ⟨B7, d7, rfl, -, S7, -⟩ := H7.slice
  clear H7 h2
  go_wp2_with fail
  refine (law6Same_any B6 B7 _ d6 _ d7 _ (pack L) (pack L) _ S6 (pack_bytes L) S7 (pack_bytes L)).mono ?_
  rw [beq_self_eq_true]
  rintro e w8 ⟨rfl, rfl⟩
  clear S6 S7
  go_wp2_with fail
  refine (packRegs_any A3 n3 c3 R _ h3 HR.out (by omega)).mono ?_
  rintro e w9 ⟨v9, rfl, H9⟩
  have h3 := h3.to H9.bel
  have S1 := S1.to H9.bel
  have S2 := S2.to H9.bel
  have bw := bw.call H9.bel
  obtain ⟨B9, d9, rfl, -, S9, -⟩ := H9.slice
  clear H9
  go_wp2_with fail
  refine (refPackRegs_any A3 n3 c3 R _ h3 HR.out (by omega)).mono ?_
  rintro e w10 ⟨v10, rfl, H10⟩
  have h3 := h3.to H10.bel
  have S1 := S1.to H10.bel
  have S2 := S2.to H10.bel
  have S9 := S9.to H10.bel
  have bw := bw.call H10.bel
  obtain ⟨B10, d10, rfl, -, S10, -⟩ := H10.slice
  clear H10
  go_wp2_with fail
  refine (law6Same_any B9 B10 _ d9 _ d10 _ (twos R) (twos R) _ S9 (twos_bytes HR.out) S10 (twos_bytes HR.out)).mono ?_
  rw [beq_self_eq_true]
  rintro e w11 ⟨rfl, rfl⟩
  clear S9 S10
  have hbb : (rb != rb) = false := by simp
  go_wp2_with fail
  refine (lawRegs_any B1 B2 nr d1 nr d2 rl rl _ S1 S2 (by omega) (by omega)).mono ?_
  rw [beq_self_eq_true]
  rintro e w12 ⟨rfl, b12⟩
  have h3 := h3.to b12
  have bw := bw.call b12
  clear S1 S2 b12
  have HS3 := Lib.hid h3
  clear h3
  go_wp2_with fail
  go_loopw [15, 16, 96, 98, 17, 18] (fun i s16 s96 s98 s17 s18 wr => ∃ j : Nat, 1 ≤ j ∧ (j ≤ n3 ∨ j = 1) ∧ i = .int .i64 ((j : Nat) : Int) ∧ Below w12.heap.size w12 wr) (fun i _ _ _ _ _ _ => n3 + 1 - (intOf i).toNat)
  case atStart => exact ⟨1, by omega, by omega, rfl, Below.refl _ _⟩
  case round =>
    obtain ⟨j, hj1, hj, rfl, bb⟩ := hrel
    by_cases hlt : (j : Int) < (n3 : Int)
    · obtain ⟨b, o, rfl, hbl, d⟩ := (HS3.out.to bb).2 (by omega)
      have f1 := (d (j - 1) (by omega)).trans (ws_get (by rw [HRL.out]; omega))
      have f2 := (d j (by omega)).trans (ws_get (by rw [HRL.out]; omega))
      have hx : R[j - 1]?.getD 0 < 65536 := by
        rw [List.getElem?_eq_getElem (by rw [HRL.out]; omega)]; exact HR.out _ (List.getElem_mem _)
      have hy : R[j]?.getD 0 < 65536 := by
        rw [List.getElem?_eq_getElem (by rw [HRL.out]; omega)]; exact HR.out _ (List.getElem_mem _)
      obtain ⟨x, ex⟩ : ∃ x, x = R[j - 1]?.getD 0 := ⟨_, rfl⟩
      obtain ⟨y, ey⟩ : ∃ y, y = R[j]?.getD 0 := ⟨_, rfl⟩
      rw [← ex] at f1 hx
      rw [← ey] at f2 hy
      obtain ⟨i, hi⟩ : ∃ i, i = j - 1 := ⟨_, rfl⟩
      rw [← hi] at f1
      have wi : IntKind.i64.wrap ((j : Int) - 1) = (i : Int) := by rw [IntKind.wrap_i64]; omega
      have zi0 : (0 : Int) ≤ (i : Int) := by omega
      have zi1 : (i : Int) < (n3 : Int) := by omega
      have zj0 : (0 : Int) ≤ (j : Int) := by omega
      have HQ1 := Lib.hid (show (65536 * x + y) / 65536 = x by omega)
      have HQ2 := Lib.hid (show (65536 * x + y) % 65536 = y by omega)
      have HZ : 65536 * x + y < 4294967296 := by omega
      have KW := Lib.hid (fun W => wide_any x y hx hy W)
      have KRW := Lib.hid (fun W => refWide_any x y hx hy W)
      have KS := Lib.hid (fun W => signed_any y hy W)
      have KRS := Lib.hid (fun W => refSigned_any y hy W)
      have KP := Lib.hid (fun W => parts_any (65536 * x + y) HZ W)
      rw [HQ1.out, HQ2.out] at KP
      obtain ⟨z, hz⟩ : ∃ z, z = 65536 * x + y := ⟨_, rfl⟩
      rw [← hz] at KW KRW KP
      obtain ⟨sy, hsy⟩ : ∃ sy, sy = signed y := ⟨_, rfl⟩
      rw [← hsy] at KS KRS
      clear d ex ey hi hz hsy HQ1 HQ2 HZ
      go_wp2_with fail
      go_quiet (first | (go_at_call 19; exact Calls.quiet_of_same ((KW.out _).mono fun e w' h => ⟨h.1, h.2.symm⟩)))
      go_wp2_with fail
      refine (KP.out _).mono ?_
      rintro e w20 ⟨rfl, rfl⟩
      have bb := bb.drewN nq
      have f1 : (wr.drewN nq).cell? ⟨b, o + i, none⟩ = some (.int .u16 (x : Nat)) := f1
      have f2 : (wr.drewN nq).cell? ⟨b, o + j, none⟩ = some (.int .u16 (y : Nat)) := f2
      obtain ⟨W2, hW2⟩ : ∃ W2, W2 = wr.drewN nq := ⟨_, rfl⟩
      rw [← hW2] at bb f1 f2 ⊢
      clear hW2
      go_wp2_with fail
      go_quiet (first
        | (go_at_call 21; exact Calls.quiet_of_same ((KRW.out _).mono fun e w' h => ⟨h.1, h.2.symm⟩))
        | (go_at_call 22; exact Calls.quiet_of_same ((KS.out _).mono fun e w' h => ⟨h.1, h.2.symm⟩))
        | (go_at_call 23; exact Calls.quiet_of_same ((KRS.out _).mono fun e w' h => ⟨h.1, h.2.symm⟩)))
      go_wp2_with fail
      go_roundw
      case rel => exact ⟨j + 1, by omega, by omega, by go_num, bb.drewN _⟩
      case measure => simp [intOf]; omega
    · have bw := bw.call bb
      by_cases hx1 : X < -32768
      · have HW := Lib.hid (show word X = (0, false) from by unfold word; rw [if_neg (by omega)])
        have hx1n : ¬ (-32768 : Int) ≤ X := by omega
        have hx1d : decide ((-32768 : Int) ≤ X) = false := decide_eq_false hx1n
        go_wp2_with fail
        refine (word_any X _).mono ?_
        rw [HW.out]
        rintro e w30 ⟨rfl, rfl⟩
        go_wp2_with (go_at_call 7; refine (awake6_any _).mono ?_; rintro e wa ⟨rfl, ba⟩)
        go_ret
        exact ⟨rfl, bw.call ba⟩
      by_cases hx2 : 32767 < X
      · have HW := Lib.hid (show word X = (0, false) from by unfold word; rw [if_neg (by omega)])
        have hx1n : (-32768 : Int) ≤ X := by omega
        have hx1d : decide ((-32768 : Int) ≤ X) = true := decide_eq_true hx1n
        have hx2n : ¬ X ≤ 32767 := by omega
        have hx2d : decide (X ≤ 32767) = false := decide_eq_false hx2n
        go_wp2_with fail
        refine (word_any X _).mono ?_
        rw [HW.out]
        rintro e w30 ⟨rfl, rfl⟩
        go_wp2_with (go_at_call 7; refine (awake6_any _).mono ?_; rintro e wa ⟨rfl, ba⟩)
        go_ret
        exact ⟨rfl, bw.call ba⟩
      have hx1n : (-32768 : Int) ≤ X := by omega
      have hx1d : decide ((-32768 : Int) ≤ X) = true := decide_eq_true hx1n
      have hx2n : X ≤ 32767 := by omega
      have hx2d : decide (X ≤ 32767) = true := decide_eq_true hx2n
      obtain ⟨q1, q2, q3⟩ := signed_word (x := X) (by omega)
      have HW := Lib.hid (show word X = ((word X).1, true) from by rw [← q1])
      obtain ⟨y, hy⟩ : ∃ y, y = (word X).1 := ⟨_, rfl⟩
      rw [← hy] at HW q2 q3
      have HSG := Lib.hid q3
      clear q1 q3 hy hx1 hx2
      go_wp2_with fail
      refine (word_any X _).mono ?_
      rw [HW.out]
      rintro e w30 ⟨rfl, rfl⟩
      go_wp2_with fail
      refine (refSigned_any y q2 _).mono ?_
      rw [HSG.out]
      rintro e w31 ⟨rfl, rfl⟩
      go_wp2_with (go_at_call 7; refine (awake6_any _).mono ?_; rintro e wa ⟨rfl, ba⟩)
      go_ret
      exact ⟨rfl, bw.call ba⟩
end Go.Proofs.Ytcckplpfgpagmaa.WdW
