/- The walk of RtuTalks. -/
import Derived.Test.YtgjcefgdkhfghaaRtuD
import Derived.Test.YtgjcefgdkhfghaaRtuF
import Derived.Test.YtgjcefgdkhfghaaRepH
import Derived.Test.YtgjcefgdkhfghaaAG6
import Derived.Test.YtgjcefgdkhfghaaRepO1
set_option linter.unusedVariables false
set_option linter.unusedSimpArgs false
namespace Go.Proofs.Ytgjcefgdkhfghaa.AskW
open Go.RowKit Go.Proofs.Ytgjcefgdkhfghaa Go.Proofs.Ytgjcefgdkhfghaa.Ask
set_option maxRecDepth 100000 in
set_option maxHeartbeats 16000000 in
theorem rtuTalks_any (f a m t : Nat) (Aw : Option Addr) (nw cw : Nat) (Ab : Option Addr) (nb cb : Nat) (W : List Nat) (B : List Bool) (f2 x2 : Nat) (Ab2 : Option Addr) (nb2 cb2 : Nat) (Aw2 : Option Addr) (nw2 cw2 : Nat) (a2 m2 : Nat) (B2 : List Bool) (W2 : List Nat) (u v : Nat) (w : World)
    (hW : Sl w w.heap.size Aw nw (ws W)) (hB : Sl w w.heap.size Ab nb (bl B)) (hwf : Req.Wf ⟨f, a, m, t, W, B⟩) (hW2 : Sl w w.heap.size Aw2 nw2 (ws W2)) (hB2 : Sl w w.heap.size Ab2 nb2 (bl B2)) (hwf2 : Rep.Wf ⟨f2, x2, B2, W2, a2, m2⟩) (hu : u < 256) (hv : v < 256) :
    Calls Try.prog 8 #[.agg #[.int .u8 (f : Nat), .int .u16 (a : Nat), .int .u16 (m : Nat), .int .u16 (t : Nat), .slice Aw nw cw, .slice Ab nb cb], .agg #[.int .u8 (f2 : Nat), .int .u8 (x2 : Nat), .slice Ab2 nb2 cb2, .slice Aw2 nw2 cw2, .int .u16 (a2 : Nat), .int .u16 (m2 : Nat)], .int .u8 (u : Nat), .int .u8 (v : Nat)] w fun e w' => e = .returned (.bool true) ∧ Below w.heap.size w w' := by
  have hb0 : Below w.heap.size w ((w.alloc (.cells #[.int .u8 (f : Nat), .int .u16 (a : Nat), .int .u16 (m : Nat), .int .u16 (t : Nat), .slice Aw nw cw, .slice Ab nb cb] 28)).alloc (.cells #[.int .u8 (f2 : Nat), .int .u8 (x2 : Nat), .slice Ab2 nb2 cb2, .slice Aw2 nw2 cw2, .int .u16 (a2 : Nat), .int .u16 (m2 : Nat)] 26)) := ((Below.refl _ _).new _).new _
  have FA0 := few_any Aw Ab nw cw nb cb
  have FO0 := few_any Aw2 Ab2 nw2 cw2 nb2 cb2
  by_cases h1 : nw ≤ 200 ∧ nb ≤ 2100
  case neg =>
    rw [show (decide (nw ≤ 200) && decide (nb ≤ 2100)) = false by rw [Bool.and_eq_false_iff, decide_eq_false_iff_not, decide_eq_false_iff_not]; omega] at FA0
    have FA := Lib.hid FA0
    clear FA0 FO0 h1 hW hB hwf hW2 hB2 hwf2
    go_enter Try.func8, Try.ntmps8
    go_wp2_with fail
    refine (FA.out _).mono ?_
    rintro e wf ⟨rfl, rfl⟩
    go_wp2_with (go_at_call 26; refine (awake4_any _).mono ?_; rintro e wa ⟨rfl, ba⟩)
    go_ret
    exact ⟨rfl, hb0.call ba⟩
  rw [show (decide (nw ≤ 200) && decide (nb ≤ 2100)) = true by rw [Bool.and_eq_true, decide_eq_true_iff, decide_eq_true_iff]; omega] at FA0
  have h1a := h1
  have FA := Lib.hid FA0
  clear FA0 h1
  by_cases h1 : nw2 ≤ 200 ∧ nb2 ≤ 2100
  case neg =>
    rw [show (decide (nw2 ≤ 200) && decide (nb2 ≤ 2100)) = false by rw [Bool.and_eq_false_iff, decide_eq_false_iff_not, decide_eq_false_iff_not]; omega] at FO0
    have FO := Lib.hid FO0
    clear FO0 h1 h1a hW hB hwf hW2 hB2 hwf2
    go_enter Try.func8, Try.ntmps8
    go_wp2_with fail
    refine (FA.out _).mono ?_
    rintro e wf ⟨rfl, rfl⟩
    go_wp2_with fail
    refine (FO.out _).mono ?_
    rintro e wf ⟨rfl, rfl⟩
    go_wp2_with (go_at_call 26; refine (awake4_any _).mono ?_; rintro e wa ⟨rfl, ba⟩)
    go_ret
    exact ⟨rfl, hb0.call ba⟩
  rw [show (decide (nw2 ≤ 200) && decide (nb2 ≤ 2100)) = true by rw [Bool.and_eq_true, decide_eq_true_iff, decide_eq_true_iff]; omega] at FO0
  have FO := Lib.hid FO0
  clear FO0
  by_cases hu0 : u = 0
  · subst hu0
    clear h1 h1a hW hB hwf hW2 hB2 hwf2
    go_enter Try.func8, Try.ntmps8
    go_wp2_with fail
    refine (FA.out _).mono ?_
    rintro e wf ⟨rfl, rfl⟩
    go_wp2_with fail
    refine (FO.out _).mono ?_
    rintro e wf ⟨rfl, rfl⟩
    go_wp2_with (go_at_call 26; refine (awake4_any _).mono ?_; rintro e wa ⟨rfl, ba⟩)
    go_ret
    exact ⟨rfl, hb0.call ba⟩
  by_cases hu1 : (247 : Int) < (u : Int)
  · have hz : ((u : Int) == 0) = false := by rw [beq_eq_false_iff_ne]; omega
    clear h1 h1a hu0 hW hB hwf hW2 hB2 hwf2
    go_enter Try.func8, Try.ntmps8
    go_wp2_with fail
    refine (FA.out _).mono ?_
    rintro e wf ⟨rfl, rfl⟩
    go_wp2_with fail
    refine (FO.out _).mono ?_
    rintro e wf ⟨rfl, rfl⟩
    go_wp2_with (go_at_call 26; refine (awake4_any _).mono ?_; rintro e wa ⟨rfl, ba⟩)
    go_ret
    exact ⟨rfl, hb0.call ba⟩
  have hU : isU u = true := by unfold isU; rw [decide_eq_true_iff]; omega
  have hz : ((u : Int) == 0) = false := by rw [beq_eq_false_iff_ne]; omega
  have qW : W.length = nw := by simpa using hW.len
  have qB : B.length = nb := by simpa using hB.len
  have qW2 : W2.length = nw2 := by simpa using hW2.len
  have qB2 : B2.length = nb2 := by simpa using hB2.len
  have KA0 := fun Y (b : Below w.heap.size w Y) => rtuAsk_any u f a m t Aw nw cw Ab nb cb W B Y hu (hW.to b) (hB.to b) hwf (by omega)
  have KG0 := fun Y => right_any f a m t Aw nw cw Ab nb cb W B qW qB hwf.many Y
  have KRB0 := fun Y (b : Below w.heap.size w Y) => repBytes_any f2 x2 Ab2 nb2 cb2 Aw2 nw2 cw2 a2 m2 B2 W2 Y (hB2.to b) (hW2.to b) hwf2 (by omega) (by omega)
  have KT := Lib.hid (fun Y Aw3 nw3 cw3 Ab3 nb3 cb3 (b : Below w.heap.size w Y) (h3 : Sl Y Y.heap.size Aw3 nw3 (ws W)) (h4 : Sl Y Y.heap.size Ab3 nb3 (bl B)) => same_any f a m t Aw3 nw3 cw3 Ab3 nb3 cb3 f a m t Aw nw cw Ab nb cb W W B B Y h3 h4 (hW.to b) (hB.to b) (by have := h3.len; simp at this; omega) (by have := h4.len; simp at this; omega) (by omega) (by omega))
  have KS := Lib.hid (fun Y Aw3 nw3 cw3 Ab3 nb3 cb3 (b : Below w.heap.size w Y) (h3 : Sl Y Y.heap.size Aw3 nw3 (ws W2)) (h4 : Sl Y Y.heap.size Ab3 nb3 (bl B2)) => repSame_any f2 x2 Ab3 nb3 cb3 Aw3 nw3 cw3 a2 m2 f2 x2 Ab2 nb2 cb2 Aw2 nw2 cw2 a2 m2 B2 B2 W2 W2 Y h3 h4 (hW2.to b) (hB2.to b) (by have := h3.len; simp at this; omega) (by have := h4.len; simp at this; omega) (by omega) (by omega))
  have ra0 := row_alloc (heap_alloc_new w (.cells #[.int .u8 (f : Nat), .int .u16 (a : Nat), .int .u16 (m : Nat), .int .u16 (t : Nat), .slice Aw nw cw, .slice Ab nb cb] 28)) (.cells #[.int .u8 (f2 : Nat), .int .u8 (x2 : Nat), .slice Ab2 nb2 cb2, .slice Aw2 nw2 cw2, .int .u16 (a2 : Nat), .int .u16 (m2 : Nat)] 26)
  have ro0 := heap_alloc2_new w (.cells #[.int .u8 (f : Nat), .int .u16 (a : Nat), .int .u16 (m : Nat), .int .u16 (t : Nat), .slice Aw nw cw, .slice Ab nb cb] 28) (.cells #[.int .u8 (f2 : Nat), .int .u8 (x2 : Nat), .slice Ab2 nb2 cb2, .slice Aw2 nw2 cw2, .int .u16 (a2 : Nat), .int .u16 (m2 : Nat)] 26)
  have HRA0 := Lib.hid ra0
  have HRO0 := Lib.hid ro0
  have HCR0 : (rbytesE ⟨f2, x2, B2, W2, a2, m2⟩ = ([], 13)) ∨ ∃ Z P, rbytesE ⟨f2, x2, B2, W2, a2, m2⟩ = (Z, 0) ∧ Bytes Z ∧ 1 ≤ Z.length ∧ Z.length ≤ 253 ∧ rtuB u Z = (P, 0) ∧ Bytes P ∧ P.length ≤ 256 ∧ (∀ v, rtuR v P = if u = v then (⟨f2, x2, B2, W2, a2, m2⟩, 0) else (rep0, 10)) := by
    rcases rbytesE_cases ⟨f2, x2, B2, W2, a2, m2⟩ with ⟨hr, hE⟩ | ⟨hr, hE⟩
    · have hlen := rbytes_len hr
      have hby := rbytesE_lt ⟨f2, x2, B2, W2, a2, m2⟩ hwf2
      rw [hE] at hby
      dsimp only at hby
      refine Or.inr ⟨_, CrcW.put (u :: rbytes ⟨f2, x2, B2, W2, a2, m2⟩), hE, hby, by omega, by omega, ?_, CrcW.put_bytes (unit_cons hu hby), by simp; omega, ?_⟩
      · unfold rtuB; rw [if_pos ⟨hU, by omega, by omega⟩]
      · intro v'; rw [rtuR_put hU hby (by omega) (by omega), rparse_bytes hr]
    · exact Or.inl hE
  clear ra0 ro0
  rcases rtuA_cases u ⟨f, a, m, t, W, B⟩ hU with ⟨hr, hE⟩ | ⟨hr, hE⟩
  · have hlen := bytes_len hr
    have hby := bytes_lt ⟨f, a, m, t, W, B⟩ hwf (by dsimp only; omega)
    have hpp := rtuP_put hU hby (by omega) (by omega)
    have hpb := parse_bytes hr
    rw [hE] at KA0
    rw [hr] at KG0
    obtain ⟨Y0, hY0⟩ : ∃ Z, Z = bytes ⟨f, a, m, t, W, B⟩ := ⟨_, rfl⟩
    rw [← hY0] at hlen hby hpp hpb KA0
    have hPb := CrcW.put_bytes (unit_cons hu hby)
    have hPl : (CrcW.put (u :: Y0)).length ≤ 256 := by simp; omega
    obtain ⟨P0, hP0⟩ : ∃ P, P = CrcW.put (u :: Y0) := ⟨_, rfl⟩
    rw [← hP0] at hPb hPl hpp KA0
    have KP0 := fun A2 c2 Y h hc => rtuParse_any A2 P0.length c2 P0 Y h hPb (by omega) hc
    rw [hpp] at KP0
    have KQ0 := fun A2 c2 Y h hc => parse_any A2 Y0.length c2 Y0 Y h hby (by omega) hc
    rw [hpb] at KQ0
    have KA := Lib.hid KA0
    have KG := Lib.hid KG0
    have KP := Lib.hid KP0
    have KQ := Lib.hid KQ0
    have KRB := KRB0
    have HCR := Lib.hid HCR0
    have KRB := Lib.hid KRB0
    clear KA0 KG0 KP0 KQ0 KRB0 HCR0 hY0 hP0 hPb hPl hr hE hlen hby hpp hpb h1 h1a hu0 hU qW qB qW2 qB2 hW hB hwf hW2 hB2 hwf2
    go_enter Try.func8, Try.ntmps8
    go_wp2_with fail
    refine (FA.out _).mono ?_
    rintro e wf ⟨rfl, rfl⟩
    go_wp2_with fail
    refine (FO.out _).mono ?_
    rintro e wf ⟨rfl, rfl⟩
    go_wp2_with fail
    refine (KA.out _ hb0).mono ?_
    rintro e w1 ⟨va, rfl, Ha⟩
    obtain ⟨Aa, ca, rfl, hca, Sa, _⟩ := Ha.slice
    have ra := Ha.bel.row (row_lt HRA0.out) HRA0.out
    have ro := Ha.bel.row (row_lt HRO0.out) HRO0.out
    have hb := hb0.call Ha.bel
    clear Ha KA
    dsimp only at Sa hca ⊢
    obtain ⟨c0, c1, c2, c3, c4, c5⟩ := row6 ra
    go_wp2_with fail
    refine (KG.out _).mono ?_
    rintro e w2 ⟨rfl, b2⟩
    have ra := b2.row (row_lt ra) ra
    have ro := b2.row (row_lt ro) ro
    have Sa := Sa.to b2
    have hb := hb.call b2
    clear b2 KG c0 c1 c2 c3 c4 c5
    go_wp2_with fail
    refine (KP.out _ _ _ Sa hca).mono ?_
    rintro e w3 ⟨A3, c3, rfl, S3, hc3, _, b3⟩
    have ra := b3.row (row_lt ra) ra
    have ro := b3.row (row_lt ro) ro
    have hb := hb.call b3
    clear b3 KP Sa
    dsimp only at S3 hc3 ⊢
    go_wp2_with fail
    refine (KQ.out _ _ _ S3 hc3).mono ?_
    rintro e w4 ⟨gAw, gnw, gcw, gAb, gnb, gcb, rfl, SW, SB, _, _, _, _, b4⟩
    dsimp only at SB SW ⊢
    have bn := b4.new (.cells #[.int .u8 (f : Nat), .int .u16 (a : Nat), .int .u16 (m : Nat), .int .u16 (t : Nat), .slice gAw gnw gcw, .slice gAb gnb gcb] 28)
    have rx := heap_alloc_new w4 (.cells #[.int .u8 (f : Nat), .int .u16 (a : Nat), .int .u16 (m : Nat), .int .u16 (t : Nat), .slice gAw gnw gcw, .slice gAb gnb gcb] 28)
    have SB := SB.to ((Below.refl _ _).new (.cells #[.int .u8 (f : Nat), .int .u16 (a : Nat), .int .u16 (m : Nat), .int .u16 (t : Nat), .slice gAw gnw gcw, .slice gAb gnb gcb] 28))
    have SW := SW.to ((Below.refl _ _).new (.cells #[.int .u8 (f : Nat), .int .u16 (a : Nat), .int .u16 (m : Nat), .int .u16 (t : Nat), .slice gAw gnw gcw, .slice gAb gnb gcb] 28))
    have ra := bn.row (row_lt ra) ra
    have ro := bn.row (row_lt ro) ro
    have hb := hb.call bn
    clear bn b4 KQ S3
    obtain ⟨c0, c1, c2, c3', c4, c5⟩ := row6 ra
    obtain ⟨e0, e1, e2, e3, e4, e5⟩ := row6 rx
    go_wp2_with fail
    refine (KT.out _ _ _ _ _ _ _ hb SW SB).mono ?_
    rintro e w5 ⟨rfl, b5⟩
    simp only [beq_self_eq_true, Bool.and_true]
    have ro := b5.row (row_lt ro) ro
    have hb := hb.call b5
    clear b5 KT c0 c1 c2 c3' c4 c5 e0 e1 e2 e3 e4 e5 ra rx SB SW
    obtain ⟨d0, d1, d2, d3, d4, d5⟩ := row6 ro
    rcases HCR.out with hE | ⟨Z, P, hE, hZb, hZ1, hZ2, hZB, hPb, hPl, hZR⟩
    · rw [hE] at KRB
      clear hE
      go_wp2_with fail
      refine (KRB.out _ hb).mono ?_
      rintro e w3 ⟨va, rfl, Ha⟩
      have hb := hb.call Ha.bel
      clear Ha d0 d1 d2 d3 d4 d5 ro
      go_wp2_with (go_at_call 26; refine (awake4_any _).mono ?_; rintro e wa ⟨rfl, ba⟩)
      go_ret
      exact ⟨rfl, hb.call ba⟩
    rw [hE] at KRB
    have KB := Lib.hid (fun A2 c2 Y h => hZB ▸ rtuBytes_any u A2 Z.length c2 Z Y hu h hZb (by omega))
    have KRE := Lib.hid (fun v' A2 c2 Y h hc => hZR v' ▸ rtuReply_any v' A2 P.length c2 P Y h hPb (by omega) hc)
    clear hE hZb hZ1 hZ2 hZB hZR hPb hPl
    go_wp2_with fail
    refine (KRB.out _ hb).mono ?_
    rintro e w3 ⟨va, rfl, Ha⟩
    obtain ⟨Aa, ca, rfl, _, Sa, _⟩ := Ha.slice
    have ro := Ha.bel.row (row_lt ro) ro
    have hb := hb.call Ha.bel
    clear Ha d0 d1 d2 d3 d4 d5
    dsimp only at Sa ⊢
    go_wp2_with fail
    refine (KB.out _ _ _ Sa).mono ?_
    rintro e w4 ⟨vb, rfl, Hb⟩
    obtain ⟨Az, cz, rfl, hcz, Sz, _⟩ := Hb.slice
    have ro := Hb.bel.row (row_lt ro) ro
    have hb := hb.call Hb.bel
    clear Hb Sa
    dsimp only at Sz hcz ⊢
    have KR1 := fun Y h => KRE.out u Az cz Y h hcz
    have KR2 := fun Y h => KRE.out v Az cz Y h hcz
    rw [if_pos rfl] at KR1
    have KR1 := Lib.hid KR1
    have KR2 := Lib.hid KR2
    clear KRE
    go_wp2_with fail
    refine (KR1.out _ Sz).mono ?_
    rintro e w5 ⟨pAb, pnb, pcb, pAw, pnw, pcw, rfl, SB, SW, _, _, _, _, b5⟩
    dsimp only at SB SW ⊢
    have bn := b5.new (.cells #[.int .u8 (f2 : Nat), .int .u8 (x2 : Nat), .slice pAb pnb pcb, .slice pAw pnw pcw, .int .u16 (a2 : Nat), .int .u16 (m2 : Nat)] 26)
    have rx := heap_alloc_new w5 (.cells #[.int .u8 (f2 : Nat), .int .u8 (x2 : Nat), .slice pAb pnb pcb, .slice pAw pnw pcw, .int .u16 (a2 : Nat), .int .u16 (m2 : Nat)] 26)
    have SB := SB.to ((Below.refl _ _).new (.cells #[.int .u8 (f2 : Nat), .int .u8 (x2 : Nat), .slice pAb pnb pcb, .slice pAw pnw pcw, .int .u16 (a2 : Nat), .int .u16 (m2 : Nat)] 26))
    have SW := SW.to ((Below.refl _ _).new (.cells #[.int .u8 (f2 : Nat), .int .u8 (x2 : Nat), .slice pAb pnb pcb, .slice pAw pnw pcw, .int .u16 (a2 : Nat), .int .u16 (m2 : Nat)] 26))
    have ro := bn.row (row_lt ro) ro
    have hb := hb.call bn
    have Sz := Sz.to bn
    clear bn b5 KR1
    go_wp2_with fail
    refine (KR2.out _ Sz).mono ?_
    clear KR2 Sz
    by_cases huv : u = v
    · subst huv
      rw [if_pos rfl]
      rintro e w6 ⟨qAb, qnb, qcb, qAw, qnw, qcw, rfl, _, _, _, _, _, _, b6⟩
      dsimp only
      have bn := b6.new (.cells #[.int .u8 (f2 : Nat), .int .u8 (x2 : Nat), .slice qAb qnb qcb, .slice qAw qnw qcw, .int .u16 (a2 : Nat), .int .u16 (m2 : Nat)] 26)
      have ro := bn.row (row_lt ro) ro
      have rx := bn.row (row_lt rx) rx
      have hb := hb.call bn
      have SB := SB.to bn
      have SW := SW.to bn
      clear bn b6
      obtain ⟨d0, d1, d2, d3, d4, d5⟩ := row6 ro
      obtain ⟨e0, e1, e2, e3, e4, e5⟩ := row6 rx
      go_wp2_with fail
      refine (KS.out _ _ _ _ _ _ _ hb SW SB).mono ?_
      rintro e w7 ⟨rfl, b7⟩
      simp only [beq_self_eq_true, Bool.and_true]
      clear d0 d1 d2 d3 d4 d5 e0 e1 e2 e3 e4 e5 rx ro SB SW
      have hb := hb.call b7
      clear b7
      go_wp2_with (go_at_call 26; refine (awake4_any _).mono ?_; rintro e wa ⟨rfl, ba⟩)
      go_ret
      exact ⟨rfl, hb.call ba⟩
    · rw [if_neg huv]
      rintro e w6 ⟨qAb, qnb, qcb, qAw, qnw, qcw, rfl, _, _, _, _, _, _, b6⟩
      dsimp only [rep0]
      have bn := b6.new (.cells #[.int .u8 0, .int .u8 0, .slice qAb qnb qcb, .slice qAw qnw qcw, .int .u16 0, .int .u16 0] 26)
      have ro := bn.row (row_lt ro) ro
      have rx := bn.row (row_lt rx) rx
      have hb := hb.call bn
      have SB := SB.to bn
      have SW := SW.to bn
      clear bn b6
      obtain ⟨d0, d1, d2, d3, d4, d5⟩ := row6 ro
      obtain ⟨e0, e1, e2, e3, e4, e5⟩ := row6 rx
      have hF : ((u : Int) == (v : Int)) = false := by rw [beq_eq_false_iff_ne]; omega
      clear huv
      go_wp2_with fail
      refine (KS.out _ _ _ _ _ _ _ hb SW SB).mono ?_
      rintro e w7 ⟨rfl, b7⟩
      simp only [beq_self_eq_true, Bool.and_true]
      clear d0 d1 d2 d3 d4 d5 e0 e1 e2 e3 e4 e5 rx ro SB SW
      have hb := hb.call b7
      clear b7
      go_wp2_with (go_at_call 26; refine (awake4_any _).mono ?_; rintro e wa ⟨rfl, ba⟩)
      go_ret
      exact ⟨rfl, hb.call ba⟩
  · rw [hE] at KA0
    rw [hr] at KG0
    have KA := Lib.hid KA0
    have KG := Lib.hid KG0
    have HCR := Lib.hid HCR0
    have KRB := Lib.hid KRB0
    clear KA0 KG0 KRB0 HCR0 hr hE h1 h1a hu0 hU qW qB qW2 qB2 hW hB hwf hW2 hB2 hwf2
    go_enter Try.func8, Try.ntmps8
    go_wp2_with fail
    refine (FA.out _).mono ?_
    rintro e wf ⟨rfl, rfl⟩
    go_wp2_with fail
    refine (FO.out _).mono ?_
    rintro e wf ⟨rfl, rfl⟩
    go_wp2_with fail
    refine (KA.out _ hb0).mono ?_
    rintro e w1 ⟨va, rfl, Ha⟩
    obtain ⟨Aa, ca, rfl, hca, Sa, _⟩ := Ha.slice
    have ra := Ha.bel.row (row_lt HRA0.out) HRA0.out
    have ro := Ha.bel.row (row_lt HRO0.out) HRO0.out
    have hb := hb0.call Ha.bel
    clear Ha KA Sa hca
    dsimp only
    obtain ⟨c0, c1, c2, c3, c4, c5⟩ := row6 ra
    go_wp2_with fail
    refine (KG.out _).mono ?_
    rintro e w2 ⟨rfl, b2⟩
    have ro := b2.row (row_lt ro) ro
    have hb := hb.call b2
    clear b2 KG c0 c1 c2 c3 c4 c5 ra
    obtain ⟨d0, d1, d2, d3, d4, d5⟩ := row6 ro
    rcases HCR.out with hE | ⟨Z, P, hE, hZb, hZ1, hZ2, hZB, hPb, hPl, hZR⟩
    · rw [hE] at KRB
      clear hE
      go_wp2_with fail
      refine (KRB.out _ hb).mono ?_
      rintro e w3 ⟨va, rfl, Ha⟩
      have hb := hb.call Ha.bel
      clear Ha d0 d1 d2 d3 d4 d5 ro
      go_wp2_with (go_at_call 26; refine (awake4_any _).mono ?_; rintro e wa ⟨rfl, ba⟩)
      go_ret
      exact ⟨rfl, hb.call ba⟩
    rw [hE] at KRB
    have KB := Lib.hid (fun A2 c2 Y h => hZB ▸ rtuBytes_any u A2 Z.length c2 Z Y hu h hZb (by omega))
    have KRE := Lib.hid (fun v' A2 c2 Y h hc => hZR v' ▸ rtuReply_any v' A2 P.length c2 P Y h hPb (by omega) hc)
    clear hE hZb hZ1 hZ2 hZB hZR hPb hPl
    go_wp2_with fail
    refine (KRB.out _ hb).mono ?_
    rintro e w3 ⟨va, rfl, Ha⟩
    obtain ⟨Aa, ca, rfl, _, Sa, _⟩ := Ha.slice
    have ro := Ha.bel.row (row_lt ro) ro
    have hb := hb.call Ha.bel
    clear Ha d0 d1 d2 d3 d4 d5
    dsimp only at Sa ⊢
    go_wp2_with fail
    refine (KB.out _ _ _ Sa).mono ?_
    rintro e w4 ⟨vb, rfl, Hb⟩
    obtain ⟨Az, cz, rfl, hcz, Sz, _⟩ := Hb.slice
    have ro := Hb.bel.row (row_lt ro) ro
    have hb := hb.call Hb.bel
    clear Hb Sa
    dsimp only at Sz hcz ⊢
    have KR1 := fun Y h => KRE.out u Az cz Y h hcz
    have KR2 := fun Y h => KRE.out v Az cz Y h hcz
    rw [if_pos rfl] at KR1
    have KR1 := Lib.hid KR1
    have KR2 := Lib.hid KR2
    clear KRE
    go_wp2_with fail
    refine (KR1.out _ Sz).mono ?_
    rintro e w5 ⟨pAb, pnb, pcb, pAw, pnw, pcw, rfl, SB, SW, _, _, _, _, b5⟩
    dsimp only at SB SW ⊢
    have bn := b5.new (.cells #[.int .u8 (f2 : Nat), .int .u8 (x2 : Nat), .slice pAb pnb pcb, .slice pAw pnw pcw, .int .u16 (a2 : Nat), .int .u16 (m2 : Nat)] 26)
    have rx := heap_alloc_new w5 (.cells #[.int .u8 (f2 : Nat), .int .u8 (x2 : Nat), .slice pAb pnb pcb, .slice pAw pnw pcw, .int .u16 (a2 : Nat), .int .u16 (m2 : Nat)] 26)
    have SB := SB.to ((Below.refl _ _).new (.cells #[.int .u8 (f2 : Nat), .int .u8 (x2 : Nat), .slice pAb pnb pcb, .slice pAw pnw pcw, .int .u16 (a2 : Nat), .int .u16 (m2 : Nat)] 26))
    have SW := SW.to ((Below.refl _ _).new (.cells #[.int .u8 (f2 : Nat), .int .u8 (x2 : Nat), .slice pAb pnb pcb, .slice pAw pnw pcw, .int .u16 (a2 : Nat), .int .u16 (m2 : Nat)] 26))
    have ro := bn.row (row_lt ro) ro
    have hb := hb.call bn
    have Sz := Sz.to bn
    clear bn b5 KR1
    go_wp2_with fail
    refine (KR2.out _ Sz).mono ?_
    clear KR2 Sz
    by_cases huv : u = v
    · subst huv
      rw [if_pos rfl]
      rintro e w6 ⟨qAb, qnb, qcb, qAw, qnw, qcw, rfl, _, _, _, _, _, _, b6⟩
      dsimp only
      have bn := b6.new (.cells #[.int .u8 (f2 : Nat), .int .u8 (x2 : Nat), .slice qAb qnb qcb, .slice qAw qnw qcw, .int .u16 (a2 : Nat), .int .u16 (m2 : Nat)] 26)
      have ro := bn.row (row_lt ro) ro
      have rx := bn.row (row_lt rx) rx
      have hb := hb.call bn
      have SB := SB.to bn
      have SW := SW.to bn
      clear bn b6
      obtain ⟨d0, d1, d2, d3, d4, d5⟩ := row6 ro
      obtain ⟨e0, e1, e2, e3, e4, e5⟩ := row6 rx
      go_wp2_with fail
      refine (KS.out _ _ _ _ _ _ _ hb SW SB).mono ?_
      rintro e w7 ⟨rfl, b7⟩
      simp only [beq_self_eq_true, Bool.and_true]
      clear d0 d1 d2 d3 d4 d5 e0 e1 e2 e3 e4 e5 rx ro SB SW
      have hb := hb.call b7
      clear b7
      go_wp2_with (go_at_call 26; refine (awake4_any _).mono ?_; rintro e wa ⟨rfl, ba⟩)
      go_ret
      exact ⟨rfl, hb.call ba⟩
    · rw [if_neg huv]
      rintro e w6 ⟨qAb, qnb, qcb, qAw, qnw, qcw, rfl, _, _, _, _, _, _, b6⟩
      dsimp only [rep0]
      have bn := b6.new (.cells #[.int .u8 0, .int .u8 0, .slice qAb qnb qcb, .slice qAw qnw qcw, .int .u16 0, .int .u16 0] 26)
      have ro := bn.row (row_lt ro) ro
      have rx := bn.row (row_lt rx) rx
      have hb := hb.call bn
      have SB := SB.to bn
      have SW := SW.to bn
      clear bn b6
      obtain ⟨d0, d1, d2, d3, d4, d5⟩ := row6 ro
      obtain ⟨e0, e1, e2, e3, e4, e5⟩ := row6 rx
      have hF : ((u : Int) == (v : Int)) = false := by rw [beq_eq_false_iff_ne]; omega
      clear huv
      go_wp2_with fail
      refine (KS.out _ _ _ _ _ _ _ hb SW SB).mono ?_
      rintro e w7 ⟨rfl, b7⟩
      simp only [beq_self_eq_true, Bool.and_true]
      clear d0 d1 d2 d3 d4 d5 e0 e1 e2 e3 e4 e5 rx ro SB SW
      have hb := hb.call b7
      clear b7
      go_wp2_with (go_at_call 26; refine (awake4_any _).mono ?_; rintro e wa ⟨rfl, ba⟩)
      go_ret
      exact ⟨rfl, hb.call ba⟩
end Go.Proofs.Ytgjcefgdkhfghaa.AskW
