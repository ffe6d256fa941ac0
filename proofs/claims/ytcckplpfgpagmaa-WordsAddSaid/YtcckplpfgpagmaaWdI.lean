/- The walk of WordsAdd. -/
import Derived.Test.YtcckplpfgpagmaaWdF
import Derived.Laws.BitsAllLaws
set_option linter.unusedVariables false
set_option linter.unusedSimpArgs false
namespace Go.Proofs.Ytcckplpfgpagmaa.WdW
open Go.RowKit Go.Proofs.Ytcckplpfgpagmaa Go.Proofs.Ytcckplpfgpagmaa.Wd Go.Proofs.Ytcckplpfgpagmaa.Ask
theorem xor_top {u : Nat} (h : u < 32768) : u ^^^ 32768 = u + 32768 := by
  have e : u ^^^ 32768 = u ||| 2 ^ 15 := by
    apply Nat.eq_of_testBit_eq
    intro i
    rw [Nat.testBit_xor, Nat.testBit_or, show (32768 : Nat) = 2 ^ 15 from rfl, Nat.testBit_two_pow]
    by_cases hi : 15 = i
    · subst hi
      rw [Nat.testBit_lt_two_pow (x := u) (i := 15) (by omega)]
      simp
    · simp [hi]
  rw [e, or_add (m := 15) (by omega)]
/-- A register with its highest bit turned. -/
def flip (v : Nat) : Nat := if v < 32768 then v + 32768 else v - 32768
theorem xor_flip {v : Nat} (h : v < 65536) : v ^^^ 32768 = flip v := by
  unfold flip
  split
  · exact xor_top (by omega)
  · obtain ⟨u, rfl⟩ : ∃ u, v = u + 32768 := ⟨v - 32768, by omega⟩
    rw [← xor_top (u := u) (by omega), Nat.xor_assoc, Nat.xor_self, Nat.xor_zero, xor_top (by omega)]
    omega
theorem signed_flip (v : Nat) : signed v = (flip v : Int) - 32768 := by
  unfold signed flip
  split <;> omega
theorem flip_lt {v : Nat} (h : v < 65536) : flip v < 65536 := by
  unfold flip; split <;> omega
set_option maxRecDepth 10000 in
set_option maxHeartbeats 4000000 in
theorem wordsAdd_any (A0 : Option Addr) (n0 c0 : Nat) (L : List Nat) (A1 : Option Addr) (n1 c1 : Nat) (R : List Nat) (x y u v : Nat) (w : World)
    (h0 : Sl w w.heap.size A0 n0 (ws L)) (hL : ∀ x ∈ L, x < 65536) (h1 : Sl w w.heap.size A1 n1 (ws R)) (hR : ∀ x ∈ R, x < 65536) (hx : x < 4294967296) (hy : y < 4294967296) (hu : u < 65536) (hv : v < 65536) :
    Calls Try.prog 6 #[.slice A0 n0 c0, .slice A1 n1 c1, .int .u32 (x : Nat), .int .u32 (y : Nat), .int .u16 (u : Nat), .int .u16 (v : Nat)] w fun e w' => e = .returned (.bool true) ∧ Below w.heap.size w w' := by
  by_cases g0 : (100 : Int) < (n0 : Int)
  · clear h0 h1 hL hR
    go_enter Try.func6, Try.ntmps6
    go_wp2_with (go_at_call 7; refine (awake6_any _).mono ?_; rintro e wa ⟨rfl, ba⟩)
    go_ret
    exact ⟨rfl, ba⟩
  have g0d : decide ((100 : Int) < (n0 : Int)) = false := decide_eq_false g0
  by_cases g1 : (100 : Int) < (n1 : Int)
  · clear h0 h1 hL hR
    go_enter Try.func6, Try.ntmps6
    go_wp2_with (go_at_call 7; refine (awake6_any _).mono ?_; rintro e wa ⟨rfl, ba⟩)
    go_ret
    exact ⟨rfl, ba⟩
  have g1d : decide ((100 : Int) < (n1 : Int)) = false := decide_eq_false g1
  have HL := Lib.hid hL
  have HR := Lib.hid hR
  have HLR := Lib.hid (show ∀ x ∈ L ++ R, x < 65536 from fun x hx => (List.mem_append.1 hx).elim (hL x) (hR x))
  have HXP := Lib.hid (show x = 65536 * (x / 65536) + x % 65536 ∧ x % 65536 < 65536 from by omega)
  have HYP := Lib.hid (show y = 65536 * (y / 65536) + y % 65536 ∧ y % 65536 < 65536 from by omega)
  have xu : bits .xor .u16 (u : Int) 32768 = ((u ^^^ 32768 : Nat) : Int) := u16_xor_nat u 32768 hu (by omega)
  have xv : bits .xor .u16 (v : Int) 32768 = ((v ^^^ 32768 : Nat) : Int) := u16_xor_nat v 32768 hv (by omega)
  rw [xor_flip hu] at xu
  rw [xor_flip hv] at xv
  have fu6 := flip_lt hu
  have fv6 := flip_lt hv
  have hSU := signed_flip u
  have hSV := signed_flip v
  obtain ⟨fu, efu⟩ : ∃ fu, fu = flip u := ⟨_, rfl⟩
  obtain ⟨fv, efv⟩ : ∃ fv, fv = flip v := ⟨_, rfl⟩
  obtain ⟨su, esu⟩ : ∃ su, su = signed u := ⟨_, rfl⟩
  obtain ⟨sv, esv⟩ : ∃ sv, sv = signed v := ⟨_, rfl⟩
  rw [← efu] at xu fu6 hSU
  rw [← efv] at xv fv6 hSV
  rw [← esu] at hSU
  rw [← esv] at hSV
  have HSU := Lib.hid esu
  have HSV := Lib.hid esv
  have su1 : -32768 ≤ su := by omega
  have su2 : su ≤ 32767 := by omega
  have su1d : decide (-32768 ≤ su) = true := decide_eq_true su1
  have su2d : decide (su ≤ 32767) = true := decide_eq_true su2
  have HSU3 := Lib.hid hSU
  have HSV3 := Lib.hid hSV
  clear hL hR efu efv esu esv hSU hSV
  go_enter Try.func6, Try.ntmps6
  go_wp2_with (first
    | (at_builtin; refine wpList_app _root_.Go.Proofs.Ytcckplpfgpagmaa.WdW.u16 rfl (.tmp 27) (.tmp 28) rfl (Has.made0 (Below.refl _ _) _) rfl (h0.to ((Below.refl _ _).new _)) rfl (ws_one _) (by omega) (by simp only [maxLen]; omega) ?_; intro v1 w1 H1 _ _)
    | (at_builtin; refine wpList_app _root_.Go.Proofs.Ytcckplpfgpagmaa.WdW.u16 rfl (.tmp 29) (.tmp 30) rfl H1 rfl (h1.to H1.bel) rfl (ws_one _) (by omega) (by simp only [maxLen]; omega) ?_; intro v2 w2 H2 _ _; obtain ⟨A2, c2, rfl, -, S2, -⟩ := H2.slice; have b2 := H2.bel; clear H1 H2))
  rw [List.nil_append, ws_append, Nat.zero_add] at S2
  have bw := b2
  have h0 := h0.to b2
  have h1 := h1.to b2
  clear b2
  refine (packRegs_any A2 _ c2 (L ++ R) _ S2 HLR.out (by omega)).mono ?_
  rintro e w3 ⟨v3, rfl, H3⟩
  have h0 := h0.to H3.bel
  have h1 := h1.to H3.bel
  have bw := bw.call H3.bel
  obtain ⟨A3, c3, rfl, -, S3, -⟩ := H3.slice
  clear S2 H3
  have HS3 := Lib.hid S3
  have HH0 := Lib.hid h0
  have HH1 := Lib.hid h1
  have HBW := Lib.hid bw
  clear S3 h0 h1 bw
  go_wp2_with fail
  have HE := Has.made0 (Below.refl w3.heap.size w3) 5
  refine (packRegs_any A0 n0 c0 L _ (HH0.out.to HE.bel) HL.out (by omega)).mono ?_
  rintro e w4 ⟨v4, rfl, H4⟩
  have HE := HE.below H4.bel
  obtain ⟨A4, c4, rfl, -, S4, -⟩ := H4.slice
  clear H4
  go_wp2_with (at_builtin; refine wpList_app _root_.Go.Proofs.Ytcckplpfgpagmaa.WdW.u8 rfl (.tmp 34) (.tmp 36) rfl HE rfl S4 rfl (bs_one _) (by omega) (by simp only [maxLen]; omega) ?_; intro v5 w5 H5 g5 o5)
  clear HE S4 g5 o5
  rw [Nat.zero_add, List.nil_append] at H5
  refine (packRegs_any A1 n1 c1 R _ (HH1.out.to H5.bel) HR.out (by omega)).mono ?_
  rintro e w6 ⟨v6, rfl, H6⟩
  have H5 := H5.below H6.bel
  obtain ⟨A6, c6, rfl, -, S6, -⟩ := H6.slice
  clear H6
  go_wp2_with (at_builtin; refine wpList_app _root_.Go.Proofs.Ytcckplpfgpagmaa.WdW.u8 rfl (.tmp 37) (.tmp 39) rfl H5 rfl S6 rfl (bs_one _) (by omega) (by simp only [maxLen]; omega) ?_; intro v7 w7 H7 g7 o7; obtain ⟨A7, c7, rfl, -, S7, -⟩ := H7.slice)
  clear H5 S6 g7
  rw [bs_append, ← twos_append] at S7
  have S3 := HS3.out.to H7.bel
  have bw := HBW.out.call H7.bel
  refine (law6Same_any A3 A7 _ c3 _ c7 _ (twos (L ++ R)) (twos (L ++ R)) _ S3 (twos_bytes HLR.out) S7 (twos_bytes HLR.out)).mono ?_
  rw [beq_self_eq_true]
  rintro e w8 ⟨rfl, rfl⟩
  clear S3 S7 H7 HH0 HH1 HBW o7
  go_wp2_with fail
  refine (parts_any x hx _).mono ?_
  rintro e w9 ⟨rfl, rfl⟩
  obtain ⟨p, hp⟩ : ∃ p, p = x / 65536 := ⟨_, rfl⟩
  obtain ⟨q, hq⟩ : ∃ q, q = x % 65536 := ⟨_, rfl⟩
  rw [← hp, ← hq] at HXP ⊢
  clear hp hq
  go_wp2_with fail
  refine (parts_any y hy _).mono ?_
  rintro e w10 ⟨rfl, rfl⟩
  obtain ⟨r, hr⟩ : ∃ r, r = y / 65536 := ⟨_, rfl⟩
  obtain ⟨s, hs⟩ : ∃ s, s = y % 65536 := ⟨_, rfl⟩
  rw [← hr, ← hs] at HYP ⊢
  clear hr hs
  obtain ⟨ex, ex2⟩ := HXP.out
  obtain ⟨ey, ey2⟩ := HYP.out
  have esu := HSU3.out
  have esv := HSV3.out
  by_cases hpr : p < r
  · have d1 : decide (x < y) = true := decide_eq_true (by omega)
    have d2 : decide (p < r) = true := decide_eq_true hpr
    clear ex ex2 ey ey2
    by_cases hc : su < sv
    · have hc1 : decide (su < sv) = true := decide_eq_true hc
      have hc2 : decide (fu < fv) = true := decide_eq_true (by omega)
      have hc3 : fu < fv := by omega
      clear esu esv
      go_wp2_with fail
      refine (signed_any u hu _).mono ?_
      rintro e w20 ⟨rfl, rfl⟩
      rw [← HSU.out]
      go_wp2_with fail
      refine (signed_any v hv _).mono ?_
      rintro e w21 ⟨rfl, rfl⟩
      rw [← HSV.out]
      go_wp2_with fail
      refine (signed_any u hu _).mono ?_
      rintro e w22 ⟨rfl, rfl⟩
      rw [← HSU.out]
      go_wp2_with fail
      refine (signed_any u hu _).mono ?_
      rintro e w23 ⟨rfl, rfl⟩
      rw [← HSU.out]
      go_wp2_with (go_at_call 7; refine (awake6_any _).mono ?_; rintro e wa ⟨rfl, ba⟩)
      go_ret
      exact ⟨rfl, bw.call ba⟩
    · have hc1 : decide (su < sv) = false := decide_eq_false hc
      have hc3 : ¬ fu < fv := by omega
      have hc2 : decide (fu < fv) = false := decide_eq_false hc3
      clear esu esv
      go_wp2_with fail
      refine (signed_any u hu _).mono ?_
      rintro e w20 ⟨rfl, rfl⟩
      rw [← HSU.out]
      go_wp2_with fail
      refine (signed_any v hv _).mono ?_
      rintro e w21 ⟨rfl, rfl⟩
      rw [← HSV.out]
      go_wp2_with fail
      refine (signed_any u hu _).mono ?_
      rintro e w22 ⟨rfl, rfl⟩
      rw [← HSU.out]
      go_wp2_with fail
      refine (signed_any u hu _).mono ?_
      rintro e w23 ⟨rfl, rfl⟩
      rw [← HSU.out]
      go_wp2_with (go_at_call 7; refine (awake6_any _).mono ?_; rintro e wa ⟨rfl, ba⟩)
      go_ret
      exact ⟨rfl, bw.call ba⟩
  have d2 : decide (p < r) = false := decide_eq_false hpr
  by_cases hpe : p = r
  · have d3 : ((p : Int) == (r : Int)) = true := by rw [beq_iff_eq]; omega
    by_cases hqs : q < s
    · have d1 : decide (x < y) = true := decide_eq_true (by omega)
      have d4 : decide (q < s) = true := decide_eq_true hqs
      clear ex ex2 ey ey2 hpe
      by_cases hc : su < sv
      · have hc1 : decide (su < sv) = true := decide_eq_true hc
        have hc2 : decide (fu < fv) = true := decide_eq_true (by omega)
        have hc3 : fu < fv := by omega
        clear esu esv
        go_wp2_with fail
        refine (signed_any u hu _).mono ?_
        rintro e w20 ⟨rfl, rfl⟩
        rw [← HSU.out]
        go_wp2_with fail
        refine (signed_any v hv _).mono ?_
        rintro e w21 ⟨rfl, rfl⟩
        rw [← HSV.out]
        go_wp2_with fail
        refine (signed_any u hu _).mono ?_
        rintro e w22 ⟨rfl, rfl⟩
        rw [← HSU.out]
        go_wp2_with fail
        refine (signed_any u hu _).mono ?_
        rintro e w23 ⟨rfl, rfl⟩
        rw [← HSU.out]
        go_wp2_with (go_at_call 7; refine (awake6_any _).mono ?_; rintro e wa ⟨rfl, ba⟩)
        go_ret
        exact ⟨rfl, bw.call ba⟩
      · have hc1 : decide (su < sv) = false := decide_eq_false hc
        have hc3 : ¬ fu < fv := by omega
        have hc2 : decide (fu < fv) = false := decide_eq_false hc3
        clear esu esv
        go_wp2_with fail
        refine (signed_any u hu _).mono ?_
        rintro e w20 ⟨rfl, rfl⟩
        rw [← HSU.out]
        go_wp2_with fail
        refine (signed_any v hv _).mono ?_
        rintro e w21 ⟨rfl, rfl⟩
        rw [← HSV.out]
        go_wp2_with fail
        refine (signed_any u hu _).mono ?_
        rintro e w22 ⟨rfl, rfl⟩
        rw [← HSU.out]
        go_wp2_with fail
        refine (signed_any u hu _).mono ?_
        rintro e w23 ⟨rfl, rfl⟩
        rw [← HSU.out]
        go_wp2_with (go_at_call 7; refine (awake6_any _).mono ?_; rintro e wa ⟨rfl, ba⟩)
        go_ret
        exact ⟨rfl, bw.call ba⟩
    · have d1 : decide (x < y) = false := decide_eq_false (by omega)
      have d4 : decide (q < s) = false := decide_eq_false hqs
      clear ex ex2 ey ey2 hpe
      by_cases hc : su < sv
      · have hc1 : decide (su < sv) = true := decide_eq_true hc
        have hc2 : decide (fu < fv) = true := decide_eq_true (by omega)
        have hc3 : fu < fv := by omega
        clear esu esv
        go_wp2_with fail
        refine (signed_any u hu _).mono ?_
        rintro e w20 ⟨rfl, rfl⟩
        rw [← HSU.out]
        go_wp2_with fail
        refine (signed_any v hv _).mono ?_
        rintro e w21 ⟨rfl, rfl⟩
        rw [← HSV.out]
        go_wp2_with fail
        refine (signed_any u hu _).mono ?_
        rintro e w22 ⟨rfl, rfl⟩
        rw [← HSU.out]
        go_wp2_with fail
        refine (signed_any u hu _).mono ?_
        rintro e w23 ⟨rfl, rfl⟩
        rw [← HSU.out]
        go_wp2_with (go_at_call 7; refine (awake6_any _).mono ?_; rintro e wa ⟨rfl, ba⟩)
        go_ret
        exact ⟨rfl, bw.call ba⟩
      · have hc1 : decide (su < sv) = false := decide_eq_false hc
        have hc3 : ¬ fu < fv := by omega
        have hc2 : decide (fu < fv) = false := decide_eq_false hc3
        clear esu esv
        go_wp2_with fail
        refine (signed_any u hu _).mono ?_
        rintro e w20 ⟨rfl, rfl⟩
        rw [← HSU.out]
        go_wp2_with fail
        refine (signed_any v hv _).mono ?_
        rintro e w21 ⟨rfl, rfl⟩
        rw [← HSV.out]
        go_wp2_with fail
        refine (signed_any u hu _).mono ?_
        rintro e w22 ⟨rfl, rfl⟩
        rw [← HSU.out]
        go_wp2_with fail
        refine (signed_any u hu _).mono ?_
        rintro e w23 ⟨rfl, rfl⟩
        rw [← HSU.out]
        go_wp2_with (go_at_call 7; refine (awake6_any _).mono ?_; rintro e wa ⟨rfl, ba⟩)
        go_ret
        exact ⟨rfl, bw.call ba⟩
  have d1 : decide (x < y) = false := decide_eq_false (by omega)
  have d3 : ((p : Int) == (r : Int)) = false := by rw [beq_eq_false_iff_ne]; omega
  clear ex ex2 ey ey2 hpe
  by_cases hc : su < sv
  · have hc1 : decide (su < sv) = true := decide_eq_true hc
    have hc2 : decide (fu < fv) = true := decide_eq_true (by omega)
    have hc3 : fu < fv := by omega
    clear esu esv
    go_wp2_with fail
    refine (signed_any u hu _).mono ?_
    rintro e w20 ⟨rfl, rfl⟩
    rw [← HSU.out]
    go_wp2_with fail
    refine (signed_any v hv _).mono ?_
    rintro e w21 ⟨rfl, rfl⟩
    rw [← HSV.out]
    go_wp2_with fail
    refine (signed_any u hu _).mono ?_
    rintro e w22 ⟨rfl, rfl⟩
    rw [← HSU.out]
    go_wp2_with fail
    refine (signed_any u hu _).mono ?_
    rintro e w23 ⟨rfl, rfl⟩
    rw [← HSU.out]
    go_wp2_with (go_at_call 7; refine (awake6_any _).mono ?_; rintro e wa ⟨rfl, ba⟩)
    go_ret
    exact ⟨rfl, bw.call ba⟩
  · have hc1 : decide (su < sv) = false := decide_eq_false hc
    have hc3 : ¬ fu < fv := by omega
    have hc2 : decide (fu < fv) = false := decide_eq_false hc3
    clear esu esv
    go_wp2_with fail
    refine (signed_any u hu _).mono ?_
    rintro e w20 ⟨rfl, rfl⟩
    rw [← HSU.out]
    go_wp2_with fail
    refine (signed_any v hv _).mono ?_
    rintro e w21 ⟨rfl, rfl⟩
    rw [← HSV.out]
    go_wp2_with fail
    refine (signed_any u hu _).mono ?_
    rintro e w22 ⟨rfl, rfl⟩
    rw [← HSU.out]
    go_wp2_with fail
    refine (signed_any u hu _).mono ?_
    rintro e w23 ⟨rfl, rfl⟩
    rw [← HSU.out]
    go_wp2_with (go_at_call 7; refine (awake6_any _).mono ?_; rintro e wa ⟨rfl, ba⟩)
    go_ret
    exact ⟨rfl, bw.call ba⟩
end Go.Proofs.Ytcckplpfgpagmaa.WdW
