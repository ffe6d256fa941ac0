/- The walk of WordsBits. -/
import Derived.Test.YtcckplpfgpagmaaWdF
import Derived.Test.YtcckplpfgpagmaaWdOne
set_option linter.unusedVariables false
set_option linter.unusedSimpArgs false
namespace Go.Proofs.Ytcckplpfgpagmaa.WdW
open Go.RowKit Go.Proofs.Ytcckplpfgpagmaa Go.Proofs.Ytcckplpfgpagmaa.Wd Go.Proofs.Ytcckplpfgpagmaa.Ask
theorem _root_.Go.Proofs.Ytcckplpfgpagmaa.Has.slW {w0 w : World} {e : TypeId} {A : Option Addr} {n c m : Nat} {xs : List Value} (h : Has w0 w e (.slice A n c) m xs) : Sl w w.heap.size A m xs := by
  obtain ⟨A', c', e, _, S, _⟩ := h.slice
  injection e with e1 e2 e3
  subst e1
  exact S
theorem pow_u8 {m : Nat} (hm : m < 8) : (2 : Int) ^ m % 256 = ((2 ^ m : Nat) : Int) := by
  obtain rfl | rfl | rfl | rfl | rfl | rfl | rfl | rfl : m = 0 ∨ m = 1 ∨ m = 2 ∨ m = 3 ∨ m = 4 ∨ m = 5 ∨ m = 6 ∨ m = 7 := by omega
  all_goals rfl
theorem or_pow (y m : Nat) (hy : y < 256) (hm : m < 8) : bits .or .u8 (y : Int) ((2 : Int) ^ m % 256) = ((y ||| 2 ^ m : Nat) : Int) := by
  rw [pow_u8 hm]
  exact u8_or_nat y (2 ^ m) hy (Nat.pow_lt_pow_of_lt (a := 2) (n := m) (m := 8) (by omega) hm)
theorem bits_neg_any (A : Option Addr) (n c : Nat) (w : World) :
    Calls Try.prog 11 #[.slice A n c, .int .i64 (-1)] w fun e w' => e = .returned (.slice none 0 0) ∧ w = w' := by
  go_enter Try.func11, Try.ntmps11
  go_wp2_with fail
  go_ret
  exact ⟨rfl, rfl⟩
set_option maxRecDepth 10000 in
set_option maxHeartbeats 4000000 in
theorem wordsBits_any (many at' beh : Nat) (w : World) (h1 : many < 256) (h2 : at' < 256) (h3 : beh < 256) :
    Calls Try.prog 5 #[.int .u8 (many : Nat), .int .u8 (at' : Nat), .int .u8 (beh : Nat)] w fun e w' => e = .returned (.bool true) ∧ Below w.heap.size w w' := by
  have hr1 : Int.tmod (many : Int) 200 = ((many % 200 : Nat) : Int) := by rw [Int.tmod_eq_emod_of_nonneg (by omega)]; omega
  have hr8 : IntKind.u8.wrap ((many % 200 : Nat) : Int) = ((many % 200 : Nat) : Int) := by rw [IntKind.wrap_u8]; omega
  have hr200 : many % 200 < 200 := Nat.mod_lt _ (by decide)
  obtain ⟨r, er⟩ : ∃ r, r = many % 200 := ⟨_, rfl⟩
  rw [← er] at hr1 hr8 hr200
  have hr64 := w64 (show r ≤ 9223372036854775807 by omega)
  obtain ⟨n, en⟩ : ∃ n, n = 1 + r := ⟨_, rfl⟩
  have wn : IntKind.i64.wrap (1 + (r : Int)) = (n : Int) := by rw [IntKind.wrap_i64]; omega
  have hn1 : 1 ≤ n := by omega
  have hn2 : n ≤ 200 := by omega
  have hn0 : ((n : Int) == 0) = false := by rw [beq_eq_false_iff_ne]; omega
  have hn0' : ¬ (n : Int) = 0 := by omega
  have ha64 := w64 (show at' ≤ 9223372036854775807 by omega)
  have hk0 : Int.tmod (at' : Int) (n : Int) = ((at' % n : Nat) : Int) := by rw [Int.tmod_eq_emod_of_nonneg (by omega)]; exact (Int.natCast_emod _ _).symm
  have hkn : at' % n < n := Nat.mod_lt _ (by omega)
  obtain ⟨k, ek⟩ : ∃ k, k = at' % n := ⟨_, rfl⟩
  rw [← ek] at hk0 hkn
  have hk64 := w64 (show k ≤ 9223372036854775807 by omega)
  have zk0 : (0 : Int) ≤ (k : Int) := by omega
  have zk1 : (k : Int) < (n : Int) := by omega
  have hdv : Int.tdiv ((n : Int) + 7) 8 = (((n + 7) / 8 : Nat) : Int) := by rw [Int.tdiv_eq_ediv_of_nonneg (by omega)]; omega
  have wn7 : IntKind.i64.wrap ((n : Int) + 7) = (n : Int) + 7 := by rw [IntKind.wrap_i64]; omega
  obtain ⟨N, eN⟩ : ∃ N, N = (n + 7) / 8 := ⟨_, rfl⟩
  rw [← eN] at hdv
  have hN64 := w64 (show N ≤ 9223372036854775807 by omega)
  have HNN := Lib.hid eN
  have hN8 : n ≤ 8 * N := by omega
  have hN9 : 8 * N ≤ n + 7 := by omega
  have hk8 : Int.tdiv (k : Int) 8 = ((k / 8 : Nat) : Int) := by rw [Int.tdiv_eq_ediv_of_nonneg (by omega)]; omega
  have hk9 : Int.tmod (k : Int) 8 = ((k % 8 : Nat) : Int) := by rw [Int.tmod_eq_emod_of_nonneg (by omega)]; omega
  have hm8 : k % 8 < 8 := by omega
  have HPG := Lib.hid (fun i (hi : i < N) => pack_one_get (n := n) (k := k) (i := i) hkn (by omega))
  obtain ⟨q, eq⟩ : ∃ q, q = k / 8 := ⟨_, rfl⟩
  obtain ⟨m, em⟩ : ∃ m, m = k % 8 := ⟨_, rfl⟩
  rw [← eq] at hk8 HPG
  rw [← em] at hk9 hm8 HPG
  have hq64 := w64 (show q ≤ 9223372036854775807 by omega)
  have hm64 := w64 (show m ≤ 9223372036854775807 by omega)
  have zm0 : (0 : Int) ≤ (m : Int) := by omega
  have ET := pow_u8 hm8
  have hT : 2 ^ m ≤ 2 ^ 7 := Nat.pow_le_pow_right (by decide) (by omega)
  obtain ⟨T, eT⟩ : ∃ T, T = 2 ^ m := ⟨_, rfl⟩
  rw [← eT] at ET HPG hT
  obtain ⟨i0, hi0, hz0, hs0, hb0⟩ := info_parts (P := Try.prog) (e := 4) (z := .bool false) (size := 1) (bytes := 1) (by kernel_rfl)
  have eL : ((Array.replicate n (Value.bool false)).setIfInBounds k (.bool true)).toList = bl (one n k) := by
    rw [Array.toList_setIfInBounds, Array.toList_replicate]
    unfold bl one
    rw [List.map_set, List.map_replicate]
  obtain ⟨W2, hW2⟩ : ∃ W2, W2 = w.alloc (.cells ((Array.replicate n (Value.bool false)).setIfInBounds k (.bool true)) 4) := ⟨_, rfl⟩
  have S2 : Sl W2 W2.heap.size (some ⟨w.heap.size, 0, none⟩) n (bl (one n k)) := by
    have h := Sl.new w ((Array.replicate n (Value.bool false)).setIfInBounds k (.bool true)) 4 W2.heap.size (by rw [hW2]; simp)
    rw [eL, Array.size_setIfInBounds, Array.size_replicate] at h
    rw [hW2] at h ⊢
    exact h
  have B2 : Below w.heap.size w W2 := by rw [hW2]; exact (Below.refl _ _).new _
  have HP := Lib.hid (pack_bytes (one n k))
  have HPL := Lib.hid (show (pack (one n k)).length = N by rw [pack_length, one_length, eN])
  clear er en ek eq em eT eL eN h1 h2
  go_enter Try.func5, Try.ntmps5
  go_wp2_with (at_make; refine wpList_makeN Try.underlying23 hi0 hz0 hs0 rfl rfl _ _ rfl n rfl rfl (by rw [hb0]; omega) (by omega) ?_)
  rw [← hW2]
  clear hW2
  refine (packBits_any _ n n (one n k) _ S2 (by omega)).mono ?_
  rintro e w3 ⟨v3, rfl, H10⟩
  have bw := B2.call H10.bel
  have HB2 := Lib.hid B2
  rw [← HNN.out] at H10
  obtain ⟨A3, c3, rfl, hc3, S3, -⟩ := H10.slice
  clear S2 B2
  have HS3 := Lib.hid S3
  go_wp2_with fail
  go_loopw [11, 12, 13, 40] (fun s11 s12 s13 iv wr => ∃ j : Nat, j ≤ N ∧ iv = .int .i64 ((j : Nat) : Int) ∧ Below w3.heap.size w3 wr) (fun _ _ _ iv _ => N - (intOf iv).toNat)
  case atStart => exact ⟨0, by omega, rfl, Below.refl _ _⟩
  case round =>
    obtain ⟨j, hj, rfl, bb⟩ := hrel
    by_cases hjN : (j : Int) < (N : Int)
    · obtain ⟨b, o, eA, hbl, d⟩ := (HS3.out.to bb).2 (by omega)
      subst eA
      have g1 := (d j (by omega)).trans (bs_get (by rw [HPL.out]; omega))
      rw [HPG.out j (by omega)] at g1
      have zj0 : (0 : Int) ≤ (j : Int) := by omega
      clear d
      by_cases hjq : j = q
      · rw [if_pos hjq] at g1
        have hJ : ((j : Int) == (q : Int)) = true := by rw [beq_iff_eq]; omega
        have hTT : ((T : Int) != (T : Int)) = false := by simp
        have HJQ := Lib.hid hjq
        clear hjq
        go_wp2_with fail
        go_roundw
        case rel => exact ⟨j + 1, by omega, by go_num, bb⟩
        case measure => simp [intOf]; omega
      · rw [if_neg hjq] at g1
        have hJ : ((j : Int) == (q : Int)) = false := by rw [beq_eq_false_iff_ne]; omega
        clear hjq
        go_wp2_with fail
        go_roundw
        case rel => exact ⟨j + 1, by omega, by go_num, bb⟩
        case measure => simp [intOf]; omega
    · have H10 := H10.below bb
      have S3 := HS3.out.to bb
      have bw := bw.call bb
      have HBB := Lib.hid bb
      have wf1 : IntKind.i64.wrap (8 * (N : Int)) = 8 * (N : Int) := by rw [IntKind.wrap_i64]; omega
      obtain ⟨f, ef⟩ : ∃ f, f = 8 * N - n := ⟨_, rfl⟩
      have wf2 : IntKind.i64.wrap (8 * (N : Int) - (n : Int)) = (f : Int) := by rw [IntKind.wrap_i64]; omega
      have hf7 : f ≤ 7 := by omega
      have hfn : n + f = 8 * N := by omega
      have HFN := Lib.hid hfn
      clear ef hfn HPG ET hT bb
      by_cases hf : (0 : Int) < (f : Int)
      · have hg0 : Int.tmod (beh : Int) (f : Int) = ((beh % f : Nat) : Int) := by rw [Int.tmod_eq_emod_of_nonneg (by omega)]; exact (Int.natCast_emod _ _).symm
        have hgf : beh % f < f := Nat.mod_lt _ (by omega)
        have hb64 := w64 (show beh ≤ 9223372036854775807 by omega)
        have hf0 : ¬ (f : Int) = 0 := by omega
        obtain ⟨g, eg⟩ : ∃ g, g = beh % f := ⟨_, rfl⟩
        rw [← eg] at hg0 hgf
        have hg64 := w64 (show g ≤ 9223372036854775807 by omega)
        obtain ⟨t, et⟩ : ∃ t, t = n + g := ⟨_, rfl⟩
        have wt : IntKind.i64.wrap ((n : Int) + (g : Int)) = (t : Int) := by rw [IntKind.wrap_i64]; omega
        have hnt : n ≤ t := by omega
        have ht8 : t < 8 * N := by have := HFN.out; omega
        have wt1 : IntKind.i64.wrap ((t : Int) + 1) = ((t + 1 : Nat) : Int) := by rw [IntKind.wrap_i64]; omega
        have htq : Int.tdiv (t : Int) 8 = ((t / 8 : Nat) : Int) := by rw [Int.tdiv_eq_ediv_of_nonneg (by omega)]; omega
        have htm : Int.tmod (t : Int) 8 = ((t % 8 : Nat) : Int) := by rw [Int.tmod_eq_emod_of_nonneg (by omega)]; omega
        have htm8 : t % 8 < 8 := by omega
        have htqN : t / 8 < N := by omega
        have HPB := Lib.hid (pack_behind (n := n) (k := k) (t := t) (N := N) hnt hkn HNN.out ht8)
        have HBB1 := Lib.hid (bits_behind (n := n) (k := k) (t := t) (N := N) hnt hkn HNN.out ht8)
        have HYG := Lib.hid (show (bs (pack (one n k)))[t / 8]? = some (.int .u8 ((octet (one n k) (t / 8) : Nat) : Int)) from by
          rw [bs_get (by rw [HPL.out]; exact htqN), pack_get (by rw [one_length, ← HNN.out]; exact htqN)])
        have hyl := octet_lt (one n k) (t / 8)
        obtain ⟨u, eu⟩ : ∃ u, u = t / 8 := ⟨_, rfl⟩
        obtain ⟨m2, em2⟩ : ∃ m2, m2 = t % 8 := ⟨_, rfl⟩
        rw [← eu] at htq htqN HYG HPB hyl
        rw [← em2] at htm htm8 HPB
        obtain ⟨y, ey⟩ : ∃ y, y = octet (one n k) u := ⟨_, rfl⟩
        rw [← ey] at HYG HPB hyl
        have hu64 := w64 (show u ≤ 9223372036854775807 by omega)
        have hm264 := w64 (show m2 ≤ 9223372036854775807 by omega)
        have zu0 : (0 : Int) ≤ (u : Int) := by omega
        have zu1 : (u : Int) < (N : Int) := by omega
        have zm2 : (0 : Int) ≤ (m2 : Int) := by omega
        clear eg et eu em2 ey
        go_wp2_with (at_builtin; refine wpList_app _root_.Go.Proofs.Ytcckplpfgpagmaa.WdW.u8 rfl (.tmp 63) (.tmp 64) rfl (Has.made0 (Below.refl _ _) _) rfl (S3.to ((Below.refl _ _).new _)) rfl (bs_one _) (by omega) (by simp only [maxLen]; omega) ?_; intro v15 w15 H15 g15 o15)
        rw [Nat.zero_add, List.nil_append] at H15
        obtain ⟨gg, cap, rfl, hge, hgl⟩ := H15.own.form (by omega)
        have gc := H15.cellAt (j := u) htqN HYG.out
        have fz := H15.freeAt u
        go_region
        go_wp2_with fail
        have HQ : Has wr (w15.setCell ⟨gg, u, none⟩ (.int .u8 (bits .or .u8 (y : Int) (2 ^ m2 % 256)))).drew 5 (.slice (some ⟨gg, 0, none⟩) N cap) N (bs (pack (behind n k t))) := by
          have h := (H15.setAt (j := u) htqN (.int .u8 (bits .or .u8 (y : Int) (2 ^ m2 % 256)))).drew
          rw [or_pow y m2 hyl htm8, HPB.out] at h
          rw [or_pow y m2 hyl htm8]
          exact h
        obtain ⟨W16, hW16⟩ : ∃ W16, W16 = (w15.setCell ⟨gg, u, none⟩ (.int .u8 (bits .or .u8 (y : Int) (2 ^ m2 % 256)))).drew := ⟨_, rfl⟩
        rw [← hW16] at HQ ⊢
        have H10 := H10.below HQ.bel
        clear hW16 H15 gc fz g15 o15 HPB HYG
        refine (bits_any _ N cap (pack (behind n k t)) n _ HQ.slW (pack_bytes _) (by omega) (by omega) (by omega)).mono ?_
        rw [HBB1.out.1]
        rintro e w17 ⟨v17, rfl, H17⟩
        have H10 := H10.below H17.bel
        have HQ := HQ.below H17.bel
        obtain ⟨A17, c17, rfl, -, -, -⟩ := H17.slice
        dsimp only [List.length_nil]
        clear H17
        go_wp2_with fail
        refine (bits_any _ N cap (pack (behind n k t)) ((t + 1 : Nat) : Int) _ HQ.slW (pack_bytes _) (by omega) (by omega) (by omega)).mono ?_
        rintro e w18 ⟨v18, rfl, H18⟩
        rw [HBB1.out.2] at H18
        have H10 := H10.below H18.bel
        obtain ⟨A18, c18, rfl, -, -, -⟩ := H18.slice
        clear H18 HQ
        go_wp2_with (at_builtin; refine wpList_app _root_.Go.Proofs.Ytcckplpfgpagmaa.WdW.u8 rfl (.tmp 97) (.tmp 98) rfl (H10.alloc _) rfl (Sl.new1 _ _ _) rfl (one1 _ _) (by omega) (by simp only [maxLen]; omega) ?_; intro v20 w20 H20 g20 o20)
        have bw := HB2.out.call H20.bel
        obtain ⟨A20, c20, rfl, -, S20, -⟩ := H20.slice
        rw [show bs (pack (one n k)) ++ [Value.int .u8 0] = bs (pack (one n k) ++ [0]) by simp [bs]] at S20
        refine (bits_any A20 (N + 1) c20 (pack (one n k) ++ [0]) n _ S20 (fun y hy => (List.mem_append.1 hy).elim (HP.out y) (fun h => by rw [List.mem_singleton.1 h]; decide)) (by omega) (by omega) (by omega)).mono ?_
        rw [bits_count (b := pack (one n k) ++ [0]) (n := n) (by rw [List.length_append, HPL.out, ← HNN.out]; simp)]
        rintro e w21 ⟨v21, rfl, H21⟩
        have bw := bw.call H21.bel
        obtain ⟨A21, c21, rfl, -, -, -⟩ := H21.slice
        dsimp only [List.length_nil]
        clear H20 S20 H21 g20 o20
        go_wp2_with fail
        refine (bits_neg_any A3 N c3 _).mono ?_
        rintro e w22 ⟨rfl, rfl⟩
        go_wp2_with (go_at_call 7; refine (awake6_any _).mono ?_; rintro e wa ⟨rfl, ba⟩)
        go_ret
        exact ⟨rfl, bw.call ba⟩
      · have hfd : decide ((0 : Int) < (f : Int)) = false := decide_eq_false hf
        go_wp2_with (at_builtin; refine wpList_app _root_.Go.Proofs.Ytcckplpfgpagmaa.WdW.u8 rfl (.tmp 97) (.tmp 98) rfl (H10.alloc _) rfl (Sl.new1 _ _ _) rfl (one1 _ _) (by omega) (by simp only [maxLen]; omega) ?_; intro v20 w20 H20 g20 o20)
        have bw := HB2.out.call H20.bel
        obtain ⟨A20, c20, rfl, -, S20, -⟩ := H20.slice
        rw [show bs (pack (one n k)) ++ [Value.int .u8 0] = bs (pack (one n k) ++ [0]) by simp [bs]] at S20
        refine (bits_any A20 (N + 1) c20 (pack (one n k) ++ [0]) n _ S20 (fun y hy => (List.mem_append.1 hy).elim (HP.out y) (fun h => by rw [List.mem_singleton.1 h]; decide)) (by omega) (by omega) (by omega)).mono ?_
        rw [bits_count (b := pack (one n k) ++ [0]) (n := n) (by rw [List.length_append, HPL.out, ← HNN.out]; simp)]
        rintro e w21 ⟨v21, rfl, H21⟩
        have bw := bw.call H21.bel
        obtain ⟨A21, c21, rfl, -, -, -⟩ := H21.slice
        dsimp only [List.length_nil]
        clear H20 S20 H21 g20 o20
        go_wp2_with fail
        refine (bits_neg_any A3 N c3 _).mono ?_
        rintro e w22 ⟨rfl, rfl⟩
        go_wp2_with (go_at_call 7; refine (awake6_any _).mono ?_; rintro e wa ⟨rfl, ba⟩)
        go_ret
        exact ⟨rfl, bw.call ba⟩
end Go.Proofs.Ytcckplpfgpagmaa.WdW
