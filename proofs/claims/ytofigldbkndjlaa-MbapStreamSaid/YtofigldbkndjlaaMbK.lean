/- The walk of MbapBack. -/
import Derived.Test.YtofigldbkndjlaaMbJ
set_option linter.unusedVariables false
set_option linter.unusedSimpArgs false
namespace Go.Proofs.Ytofigldbkndjlaa.MbW
open Go.RowKit Go.Proofs.Ytofigldbkndjlaa Go.Proofs.Ytofigldbkndjlaa.Mb
theorem packE_cases (x : Fm) : (packE x = (pack x, 0) ∧ 1 ≤ x.pdu.length ∧ x.pdu.length ≤ 253 ∧ right x = true) ∨ (packE x = ([], 2) ∧ (x.pdu.length < 1 ∨ 253 < x.pdu.length)) := by
  unfold packE
  by_cases h : right x = true
  · have h2 := h
    unfold right at h2
    have h2 := of_decide_eq_true h2
    rw [if_pos h]
    exact Or.inl ⟨rfl, h2.1, h2.2, h⟩
  · have h2 := h
    unfold right at h2
    rw [decide_eq_true_eq] at h2
    rw [if_neg h]
    exact Or.inr ⟨rfl, by omega⟩
theorem parse_cases {xs : List Nat} (h : Bytes xs) : (parse xs = (Mb.read xs, 0) ∧ packE (Mb.read xs) = (xs, 0) ∧ (Mb.read xs).Ok) ∨ parse xs = (fm0, 10) := by
  unfold parse
  split
  · rename_i hw
    obtain ⟨h1, h2⟩ := pack_read h (by omega) hw.2
    exact Or.inl ⟨rfl, by unfold packE; rw [if_pos h2, h1], read_ok h⟩
  · exact Or.inr rfl
theorem parse_pack {x : Fm} (h : right x = true) (ho : x.Ok) : parse (pack x) = (x, 0) := by
  have hw := pack_whole h []
  rw [List.append_nil] at hw
  unfold parse
  rw [if_pos ⟨hw, by rw [pack_len]; omega⟩, read_pack ho]
theorem parse_more {x : Fm} (h : right x = true) : parse (pack x ++ [0]) = (fm0, 10) := by
  have hw := pack_whole h [0]
  unfold parse
  rw [if_neg (fun hh => by rw [hw, List.length_append] at hh; simp at hh)]
theorem parse_less {x : Fm} (h : right x = true) : parse ((pack x).take ((pack x).length - 1)) = (fm0, 10) := by
  have hw := pack_whole h []
  rw [List.append_nil] at hw
  have hl := pack_len x
  have h1 : 1 ≤ x.pdu.length := by unfold right at h; have := of_decide_eq_true h; omega
  obtain ⟨q, hq⟩ : ∃ q, q = (pack x).take ((pack x).length - 1) := ⟨_, rfl⟩
  have hql : q.length = (pack x).length - 1 := by rw [hq, List.length_take]; omega
  have h5 : q[5]?.getD 0 = (pack x)[5]?.getD 0 := by rw [hq, take_at (by omega)]
  rcases whole_cases (pack x) with h0 | ⟨_, _, _, _, e⟩
  · omega
  have hz : whole q = 0 := by
    unfold whole
    rw [if_neg (by omega)]
  rw [← hq]
  unfold parse
  rw [if_neg (by omega)]
set_option maxRecDepth 10000 in
set_option maxHeartbeats 16000000 in
theorem mbapBack_any (tx u : Nat) (C : Option Addr) (k c : Nat) (P : List Nat) (A : Option Addr) (n cb : Nat) (xs : List Nat) (w : World)
    (hx : Sl w w.heap.size C k (bs P)) (ho : Fm.Ok ⟨tx, u, P⟩) (hs : Sl w w.heap.size A n (bs xs)) (hb : Bytes xs) (hcb : n ≤ cb) :
    Calls Try.prog 5 #[.agg #[.int .u16 (tx : Nat), .int .u8 (u : Nat), .slice C k c], .slice A n cb] w fun e w' => e = .returned (.bool true) ∧ Below w.heap.size w w' := by
  by_cases g1 : (300 : Int) < (k : Int)
  · clear hx ho hs hb hcb
    go_enter Try.func5, Try.ntmps5
    go_wp2_with (go_at_call 7; refine (awake5_any _).mono ?_; rintro e wa ⟨rfl, ba⟩)
    go_ret
    exact ⟨rfl, ((Below.refl _ _).new _).call ba⟩
  by_cases g2 : (400 : Int) < (n : Int)
  · clear hx ho hs hb hcb
    go_enter Try.func5, Try.ntmps5
    go_wp2_with (go_at_call 7; refine (awake5_any _).mono ?_; rintro e wa ⟨rfl, ba⟩)
    go_ret
    exact ⟨rfl, ((Below.refl _ _).new _).call ba⟩
  have qk : P.length = k := by simpa using hx.len
  have qn : xs.length = n := by simpa using hs.len
  have KP := Lib.hid (fun Y (b : Below w.heap.size w Y) => parse_any A n cb xs Y (hs.to b) hb hcb (by omega))
  have KX0 := fun Y (b : Below w.heap.size w Y) => pack_any ⟨tx, u, P⟩ C k c Y (hx.to b) ho (by omega)
  have KS := Lib.hid (fun Y (b : Below w.heap.size w Y) A2 n2 c2 (h : Sl Y Y.heap.size A2 n2 (bs xs)) => law6Same_any A A2 n cb n2 c2 Y.heap.size xs xs Y (hs.to b) hb h hb)
  have rx := heap_alloc_new w (.cells #[.int .u16 (tx : Nat), .int .u8 (u : Nat), .slice C k c] 25)
  have B1 := (Below.refl w.heap.size w).new (.cells #[.int .u16 (tx : Nat), .int .u8 (u : Nat), .slice C k c] 25)
  have HSX := Lib.hid hx
  have HO := Lib.hid ho
  have HPK := Lib.hid (packE_cases ⟨tx, u, P⟩)
  have HP1 := Lib.hid (fun h => parse_pack (x := ⟨tx, u, P⟩) h ho)
  have HP2 := Lib.hid (fun h => parse_more (x := ⟨tx, u, P⟩) h)
  have HP3 := Lib.hid (fun h => parse_less (x := ⟨tx, u, P⟩) h)
  have HPL := Lib.hid (show (pack ⟨tx, u, P⟩).length = 7 + k from by rw [pack_len]; show 7 + P.length = _; rw [qk])
  have HPB := Lib.hid (pack_bytes (x := ⟨tx, u, P⟩) ho (by show P.length ≤ 300; omega))
  obtain ⟨K, hK⟩ : ∃ K, K = packE ⟨tx, u, P⟩ := ⟨_, rfl⟩
  obtain ⟨Z, hZ⟩ : ∃ Z, Z = pack ⟨tx, u, P⟩ := ⟨_, rfl⟩
  rw [← hK] at KX0 HPK
  rw [← hZ] at HPK HP1 HP2 HP3 HPL HPB
  have KX := Lib.hid KX0
  have HQK := Lib.hid qk
  have HQN := Lib.hid qn
  have wk : IntKind.i64.wrap (7 + (k : Int)) = ((7 + k : Nat) : Int) := by rw [IntKind.wrap_i64]; omega
  have hpc := parse_cases hb
  clear KX0 hx ho hs hb hcb hK hZ qk
  rcases hpc with ⟨e1, e2, e3⟩ | e1
  · rw [e1] at KP
    have KY := Lib.hid (fun C2 k2 c2 Y (h : Sl Y Y.heap.size C2 k2 (bs (Mb.read xs).pdu)) (hk : k2 ≤ 1000000) => e2 ▸ pack_any (Mb.read xs) C2 k2 c2 Y h e3 hk)
    have hpl : (Mb.read xs).pdu.length ≤ 400 := by show (xs.drop 7).length ≤ 400; rw [List.length_drop]; omega
    clear qn
    obtain ⟨⟨ty, uy, py⟩, hY⟩ : ∃ Y, Y = Mb.read xs := ⟨_, rfl⟩
    rw [← hY] at KP KY hpl
    clear hY e1 e2 e3
    go_enter Try.func5, Try.ntmps5
    go_wp2_with fail
    refine (KP.out _ B1).mono ?_
    rintro e w1 ⟨Cy, ky, cy, rfl, SY, -, b1⟩
    dsimp only at SY ⊢
    have hky : ky ≤ 1000000 := by have := SY.len; rw [bs_length] at this; omega
    have ra := b1.row (row_lt rx) rx
    have hb := B1.call b1
    have SY := SY.to ((Below.refl _ _).new (.cells #[.int .u16 (ty : Nat), .int .u8 (uy : Nat), .slice Cy ky cy] 25))
    have hb := hb.new (.cells #[.int .u16 (ty : Nat), .int .u8 (uy : Nat), .slice Cy ky cy] 25)
    have ra := row_alloc ra (.cells #[.int .u16 (ty : Nat), .int .u8 (uy : Nat), .slice Cy ky cy] 25)
    clear b1 rx B1
    go_wp2_with fail
    refine (KY.out Cy ky cy _ SY hky).mono ?_
    rintro e w2 ⟨v2, rfl, H2⟩
    obtain ⟨A2, c2, rfl, -, S2, -⟩ := H2.slice
    have ra := H2.bel.row (row_lt ra) ra
    have hb := hb.call H2.bel
    clear H2 SY
    dsimp only at S2 ⊢
    rw [HQN.out] at S2 ⊢
    go_wp2_with fail
    refine (KS.out _ hb _ _ _ S2).mono ?_
    rintro e w3 ⟨rfl, rfl⟩
    rw [beq_self_eq_true]
    clear S2
    obtain ⟨d0, d1, d2⟩ := row3 ra
    go_wp2_with (refine wpList_load_row rfl 25 (.tmp 2) rfl w.heap.size rfl 25 #[.int .u16 (tx : Nat), .int .u8 (u : Nat), .slice C k c] (0, 0) _ ra Try.underlying25 rfl (by kernel_rfl) ?_)
    refine (KX.out _ hb).mono ?_
    rintro e w5 ⟨v5, rfl, H5⟩
    have ra := H5.bel.row (row_lt ra) ra
    have hb := hb.call H5.bel
    obtain ⟨d0, d1, d2⟩ := row3 ra
    rcases HPK.out with ⟨hk, k1, k2, k3⟩ | ⟨hk, k1⟩
    · subst hk
      have k1 : 1 ≤ P.length := k1
      have k2 : P.length ≤ 253 := k2
      rw [HQK.out] at k1 k2
      have i1 : (1 : Int) ≤ (k : Int) := by omega
      have i2 : (k : Int) ≤ 253 := by omega
      have HP1 := Lib.hid (HP1.out k3)
      have HP2 := Lib.hid (HP2.out k3)
      have HP3 := Lib.hid (HP3.out k3)
      obtain ⟨A5, c5, rfl, hc5, S5, -⟩ := H5.slice
      dsimp only at hc5 S5 ⊢
      rw [HPL.out] at hc5 S5 HP3 ⊢
      obtain ⟨M, hM⟩ : ∃ M, M = 7 + k := ⟨_, rfl⟩
      have m8 : 8 ≤ M := by omega
      have m300 : M ≤ 300 := by omega
      rw [← hM] at hc5 S5 HP3 wk ⊢
      have wm : IntKind.i64.wrap ((M : Int) - 1) = ((M - 1 : Nat) : Int) := by rw [IntKind.wrap_i64]; omega
      have TM : ((M : Int) != (M : Int)) = false := by rw [bne_eq_false_iff_eq]
      have zm1 : ((M - 1 : Nat) : Int) ≤ (M : Int) := by omega
      have zm2 : ((M - 1 : Nat) : Int) ≤ (c5 : Int) := by omega
      have zm3 : M - 1 ≤ c5 := by omega
      clear hM
      have KC1 := Lib.hid (fun Y (b : Below w5.heap.size w5 Y) => parse_any A5 M c5 Z Y (S5.to b) HPB.out hc5 (by omega))
      have S5t := S5.take (k := M - 1) (by omega)
      rw [bs_take] at S5t
      have KC3 := Lib.hid (fun Y (b : Below w5.heap.size w5 Y) => parse_any A5 (M - 1) c5 (Z.take (M - 1)) Y (S5t.to b) (HPB.out.take _) (by omega) (by omega))
      rw [HP1.out] at KC1
      rw [HP3.out] at KC3
      have S5h := Lib.hid S5
      have sx5 := HSX.out.to hb
      clear H5 S5t k1 k2 k3 HPK KX KP KS
      go_wp2_with fail
      refine (KC1.out _ (Below.refl _ _)).mono ?_
      rintro e w6 ⟨C6, k6, cc6, rfl, S6, -, b6⟩
      dsimp only at S6 ⊢
      have b56 := b6
      have ra := b6.row (row_lt ra) ra
      have sx6 := sx5.to b6
      have b66 := (Below.refl w6.heap.size w6).new (.cells #[.int .u16 (tx : Nat), .int .u8 (u : Nat), .slice C6 k6 cc6] 25)
      have r6 := heap_alloc_new w6 (.cells #[.int .u16 (tx : Nat), .int .u8 (u : Nat), .slice C6 k6 cc6] 25)
      have ra := b66.row (row_lt ra) ra
      have sx6 := sx6.to b66
      have S6 := S6.to b66
      have b56 := b56.call b66
      have r7 := row_alloc r6 (.cells #[.int .u16 (tx : Nat), .int .u8 (u : Nat), .slice C k c] 25)
      obtain ⟨d0, d1, d2⟩ := row3 ra
      obtain ⟨e0, e1, e2⟩ := row3 r7
      have hOk : Oks [⟨tx, u, P⟩] := fun y hy => by
        have : y = ⟨tx, u, P⟩ := by simpa using hy
        rw [this]; exact HO.out
      go_wp2_with fail
      have F1 := (Fr.newAt (P := fun _ => True) (w6.alloc (.cells #[.int .u16 (tx : Nat), .int .u8 (u : Nat), .slice C6 k6 cc6] 25)) ⟨tx, u, P⟩ C k c 25 (w6.heap.size + 1) (World.size_alloc _ _).symm sx6 (fun _ _ _ _ => trivial)).to ((Below.refl _ _).new (.cells #[.int .u16 (tx : Nat), .int .u8 (u : Nat), .slice C6 k6 cc6] 25))
      have F2 := Fr.newAt (P := fun _ => True) ((w6.alloc (.cells #[.int .u16 (tx : Nat), .int .u8 (u : Nat), .slice C6 k6 cc6] 25)).alloc (.cells #[.int .u16 (tx : Nat), .int .u8 (u : Nat), .slice C k c] 25)) ⟨tx, u, P⟩ C6 k6 cc6 25 (w6.heap.size + 1 + 1) (by rw [World.size_alloc, World.size_alloc]) (S6.to ((Below.refl _ _).new _)) (fun _ _ _ _ => trivial)
      refine (same_any _ _ 1 1 1 1 [⟨tx, u, P⟩] [⟨tx, u, P⟩] _ _ _ F1 F2 hOk hOk (by decide)).mono ?_
      rw [decide_eq_true rfl]
      rintro e w7 ⟨rfl, b7⟩
      have b7 := Below.call (((Below.refl _ _).new (.cells #[.int .u16 (tx : Nat), .int .u8 (u : Nat), .slice C k c] 25)).new (.cells #[.int .u16 (tx : Nat), .int .u8 (u : Nat), .slice C6 k6 cc6] 25)) b7
      have ra := b7.row (row_lt ra) ra
      have b57 := b56.call b7
      obtain ⟨d0, d1, d2⟩ := row3 ra
      have S7 := S5h.out.to b57
      clear F1 F2 hOk b56 b66 r6 r7 sx6 S6 b7 b6 e0 e1 e2 sx5
      go_wp2_with (first
        | (at_builtin; refine wpList_app _root_.Go.Proofs.Ytofigldbkndjlaa.MbW.u8 rfl (.tmp 93) (.tmp 94) rfl (Has.made0 (Below.refl _ _) _) rfl (S7.to ((Below.refl _ _).new _)) rfl (bs_one _) (by omega) (by simp only [maxLen]; omega) ?_; intro v8 w8 H8 _ _)
        | (at_builtin; refine wpList_app _root_.Go.Proofs.Ytofigldbkndjlaa.MbW.u8 rfl (.tmp 95) (.tmp 96) rfl (H8.alloc _) rfl (Sl.new1 _ _ _) rfl (one1 _ _) (by omega) (by simp only [maxLen]; omega) ?_; intro v9 w9 H9 _ _; obtain ⟨A9, c9, rfl, hc9, S9, -⟩ := H9.slice; have b9 := H9.bel; clear H8 H9))
      have S9 : Sl w9 w9.heap.size A9 (M + 1) (bs (Z ++ [0])) := by
        rw [← bs_append]
        rw [Nat.zero_add] at S9
        exact S9
      rw [Nat.zero_add] at hc9
      have hz0 : Bytes (Z ++ [0]) := fun c hc => by
        rcases List.mem_append.1 hc with h | h
        · exact HPB.out c h
        · have : c = 0 := by simpa using h
          omega
      refine (parse_any A9 (M + 1) c9 (Z ++ [0]) _ S9 hz0 hc9 (by omega)).mono ?_
      rw [HP2.out]
      rintro e w10 ⟨C10, k10, cc10, rfl, -, -, b10⟩
      have b510 := (b57.call b9).call b10
      clear S9 hz0 S7 b9 b10
      dsimp only
      go_wp2_with fail
      refine (KC3.out _ (b510.new _)).mono ?_
      rintro e w11 ⟨C11, k11, cc11, rfl, -, -, b11⟩
      have b511 := ((b510.new _).call b11)
      dsimp only
      go_wp2_with (go_at_call 7; refine (awake5_any _).mono ?_; rintro e wa ⟨rfl, ba⟩)
      go_ret
      exact ⟨rfl, hb.call ((b511.new _).call ba)⟩
    · subst hk
      have hlt : (k : Int) < 1 ∨ (253 : Int) < (k : Int) := by
        have k1 : P.length < 1 ∨ 253 < P.length := k1
        rw [HQK.out] at k1; omega
      clear k1
      rcases hlt with i1 | i2
      · go_wp2_with (go_at_call 7; refine (awake5_any _).mono ?_; rintro e wa ⟨rfl, ba⟩)
        go_ret
        exact ⟨rfl, hb.call ba⟩
      · have i1 : (1 : Int) ≤ (k : Int) := by omega
        go_wp2_with (go_at_call 7; refine (awake5_any _).mono ?_; rintro e wa ⟨rfl, ba⟩)
        go_ret
        exact ⟨rfl, hb.call ba⟩
  · rw [e1] at KP
    clear e1 qn
    go_enter Try.func5, Try.ntmps5
    go_wp2_with fail
    refine (KP.out _ B1).mono ?_
    rintro e w1 ⟨Cy, ky, cy, rfl, -, -, b1⟩
    dsimp only
    have ra := row_alloc (b1.row (row_lt rx) rx) (.cells #[.int .u16 ((fm0.tx : Nat) : Int), .int .u8 ((fm0.unit : Nat) : Int), .slice Cy ky cy] 25)
    have hb := (B1.call b1).new (.cells #[.int .u16 ((fm0.tx : Nat) : Int), .int .u8 ((fm0.unit : Nat) : Int), .slice Cy ky cy] 25)
    clear b1 rx B1
    go_wp2_with (refine wpList_load_row rfl 25 (.tmp 2) rfl w.heap.size rfl 25 #[.int .u16 (tx : Nat), .int .u8 (u : Nat), .slice C k c] (0, 0) _ ra Try.underlying25 rfl (by kernel_rfl) ?_)
    refine (KX.out _ hb).mono ?_
    rintro e w5 ⟨v5, rfl, H5⟩
    have ra := H5.bel.row (row_lt ra) ra
    have hb := hb.call H5.bel
    obtain ⟨d0, d1, d2⟩ := row3 ra
    rcases HPK.out with ⟨hk, k1, k2, k3⟩ | ⟨hk, k1⟩
    · subst hk
      have k1 : 1 ≤ P.length := k1
      have k2 : P.length ≤ 253 := k2
      rw [HQK.out] at k1 k2
      have i1 : (1 : Int) ≤ (k : Int) := by omega
      have i2 : (k : Int) ≤ 253 := by omega
      have HP1 := Lib.hid (HP1.out k3)
      have HP2 := Lib.hid (HP2.out k3)
      have HP3 := Lib.hid (HP3.out k3)
      obtain ⟨A5, c5, rfl, hc5, S5, -⟩ := H5.slice
      dsimp only at hc5 S5 ⊢
      rw [HPL.out] at hc5 S5 HP3 ⊢
      obtain ⟨M, hM⟩ : ∃ M, M = 7 + k := ⟨_, rfl⟩
      have m8 : 8 ≤ M := by omega
      have m300 : M ≤ 300 := by omega
      rw [← hM] at hc5 S5 HP3 wk ⊢
      have wm : IntKind.i64.wrap ((M : Int) - 1) = ((M - 1 : Nat) : Int) := by rw [IntKind.wrap_i64]; omega
      have TM : ((M : Int) != (M : Int)) = false := by rw [bne_eq_false_iff_eq]
      have zm1 : ((M - 1 : Nat) : Int) ≤ (M : Int) := by omega
      have zm2 : ((M - 1 : Nat) : Int) ≤ (c5 : Int) := by omega
      have zm3 : M - 1 ≤ c5 := by omega
      clear hM
      have KC1 := Lib.hid (fun Y (b : Below w5.heap.size w5 Y) => parse_any A5 M c5 Z Y (S5.to b) HPB.out hc5 (by omega))
      have S5t := S5.take (k := M - 1) (by omega)
      rw [bs_take] at S5t
      have KC3 := Lib.hid (fun Y (b : Below w5.heap.size w5 Y) => parse_any A5 (M - 1) c5 (Z.take (M - 1)) Y (S5t.to b) (HPB.out.take _) (by omega) (by omega))
      rw [HP1.out] at KC1
      rw [HP3.out] at KC3
      have S5h := Lib.hid S5
      have sx5 := HSX.out.to hb
      clear H5 S5t k1 k2 k3 HPK KX KP KS
      go_wp2_with fail
      refine (KC1.out _ (Below.refl _ _)).mono ?_
      rintro e w6 ⟨C6, k6, cc6, rfl, S6, -, b6⟩
      dsimp only at S6 ⊢
      have b56 := b6
      have ra := b6.row (row_lt ra) ra
      have sx6 := sx5.to b6
      have b66 := (Below.refl w6.heap.size w6).new (.cells #[.int .u16 (tx : Nat), .int .u8 (u : Nat), .slice C6 k6 cc6] 25)
      have r6 := heap_alloc_new w6 (.cells #[.int .u16 (tx : Nat), .int .u8 (u : Nat), .slice C6 k6 cc6] 25)
      have ra := b66.row (row_lt ra) ra
      have sx6 := sx6.to b66
      have S6 := S6.to b66
      have b56 := b56.call b66
      have r7 := row_alloc r6 (.cells #[.int .u16 (tx : Nat), .int .u8 (u : Nat), .slice C k c] 25)
      obtain ⟨d0, d1, d2⟩ := row3 ra
      obtain ⟨e0, e1, e2⟩ := row3 r7
      have hOk : Oks [⟨tx, u, P⟩] := fun y hy => by
        have : y = ⟨tx, u, P⟩ := by simpa using hy
        rw [this]; exact HO.out
      go_wp2_with fail
      have F1 := (Fr.newAt (P := fun _ => True) (w6.alloc (.cells #[.int .u16 (tx : Nat), .int .u8 (u : Nat), .slice C6 k6 cc6] 25)) ⟨tx, u, P⟩ C k c 25 (w6.heap.size + 1) (World.size_alloc _ _).symm sx6 (fun _ _ _ _ => trivial)).to ((Below.refl _ _).new (.cells #[.int .u16 (tx : Nat), .int .u8 (u : Nat), .slice C6 k6 cc6] 25))
      have F2 := Fr.newAt (P := fun _ => True) ((w6.alloc (.cells #[.int .u16 (tx : Nat), .int .u8 (u : Nat), .slice C6 k6 cc6] 25)).alloc (.cells #[.int .u16 (tx : Nat), .int .u8 (u : Nat), .slice C k c] 25)) ⟨tx, u, P⟩ C6 k6 cc6 25 (w6.heap.size + 1 + 1) (by rw [World.size_alloc, World.size_alloc]) (S6.to ((Below.refl _ _).new _)) (fun _ _ _ _ => trivial)
      refine (same_any _ _ 1 1 1 1 [⟨tx, u, P⟩] [⟨tx, u, P⟩] _ _ _ F1 F2 hOk hOk (by decide)).mono ?_
      rw [decide_eq_true rfl]
      rintro e w7 ⟨rfl, b7⟩
      have b7 := Below.call (((Below.refl _ _).new (.cells #[.int .u16 (tx : Nat), .int .u8 (u : Nat), .slice C k c] 25)).new (.cells #[.int .u16 (tx : Nat), .int .u8 (u : Nat), .slice C6 k6 cc6] 25)) b7
      have ra := b7.row (row_lt ra) ra
      have b57 := b56.call b7
      obtain ⟨d0, d1, d2⟩ := row3 ra
      have S7 := S5h.out.to b57
      clear F1 F2 hOk b56 b66 r6 r7 sx6 S6 b7 b6 e0 e1 e2 sx5
      go_wp2_with (first
        | (at_builtin; refine wpList_app _root_.Go.Proofs.Ytofigldbkndjlaa.MbW.u8 rfl (.tmp 93) (.tmp 94) rfl (Has.made0 (Below.refl _ _) _) rfl (S7.to ((Below.refl _ _).new _)) rfl (bs_one _) (by omega) (by simp only [maxLen]; omega) ?_; intro v8 w8 H8 _ _)
        | (at_builtin; refine wpList_app _root_.Go.Proofs.Ytofigldbkndjlaa.MbW.u8 rfl (.tmp 95) (.tmp 96) rfl (H8.alloc _) rfl (Sl.new1 _ _ _) rfl (one1 _ _) (by omega) (by simp only [maxLen]; omega) ?_; intro v9 w9 H9 _ _; obtain ⟨A9, c9, rfl, hc9, S9, -⟩ := H9.slice; have b9 := H9.bel; clear H8 H9))
      have S9 : Sl w9 w9.heap.size A9 (M + 1) (bs (Z ++ [0])) := by
        rw [← bs_append]
        rw [Nat.zero_add] at S9
        exact S9
      rw [Nat.zero_add] at hc9
      have hz0 : Bytes (Z ++ [0]) := fun c hc => by
        rcases List.mem_append.1 hc with h | h
        · exact HPB.out c h
        · have : c = 0 := by simpa using h
          omega
      refine (parse_any A9 (M + 1) c9 (Z ++ [0]) _ S9 hz0 hc9 (by omega)).mono ?_
      rw [HP2.out]
      rintro e w10 ⟨C10, k10, cc10, rfl, -, -, b10⟩
      have b510 := (b57.call b9).call b10
      clear S9 hz0 S7 b9 b10
      dsimp only
      go_wp2_with fail
      refine (KC3.out _ (b510.new _)).mono ?_
      rintro e w11 ⟨C11, k11, cc11, rfl, -, -, b11⟩
      have b511 := ((b510.new _).call b11)
      dsimp only
      go_wp2_with (go_at_call 7; refine (awake5_any _).mono ?_; rintro e wa ⟨rfl, ba⟩)
      go_ret
      exact ⟨rfl, hb.call ((b511.new _).call ba)⟩
    · subst hk
      have hlt : (k : Int) < 1 ∨ (253 : Int) < (k : Int) := by
        have k1 : P.length < 1 ∨ 253 < P.length := k1
        rw [HQK.out] at k1; omega
      clear k1
      rcases hlt with i1 | i2
      · go_wp2_with (go_at_call 7; refine (awake5_any _).mono ?_; rintro e wa ⟨rfl, ba⟩)
        go_ret
        exact ⟨rfl, hb.call ba⟩
      · have i1 : (1 : Int) ≤ (k : Int) := by omega
        go_wp2_with (go_at_call 7; refine (awake5_any _).mono ?_; rintro e wa ⟨rfl, ba⟩)
        go_ret
        exact ⟨rfl, hb.call ba⟩
end Go.Proofs.Ytofigldbkndjlaa.MbW
