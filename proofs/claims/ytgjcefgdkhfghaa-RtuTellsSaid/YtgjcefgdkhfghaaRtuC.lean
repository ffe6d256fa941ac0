/- The walks of saucierref04.Bytes, Parse, Ask, Reply. -/
import Derived.Test.YtgjcefgdkhfghaaRtuB
import Derived.Test.YtgjcefgdkhfghaaRepW7
set_option linter.unusedVariables false
set_option linter.unusedSimpArgs false
namespace Go.Proofs.Ytgjcefgdkhfghaa.AskW
open Go.RowKit Go.Proofs.Ytgjcefgdkhfghaa Go.Proofs.Ytgjcefgdkhfghaa.Ask
theorem rtuRB_any (u : Nat) (A : Option Addr) (n cap : Nat) (l : List Nat) (w : World) (hu : u < 256) (hs : Sl w w.heap.size A n (bs l)) (hl : Bytes l) (hn : n ≤ 1000000) :
    Calls Try.prog 28 #[.int .u8 (u : Nat), .slice A n cap] w (CrcW.RetRowErr w 5 (rtuB u l)) := by
  have hlen : l.length = n := by simpa using hs.len
  obtain ⟨r, hr⟩ : ∃ r, r = rtuB u l := ⟨_, rfl⟩
  rw [← hr]
  have HB : ¬ ((1 ≤ u ∧ u ≤ 247) ∧ 1 ≤ n ∧ n ≤ 253) → Hid (r = ([], 2)) := fun h => Lib.hid (by rw [hr]; unfold rtuB; rw [if_neg]; unfold isU; rw [decide_eq_true_iff, hlen]; exact h)
  by_cases c : (u : Int) < 1
  · have HF := HB (by omega)
    clear HB hlen hr hs hl hn
    go_enter Try.func28, Try.ntmps28
    go_wp2_with fail
    go_ret2
    rw [HF.out]
    exact ⟨_, rfl, Has.nil_ (Below.refl _ _) _⟩
  have cc877 := c
  clear c
  by_cases c : (247 : Int) < (u : Int)
  · have HF := HB (by omega)
    clear HB hlen hr hs hl hn
    go_enter Try.func28, Try.ntmps28
    go_wp2_with fail
    go_ret2
    rw [HF.out]
    exact ⟨_, rfl, Has.nil_ (Below.refl _ _) _⟩
  have cc1184 := c
  clear c
  by_cases c : (n : Int) < 1
  · have HF := HB (by omega)
    clear HB hlen hr hs hl hn
    go_enter Try.func28, Try.ntmps28
    go_wp2_with fail
    go_ret2
    rw [HF.out]
    exact ⟨_, rfl, Has.nil_ (Below.refl _ _) _⟩
  have cc1502 := c
  clear c
  by_cases c : (253 : Int) < (n : Int)
  · have HF := HB (by omega)
    clear HB hlen hr hs hl hn
    go_enter Try.func28, Try.ntmps28
    go_wp2_with fail
    go_ret2
    rw [HF.out]
    exact ⟨_, rfl, Has.nil_ (Below.refl _ _) _⟩
  have cc1810 := c
  clear c
  have HF := Lib.hid (show r = (CrcW.put (u :: l), 0) from by rw [hr]; unfold rtuB; rw [if_pos]; unfold isU; rw [decide_eq_true_iff]; omega)
  have hul : Bytes (u :: l) := fun c hc => by
    rcases List.mem_cons.1 hc with rfl | h
    · exact hu
    · exact hl c h
  have HL := Lib.hid hlen
  have HS := Lib.hid hs
  have HUL := Lib.hid hul
  have hn3 : n ≤ 300 := by omega
  clear HB hlen hr hs hul hl
  go_enter Try.func28, Try.ntmps28
  go_wp2_with (at_builtin; refine wpList_app CrcW.u8 rfl (.tmp 23) (.tmp 24) rfl (first_own w u) rfl (HS.out.to ((Below.refl _ _).new _)) rfl (bs_one l) (by omega) (by simp only [maxLen]; omega) ?_; intro v2 w2 H2 _ _; obtain ⟨A2, c2, rfl, hc2, S2, _⟩ := H2.slice; have B2 := H2.bel; clear H2)
  rw [bs_append] at S2
  refine (CrcW.refPut_any A2 (1 + n) c2 (u :: l) w2 S2 HUL.out (by omega)).mono ?_
  rintro e w3 ⟨v3, rfl, H3⟩
  go_wp2_with fail
  go_ret2
  rw [HF.out]
  refine ⟨_, rfl, ?_⟩
  have := H3.weaken B2
  rw [CrcW.put_length, List.length_cons, HL.out, show n + 1 + 2 = 1 + n + 2 by omega]
  exact this
set_option maxHeartbeats 4000000 in
theorem rtuRP_any (A : Option Addr) (n cap : Nat) (l : List Nat) (w : World) (hs : Sl w w.heap.size A n (bs l)) (hl : Bytes l) (hn : n ≤ 1000000) (hc : n ≤ cap) :
    Calls Try.prog 30 #[.slice A n cap] w (RetUnit w (rtuP l)) := by
  have hlen : l.length = n := by simpa using hs.len
  obtain ⟨r, hr⟩ : ∃ r, r = rtuP l := ⟨_, rfl⟩
  rw [← hr]
  by_cases h1 : 4 ≤ n ∧ n ≤ 256
  case neg =>
    have HF := Lib.hid (show r = ((0, []), 10) from by rw [hr]; unfold rtuP; rw [if_pos (by omega)])
    by_cases h3 : (n : Int) < 4
    · clear hlen hr h1 hs hl hn
      go_enter Try.func30, Try.ntmps30
      go_wp2_with fail
      go_ret3
      rw [HF.out]
      exact RetUnit.bad _ (Below.refl _ _)
    · have h4 : (256 : Int) < (n : Int) := by omega
      clear hlen hr h1 hs hl hn
      go_enter Try.func30, Try.ntmps30
      go_wp2_with fail
      go_ret3
      rw [HF.out]
      exact RetUnit.bad _ (Below.refl _ _)
  have h3 : ¬ (n : Int) < 4 := by omega
  have h4 : ¬ (256 : Int) < (n : Int) := by omega
  have KC := Lib.hid (CrcW.refCut_any A n cap l w hs hl (by omega) hc)
  by_cases h5 : Crc.sum (l.take (l.length - 2)) = l[l.length - 2]?.getD 0 + 256 * l[l.length - 1]?.getD 0
  case neg =>
    have HF := Lib.hid (show r = ((0, []), 11) from by rw [hr]; unfold rtuP; rw [if_neg (by omega), if_neg h5])
    have hcf : CrcW.cutF l = ([], 11) := by unfold CrcW.cutF; rw [if_neg (by omega), if_neg h5]
    rw [hcf] at KC
    clear hlen hr h1 hs hl hn h5 hcf
    go_enter Try.func30, Try.ntmps30
    go_wp2_with fail
    refine KC.out.mono ?_
    rintro e w1 ⟨v, rfl, H⟩
    have B1 := H.bel
    clear H
    go_wp2_with fail
    go_ret3
    rw [HF.out]
    exact RetUnit.bad _ B1
  have hcf : CrcW.cutF l = (l.take (l.length - 2), 0) := by unfold CrcW.cutF; rw [if_neg (by omega), if_pos h5]
  obtain ⟨y, hy⟩ : ∃ y, y = l.take (l.length - 2) := ⟨_, rfl⟩
  have hylen : y.length = n - 2 := by rw [hy, List.length_take]; omega
  have hy0 : y[0]?.getD 0 = l[0]?.getD 0 := by rw [hy, List.getElem?_take, if_pos (by omega)]
  have hyb : y[0]?.getD 0 < 256 := by rw [hy0]; exact hl.at 0
  have HF : Hid (r = if isU (y[0]?.getD 0) = true then ((y[0]?.getD 0, y.drop 1), 0) else ((0, []), 10)) := by
    refine Lib.hid ?_
    rw [hr]; unfold rtuP; rw [if_neg (by omega), if_pos h5, hy0, hy]
  rw [hcf, ← hy] at KC
  have HY := Lib.hid hylen
  obtain ⟨Y1, hY1⟩ : ∃ Y1, Y1 = y.drop 1 := ⟨_, rfl⟩
  obtain ⟨M, hM⟩ : ∃ M, M = y.length := ⟨_, rfl⟩
  have HYD := Lib.hid hY1
  have HM := Lib.hid hM
  have HM2 : 2 ≤ M := by omega
  have HM3 : M ≤ 300 := by omega
  rw [← hY1] at HF
  clear hlen hr h1 hs hl h5 hcf hy hylen hy0 hY1 hM
  go_enter Try.func30, Try.ntmps30
  go_wp2_with fail
  refine KC.out.mono ?_
  rintro e w1 ⟨v, rfl, H⟩
  dsimp only at H ⊢
  rw [← HM.out] at H
  obtain ⟨A1, c1, rfl, hc1, S1, O1⟩ := H.slice
  have B1 := H.bel
  clear H
  obtain ⟨b, o, rfl, hb, hcell⟩ := S1.2 (by omega)
  have hbw : w.heap.size ≤ b := O1 b (by rfl)
  have g0 := (hcell 0 (by omega)).trans (bs_get (by have := HM.out; omega))
  rw [Nat.add_zero] at g0
  have SD := S1.drop (k := 1) (cap := M + 3) (by omega) (by omega)
  rw [if_neg (by omega), bs_drop, ← HYD.out] at SD
  have SD : Sl w1 w1.heap.size (some ⟨b, o + 1, none⟩) (M - 1) (bs Y1) := SD
  clear O1 hcell S1
  obtain ⟨x, hx⟩ : ∃ x, x = y[0]?.getD 0 := ⟨_, rfl⟩
  rw [← hx] at HF hyb g0
  clear hx
  have z0 : (0 : Int) < (M : Int) := by omega
  have z0n : 0 < M := by omega
  have z1 : (1 : Int) ≤ (M : Int) := by omega
  have z1c : (M : Int) ≤ (c1 : Int) := by omega
  have z1d : ¬ c1 = 1 := by omega
  by_cases x1 : (x : Int) < 1
  · have HF2 := Lib.hid (show r = ((0, []), 10) from by rw [HF.out, if_neg]; unfold isU; rw [decide_eq_true_iff]; omega)
    clear SD HF
    go_wp2_with fail
    go_ret3
    rw [HF2.out]
    exact RetUnit.bad _ B1
  by_cases x2 : (247 : Int) < (x : Int)
  · have HF2 := Lib.hid (show r = ((0, []), 10) from by rw [HF.out, if_neg]; unfold isU; rw [decide_eq_true_iff]; omega)
    clear SD HF
    go_wp2_with fail
    go_ret3
    rw [HF2.out]
    exact RetUnit.bad _ B1
  have HF2 := Lib.hid (show r = ((x, Y1), 0) from by rw [HF.out, if_pos]; unfold isU; rw [decide_eq_true_iff]; omega)
  have e1 : Hid (Y1.length = M - 1) := Lib.hid (by simpa using SD.len)
  have HSD := Lib.hid SD
  clear SD HF
  go_wp2_with fail
  go_quiet (fail)
  go_wp2_with fail
  go_ret3
  rw [HF2.out]
  refine ⟨some ⟨b, o + 1, none⟩, c1 - 1, ?_, ?_, ?_, ?_, B1.drewN nq⟩
  · dsimp only; rw [e1.out]; rfl
  · dsimp only; rw [e1.out]; exact HSD.out
  · dsimp only; rw [e1.out]; omega
  · intro b' o' h; injection h with h; injection h with h _; omega
set_option maxHeartbeats 4000000 in
theorem rtuRA_any (u : Nat) (f a m t : Nat) (Aw : Option Addr) (nw cw : Nat) (Ab : Option Addr) (nb cb : Nat) (W : List Nat) (B : List Bool) (w : World) (hu : u < 256)
    (hW : Sl w w.heap.size Aw nw (ws W)) (hB : Sl w w.heap.size Ab nb (bl B)) (hwf : Req.Wf ⟨f, a, m, t, W, B⟩) (hsm : W.length ≤ 200 ∧ B.length ≤ 2100) :
    Calls Try.prog 32 #[.int .u8 (u : Nat), .agg #[.int .u8 f, .int .u16 a, .int .u16 m, .int .u16 t, .slice Aw nw cw, .slice Ab nb cb]] w (CrcW.RetRowErr w 5 (rtuA u ⟨f, a, m, t, W, B⟩)) := by
  have KB := Lib.hid (fun Y (b : Below w.heap.size w Y) => refBytes_any f a m t Aw nw cw Ab nb cb W B Y (hW.to b) (hB.to b) hwf)
  have hb0 := (Below.refl _ w).new (.cells #[.int .u8 f, .int .u16 a, .int .u16 m, .int .u16 t, .slice Aw nw cw, .slice Ab nb cb] 28)
  obtain ⟨q, hq⟩ : ∃ q, q = (⟨f, a, m, t, W, B⟩ : Req) := ⟨_, rfl⟩
  rw [← hq] at KB hwf ⊢
  obtain ⟨r, hr⟩ : ∃ r, r = rtuA u q := ⟨_, rfl⟩
  rw [← hr]
  by_cases h1 : right q = true
  · have HF := Lib.hid (show r = rtuB u (bytes q) from by rw [hr]; unfold rtuA; rw [if_pos h1])
    have he : bytesE q = (bytes q, 0) := by unfold bytesE; rw [if_pos h1]
    have hlen := (bytes_len h1).2
    have hby := bytes_lt q hwf (by rw [hq]; dsimp only; omega)
    rw [he] at KB
    obtain ⟨Z, hZ⟩ : ∃ Z, Z = bytes q := ⟨_, rfl⟩
    rw [← hZ] at KB HF hlen hby
    have KR := Lib.hid (fun A n c Y h => rtuRB_any u A n c Z Y hu h hby)
    clear hq hr h1 he hZ hwf hW hB hsm
    go_enter Try.func32, Try.ntmps32
    go_wp2_with fail
    refine (KB.out _ hb0).mono ?_
    rintro e w1 ⟨v, rfl, H⟩
    obtain ⟨A1, c1, rfl, _, S1, _⟩ := H.slice
    have B1 := hb0.call H.bel
    clear H
    go_wp2_with fail
    refine (KR.out _ _ _ _ S1 (by show Z.length ≤ 1000000; omega)).mono ?_
    rintro e w2 ⟨v2, rfl, H2⟩
    have H3 := H2.weaken B1
    clear H2
    go_wp2_with fail
    go_ret2
    rw [HF.out]
    exact ⟨_, rfl, H3⟩
  · have HF := Lib.hid (show r = ([], 12) from by rw [hr]; unfold rtuA; rw [if_neg h1])
    have he : bytesE q = ([], 12) := by unfold bytesE; rw [if_neg h1]
    rw [he] at KB
    clear hq hr h1 he hwf hW hB hsm
    go_enter Try.func32, Try.ntmps32
    go_wp2_with fail
    refine (KB.out _ hb0).mono ?_
    rintro e w1 ⟨v, rfl, H⟩
    have B1 := hb0.call H.bel
    clear H
    go_wp2_with fail
    go_ret2
    rw [HF.out]
    exact ⟨_, rfl, Has.nil_ B1 _⟩
set_option maxHeartbeats 8000000 in
theorem rtuRR_any (u : Nat) (A : Option Addr) (n c : Nat) (xs : List Nat) (w : World) (hs : Sl w w.heap.size A n (bs xs)) (hx : Bytes xs) (hn : n ≤ 1000000) (hc : n ≤ c) :
    Calls Try.prog 34 #[.int .u8 (u : Nat), .slice A n c] w (RetRepTag w (rtuR u xs).1 .i64 (rtuR u xs).2) := by
  have KP := Lib.hid (fun Y (b : Below w.heap.size w Y) => rtuRP_any A n c xs Y (hs.to b) hx hn hc)
  have hb0 := (Below.refl _ w).new (.cells #[.int .u8 0, .int .u8 0, .slice none 0 0, .slice none 0 0, .int .u16 0, .int .u16 0] 26)
  have HRZ := Lib.hid (heap_alloc_new w (.cells #[.int .u8 0, .int .u8 0, .slice none 0 0, .slice none 0 0, .int .u16 0, .int .u16 0] 26))
  obtain ⟨r, hr⟩ : ∃ r, r = rtuR u xs := ⟨_, rfl⟩
  rw [← hr]
  rcases rtuP_cases xs with ⟨h0, hle, _⟩ | ⟨h0, hE⟩
  · have hby := (rtuP_bytes hx).1
    obtain ⟨p, hp⟩ : ∃ p, p = rtuP xs := ⟨_, rfl⟩
    by_cases hu : (rtuP xs).1.1 = u
    · have HF0 := show r = rparse (rtuP xs).1.2 from by rw [hr]; unfold rtuR; rw [if_pos h0, if_pos hu]
      rw [← hp] at h0 hle hby hu KP HF0
      obtain ⟨⟨p1, p2⟩, p3⟩ := p
      dsimp only at h0 hle hby hu HF0
      subst h0 hu
      have KR := Lib.hid (fun A2 c2 Y hs2 hc2 => ref3Parse_any A2 p2.length c2 p2 Y hs2 hby (by omega) hc2)
      have HF := Lib.hid HF0
      clear hr hp hs hx hn hc hle hby HF0
      go_enter Try.func34, Try.ntmps34
      go_wp2_with fail
      refine (KP.out _ hb0).mono ?_
      rintro e w1 ⟨A1, c1, rfl, S1, hc1, O1, b1⟩
      have rz := b1.row (by simp) HRZ.out
      have B1 := hb0.call b1
      clear b1 O1
      dsimp only at S1 hc1 ⊢
      go_wp2_with fail
      refine (KR.out _ _ _ S1 hc1).mono ?_
      rintro e w2 ⟨pAb, pnb, pcb, pAw, pnw, pcw, rfl, SB, SW, hcb, hcw, oB, oW, b2⟩
      have hlt : w.heap.size < w1.heap.size := row_lt rz
      have rz := b2.row (row_lt rz) rz
      have B2 := B1.call b2
      clear b2
      rw [← HF.out] at SB SW ⊢
      obtain ⟨⟨y1, y2, y3, y4, y5, y6⟩, T⟩ := r
      dsimp only at SB SW ⊢
      go_wp2_with (refine wpList_store_grown rfl 26 (.tmp 4) _ rfl w.heap.size #[.int .u8 (y1 : Nat), .int .u8 (y2 : Nat), .slice pAb pnb pcb, .slice pAw pnw pcw, .int .u16 (y5 : Nat), .int .u16 (y6 : Nat)] rfl rfl 26 _ rz (by kernel_rfl) rfl (by simp [Value.oneCell']) ?_; intro w9 h9 g9 s9)
      refine bodyPost_row_tmp rfl w.heap.size 26 #[.int .u8 (y1 : Nat), .int .u8 (y2 : Nat), .slice pAb pnb pcb, .slice pAw pnw pcw, .int .u16 (y5 : Nat), .int .u16 (y6 : Nat)] (0, 0) _ (.int .i64 T) rfl h9 Try.underlying26 rfl (by kernel_rfl) rfl rfl ?_
      exact ⟨pAb, pnb, pcb, pAw, pnw, pcw, rfl, SB.grown g9 (fun b o h e => by have := oB b o h; injection e with e; omega), SW.grown g9 (fun b o h e => by have := oW b o h; injection e with e; omega), hcb, hcw, (fun b o h => by have := oB b o h; omega), (fun b o h => by have := oW b o h; omega), B2.grown g9 B2.size (fun k hk => by injection hk with hk; omega)⟩
    · have HF0 := show r = (rep0, 10) from by rw [hr]; unfold rtuR; rw [if_pos h0, if_neg hu]
      rw [← hp] at h0 hu KP
      obtain ⟨⟨p1, p2⟩, p3⟩ := p
      dsimp only at h0 hu
      subst h0
      have HF := Lib.hid HF0
      have hT : ((p1 : Int) != (u : Int)) = true := by rw [bne_iff_ne]; omega
      clear hr hp hs hx hn hc hle hby HF0 hu
      go_enter Try.func34, Try.ntmps34
      go_wp2_with fail
      refine (KP.out _ hb0).mono ?_
      rintro e w1 ⟨A1, c1, rfl, S1, hc1, O1, b1⟩
      have rz := b1.row (by simp) HRZ.out
      have B1 := hb0.call b1
      clear b1 S1 O1
      go_wp2_with (refine wpList_store_grown rfl 26 (.tmp 4) _ rfl w.heap.size #[.int .u8 0, .int .u8 0, .slice none 0 0, .slice none 0 0, .int .u16 0, .int .u16 0] rfl rfl 26 _ rz (by kernel_rfl) rfl (by simp [Value.oneCell']) ?_; intro w9 h9 g9 s9)
      refine bodyPost_row_tmp rfl w.heap.size 26 #[.int .u8 0, .int .u8 0, .slice none 0 0, .slice none 0 0, .int .u16 0, .int .u16 0] (0, 0) _ (.int .i64 10) rfl h9 Try.underlying26 rfl (by kernel_rfl) rfl rfl ?_
      rw [HF.out]
      exact RetRepTag.bare _ _ (B1.grown g9 B1.size (fun k hk => by injection hk with hk; omega))
  · have HF0 : r = (rep0, (rtuP xs).2) := by rw [hr]; unfold rtuR; rw [if_neg (by omega)]
    obtain ⟨p, hp⟩ : ∃ p, p = rtuP xs := ⟨_, rfl⟩
    rw [← hp] at h0 hE KP HF0
    obtain ⟨p1, p3⟩ := p
    dsimp only at h0 hE HF0
    subst h0
    clear hr hp hs hx hn hc
    rcases hE with rfl | rfl
    · have HF := Lib.hid HF0
      clear HF0
      go_enter Try.func34, Try.ntmps34
      go_wp2_with fail
      refine (KP.out _ hb0).mono ?_
      rintro e w1 ⟨A1, c1, rfl, S1, hc1, O1, b1⟩
      have rz := b1.row (by simp) HRZ.out
      have B1 := hb0.call b1
      clear b1 S1 O1
      go_wp2_with (refine wpList_store_grown rfl 26 (.tmp 4) _ rfl w.heap.size #[.int .u8 0, .int .u8 0, .slice none 0 0, .slice none 0 0, .int .u16 0, .int .u16 0] rfl rfl 26 _ rz (by kernel_rfl) rfl (by simp [Value.oneCell']) ?_; intro w9 h9 g9 s9)
      refine bodyPost_row_tmp rfl w.heap.size 26 #[.int .u8 0, .int .u8 0, .slice none 0 0, .slice none 0 0, .int .u16 0, .int .u16 0] (0, 0) _ (.int .i64 10) rfl h9 Try.underlying26 rfl (by kernel_rfl) rfl rfl ?_
      rw [HF.out]
      exact RetRepTag.bare _ _ (B1.grown g9 B1.size (fun k hk => by injection hk with hk; omega))
    · have HF := Lib.hid HF0
      clear HF0
      go_enter Try.func34, Try.ntmps34
      go_wp2_with fail
      refine (KP.out _ hb0).mono ?_
      rintro e w1 ⟨A1, c1, rfl, S1, hc1, O1, b1⟩
      have rz := b1.row (by simp) HRZ.out
      have B1 := hb0.call b1
      clear b1 S1 O1
      go_wp2_with (refine wpList_store_grown rfl 26 (.tmp 4) _ rfl w.heap.size #[.int .u8 0, .int .u8 0, .slice none 0 0, .slice none 0 0, .int .u16 0, .int .u16 0] rfl rfl 26 _ rz (by kernel_rfl) rfl (by simp [Value.oneCell']) ?_; intro w9 h9 g9 s9)
      refine bodyPost_row_tmp rfl w.heap.size 26 #[.int .u8 0, .int .u8 0, .slice none 0 0, .slice none 0 0, .int .u16 0, .int .u16 0] (0, 0) _ (.int .i64 11) rfl h9 Try.underlying26 rfl (by kernel_rfl) rfl rfl ?_
      rw [HF.out]
      exact RetRepTag.bare _ _ (B1.grown g9 B1.size (fun k hk => by injection hk with hk; omega))
end Go.Proofs.Ytgjcefgdkhfghaa.AskW
