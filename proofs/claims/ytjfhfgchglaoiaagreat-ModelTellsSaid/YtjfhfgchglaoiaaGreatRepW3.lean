/- The walk of saucierref03.Bytes. -/
import Derived.Test.YtjfhfgchglaoiaaGreatBase
import Derived.Test.YtjfhfgchglaoiaaGreatAG7
import Derived.Test.YtjfhfgchglaoiaaGreatAG3
import Derived.Test.YtjfhfgchglaoiaaGreatAG6
import Derived.Test.YtjfhfgchglaoiaaGreatRepW2
set_option linter.unusedVariables false
set_option linter.unusedSimpArgs false
namespace Go.Proofs.YtjfhfgchglaoiaaGreat.AskW
open Go.RowKit Go.Proofs.YtjfhfgchglaoiaaGreat Go.Proofs.YtjfhfgchglaoiaaGreat.Ask
theorem two_new (w0 w : World) (hb : Below w0.heap.size w0 w) (f N g : Nat) (hg : g = w.heap.size) : Has w0 (w.alloc (.cells #[.int .u8 (f : Nat), .int .u8 (N : Nat)] 5)) 5 (.slice (some ⟨g, 0, none⟩) 2 2) 2 (bs [f, N]) := by
  subst hg
  exact Has.of_row (w0 := w0) (hb.new (.cells #[.int .u8 (f : Nat), .int .u8 (N : Nat)] 5)) (heap_alloc_new w (.cells #[.int .u8 (f : Nat), .int .u8 (N : Nat)] 5)) hb.size (n := 2) rfl (by simp [maxLen])
set_option maxRecDepth 100000 in
set_option maxHeartbeats 8000000 in
theorem ref3Bytes_no (f x a m : Nat) (Ab : Option Addr) (nb cb : Nat) (Aw : Option Addr) (nw cw : Nat) (B : List Bool) (W : List Nat) (w : World)
    (hB : Sl w w.heap.size Ab nb (bl B)) (hW : Sl w w.heap.size Aw nw (ws W)) (hwf : Rep.Wf ⟨f, x, B, W, a, m⟩) (hr : rright ⟨f, x, B, W, a, m⟩ = false) :
    Calls Tryz.prog 45 #[.agg #[.int .u8 (f : Nat), .int .u8 (x : Nat), .slice Ab nb cb, .slice Aw nw cw, .int .u16 (a : Nat), .int .u16 (m : Nat)]] w (RetRowErr w 5 (rbytesE ⟨f, x, B, W, a, m⟩)) := by
  have qW : W.length = nw := by simpa using hW.len
  have qB : B.length = nb := by simpa using hB.len
  have ha := hwf.at'
  have hm := hwf.many
  have hww := hwf.words
  dsimp only at ha hm hww
  have wa := w64 (show a ≤ 9223372036854775807 by omega)
  have wm := w64 (show m ≤ 9223372036854775807 by omega)
  have KR := Lib.hid (fun X => ref3Right_any f x Ab nb cb Aw nw cw a m B W qW qB X)
  have HE := Lib.hid (show rbytesE ⟨f, x, B, W, a, m⟩ = ([], 13) from by unfold rbytesE; rw [hr]; rfl)
  obtain ⟨E, hE⟩ : ∃ E, E = rbytesE ⟨f, x, B, W, a, m⟩ := ⟨_, rfl⟩
  rw [← hE] at HE ⊢
  rw [hr] at KR
  clear hE hr qW qB ha hm hww hwf hW hB
  go_enter Tryz.func45, Tryz.ntmps45
  go_wp2_with fail
  refine (KR.out _).mono ?_
  rintro e w1 ⟨rfl, b1⟩
  have hb := Below.call (Below.new (Below.refl _ w) _) b1
  clear b1
  go_wp2_with fail
  go_ret2
  rw [HE.out]
  exact ⟨_, rfl, Has.nil_ hb _⟩
set_option maxRecDepth 100000 in
set_option maxHeartbeats 8000000 in
theorem ref3Bytes_exc (f x a m : Nat) (Ab : Option Addr) (nb cb : Nat) (Aw : Option Addr) (nw cw : Nat) (B : List Bool) (W : List Nat) (w : World)
    (hB : Sl w w.heap.size Ab nb (bl B)) (hW : Sl w w.heap.size Aw nw (ws W)) (hwf : Rep.Wf ⟨f, x, B, W, a, m⟩) (hr : rright ⟨f, x, B, W, a, m⟩ = true) (hx : x ≠ 0) :
    Calls Tryz.prog 45 #[.agg #[.int .u8 (f : Nat), .int .u8 (x : Nat), .slice Ab nb cb, .slice Aw nw cw, .int .u16 (a : Nat), .int .u16 (m : Nat)]] w (RetRowErr w 5 (rbytesE ⟨f, x, B, W, a, m⟩)) := by
  have qW : W.length = nw := by simpa using hW.len
  have qB : B.length = nb := by simpa using hB.len
  have ha := hwf.at'
  have hm := hwf.many
  have hww := hwf.words
  dsimp only at ha hm hww
  have wa := w64 (show a ≤ 9223372036854775807 by omega)
  have wm := w64 (show m ≤ 9223372036854775807 by omega)
  have KR := Lib.hid (fun X => ref3Right_any f x Ab nb cb Aw nw cw a m B W qW qB X)
  have hf : f < 128 := by
    have e : rright ⟨f, x, B, W, a, m⟩ = Kd.right .exc ⟨f, x, B, W, a, m⟩ := by unfold rright kdOf; rw [if_pos hx]
    rw [e] at hr
    simp [Kd.right] at hr
    exact hr.1
  have HE := Lib.hid (show rbytesE ⟨f, x, B, W, a, m⟩ = (rbytes ⟨f, x, B, W, a, m⟩, 0) from by unfold rbytesE; rw [hr]; rfl)
  obtain ⟨E, hE⟩ : ∃ E, E = rbytesE ⟨f, x, B, W, a, m⟩ := ⟨_, rfl⟩
  rw [← hE] at HE ⊢
  rw [hr] at KR
  have HBY := Lib.hid (show rbytes ⟨f, x, B, W, a, m⟩ = [f + 128, x] from by unfold rbytes kdOf; rw [if_pos hx]; show [(f + 128) % 256, x] = _; rw [Nat.mod_eq_of_lt (by omega)])
  obtain ⟨L, hL⟩ : ∃ L, L = rbytes ⟨f, x, B, W, a, m⟩ := ⟨_, rfl⟩
  rw [← hL] at HBY HE
  obtain ⟨h, hh⟩ : ∃ h, h = f + 128 := ⟨_, rfl⟩
  have hw8 : IntKind.u8.wrap ((f : Int) + 128) = (h : Int) := by rw [IntKind.wrap_u8]; omega
  have hT : ((x : Int) != 0) = true := by rw [bne_iff_ne]; omega
  rw [← hh] at HBY
  clear hL hr hh hW hB hx hf hE qW qB ha hm hww hwf
  go_enter Tryz.func45, Tryz.ntmps45
  go_wp2_with fail
  refine (KR.out _).mono ?_
  rintro e w1 ⟨rfl, b1⟩
  have ra := b1.row (by simp) (heap_alloc_new w _)
  have hb := Below.call (Below.new (Below.refl _ w) _) b1
  clear b1
  have rl := row_lt ra
  obtain ⟨c0, c1, c2, c3, c4, c5⟩ := row6 ra
  go_wp2_with fail
  go_ret2
  rw [HE.out]
  have H := two_new w1 w1 (Below.refl _ _) h x _ rfl
  have e : bs [h, x] = bs L := by rw [HBY.out]
  exact ⟨_, rfl, by simpa using (H.cast e).weaken hb⟩
set_option maxRecDepth 100000 in
set_option maxHeartbeats 8000000 in
theorem ref3Bytes_b1 (a m : Nat) (Ab : Option Addr) (nb cb : Nat) (Aw : Option Addr) (nw cw : Nat) (B : List Bool) (W : List Nat) (w : World)
    (hB : Sl w w.heap.size Ab nb (bl B)) (hW : Sl w w.heap.size Aw nw (ws W)) (hwf : Rep.Wf ⟨1, 0, B, W, a, m⟩) (hr : rright ⟨1, 0, B, W, a, m⟩ = true) :
    Calls Tryz.prog 45 #[.agg #[.int .u8 1, .int .u8 0, .slice Ab nb cb, .slice Aw nw cw, .int .u16 (a : Nat), .int .u16 (m : Nat)]] w (RetRowErr w 5 (rbytesE ⟨1, 0, B, W, a, m⟩)) := by
  have qW : W.length = nw := by simpa using hW.len
  have qB : B.length = nb := by simpa using hB.len
  have ha := hwf.at'
  have hm := hwf.many
  have hww := hwf.words
  dsimp only at ha hm hww
  have wa := w64 (show a ≤ 9223372036854775807 by omega)
  have wm := w64 (show m ≤ 9223372036854775807 by omega)
  have KR := Lib.hid (fun X => ref3Right_any 1 0 Ab nb cb Aw nw cw a m B W qW qB X)
  have hn : 8 ≤ nb ∧ nb ≤ 2000 := by
    have e : rright ⟨1, 0, B, W, a, m⟩ = Kd.right .bitsR ⟨1, 0, B, W, a, m⟩ := rfl
    rw [e] at hr
    simp [Kd.right] at hr
    omega
  obtain ⟨N, hN⟩ : ∃ N, N = (nb + 7) / 8 := ⟨_, rfl⟩
  have HE := Lib.hid (show rbytesE ⟨1, 0, B, W, a, m⟩ = (rbytes ⟨1, 0, B, W, a, m⟩, 0) from by unfold rbytesE; rw [hr]; rfl)
  obtain ⟨E, hE⟩ : ∃ E, E = rbytesE ⟨1, 0, B, W, a, m⟩ := ⟨_, rfl⟩
  rw [← hE] at HE ⊢
  rw [hr] at KR
  have HBY := Lib.hid (show rbytes ⟨1, 0, B, W, a, m⟩ = 1 :: N :: pack B from by show 1 :: (pack B).length % 256 :: pack B = _; rw [pack_length, qB, ← hN, Nat.mod_eq_of_lt (by omega)])
  obtain ⟨L, hL⟩ : ∃ L, L = rbytes ⟨1, 0, B, W, a, m⟩ := ⟨_, rfl⟩
  rw [← hL] at HBY HE
  have hN2 : N ≤ 250 := by omega
  have hN8 : IntKind.u8.wrap (N : Int) = N := by rw [IntKind.wrap_u8]; omega
  have hN64 := w64 (show N ≤ 9223372036854775807 by omega)
  have hn2 : nb ≤ 100000 := by omega
  have KP := Lib.hid (fun X (b : Below w.heap.size w X) => refPack_any Ab nb cb B X (hB.to b) hn2)
  rw [← hN] at KP
  clear hL hr hN hW hB hn hn2 hE qW qB ha hm hww hwf
  go_enter Tryz.func45, Tryz.ntmps45
  go_wp2_with fail
  refine (KR.out _).mono ?_
  rintro e w1 ⟨rfl, b1⟩
  have ra := b1.row (by simp) (heap_alloc_new w _)
  have hb := Below.call (Below.new (Below.refl _ w) _) b1
  clear b1
  have rl := row_lt ra
  obtain ⟨c0, c1, c2, c3, c4, c5⟩ := row6 ra
  go_wp2_with fail
  refine (KP.out _ hb).mono ?_
  rintro e w2 ⟨vp, rfl, HP⟩
  obtain ⟨Ap, cp, rfl, hcp, SP, oP⟩ := HP.slice
  have bP := HP.bel
  clear c0 c1 c2 c3 c4 c5 HP
  obtain ⟨c0, c1, c2, c3, c4, c5⟩ := row6 (bP.row rl ra)
  go_wp2_with (at_builtin; refine wpList_app u8 rfl (.tmp 32) (.tmp 33) rfl (two_new w1 w2 bP 1 N _ rfl) rfl (SP.to ((Below.refl _ _).new _)) rfl (bs_one _) (by omega) (by simp only [maxLen]; omega) ?_; intro v6 w6 H6 _ _)
  go_wp2_with fail
  go_ret2
  rw [HE.out]
  have e : bs [1, N] ++ bs (pack B) = bs L := by rw [HBY.out] <;> simp [bs, two]
  exact ⟨_, rfl, by simpa using (H6.cast e).weaken hb⟩
set_option maxRecDepth 100000 in
set_option maxHeartbeats 8000000 in
theorem ref3Bytes_b2 (a m : Nat) (Ab : Option Addr) (nb cb : Nat) (Aw : Option Addr) (nw cw : Nat) (B : List Bool) (W : List Nat) (w : World)
    (hB : Sl w w.heap.size Ab nb (bl B)) (hW : Sl w w.heap.size Aw nw (ws W)) (hwf : Rep.Wf ⟨2, 0, B, W, a, m⟩) (hr : rright ⟨2, 0, B, W, a, m⟩ = true) :
    Calls Tryz.prog 45 #[.agg #[.int .u8 2, .int .u8 0, .slice Ab nb cb, .slice Aw nw cw, .int .u16 (a : Nat), .int .u16 (m : Nat)]] w (RetRowErr w 5 (rbytesE ⟨2, 0, B, W, a, m⟩)) := by
  have qW : W.length = nw := by simpa using hW.len
  have qB : B.length = nb := by simpa using hB.len
  have ha := hwf.at'
  have hm := hwf.many
  have hww := hwf.words
  dsimp only at ha hm hww
  have wa := w64 (show a ≤ 9223372036854775807 by omega)
  have wm := w64 (show m ≤ 9223372036854775807 by omega)
  have KR := Lib.hid (fun X => ref3Right_any 2 0 Ab nb cb Aw nw cw a m B W qW qB X)
  have hn : 8 ≤ nb ∧ nb ≤ 2000 := by
    have e : rright ⟨2, 0, B, W, a, m⟩ = Kd.right .bitsR ⟨2, 0, B, W, a, m⟩ := rfl
    rw [e] at hr
    simp [Kd.right] at hr
    omega
  obtain ⟨N, hN⟩ : ∃ N, N = (nb + 7) / 8 := ⟨_, rfl⟩
  have HE := Lib.hid (show rbytesE ⟨2, 0, B, W, a, m⟩ = (rbytes ⟨2, 0, B, W, a, m⟩, 0) from by unfold rbytesE; rw [hr]; rfl)
  obtain ⟨E, hE⟩ : ∃ E, E = rbytesE ⟨2, 0, B, W, a, m⟩ := ⟨_, rfl⟩
  rw [← hE] at HE ⊢
  rw [hr] at KR
  have HBY := Lib.hid (show rbytes ⟨2, 0, B, W, a, m⟩ = 2 :: N :: pack B from by show 2 :: (pack B).length % 256 :: pack B = _; rw [pack_length, qB, ← hN, Nat.mod_eq_of_lt (by omega)])
  obtain ⟨L, hL⟩ : ∃ L, L = rbytes ⟨2, 0, B, W, a, m⟩ := ⟨_, rfl⟩
  rw [← hL] at HBY HE
  have hN2 : N ≤ 250 := by omega
  have hN8 : IntKind.u8.wrap (N : Int) = N := by rw [IntKind.wrap_u8]; omega
  have hN64 := w64 (show N ≤ 9223372036854775807 by omega)
  have hn2 : nb ≤ 100000 := by omega
  have KP := Lib.hid (fun X (b : Below w.heap.size w X) => refPack_any Ab nb cb B X (hB.to b) hn2)
  rw [← hN] at KP
  clear hL hr hN hW hB hn hn2 hE qW qB ha hm hww hwf
  go_enter Tryz.func45, Tryz.ntmps45
  go_wp2_with fail
  refine (KR.out _).mono ?_
  rintro e w1 ⟨rfl, b1⟩
  have ra := b1.row (by simp) (heap_alloc_new w _)
  have hb := Below.call (Below.new (Below.refl _ w) _) b1
  clear b1
  have rl := row_lt ra
  obtain ⟨c0, c1, c2, c3, c4, c5⟩ := row6 ra
  go_wp2_with fail
  refine (KP.out _ hb).mono ?_
  rintro e w2 ⟨vp, rfl, HP⟩
  obtain ⟨Ap, cp, rfl, hcp, SP, oP⟩ := HP.slice
  have bP := HP.bel
  clear c0 c1 c2 c3 c4 c5 HP
  obtain ⟨c0, c1, c2, c3, c4, c5⟩ := row6 (bP.row rl ra)
  go_wp2_with (at_builtin; refine wpList_app u8 rfl (.tmp 32) (.tmp 33) rfl (two_new w1 w2 bP 2 N _ rfl) rfl (SP.to ((Below.refl _ _).new _)) rfl (bs_one _) (by omega) (by simp only [maxLen]; omega) ?_; intro v6 w6 H6 _ _)
  go_wp2_with fail
  go_ret2
  rw [HE.out]
  have e : bs [2, N] ++ bs (pack B) = bs L := by rw [HBY.out] <;> simp [bs, two]
  exact ⟨_, rfl, by simpa using (H6.cast e).weaken hb⟩
set_option maxRecDepth 100000 in
set_option maxHeartbeats 8000000 in
theorem ref3Bytes_w3 (a m : Nat) (Ab : Option Addr) (nb cb : Nat) (Aw : Option Addr) (nw cw : Nat) (B : List Bool) (W : List Nat) (w : World)
    (hB : Sl w w.heap.size Ab nb (bl B)) (hW : Sl w w.heap.size Aw nw (ws W)) (hwf : Rep.Wf ⟨3, 0, B, W, a, m⟩) (hr : rright ⟨3, 0, B, W, a, m⟩ = true) :
    Calls Tryz.prog 45 #[.agg #[.int .u8 3, .int .u8 0, .slice Ab nb cb, .slice Aw nw cw, .int .u16 (a : Nat), .int .u16 (m : Nat)]] w (RetRowErr w 5 (rbytesE ⟨3, 0, B, W, a, m⟩)) := by
  have qW : W.length = nw := by simpa using hW.len
  have qB : B.length = nb := by simpa using hB.len
  have ha := hwf.at'
  have hm := hwf.many
  have hww := hwf.words
  dsimp only at ha hm hww
  have wa := w64 (show a ≤ 9223372036854775807 by omega)
  have wm := w64 (show m ≤ 9223372036854775807 by omega)
  have KR := Lib.hid (fun X => ref3Right_any 3 0 Ab nb cb Aw nw cw a m B W qW qB X)
  have hn : nw ≤ 125 := by
    have e : rright ⟨3, 0, B, W, a, m⟩ = Kd.right .wordsR ⟨3, 0, B, W, a, m⟩ := rfl
    rw [e] at hr
    simp [Kd.right] at hr
    omega
  have hN1 : IntKind.i64.wrap (2 * (nw : Int)) = ((2 * nw : Nat) : Int) := by rw [IntKind.wrap_i64]; omega
  obtain ⟨N, hN⟩ : ∃ N, N = 2 * nw := ⟨_, rfl⟩
  have HE := Lib.hid (show rbytesE ⟨3, 0, B, W, a, m⟩ = (rbytes ⟨3, 0, B, W, a, m⟩, 0) from by unfold rbytesE; rw [hr]; rfl)
  obtain ⟨E, hE⟩ : ∃ E, E = rbytesE ⟨3, 0, B, W, a, m⟩ := ⟨_, rfl⟩
  rw [← hE] at HE ⊢
  rw [hr] at KR
  have HBY := Lib.hid (show rbytes ⟨3, 0, B, W, a, m⟩ = 3 :: N :: twos W from by show 3 :: (twos W).length % 256 :: twos W = _; rw [twos_len, qW, ← hN, Nat.mod_eq_of_lt (by omega)])
  obtain ⟨L, hL⟩ : ∃ L, L = rbytes ⟨3, 0, B, W, a, m⟩ := ⟨_, rfl⟩
  rw [← hL] at HBY HE
  rw [← hN] at hN1
  have hN8 : IntKind.u8.wrap (N : Int) = N := by rw [IntKind.wrap_u8]; omega
  have hN64 := w64 (show N ≤ 9223372036854775807 by omega)
  have KWS := Lib.hid (fun X Y v n xs (H : Has X Y 5 v n (bs xs)) (b : Below w.heap.size w X) hn2 => refWords_any X Y v n xs H Aw nw cw W (hW.to b) hww hn2)
  clear hL hr hN hW hB hE qW qB ha hm hww hwf
  go_enter Tryz.func45, Tryz.ntmps45
  go_wp2_with fail
  refine (KR.out _).mono ?_
  rintro e w1 ⟨rfl, b1⟩
  have ra := b1.row (by simp) (heap_alloc_new w _)
  have hb := Below.call (Below.new (Below.refl _ w) _) b1
  clear b1
  have rl := row_lt ra
  obtain ⟨c0, c1, c2, c3, c4, c5⟩ := row6 ra
  go_wp2_with fail
  refine (KWS.out w1 _ _ 2 [3, N] (two_new w1 w1 (Below.refl _ _) 3 N _ rfl) hb (by omega)).mono ?_
  rintro e w2 ⟨v2, rfl, H2⟩
  go_wp2_with fail
  go_ret2
  rw [HE.out]
  have e : bs ([3, N] ++ twos W) = bs L := by rw [HBY.out] <;> simp [bs, two]
  exact ⟨_, rfl, by simpa using (H2.cast e).weaken hb⟩
set_option maxRecDepth 100000 in
set_option maxHeartbeats 8000000 in
theorem ref3Bytes_w4 (a m : Nat) (Ab : Option Addr) (nb cb : Nat) (Aw : Option Addr) (nw cw : Nat) (B : List Bool) (W : List Nat) (w : World)
    (hB : Sl w w.heap.size Ab nb (bl B)) (hW : Sl w w.heap.size Aw nw (ws W)) (hwf : Rep.Wf ⟨4, 0, B, W, a, m⟩) (hr : rright ⟨4, 0, B, W, a, m⟩ = true) :
    Calls Tryz.prog 45 #[.agg #[.int .u8 4, .int .u8 0, .slice Ab nb cb, .slice Aw nw cw, .int .u16 (a : Nat), .int .u16 (m : Nat)]] w (RetRowErr w 5 (rbytesE ⟨4, 0, B, W, a, m⟩)) := by
  have qW : W.length = nw := by simpa using hW.len
  have qB : B.length = nb := by simpa using hB.len
  have ha := hwf.at'
  have hm := hwf.many
  have hww := hwf.words
  dsimp only at ha hm hww
  have wa := w64 (show a ≤ 9223372036854775807 by omega)
  have wm := w64 (show m ≤ 9223372036854775807 by omega)
  have KR := Lib.hid (fun X => ref3Right_any 4 0 Ab nb cb Aw nw cw a m B W qW qB X)
  have hn : nw ≤ 125 := by
    have e : rright ⟨4, 0, B, W, a, m⟩ = Kd.right .wordsR ⟨4, 0, B, W, a, m⟩ := rfl
    rw [e] at hr
    simp [Kd.right] at hr
    omega
  have hN1 : IntKind.i64.wrap (2 * (nw : Int)) = ((2 * nw : Nat) : Int) := by rw [IntKind.wrap_i64]; omega
  obtain ⟨N, hN⟩ : ∃ N, N = 2 * nw := ⟨_, rfl⟩
  have HE := Lib.hid (show rbytesE ⟨4, 0, B, W, a, m⟩ = (rbytes ⟨4, 0, B, W, a, m⟩, 0) from by unfold rbytesE; rw [hr]; rfl)
  obtain ⟨E, hE⟩ : ∃ E, E = rbytesE ⟨4, 0, B, W, a, m⟩ := ⟨_, rfl⟩
  rw [← hE] at HE ⊢
  rw [hr] at KR
  have HBY := Lib.hid (show rbytes ⟨4, 0, B, W, a, m⟩ = 4 :: N :: twos W from by show 4 :: (twos W).length % 256 :: twos W = _; rw [twos_len, qW, ← hN, Nat.mod_eq_of_lt (by omega)])
  obtain ⟨L, hL⟩ : ∃ L, L = rbytes ⟨4, 0, B, W, a, m⟩ := ⟨_, rfl⟩
  rw [← hL] at HBY HE
  rw [← hN] at hN1
  have hN8 : IntKind.u8.wrap (N : Int) = N := by rw [IntKind.wrap_u8]; omega
  have hN64 := w64 (show N ≤ 9223372036854775807 by omega)
  have KWS := Lib.hid (fun X Y v n xs (H : Has X Y 5 v n (bs xs)) (b : Below w.heap.size w X) hn2 => refWords_any X Y v n xs H Aw nw cw W (hW.to b) hww hn2)
  clear hL hr hN hW hB hE qW qB ha hm hww hwf
  go_enter Tryz.func45, Tryz.ntmps45
  go_wp2_with fail
  refine (KR.out _).mono ?_
  rintro e w1 ⟨rfl, b1⟩
  have ra := b1.row (by simp) (heap_alloc_new w _)
  have hb := Below.call (Below.new (Below.refl _ w) _) b1
  clear b1
  have rl := row_lt ra
  obtain ⟨c0, c1, c2, c3, c4, c5⟩ := row6 ra
  go_wp2_with fail
  refine (KWS.out w1 _ _ 2 [4, N] (two_new w1 w1 (Below.refl _ _) 4 N _ rfl) hb (by omega)).mono ?_
  rintro e w2 ⟨v2, rfl, H2⟩
  go_wp2_with fail
  go_ret2
  rw [HE.out]
  have e : bs ([4, N] ++ twos W) = bs L := by rw [HBY.out] <;> simp [bs, two]
  exact ⟨_, rfl, by simpa using (H2.cast e).weaken hb⟩
set_option maxRecDepth 100000 in
set_option maxHeartbeats 8000000 in
theorem ref3Bytes_w23 (a m : Nat) (Ab : Option Addr) (nb cb : Nat) (Aw : Option Addr) (nw cw : Nat) (B : List Bool) (W : List Nat) (w : World)
    (hB : Sl w w.heap.size Ab nb (bl B)) (hW : Sl w w.heap.size Aw nw (ws W)) (hwf : Rep.Wf ⟨23, 0, B, W, a, m⟩) (hr : rright ⟨23, 0, B, W, a, m⟩ = true) :
    Calls Tryz.prog 45 #[.agg #[.int .u8 23, .int .u8 0, .slice Ab nb cb, .slice Aw nw cw, .int .u16 (a : Nat), .int .u16 (m : Nat)]] w (RetRowErr w 5 (rbytesE ⟨23, 0, B, W, a, m⟩)) := by
  have qW : W.length = nw := by simpa using hW.len
  have qB : B.length = nb := by simpa using hB.len
  have ha := hwf.at'
  have hm := hwf.many
  have hww := hwf.words
  dsimp only at ha hm hww
  have wa := w64 (show a ≤ 9223372036854775807 by omega)
  have wm := w64 (show m ≤ 9223372036854775807 by omega)
  have KR := Lib.hid (fun X => ref3Right_any 23 0 Ab nb cb Aw nw cw a m B W qW qB X)
  have hn : nw ≤ 125 := by
    have e : rright ⟨23, 0, B, W, a, m⟩ = Kd.right .wordsR ⟨23, 0, B, W, a, m⟩ := rfl
    rw [e] at hr
    simp [Kd.right] at hr
    omega
  have hN1 : IntKind.i64.wrap (2 * (nw : Int)) = ((2 * nw : Nat) : Int) := by rw [IntKind.wrap_i64]; omega
  obtain ⟨N, hN⟩ : ∃ N, N = 2 * nw := ⟨_, rfl⟩
  have HE := Lib.hid (show rbytesE ⟨23, 0, B, W, a, m⟩ = (rbytes ⟨23, 0, B, W, a, m⟩, 0) from by unfold rbytesE; rw [hr]; rfl)
  obtain ⟨E, hE⟩ : ∃ E, E = rbytesE ⟨23, 0, B, W, a, m⟩ := ⟨_, rfl⟩
  rw [← hE] at HE ⊢
  rw [hr] at KR
  have HBY := Lib.hid (show rbytes ⟨23, 0, B, W, a, m⟩ = 23 :: N :: twos W from by show 23 :: (twos W).length % 256 :: twos W = _; rw [twos_len, qW, ← hN, Nat.mod_eq_of_lt (by omega)])
  obtain ⟨L, hL⟩ : ∃ L, L = rbytes ⟨23, 0, B, W, a, m⟩ := ⟨_, rfl⟩
  rw [← hL] at HBY HE
  rw [← hN] at hN1
  have hN8 : IntKind.u8.wrap (N : Int) = N := by rw [IntKind.wrap_u8]; omega
  have hN64 := w64 (show N ≤ 9223372036854775807 by omega)
  have KWS := Lib.hid (fun X Y v n xs (H : Has X Y 5 v n (bs xs)) (b : Below w.heap.size w X) hn2 => refWords_any X Y v n xs H Aw nw cw W (hW.to b) hww hn2)
  clear hL hr hN hW hB hE qW qB ha hm hww hwf
  go_enter Tryz.func45, Tryz.ntmps45
  go_wp2_with fail
  refine (KR.out _).mono ?_
  rintro e w1 ⟨rfl, b1⟩
  have ra := b1.row (by simp) (heap_alloc_new w _)
  have hb := Below.call (Below.new (Below.refl _ w) _) b1
  clear b1
  have rl := row_lt ra
  obtain ⟨c0, c1, c2, c3, c4, c5⟩ := row6 ra
  go_wp2_with fail
  refine (KWS.out w1 _ _ 2 [23, N] (two_new w1 w1 (Below.refl _ _) 23 N _ rfl) hb (by omega)).mono ?_
  rintro e w2 ⟨v2, rfl, H2⟩
  go_wp2_with fail
  go_ret2
  rw [HE.out]
  have e : bs ([23, N] ++ twos W) = bs L := by rw [HBY.out] <;> simp [bs, two]
  exact ⟨_, rfl, by simpa using (H2.cast e).weaken hb⟩
set_option maxRecDepth 100000 in
set_option maxHeartbeats 8000000 in
theorem ref3Bytes_bit (a m : Nat) (Ab : Option Addr) (nb cb : Nat) (Aw : Option Addr) (nw cw : Nat) (B : List Bool) (W : List Nat) (w : World)
    (hB : Sl w w.heap.size Ab nb (bl B)) (hW : Sl w w.heap.size Aw nw (ws W)) (hwf : Rep.Wf ⟨5, 0, B, W, a, m⟩) (hr : rright ⟨5, 0, B, W, a, m⟩ = true) (y : Bool) (hy : B = [y]) :
    Calls Tryz.prog 45 #[.agg #[.int .u8 5, .int .u8 0, .slice Ab nb cb, .slice Aw nw cw, .int .u16 (a : Nat), .int .u16 (m : Nat)]] w (RetRowErr w 5 (rbytesE ⟨5, 0, B, W, a, m⟩)) := by
  have qW : W.length = nw := by simpa using hW.len
  have qB : B.length = nb := by simpa using hB.len
  have ha := hwf.at'
  have hm := hwf.many
  have hww := hwf.words
  dsimp only at ha hm hww
  have wa := w64 (show a ≤ 9223372036854775807 by omega)
  have wm := w64 (show m ≤ 9223372036854775807 by omega)
  have KR := Lib.hid (fun X => ref3Right_any 5 0 Ab nb cb Aw nw cw a m B W qW qB X)
  have hm0 : m = 0 := by
    have e : rright ⟨5, 0, B, W, a, m⟩ = Kd.right .bitW ⟨5, 0, B, W, a, m⟩ := rfl
    rw [e] at hr
    simp [Kd.right] at hr
    exact hr.2.1
  have HE := Lib.hid (show rbytesE ⟨5, 0, B, W, a, m⟩ = (rbytes ⟨5, 0, B, W, a, m⟩, 0) from by unfold rbytesE; rw [hr]; rfl)
  obtain ⟨E, hE⟩ : ∃ E, E = rbytesE ⟨5, 0, B, W, a, m⟩ := ⟨_, rfl⟩
  rw [← hE] at HE ⊢
  rw [hr] at KR
  have HBY := Lib.hid (show rbytes ⟨5, 0, B, W, a, m⟩ = 5 :: (two a ++ two (if y then 65280 else 0)) from by rw [hy]; rfl)
  obtain ⟨L, hL⟩ : ∃ L, L = rbytes ⟨5, 0, B, W, a, m⟩ := ⟨_, rfl⟩
  rw [← hL] at HBY HE
  have hnb : nb = 1 := by rw [← qB, hy]; rfl
  have z1 : (0 : Int) < (nb : Int) := by omega
  obtain ⟨b, o, rfl, hbl, d1⟩ := hB.2 (by omega)
  have g1 : w.cell? ⟨b, o, none⟩ = some (.bool y) := (d1 0 (by omega)).trans (by rw [hy] <;> rfl)
  have HA := Lib.hid ha
  subst hm0
  clear hL hr hy hW hB hnb d1 hE qW qB ha hm hww hwf
  go_enter Tryz.func45, Tryz.ntmps45
  go_wp2_with fail
  refine (KR.out _).mono ?_
  rintro e w1 ⟨rfl, b1⟩
  have ra := b1.row (by simp) (heap_alloc_new w _)
  have hb := Below.call (Below.new (Below.refl _ w) _) b1
  clear b1
  have rl := row_lt ra
  obtain ⟨c0, c1, c2, c3, c4, c5⟩ := row6 ra
  go_wp2_with fail
  refine (refTwo_any w1 _ _ 1 [5] (first_new w1 5 _ (by first | rfl | simp)) a HA.out (by omega)).mono ?_
  rintro e w2 ⟨v2, rfl, H2⟩
  clear c0 c1 c2 c3 c4 c5
  obtain ⟨c0, c1, c2, c3, c4, c5⟩ := row6 (H2.bel.row rl ra)
  have g2 : w2.cell? ⟨b, o, none⟩ = _ := ((hb.call H2.bel).cell (p := ⟨b, o, none⟩) hbl).trans g1
  cases y
  · go_wp2_with fail
    refine (refTwo_any w1 _ _ _ _ H2 0 (by omega) (by omega)).mono ?_
    rintro e w3 ⟨v3, rfl, H3⟩
    go_wp2_with fail
    go_ret2
    rw [HE.out]
    have e : bs ([5] ++ two a ++ two 0) = bs L := by rw [HBY.out] <;> simp [bs, two]
    exact ⟨_, rfl, by simpa using (H3.cast e).weaken hb⟩
  · go_wp2_with fail
    refine (refTwo_any w1 _ _ _ _ H2 65280 (by omega) (by omega)).mono ?_
    rintro e w3 ⟨v3, rfl, H3⟩
    go_wp2_with fail
    go_ret2
    rw [HE.out]
    have e : bs ([5] ++ two a ++ two 65280) = bs L := by rw [HBY.out] <;> simp [bs, two]
    exact ⟨_, rfl, by simpa using (H3.cast e).weaken hb⟩
set_option maxRecDepth 100000 in
set_option maxHeartbeats 8000000 in
theorem ref3Bytes_word (a m : Nat) (Ab : Option Addr) (nb cb : Nat) (Aw : Option Addr) (nw cw : Nat) (B : List Bool) (W : List Nat) (w : World)
    (hB : Sl w w.heap.size Ab nb (bl B)) (hW : Sl w w.heap.size Aw nw (ws W)) (hwf : Rep.Wf ⟨6, 0, B, W, a, m⟩) (hr : rright ⟨6, 0, B, W, a, m⟩ = true) (y : Nat) (hy : W = [y]) :
    Calls Tryz.prog 45 #[.agg #[.int .u8 6, .int .u8 0, .slice Ab nb cb, .slice Aw nw cw, .int .u16 (a : Nat), .int .u16 (m : Nat)]] w (RetRowErr w 5 (rbytesE ⟨6, 0, B, W, a, m⟩)) := by
  have qW : W.length = nw := by simpa using hW.len
  have qB : B.length = nb := by simpa using hB.len
  have ha := hwf.at'
  have hm := hwf.many
  have hww := hwf.words
  dsimp only at ha hm hww
  have wa := w64 (show a ≤ 9223372036854775807 by omega)
  have wm := w64 (show m ≤ 9223372036854775807 by omega)
  have KR := Lib.hid (fun X => ref3Right_any 6 0 Ab nb cb Aw nw cw a m B W qW qB X)
  have HE := Lib.hid (show rbytesE ⟨6, 0, B, W, a, m⟩ = (rbytes ⟨6, 0, B, W, a, m⟩, 0) from by unfold rbytesE; rw [hr]; rfl)
  obtain ⟨E, hE⟩ : ∃ E, E = rbytesE ⟨6, 0, B, W, a, m⟩ := ⟨_, rfl⟩
  rw [← hE] at HE ⊢
  rw [hr] at KR
  have HBY := Lib.hid (show rbytes ⟨6, 0, B, W, a, m⟩ = 6 :: (two a ++ two y) from by rw [hy]; rfl)
  obtain ⟨L, hL⟩ : ∃ L, L = rbytes ⟨6, 0, B, W, a, m⟩ := ⟨_, rfl⟩
  rw [← hL] at HBY HE
  have hnw : nw = 1 := by rw [← qW, hy]; rfl
  have z1 : (0 : Int) < (nw : Int) := by omega
  have hyl : y < 65536 := hww y (by rw [hy]; simp)
  have wx := w64 (show y ≤ 9223372036854775807 by omega)
  obtain ⟨b, o, rfl, hbl, d1⟩ := hW.2 (by omega)
  have g1 : w.cell? ⟨b, o, none⟩ = some (.int .u16 (y : Nat)) := (d1 0 (by omega)).trans (by rw [hy] <;> rfl)
  have HA := Lib.hid ha
  clear hL hr hy hW hB hnw d1 hE qW qB ha hm hww hwf
  go_enter Tryz.func45, Tryz.ntmps45
  go_wp2_with fail
  refine (KR.out _).mono ?_
  rintro e w1 ⟨rfl, b1⟩
  have ra := b1.row (by simp) (heap_alloc_new w _)
  have hb := Below.call (Below.new (Below.refl _ w) _) b1
  clear b1
  have rl := row_lt ra
  obtain ⟨c0, c1, c2, c3, c4, c5⟩ := row6 ra
  go_wp2_with fail
  refine (refTwo_any w1 _ _ 1 [6] (first_new w1 6 _ (by first | rfl | simp)) a HA.out (by omega)).mono ?_
  rintro e w2 ⟨v2, rfl, H2⟩
  clear c0 c1 c2 c3 c4 c5
  obtain ⟨c0, c1, c2, c3, c4, c5⟩ := row6 (H2.bel.row rl ra)
  have g2 : w2.cell? ⟨b, o, none⟩ = _ := ((hb.call H2.bel).cell (p := ⟨b, o, none⟩) hbl).trans g1
  go_wp2_with fail
  refine (refTwo_any w1 _ _ _ _ H2 y hyl (by omega)).mono ?_
  rintro e w3 ⟨v3, rfl, H3⟩
  go_wp2_with fail
  go_ret2
  rw [HE.out]
  have e : bs ([6] ++ two a ++ two y) = bs L := by rw [HBY.out] <;> simp [bs, two]
  exact ⟨_, rfl, by simpa using (H3.cast e).weaken hb⟩
set_option maxRecDepth 100000 in
set_option maxHeartbeats 8000000 in
theorem ref3Bytes_m15 (a m : Nat) (Ab : Option Addr) (nb cb : Nat) (Aw : Option Addr) (nw cw : Nat) (B : List Bool) (W : List Nat) (w : World)
    (hB : Sl w w.heap.size Ab nb (bl B)) (hW : Sl w w.heap.size Aw nw (ws W)) (hwf : Rep.Wf ⟨15, 0, B, W, a, m⟩) (hr : rright ⟨15, 0, B, W, a, m⟩ = true) :
    Calls Tryz.prog 45 #[.agg #[.int .u8 15, .int .u8 0, .slice Ab nb cb, .slice Aw nw cw, .int .u16 (a : Nat), .int .u16 (m : Nat)]] w (RetRowErr w 5 (rbytesE ⟨15, 0, B, W, a, m⟩)) := by
  have qW : W.length = nw := by simpa using hW.len
  have qB : B.length = nb := by simpa using hB.len
  have ha := hwf.at'
  have hm := hwf.many
  have hww := hwf.words
  dsimp only at ha hm hww
  have wa := w64 (show a ≤ 9223372036854775807 by omega)
  have wm := w64 (show m ≤ 9223372036854775807 by omega)
  have KR := Lib.hid (fun X => ref3Right_any 15 0 Ab nb cb Aw nw cw a m B W qW qB X)
  have HE := Lib.hid (show rbytesE ⟨15, 0, B, W, a, m⟩ = (rbytes ⟨15, 0, B, W, a, m⟩, 0) from by unfold rbytesE; rw [hr]; rfl)
  obtain ⟨E, hE⟩ : ∃ E, E = rbytesE ⟨15, 0, B, W, a, m⟩ := ⟨_, rfl⟩
  rw [← hE] at HE ⊢
  rw [hr] at KR
  have HBY := Lib.hid (show rbytes ⟨15, 0, B, W, a, m⟩ = 15 :: (two a ++ two m) from rfl)
  obtain ⟨L, hL⟩ : ∃ L, L = rbytes ⟨15, 0, B, W, a, m⟩ := ⟨_, rfl⟩
  rw [← hL] at HBY HE
  have HA := Lib.hid ha
  have HM := Lib.hid hm
  clear hL hr hW hB hE qW qB ha hm hww hwf
  go_enter Tryz.func45, Tryz.ntmps45
  go_wp2_with fail
  refine (KR.out _).mono ?_
  rintro e w1 ⟨rfl, b1⟩
  have ra := b1.row (by simp) (heap_alloc_new w _)
  have hb := Below.call (Below.new (Below.refl _ w) _) b1
  clear b1
  have rl := row_lt ra
  obtain ⟨c0, c1, c2, c3, c4, c5⟩ := row6 ra
  go_wp2_with fail
  refine (refTwo_any w1 _ _ 1 [15] (first_new w1 15 _ (by first | rfl | simp)) a HA.out (by omega)).mono ?_
  rintro e w2 ⟨v2, rfl, H2⟩
  clear c0 c1 c2 c3 c4 c5
  obtain ⟨c0, c1, c2, c3, c4, c5⟩ := row6 (H2.bel.row rl ra)
  go_wp2_with fail
  refine (refTwo_any w1 _ _ _ _ H2 m HM.out (by omega)).mono ?_
  rintro e w3 ⟨v3, rfl, H3⟩
  go_wp2_with fail
  go_ret2
  rw [HE.out]
  have e : bs ([15] ++ two a ++ two m) = bs L := by rw [HBY.out] <;> simp [bs, two]
  exact ⟨_, rfl, by simpa using (H3.cast e).weaken hb⟩
set_option maxRecDepth 100000 in
set_option maxHeartbeats 8000000 in
theorem ref3Bytes_m16 (a m : Nat) (Ab : Option Addr) (nb cb : Nat) (Aw : Option Addr) (nw cw : Nat) (B : List Bool) (W : List Nat) (w : World)
    (hB : Sl w w.heap.size Ab nb (bl B)) (hW : Sl w w.heap.size Aw nw (ws W)) (hwf : Rep.Wf ⟨16, 0, B, W, a, m⟩) (hr : rright ⟨16, 0, B, W, a, m⟩ = true) :
    Calls Tryz.prog 45 #[.agg #[.int .u8 16, .int .u8 0, .slice Ab nb cb, .slice Aw nw cw, .int .u16 (a : Nat), .int .u16 (m : Nat)]] w (RetRowErr w 5 (rbytesE ⟨16, 0, B, W, a, m⟩)) := by
  have qW : W.length = nw := by simpa using hW.len
  have qB : B.length = nb := by simpa using hB.len
  have ha := hwf.at'
  have hm := hwf.many
  have hww := hwf.words
  dsimp only at ha hm hww
  have wa := w64 (show a ≤ 9223372036854775807 by omega)
  have wm := w64 (show m ≤ 9223372036854775807 by omega)
  have KR := Lib.hid (fun X => ref3Right_any 16 0 Ab nb cb Aw nw cw a m B W qW qB X)
  have HE := Lib.hid (show rbytesE ⟨16, 0, B, W, a, m⟩ = (rbytes ⟨16, 0, B, W, a, m⟩, 0) from by unfold rbytesE; rw [hr]; rfl)
  obtain ⟨E, hE⟩ : ∃ E, E = rbytesE ⟨16, 0, B, W, a, m⟩ := ⟨_, rfl⟩
  rw [← hE] at HE ⊢
  rw [hr] at KR
  have HBY := Lib.hid (show rbytes ⟨16, 0, B, W, a, m⟩ = 16 :: (two a ++ two m) from rfl)
  obtain ⟨L, hL⟩ : ∃ L, L = rbytes ⟨16, 0, B, W, a, m⟩ := ⟨_, rfl⟩
  rw [← hL] at HBY HE
  have HA := Lib.hid ha
  have HM := Lib.hid hm
  clear hL hr hW hB hE qW qB ha hm hww hwf
  go_enter Tryz.func45, Tryz.ntmps45
  go_wp2_with fail
  refine (KR.out _).mono ?_
  rintro e w1 ⟨rfl, b1⟩
  have ra := b1.row (by simp) (heap_alloc_new w _)
  have hb := Below.call (Below.new (Below.refl _ w) _) b1
  clear b1
  have rl := row_lt ra
  obtain ⟨c0, c1, c2, c3, c4, c5⟩ := row6 ra
  go_wp2_with fail
  refine (refTwo_any w1 _ _ 1 [16] (first_new w1 16 _ (by first | rfl | simp)) a HA.out (by omega)).mono ?_
  rintro e w2 ⟨v2, rfl, H2⟩
  clear c0 c1 c2 c3 c4 c5
  obtain ⟨c0, c1, c2, c3, c4, c5⟩ := row6 (H2.bel.row rl ra)
  go_wp2_with fail
  refine (refTwo_any w1 _ _ _ _ H2 m HM.out (by omega)).mono ?_
  rintro e w3 ⟨v3, rfl, H3⟩
  go_wp2_with fail
  go_ret2
  rw [HE.out]
  have e : bs ([16] ++ two a ++ two m) = bs L := by rw [HBY.out] <;> simp [bs, two]
  exact ⟨_, rfl, by simpa using (H3.cast e).weaken hb⟩
theorem ref3Bytes_any (f x : Nat) (Ab : Option Addr) (nb cb : Nat) (Aw : Option Addr) (nw cw : Nat) (a m : Nat) (B : List Bool) (W : List Nat) (w : World)
    (hB : Sl w w.heap.size Ab nb (bl B)) (hW : Sl w w.heap.size Aw nw (ws W)) (hwf : Rep.Wf ⟨f, x, B, W, a, m⟩) :
    Calls Tryz.prog 45 #[.agg #[.int .u8 (f : Nat), .int .u8 (x : Nat), .slice Ab nb cb, .slice Aw nw cw, .int .u16 (a : Nat), .int .u16 (m : Nat)]] w (RetRowErr w 5 (rbytesE ⟨f, x, B, W, a, m⟩)) := by
  cases hr : rright ⟨f, x, B, W, a, m⟩
  · exact ref3Bytes_no f x a m Ab nb cb Aw nw cw B W w hB hW hwf hr
  by_cases hx : x = 0
  · subst hx
    have hk : ∃ k, kdBy f = some k ∧ k.right ⟨f, 0, B, W, a, m⟩ = true := by
      unfold rright kdOf at hr
      rw [if_neg (by simp)] at hr
      dsimp only at hr
      cases h : kdBy f with
      | none => rw [h] at hr; cases hr
      | some k => rw [h] at hr; exact ⟨k, rfl, hr⟩
    obtain ⟨k, hk, hkr⟩ := hk
    unfold kdBy at hk
    by_cases h128 : 128 ≤ f
    · rw [if_pos h128] at hk; injection hk with hk; subst hk; simp [Kd.right] at hkr
    rw [if_neg h128] at hk
    by_cases h1 : f = 1 ∨ f = 2
    · rcases h1 with rfl | rfl
      · exact ref3Bytes_b1 a m Ab nb cb Aw nw cw B W w hB hW hwf hr
      · exact ref3Bytes_b2 a m Ab nb cb Aw nw cw B W w hB hW hwf hr
    rw [if_neg h1] at hk
    by_cases h3 : f = 3 ∨ f = 4 ∨ f = 23
    · rcases h3 with rfl | rfl | rfl
      · exact ref3Bytes_w3 a m Ab nb cb Aw nw cw B W w hB hW hwf hr
      · exact ref3Bytes_w4 a m Ab nb cb Aw nw cw B W w hB hW hwf hr
      · exact ref3Bytes_w23 a m Ab nb cb Aw nw cw B W w hB hW hwf hr
    rw [if_neg h3] at hk
    by_cases h5 : f = 5
    · subst h5
      rw [if_pos rfl] at hk; injection hk with hk; subst hk
      simp [Kd.right] at hkr
      obtain ⟨y, hy⟩ := List.length_eq_one_iff.1 hkr.1
      exact ref3Bytes_bit a m Ab nb cb Aw nw cw B W w hB hW hwf hr y hy
    rw [if_neg h5] at hk
    by_cases h6 : f = 6
    · subst h6
      rw [if_pos rfl] at hk; injection hk with hk; subst hk
      simp [Kd.right] at hkr
      obtain ⟨y, hy⟩ := List.length_eq_one_iff.1 hkr.1
      exact ref3Bytes_word a m Ab nb cb Aw nw cw B W w hB hW hwf hr y hy
    rw [if_neg h6] at hk
    by_cases h15 : f = 15
    · subst h15; exact ref3Bytes_m15 a m Ab nb cb Aw nw cw B W w hB hW hwf hr
    rw [if_neg h15] at hk
    by_cases h16 : f = 16
    · subst h16; exact ref3Bytes_m16 a m Ab nb cb Aw nw cw B W w hB hW hwf hr
    rw [if_neg h16] at hk
    cases hk
  · exact ref3Bytes_exc f x a m Ab nb cb Aw nw cw B W w hB hW hwf hr hx
end Go.Proofs.YtjfhfgchglaoiaaGreat.AskW
