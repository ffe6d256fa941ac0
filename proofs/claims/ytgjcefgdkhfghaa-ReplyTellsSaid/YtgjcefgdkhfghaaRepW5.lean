/- The walk of saucierref03.Parse: bits that were read. -/
import Derived.Test.YtgjcefgdkhfghaaRepW4
import Derived.Test.YtgjcefgdkhfghaaAG7
import Derived.Test.YtgjcefgdkhfghaaRepF
set_option linter.unusedVariables false
set_option linter.unusedSimpArgs false
namespace Go.Proofs.Ytgjcefgdkhfghaa.AskW
open Go.RowKit Go.Proofs.Ytgjcefgdkhfghaa Go.Proofs.Ytgjcefgdkhfghaa.Ask
theorem sl_drop2 {w : World} {B b o n : Nat} {xs : List Nat} (h : Sl w B (some ⟨b, o, none⟩) n (bs xs)) (hn : 2 ≤ n) : Sl w B (some ⟨b, o + 2, none⟩) (n - 2) (bs (xs.drop 2)) := by
  have := h.drop (k := 2) (cap := n + 3) hn (by omega)
  rw [if_neg (by omega), bs_drop] at this
  exact this
theorem refUnpack_len (A : Option Addr) (n c m : Nat) (l : List Nat) (w : World) (hs : Sl w w.heap.size A n (bs l)) (hl : Bytes l) (hn : n ≤ 100000) (hm : 8 * n = m) :
    Calls Try.prog 45 #[.slice A n c] w fun e w' => ∃ v, e = .returned v ∧ Has w w' 4 v m (bl (unpack l)) := by
  subst hm
  exact refUnpack_any A n c l w hs hl hn
theorem sl_drop0 {w : World} {B : Nat} {A : Option Addr} {xs : List Nat} (h : xs.length = 2) : Sl w B A 0 (bs (xs.drop 2)) :=
  ⟨by simp [h], fun h => absurd h (by omega)⟩
set_option maxRecDepth 100000 in
set_option maxHeartbeats 16000000 in
theorem ref3Parse_b1 (A : Option Addr) (n c : Nat) (xs : List Nat) (w : World) (hs : Sl w w.heap.size A n (bs xs)) (hx : Bytes xs) (hn2 : n ≤ 300) (h2 : 2 ≤ n) (hc : n ≤ c) (hf : xs[0]?.getD 0 = 1) :
    Calls Try.prog 14 #[.slice A n c] w (RetRepTag w (rparse xs).1 .i64 (rparse xs).2) := by
  have q1 : xs.length = n := by simpa using hs.len
  have HWF := cand3_wf hx
  have HP := Lib.hid (rparse_cand xs)
  have HC : cand3 xs = ⟨xs[0]?.getD 0, 0, unpack (xs.drop 2), [], 0, 0⟩ := by unfold cand3; rw [hf]; simp [kdBy, Kd.read, hf]
  obtain ⟨f, ef⟩ : ∃ f, f = xs[0]?.getD 0 := ⟨_, rfl⟩
  obtain ⟨y, ey⟩ : ∃ y, y = xs[1]?.getD 0 := ⟨_, rfl⟩
  have hf8 : f < 256 := by rw [ef]; exact hx.at 0
  have hy8 : y < 256 := by rw [ey]; exact hx.at 1
  have F8 := show IntKind.u8.wrap (f : Int) = f by rw [IntKind.wrap_u8]; omega
  rw [← ef] at HC hf
  have T1 : ((f : Int) == 1) = true := by first | (rw [beq_eq_false_iff_ne]; omega) | (rw [beq_iff_eq]; omega)
  have T2 : ((f : Int) == 2) = false := by first | (rw [beq_eq_false_iff_ne]; omega) | (rw [beq_iff_eq]; omega)
  have T3 : ((f : Int) == 3) = false := by first | (rw [beq_eq_false_iff_ne]; omega) | (rw [beq_iff_eq]; omega)
  have T4 : ((f : Int) == 4) = false := by first | (rw [beq_eq_false_iff_ne]; omega) | (rw [beq_iff_eq]; omega)
  have T23 : ((f : Int) == 23) = false := by first | (rw [beq_eq_false_iff_ne]; omega) | (rw [beq_iff_eq]; omega)
  have T5 : ((f : Int) == 5) = false := by first | (rw [beq_eq_false_iff_ne]; omega) | (rw [beq_iff_eq]; omega)
  have T6 : ((f : Int) == 6) = false := by first | (rw [beq_eq_false_iff_ne]; omega) | (rw [beq_iff_eq]; omega)
  have T15 : ((f : Int) == 15) = false := by first | (rw [beq_eq_false_iff_ne]; omega) | (rw [beq_iff_eq]; omega)
  have T16 : ((f : Int) == 16) = false := by first | (rw [beq_eq_false_iff_ne]; omega) | (rw [beq_iff_eq]; omega)
  rw [HC] at HP HWF
  obtain ⟨P, hP⟩ : ∃ P, P = rparse xs := ⟨_, rfl⟩
  rw [← hP] at HP ⊢
  obtain ⟨b, o, rfl, hbl, d1⟩ := hs.2 (by omega)
  have g1 : w.cell? ⟨b, o, none⟩ = some (.int .u8 (f : Nat)) := (d1 0 (by omega)).trans (by rw [bs_get (by omega), ← ef])
  have g2 : w.cell? ⟨b, o + 1, none⟩ = some (.int .u8 (y : Nat)) := (d1 1 (by omega)).trans (by rw [bs_get (by omega), ← ey])
  have HS := Lib.hid hs
  have HX := Lib.hid hx
  have z1 : (0 : Int) < (n : Int) := by omega
  have z1n : 0 < n := by omega
  have z1c : (0 : Int) ≤ (n : Int) := by omega
  have z1b : (1 : Int) < (n : Int) := by omega
  have z1bn : 1 < n := by omega
  have z2 : ¬ (n : Int) < 2 := by omega
  have z127 : ¬ (127 : Int) < (f : Int) := by omega
  have z22n : 2 ≤ n := by omega
  have z22 : (2 : Int) ≤ (n : Int) := by omega
  have znc : (n : Int) ≤ (c : Int) := by omega
  have HB2 := Lib.hid (hx.drop 2)
  have KU := Lib.hid (fun A2 n2 c2 m X (h : Sl X X.heap.size A2 n2 (bs (xs.drop 2))) (h2 : n2 ≤ 300) (hm : 8 * n2 = m) => refUnpack_len A2 n2 c2 m (xs.drop 2) X h (hx.drop 2) (by omega) hm)
  have HQ1 := Lib.hid q1
  obtain ⟨U, hU⟩ : ∃ U, U = unpack (xs.drop 2) := ⟨_, rfl⟩
  rw [← hU] at HP HWF KU
  by_cases hc2 : c = 2
  · have hn2' : n = 2 := by omega
    subst hc2
    subst hn2'
    clear hU HC hP hs hx hn2 h2 q1 d1 hf ef ey
    go_enter Try.func14, Try.ntmps14
    go_wp2_with fail
    obtain ⟨W1, hW1⟩ : ∃ W1, W1 = ((w.alloc (.cells #[.int .u8 0, .int .u8 0, .slice none 0 0, .slice none 0 0, .int .u16 0, .int .u16 0] 26)).alloc (.cells #[.int .u8 (f : Nat), .int .u8 0, .slice none 0 0, .slice none 0 0, .int .u16 0, .int .u16 0] 26)) := ⟨_, rfl⟩
    have S : Pr w W1 (w.heap.size + 1) #[.int .u8 (f : Nat), .int .u8 0, .slice none 0 0, .slice none 0 0, .int .u16 0, .int .u16 0] := hW1 ▸ Pr_new w #[.int .u8 (f : Nat), .int .u8 0, .slice none 0 0, .slice none 0 0, .int .u16 0, .int .u16 0]
    rw [← hW1]
    clear hW1
    obtain ⟨k, ek⟩ : ∃ k, k = w.heap.size + 1 := ⟨_, rfl⟩
    rw [← ek] at S ⊢
    clear ek
    have slt0 := S.lt
    refine (KU.out _ 0 _ 0 _ (sl_drop0 HQ1.out) (by omega) rfl).mono ?_
    rintro e W2 ⟨v, rfl, H⟩
    obtain ⟨Ab, cb, rfl, kB, SB, oB0⟩ := H.slice
    have S := S.call H.bel
    have skk := S.hk
    have oB : ∀ b o, Ab = some (⟨b, o, none⟩ : Addr) → w.heap.size < b := fun b o h => by have := oB0 b (by rw [h]; rfl); omega
    have oBk : ∀ b o, Ab = some (⟨b, o, none⟩ : Addr) → b ≠ k := fun b o h => by have := oB0 b (by rw [h]; rfl); omega
    clear H oB0
    obtain ⟨c0, c1, c2, c3, c4, c5⟩ := row6 S.ra
    obtain ⟨f0, f1, f2, f3, f4, f5⟩ := free6 S.ra
    have slt := S.lt
    have sne : ¬ W2.heap.size = k := by omega
    have sne2 : ¬ k = W2.heap.size := by omega
    have S := S.set 2 (.slice Ab 0 cb)
    have SB := Sl.setOther (k := k) (i := 2) (v := .slice Ab 0 cb) SB oBk
    have SW := Sl.empty (W2.setCell ⟨k, 2, none⟩ (.slice Ab 0 cb)) (W2.setCell ⟨k, 2, none⟩ (.slice Ab 0 cb)).heap.size none
    have oW : ∀ b o, (none : Option Addr) = some (⟨b, o, none⟩ : Addr) → w.heap.size < b := fun _ _ h => by cases h
    have kW : (0 : Nat) ≤ 0 := Nat.le_refl _
    have RA := S.ra
    go_wp2_with (first
      | (refine wpList_load_row rfl 26 (.tmp 4) rfl k rfl 26 #[.int .u8 (f : Nat), .int .u8 0, .slice Ab 0 cb, .slice none 0 0, .int .u16 0, .int .u16 0] (0, 0) _ RA Try.underlying26 rfl (by kernel_rfl) ?_))
    refine (ref3Bytes_any _ _ _ _ _ _ _ _ _ _ _ _ _ SB SW HWF).mono ?_
    rintro e w2 ⟨v, rfl, H⟩
    have S := S.call H.bel
    have SW := SW.to H.bel
    have SB := SB.to H.bel
    have RA := S.ra
    have rz := S.rz
    have hbel := S.bel
    have hk := S.hk
    have lz := row_lt rz
    obtain ⟨Q, hQ⟩ : ∃ Q, Q = rright ⟨f, 0, U, [], 0, 0⟩ := ⟨_, rfl⟩
    cases Q
    case false =>
      have HR := Lib.hid hQ.symm
      have hB : rbytesE ⟨f, 0, U, [], 0, 0⟩ = ([], 13) := by unfold rbytesE; rw [HR.out]; rfl
      rw [hB] at H ⊢
      clear hB hQ H
      go_wp2_with (refine wpList_store_grown rfl 26 (.tmp 2) _ rfl w.heap.size #[.int .u8 0, .int .u8 0, .slice none 0 0, .slice none 0 0, .int .u16 0, .int .u16 0] rfl rfl 26 _ rz (by kernel_rfl) rfl (by simp [Value.oneCell']) ?_; intro w9 h9 g9 s9)
      refine bodyPost_row_tmp rfl w.heap.size 26 #[.int .u8 0, .int .u8 0, .slice none 0 0, .slice none 0 0, .int .u16 0, .int .u16 0] (0, 0) _ (.int .i64 13) rfl h9 Try.underlying26 rfl (by kernel_rfl) rfl rfl ?_
      rw [HP.out, if_neg (by rw [HR.out]; simp)]
      exact RetRepTag.bare _ _ (hbel.grown g9 hbel.size (fun k hk => by injection hk with hk; omega))
    case true =>
      have HR := Lib.hid hQ.symm
      have hB : rbytesE ⟨f, 0, U, [], 0, 0⟩ = (rbytes ⟨f, 0, U, [], 0, 0⟩, 0) := by unfold rbytesE; rw [HR.out]; rfl
      rw [hB] at H ⊢
      dsimp only at H
      have hbl : Bytes (rbytes ⟨f, 0, U, [], 0, 0⟩) := by
        obtain ⟨k', _, _, hb'⟩ := rright_kd HR.out
        rw [hb']; exact kbytes_lt k' _ HWF
      obtain ⟨Av, cv, rfl, hcv, SV, _⟩ := H.slice
      have H1 := run_string (P := Try.prog) w2 _ 29 9 5 Try.underlying29 Try.underlying5 Try.underlying9 Av _ cv _ SV
      have H2 := run_string (P := Try.prog) w2 _ 29 9 5 Try.underlying29 Try.underlying5 Try.underlying9 (some ⟨b, o, none⟩) 2 2 _ (HS.out.to hbel)
      have hSE := strB_eq (rbytes ⟨f, 0, U, [], 0, 0⟩) xs hbl HX.out
      by_cases hq : rbytes ⟨f, 0, U, [], 0, 0⟩ = xs
      case neg =>
        rw [show (rbytes ⟨f, 0, U, [], 0, 0⟩ == xs) = false by rw [beq_eq_false_iff_ne]; exact hq] at hSE
        have HQ := Lib.hid hq
        clear hB hQ H hq SV hcv
        go_wp2_with (refine wpList_store_grown rfl 26 (.tmp 2) _ rfl w.heap.size #[.int .u8 0, .int .u8 0, .slice none 0 0, .slice none 0 0, .int .u16 0, .int .u16 0] rfl rfl 26 _ rz (by kernel_rfl) rfl (by simp [Value.oneCell']) ?_; intro w9 h9 g9 s9)
        refine bodyPost_row_tmp rfl w.heap.size 26 #[.int .u8 0, .int .u8 0, .slice none 0 0, .slice none 0 0, .int .u16 0, .int .u16 0] (0, 0) _ (.int .i64 13) rfl h9 Try.underlying26 rfl (by kernel_rfl) rfl rfl ?_
        rw [HP.out, if_neg (by rw [HR.out]; simp; exact HQ.out)]
        exact RetRepTag.bare _ _ (hbel.grown g9 hbel.size (fun k hk => by injection hk with hk; omega))
      case pos =>
        have HQ := Lib.hid hq
        rw [hq] at H1 SV ⊢
        clear hB hQ H hSE hq
        go_wp2_with (first
          | (refine wpList_load_row rfl 26 (.tmp 4) rfl k rfl 26 #[.int .u8 (f : Nat), .int .u8 0, .slice Ab 0 cb, .slice none 0 0, .int .u16 0, .int .u16 0] (0, 0) _ RA Try.underlying26 rfl (by kernel_rfl) ?_)
          | (refine wpList_store_grown rfl 26 (.tmp 2) _ rfl w.heap.size #[.int .u8 (f : Nat), .int .u8 0, .slice Ab 0 cb, .slice none 0 0, .int .u16 0, .int .u16 0] rfl rfl 26 _ rz (by kernel_rfl) rfl (by simp [Value.oneCell']) ?_; intro w9 h9 g9 s9))
        refine bodyPost_row_tmp rfl w.heap.size 26 #[.int .u8 (f : Nat), .int .u8 0, .slice Ab 0 cb, .slice none 0 0, .int .u16 0, .int .u16 0] (0, 0) _ (.int .i64 0) rfl h9 Try.underlying26 rfl (by kernel_rfl) rfl rfl ?_
        rw [HP.out, if_pos (by rw [HR.out, HQ.out]; simp)]
        exact ⟨_, _, _, _, _, _, rfl, SB.grown g9 (fun b o h e => by have := oB b o h; injection e with e; omega), SW.grown g9 (fun b o h e => by have := oW b o h; injection e with e; omega), kB, kW, (fun b o h => by have := oB b o h; omega), (fun b o h => by have := oW b o h; omega), hbel.grown g9 hbel.size (fun k hk => by injection hk with hk; omega)⟩
  · obtain ⟨N, hN⟩ : ∃ N, N = n - 2 := ⟨_, rfl⟩
    have hN3 : N ≤ 300 := by omega
    obtain ⟨M, hM⟩ : ∃ M, M = 8 * N := ⟨_, rfl⟩
    have HN := Lib.hid hN
    have HM := Lib.hid hM
    clear hN hM
    clear hU HC hP hs hx hn2 h2 q1 d1 hf ef ey
    go_enter Try.func14, Try.ntmps14
    go_wp2_with fail
    obtain ⟨W1, hW1⟩ : ∃ W1, W1 = ((w.alloc (.cells #[.int .u8 0, .int .u8 0, .slice none 0 0, .slice none 0 0, .int .u16 0, .int .u16 0] 26)).alloc (.cells #[.int .u8 (f : Nat), .int .u8 0, .slice none 0 0, .slice none 0 0, .int .u16 0, .int .u16 0] 26)) := ⟨_, rfl⟩
    have S : Pr w W1 (w.heap.size + 1) #[.int .u8 (f : Nat), .int .u8 0, .slice none 0 0, .slice none 0 0, .int .u16 0, .int .u16 0] := hW1 ▸ Pr_new w #[.int .u8 (f : Nat), .int .u8 0, .slice none 0 0, .slice none 0 0, .int .u16 0, .int .u16 0]
    rw [← hW1]
    clear hW1
    obtain ⟨k, ek⟩ : ∃ k, k = w.heap.size + 1 := ⟨_, rfl⟩
    rw [← ek] at S ⊢
    clear ek
    have slt0 := S.lt
    have SD := sl_drop2 (HS.out.to S.bel) z22n
    rw [← HN.out] at SD ⊢
    refine (KU.out _ N _ M _ SD hN3 HM.out.symm).mono ?_
    clear SD
    rintro e W2 ⟨v, rfl, H⟩
    obtain ⟨Ab, cb, rfl, kB, SB, oB0⟩ := H.slice
    have S := S.call H.bel
    have skk := S.hk
    have oB : ∀ b o, Ab = some (⟨b, o, none⟩ : Addr) → w.heap.size < b := fun b o h => by have := oB0 b (by rw [h]; rfl); omega
    have oBk : ∀ b o, Ab = some (⟨b, o, none⟩ : Addr) → b ≠ k := fun b o h => by have := oB0 b (by rw [h]; rfl); omega
    clear H oB0
    obtain ⟨c0, c1, c2, c3, c4, c5⟩ := row6 S.ra
    obtain ⟨f0, f1, f2, f3, f4, f5⟩ := free6 S.ra
    have slt := S.lt
    have sne : ¬ W2.heap.size = k := by omega
    have sne2 : ¬ k = W2.heap.size := by omega
    have S := S.set 2 (.slice Ab M cb)
    have SB := Sl.setOther (k := k) (i := 2) (v := .slice Ab M cb) SB oBk
    have SW := Sl.empty (W2.setCell ⟨k, 2, none⟩ (.slice Ab M cb)) (W2.setCell ⟨k, 2, none⟩ (.slice Ab M cb)).heap.size none
    have oW : ∀ b o, (none : Option Addr) = some (⟨b, o, none⟩ : Addr) → w.heap.size < b := fun _ _ h => by cases h
    have kW : (0 : Nat) ≤ 0 := Nat.le_refl _
    have RA := S.ra
    go_wp2_with (first
      | (refine wpList_load_row rfl 26 (.tmp 4) rfl k rfl 26 #[.int .u8 (f : Nat), .int .u8 0, .slice Ab M cb, .slice none 0 0, .int .u16 0, .int .u16 0] (0, 0) _ RA Try.underlying26 rfl (by kernel_rfl) ?_))
    refine (ref3Bytes_any _ _ _ _ _ _ _ _ _ _ _ _ _ SB SW HWF).mono ?_
    rintro e w2 ⟨v, rfl, H⟩
    have S := S.call H.bel
    have SW := SW.to H.bel
    have SB := SB.to H.bel
    have RA := S.ra
    have rz := S.rz
    have hbel := S.bel
    have hk := S.hk
    have lz := row_lt rz
    obtain ⟨Q, hQ⟩ : ∃ Q, Q = rright ⟨f, 0, U, [], 0, 0⟩ := ⟨_, rfl⟩
    cases Q
    case false =>
      have HR := Lib.hid hQ.symm
      have hB : rbytesE ⟨f, 0, U, [], 0, 0⟩ = ([], 13) := by unfold rbytesE; rw [HR.out]; rfl
      rw [hB] at H ⊢
      clear hB hQ H
      go_wp2_with (refine wpList_store_grown rfl 26 (.tmp 2) _ rfl w.heap.size #[.int .u8 0, .int .u8 0, .slice none 0 0, .slice none 0 0, .int .u16 0, .int .u16 0] rfl rfl 26 _ rz (by kernel_rfl) rfl (by simp [Value.oneCell']) ?_; intro w9 h9 g9 s9)
      refine bodyPost_row_tmp rfl w.heap.size 26 #[.int .u8 0, .int .u8 0, .slice none 0 0, .slice none 0 0, .int .u16 0, .int .u16 0] (0, 0) _ (.int .i64 13) rfl h9 Try.underlying26 rfl (by kernel_rfl) rfl rfl ?_
      rw [HP.out, if_neg (by rw [HR.out]; simp)]
      exact RetRepTag.bare _ _ (hbel.grown g9 hbel.size (fun k hk => by injection hk with hk; omega))
    case true =>
      have HR := Lib.hid hQ.symm
      have hB : rbytesE ⟨f, 0, U, [], 0, 0⟩ = (rbytes ⟨f, 0, U, [], 0, 0⟩, 0) := by unfold rbytesE; rw [HR.out]; rfl
      rw [hB] at H ⊢
      dsimp only at H
      have hbl : Bytes (rbytes ⟨f, 0, U, [], 0, 0⟩) := by
        obtain ⟨k', _, _, hb'⟩ := rright_kd HR.out
        rw [hb']; exact kbytes_lt k' _ HWF
      obtain ⟨Av, cv, rfl, hcv, SV, _⟩ := H.slice
      have H1 := run_string (P := Try.prog) w2 _ 29 9 5 Try.underlying29 Try.underlying5 Try.underlying9 Av _ cv _ SV
      have H2 := run_string (P := Try.prog) w2 _ 29 9 5 Try.underlying29 Try.underlying5 Try.underlying9 (some ⟨b, o, none⟩) n c _ (HS.out.to hbel)
      have hSE := strB_eq (rbytes ⟨f, 0, U, [], 0, 0⟩) xs hbl HX.out
      by_cases hq : rbytes ⟨f, 0, U, [], 0, 0⟩ = xs
      case neg =>
        rw [show (rbytes ⟨f, 0, U, [], 0, 0⟩ == xs) = false by rw [beq_eq_false_iff_ne]; exact hq] at hSE
        have HQ := Lib.hid hq
        clear hB hQ H hq SV hcv
        go_wp2_with (refine wpList_store_grown rfl 26 (.tmp 2) _ rfl w.heap.size #[.int .u8 0, .int .u8 0, .slice none 0 0, .slice none 0 0, .int .u16 0, .int .u16 0] rfl rfl 26 _ rz (by kernel_rfl) rfl (by simp [Value.oneCell']) ?_; intro w9 h9 g9 s9)
        refine bodyPost_row_tmp rfl w.heap.size 26 #[.int .u8 0, .int .u8 0, .slice none 0 0, .slice none 0 0, .int .u16 0, .int .u16 0] (0, 0) _ (.int .i64 13) rfl h9 Try.underlying26 rfl (by kernel_rfl) rfl rfl ?_
        rw [HP.out, if_neg (by rw [HR.out]; simp; exact HQ.out)]
        exact RetRepTag.bare _ _ (hbel.grown g9 hbel.size (fun k hk => by injection hk with hk; omega))
      case pos =>
        have HQ := Lib.hid hq
        rw [hq] at H1 SV ⊢
        clear hB hQ H hSE hq
        go_wp2_with (first
          | (refine wpList_load_row rfl 26 (.tmp 4) rfl k rfl 26 #[.int .u8 (f : Nat), .int .u8 0, .slice Ab M cb, .slice none 0 0, .int .u16 0, .int .u16 0] (0, 0) _ RA Try.underlying26 rfl (by kernel_rfl) ?_)
          | (refine wpList_store_grown rfl 26 (.tmp 2) _ rfl w.heap.size #[.int .u8 (f : Nat), .int .u8 0, .slice Ab M cb, .slice none 0 0, .int .u16 0, .int .u16 0] rfl rfl 26 _ rz (by kernel_rfl) rfl (by simp [Value.oneCell']) ?_; intro w9 h9 g9 s9))
        refine bodyPost_row_tmp rfl w.heap.size 26 #[.int .u8 (f : Nat), .int .u8 0, .slice Ab M cb, .slice none 0 0, .int .u16 0, .int .u16 0] (0, 0) _ (.int .i64 0) rfl h9 Try.underlying26 rfl (by kernel_rfl) rfl rfl ?_
        rw [HP.out, if_pos (by rw [HR.out, HQ.out]; simp)]
        exact ⟨_, _, _, _, _, _, rfl, SB.grown g9 (fun b o h e => by have := oB b o h; injection e with e; omega), SW.grown g9 (fun b o h e => by have := oW b o h; injection e with e; omega), kB, kW, (fun b o h => by have := oB b o h; omega), (fun b o h => by have := oW b o h; omega), hbel.grown g9 hbel.size (fun k hk => by injection hk with hk; omega)⟩
set_option maxRecDepth 100000 in
set_option maxHeartbeats 16000000 in
theorem ref3Parse_b2 (A : Option Addr) (n c : Nat) (xs : List Nat) (w : World) (hs : Sl w w.heap.size A n (bs xs)) (hx : Bytes xs) (hn2 : n ≤ 300) (h2 : 2 ≤ n) (hc : n ≤ c) (hf : xs[0]?.getD 0 = 2) :
    Calls Try.prog 14 #[.slice A n c] w (RetRepTag w (rparse xs).1 .i64 (rparse xs).2) := by
  have q1 : xs.length = n := by simpa using hs.len
  have HWF := cand3_wf hx
  have HP := Lib.hid (rparse_cand xs)
  have HC : cand3 xs = ⟨xs[0]?.getD 0, 0, unpack (xs.drop 2), [], 0, 0⟩ := by unfold cand3; rw [hf]; simp [kdBy, Kd.read, hf]
  obtain ⟨f, ef⟩ : ∃ f, f = xs[0]?.getD 0 := ⟨_, rfl⟩
  obtain ⟨y, ey⟩ : ∃ y, y = xs[1]?.getD 0 := ⟨_, rfl⟩
  have hf8 : f < 256 := by rw [ef]; exact hx.at 0
  have hy8 : y < 256 := by rw [ey]; exact hx.at 1
  have F8 := show IntKind.u8.wrap (f : Int) = f by rw [IntKind.wrap_u8]; omega
  rw [← ef] at HC hf
  have T1 : ((f : Int) == 1) = false := by first | (rw [beq_eq_false_iff_ne]; omega) | (rw [beq_iff_eq]; omega)
  have T2 : ((f : Int) == 2) = true := by first | (rw [beq_eq_false_iff_ne]; omega) | (rw [beq_iff_eq]; omega)
  have T3 : ((f : Int) == 3) = false := by first | (rw [beq_eq_false_iff_ne]; omega) | (rw [beq_iff_eq]; omega)
  have T4 : ((f : Int) == 4) = false := by first | (rw [beq_eq_false_iff_ne]; omega) | (rw [beq_iff_eq]; omega)
  have T23 : ((f : Int) == 23) = false := by first | (rw [beq_eq_false_iff_ne]; omega) | (rw [beq_iff_eq]; omega)
  have T5 : ((f : Int) == 5) = false := by first | (rw [beq_eq_false_iff_ne]; omega) | (rw [beq_iff_eq]; omega)
  have T6 : ((f : Int) == 6) = false := by first | (rw [beq_eq_false_iff_ne]; omega) | (rw [beq_iff_eq]; omega)
  have T15 : ((f : Int) == 15) = false := by first | (rw [beq_eq_false_iff_ne]; omega) | (rw [beq_iff_eq]; omega)
  have T16 : ((f : Int) == 16) = false := by first | (rw [beq_eq_false_iff_ne]; omega) | (rw [beq_iff_eq]; omega)
  rw [HC] at HP HWF
  obtain ⟨P, hP⟩ : ∃ P, P = rparse xs := ⟨_, rfl⟩
  rw [← hP] at HP ⊢
  obtain ⟨b, o, rfl, hbl, d1⟩ := hs.2 (by omega)
  have g1 : w.cell? ⟨b, o, none⟩ = some (.int .u8 (f : Nat)) := (d1 0 (by omega)).trans (by rw [bs_get (by omega), ← ef])
  have g2 : w.cell? ⟨b, o + 1, none⟩ = some (.int .u8 (y : Nat)) := (d1 1 (by omega)).trans (by rw [bs_get (by omega), ← ey])
  have HS := Lib.hid hs
  have HX := Lib.hid hx
  have z1 : (0 : Int) < (n : Int) := by omega
  have z1n : 0 < n := by omega
  have z1c : (0 : Int) ≤ (n : Int) := by omega
  have z1b : (1 : Int) < (n : Int) := by omega
  have z1bn : 1 < n := by omega
  have z2 : ¬ (n : Int) < 2 := by omega
  have z127 : ¬ (127 : Int) < (f : Int) := by omega
  have z22n : 2 ≤ n := by omega
  have z22 : (2 : Int) ≤ (n : Int) := by omega
  have znc : (n : Int) ≤ (c : Int) := by omega
  have HB2 := Lib.hid (hx.drop 2)
  have KU := Lib.hid (fun A2 n2 c2 m X (h : Sl X X.heap.size A2 n2 (bs (xs.drop 2))) (h2 : n2 ≤ 300) (hm : 8 * n2 = m) => refUnpack_len A2 n2 c2 m (xs.drop 2) X h (hx.drop 2) (by omega) hm)
  have HQ1 := Lib.hid q1
  obtain ⟨U, hU⟩ : ∃ U, U = unpack (xs.drop 2) := ⟨_, rfl⟩
  rw [← hU] at HP HWF KU
  by_cases hc2 : c = 2
  · have hn2' : n = 2 := by omega
    subst hc2
    subst hn2'
    clear hU HC hP hs hx hn2 h2 q1 d1 hf ef ey
    go_enter Try.func14, Try.ntmps14
    go_wp2_with fail
    obtain ⟨W1, hW1⟩ : ∃ W1, W1 = ((w.alloc (.cells #[.int .u8 0, .int .u8 0, .slice none 0 0, .slice none 0 0, .int .u16 0, .int .u16 0] 26)).alloc (.cells #[.int .u8 (f : Nat), .int .u8 0, .slice none 0 0, .slice none 0 0, .int .u16 0, .int .u16 0] 26)) := ⟨_, rfl⟩
    have S : Pr w W1 (w.heap.size + 1) #[.int .u8 (f : Nat), .int .u8 0, .slice none 0 0, .slice none 0 0, .int .u16 0, .int .u16 0] := hW1 ▸ Pr_new w #[.int .u8 (f : Nat), .int .u8 0, .slice none 0 0, .slice none 0 0, .int .u16 0, .int .u16 0]
    rw [← hW1]
    clear hW1
    obtain ⟨k, ek⟩ : ∃ k, k = w.heap.size + 1 := ⟨_, rfl⟩
    rw [← ek] at S ⊢
    clear ek
    have slt0 := S.lt
    refine (KU.out _ 0 _ 0 _ (sl_drop0 HQ1.out) (by omega) rfl).mono ?_
    rintro e W2 ⟨v, rfl, H⟩
    obtain ⟨Ab, cb, rfl, kB, SB, oB0⟩ := H.slice
    have S := S.call H.bel
    have skk := S.hk
    have oB : ∀ b o, Ab = some (⟨b, o, none⟩ : Addr) → w.heap.size < b := fun b o h => by have := oB0 b (by rw [h]; rfl); omega
    have oBk : ∀ b o, Ab = some (⟨b, o, none⟩ : Addr) → b ≠ k := fun b o h => by have := oB0 b (by rw [h]; rfl); omega
    clear H oB0
    obtain ⟨c0, c1, c2, c3, c4, c5⟩ := row6 S.ra
    obtain ⟨f0, f1, f2, f3, f4, f5⟩ := free6 S.ra
    have slt := S.lt
    have sne : ¬ W2.heap.size = k := by omega
    have sne2 : ¬ k = W2.heap.size := by omega
    have S := S.set 2 (.slice Ab 0 cb)
    have SB := Sl.setOther (k := k) (i := 2) (v := .slice Ab 0 cb) SB oBk
    have SW := Sl.empty (W2.setCell ⟨k, 2, none⟩ (.slice Ab 0 cb)) (W2.setCell ⟨k, 2, none⟩ (.slice Ab 0 cb)).heap.size none
    have oW : ∀ b o, (none : Option Addr) = some (⟨b, o, none⟩ : Addr) → w.heap.size < b := fun _ _ h => by cases h
    have kW : (0 : Nat) ≤ 0 := Nat.le_refl _
    have RA := S.ra
    go_wp2_with (first
      | (refine wpList_load_row rfl 26 (.tmp 4) rfl k rfl 26 #[.int .u8 (f : Nat), .int .u8 0, .slice Ab 0 cb, .slice none 0 0, .int .u16 0, .int .u16 0] (0, 0) _ RA Try.underlying26 rfl (by kernel_rfl) ?_))
    refine (ref3Bytes_any _ _ _ _ _ _ _ _ _ _ _ _ _ SB SW HWF).mono ?_
    rintro e w2 ⟨v, rfl, H⟩
    have S := S.call H.bel
    have SW := SW.to H.bel
    have SB := SB.to H.bel
    have RA := S.ra
    have rz := S.rz
    have hbel := S.bel
    have hk := S.hk
    have lz := row_lt rz
    obtain ⟨Q, hQ⟩ : ∃ Q, Q = rright ⟨f, 0, U, [], 0, 0⟩ := ⟨_, rfl⟩
    cases Q
    case false =>
      have HR := Lib.hid hQ.symm
      have hB : rbytesE ⟨f, 0, U, [], 0, 0⟩ = ([], 13) := by unfold rbytesE; rw [HR.out]; rfl
      rw [hB] at H ⊢
      clear hB hQ H
      go_wp2_with (refine wpList_store_grown rfl 26 (.tmp 2) _ rfl w.heap.size #[.int .u8 0, .int .u8 0, .slice none 0 0, .slice none 0 0, .int .u16 0, .int .u16 0] rfl rfl 26 _ rz (by kernel_rfl) rfl (by simp [Value.oneCell']) ?_; intro w9 h9 g9 s9)
      refine bodyPost_row_tmp rfl w.heap.size 26 #[.int .u8 0, .int .u8 0, .slice none 0 0, .slice none 0 0, .int .u16 0, .int .u16 0] (0, 0) _ (.int .i64 13) rfl h9 Try.underlying26 rfl (by kernel_rfl) rfl rfl ?_
      rw [HP.out, if_neg (by rw [HR.out]; simp)]
      exact RetRepTag.bare _ _ (hbel.grown g9 hbel.size (fun k hk => by injection hk with hk; omega))
    case true =>
      have HR := Lib.hid hQ.symm
      have hB : rbytesE ⟨f, 0, U, [], 0, 0⟩ = (rbytes ⟨f, 0, U, [], 0, 0⟩, 0) := by unfold rbytesE; rw [HR.out]; rfl
      rw [hB] at H ⊢
      dsimp only at H
      have hbl : Bytes (rbytes ⟨f, 0, U, [], 0, 0⟩) := by
        obtain ⟨k', _, _, hb'⟩ := rright_kd HR.out
        rw [hb']; exact kbytes_lt k' _ HWF
      obtain ⟨Av, cv, rfl, hcv, SV, _⟩ := H.slice
      have H1 := run_string (P := Try.prog) w2 _ 29 9 5 Try.underlying29 Try.underlying5 Try.underlying9 Av _ cv _ SV
      have H2 := run_string (P := Try.prog) w2 _ 29 9 5 Try.underlying29 Try.underlying5 Try.underlying9 (some ⟨b, o, none⟩) 2 2 _ (HS.out.to hbel)
      have hSE := strB_eq (rbytes ⟨f, 0, U, [], 0, 0⟩) xs hbl HX.out
      by_cases hq : rbytes ⟨f, 0, U, [], 0, 0⟩ = xs
      case neg =>
        rw [show (rbytes ⟨f, 0, U, [], 0, 0⟩ == xs) = false by rw [beq_eq_false_iff_ne]; exact hq] at hSE
        have HQ := Lib.hid hq
        clear hB hQ H hq SV hcv
        go_wp2_with (refine wpList_store_grown rfl 26 (.tmp 2) _ rfl w.heap.size #[.int .u8 0, .int .u8 0, .slice none 0 0, .slice none 0 0, .int .u16 0, .int .u16 0] rfl rfl 26 _ rz (by kernel_rfl) rfl (by simp [Value.oneCell']) ?_; intro w9 h9 g9 s9)
        refine bodyPost_row_tmp rfl w.heap.size 26 #[.int .u8 0, .int .u8 0, .slice none 0 0, .slice none 0 0, .int .u16 0, .int .u16 0] (0, 0) _ (.int .i64 13) rfl h9 Try.underlying26 rfl (by kernel_rfl) rfl rfl ?_
        rw [HP.out, if_neg (by rw [HR.out]; simp; exact HQ.out)]
        exact RetRepTag.bare _ _ (hbel.grown g9 hbel.size (fun k hk => by injection hk with hk; omega))
      case pos =>
        have HQ := Lib.hid hq
        rw [hq] at H1 SV ⊢
        clear hB hQ H hSE hq
        go_wp2_with (first
          | (refine wpList_load_row rfl 26 (.tmp 4) rfl k rfl 26 #[.int .u8 (f : Nat), .int .u8 0, .slice Ab 0 cb, .slice none 0 0, .int .u16 0, .int .u16 0] (0, 0) _ RA Try.underlying26 rfl (by kernel_rfl) ?_)
          | (refine wpList_store_grown rfl 26 (.tmp 2) _ rfl w.heap.size #[.int .u8 (f : Nat), .int .u8 0, .slice Ab 0 cb, .slice none 0 0, .int .u16 0, .int .u16 0] rfl rfl 26 _ rz (by kernel_rfl) rfl (by simp [Value.oneCell']) ?_; intro w9 h9 g9 s9))
        refine bodyPost_row_tmp rfl w.heap.size 26 #[.int .u8 (f : Nat), .int .u8 0, .slice Ab 0 cb, .slice none 0 0, .int .u16 0, .int .u16 0] (0, 0) _ (.int .i64 0) rfl h9 Try.underlying26 rfl (by kernel_rfl) rfl rfl ?_
        rw [HP.out, if_pos (by rw [HR.out, HQ.out]; simp)]
        exact ⟨_, _, _, _, _, _, rfl, SB.grown g9 (fun b o h e => by have := oB b o h; injection e with e; omega), SW.grown g9 (fun b o h e => by have := oW b o h; injection e with e; omega), kB, kW, (fun b o h => by have := oB b o h; omega), (fun b o h => by have := oW b o h; omega), hbel.grown g9 hbel.size (fun k hk => by injection hk with hk; omega)⟩
  · obtain ⟨N, hN⟩ : ∃ N, N = n - 2 := ⟨_, rfl⟩
    have hN3 : N ≤ 300 := by omega
    obtain ⟨M, hM⟩ : ∃ M, M = 8 * N := ⟨_, rfl⟩
    have HN := Lib.hid hN
    have HM := Lib.hid hM
    clear hN hM
    clear hU HC hP hs hx hn2 h2 q1 d1 hf ef ey
    go_enter Try.func14, Try.ntmps14
    go_wp2_with fail
    obtain ⟨W1, hW1⟩ : ∃ W1, W1 = ((w.alloc (.cells #[.int .u8 0, .int .u8 0, .slice none 0 0, .slice none 0 0, .int .u16 0, .int .u16 0] 26)).alloc (.cells #[.int .u8 (f : Nat), .int .u8 0, .slice none 0 0, .slice none 0 0, .int .u16 0, .int .u16 0] 26)) := ⟨_, rfl⟩
    have S : Pr w W1 (w.heap.size + 1) #[.int .u8 (f : Nat), .int .u8 0, .slice none 0 0, .slice none 0 0, .int .u16 0, .int .u16 0] := hW1 ▸ Pr_new w #[.int .u8 (f : Nat), .int .u8 0, .slice none 0 0, .slice none 0 0, .int .u16 0, .int .u16 0]
    rw [← hW1]
    clear hW1
    obtain ⟨k, ek⟩ : ∃ k, k = w.heap.size + 1 := ⟨_, rfl⟩
    rw [← ek] at S ⊢
    clear ek
    have slt0 := S.lt
    have SD := sl_drop2 (HS.out.to S.bel) z22n
    rw [← HN.out] at SD ⊢
    refine (KU.out _ N _ M _ SD hN3 HM.out.symm).mono ?_
    clear SD
    rintro e W2 ⟨v, rfl, H⟩
    obtain ⟨Ab, cb, rfl, kB, SB, oB0⟩ := H.slice
    have S := S.call H.bel
    have skk := S.hk
    have oB : ∀ b o, Ab = some (⟨b, o, none⟩ : Addr) → w.heap.size < b := fun b o h => by have := oB0 b (by rw [h]; rfl); omega
    have oBk : ∀ b o, Ab = some (⟨b, o, none⟩ : Addr) → b ≠ k := fun b o h => by have := oB0 b (by rw [h]; rfl); omega
    clear H oB0
    obtain ⟨c0, c1, c2, c3, c4, c5⟩ := row6 S.ra
    obtain ⟨f0, f1, f2, f3, f4, f5⟩ := free6 S.ra
    have slt := S.lt
    have sne : ¬ W2.heap.size = k := by omega
    have sne2 : ¬ k = W2.heap.size := by omega
    have S := S.set 2 (.slice Ab M cb)
    have SB := Sl.setOther (k := k) (i := 2) (v := .slice Ab M cb) SB oBk
    have SW := Sl.empty (W2.setCell ⟨k, 2, none⟩ (.slice Ab M cb)) (W2.setCell ⟨k, 2, none⟩ (.slice Ab M cb)).heap.size none
    have oW : ∀ b o, (none : Option Addr) = some (⟨b, o, none⟩ : Addr) → w.heap.size < b := fun _ _ h => by cases h
    have kW : (0 : Nat) ≤ 0 := Nat.le_refl _
    have RA := S.ra
    go_wp2_with (first
      | (refine wpList_load_row rfl 26 (.tmp 4) rfl k rfl 26 #[.int .u8 (f : Nat), .int .u8 0, .slice Ab M cb, .slice none 0 0, .int .u16 0, .int .u16 0] (0, 0) _ RA Try.underlying26 rfl (by kernel_rfl) ?_))
    refine (ref3Bytes_any _ _ _ _ _ _ _ _ _ _ _ _ _ SB SW HWF).mono ?_
    rintro e w2 ⟨v, rfl, H⟩
    have S := S.call H.bel
    have SW := SW.to H.bel
    have SB := SB.to H.bel
    have RA := S.ra
    have rz := S.rz
    have hbel := S.bel
    have hk := S.hk
    have lz := row_lt rz
    obtain ⟨Q, hQ⟩ : ∃ Q, Q = rright ⟨f, 0, U, [], 0, 0⟩ := ⟨_, rfl⟩
    cases Q
    case false =>
      have HR := Lib.hid hQ.symm
      have hB : rbytesE ⟨f, 0, U, [], 0, 0⟩ = ([], 13) := by unfold rbytesE; rw [HR.out]; rfl
      rw [hB] at H ⊢
      clear hB hQ H
      go_wp2_with (refine wpList_store_grown rfl 26 (.tmp 2) _ rfl w.heap.size #[.int .u8 0, .int .u8 0, .slice none 0 0, .slice none 0 0, .int .u16 0, .int .u16 0] rfl rfl 26 _ rz (by kernel_rfl) rfl (by simp [Value.oneCell']) ?_; intro w9 h9 g9 s9)
      refine bodyPost_row_tmp rfl w.heap.size 26 #[.int .u8 0, .int .u8 0, .slice none 0 0, .slice none 0 0, .int .u16 0, .int .u16 0] (0, 0) _ (.int .i64 13) rfl h9 Try.underlying26 rfl (by kernel_rfl) rfl rfl ?_
      rw [HP.out, if_neg (by rw [HR.out]; simp)]
      exact RetRepTag.bare _ _ (hbel.grown g9 hbel.size (fun k hk => by injection hk with hk; omega))
    case true =>
      have HR := Lib.hid hQ.symm
      have hB : rbytesE ⟨f, 0, U, [], 0, 0⟩ = (rbytes ⟨f, 0, U, [], 0, 0⟩, 0) := by unfold rbytesE; rw [HR.out]; rfl
      rw [hB] at H ⊢
      dsimp only at H
      have hbl : Bytes (rbytes ⟨f, 0, U, [], 0, 0⟩) := by
        obtain ⟨k', _, _, hb'⟩ := rright_kd HR.out
        rw [hb']; exact kbytes_lt k' _ HWF
      obtain ⟨Av, cv, rfl, hcv, SV, _⟩ := H.slice
      have H1 := run_string (P := Try.prog) w2 _ 29 9 5 Try.underlying29 Try.underlying5 Try.underlying9 Av _ cv _ SV
      have H2 := run_string (P := Try.prog) w2 _ 29 9 5 Try.underlying29 Try.underlying5 Try.underlying9 (some ⟨b, o, none⟩) n c _ (HS.out.to hbel)
      have hSE := strB_eq (rbytes ⟨f, 0, U, [], 0, 0⟩) xs hbl HX.out
      by_cases hq : rbytes ⟨f, 0, U, [], 0, 0⟩ = xs
      case neg =>
        rw [show (rbytes ⟨f, 0, U, [], 0, 0⟩ == xs) = false by rw [beq_eq_false_iff_ne]; exact hq] at hSE
        have HQ := Lib.hid hq
        clear hB hQ H hq SV hcv
        go_wp2_with (refine wpList_store_grown rfl 26 (.tmp 2) _ rfl w.heap.size #[.int .u8 0, .int .u8 0, .slice none 0 0, .slice none 0 0, .int .u16 0, .int .u16 0] rfl rfl 26 _ rz (by kernel_rfl) rfl (by simp [Value.oneCell']) ?_; intro w9 h9 g9 s9)
        refine bodyPost_row_tmp rfl w.heap.size 26 #[.int .u8 0, .int .u8 0, .slice none 0 0, .slice none 0 0, .int .u16 0, .int .u16 0] (0, 0) _ (.int .i64 13) rfl h9 Try.underlying26 rfl (by kernel_rfl) rfl rfl ?_
        rw [HP.out, if_neg (by rw [HR.out]; simp; exact HQ.out)]
        exact RetRepTag.bare _ _ (hbel.grown g9 hbel.size (fun k hk => by injection hk with hk; omega))
      case pos =>
        have HQ := Lib.hid hq
        rw [hq] at H1 SV ⊢
        clear hB hQ H hSE hq
        go_wp2_with (first
          | (refine wpList_load_row rfl 26 (.tmp 4) rfl k rfl 26 #[.int .u8 (f : Nat), .int .u8 0, .slice Ab M cb, .slice none 0 0, .int .u16 0, .int .u16 0] (0, 0) _ RA Try.underlying26 rfl (by kernel_rfl) ?_)
          | (refine wpList_store_grown rfl 26 (.tmp 2) _ rfl w.heap.size #[.int .u8 (f : Nat), .int .u8 0, .slice Ab M cb, .slice none 0 0, .int .u16 0, .int .u16 0] rfl rfl 26 _ rz (by kernel_rfl) rfl (by simp [Value.oneCell']) ?_; intro w9 h9 g9 s9))
        refine bodyPost_row_tmp rfl w.heap.size 26 #[.int .u8 (f : Nat), .int .u8 0, .slice Ab M cb, .slice none 0 0, .int .u16 0, .int .u16 0] (0, 0) _ (.int .i64 0) rfl h9 Try.underlying26 rfl (by kernel_rfl) rfl rfl ?_
        rw [HP.out, if_pos (by rw [HR.out, HQ.out]; simp)]
        exact ⟨_, _, _, _, _, _, rfl, SB.grown g9 (fun b o h e => by have := oB b o h; injection e with e; omega), SW.grown g9 (fun b o h e => by have := oW b o h; injection e with e; omega), kB, kW, (fun b o h => by have := oB b o h; omega), (fun b o h => by have := oW b o h; omega), hbel.grown g9 hbel.size (fun k hk => by injection hk with hk; omega)⟩
end Go.Proofs.Ytgjcefgdkhfghaa.AskW
