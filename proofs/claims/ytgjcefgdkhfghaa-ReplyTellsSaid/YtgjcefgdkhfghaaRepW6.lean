/- The walk of saucierref03.Parse: words that were read. -/
import Derived.Test.YtgjcefgdkhfghaaRepW4
import Derived.Test.YtgjcefgdkhfghaaAG10
import Derived.Deep.RegionLaw
set_option linter.unusedVariables false
set_option linter.unusedSimpArgs false
namespace Go.Proofs.Ytgjcefgdkhfghaa.AskW
open Go.RowKit Go.Proofs.Ytgjcefgdkhfghaa Go.Proofs.Ytgjcefgdkhfghaa.Ask
set_option maxRecDepth 100000 in
set_option maxHeartbeats 2000000 in
theorem ref3Parse_w3 (A : Option Addr) (n c : Nat) (xs : List Nat) (w : World) (hs : Sl w w.heap.size A n (bs xs)) (hx : Bytes xs) (hn2 : n ≤ 300) (h2 : 2 ≤ n) (hc : n ≤ c) (hf : xs[0]?.getD 0 = 3) :
    Calls Try.prog 14 #[.slice A n c] w (RetRepTag w (rparse xs).1 .i64 (rparse xs).2) := by
  have q1 : xs.length = n := by simpa using hs.len
  have HWF := cand3_wf hx
  have HP := Lib.hid (rparse_cand xs)
  have HC : cand3 xs = ⟨xs[0]?.getD 0, 0, [], pairs (xs.drop 2), 0, 0⟩ := by unfold cand3; rw [hf]; simp [kdBy, Kd.read, hf]
  obtain ⟨f, ef⟩ : ∃ f, f = xs[0]?.getD 0 := ⟨_, rfl⟩
  obtain ⟨y, ey⟩ : ∃ y, y = xs[1]?.getD 0 := ⟨_, rfl⟩
  have hf8 : f < 256 := by rw [ef]; exact hx.at 0
  have hy8 : y < 256 := by rw [ey]; exact hx.at 1
  have F8 := show IntKind.u8.wrap (f : Int) = f by rw [IntKind.wrap_u8]; omega
  rw [← ef] at HC hf
  have T1 : ((f : Int) == 1) = false := by first | (rw [beq_eq_false_iff_ne]; omega) | (rw [beq_iff_eq]; omega)
  have T2 : ((f : Int) == 2) = false := by first | (rw [beq_eq_false_iff_ne]; omega) | (rw [beq_iff_eq]; omega)
  have T3 : ((f : Int) == 3) = true := by first | (rw [beq_eq_false_iff_ne]; omega) | (rw [beq_iff_eq]; omega)
  have T4 : ((f : Int) == 4) = false := by first | (rw [beq_eq_false_iff_ne]; omega) | (rw [beq_iff_eq]; omega)
  have T23 : ((f : Int) == 23) = false := by first | (rw [beq_eq_false_iff_ne]; omega) | (rw [beq_iff_eq]; omega)
  have T5 : ((f : Int) == 5) = false := by first | (rw [beq_eq_false_iff_ne]; omega) | (rw [beq_iff_eq]; omega)
  have T6 : ((f : Int) == 6) = false := by first | (rw [beq_eq_false_iff_ne]; omega) | (rw [beq_iff_eq]; omega)
  have T15 : ((f : Int) == 15) = false := by first | (rw [beq_eq_false_iff_ne]; omega) | (rw [beq_iff_eq]; omega)
  have T16 : ((f : Int) == 16) = false := by first | (rw [beq_eq_false_iff_ne]; omega) | (rw [beq_iff_eq]; omega)
  rw [HC] at HP HWF
  obtain ⟨P, hP⟩ : ∃ P, P = rparse xs := ⟨_, rfl⟩
  rw [← hP] at HP ⊢
  obtain ⟨b, o, rfl, hbl, d1⟩ := hs.2 (by omega)
  have g1 : w.cell? ⟨b, o, none⟩ = some (.int .u8 (f : Nat)) := (d1 0 (by omega)).trans (by rw [bs_get (by omega), ← ef])
  have g2 : w.cell? ⟨b, o + 1, none⟩ = some (.int .u8 (y : Nat)) := (d1 1 (by omega)).trans (by rw [bs_get (by omega), ← ey])
  have HS := Lib.hid hs
  have HX := Lib.hid hx
  have z1 : (0 : Int) < (n : Int) := by omega
  have z1n : 0 < n := by omega
  have z1c : (0 : Int) ≤ (n : Int) := by omega
  have z1b : (1 : Int) < (n : Int) := by omega
  have z1bn : 1 < n := by omega
  have z2 : ¬ (n : Int) < 2 := by omega
  have z127 : ¬ (127 : Int) < (f : Int) := by omega
  have HQ1 := Lib.hid q1
  obtain ⟨L, hL⟩ : ∃ L, L = (pairs (xs.drop 2)).length := ⟨_, rfl⟩
  have hUL : (pairs (xs.drop 2)).length = (n - 2) / 2 := by rw [pairs_len, List.length_drop, q1]
  have HLT := Lib.hid (show (pairs (xs.drop 2)).take L = pairs (xs.drop 2) from by rw [hL, List.take_length])
  rw [hUL] at hL
  have HL := Lib.hid hL
  have HN := Lib.hid hn2
  have KI := Lib.hid (fun X (bb : Below w.heap.size w X) (i : Nat) (hi : i ≤ 100000) => refAt_quiet (some ⟨b, o, none⟩) n c xs i X (hs.to bb) hx (by omega) hi)
  clear hL hUL
  clear HC hP hs hx hn2 h2 q1 d1 hf ef ey
  go_enter Try.func14, Try.ntmps14
  go_wp2_with fail
  obtain ⟨W1, hW1⟩ : ∃ W1, W1 = ((w.alloc (.cells #[.int .u8 0, .int .u8 0, .slice none 0 0, .slice none 0 0, .int .u16 0, .int .u16 0] 26)).alloc (.cells #[.int .u8 (f : Nat), .int .u8 0, .slice none 0 0, .slice none 0 0, .int .u16 0, .int .u16 0] 26)) := ⟨_, rfl⟩
  have S : Pr w W1 (w.heap.size + 1) #[.int .u8 (f : Nat), .int .u8 0, .slice none 0 0, .slice none 0 0, .int .u16 0, .int .u16 0] := hW1 ▸ Pr_new w #[.int .u8 (f : Nat), .int .u8 0, .slice none 0 0, .slice none 0 0, .int .u16 0, .int .u16 0]
  rw [← hW1]
  clear hW1
  obtain ⟨k, ek⟩ : ∃ k, k = w.heap.size + 1 := ⟨_, rfl⟩
  rw [← ek] at S ⊢
  clear ek
  go_loopw [5] (fun i wr => ∃ (j I : Nat) (v : Value), j ≤ L ∧ I = 2 + 2 * j ∧ i = .int .i64 I ∧ Has w wr 24 v j (ws ((pairs (xs.drop 2)).take j)) ∧ Pr w wr k #[.int .u8 (f : Nat), .int .u8 0, .slice none 0 0, v, .int .u16 0, .int .u16 0] ∧ (∀ b, v.ownBlock = some b → w.heap.size < b ∧ b ≠ k)) (fun i _ => n - (intOf i).toNat)
  case atStart => exact ⟨0, 2, _, by omega, rfl, rfl, by simpa [ws] using Has.nil_ S.bel _, S, fun b h => by simp [Value.ownBlock] at h⟩
  case round =>
    obtain ⟨j, I, v, hj, hI, rfl, H, S, hv⟩ := hrel
    have hLL := HL.out
    have hnn := HN.out
    have HI := Lib.hid hI
    have hIw : IntKind.i64.wrap ((I : Int) + 1) = (I : Int) + 1 := by rw [IntKind.wrap_i64]; omega
    have hIw2 : IntKind.i64.wrap ((I : Int) + 2) = (I : Int) + 2 := by rw [IntKind.wrap_i64]; omega
    by_cases hlt : (I : Int) + 1 < (n : Int)
    · have hjL : j < 2400 := by omega
      have hjl : j < L := by omega
      have HT := Lib.hid (words_snoc xs 2 j (by rw [HQ1.out]; omega))
      rw [← hI] at HT
      have hI1 : I ≤ 100000 := by omega
      have KX := Lib.hid (fun X b => KI.out X b I hI1)
      have hxl : atF xs I < 65536 := atF_lt HX.out I
      obtain ⟨x, ex⟩ : ∃ x, x = atF xs I := ⟨_, rfl⟩
      rw [← ex] at HT KX hxl
      have vx : IntKind.u16.wrap (x : Int) = x := by rw [IntKind.wrap_u16]; omega
      have ux := w64 (show x ≤ 9223372036854775807 by omega)
      have hIn : I < n := by omega
      clear ex hI hLL hnn KI
      obtain ⟨c0, c1, c2, c3, c4, c5⟩ := row6 S.ra
      obtain ⟨f0, f1, f2, f3, f4, f5⟩ := free6 S.ra
      have slt := S.lt
      have skw := S.hk
      have sne3 : ¬ wr.heap.size = k := by omega
      have sne4 : ¬ k = wr.heap.size := by omega
      go_wp2_with fail
      go_region_law (first
          | (rw [if_pos (by kernel_rfl)]; go_simp; go_at_call 46; refine (KX.out _ S.drew.bel).mono ?_; rintro e w3 ⟨rfl, d3, hd3⟩; have S3 := S.drew.drewN d3; have H4 : Has w (wr.drew.drewN d3) 24 v j (ws ((pairs (xs.drop 2)).take j)) := ⟨H.own, H.bel.drew.drewN d3⟩; rw [← hd3] at S3 H4; have slt3 := S3.lt; have sne5 : ¬ w3.heap.size = k := Nat.ne_of_gt slt3; have sne6 : ¬ k = w3.heap.size := Nat.ne_of_lt slt3; obtain ⟨c0, c1, c2, c3, c4, c5⟩ := row6 S3.ra; clear hd3; try dsimp only)
          | (refine step_app _root_.Go.Proofs.Ytgjcefgdkhfghaa.AskW.u16 rfl (.tmp 51) (.tmp 56) rfl (H4.alloc _) rfl (Sl.new1 _ _ _) rfl (one1 _ _) (by omega) (by simp only [maxLen]; omega) ?_; intro v4 w4 H5 g4 o4; have S5 := (S3.new (.cells #[.int .u16 (x : Nat)] 24)).grown g4 hv; obtain ⟨c0, c1, c2, c3, c4, c5⟩ := row6 S5.ra; obtain ⟨f0, f1, f2, f3, f4, f5⟩ := free6 S5.ra; obtain ⟨A4, cc4, rfl, hc4, -, -⟩ := H5.slice)
          | fail)
      all_goals (
        have hv4 : ∀ b, (Value.slice A4 (j + 1) cc4).ownBlock = some b → w.heap.size < b ∧ b ≠ k := fun b hb => by
          rcases o4 with o4 | o4
          · exact hv b (by rw [← o4]; exact hb)
          · rw [o4] at hb; injection hb with hb; have := S3.lt; simp at hb; omega
        go_wp2_with fail
        go_roundw
        case rel =>
          refine ⟨j + 1, I + 2, _, by omega, by have := HI.out; omega, by go_num, ?_, S5.set 3 (.slice A4 (j + 1) cc4), hv4⟩
          rw [HT.out, ← ws_append]
          exact H5.other (grown_setCell w4 k 3 _) (Nat.le_of_lt skw) (fun e => (hv4 k e).2 rfl)
        case measure => simp [intOf]; omega)
    · obtain rfl : j = L := by omega
      obtain ⟨Aw, cw, rfl, kW, SW, oW0⟩ := H.slice
      obtain ⟨c0, c1, c2, c3, c4, c5⟩ := row6 S.ra
      have SB := Sl.empty wr wr.heap.size none
      have oB : ∀ b o, (none : Option Addr) = some (⟨b, o, none⟩ : Addr) → w.heap.size < b := fun _ _ h => by cases h
      have kB : (0 : Nat) ≤ 0 := Nat.le_refl _
      have oW : ∀ b o, Aw = some (⟨b, o, none⟩ : Addr) → w.heap.size < b := fun b o h => (hv b (by rw [h]; rfl)).1
      rw [HLT.out] at SW
      clear hj hLL hnn H HL KI hI
      have RA := S.ra
      go_wp2_with (first
        | (refine wpList_load_row rfl 26 (.tmp 4) rfl k rfl 26 #[.int .u8 (f : Nat), .int .u8 0, .slice none 0 0, .slice Aw j cw, .int .u16 0, .int .u16 0] (0, 0) _ RA Try.underlying26 rfl (by kernel_rfl) ?_))
      refine (ref3Bytes_any _ _ _ _ _ _ _ _ _ _ _ _ _ SB SW HWF).mono ?_
      rintro e w2 ⟨v, rfl, H⟩
      have S := S.call H.bel
      have SW := SW.to H.bel
      have SB := SB.to H.bel
      have RA := S.ra
      have rz := S.rz
      have hbel := S.bel
      have hk := S.hk
      have lz := row_lt rz
      obtain ⟨Q, hQ⟩ : ∃ Q, Q = rright ⟨f, 0, [], pairs (xs.drop 2), 0, 0⟩ := ⟨_, rfl⟩
      cases Q
      case false =>
        have HR := Lib.hid hQ.symm
        have hB : rbytesE ⟨f, 0, [], pairs (xs.drop 2), 0, 0⟩ = ([], 13) := by unfold rbytesE; rw [HR.out]; rfl
        rw [hB] at H ⊢
        clear hB hQ H
        go_wp2_with (refine wpList_store_grown rfl 26 (.tmp 2) _ rfl w.heap.size #[.int .u8 0, .int .u8 0, .slice none 0 0, .slice none 0 0, .int .u16 0, .int .u16 0] rfl rfl 26 _ rz (by kernel_rfl) rfl (by simp [Value.oneCell']) ?_; intro w9 h9 g9 s9)
        refine bodyPost_row_tmp rfl w.heap.size 26 #[.int .u8 0, .int .u8 0, .slice none 0 0, .slice none 0 0, .int .u16 0, .int .u16 0] (0, 0) _ (.int .i64 13) rfl h9 Try.underlying26 rfl (by kernel_rfl) rfl rfl ?_
        rw [HP.out, if_neg (by rw [HR.out]; simp)]
        exact RetRepTag.bare _ _ (hbel.grown g9 hbel.size (fun k hk => by injection hk with hk; omega))
      case true =>
        have HR := Lib.hid hQ.symm
        have hB : rbytesE ⟨f, 0, [], pairs (xs.drop 2), 0, 0⟩ = (rbytes ⟨f, 0, [], pairs (xs.drop 2), 0, 0⟩, 0) := by unfold rbytesE; rw [HR.out]; rfl
        rw [hB] at H ⊢
        dsimp only at H
        have hbl : Bytes (rbytes ⟨f, 0, [], pairs (xs.drop 2), 0, 0⟩) := by
          obtain ⟨k', _, _, hb'⟩ := rright_kd HR.out
          rw [hb']; exact kbytes_lt k' _ HWF
        obtain ⟨Av, cv, rfl, hcv, SV, _⟩ := H.slice
        have H1 := run_string (P := Try.prog) w2 _ 29 9 5 Try.underlying29 Try.underlying5 Try.underlying9 Av _ cv _ SV
        have H2 := run_string (P := Try.prog) w2 _ 29 9 5 Try.underlying29 Try.underlying5 Try.underlying9 (some ⟨b, o, none⟩) n c _ (HS.out.to hbel)
        have hSE := strB_eq (rbytes ⟨f, 0, [], pairs (xs.drop 2), 0, 0⟩) xs hbl HX.out
        by_cases hq : rbytes ⟨f, 0, [], pairs (xs.drop 2), 0, 0⟩ = xs
        case neg =>
          rw [show (rbytes ⟨f, 0, [], pairs (xs.drop 2), 0, 0⟩ == xs) = false by rw [beq_eq_false_iff_ne]; exact hq] at hSE
          have HQ := Lib.hid hq
          clear hB hQ H hq SV hcv
          go_wp2_with (refine wpList_store_grown rfl 26 (.tmp 2) _ rfl w.heap.size #[.int .u8 0, .int .u8 0, .slice none 0 0, .slice none 0 0, .int .u16 0, .int .u16 0] rfl rfl 26 _ rz (by kernel_rfl) rfl (by simp [Value.oneCell']) ?_; intro w9 h9 g9 s9)
          refine bodyPost_row_tmp rfl w.heap.size 26 #[.int .u8 0, .int .u8 0, .slice none 0 0, .slice none 0 0, .int .u16 0, .int .u16 0] (0, 0) _ (.int .i64 13) rfl h9 Try.underlying26 rfl (by kernel_rfl) rfl rfl ?_
          rw [HP.out, if_neg (by rw [HR.out]; simp; exact HQ.out)]
          exact RetRepTag.bare _ _ (hbel.grown g9 hbel.size (fun k hk => by injection hk with hk; omega))
        case pos =>
          have HQ := Lib.hid hq
          rw [hq] at H1 SV ⊢
          clear hB hQ H hSE hq
          go_wp2_with (first
            | (refine wpList_load_row rfl 26 (.tmp 4) rfl k rfl 26 #[.int .u8 (f : Nat), .int .u8 0, .slice none 0 0, .slice Aw j cw, .int .u16 0, .int .u16 0] (0, 0) _ RA Try.underlying26 rfl (by kernel_rfl) ?_)
            | (refine wpList_store_grown rfl 26 (.tmp 2) _ rfl w.heap.size #[.int .u8 (f : Nat), .int .u8 0, .slice none 0 0, .slice Aw j cw, .int .u16 0, .int .u16 0] rfl rfl 26 _ rz (by kernel_rfl) rfl (by simp [Value.oneCell']) ?_; intro w9 h9 g9 s9))
          refine bodyPost_row_tmp rfl w.heap.size 26 #[.int .u8 (f : Nat), .int .u8 0, .slice none 0 0, .slice Aw j cw, .int .u16 0, .int .u16 0] (0, 0) _ (.int .i64 0) rfl h9 Try.underlying26 rfl (by kernel_rfl) rfl rfl ?_
          rw [HP.out, if_pos (by rw [HR.out, HQ.out]; simp)]
          exact ⟨_, _, _, _, _, _, rfl, SB.grown g9 (fun b o h e => by have := oB b o h; injection e with e; omega), SW.grown g9 (fun b o h e => by have := oW b o h; injection e with e; omega), kB, kW, (fun b o h => by have := oB b o h; omega), (fun b o h => by have := oW b o h; omega), hbel.grown g9 hbel.size (fun k hk => by injection hk with hk; omega)⟩
set_option maxRecDepth 100000 in
set_option maxHeartbeats 2000000 in
theorem ref3Parse_w4 (A : Option Addr) (n c : Nat) (xs : List Nat) (w : World) (hs : Sl w w.heap.size A n (bs xs)) (hx : Bytes xs) (hn2 : n ≤ 300) (h2 : 2 ≤ n) (hc : n ≤ c) (hf : xs[0]?.getD 0 = 4) :
    Calls Try.prog 14 #[.slice A n c] w (RetRepTag w (rparse xs).1 .i64 (rparse xs).2) := by
  have q1 : xs.length = n := by simpa using hs.len
  have HWF := cand3_wf hx
  have HP := Lib.hid (rparse_cand xs)
  have HC : cand3 xs = ⟨xs[0]?.getD 0, 0, [], pairs (xs.drop 2), 0, 0⟩ := by unfold cand3; rw [hf]; simp [kdBy, Kd.read, hf]
  obtain ⟨f, ef⟩ : ∃ f, f = xs[0]?.getD 0 := ⟨_, rfl⟩
  obtain ⟨y, ey⟩ : ∃ y, y = xs[1]?.getD 0 := ⟨_, rfl⟩
  have hf8 : f < 256 := by rw [ef]; exact hx.at 0
  have hy8 : y < 256 := by rw [ey]; exact hx.at 1
  have F8 := show IntKind.u8.wrap (f : Int) = f by rw [IntKind.wrap_u8]; omega
  rw [← ef] at HC hf
  have T1 : ((f : Int) == 1) = false := by first | (rw [beq_eq_false_iff_ne]; omega) | (rw [beq_iff_eq]; omega)
  have T2 : ((f : Int) == 2) = false := by first | (rw [beq_eq_false_iff_ne]; omega) | (rw [beq_iff_eq]; omega)
  have T3 : ((f : Int) == 3) = false := by first | (rw [beq_eq_false_iff_ne]; omega) | (rw [beq_iff_eq]; omega)
  have T4 : ((f : Int) == 4) = true := by first | (rw [beq_eq_false_iff_ne]; omega) | (rw [beq_iff_eq]; omega)
  have T23 : ((f : Int) == 23) = false := by first | (rw [beq_eq_false_iff_ne]; omega) | (rw [beq_iff_eq]; omega)
  have T5 : ((f : Int) == 5) = false := by first | (rw [beq_eq_false_iff_ne]; omega) | (rw [beq_iff_eq]; omega)
  have T6 : ((f : Int) == 6) = false := by first | (rw [beq_eq_false_iff_ne]; omega) | (rw [beq_iff_eq]; omega)
  have T15 : ((f : Int) == 15) = false := by first | (rw [beq_eq_false_iff_ne]; omega) | (rw [beq_iff_eq]; omega)
  have T16 : ((f : Int) == 16) = false := by first | (rw [beq_eq_false_iff_ne]; omega) | (rw [beq_iff_eq]; omega)
  rw [HC] at HP HWF
  obtain ⟨P, hP⟩ : ∃ P, P = rparse xs := ⟨_, rfl⟩
  rw [← hP] at HP ⊢
  obtain ⟨b, o, rfl, hbl, d1⟩ := hs.2 (by omega)
  have g1 : w.cell? ⟨b, o, none⟩ = some (.int .u8 (f : Nat)) := (d1 0 (by omega)).trans (by rw [bs_get (by omega), ← ef])
  have g2 : w.cell? ⟨b, o + 1, none⟩ = some (.int .u8 (y : Nat)) := (d1 1 (by omega)).trans (by rw [bs_get (by omega), ← ey])
  have HS := Lib.hid hs
  have HX := Lib.hid hx
  have z1 : (0 : Int) < (n : Int) := by omega
  have z1n : 0 < n := by omega
  have z1c : (0 : Int) ≤ (n : Int) := by omega
  have z1b : (1 : Int) < (n : Int) := by omega
  have z1bn : 1 < n := by omega
  have z2 : ¬ (n : Int) < 2 := by omega
  have z127 : ¬ (127 : Int) < (f : Int) := by omega
  have HQ1 := Lib.hid q1
  obtain ⟨L, hL⟩ : ∃ L, L = (pairs (xs.drop 2)).length := ⟨_, rfl⟩
  have hUL : (pairs (xs.drop 2)).length = (n - 2) / 2 := by rw [pairs_len, List.length_drop, q1]
  have HLT := Lib.hid (show (pairs (xs.drop 2)).take L = pairs (xs.drop 2) from by rw [hL, List.take_length])
  rw [hUL] at hL
  have HL := Lib.hid hL
  have HN := Lib.hid hn2
  have KI := Lib.hid (fun X (bb : Below w.heap.size w X) (i : Nat) (hi : i ≤ 100000) => refAt_quiet (some ⟨b, o, none⟩) n c xs i X (hs.to bb) hx (by omega) hi)
  clear hL hUL
  clear HC hP hs hx hn2 h2 q1 d1 hf ef ey
  go_enter Try.func14, Try.ntmps14
  go_wp2_with fail
  obtain ⟨W1, hW1⟩ : ∃ W1, W1 = ((w.alloc (.cells #[.int .u8 0, .int .u8 0, .slice none 0 0, .slice none 0 0, .int .u16 0, .int .u16 0] 26)).alloc (.cells #[.int .u8 (f : Nat), .int .u8 0, .slice none 0 0, .slice none 0 0, .int .u16 0, .int .u16 0] 26)) := ⟨_, rfl⟩
  have S : Pr w W1 (w.heap.size + 1) #[.int .u8 (f : Nat), .int .u8 0, .slice none 0 0, .slice none 0 0, .int .u16 0, .int .u16 0] := hW1 ▸ Pr_new w #[.int .u8 (f : Nat), .int .u8 0, .slice none 0 0, .slice none 0 0, .int .u16 0, .int .u16 0]
  rw [← hW1]
  clear hW1
  obtain ⟨k, ek⟩ : ∃ k, k = w.heap.size + 1 := ⟨_, rfl⟩
  rw [← ek] at S ⊢
  clear ek
  go_loopw [5] (fun i wr => ∃ (j I : Nat) (v : Value), j ≤ L ∧ I = 2 + 2 * j ∧ i = .int .i64 I ∧ Has w wr 24 v j (ws ((pairs (xs.drop 2)).take j)) ∧ Pr w wr k #[.int .u8 (f : Nat), .int .u8 0, .slice none 0 0, v, .int .u16 0, .int .u16 0] ∧ (∀ b, v.ownBlock = some b → w.heap.size < b ∧ b ≠ k)) (fun i _ => n - (intOf i).toNat)
  case atStart => exact ⟨0, 2, _, by omega, rfl, rfl, by simpa [ws] using Has.nil_ S.bel _, S, fun b h => by simp [Value.ownBlock] at h⟩
  case round =>
    obtain ⟨j, I, v, hj, hI, rfl, H, S, hv⟩ := hrel
    have hLL := HL.out
    have hnn := HN.out
    have HI := Lib.hid hI
    have hIw : IntKind.i64.wrap ((I : Int) + 1) = (I : Int) + 1 := by rw [IntKind.wrap_i64]; omega
    have hIw2 : IntKind.i64.wrap ((I : Int) + 2) = (I : Int) + 2 := by rw [IntKind.wrap_i64]; omega
    by_cases hlt : (I : Int) + 1 < (n : Int)
    · have hjL : j < 2400 := by omega
      have hjl : j < L := by omega
      have HT := Lib.hid (words_snoc xs 2 j (by rw [HQ1.out]; omega))
      rw [← hI] at HT
      have hI1 : I ≤ 100000 := by omega
      have KX := Lib.hid (fun X b => KI.out X b I hI1)
      have hxl : atF xs I < 65536 := atF_lt HX.out I
      obtain ⟨x, ex⟩ : ∃ x, x = atF xs I := ⟨_, rfl⟩
      rw [← ex] at HT KX hxl
      have vx : IntKind.u16.wrap (x : Int) = x := by rw [IntKind.wrap_u16]; omega
      have ux := w64 (show x ≤ 9223372036854775807 by omega)
      have hIn : I < n := by omega
      clear ex hI hLL hnn KI
      obtain ⟨c0, c1, c2, c3, c4, c5⟩ := row6 S.ra
      obtain ⟨f0, f1, f2, f3, f4, f5⟩ := free6 S.ra
      have slt := S.lt
      have skw := S.hk
      have sne3 : ¬ wr.heap.size = k := by omega
      have sne4 : ¬ k = wr.heap.size := by omega
      go_wp2_with fail
      go_region_law (first
          | (rw [if_pos (by kernel_rfl)]; go_simp; go_at_call 46; refine (KX.out _ S.drew.bel).mono ?_; rintro e w3 ⟨rfl, d3, hd3⟩; have S3 := S.drew.drewN d3; have H4 : Has w (wr.drew.drewN d3) 24 v j (ws ((pairs (xs.drop 2)).take j)) := ⟨H.own, H.bel.drew.drewN d3⟩; rw [← hd3] at S3 H4; have slt3 := S3.lt; have sne5 : ¬ w3.heap.size = k := Nat.ne_of_gt slt3; have sne6 : ¬ k = w3.heap.size := Nat.ne_of_lt slt3; obtain ⟨c0, c1, c2, c3, c4, c5⟩ := row6 S3.ra; clear hd3; try dsimp only)
          | (refine step_app _root_.Go.Proofs.Ytgjcefgdkhfghaa.AskW.u16 rfl (.tmp 51) (.tmp 56) rfl (H4.alloc _) rfl (Sl.new1 _ _ _) rfl (one1 _ _) (by omega) (by simp only [maxLen]; omega) ?_; intro v4 w4 H5 g4 o4; have S5 := (S3.new (.cells #[.int .u16 (x : Nat)] 24)).grown g4 hv; obtain ⟨c0, c1, c2, c3, c4, c5⟩ := row6 S5.ra; obtain ⟨f0, f1, f2, f3, f4, f5⟩ := free6 S5.ra; obtain ⟨A4, cc4, rfl, hc4, -, -⟩ := H5.slice)
          | fail)
      all_goals (
        have hv4 : ∀ b, (Value.slice A4 (j + 1) cc4).ownBlock = some b → w.heap.size < b ∧ b ≠ k := fun b hb => by
          rcases o4 with o4 | o4
          · exact hv b (by rw [← o4]; exact hb)
          · rw [o4] at hb; injection hb with hb; have := S3.lt; simp at hb; omega
        go_wp2_with fail
        go_roundw
        case rel =>
          refine ⟨j + 1, I + 2, _, by omega, by have := HI.out; omega, by go_num, ?_, S5.set 3 (.slice A4 (j + 1) cc4), hv4⟩
          rw [HT.out, ← ws_append]
          exact H5.other (grown_setCell w4 k 3 _) (Nat.le_of_lt skw) (fun e => (hv4 k e).2 rfl)
        case measure => simp [intOf]; omega)
    · obtain rfl : j = L := by omega
      obtain ⟨Aw, cw, rfl, kW, SW, oW0⟩ := H.slice
      obtain ⟨c0, c1, c2, c3, c4, c5⟩ := row6 S.ra
      have SB := Sl.empty wr wr.heap.size none
      have oB : ∀ b o, (none : Option Addr) = some (⟨b, o, none⟩ : Addr) → w.heap.size < b := fun _ _ h => by cases h
      have kB : (0 : Nat) ≤ 0 := Nat.le_refl _
      have oW : ∀ b o, Aw = some (⟨b, o, none⟩ : Addr) → w.heap.size < b := fun b o h => (hv b (by rw [h]; rfl)).1
      rw [HLT.out] at SW
      clear hj hLL hnn H HL KI hI
      have RA := S.ra
      go_wp2_with (first
        | (refine wpList_load_row rfl 26 (.tmp 4) rfl k rfl 26 #[.int .u8 (f : Nat), .int .u8 0, .slice none 0 0, .slice Aw j cw, .int .u16 0, .int .u16 0] (0, 0) _ RA Try.underlying26 rfl (by kernel_rfl) ?_))
      refine (ref3Bytes_any _ _ _ _ _ _ _ _ _ _ _ _ _ SB SW HWF).mono ?_
      rintro e w2 ⟨v, rfl, H⟩
      have S := S.call H.bel
      have SW := SW.to H.bel
      have SB := SB.to H.bel
      have RA := S.ra
      have rz := S.rz
      have hbel := S.bel
      have hk := S.hk
      have lz := row_lt rz
      obtain ⟨Q, hQ⟩ : ∃ Q, Q = rright ⟨f, 0, [], pairs (xs.drop 2), 0, 0⟩ := ⟨_, rfl⟩
      cases Q
      case false =>
        have HR := Lib.hid hQ.symm
        have hB : rbytesE ⟨f, 0, [], pairs (xs.drop 2), 0, 0⟩ = ([], 13) := by unfold rbytesE; rw [HR.out]; rfl
        rw [hB] at H ⊢
        clear hB hQ H
        go_wp2_with (refine wpList_store_grown rfl 26 (.tmp 2) _ rfl w.heap.size #[.int .u8 0, .int .u8 0, .slice none 0 0, .slice none 0 0, .int .u16 0, .int .u16 0] rfl rfl 26 _ rz (by kernel_rfl) rfl (by simp [Value.oneCell']) ?_; intro w9 h9 g9 s9)
        refine bodyPost_row_tmp rfl w.heap.size 26 #[.int .u8 0, .int .u8 0, .slice none 0 0, .slice none 0 0, .int .u16 0, .int .u16 0] (0, 0) _ (.int .i64 13) rfl h9 Try.underlying26 rfl (by kernel_rfl) rfl rfl ?_
        rw [HP.out, if_neg (by rw [HR.out]; simp)]
        exact RetRepTag.bare _ _ (hbel.grown g9 hbel.size (fun k hk => by injection hk with hk; omega))
      case true =>
        have HR := Lib.hid hQ.symm
        have hB : rbytesE ⟨f, 0, [], pairs (xs.drop 2), 0, 0⟩ = (rbytes ⟨f, 0, [], pairs (xs.drop 2), 0, 0⟩, 0) := by unfold rbytesE; rw [HR.out]; rfl
        rw [hB] at H ⊢
        dsimp only at H
        have hbl : Bytes (rbytes ⟨f, 0, [], pairs (xs.drop 2), 0, 0⟩) := by
          obtain ⟨k', _, _, hb'⟩ := rright_kd HR.out
          rw [hb']; exact kbytes_lt k' _ HWF
        obtain ⟨Av, cv, rfl, hcv, SV, _⟩ := H.slice
        have H1 := run_string (P := Try.prog) w2 _ 29 9 5 Try.underlying29 Try.underlying5 Try.underlying9 Av _ cv _ SV
        have H2 := run_string (P := Try.prog) w2 _ 29 9 5 Try.underlying29 Try.underlying5 Try.underlying9 (some ⟨b, o, none⟩) n c _ (HS.out.to hbel)
        have hSE := strB_eq (rbytes ⟨f, 0, [], pairs (xs.drop 2), 0, 0⟩) xs hbl HX.out
        by_cases hq : rbytes ⟨f, 0, [], pairs (xs.drop 2), 0, 0⟩ = xs
        case neg =>
          rw [show (rbytes ⟨f, 0, [], pairs (xs.drop 2), 0, 0⟩ == xs) = false by rw [beq_eq_false_iff_ne]; exact hq] at hSE
          have HQ := Lib.hid hq
          clear hB hQ H hq SV hcv
          go_wp2_with (refine wpList_store_grown rfl 26 (.tmp 2) _ rfl w.heap.size #[.int .u8 0, .int .u8 0, .slice none 0 0, .slice none 0 0, .int .u16 0, .int .u16 0] rfl rfl 26 _ rz (by kernel_rfl) rfl (by simp [Value.oneCell']) ?_; intro w9 h9 g9 s9)
          refine bodyPost_row_tmp rfl w.heap.size 26 #[.int .u8 0, .int .u8 0, .slice none 0 0, .slice none 0 0, .int .u16 0, .int .u16 0] (0, 0) _ (.int .i64 13) rfl h9 Try.underlying26 rfl (by kernel_rfl) rfl rfl ?_
          rw [HP.out, if_neg (by rw [HR.out]; simp; exact HQ.out)]
          exact RetRepTag.bare _ _ (hbel.grown g9 hbel.size (fun k hk => by injection hk with hk; omega))
        case pos =>
          have HQ := Lib.hid hq
          rw [hq] at H1 SV ⊢
          clear hB hQ H hSE hq
          go_wp2_with (first
            | (refine wpList_load_row rfl 26 (.tmp 4) rfl k rfl 26 #[.int .u8 (f : Nat), .int .u8 0, .slice none 0 0, .slice Aw j cw, .int .u16 0, .int .u16 0] (0, 0) _ RA Try.underlying26 rfl (by kernel_rfl) ?_)
            | (refine wpList_store_grown rfl 26 (.tmp 2) _ rfl w.heap.size #[.int .u8 (f : Nat), .int .u8 0, .slice none 0 0, .slice Aw j cw, .int .u16 0, .int .u16 0] rfl rfl 26 _ rz (by kernel_rfl) rfl (by simp [Value.oneCell']) ?_; intro w9 h9 g9 s9))
          refine bodyPost_row_tmp rfl w.heap.size 26 #[.int .u8 (f : Nat), .int .u8 0, .slice none 0 0, .slice Aw j cw, .int .u16 0, .int .u16 0] (0, 0) _ (.int .i64 0) rfl h9 Try.underlying26 rfl (by kernel_rfl) rfl rfl ?_
          rw [HP.out, if_pos (by rw [HR.out, HQ.out]; simp)]
          exact ⟨_, _, _, _, _, _, rfl, SB.grown g9 (fun b o h e => by have := oB b o h; injection e with e; omega), SW.grown g9 (fun b o h e => by have := oW b o h; injection e with e; omega), kB, kW, (fun b o h => by have := oB b o h; omega), (fun b o h => by have := oW b o h; omega), hbel.grown g9 hbel.size (fun k hk => by injection hk with hk; omega)⟩
set_option maxRecDepth 100000 in
set_option maxHeartbeats 2000000 in
theorem ref3Parse_w23 (A : Option Addr) (n c : Nat) (xs : List Nat) (w : World) (hs : Sl w w.heap.size A n (bs xs)) (hx : Bytes xs) (hn2 : n ≤ 300) (h2 : 2 ≤ n) (hc : n ≤ c) (hf : xs[0]?.getD 0 = 23) :
    Calls Try.prog 14 #[.slice A n c] w (RetRepTag w (rparse xs).1 .i64 (rparse xs).2) := by
  have q1 : xs.length = n := by simpa using hs.len
  have HWF := cand3_wf hx
  have HP := Lib.hid (rparse_cand xs)
  have HC : cand3 xs = ⟨xs[0]?.getD 0, 0, [], pairs (xs.drop 2), 0, 0⟩ := by unfold cand3; rw [hf]; simp [kdBy, Kd.read, hf]
  obtain ⟨f, ef⟩ : ∃ f, f = xs[0]?.getD 0 := ⟨_, rfl⟩
  obtain ⟨y, ey⟩ : ∃ y, y = xs[1]?.getD 0 := ⟨_, rfl⟩
  have hf8 : f < 256 := by rw [ef]; exact hx.at 0
  have hy8 : y < 256 := by rw [ey]; exact hx.at 1
  have F8 := show IntKind.u8.wrap (f : Int) = f by rw [IntKind.wrap_u8]; omega
  rw [← ef] at HC hf
  have T1 : ((f : Int) == 1) = false := by first | (rw [beq_eq_false_iff_ne]; omega) | (rw [beq_iff_eq]; omega)
  have T2 : ((f : Int) == 2) = false := by first | (rw [beq_eq_false_iff_ne]; omega) | (rw [beq_iff_eq]; omega)
  have T3 : ((f : Int) == 3) = false := by first | (rw [beq_eq_false_iff_ne]; omega) | (rw [beq_iff_eq]; omega)
  have T4 : ((f : Int) == 4) = false := by first | (rw [beq_eq_false_iff_ne]; omega) | (rw [beq_iff_eq]; omega)
  have T23 : ((f : Int) == 23) = true := by first | (rw [beq_eq_false_iff_ne]; omega) | (rw [beq_iff_eq]; omega)
  have T5 : ((f : Int) == 5) = false := by first | (rw [beq_eq_false_iff_ne]; omega) | (rw [beq_iff_eq]; omega)
  have T6 : ((f : Int) == 6) = false := by first | (rw [beq_eq_false_iff_ne]; omega) | (rw [beq_iff_eq]; omega)
  have T15 : ((f : Int) == 15) = false := by first | (rw [beq_eq_false_iff_ne]; omega) | (rw [beq_iff_eq]; omega)
  have T16 : ((f : Int) == 16) = false := by first | (rw [beq_eq_false_iff_ne]; omega) | (rw [beq_iff_eq]; omega)
  rw [HC] at HP HWF
  obtain ⟨P, hP⟩ : ∃ P, P = rparse xs := ⟨_, rfl⟩
  rw [← hP] at HP ⊢
  obtain ⟨b, o, rfl, hbl, d1⟩ := hs.2 (by omega)
  have g1 : w.cell? ⟨b, o, none⟩ = some (.int .u8 (f : Nat)) := (d1 0 (by omega)).trans (by rw [bs_get (by omega), ← ef])
  have g2 : w.cell? ⟨b, o + 1, none⟩ = some (.int .u8 (y : Nat)) := (d1 1 (by omega)).trans (by rw [bs_get (by omega), ← ey])
  have HS := Lib.hid hs
  have HX := Lib.hid hx
  have z1 : (0 : Int) < (n : Int) := by omega
  have z1n : 0 < n := by omega
  have z1c : (0 : Int) ≤ (n : Int) := by omega
  have z1b : (1 : Int) < (n : Int) := by omega
  have z1bn : 1 < n := by omega
  have z2 : ¬ (n : Int) < 2 := by omega
  have z127 : ¬ (127 : Int) < (f : Int) := by omega
  have HQ1 := Lib.hid q1
  obtain ⟨L, hL⟩ : ∃ L, L = (pairs (xs.drop 2)).length := ⟨_, rfl⟩
  have hUL : (pairs (xs.drop 2)).length = (n - 2) / 2 := by rw [pairs_len, List.length_drop, q1]
  have HLT := Lib.hid (show (pairs (xs.drop 2)).take L = pairs (xs.drop 2) from by rw [hL, List.take_length])
  rw [hUL] at hL
  have HL := Lib.hid hL
  have HN := Lib.hid hn2
  have KI := Lib.hid (fun X (bb : Below w.heap.size w X) (i : Nat) (hi : i ≤ 100000) => refAt_quiet (some ⟨b, o, none⟩) n c xs i X (hs.to bb) hx (by omega) hi)
  clear hL hUL
  clear HC hP hs hx hn2 h2 q1 d1 hf ef ey
  go_enter Try.func14, Try.ntmps14
  go_wp2_with fail
  obtain ⟨W1, hW1⟩ : ∃ W1, W1 = ((w.alloc (.cells #[.int .u8 0, .int .u8 0, .slice none 0 0, .slice none 0 0, .int .u16 0, .int .u16 0] 26)).alloc (.cells #[.int .u8 (f : Nat), .int .u8 0, .slice none 0 0, .slice none 0 0, .int .u16 0, .int .u16 0] 26)) := ⟨_, rfl⟩
  have S : Pr w W1 (w.heap.size + 1) #[.int .u8 (f : Nat), .int .u8 0, .slice none 0 0, .slice none 0 0, .int .u16 0, .int .u16 0] := hW1 ▸ Pr_new w #[.int .u8 (f : Nat), .int .u8 0, .slice none 0 0, .slice none 0 0, .int .u16 0, .int .u16 0]
  rw [← hW1]
  clear hW1
  obtain ⟨k, ek⟩ : ∃ k, k = w.heap.size + 1 := ⟨_, rfl⟩
  rw [← ek] at S ⊢
  clear ek
  go_loopw [5] (fun i wr => ∃ (j I : Nat) (v : Value), j ≤ L ∧ I = 2 + 2 * j ∧ i = .int .i64 I ∧ Has w wr 24 v j (ws ((pairs (xs.drop 2)).take j)) ∧ Pr w wr k #[.int .u8 (f : Nat), .int .u8 0, .slice none 0 0, v, .int .u16 0, .int .u16 0] ∧ (∀ b, v.ownBlock = some b → w.heap.size < b ∧ b ≠ k)) (fun i _ => n - (intOf i).toNat)
  case atStart => exact ⟨0, 2, _, by omega, rfl, rfl, by simpa [ws] using Has.nil_ S.bel _, S, fun b h => by simp [Value.ownBlock] at h⟩
  case round =>
    obtain ⟨j, I, v, hj, hI, rfl, H, S, hv⟩ := hrel
    have hLL := HL.out
    have hnn := HN.out
    have HI := Lib.hid hI
    have hIw : IntKind.i64.wrap ((I : Int) + 1) = (I : Int) + 1 := by rw [IntKind.wrap_i64]; omega
    have hIw2 : IntKind.i64.wrap ((I : Int) + 2) = (I : Int) + 2 := by rw [IntKind.wrap_i64]; omega
    by_cases hlt : (I : Int) + 1 < (n : Int)
    · have hjL : j < 2400 := by omega
      have hjl : j < L := by omega
      have HT := Lib.hid (words_snoc xs 2 j (by rw [HQ1.out]; omega))
      rw [← hI] at HT
      have hI1 : I ≤ 100000 := by omega
      have KX := Lib.hid (fun X b => KI.out X b I hI1)
      have hxl : atF xs I < 65536 := atF_lt HX.out I
      obtain ⟨x, ex⟩ : ∃ x, x = atF xs I := ⟨_, rfl⟩
      rw [← ex] at HT KX hxl
      have vx : IntKind.u16.wrap (x : Int) = x := by rw [IntKind.wrap_u16]; omega
      have ux := w64 (show x ≤ 9223372036854775807 by omega)
      have hIn : I < n := by omega
      clear ex hI hLL hnn KI
      obtain ⟨c0, c1, c2, c3, c4, c5⟩ := row6 S.ra
      obtain ⟨f0, f1, f2, f3, f4, f5⟩ := free6 S.ra
      have slt := S.lt
      have skw := S.hk
      have sne3 : ¬ wr.heap.size = k := by omega
      have sne4 : ¬ k = wr.heap.size := by omega
      go_wp2_with fail
      go_region_law (first
          | (rw [if_pos (by kernel_rfl)]; go_simp; go_at_call 46; refine (KX.out _ S.drew.bel).mono ?_; rintro e w3 ⟨rfl, d3, hd3⟩; have S3 := S.drew.drewN d3; have H4 : Has w (wr.drew.drewN d3) 24 v j (ws ((pairs (xs.drop 2)).take j)) := ⟨H.own, H.bel.drew.drewN d3⟩; rw [← hd3] at S3 H4; have slt3 := S3.lt; have sne5 : ¬ w3.heap.size = k := Nat.ne_of_gt slt3; have sne6 : ¬ k = w3.heap.size := Nat.ne_of_lt slt3; obtain ⟨c0, c1, c2, c3, c4, c5⟩ := row6 S3.ra; clear hd3; try dsimp only)
          | (refine step_app _root_.Go.Proofs.Ytgjcefgdkhfghaa.AskW.u16 rfl (.tmp 51) (.tmp 56) rfl (H4.alloc _) rfl (Sl.new1 _ _ _) rfl (one1 _ _) (by omega) (by simp only [maxLen]; omega) ?_; intro v4 w4 H5 g4 o4; have S5 := (S3.new (.cells #[.int .u16 (x : Nat)] 24)).grown g4 hv; obtain ⟨c0, c1, c2, c3, c4, c5⟩ := row6 S5.ra; obtain ⟨f0, f1, f2, f3, f4, f5⟩ := free6 S5.ra; obtain ⟨A4, cc4, rfl, hc4, -, -⟩ := H5.slice)
          | fail)
      all_goals (
        have hv4 : ∀ b, (Value.slice A4 (j + 1) cc4).ownBlock = some b → w.heap.size < b ∧ b ≠ k := fun b hb => by
          rcases o4 with o4 | o4
          · exact hv b (by rw [← o4]; exact hb)
          · rw [o4] at hb; injection hb with hb; have := S3.lt; simp at hb; omega
        go_wp2_with fail
        go_roundw
        case rel =>
          refine ⟨j + 1, I + 2, _, by omega, by have := HI.out; omega, by go_num, ?_, S5.set 3 (.slice A4 (j + 1) cc4), hv4⟩
          rw [HT.out, ← ws_append]
          exact H5.other (grown_setCell w4 k 3 _) (Nat.le_of_lt skw) (fun e => (hv4 k e).2 rfl)
        case measure => simp [intOf]; omega)
    · obtain rfl : j = L := by omega
      obtain ⟨Aw, cw, rfl, kW, SW, oW0⟩ := H.slice
      obtain ⟨c0, c1, c2, c3, c4, c5⟩ := row6 S.ra
      have SB := Sl.empty wr wr.heap.size none
      have oB : ∀ b o, (none : Option Addr) = some (⟨b, o, none⟩ : Addr) → w.heap.size < b := fun _ _ h => by cases h
      have kB : (0 : Nat) ≤ 0 := Nat.le_refl _
      have oW : ∀ b o, Aw = some (⟨b, o, none⟩ : Addr) → w.heap.size < b := fun b o h => (hv b (by rw [h]; rfl)).1
      rw [HLT.out] at SW
      clear hj hLL hnn H HL KI hI
      have RA := S.ra
      go_wp2_with (first
        | (refine wpList_load_row rfl 26 (.tmp 4) rfl k rfl 26 #[.int .u8 (f : Nat), .int .u8 0, .slice none 0 0, .slice Aw j cw, .int .u16 0, .int .u16 0] (0, 0) _ RA Try.underlying26 rfl (by kernel_rfl) ?_))
      refine (ref3Bytes_any _ _ _ _ _ _ _ _ _ _ _ _ _ SB SW HWF).mono ?_
      rintro e w2 ⟨v, rfl, H⟩
      have S := S.call H.bel
      have SW := SW.to H.bel
      have SB := SB.to H.bel
      have RA := S.ra
      have rz := S.rz
      have hbel := S.bel
      have hk := S.hk
      have lz := row_lt rz
      obtain ⟨Q, hQ⟩ : ∃ Q, Q = rright ⟨f, 0, [], pairs (xs.drop 2), 0, 0⟩ := ⟨_, rfl⟩
      cases Q
      case false =>
        have HR := Lib.hid hQ.symm
        have hB : rbytesE ⟨f, 0, [], pairs (xs.drop 2), 0, 0⟩ = ([], 13) := by unfold rbytesE; rw [HR.out]; rfl
        rw [hB] at H ⊢
        clear hB hQ H
        go_wp2_with (refine wpList_store_grown rfl 26 (.tmp 2) _ rfl w.heap.size #[.int .u8 0, .int .u8 0, .slice none 0 0, .slice none 0 0, .int .u16 0, .int .u16 0] rfl rfl 26 _ rz (by kernel_rfl) rfl (by simp [Value.oneCell']) ?_; intro w9 h9 g9 s9)
        refine bodyPost_row_tmp rfl w.heap.size 26 #[.int .u8 0, .int .u8 0, .slice none 0 0, .slice none 0 0, .int .u16 0, .int .u16 0] (0, 0) _ (.int .i64 13) rfl h9 Try.underlying26 rfl (by kernel_rfl) rfl rfl ?_
        rw [HP.out, if_neg (by rw [HR.out]; simp)]
        exact RetRepTag.bare _ _ (hbel.grown g9 hbel.size (fun k hk => by injection hk with hk; omega))
      case true =>
        have HR := Lib.hid hQ.symm
        have hB : rbytesE ⟨f, 0, [], pairs (xs.drop 2), 0, 0⟩ = (rbytes ⟨f, 0, [], pairs (xs.drop 2), 0, 0⟩, 0) := by unfold rbytesE; rw [HR.out]; rfl
        rw [hB] at H ⊢
        dsimp only at H
        have hbl : Bytes (rbytes ⟨f, 0, [], pairs (xs.drop 2), 0, 0⟩) := by
          obtain ⟨k', _, _, hb'⟩ := rright_kd HR.out
          rw [hb']; exact kbytes_lt k' _ HWF
        obtain ⟨Av, cv, rfl, hcv, SV, _⟩ := H.slice
        have H1 := run_string (P := Try.prog) w2 _ 29 9 5 Try.underlying29 Try.underlying5 Try.underlying9 Av _ cv _ SV
        have H2 := run_string (P := Try.prog) w2 _ 29 9 5 Try.underlying29 Try.underlying5 Try.underlying9 (some ⟨b, o, none⟩) n c _ (HS.out.to hbel)
        have hSE := strB_eq (rbytes ⟨f, 0, [], pairs (xs.drop 2), 0, 0⟩) xs hbl HX.out
        by_cases hq : rbytes ⟨f, 0, [], pairs (xs.drop 2), 0, 0⟩ = xs
        case neg =>
          rw [show (rbytes ⟨f, 0, [], pairs (xs.drop 2), 0, 0⟩ == xs) = false by rw [beq_eq_false_iff_ne]; exact hq] at hSE
          have HQ := Lib.hid hq
          clear hB hQ H hq SV hcv
          go_wp2_with (refine wpList_store_grown rfl 26 (.tmp 2) _ rfl w.heap.size #[.int .u8 0, .int .u8 0, .slice none 0 0, .slice none 0 0, .int .u16 0, .int .u16 0] rfl rfl 26 _ rz (by kernel_rfl) rfl (by simp [Value.oneCell']) ?_; intro w9 h9 g9 s9)
          refine bodyPost_row_tmp rfl w.heap.size 26 #[.int .u8 0, .int .u8 0, .slice none 0 0, .slice none 0 0, .int .u16 0, .int .u16 0] (0, 0) _ (.int .i64 13) rfl h9 Try.underlying26 rfl (by kernel_rfl) rfl rfl ?_
          rw [HP.out, if_neg (by rw [HR.out]; simp; exact HQ.out)]
          exact RetRepTag.bare _ _ (hbel.grown g9 hbel.size (fun k hk => by injection hk with hk; omega))
        case pos =>
          have HQ := Lib.hid hq
          rw [hq] at H1 SV ⊢
          clear hB hQ H hSE hq
          go_wp2_with (first
            | (refine wpList_load_row rfl 26 (.tmp 4) rfl k rfl 26 #[.int .u8 (f : Nat), .int .u8 0, .slice none 0 0, .slice Aw j cw, .int .u16 0, .int .u16 0] (0, 0) _ RA Try.underlying26 rfl (by kernel_rfl) ?_)
            | (refine wpList_store_grown rfl 26 (.tmp 2) _ rfl w.heap.size #[.int .u8 (f : Nat), .int .u8 0, .slice none 0 0, .slice Aw j cw, .int .u16 0, .int .u16 0] rfl rfl 26 _ rz (by kernel_rfl) rfl (by simp [Value.oneCell']) ?_; intro w9 h9 g9 s9))
          refine bodyPost_row_tmp rfl w.heap.size 26 #[.int .u8 (f : Nat), .int .u8 0, .slice none 0 0, .slice Aw j cw, .int .u16 0, .int .u16 0] (0, 0) _ (.int .i64 0) rfl h9 Try.underlying26 rfl (by kernel_rfl) rfl rfl ?_
          rw [HP.out, if_pos (by rw [HR.out, HQ.out]; simp)]
          exact ⟨_, _, _, _, _, _, rfl, SB.grown g9 (fun b o h e => by have := oB b o h; injection e with e; omega), SW.grown g9 (fun b o h e => by have := oW b o h; injection e with e; omega), kB, kW, (fun b o h => by have := oB b o h; omega), (fun b o h => by have := oW b o h; omega), hbel.grown g9 hbel.size (fun k hk => by injection hk with hk; omega)⟩
end Go.Proofs.Ytgjcefgdkhfghaa.AskW
