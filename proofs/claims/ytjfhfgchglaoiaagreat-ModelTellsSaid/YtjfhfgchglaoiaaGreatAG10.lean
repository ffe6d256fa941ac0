/- Merged: AskW12 AskW13. -/
import Derived.Test.YtjfhfgchglaoiaaGreatAG9
import Derived.Deep.RegionLaw
import Derived.Deep.RegionHeld3
/- The walk of saucierref02.Parse: where words are written, function 16. -/
set_option linter.unusedVariables false
set_option linter.unusedSimpArgs false
namespace Go.Proofs.YtjfhfgchglaoiaaGreat.AskW
open Go.RowKit Go.Proofs.YtjfhfgchglaoiaaGreat Go.Proofs.YtjfhfgchglaoiaaGreat.Ask
theorem words_snoc (xs : List Nat) (i j : Nat) (h : i + 2 * j + 1 < xs.length) : (pairs (xs.drop i)).take (j + 1) = (pairs (xs.drop i)).take j ++ [atF xs (i + 2 * j)] := by
  have hl : j < (pairs (xs.drop i)).length := by rw [pairs_len, List.length_drop]; omega
  rw [take_snoc hl, pairs_get _ _ (by rw [List.length_drop]; omega), atF_eq (by omega)]
  simp [num, List.getElem?_drop, Nat.add_assoc]
set_option maxRecDepth 100000 in
set_option maxHeartbeats 16000000 in
theorem refParse_words (A : Option Addr) (n c : Nat) (xs : List Nat) (w : World) (hs : Sl w w.heap.size A n (bs xs)) (hx : Bytes xs) (hn2 : n ≤ 300) (h5 : 5 ≤ n) (hc : n ≤ c) (hf : xs[0]?.getD 0 = 16) :
    Calls Tryz.prog 65 #[.slice A n c] w (RetReqTag w (parseF xs).1 .i64 (parseF xs).2) := by
  have q1 : xs.length = n := by simpa using hs.len
  have HWF := cand_wf hx
  have HP := Lib.hid (parse_cand xs)
  have HC : cand xs = ⟨xs[0]?.getD 0, atF xs 1, atF xs 3, 0, pairs (xs.drop 6), []⟩ := by simp [cand, hf]
  obtain ⟨f, ef⟩ : ∃ f, f = xs[0]?.getD 0 := ⟨_, rfl⟩
  rw [← ef] at HC hf
  obtain ⟨a, ea⟩ : ∃ x, x = atF xs 1 := ⟨_, rfl⟩
  have ha : a < 65536 := by rw [ea]; exact atF_lt hx 1
  have Ka := Lib.hid (fun X (b : Below w.heap.size w X) => refAt_quiet A n c xs 1 X (hs.to b) hx (by omega) (by omega))
  rw [← ea] at HC Ka
  have va : IntKind.u16.wrap (a : Int) = a := by rw [IntKind.wrap_u16]; omega
  have ua := w64 (show a ≤ 9223372036854775807 by omega)
  obtain ⟨m, em⟩ : ∃ x, x = atF xs 3 := ⟨_, rfl⟩
  have hm : m < 65536 := by rw [em]; exact atF_lt hx 3
  have Km := Lib.hid (fun X (b : Below w.heap.size w X) => refAt_quiet A n c xs 3 X (hs.to b) hx (by omega) (by omega))
  rw [← em] at HC Km
  have vm : IntKind.u16.wrap (m : Int) = m := by rw [IntKind.wrap_u16]; omega
  have um := w64 (show m ≤ 9223372036854775807 by omega)
  have T5 : ((f : Int) == 5) = false := by first | (rw [beq_eq_false_iff_ne]; omega) | (rw [beq_iff_eq]; omega)
  have T6 : ((f : Int) == 6) = false := by first | (rw [beq_eq_false_iff_ne]; omega) | (rw [beq_iff_eq]; omega)
  have T15 : ((f : Int) == 15) = false := by first | (rw [beq_eq_false_iff_ne]; omega) | (rw [beq_iff_eq]; omega)
  have T16 : ((f : Int) == 16) = true := by first | (rw [beq_eq_false_iff_ne]; omega) | (rw [beq_iff_eq]; omega)
  have T23 : ((f : Int) == 23) = false := by first | (rw [beq_eq_false_iff_ne]; omega) | (rw [beq_iff_eq]; omega)
  rw [HC] at HP HWF
  obtain ⟨P, hP⟩ : ∃ P, P = parseF xs := ⟨_, rfl⟩
  rw [← hP] at HP ⊢
  have HD := Lib.hid (fun j (hj : j < n) (b o : Nat) (e : A = some ⟨b, o, none⟩) => hs)
  obtain ⟨b, o, rfl, hbl, d1⟩ := hs.2 (by omega)
  have g1 : w.cell? ⟨b, o, none⟩ = some (.int .u8 (f : Nat)) := (d1 0 (by omega)).trans (by rw [bs_get (by omega), ← ef])
  have HS := Lib.hid hs
  have HX := Lib.hid hx
  have z1 : (0 : Int) < (n : Int) := by omega
  have z1n : 0 < n := by omega
  have z1c : (0 : Int) ≤ (n : Int) := by omega
  have z2 : ¬ (n : Int) < 5 := by omega
  have HQ1 := Lib.hid q1
  obtain ⟨L, hL⟩ : ∃ L, L = (pairs (xs.drop 6)).length := ⟨_, rfl⟩
  have hUL : (pairs (xs.drop 6)).length = (n - 6) / 2 := by rw [pairs_len, List.length_drop, q1]
  have HLT := Lib.hid (show (pairs (xs.drop 6)).take L = pairs (xs.drop 6) from by rw [hL, List.take_length])
  rw [hUL] at hL
  have HL := Lib.hid hL
  have HN := Lib.hid hn2
  have KI := Lib.hid (fun X (bb : Below w.heap.size w X) (i : Nat) (hi : i ≤ 100000) => refAt_quiet (some ⟨b, o, none⟩) n c xs i X (hs.to bb) hx (by omega) hi)
  clear hL hUL
  clear HC hP hs hx hn2 h5 ea em q1 d1 hf ef HD
  go_enter Tryz.func65, Tryz.ntmps65
  go_wp2_with fail
  go_region_held3 (fun w' => Below w.heap.size w w' ∧ w'.cell? ⟨b, o, none⟩ = some (.int .u8 (f : Nat)))
    (exact keepB hbl g1 (by repeat (first | with_reducible exact Below.refl _ _ | with_reducible assumption | with_reducible apply Below.new | with_reducible apply Below.drewN | with_reducible apply Below.drew | with_reducible refine Below.setCell ?_ (Nat.le_succ _) _)))
    ((go_at_call 82; refine (Ka.out _ (by repeat (first | with_reducible exact Below.refl _ _ | with_reducible assumption | with_reducible apply Below.new | with_reducible apply Below.drewN | with_reducible apply Below.drew | with_reducible refine Below.setCell ?_ (Nat.le_succ _) _))).mono ?_; rintro e w1 ⟨rfl, d, rfl⟩))
  all_goals (
    first
      | (obtain ⟨W1, hW1⟩ : ∃ W1, W1 = (((w.alloc (.cells #[.int .u8 0, .int .u16 0, .int .u16 0, .int .u16 0, .slice none 0 0, .slice none 0 0] 31)).drewN (1 + d)).alloc (.cells #[.int .u8 (f : Nat), .int .u16 (a : Nat), .int .u16 0, .int .u16 0, .slice none 0 0, .slice none 0 0] 31)) := ⟨_, rfl⟩
         rw [← hW1]
         have S : Pt w W1 (w.heap.size + 1) #[.int .u8 (f : Nat), .int .u16 (a : Nat), .int .u16 0, .int .u16 0, .slice none 0 0, .slice none 0 0] := hW1 ▸ Pt_a w (1 + d) f a
         clear hW1)
      | (obtain ⟨W1, hW1⟩ : ∃ W1, W1 = (((((((((w.alloc (.cells #[.int .u8 0, .int .u16 0, .int .u16 0, .int .u16 0, .slice none 0 0, .slice none 0 0] 31)).alloc (.cells #[.int .u8 0, .int .u16 0, .int .u16 0, .int .u16 0, .slice none 0 0, .slice none 0 0] 31)).drewN (1 + d)).setCell ⟨w.heap.size + 1, 0, none⟩ (.int .u8 (f : Nat))).setCell ⟨w.heap.size + 1, 1, none⟩ (.int .u16 (a : Nat))).setCell ⟨w.heap.size + 1, 2, none⟩ (.int .u16 0)).setCell ⟨w.heap.size + 1, 3, none⟩ (.int .u16 0)).setCell ⟨w.heap.size + 1, 4, none⟩ (.slice none 0 0)).setCell ⟨w.heap.size + 1, 5, none⟩ (.slice none 0 0)) := ⟨_, rfl⟩
         rw [← hW1]
         have S : Pt w W1 (w.heap.size + 1) #[.int .u8 (f : Nat), .int .u16 (a : Nat), .int .u16 0, .int .u16 0, .slice none 0 0, .slice none 0 0] := hW1 ▸ Pt_b w (1 + d) f a
         clear hW1))
  all_goals (
    obtain ⟨k, ek⟩ : ∃ k, k = w.heap.size + 1 := ⟨_, rfl⟩
    rw [← ek] at S ⊢
    clear ek
    obtain ⟨c0, c1, c2, c3, c4, c5⟩ := row6 S.ra
    go_wp2_with fail
    refine (Km.out _ S.bel).mono ?_
    rintro e W2 ⟨rfl, dd, hdd⟩
    have S := S.drewN dd
    rw [← hdd] at S
    clear hdd
    obtain ⟨c0, c1, c2, c3, c4, c5⟩ := row6 S.ra
    obtain ⟨f0, f1, f2, f3, f4, f5⟩ := free6 S.ra
    have slt := S.lt
    have sne : ¬ W2.heap.size = k := by omega
    have sne2 : ¬ k = W2.heap.size := by omega
    have S := S.set 2 (.int .u16 (m : Nat))
    obtain ⟨W3, hW3⟩ : ∃ W3, W3 = (W2.setCell ⟨k, 2, none⟩ (.int .u16 (m : Nat))) := ⟨_, rfl⟩
    go_wp2_with fail
    rw [← hW3] at S ⊢
    clear hW3
    go_loopw [7] (fun i wr => ∃ (j I : Nat) (v : Value), j ≤ L ∧ I = 6 + 2 * j ∧ i = .int .i64 I ∧ Has w wr 29 v j (ws ((pairs (xs.drop 6)).take j)) ∧ Pt w wr k #[.int .u8 (f : Nat), .int .u16 (a : Nat), .int .u16 (m : Nat), .int .u16 0, v, .slice none 0 0] ∧ (∀ b, v.ownBlock = some b → w.heap.size < b ∧ b ≠ k)) (fun i _ => n - (intOf i).toNat)
    case atStart => exact ⟨0, 6, _, by omega, rfl, rfl, by simpa [ws] using Has.nil_ S.bel _, S, fun b h => by simp [Value.ownBlock] at h⟩
    case round =>
      obtain ⟨j, I, v, hj, hI, rfl, H, S, hv⟩ := hrel
      have hLL := HL.out
      have hnn := HN.out
      have HI := Lib.hid hI
      have hIw : IntKind.i64.wrap ((I : Int) + 1) = (I : Int) + 1 := by rw [IntKind.wrap_i64]; omega
      have hIw2 : IntKind.i64.wrap ((I : Int) + 2) = (I : Int) + 2 := by rw [IntKind.wrap_i64]; omega
      by_cases hlt : (I : Int) + 1 < (n : Int)
      · have hjL : j < 2400 := by omega
        have hjl : j < L := by omega
        have HT := Lib.hid (words_snoc xs 6 j (by rw [HQ1.out]; omega))
        rw [← hI] at HT
        have hI1 : I ≤ 100000 := by omega
        have KX := Lib.hid (fun X b => KI.out X b I hI1)
        have hxl : atF xs I < 65536 := atF_lt HX.out I
        obtain ⟨x, ex⟩ : ∃ x, x = atF xs I := ⟨_, rfl⟩
        rw [← ex] at HT KX hxl
        have vx : IntKind.u16.wrap (x : Int) = x := by rw [IntKind.wrap_u16]; omega
        have ux := w64 (show x ≤ 9223372036854775807 by omega)
        have hIn : I < n := by omega
        clear ex hI hLL hnn KI
        obtain ⟨c0, c1, c2, c3, c4, c5⟩ := row6 S.ra
        obtain ⟨f0, f1, f2, f3, f4, f5⟩ := free6 S.ra
        have slt := S.lt
        have skw := S.hk
        have sne3 : ¬ wr.heap.size = k := by omega
        have sne4 : ¬ k = wr.heap.size := by omega
        go_wp2_with fail
        go_region_law (first
            | (rw [if_pos (by kernel_rfl)]; go_simp; go_at_call 82; refine (KX.out _ S.drew.bel).mono ?_; rintro e w3 ⟨rfl, d3, hd3⟩; have S3 := S.drew.drewN d3; have H4 : Has w (wr.drew.drewN d3) 29 v j (ws ((pairs (xs.drop 6)).take j)) := ⟨H.own, H.bel.drew.drewN d3⟩; rw [← hd3] at S3 H4; have slt3 := S3.lt; have sne5 : ¬ w3.heap.size = k := Nat.ne_of_gt slt3; have sne6 : ¬ k = w3.heap.size := Nat.ne_of_lt slt3; obtain ⟨c0, c1, c2, c3, c4, c5⟩ := row6 S3.ra; clear hd3; try dsimp only)
            | (refine step_app _root_.Go.Proofs.YtjfhfgchglaoiaaGreat.AskW.u16 rfl (.tmp 105) (.tmp 110) rfl (H4.alloc _) rfl (Sl.new1 _ _ _) rfl (one1 _ _) (by omega) (by simp only [maxLen]; omega) ?_; intro v4 w4 H5 g4 o4; have S5 := (S3.new (.cells #[.int .u16 (x : Nat)] 29)).grown g4 hv; obtain ⟨c0, c1, c2, c3, c4, c5⟩ := row6 S5.ra; obtain ⟨f0, f1, f2, f3, f4, f5⟩ := free6 S5.ra; obtain ⟨A4, cc4, rfl, hc4, -, -⟩ := H5.slice)
            | fail)
        all_goals (
          have hv4 : ∀ b, (Value.slice A4 (j + 1) cc4).ownBlock = some b → w.heap.size < b ∧ b ≠ k := fun b hb => by
            rcases o4 with o4 | o4
            · exact hv b (by rw [← o4]; exact hb)
            · rw [o4] at hb; injection hb with hb; have := S3.lt; simp at hb; omega
          go_wp2_with fail
          go_roundw
          case rel =>
            refine ⟨j + 1, I + 2, _, by omega, by have := HI.out; omega, by go_num, ?_, S5.set 4 (.slice A4 (j + 1) cc4), hv4⟩
            rw [HT.out, ← ws_append]
            exact H5.other (grown_setCell w4 k 4 _) (Nat.le_of_lt skw) (fun e => (hv4 k e).2 rfl)
          case measure => simp [intOf]; omega)
      · obtain rfl : j = L := by omega
        obtain ⟨Aw, cw, rfl, kW, SW, oW0⟩ := H.slice
        obtain ⟨c0, c1, c2, c3, c4, c5⟩ := row6 S.ra
        have SB := Sl.empty wr wr.heap.size none
        have oB : ∀ b o, (none : Option Addr) = some (⟨b, o, none⟩ : Addr) → w.heap.size < b := fun _ _ h => by cases h
        have kB : (0 : Nat) ≤ 0 := Nat.le_refl _
        have oW : ∀ b o, Aw = some (⟨b, o, none⟩ : Addr) → w.heap.size < b := fun b o h => (hv b (by rw [h]; rfl)).1
        rw [HLT.out] at SW
        clear hj hLL hnn H HL KI hI
        have RA := S.ra
        go_wp2_with (first
          | (refine wpList_load_row rfl 31 (.tmp 4) rfl k rfl 31 #[.int .u8 (f : Nat), .int .u16 (a : Nat), .int .u16 (m : Nat), .int .u16 0, .slice Aw j cw, .slice none 0 0] (0, 0) _ RA Tryz.underlying31 rfl (by kernel_rfl) ?_))
        refine (refBytes_any _ _ _ _ _ _ _ _ _ _ _ _ _ SW SB HWF).mono ?_
        rintro e w2 ⟨v, rfl, H⟩
        have S := S.call H.bel
        have SW := SW.to H.bel
        have SB := SB.to H.bel
        have RA := S.ra
        have rz := S.rz
        have hbel := S.bel
        have hk := S.hk
        have lz := row_lt rz
        obtain ⟨R, hR⟩ : ∃ R, R = right ⟨f, a, m, 0, pairs (xs.drop 6), []⟩ := ⟨_, rfl⟩
        cases R
        case false =>
          have HR := Lib.hid hR.symm
          have hB : bytesE ⟨f, a, m, 0, pairs (xs.drop 6), []⟩ = ([], 12) := by unfold bytesE; rw [HR.out]; rfl
          rw [hB] at H ⊢
          clear hB hR H
          go_wp2_with (refine wpList_store_grown rfl 31 (.tmp 2) _ rfl w.heap.size #[.int .u8 0, .int .u16 0, .int .u16 0, .int .u16 0, .slice none 0 0, .slice none 0 0] rfl rfl 31 _ rz (by kernel_rfl) rfl (by simp [Value.oneCell']) ?_; intro w9 h9 g9 s9)
          refine bodyPost_row_tmp rfl w.heap.size 31 #[.int .u8 0, .int .u16 0, .int .u16 0, .int .u16 0, .slice none 0 0, .slice none 0 0] (0, 0) _ (.int .i64 12) rfl h9 Tryz.underlying31 rfl (by kernel_rfl) rfl rfl ?_
          rw [HP.out, if_neg (by rw [HR.out]; simp)]
          exact RetReqTag.bare 0 _ _ (hbel.grown g9 hbel.size (fun k hk => by injection hk with hk; omega))
        case true =>
          have HR := Lib.hid hR.symm
          have hB : bytesE ⟨f, a, m, 0, pairs (xs.drop 6), []⟩ = (bytes ⟨f, a, m, 0, pairs (xs.drop 6), []⟩, 0) := by unfold bytesE; rw [HR.out]; rfl
          rw [hB] at H ⊢
          dsimp only at H
          have hbl : Bytes (bytes ⟨f, a, m, 0, pairs (xs.drop 6), []⟩) := bytes_lt _ HWF (by have := right_words HR.out; omega)
          obtain ⟨Av, cv, rfl, hcv, SV, _⟩ := H.slice
          have H1 := run_string (P := Tryz.prog) w2 _ 32 9 5 Tryz.underlying32 Tryz.underlying5 Tryz.underlying9 Av _ cv _ SV
          have H2 := run_string (P := Tryz.prog) w2 _ 32 9 5 Tryz.underlying32 Tryz.underlying5 Tryz.underlying9 (some ⟨b, o, none⟩) n c _ (HS.out.to hbel)
          have hSE := strB_eq (bytes ⟨f, a, m, 0, pairs (xs.drop 6), []⟩) xs hbl HX.out
          by_cases hq : bytes ⟨f, a, m, 0, pairs (xs.drop 6), []⟩ = xs
          case neg =>
            rw [show (bytes ⟨f, a, m, 0, pairs (xs.drop 6), []⟩ == xs) = false by rw [beq_eq_false_iff_ne]; exact hq] at hSE
            have HQ := Lib.hid hq
            clear hB hR H hq SV hcv
            go_wp2_with (refine wpList_store_grown rfl 31 (.tmp 2) _ rfl w.heap.size #[.int .u8 0, .int .u16 0, .int .u16 0, .int .u16 0, .slice none 0 0, .slice none 0 0] rfl rfl 31 _ rz (by kernel_rfl) rfl (by simp [Value.oneCell']) ?_; intro w9 h9 g9 s9)
            refine bodyPost_row_tmp rfl w.heap.size 31 #[.int .u8 0, .int .u16 0, .int .u16 0, .int .u16 0, .slice none 0 0, .slice none 0 0] (0, 0) _ (.int .i64 12) rfl h9 Tryz.underlying31 rfl (by kernel_rfl) rfl rfl ?_
            rw [HP.out, if_neg (by rw [HR.out]; simp; exact HQ.out)]
            exact RetReqTag.bare 0 _ _ (hbel.grown g9 hbel.size (fun k hk => by injection hk with hk; omega))
          case pos =>
            have HQ := Lib.hid hq
            rw [hq] at H1 SV ⊢
            clear hB hR H hSE hq
            go_wp2_with (first
              | (refine wpList_load_row rfl 31 (.tmp 4) rfl k rfl 31 #[.int .u8 (f : Nat), .int .u16 (a : Nat), .int .u16 (m : Nat), .int .u16 0, .slice Aw j cw, .slice none 0 0] (0, 0) _ RA Tryz.underlying31 rfl (by kernel_rfl) ?_)
              | (refine wpList_store_grown rfl 31 (.tmp 2) _ rfl w.heap.size #[.int .u8 (f : Nat), .int .u16 (a : Nat), .int .u16 (m : Nat), .int .u16 0, .slice Aw j cw, .slice none 0 0] rfl rfl 31 _ rz (by kernel_rfl) rfl (by simp [Value.oneCell']) ?_; intro w9 h9 g9 s9))
            refine bodyPost_row_tmp rfl w.heap.size 31 #[.int .u8 (f : Nat), .int .u16 (a : Nat), .int .u16 (m : Nat), .int .u16 0, .slice Aw j cw, .slice none 0 0] (0, 0) _ (.int .i64 0) rfl h9 Tryz.underlying31 rfl (by kernel_rfl) rfl rfl ?_
            rw [HP.out, if_pos (by rw [HR.out, HQ.out]; simp)]
            exact ⟨_, _, _, _, _, _, rfl, SW.grown g9 (fun b o h e => by have := oW b o h; injection e with e; omega), SB.grown g9 (fun b o h e => by have := oB b o h; injection e with e; omega), kW, kB, (fun b o h => by have := oW b o h; omega), (fun b o h => by have := oB b o h; omega), hbel.grown g9 hbel.size (fun k hk => by injection hk with hk; omega)⟩)
end Go.Proofs.YtjfhfgchglaoiaaGreat.AskW
/- The walk of saucierref02.Parse: where words are written, function 23. -/
set_option linter.unusedVariables false
set_option linter.unusedSimpArgs false
namespace Go.Proofs.YtjfhfgchglaoiaaGreat.AskW
open Go.RowKit Go.Proofs.YtjfhfgchglaoiaaGreat Go.Proofs.YtjfhfgchglaoiaaGreat.Ask
set_option maxRecDepth 100000 in
set_option maxHeartbeats 16000000 in
theorem refParse_swap (A : Option Addr) (n c : Nat) (xs : List Nat) (w : World) (hs : Sl w w.heap.size A n (bs xs)) (hx : Bytes xs) (hn2 : n ≤ 300) (h5 : 5 ≤ n) (hc : n ≤ c) (hf : xs[0]?.getD 0 = 23) :
    Calls Tryz.prog 65 #[.slice A n c] w (RetReqTag w (parseF xs).1 .i64 (parseF xs).2) := by
  have q1 : xs.length = n := by simpa using hs.len
  have HWF := cand_wf hx
  have HP := Lib.hid (parse_cand xs)
  have HC : cand xs = ⟨xs[0]?.getD 0, atF xs 1, atF xs 3, atF xs 5, pairs (xs.drop 10), []⟩ := by simp [cand, hf]
  obtain ⟨f, ef⟩ : ∃ f, f = xs[0]?.getD 0 := ⟨_, rfl⟩
  rw [← ef] at HC hf
  obtain ⟨a, ea⟩ : ∃ x, x = atF xs 1 := ⟨_, rfl⟩
  have ha : a < 65536 := by rw [ea]; exact atF_lt hx 1
  have Ka := Lib.hid (fun X (b : Below w.heap.size w X) => refAt_quiet A n c xs 1 X (hs.to b) hx (by omega) (by omega))
  rw [← ea] at HC Ka
  have va : IntKind.u16.wrap (a : Int) = a := by rw [IntKind.wrap_u16]; omega
  have ua := w64 (show a ≤ 9223372036854775807 by omega)
  obtain ⟨m, em⟩ : ∃ x, x = atF xs 3 := ⟨_, rfl⟩
  have hm : m < 65536 := by rw [em]; exact atF_lt hx 3
  have Km := Lib.hid (fun X (b : Below w.heap.size w X) => refAt_quiet A n c xs 3 X (hs.to b) hx (by omega) (by omega))
  rw [← em] at HC Km
  have vm : IntKind.u16.wrap (m : Int) = m := by rw [IntKind.wrap_u16]; omega
  have um := w64 (show m ≤ 9223372036854775807 by omega)
  obtain ⟨t, et⟩ : ∃ x, x = atF xs 5 := ⟨_, rfl⟩
  have ht : t < 65536 := by rw [et]; exact atF_lt hx 5
  have Kt := Lib.hid (fun X (b : Below w.heap.size w X) => refAt_quiet A n c xs 5 X (hs.to b) hx (by omega) (by omega))
  rw [← et] at HC Kt
  have vt : IntKind.u16.wrap (t : Int) = t := by rw [IntKind.wrap_u16]; omega
  have ut := w64 (show t ≤ 9223372036854775807 by omega)
  have T5 : ((f : Int) == 5) = false := by first | (rw [beq_eq_false_iff_ne]; omega) | (rw [beq_iff_eq]; omega)
  have T6 : ((f : Int) == 6) = false := by first | (rw [beq_eq_false_iff_ne]; omega) | (rw [beq_iff_eq]; omega)
  have T15 : ((f : Int) == 15) = false := by first | (rw [beq_eq_false_iff_ne]; omega) | (rw [beq_iff_eq]; omega)
  have T16 : ((f : Int) == 16) = false := by first | (rw [beq_eq_false_iff_ne]; omega) | (rw [beq_iff_eq]; omega)
  have T23 : ((f : Int) == 23) = true := by first | (rw [beq_eq_false_iff_ne]; omega) | (rw [beq_iff_eq]; omega)
  rw [HC] at HP HWF
  obtain ⟨P, hP⟩ : ∃ P, P = parseF xs := ⟨_, rfl⟩
  rw [← hP] at HP ⊢
  have HD := Lib.hid (fun j (hj : j < n) (b o : Nat) (e : A = some ⟨b, o, none⟩) => hs)
  obtain ⟨b, o, rfl, hbl, d1⟩ := hs.2 (by omega)
  have g1 : w.cell? ⟨b, o, none⟩ = some (.int .u8 (f : Nat)) := (d1 0 (by omega)).trans (by rw [bs_get (by omega), ← ef])
  have HS := Lib.hid hs
  have HX := Lib.hid hx
  have z1 : (0 : Int) < (n : Int) := by omega
  have z1n : 0 < n := by omega
  have z1c : (0 : Int) ≤ (n : Int) := by omega
  have z2 : ¬ (n : Int) < 5 := by omega
  have HQ1 := Lib.hid q1
  obtain ⟨L, hL⟩ : ∃ L, L = (pairs (xs.drop 10)).length := ⟨_, rfl⟩
  have hUL : (pairs (xs.drop 10)).length = (n - 10) / 2 := by rw [pairs_len, List.length_drop, q1]
  have HLT := Lib.hid (show (pairs (xs.drop 10)).take L = pairs (xs.drop 10) from by rw [hL, List.take_length])
  rw [hUL] at hL
  have HL := Lib.hid hL
  have HN := Lib.hid hn2
  have KI := Lib.hid (fun X (bb : Below w.heap.size w X) (i : Nat) (hi : i ≤ 100000) => refAt_quiet (some ⟨b, o, none⟩) n c xs i X (hs.to bb) hx (by omega) hi)
  clear hL hUL
  clear HC hP hs hx hn2 h5 ea em et q1 d1 hf ef HD
  go_enter Tryz.func65, Tryz.ntmps65
  go_wp2_with fail
  go_region_held3 (fun w' => Below w.heap.size w w' ∧ w'.cell? ⟨b, o, none⟩ = some (.int .u8 (f : Nat)))
    (exact keepB hbl g1 (by repeat (first | with_reducible exact Below.refl _ _ | with_reducible assumption | with_reducible apply Below.new | with_reducible apply Below.drewN | with_reducible apply Below.drew | with_reducible refine Below.setCell ?_ (Nat.le_succ _) _)))
    ((go_at_call 82; refine (Ka.out _ (by repeat (first | with_reducible exact Below.refl _ _ | with_reducible assumption | with_reducible apply Below.new | with_reducible apply Below.drewN | with_reducible apply Below.drew | with_reducible refine Below.setCell ?_ (Nat.le_succ _) _))).mono ?_; rintro e w1 ⟨rfl, d, rfl⟩))
  all_goals (
    first
      | (obtain ⟨W1, hW1⟩ : ∃ W1, W1 = (((w.alloc (.cells #[.int .u8 0, .int .u16 0, .int .u16 0, .int .u16 0, .slice none 0 0, .slice none 0 0] 31)).drewN (1 + d)).alloc (.cells #[.int .u8 (f : Nat), .int .u16 (a : Nat), .int .u16 0, .int .u16 0, .slice none 0 0, .slice none 0 0] 31)) := ⟨_, rfl⟩
         rw [← hW1]
         have S : Pt w W1 (w.heap.size + 1) #[.int .u8 (f : Nat), .int .u16 (a : Nat), .int .u16 0, .int .u16 0, .slice none 0 0, .slice none 0 0] := hW1 ▸ Pt_a w (1 + d) f a
         clear hW1)
      | (obtain ⟨W1, hW1⟩ : ∃ W1, W1 = (((((((((w.alloc (.cells #[.int .u8 0, .int .u16 0, .int .u16 0, .int .u16 0, .slice none 0 0, .slice none 0 0] 31)).alloc (.cells #[.int .u8 0, .int .u16 0, .int .u16 0, .int .u16 0, .slice none 0 0, .slice none 0 0] 31)).drewN (1 + d)).setCell ⟨w.heap.size + 1, 0, none⟩ (.int .u8 (f : Nat))).setCell ⟨w.heap.size + 1, 1, none⟩ (.int .u16 (a : Nat))).setCell ⟨w.heap.size + 1, 2, none⟩ (.int .u16 0)).setCell ⟨w.heap.size + 1, 3, none⟩ (.int .u16 0)).setCell ⟨w.heap.size + 1, 4, none⟩ (.slice none 0 0)).setCell ⟨w.heap.size + 1, 5, none⟩ (.slice none 0 0)) := ⟨_, rfl⟩
         rw [← hW1]
         have S : Pt w W1 (w.heap.size + 1) #[.int .u8 (f : Nat), .int .u16 (a : Nat), .int .u16 0, .int .u16 0, .slice none 0 0, .slice none 0 0] := hW1 ▸ Pt_b w (1 + d) f a
         clear hW1))
  all_goals (
    obtain ⟨k, ek⟩ : ∃ k, k = w.heap.size + 1 := ⟨_, rfl⟩
    rw [← ek] at S ⊢
    clear ek
    obtain ⟨c0, c1, c2, c3, c4, c5⟩ := row6 S.ra
    go_wp2_with fail
    refine (Km.out _ S.bel).mono ?_
    rintro e W2 ⟨rfl, dd, hdd⟩
    have S := S.drewN dd
    rw [← hdd] at S
    clear hdd
    obtain ⟨c0, c1, c2, c3, c4, c5⟩ := row6 S.ra
    obtain ⟨f0, f1, f2, f3, f4, f5⟩ := free6 S.ra
    have slt := S.lt
    have sne : ¬ W2.heap.size = k := by omega
    have sne2 : ¬ k = W2.heap.size := by omega
    have S := S.set 2 (.int .u16 (m : Nat))
    obtain ⟨W5, hW5⟩ : ∃ W5, W5 = (W2.setCell ⟨k, 2, none⟩ (.int .u16 (m : Nat))) := ⟨_, rfl⟩
    go_wp2_with fail
    rw [← hW5] at S ⊢
    clear hW5
    obtain ⟨c0, c1, c2, c3, c4, c5⟩ := row6 S.ra
    go_wp2_with fail
    refine (Kt.out _ S.bel).mono ?_
    rintro e W6 ⟨rfl, dd, hdd⟩
    have S := S.drewN dd
    rw [← hdd] at S
    clear hdd
    obtain ⟨c0, c1, c2, c3, c4, c5⟩ := row6 S.ra
    obtain ⟨f0, f1, f2, f3, f4, f5⟩ := free6 S.ra
    have slt := S.lt
    have sne : ¬ W6.heap.size = k := by omega
    have sne2 : ¬ k = W6.heap.size := by omega
    have S := S.set 3 (.int .u16 (t : Nat))
    obtain ⟨W3, hW3⟩ : ∃ W3, W3 = (W6.setCell ⟨k, 3, none⟩ (.int .u16 (t : Nat))) := ⟨_, rfl⟩
    go_wp2_with fail
    rw [← hW3] at S ⊢
    clear hW3
    go_loopw [7] (fun i wr => ∃ (j I : Nat) (v : Value), j ≤ L ∧ I = 10 + 2 * j ∧ i = .int .i64 I ∧ Has w wr 29 v j (ws ((pairs (xs.drop 10)).take j)) ∧ Pt w wr k #[.int .u8 (f : Nat), .int .u16 (a : Nat), .int .u16 (m : Nat), .int .u16 (t : Nat), v, .slice none 0 0] ∧ (∀ b, v.ownBlock = some b → w.heap.size < b ∧ b ≠ k)) (fun i _ => n - (intOf i).toNat)
    case atStart => exact ⟨0, 10, _, by omega, rfl, rfl, by simpa [ws] using Has.nil_ S.bel _, S, fun b h => by simp [Value.ownBlock] at h⟩
    case round =>
      obtain ⟨j, I, v, hj, hI, rfl, H, S, hv⟩ := hrel
      have hLL := HL.out
      have hnn := HN.out
      have HI := Lib.hid hI
      have hIw : IntKind.i64.wrap ((I : Int) + 1) = (I : Int) + 1 := by rw [IntKind.wrap_i64]; omega
      have hIw2 : IntKind.i64.wrap ((I : Int) + 2) = (I : Int) + 2 := by rw [IntKind.wrap_i64]; omega
      by_cases hlt : (I : Int) + 1 < (n : Int)
      · have hjL : j < 2400 := by omega
        have hjl : j < L := by omega
        have HT := Lib.hid (words_snoc xs 10 j (by rw [HQ1.out]; omega))
        rw [← hI] at HT
        have hI1 : I ≤ 100000 := by omega
        have KX := Lib.hid (fun X b => KI.out X b I hI1)
        have hxl : atF xs I < 65536 := atF_lt HX.out I
        obtain ⟨x, ex⟩ : ∃ x, x = atF xs I := ⟨_, rfl⟩
        rw [← ex] at HT KX hxl
        have vx : IntKind.u16.wrap (x : Int) = x := by rw [IntKind.wrap_u16]; omega
        have ux := w64 (show x ≤ 9223372036854775807 by omega)
        have hIn : I < n := by omega
        clear ex hI hLL hnn KI
        obtain ⟨c0, c1, c2, c3, c4, c5⟩ := row6 S.ra
        obtain ⟨f0, f1, f2, f3, f4, f5⟩ := free6 S.ra
        have slt := S.lt
        have skw := S.hk
        have sne3 : ¬ wr.heap.size = k := by omega
        have sne4 : ¬ k = wr.heap.size := by omega
        go_wp2_with fail
        go_region_law (first
            | (rw [if_pos (by kernel_rfl)]; go_simp; go_at_call 82; refine (KX.out _ S.drew.bel).mono ?_; rintro e w3 ⟨rfl, d3, hd3⟩; have S3 := S.drew.drewN d3; have H4 : Has w (wr.drew.drewN d3) 29 v j (ws ((pairs (xs.drop 10)).take j)) := ⟨H.own, H.bel.drew.drewN d3⟩; rw [← hd3] at S3 H4; have slt3 := S3.lt; have sne5 : ¬ w3.heap.size = k := Nat.ne_of_gt slt3; have sne6 : ¬ k = w3.heap.size := Nat.ne_of_lt slt3; obtain ⟨c0, c1, c2, c3, c4, c5⟩ := row6 S3.ra; clear hd3; try dsimp only)
            | (refine step_app _root_.Go.Proofs.YtjfhfgchglaoiaaGreat.AskW.u16 rfl (.tmp 105) (.tmp 110) rfl (H4.alloc _) rfl (Sl.new1 _ _ _) rfl (one1 _ _) (by omega) (by simp only [maxLen]; omega) ?_; intro v4 w4 H5 g4 o4; have S5 := (S3.new (.cells #[.int .u16 (x : Nat)] 29)).grown g4 hv; obtain ⟨c0, c1, c2, c3, c4, c5⟩ := row6 S5.ra; obtain ⟨f0, f1, f2, f3, f4, f5⟩ := free6 S5.ra; obtain ⟨A4, cc4, rfl, hc4, -, -⟩ := H5.slice)
            | fail)
        all_goals (
          have hv4 : ∀ b, (Value.slice A4 (j + 1) cc4).ownBlock = some b → w.heap.size < b ∧ b ≠ k := fun b hb => by
            rcases o4 with o4 | o4
            · exact hv b (by rw [← o4]; exact hb)
            · rw [o4] at hb; injection hb with hb; have := S3.lt; simp at hb; omega
          go_wp2_with fail
          go_roundw
          case rel =>
            refine ⟨j + 1, I + 2, _, by omega, by have := HI.out; omega, by go_num, ?_, S5.set 4 (.slice A4 (j + 1) cc4), hv4⟩
            rw [HT.out, ← ws_append]
            exact H5.other (grown_setCell w4 k 4 _) (Nat.le_of_lt skw) (fun e => (hv4 k e).2 rfl)
          case measure => simp [intOf]; omega)
      · obtain rfl : j = L := by omega
        obtain ⟨Aw, cw, rfl, kW, SW, oW0⟩ := H.slice
        obtain ⟨c0, c1, c2, c3, c4, c5⟩ := row6 S.ra
        have SB := Sl.empty wr wr.heap.size none
        have oB : ∀ b o, (none : Option Addr) = some (⟨b, o, none⟩ : Addr) → w.heap.size < b := fun _ _ h => by cases h
        have kB : (0 : Nat) ≤ 0 := Nat.le_refl _
        have oW : ∀ b o, Aw = some (⟨b, o, none⟩ : Addr) → w.heap.size < b := fun b o h => (hv b (by rw [h]; rfl)).1
        rw [HLT.out] at SW
        clear hj hLL hnn H HL KI hI
        have RA := S.ra
        go_wp2_with (first
          | (refine wpList_load_row rfl 31 (.tmp 4) rfl k rfl 31 #[.int .u8 (f : Nat), .int .u16 (a : Nat), .int .u16 (m : Nat), .int .u16 (t : Nat), .slice Aw j cw, .slice none 0 0] (0, 0) _ RA Tryz.underlying31 rfl (by kernel_rfl) ?_))
        refine (refBytes_any _ _ _ _ _ _ _ _ _ _ _ _ _ SW SB HWF).mono ?_
        rintro e w2 ⟨v, rfl, H⟩
        have S := S.call H.bel
        have SW := SW.to H.bel
        have SB := SB.to H.bel
        have RA := S.ra
        have rz := S.rz
        have hbel := S.bel
        have hk := S.hk
        have lz := row_lt rz
        obtain ⟨R, hR⟩ : ∃ R, R = right ⟨f, a, m, t, pairs (xs.drop 10), []⟩ := ⟨_, rfl⟩
        cases R
        case false =>
          have HR := Lib.hid hR.symm
          have hB : bytesE ⟨f, a, m, t, pairs (xs.drop 10), []⟩ = ([], 12) := by unfold bytesE; rw [HR.out]; rfl
          rw [hB] at H ⊢
          clear hB hR H
          go_wp2_with (refine wpList_store_grown rfl 31 (.tmp 2) _ rfl w.heap.size #[.int .u8 0, .int .u16 0, .int .u16 0, .int .u16 0, .slice none 0 0, .slice none 0 0] rfl rfl 31 _ rz (by kernel_rfl) rfl (by simp [Value.oneCell']) ?_; intro w9 h9 g9 s9)
          refine bodyPost_row_tmp rfl w.heap.size 31 #[.int .u8 0, .int .u16 0, .int .u16 0, .int .u16 0, .slice none 0 0, .slice none 0 0] (0, 0) _ (.int .i64 12) rfl h9 Tryz.underlying31 rfl (by kernel_rfl) rfl rfl ?_
          rw [HP.out, if_neg (by rw [HR.out]; simp)]
          exact RetReqTag.bare 0 _ _ (hbel.grown g9 hbel.size (fun k hk => by injection hk with hk; omega))
        case true =>
          have HR := Lib.hid hR.symm
          have hB : bytesE ⟨f, a, m, t, pairs (xs.drop 10), []⟩ = (bytes ⟨f, a, m, t, pairs (xs.drop 10), []⟩, 0) := by unfold bytesE; rw [HR.out]; rfl
          rw [hB] at H ⊢
          dsimp only at H
          have hbl : Bytes (bytes ⟨f, a, m, t, pairs (xs.drop 10), []⟩) := bytes_lt _ HWF (by have := right_words HR.out; omega)
          obtain ⟨Av, cv, rfl, hcv, SV, _⟩ := H.slice
          have H1 := run_string (P := Tryz.prog) w2 _ 32 9 5 Tryz.underlying32 Tryz.underlying5 Tryz.underlying9 Av _ cv _ SV
          have H2 := run_string (P := Tryz.prog) w2 _ 32 9 5 Tryz.underlying32 Tryz.underlying5 Tryz.underlying9 (some ⟨b, o, none⟩) n c _ (HS.out.to hbel)
          have hSE := strB_eq (bytes ⟨f, a, m, t, pairs (xs.drop 10), []⟩) xs hbl HX.out
          by_cases hq : bytes ⟨f, a, m, t, pairs (xs.drop 10), []⟩ = xs
          case neg =>
            rw [show (bytes ⟨f, a, m, t, pairs (xs.drop 10), []⟩ == xs) = false by rw [beq_eq_false_iff_ne]; exact hq] at hSE
            have HQ := Lib.hid hq
            clear hB hR H hq SV hcv
            go_wp2_with (refine wpList_store_grown rfl 31 (.tmp 2) _ rfl w.heap.size #[.int .u8 0, .int .u16 0, .int .u16 0, .int .u16 0, .slice none 0 0, .slice none 0 0] rfl rfl 31 _ rz (by kernel_rfl) rfl (by simp [Value.oneCell']) ?_; intro w9 h9 g9 s9)
            refine bodyPost_row_tmp rfl w.heap.size 31 #[.int .u8 0, .int .u16 0, .int .u16 0, .int .u16 0, .slice none 0 0, .slice none 0 0] (0, 0) _ (.int .i64 12) rfl h9 Tryz.underlying31 rfl (by kernel_rfl) rfl rfl ?_
            rw [HP.out, if_neg (by rw [HR.out]; simp; exact HQ.out)]
            exact RetReqTag.bare 0 _ _ (hbel.grown g9 hbel.size (fun k hk => by injection hk with hk; omega))
          case pos =>
            have HQ := Lib.hid hq
            rw [hq] at H1 SV ⊢
            clear hB hR H hSE hq
            go_wp2_with (first
              | (refine wpList_load_row rfl 31 (.tmp 4) rfl k rfl 31 #[.int .u8 (f : Nat), .int .u16 (a : Nat), .int .u16 (m : Nat), .int .u16 (t : Nat), .slice Aw j cw, .slice none 0 0] (0, 0) _ RA Tryz.underlying31 rfl (by kernel_rfl) ?_)
              | (refine wpList_store_grown rfl 31 (.tmp 2) _ rfl w.heap.size #[.int .u8 (f : Nat), .int .u16 (a : Nat), .int .u16 (m : Nat), .int .u16 (t : Nat), .slice Aw j cw, .slice none 0 0] rfl rfl 31 _ rz (by kernel_rfl) rfl (by simp [Value.oneCell']) ?_; intro w9 h9 g9 s9))
            refine bodyPost_row_tmp rfl w.heap.size 31 #[.int .u8 (f : Nat), .int .u16 (a : Nat), .int .u16 (m : Nat), .int .u16 (t : Nat), .slice Aw j cw, .slice none 0 0] (0, 0) _ (.int .i64 0) rfl h9 Tryz.underlying31 rfl (by kernel_rfl) rfl rfl ?_
            rw [HP.out, if_pos (by rw [HR.out, HQ.out]; simp)]
            exact ⟨_, _, _, _, _, _, rfl, SW.grown g9 (fun b o h e => by have := oW b o h; injection e with e; omega), SB.grown g9 (fun b o h e => by have := oB b o h; injection e with e; omega), kW, kB, (fun b o h => by have := oW b o h; omega), (fun b o h => by have := oB b o h; omega), hbel.grown g9 hbel.size (fun k hk => by injection hk with hk; omega)⟩)
end Go.Proofs.YtjfhfgchglaoiaaGreat.AskW
