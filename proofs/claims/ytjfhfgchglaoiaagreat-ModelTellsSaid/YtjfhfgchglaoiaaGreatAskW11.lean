/- The walk of saucierref02.Parse: where bits are written. -/
import Derived.Test.YtjfhfgchglaoiaaGreatAG9
import Derived.Test.YtjfhfgchglaoiaaGreatAG2
import Derived.Deep.RegionLaw
import Derived.Deep.RegionHeld3
set_option linter.unusedVariables false
set_option linter.unusedSimpArgs false
namespace Go.Proofs.YtjfhfgchglaoiaaGreat.AskW
open Go.RowKit Go.Proofs.YtjfhfgchglaoiaaGreat Go.Proofs.YtjfhfgchglaoiaaGreat.Ask
theorem sl_one {w : World} {b o n c : Nat} {xs : List Nat} (h : Sl w w.heap.size (some ⟨b, o, none⟩) n (bs xs)) {p : Nat} (hp : p < n) : Sl w w.heap.size (some ⟨b, o + p, none⟩) 1 (bs [xs[p]?.getD 0]) := by
  refine ⟨rfl, fun _ => ?_⟩
  obtain ⟨b', o', e, hb, hc⟩ := h.2 (by omega)
  injection e with e
  injection e with e1 e2
  subst e1 e2
  refine ⟨b, o + p, rfl, hb, fun j hj => ?_⟩
  obtain rfl : j = 0 := by omega
  have hl : xs.length = n := by simpa using h.len
  exact (hc p hp).trans (bs_get (by omega))
theorem unpack_one (y r : Nat) (h : r < 8) : (unpack [y])[r]?.getD false = y.testBit r := by
  rw [unpack_get (by simpa using h), show r / 8 = 0 by omega, show r % 8 = r by omega]; rfl
theorem bit_snoc (xs : List Nat) (j : Nat) (h : j < (unpack (xs.drop 6)).length) : (unpack (xs.drop 6)).take (j + 1) = (unpack (xs.drop 6)).take j ++ [(xs[6 + j / 8]?.getD 0).testBit (j % 8)] := by
  rw [List.take_succ_eq_append_getElem h]
  congr 2
  have := unpack_get (b := xs.drop 6) (j := j) (by simpa [unpack_length] using h)
  rw [List.getElem?_eq_getElem h, List.getElem?_drop] at this
  simpa using this
set_option maxRecDepth 100000 in
set_option maxHeartbeats 16000000 in
theorem refParse_bits (A : Option Addr) (n c : Nat) (xs : List Nat) (w : World) (hs : Sl w w.heap.size A n (bs xs)) (hx : Bytes xs) (hn2 : n ≤ 300) (h5 : 5 ≤ n) (hc : n ≤ c) (hf : xs[0]?.getD 0 = 15) :
    Calls Tryz.prog 65 #[.slice A n c] w (RetReqTag w (parseF xs).1 .i64 (parseF xs).2) := by
  have q1 : xs.length = n := by simpa using hs.len
  have HWF := cand_wf hx
  have HP := Lib.hid (parse_cand xs)
  have HC : cand xs = ⟨xs[0]?.getD 0, atF xs 1, atF xs 3, 0, [], (unpack (xs.drop 6)).take (atF xs 3)⟩ := by simp [cand, hf]
  obtain ⟨f, ef⟩ : ∃ f, f = xs[0]?.getD 0 := ⟨_, rfl⟩
  rw [← ef] at HC hf
  obtain ⟨a, ea⟩ : ∃ x, x = atF xs 1 := ⟨_, rfl⟩
  have ha : a < 65536 := by rw [ea]; exact atF_lt hx 1
  have Ka := Lib.hid (fun X (b : Below w.heap.size w X) => refAt_quiet A n c xs 1 X (hs.to b) hx (by omega) (by omega))
  rw [← ea] at HC Ka
  have va : IntKind.u16.wrap (a : Int) = a := by rw [IntKind.wrap_u16]; omega
  have ua := w64 (show a ≤ 9223372036854775807 by omega)
  obtain ⟨m, em⟩ : ∃ x, x = atF xs 3 := ⟨_, rfl⟩
  have hm : m < 65536 := by rw [em]; exact atF_lt hx 3
  have Km := Lib.hid (fun X (b : Below w.heap.size w X) => refAt_quiet A n c xs 3 X (hs.to b) hx (by omega) (by omega))
  rw [← em] at HC Km
  have vm : IntKind.u16.wrap (m : Int) = m := by rw [IntKind.wrap_u16]; omega
  have um := w64 (show m ≤ 9223372036854775807 by omega)
  have T5 : ((f : Int) == 5) = false := by first | (rw [beq_eq_false_iff_ne]; omega) | (rw [beq_iff_eq]; omega)
  have T6 : ((f : Int) == 6) = false := by first | (rw [beq_eq_false_iff_ne]; omega) | (rw [beq_iff_eq]; omega)
  have T15 : ((f : Int) == 15) = true := by first | (rw [beq_eq_false_iff_ne]; omega) | (rw [beq_iff_eq]; omega)
  have T16 : ((f : Int) == 16) = false := by first | (rw [beq_eq_false_iff_ne]; omega) | (rw [beq_iff_eq]; omega)
  have T23 : ((f : Int) == 23) = false := by first | (rw [beq_eq_false_iff_ne]; omega) | (rw [beq_iff_eq]; omega)
  rw [HC] at HP HWF
  obtain ⟨P, hP⟩ : ∃ P, P = parseF xs := ⟨_, rfl⟩
  rw [← hP] at HP ⊢
  have HD := Lib.hid (fun j (hj : j < n) (b o : Nat) (e : A = some ⟨b, o, none⟩) => hs)
  obtain ⟨b, o, rfl, hbl, d1⟩ := hs.2 (by omega)
  have g1 : w.cell? ⟨b, o, none⟩ = some (.int .u8 (f : Nat)) := (d1 0 (by omega)).trans (by rw [bs_get (by omega), ← ef])
  have HS := Lib.hid hs
  have HX := Lib.hid hx
  have z1 : (0 : Int) < (n : Int) := by omega
  have z1n : 0 < n := by omega
  have z1c : (0 : Int) ≤ (n : Int) := by omega
  have z2 : ¬ (n : Int) < 5 := by omega
  have HQ1 := Lib.hid q1
  obtain ⟨L, hL⟩ : ∃ L, L = min m (unpack (xs.drop 6)).length := ⟨_, rfl⟩
  have hUL : (unpack (xs.drop 6)).length = 8 * (n - 6) := by rw [unpack_length, List.length_drop, q1]
  have HLT := Lib.hid (show (unpack (xs.drop 6)).take L = (unpack (xs.drop 6)).take m from by rw [hL]; by_cases h : m ≤ (unpack (xs.drop 6)).length; · rw [Nat.min_eq_left h]
                                                                                              · rw [Nat.min_eq_right (by omega), List.take_length, List.take_of_length_le (by omega)])
  rw [hUL] at hL
  have HL := Lib.hid hL
  have HUL := Lib.hid hUL
  have HN := Lib.hid hn2
  clear hL hUL
  clear HC hP hs hx hn2 h5 ea em q1 d1 hf ef HD
  go_enter Tryz.func65, Tryz.ntmps65
  go_wp2_with fail
  go_region_held3 (fun w' => Below w.heap.size w w' ∧ w'.cell? ⟨b, o, none⟩ = some (.int .u8 (f : Nat)))
    (exact keepB hbl g1 (by repeat (first | with_reducible exact Below.refl _ _ | with_reducible assumption | with_reducible apply Below.new | with_reducible apply Below.drewN | with_reducible apply Below.drew | with_reducible refine Below.setCell ?_ (Nat.le_succ _) _)))
    ((go_at_call 82; refine (Ka.out _ (by repeat (first | with_reducible exact Below.refl _ _ | with_reducible assumption | with_reducible apply Below.new | with_reducible apply Below.drewN | with_reducible apply Below.drew | with_reducible refine Below.setCell ?_ (Nat.le_succ _) _))).mono ?_; rintro e w1 ⟨rfl, d, rfl⟩))
  all_goals (
    first
      | (obtain ⟨W1, hW1⟩ : ∃ W1, W1 = (((w.alloc (.cells #[.int .u8 0, .int .u16 0, .int .u16 0, .int .u16 0, .slice none 0 0, .slice none 0 0] 31)).drewN (1 + d)).alloc (.cells #[.int .u8 (f : Nat), .int .u16 (a : Nat), .int .u16 0, .int .u16 0, .slice none 0 0, .slice none 0 0] 31)) := ⟨_, rfl⟩
         rw [← hW1]
         have S : Pt w W1 (w.heap.size + 1) #[.int .u8 (f : Nat), .int .u16 (a : Nat), .int .u16 0, .int .u16 0, .slice none 0 0, .slice none 0 0] := hW1 ▸ Pt_a w (1 + d) f a
         clear hW1)
      | (obtain ⟨W1, hW1⟩ : ∃ W1, W1 = (((((((((w.alloc (.cells #[.int .u8 0, .int .u16 0, .int .u16 0, .int .u16 0, .slice none 0 0, .slice none 0 0] 31)).alloc (.cells #[.int .u8 0, .int .u16 0, .int .u16 0, .int .u16 0, .slice none 0 0, .slice none 0 0] 31)).drewN (1 + d)).setCell ⟨w.heap.size + 1, 0, none⟩ (.int .u8 (f : Nat))).setCell ⟨w.heap.size + 1, 1, none⟩ (.int .u16 (a : Nat))).setCell ⟨w.heap.size + 1, 2, none⟩ (.int .u16 0)).setCell ⟨w.heap.size + 1, 3, none⟩ (.int .u16 0)).setCell ⟨w.heap.size + 1, 4, none⟩ (.slice none 0 0)).setCell ⟨w.heap.size + 1, 5, none⟩ (.slice none 0 0)) := ⟨_, rfl⟩
         rw [← hW1]
         have S : Pt w W1 (w.heap.size + 1) #[.int .u8 (f : Nat), .int .u16 (a : Nat), .int .u16 0, .int .u16 0, .slice none 0 0, .slice none 0 0] := hW1 ▸ Pt_b w (1 + d) f a
         clear hW1))
  all_goals (
    obtain ⟨k, ek⟩ : ∃ k, k = w.heap.size + 1 := ⟨_, rfl⟩
    rw [← ek] at S ⊢
    clear ek
    obtain ⟨c0, c1, c2, c3, c4, c5⟩ := row6 S.ra
    go_wp2_with fail
    refine (Km.out _ S.bel).mono ?_
    rintro e W2 ⟨rfl, dd, hdd⟩
    have S := S.drewN dd
    rw [← hdd] at S
    clear hdd
    obtain ⟨c0, c1, c2, c3, c4, c5⟩ := row6 S.ra
    obtain ⟨f0, f1, f2, f3, f4, f5⟩ := free6 S.ra
    have slt := S.lt
    have sne : ¬ W2.heap.size = k := by omega
    have sne2 : ¬ k = W2.heap.size := by omega
    have S := S.set 2 (.int .u16 (m : Nat))
    obtain ⟨W3, hW3⟩ : ∃ W3, W3 = (W2.setCell ⟨k, 2, none⟩ (.int .u16 (m : Nat))) := ⟨_, rfl⟩
    go_wp2_with fail
    rw [← hW3] at S ⊢
    clear hW3
    go_loopw [6] (fun i wr => ∃ (j : Nat) (v : Value), j ≤ L ∧ i = .int .i64 j ∧ Has w wr 4 v j (bl ((unpack (xs.drop 6)).take j)) ∧ Pt w wr k #[.int .u8 (f : Nat), .int .u16 (a : Nat), .int .u16 (m : Nat), .int .u16 0, .slice none 0 0, v] ∧ (∀ b, v.ownBlock = some b → w.heap.size < b ∧ b ≠ k)) (fun i _ => L - (intOf i).toNat)
    case atStart => exact ⟨0, _, by omega, rfl, by simpa [bl] using Has.nil_ S.bel _, S, fun b h => by simp [Value.ownBlock] at h⟩
    case round =>
      obtain ⟨j, v, hj, rfl, H, S, hv⟩ := hrel
      have hLL := HL.out
      have hnn := HN.out
      by_cases hlt : j < L
      · have y1 : (j : Int) < (m : Int) := by omega
        have y0 : (0 : Int) ≤ (j : Int) := by omega
        have hp6 : 6 + j / 8 < n := by omega
        have hq : Int.tdiv (j : Int) 8 = ((j / 8 : Nat) : Int) := by rw [Int.tdiv_eq_ediv_of_nonneg (by omega)]; omega
        have hr : Int.tmod (j : Int) 8 = ((j % 8 : Nat) : Int) := by rw [Int.tmod_eq_emod_of_nonneg (by omega)]; omega
        have q64 := w64 (show j / 8 ≤ 9223372036854775807 by omega)
        have r64 := w64 (show j % 8 ≤ 9223372036854775807 by omega)
        have HT := Lib.hid (bit_snoc xs j (by rw [HUL.out]; omega))
        have hr8 : j % 8 < 8 := by omega
        have hjw : IntKind.i64.wrap ((j : Int) + 1) = ((j + 1 : Nat) : Int) := by rw [IntKind.wrap_i64]; omega
        have hjL : j < 2400 := by omega
        obtain ⟨p, ep⟩ : ∃ p, p = 6 + j / 8 := ⟨_, rfl⟩
        obtain ⟨q, eq⟩ : ∃ q, q = j / 8 := ⟨_, rfl⟩
        obtain ⟨r, er⟩ : ∃ r, r = j % 8 := ⟨_, rfl⟩
        have h6 : IntKind.i64.wrap (6 + (q : Int)) = (p : Int) := by rw [IntKind.wrap_i64]; omega
        have h7 : IntKind.i64.wrap ((p : Int) + 1) = (p : Int) + 1 := by rw [IntKind.wrap_i64]; omega
        rw [← eq] at hq q64 ep
        rw [← er] at hr r64 hr8
        have HT2 : Hid ((unpack (xs.drop 6)).take (j + 1) = (unpack (xs.drop 6)).take j ++ [(xs[p]?.getD 0).testBit r]) := by
          have := HT.out
          rw [← eq, ← er, ← ep] at this
          exact Lib.hid this
        have p0 : (0 : Int) ≤ (p : Int) := by omega
        have p1 : (p : Int) < (n : Int) := by omega
        have p2 : (p : Int) ≤ (p : Int) + 1 := by omega
        have p3 : (p : Int) + 1 ≤ (c : Int) := by omega
        have p4 : ¬ c = p := by omega
        have p5 : ((p : Int) + 1).toNat = p + 1 := by omega
        have p6 : p + 1 - p = 1 := by omega
        have r0 : (0 : Int) ≤ (r : Int) := by omega
        have r1 : (r : Int) < 8 := by omega
        have hpn : p < n := by omega
        have KU := Lib.hid (fun X (bb : Below w.heap.size w X) cc => refUnpack_any (some ⟨b, o + p, none⟩) 1 cc [xs[p]?.getD 0] X (sl_one (c := c) (HS.out.to bb) hpn) (by intro c' hc'; simp at hc'; rw [hc']; exact HX.out.at p) (by decide))
        have HU := Lib.hid (fun x => unpack_one x r hr8)
        obtain ⟨y, ey⟩ : ∃ y, y = xs[p]?.getD 0 := ⟨_, rfl⟩
        rw [← ey] at HT2 KU
        obtain ⟨bit, ebit⟩ : ∃ bit, bit = y.testBit r := ⟨_, rfl⟩
        rw [← ebit] at HT2
        have HBIT := Lib.hid ebit
        clear ey eq er ep HT hLL hnn ebit hp6
        obtain ⟨c0, c1, c2, c3, c4, c5⟩ := row6 S.ra
        obtain ⟨f0, f1, f2, f3, f4, f5⟩ := free6 S.ra
        have slt := S.lt
        have skw := S.hk
        go_wp2_with fail
        go_region_law (first
            | (rw [if_pos (by kernel_rfl)]; go_simp; go_at_call 83; refine (KU.out _ S.drew.bel _).mono ?_; rintro e w3 ⟨v3, rfl, H3⟩; obtain ⟨A3, cc3, rfl, hc3, SL3, o3⟩ := H3.slice; obtain ⟨b3, oo3, rfl, hb3, g3⟩ := SL3.2 (by decide); have g3r := (g3 r hr8).trans (bl_get (by rw [unpack_length]; simpa using hr8)); rw [HU.out, ← HBIT.out] at g3r; have S3 := S.drew.call H3.bel; have H4 := H.drew.below H3.bel; clear g3 SL3 o3 H3; obtain ⟨c0, c1, c2, c3, c4, c5⟩ := row6 S3.ra; have slt3 := S3.lt; have sne3 : ¬ w3.heap.size = k := Nat.ne_of_gt slt3; have sne4 : ¬ k = w3.heap.size := Nat.ne_of_lt slt3; try dsimp only)
            | (refine step_app _root_.Go.Proofs.YtjfhfgchglaoiaaGreat.AskW.eb rfl (.tmp 68) (.tmp 85) rfl (H4.alloc _) rfl (Sl.new1 _ _ _) rfl (oneB _) (by omega) (by simp only [maxLen]; omega) ?_; intro v4 w4 H5 g4 o4; have S5 := (S3.new (.cells #[.bool bit] 4)).grown g4 hv; obtain ⟨c0, c1, c2, c3, c4, c5⟩ := row6 S5.ra; obtain ⟨f0, f1, f2, f3, f4, f5⟩ := free6 S5.ra; obtain ⟨A4, cc4, rfl, hc4, -, -⟩ := H5.slice)
            | fail)
        all_goals (
          have hv4 : ∀ b, (Value.slice A4 (j + 1) cc4).ownBlock = some b → w.heap.size < b ∧ b ≠ k := fun b hb => by
            rcases o4 with o4 | o4
            · exact hv b (by rw [← o4]; exact hb)
            · rw [o4] at hb; injection hb with hb; have := S3.lt; simp at hb; omega
          go_wp2_with fail
          go_roundw
          case rel =>
            refine ⟨j + 1, _, by omega, by go_num, ?_, S5.set 5 (.slice A4 (j + 1) cc4), hv4⟩
            rw [HT2.out, ← bl_append]
            exact H5.other (grown_setCell w4 k 5 _) (Nat.le_of_lt skw) (fun e => (hv4 k e).2 rfl)
          case measure => simp [intOf]; omega)
      · obtain rfl : j = L := by omega
        obtain ⟨Ab, cb, rfl, kB, SB, oB0⟩ := H.slice
        obtain ⟨c0, c1, c2, c3, c4, c5⟩ := row6 S.ra
        have SW := Sl.empty wr wr.heap.size none
        have oW : ∀ b o, (none : Option Addr) = some (⟨b, o, none⟩ : Addr) → w.heap.size < b := fun _ _ h => by cases h
        have kW : (0 : Nat) ≤ 0 := Nat.le_refl _
        have oB : ∀ b o, Ab = some (⟨b, o, none⟩ : Addr) → w.heap.size < b := fun b o h => (hv b (by rw [h]; rfl)).1
        rw [HLT.out] at SB
        have h6 : IntKind.i64.wrap (6 + ((j / 8 : Nat) : Int)) = 6 + ((j / 8 : Nat) : Int) := by rw [IntKind.wrap_i64]; omega
        have hq : Int.tdiv (j : Int) 8 = ((j / 8 : Nat) : Int) := by rw [Int.tdiv_eq_ediv_of_nonneg (by omega)]; omega
        have q64 := w64 (show j / 8 ≤ 9223372036854775807 by omega)
        have hend : (j : Int) < (m : Int) → (n : Int) ≤ 6 + ((j / 8 : Nat) : Int) := by omega
        have HUB := Lib.hid (fun q (h : right q = true) (e : q = ⟨f, a, m, 0, [], (unpack (xs.drop 6)).take m⟩) => h)
        clear hlt hj hLL hnn H HL HUL
        by_cases hjm : (j : Int) < (m : Int)
        case neg =>
          have hjm2 : decide ((j : Int) < (m : Int)) = false := decide_eq_false hjm
          clear hend
          have RA := S.ra
          go_wp2_with (first
            | (refine wpList_load_row rfl 31 (.tmp 4) rfl k rfl 31 #[.int .u8 (f : Nat), .int .u16 (a : Nat), .int .u16 (m : Nat), .int .u16 0, .slice none 0 0, .slice Ab j cb] (0, 0) _ RA Tryz.underlying31 rfl (by kernel_rfl) ?_))
          refine (refBytes_any _ _ _ _ _ _ _ _ _ _ _ _ _ SW SB HWF).mono ?_
          rintro e w2 ⟨v, rfl, H⟩
          have S := S.call H.bel
          have SW := SW.to H.bel
          have SB := SB.to H.bel
          have RA := S.ra
          have rz := S.rz
          have hbel := S.bel
          have hk := S.hk
          have lz := row_lt rz
          obtain ⟨R, hR⟩ : ∃ R, R = right ⟨f, a, m, 0, [], (unpack (xs.drop 6)).take m⟩ := ⟨_, rfl⟩
          cases R
          case false =>
            have HR := Lib.hid hR.symm
            have hB : bytesE ⟨f, a, m, 0, [], (unpack (xs.drop 6)).take m⟩ = ([], 12) := by unfold bytesE; rw [HR.out]; rfl
            rw [hB] at H ⊢
            clear hB hR H
            go_wp2_with (refine wpList_store_grown rfl 31 (.tmp 2) _ rfl w.heap.size #[.int .u8 0, .int .u16 0, .int .u16 0, .int .u16 0, .slice none 0 0, .slice none 0 0] rfl rfl 31 _ rz (by kernel_rfl) rfl (by simp [Value.oneCell']) ?_; intro w9 h9 g9 s9)
            refine bodyPost_row_tmp rfl w.heap.size 31 #[.int .u8 0, .int .u16 0, .int .u16 0, .int .u16 0, .slice none 0 0, .slice none 0 0] (0, 0) _ (.int .i64 12) rfl h9 Tryz.underlying31 rfl (by kernel_rfl) rfl rfl ?_
            rw [HP.out, if_neg (by rw [HR.out]; simp)]
            exact RetReqTag.bare 0 _ _ (hbel.grown g9 hbel.size (fun k hk => by injection hk with hk; omega))
          case true =>
            have HR := Lib.hid hR.symm
            have hB : bytesE ⟨f, a, m, 0, [], (unpack (xs.drop 6)).take m⟩ = (bytes ⟨f, a, m, 0, [], (unpack (xs.drop 6)).take m⟩, 0) := by unfold bytesE; rw [HR.out]; rfl
            rw [hB] at H ⊢
            dsimp only at H
            have hbl : Bytes (bytes ⟨f, a, m, 0, [], (unpack (xs.drop 6)).take m⟩) := bytes_lt _ HWF (by have := right_words HR.out; omega)
            obtain ⟨Av, cv, rfl, hcv, SV, _⟩ := H.slice
            have H1 := run_string (P := Tryz.prog) w2 _ 32 9 5 Tryz.underlying32 Tryz.underlying5 Tryz.underlying9 Av _ cv _ SV
            have H2 := run_string (P := Tryz.prog) w2 _ 32 9 5 Tryz.underlying32 Tryz.underlying5 Tryz.underlying9 (some ⟨b, o, none⟩) n c _ (HS.out.to hbel)
            have hSE := strB_eq (bytes ⟨f, a, m, 0, [], (unpack (xs.drop 6)).take m⟩) xs hbl HX.out
            by_cases hq : bytes ⟨f, a, m, 0, [], (unpack (xs.drop 6)).take m⟩ = xs
            case neg =>
              rw [show (bytes ⟨f, a, m, 0, [], (unpack (xs.drop 6)).take m⟩ == xs) = false by rw [beq_eq_false_iff_ne]; exact hq] at hSE
              have HQ := Lib.hid hq
              clear hB hR H hq SV hcv
              go_wp2_with (refine wpList_store_grown rfl 31 (.tmp 2) _ rfl w.heap.size #[.int .u8 0, .int .u16 0, .int .u16 0, .int .u16 0, .slice none 0 0, .slice none 0 0] rfl rfl 31 _ rz (by kernel_rfl) rfl (by simp [Value.oneCell']) ?_; intro w9 h9 g9 s9)
              refine bodyPost_row_tmp rfl w.heap.size 31 #[.int .u8 0, .int .u16 0, .int .u16 0, .int .u16 0, .slice none 0 0, .slice none 0 0] (0, 0) _ (.int .i64 12) rfl h9 Tryz.underlying31 rfl (by kernel_rfl) rfl rfl ?_
              rw [HP.out, if_neg (by rw [HR.out]; simp; exact HQ.out)]
              exact RetReqTag.bare 0 _ _ (hbel.grown g9 hbel.size (fun k hk => by injection hk with hk; omega))
            case pos =>
              have HQ := Lib.hid hq
              rw [hq] at H1 SV ⊢
              clear hB hR H hSE hq
              go_wp2_with (first
                | (refine wpList_load_row rfl 31 (.tmp 4) rfl k rfl 31 #[.int .u8 (f : Nat), .int .u16 (a : Nat), .int .u16 (m : Nat), .int .u16 0, .slice none 0 0, .slice Ab j cb] (0, 0) _ RA Tryz.underlying31 rfl (by kernel_rfl) ?_)
                | (refine wpList_store_grown rfl 31 (.tmp 2) _ rfl w.heap.size #[.int .u8 (f : Nat), .int .u16 (a : Nat), .int .u16 (m : Nat), .int .u16 0, .slice none 0 0, .slice Ab j cb] rfl rfl 31 _ rz (by kernel_rfl) rfl (by simp [Value.oneCell']) ?_; intro w9 h9 g9 s9))
              refine bodyPost_row_tmp rfl w.heap.size 31 #[.int .u8 (f : Nat), .int .u16 (a : Nat), .int .u16 (m : Nat), .int .u16 0, .slice none 0 0, .slice Ab j cb] (0, 0) _ (.int .i64 0) rfl h9 Tryz.underlying31 rfl (by kernel_rfl) rfl rfl ?_
              rw [HP.out, if_pos (by rw [HR.out, HQ.out]; simp)]
              exact ⟨_, _, _, _, _, _, rfl, SW.grown g9 (fun b o h e => by have := oW b o h; injection e with e; omega), SB.grown g9 (fun b o h e => by have := oB b o h; injection e with e; omega), kW, kB, (fun b o h => by have := oW b o h; omega), (fun b o h => by have := oB b o h; omega), hbel.grown g9 hbel.size (fun k hk => by injection hk with hk; omega)⟩
        case pos =>
          have hend2 := hend hjm
          have hend3 : decide (6 + ((j / 8 : Nat) : Int) < (n : Int)) = false := decide_eq_false (by omega)
          clear hend
          have RA := S.ra
          go_wp2_with (first
            | (refine wpList_load_row rfl 31 (.tmp 4) rfl k rfl 31 #[.int .u8 (f : Nat), .int .u16 (a : Nat), .int .u16 (m : Nat), .int .u16 0, .slice none 0 0, .slice Ab j cb] (0, 0) _ RA Tryz.underlying31 rfl (by kernel_rfl) ?_))
          refine (refBytes_any _ _ _ _ _ _ _ _ _ _ _ _ _ SW SB HWF).mono ?_
          rintro e w2 ⟨v, rfl, H⟩
          have S := S.call H.bel
          have SW := SW.to H.bel
          have SB := SB.to H.bel
          have RA := S.ra
          have rz := S.rz
          have hbel := S.bel
          have hk := S.hk
          have lz := row_lt rz
          obtain ⟨R, hR⟩ : ∃ R, R = right ⟨f, a, m, 0, [], (unpack (xs.drop 6)).take m⟩ := ⟨_, rfl⟩
          cases R
          case false =>
            have HR := Lib.hid hR.symm
            have hB : bytesE ⟨f, a, m, 0, [], (unpack (xs.drop 6)).take m⟩ = ([], 12) := by unfold bytesE; rw [HR.out]; rfl
            rw [hB] at H ⊢
            clear hB hR H
            go_wp2_with (refine wpList_store_grown rfl 31 (.tmp 2) _ rfl w.heap.size #[.int .u8 0, .int .u16 0, .int .u16 0, .int .u16 0, .slice none 0 0, .slice none 0 0] rfl rfl 31 _ rz (by kernel_rfl) rfl (by simp [Value.oneCell']) ?_; intro w9 h9 g9 s9)
            refine bodyPost_row_tmp rfl w.heap.size 31 #[.int .u8 0, .int .u16 0, .int .u16 0, .int .u16 0, .slice none 0 0, .slice none 0 0] (0, 0) _ (.int .i64 12) rfl h9 Tryz.underlying31 rfl (by kernel_rfl) rfl rfl ?_
            rw [HP.out, if_neg (by rw [HR.out]; simp)]
            exact RetReqTag.bare 0 _ _ (hbel.grown g9 hbel.size (fun k hk => by injection hk with hk; omega))
          case true =>
            have HR := Lib.hid hR.symm
            have hB : bytesE ⟨f, a, m, 0, [], (unpack (xs.drop 6)).take m⟩ = (bytes ⟨f, a, m, 0, [], (unpack (xs.drop 6)).take m⟩, 0) := by unfold bytesE; rw [HR.out]; rfl
            rw [hB] at H ⊢
            dsimp only at H
            have hbl : Bytes (bytes ⟨f, a, m, 0, [], (unpack (xs.drop 6)).take m⟩) := bytes_lt _ HWF (by have := right_words HR.out; omega)
            obtain ⟨Av, cv, rfl, hcv, SV, _⟩ := H.slice
            have H1 := run_string (P := Tryz.prog) w2 _ 32 9 5 Tryz.underlying32 Tryz.underlying5 Tryz.underlying9 Av _ cv _ SV
            have H2 := run_string (P := Tryz.prog) w2 _ 32 9 5 Tryz.underlying32 Tryz.underlying5 Tryz.underlying9 (some ⟨b, o, none⟩) n c _ (HS.out.to hbel)
            have hSE := strB_eq (bytes ⟨f, a, m, 0, [], (unpack (xs.drop 6)).take m⟩) xs hbl HX.out
            by_cases hq : bytes ⟨f, a, m, 0, [], (unpack (xs.drop 6)).take m⟩ = xs
            case neg =>
              rw [show (bytes ⟨f, a, m, 0, [], (unpack (xs.drop 6)).take m⟩ == xs) = false by rw [beq_eq_false_iff_ne]; exact hq] at hSE
              have HQ := Lib.hid hq
              clear hB hR H hq SV hcv
              go_wp2_with (refine wpList_store_grown rfl 31 (.tmp 2) _ rfl w.heap.size #[.int .u8 0, .int .u16 0, .int .u16 0, .int .u16 0, .slice none 0 0, .slice none 0 0] rfl rfl 31 _ rz (by kernel_rfl) rfl (by simp [Value.oneCell']) ?_; intro w9 h9 g9 s9)
              refine bodyPost_row_tmp rfl w.heap.size 31 #[.int .u8 0, .int .u16 0, .int .u16 0, .int .u16 0, .slice none 0 0, .slice none 0 0] (0, 0) _ (.int .i64 12) rfl h9 Tryz.underlying31 rfl (by kernel_rfl) rfl rfl ?_
              rw [HP.out, if_neg (by rw [HR.out]; simp; exact HQ.out)]
              exact RetReqTag.bare 0 _ _ (hbel.grown g9 hbel.size (fun k hk => by injection hk with hk; omega))
            case pos =>
              have HQ := Lib.hid hq
              rw [hq] at H1 SV ⊢
              clear hB hR H hSE hq
              go_wp2_with (first
                | (refine wpList_load_row rfl 31 (.tmp 4) rfl k rfl 31 #[.int .u8 (f : Nat), .int .u16 (a : Nat), .int .u16 (m : Nat), .int .u16 0, .slice none 0 0, .slice Ab j cb] (0, 0) _ RA Tryz.underlying31 rfl (by kernel_rfl) ?_)
                | (refine wpList_store_grown rfl 31 (.tmp 2) _ rfl w.heap.size #[.int .u8 (f : Nat), .int .u16 (a : Nat), .int .u16 (m : Nat), .int .u16 0, .slice none 0 0, .slice Ab j cb] rfl rfl 31 _ rz (by kernel_rfl) rfl (by simp [Value.oneCell']) ?_; intro w9 h9 g9 s9))
              refine bodyPost_row_tmp rfl w.heap.size 31 #[.int .u8 (f : Nat), .int .u16 (a : Nat), .int .u16 (m : Nat), .int .u16 0, .slice none 0 0, .slice Ab j cb] (0, 0) _ (.int .i64 0) rfl h9 Tryz.underlying31 rfl (by kernel_rfl) rfl rfl ?_
              rw [HP.out, if_pos (by rw [HR.out, HQ.out]; simp)]
              exact ⟨_, _, _, _, _, _, rfl, SW.grown g9 (fun b o h e => by have := oW b o h; injection e with e; omega), SB.grown g9 (fun b o h e => by have := oB b o h; injection e with e; omega), kW, kB, (fun b o h => by have := oW b o h; omega), (fun b o h => by have := oB b o h; omega), hbel.grown g9 hbel.size (fun k hk => by injection hk with hk; omega)⟩)
end Go.Proofs.YtjfhfgchglaoiaaGreat.AskW
