/- The walk of words' read. -/
import Derived.Test.YtiibopdnlmnkmaaRepF
import Derived.Test.YtiibopdnlmnkmaaAG10
import Derived.Test.YtiibopdnlmnkmaaRepD
import Derived.Test.YtiibopdnlmnkmaaAG2
import Derived.Deep.RegionHeld3
import Derived.Deep.RegionLaw
import Derived.Deep.DeepCutAuto
set_option linter.unusedVariables false
set_option linter.unusedSimpArgs false
namespace Go.Proofs.Ytiibopdnlmnkmaa.AskW
open Go.RowKit Go.Proofs.Ytiibopdnlmnkmaa Go.Proofs.Ytiibopdnlmnkmaa.Ask
theorem Rt.other {w W : World} {k k' i : Nat} {cs : Array Value} {v : Value} (S : Rt w W k cs) (hne : k ≠ k') (hk' : w.heap.size ≤ k' := by omega) : Rt w (W.setCell ⟨k', i, none⟩ v) k cs :=
  ⟨S.bel.setCell hk' v, (grown_setCell W k' i v).row hne S.ra, S.hk⟩
theorem pairs_snoc (ys : List Nat) (j : Nat) (h : 2 * j + 1 < ys.length) : (pairs ys).take (j + 1) = (pairs ys).take j ++ [atF ys (2 * j)] := by
  have hl : j < (pairs ys).length := by rw [pairs_len]; omega
  rw [take_snoc hl, pairs_get _ _ h, atF_eq (by omega)]
set_option maxRecDepth 100000 in
set_option maxHeartbeats 8000000 in
theorem kread_wordsR (A : Option Addr) (n c : Nat) (xs : List Nat) (w : World) (hs : Sl w w.heap.size A n (bs xs)) (hx : Bytes xs) (hn : 1 ≤ n) (hn2 : n ≤ 300) (hc : n ≤ c) :
    Calls Try.prog 96 #[.agg #[], .slice A n c] w (RetRep w (Kd.read .wordsR xs)) := by
  have q1 : xs.length = n := by simpa using hs.len
  obtain ⟨P, hP⟩ : ∃ P, P = Kd.read .wordsR xs := ⟨_, rfl⟩
  rw [← hP]
  obtain ⟨f, ef⟩ : ∃ f, f = xs[0]?.getD 0 := ⟨_, rfl⟩
  have HP : Hid (P = ⟨f, 0, [], pairs (xs.drop 2), 0, 0⟩) := by rw [hP, ef]; exact Lib.hid rfl
  have KL := Lib.hid (fun X (bb : Below w.heap.size w X) => listed_any A n c xs X (hs.to bb) (by omega) hc)
  have HLL := Lib.hid (show (xs.drop 2).length = n - 2 by rw [List.length_drop, q1])
  have HX2 := Lib.hid (hx.drop 2)
  obtain ⟨ys, hys⟩ : ∃ ys, ys = xs.drop 2 := ⟨_, rfl⟩
  rw [← hys] at HP KL HLL HX2
  clear hys
  obtain ⟨b, o, rfl, hbl, d1⟩ := hs.2 (by omega)
  have g1 : w.cell? ⟨b, o, none⟩ = some (.int .u8 (f : Nat)) := (d1 0 (by omega)).trans (by rw [bs_get (by omega), ← ef])
  have HS := Lib.hid hs
  have HX := Lib.hid hx
  have z1 : (0 : Int) < (n : Int) := by omega
  have z1n : 0 < n := by omega
  have z1c : (0 : Int) ≤ (n : Int) := by omega
  clear hP hs hx d1 ef q1
  go_enter Try.func96, Try.ntmps96
  go_wp2_with fail
  obtain ⟨W1, hW1⟩ : ∃ W1, W1 = ((w.alloc (.cells #[] 112)).alloc (.cells #[.int .u8 0, .int .u8 0, .slice none 0 0, .slice none 0 0, .int .u16 0, .int .u16 0] 36)) := ⟨_, rfl⟩
  have hb : Below w.heap.size w W1 := by rw [hW1]; exact ((Below.refl _ _).new _).new _
  have R0 : Rt w W1 (w.heap.size + 1) #[.int .u8 0, .int .u8 0, .slice none 0 0, .slice none 0 0, .int .u16 0, .int .u16 0] := ⟨hb, hW1 ▸ heap_alloc2_new w _ _, Nat.le_succ _⟩
  rw [← hW1]
  clear hW1
  obtain ⟨k, ek⟩ : ∃ k, k = w.heap.size + 1 := ⟨_, rfl⟩
  rw [← ek] at R0 ⊢
  clear ek
  have hk0 := R0.hk
  have slt := row_lt R0.ra
  have sne : ¬ W1.heap.size = k := by omega
  have sne2 : ¬ k = W1.heap.size := by omega
  have hblk : ¬ b = k := by omega
  have hblk2 : ¬ k = b := by omega
  have g2 := (hb.cell (p := ⟨b, o, none⟩) hbl).trans g1
  obtain ⟨c0, c1, c2, c3, c4, c5⟩ := row6 R0.ra
  obtain ⟨f0, f1, f2, f3, f4, f5⟩ := free6 R0.ra
  have hbd := hb.drew
  obtain ⟨L, hL⟩ : ∃ L, L = (n - 2) / 2 := ⟨_, rfl⟩
  have hq2 : Int.tdiv ((n - 2 : Nat) : Int) 2 = (L : Int) := by rw [Int.tdiv_eq_ediv_of_nonneg (by omega)]; omega
  have L64 := w64 (show L ≤ 9223372036854775807 by omega)
  have HL := Lib.hid hL
  have hL3 : L ≤ 300 := by omega
  clear hL
  go_cut [5, 6] (fun u v wx => ∃ k5 A' c', u = .pointer (some ⟨k5, 0, none⟩) ∧ v = .slice A' (n - 2) c' ∧ Rt w wx k #[.int .u8 0, .int .u8 0, .slice none 0 0, .slice none 0 0, .int .u16 0, .int .u16 0] ∧ Rt w wx k5 #[.int .u8 (f : Nat), .int .u8 0, .slice none 0 0, .slice none 0 0, .int .u16 0, .int .u16 0] ∧ k ≠ k5 ∧ n - 2 ≤ c' ∧ (∀ Y B, Sl Y B (some ⟨b, o, none⟩) n (bs xs) → Sl Y B A' (n - 2) (bs ys)))
  case first =>
    go_region_held3 (fun w' => Below w.heap.size w w' ∧ w'.cell? ⟨b, o, none⟩ = some (.int .u8 (f : Nat)))
      (exact keepB hbl g1 (by repeat (first | with_reducible assumption | with_reducible apply Below.new | with_reducible apply Below.drewN | with_reducible apply Below.drew | with_reducible refine Below.setCell ?_ hk0 _)))
      (first
        | (go_at_call 94; refine (KL.out _ (by repeat (first | with_reducible assumption | with_reducible apply Below.new | with_reducible apply Below.drewN | with_reducible apply Below.drew | with_reducible refine Below.setCell ?_ hk0 _))).mono ?_; rintro e w1 ⟨⟨A', c', rfl, SL, hcl, SA⟩, rfl⟩; have SA := Lib.hid SA)
        | fail)
    all_goals (
      go_wp2_with fail
      go_meet
      exact ⟨W1.heap.size, A', c', rfl, rfl, (R0.new _).drew, ⟨(hb.new _).drew, heap_alloc_new W1 _, hb.size⟩, by omega, hcl, SA.out⟩)
  case rest =>
    obtain ⟨k5, A', c', rfl, rfl, RZ, RQ, hkk, hcl, SA⟩ := hcut
    have SA := Lib.hid SA
    have hkk2 : ¬ k5 = k := fun e => hkk e.symm
    clear hbd KL R0 c0 c1 c2 c3 c4 c5 f0 f1 f2 f3 f4 f5 g2 slt sne sne2 hblk hblk2
    go_wp2_with fail
    go_loopw [17] (fun i wr => ∃ (j : Nat) (v : Value), j ≤ L ∧ i = .int .i64 j ∧ Has w wr 29 v j (ws ((pairs ys).take j)) ∧ Rt w wr k #[.int .u8 0, .int .u8 0, .slice none 0 0, .slice none 0 0, .int .u16 0, .int .u16 0] ∧ Rt w wr k5 #[.int .u8 (f : Nat), .int .u8 0, .slice none 0 0, v, .int .u16 0, .int .u16 0] ∧ (∀ b, v.ownBlock = some b → w.heap.size ≤ b ∧ b ≠ k ∧ b ≠ k5)) (fun i _ => L - (intOf i).toNat)
    case atStart => exact ⟨0, _, by omega, rfl, by simpa [ws] using Has.nil_ RQ.bel _, RZ, RQ, fun b h => by simp [Value.ownBlock] at h⟩
    case round =>
      clear RZ RQ
      obtain ⟨j, v, hj, rfl, H, RZ, RQ, hv⟩ := hrel
      by_cases hlt : j < L
      · have y1 : (j : Int) < (L : Int) := by omega
        have y0 : (0 : Int) ≤ (j : Int) := by omega
        have hll := HL.out
        have hI2 : IntKind.i64.wrap (2 * (j : Int)) = ((2 * j : Nat) : Int) := by rw [IntKind.wrap_i64]; omega
        have HT := Lib.hid (pairs_snoc ys j (by rw [HLL.out]; omega))
        obtain ⟨I, hI⟩ : ∃ I, I = 2 * j := ⟨_, rfl⟩
        rw [← hI] at hI2 HT
        have hI3 : I ≤ 100000 := by omega
        have hn3 : n - 2 ≤ 100000 := by omega
        have KX := Lib.hid (fun X (bb : Below w.heap.size w X) => rnum_any A' (n - 2) c' ys I X (SA.out _ _ (HS.out.to bb)) HX2.out hn3 hI3)
        have hxl : atF ys I < 65536 := atF_lt HX2.out I
        obtain ⟨x, ex⟩ : ∃ x, x = atF ys I := ⟨_, rfl⟩
        rw [← ex] at HT KX hxl
        clear ex hI hll
        obtain ⟨c0, c1, c2, c3, c4, c5⟩ := row6 RQ.ra
        obtain ⟨f0, f1, f2, f3, f4, f5⟩ := free6 RQ.ra
        have hk5 := RQ.hk
        go_wp2_with fail
        go_region_law (first
          | (rw [if_pos (by kernel_rfl)]; go_simp; go_at_call 99; refine (KX.out _ RQ.drew.bel).mono ?_; rintro e w3 ⟨rfl, d3, hd3⟩; have S3 := RQ.drew.drewN d3; have Z3 := RZ.drew.drewN d3; have H4 : Has w (wr.drew.drewN d3) 29 v j (ws ((pairs ys).take j)) := ⟨H.own, H.bel.drew.drewN d3⟩; rw [← hd3] at S3 Z3 H4; have slt3 := row_lt S3.ra; have sne5 : ¬ w3.heap.size = k5 := Nat.ne_of_gt slt3; have sne6 : ¬ k5 = w3.heap.size := Nat.ne_of_lt slt3; obtain ⟨c0, c1, c2, c3, c4, c5⟩ := row6 S3.ra; clear hd3; try dsimp only)
          | (refine step_app _root_.Go.Proofs.Ytiibopdnlmnkmaa.AskW.u16 rfl (.tmp 21) (.tmp 26) rfl (H4.alloc _) rfl (Sl.new1 _ _ _) rfl (one1 _ _) (by omega) (by simp only [maxLen]; omega) ?_; intro v4 w4 H5 g4 o4; have S5 := (S3.new (.cells #[.int .u16 (x : Nat)] 29)).grown g4 (fun b h => ⟨(hv b h).1, (hv b h).2.2⟩); have Z5 := (Z3.new (.cells #[.int .u16 (x : Nat)] 29)).grown g4 (fun b h => ⟨(hv b h).1, (hv b h).2.1⟩); obtain ⟨c0, c1, c2, c3, c4, c5⟩ := row6 S5.ra; obtain ⟨f0, f1, f2, f3, f4, f5⟩ := free6 S5.ra; obtain ⟨A4, cc4, rfl, hc4, -, -⟩ := H5.slice)
          | fail)
        all_goals (
          have hv4 : ∀ b, (Value.slice A4 (j + 1) cc4).ownBlock = some b → w.heap.size ≤ b ∧ b ≠ k ∧ b ≠ k5 := fun b hb => by
            rcases o4 with o4 | o4
            · exact hv b (by rw [← o4]; exact hb)
            · rw [o4] at hb; injection hb with hb; have := row_lt S3.ra; have := row_lt Z3.ra; simp at hb; omega
          go_wp2_with fail
          go_roundw
          case rel =>
            refine ⟨j + 1, _, by omega, by go_num, ?_, Z5.other hkk hk5, S5.set 3 (.slice A4 (j + 1) cc4), hv4⟩
            rw [HT.out, ← ws_append]
            exact H5.other (grown_setCell w4 k5 3 _) hk5 (fun e => (hv4 k5 e).2.2 rfl)
          case measure => simp [intOf]; omega)
      · obtain rfl : j = L := by omega
        obtain ⟨Aw, cw, rfl, kW, SW, oW0⟩ := H.slice
        have rz := RZ.ra
        have rq := RQ.ra
        have HPL := Lib.hid (show (pairs ys).take j = pairs ys from List.take_of_length_le (by rw [pairs_len, HLL.out, HL.out]; exact Nat.le_refl _))
        rw [HPL.out] at SW
        have hbw := RQ.bel
        clear hlt hj H RZ RQ
        go_wp2_with (first
          | (refine wpList_load_row rfl 36 (.tmp 5) rfl k5 rfl 36 #[.int .u8 (f : Nat), .int .u8 0, .slice none 0 0, .slice Aw j cw, .int .u16 0, .int .u16 0] (0, 0) _ rq Try.underlying36 rfl (by kernel_rfl) ?_)
          | (refine wpList_store_grown rfl 36 (.tmp 4) _ rfl k #[.int .u8 (f : Nat), .int .u8 0, .slice none 0 0, .slice Aw j cw, .int .u16 0, .int .u16 0] rfl rfl 36 _ rz (by kernel_rfl) rfl (by simp [Value.oneCell']) ?_; intro w9 h9 g9 s9))
        refine bodyPost_row rfl k 36 #[.int .u8 (f : Nat), .int .u8 0, .slice none 0 0, .slice Aw j cw, .int .u16 0, .int .u16 0] (0, 0) _ rfl h9 Try.underlying36 rfl (by kernel_rfl) rfl ?_
        rw [HP.out]
        exact ⟨none, 0, 0, Aw, _, cw, rfl, Sl.empty _ _ _, SW.grown g9 (fun b o h e => by injection e with e; have := hv b (by rw [h]; rfl); omega), Nat.le_refl _, kW, (fun _ _ h => by cases h), (fun b o h => (hv b (by rw [h]; rfl)).1), hbw.grown g9 hbw.size (fun k' hk => by injection hk with hk; omega)⟩
end Go.Proofs.Ytiibopdnlmnkmaa.AskW
