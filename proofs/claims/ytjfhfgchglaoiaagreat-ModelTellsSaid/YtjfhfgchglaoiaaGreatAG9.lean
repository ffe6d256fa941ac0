/- Merged: AskW9 AskW10. -/
import Derived.Test.YtjfhfgchglaoiaaGreatAG8
import Derived.Deep.RegionHeld3
/- The walk of saucierref02.Parse: where one bit is written. -/
set_option linter.unusedVariables false
set_option linter.unusedSimpArgs false
namespace Go.Proofs.YtjfhfgchglaoiaaGreat.AskW
open Go.RowKit Go.Proofs.YtjfhfgchglaoiaaGreat Go.Proofs.YtjfhfgchglaoiaaGreat.Ask
theorem Pt_a (w : World) (d f a : Nat) : Pt w (((w.alloc (.cells #[.int .u8 0, .int .u16 0, .int .u16 0, .int .u16 0, .slice none 0 0, .slice none 0 0] 31)).drewN d).alloc (.cells #[.int .u8 (f : Nat), .int .u16 (a : Nat), .int .u16 0, .int .u16 0, .slice none 0 0, .slice none 0 0] 31)) (w.heap.size + 1) #[.int .u8 (f : Nat), .int .u16 (a : Nat), .int .u16 0, .int .u16 0, .slice none 0 0, .slice none 0 0] :=
  ⟨((((Below.refl _ _).new _).drewN _).new _), row_alloc (w := (w.alloc _).drewN d) (heap_alloc_new w _) _, by simpa using heap_alloc_new ((w.alloc (.cells #[.int .u8 0, .int .u16 0, .int .u16 0, .int .u16 0, .slice none 0 0, .slice none 0 0] 31)).drewN d) (.cells #[.int .u8 (f : Nat), .int .u16 (a : Nat), .int .u16 0, .int .u16 0, .slice none 0 0, .slice none 0 0] 31), Nat.lt_succ_self _⟩
theorem Pt_b (w : World) (d f a : Nat) : Pt w (((((((((w.alloc (.cells #[.int .u8 0, .int .u16 0, .int .u16 0, .int .u16 0, .slice none 0 0, .slice none 0 0] 31)).alloc (.cells #[.int .u8 0, .int .u16 0, .int .u16 0, .int .u16 0, .slice none 0 0, .slice none 0 0] 31)).drewN d).setCell ⟨w.heap.size + 1, 0, none⟩ (.int .u8 (f : Nat))).setCell ⟨w.heap.size + 1, 1, none⟩ (.int .u16 (a : Nat))).setCell ⟨w.heap.size + 1, 2, none⟩ (.int .u16 0)).setCell ⟨w.heap.size + 1, 3, none⟩ (.int .u16 0)).setCell ⟨w.heap.size + 1, 4, none⟩ (.slice none 0 0)).setCell ⟨w.heap.size + 1, 5, none⟩ (.slice none 0 0)) (w.heap.size + 1) #[.int .u8 (f : Nat), .int .u16 (a : Nat), .int .u16 0, .int .u16 0, .slice none 0 0, .slice none 0 0] := by
  have h0 : Pt w (((w.alloc (.cells #[.int .u8 0, .int .u16 0, .int .u16 0, .int .u16 0, .slice none 0 0, .slice none 0 0] 31)).alloc (.cells #[.int .u8 0, .int .u16 0, .int .u16 0, .int .u16 0, .slice none 0 0, .slice none 0 0] 31)).drewN d) (w.heap.size + 1) #[.int .u8 0, .int .u16 0, .int .u16 0, .int .u16 0, .slice none 0 0, .slice none 0 0] :=
    ⟨((((Below.refl _ _).new _).new _).drewN _), row_alloc (heap_alloc_new w _) _, heap_alloc2_new w _ _, Nat.lt_succ_self _⟩
  exact (((((h0.set 0 (.int .u8 (f : Nat))).set 1 (.int .u16 (a : Nat))).set 2 (.int .u16 0)).set 3 (.int .u16 0)).set 4 (.slice none 0 0)).set 5 (.slice none 0 0)
theorem right_words {r : Req} (h : right r = true) : r.words.length ≤ 123 := by
  cases shape_of h with
  | ask m h hf hm hb => rw [h]; simp
  | bit x h hb => rw [h]; simp
  | word x h hb => rw [h]; simp
  | bits h hm hb => rw [h]; simp
  | words h hm hb => exact hm.2
  | swap h hm hw hb => omega
theorem Pt.drew {w W : World} {k : Nat} {cs : Array Value} (S : Pt w W k cs) : Pt w W.drew k cs := ⟨S.bel.drew, S.rz, S.ra, S.hk⟩
set_option maxRecDepth 100000 in
set_option maxHeartbeats 16000000 in
theorem refParse_bit (A : Option Addr) (n c : Nat) (xs : List Nat) (w : World) (hs : Sl w w.heap.size A n (bs xs)) (hx : Bytes xs) (hn2 : n ≤ 300) (h5 : 5 ≤ n) (hc : n ≤ c) (hf : xs[0]?.getD 0 = 5) :
    Calls Tryz.prog 65 #[.slice A n c] w (RetReqTag w (parseF xs).1 .i64 (parseF xs).2) := by
  have q1 : xs.length = n := by simpa using hs.len
  have HWF := cand_wf hx
  have HP := Lib.hid (parse_cand xs)
  have HC : cand xs = ⟨xs[0]?.getD 0, atF xs 1, 0, 0, [], [atF xs 3 == 65280]⟩ := by simp [cand, hf]
  obtain ⟨f, ef⟩ : ∃ f, f = xs[0]?.getD 0 := ⟨_, rfl⟩
  rw [← ef] at HC hf
  obtain ⟨a, ea⟩ : ∃ x, x = atF xs 1 := ⟨_, rfl⟩
  have ha : a < 65536 := by rw [ea]; exact atF_lt hx 1
  have Ka := Lib.hid (fun X (b : Below w.heap.size w X) => refAt_quiet A n c xs 1 X (hs.to b) hx (by omega) (by omega))
  rw [← ea] at HC Ka
  have va : IntKind.u16.wrap (a : Int) = a := by rw [IntKind.wrap_u16]; omega
  have ua := w64 (show a ≤ 9223372036854775807 by omega)
  obtain ⟨m, em⟩ : ∃ x, x = atF xs 3 := ⟨_, rfl⟩
  have hm : m < 65536 := by rw [em]; exact atF_lt hx 3
  have Km := Lib.hid (fun X (b : Below w.heap.size w X) => refAt_quiet A n c xs 3 X (hs.to b) hx (by omega) (by omega))
  rw [← em] at HC Km
  have vm : IntKind.u16.wrap (m : Int) = m := by rw [IntKind.wrap_u16]; omega
  have um := w64 (show m ≤ 9223372036854775807 by omega)
  have T5 : ((f : Int) == 5) = true := by first | (rw [beq_eq_false_iff_ne]; omega) | (rw [beq_iff_eq]; omega)
  have T6 : ((f : Int) == 6) = false := by first | (rw [beq_eq_false_iff_ne]; omega) | (rw [beq_iff_eq]; omega)
  have T15 : ((f : Int) == 15) = false := by first | (rw [beq_eq_false_iff_ne]; omega) | (rw [beq_iff_eq]; omega)
  have T16 : ((f : Int) == 16) = false := by first | (rw [beq_eq_false_iff_ne]; omega) | (rw [beq_iff_eq]; omega)
  have T23 : ((f : Int) == 23) = false := by first | (rw [beq_eq_false_iff_ne]; omega) | (rw [beq_iff_eq]; omega)
  rw [HC] at HP HWF
  obtain ⟨P, hP⟩ : ∃ P, P = parseF xs := ⟨_, rfl⟩
  rw [← hP] at HP ⊢
  have HD := Lib.hid (fun j (hj : j < n) (b o : Nat) (e : A = some ⟨b, o, none⟩) => hs)
  obtain ⟨b, o, rfl, hbl, d1⟩ := hs.2 (by omega)
  have g1 : w.cell? ⟨b, o, none⟩ = some (.int .u8 (f : Nat)) := (d1 0 (by omega)).trans (by rw [bs_get (by omega), ← ef])
  have HS := Lib.hid hs
  have HX := Lib.hid hx
  have z1 : (0 : Int) < (n : Int) := by omega
  have z1n : 0 < n := by omega
  have z1c : (0 : Int) ≤ (n : Int) := by omega
  have z2 : ¬ (n : Int) < 5 := by omega
  have hmb : ((m : Int) == 65280) = (m == 65280) := by rw [Bool.eq_iff_iff]; simp; omega
  obtain ⟨x, ex⟩ : ∃ x, x = (m == 65280) := ⟨_, rfl⟩
  rw [← ex] at hmb HP HWF
  clear ex
  clear HC hP hs hx hn2 h5 ea em q1 d1 hf ef HD
  go_enter Tryz.func65, Tryz.ntmps65
  go_wp2_with fail
  go_region_held3 (fun w' => Below w.heap.size w w' ∧ w'.cell? ⟨b, o, none⟩ = some (.int .u8 (f : Nat)))
    (exact keepB hbl g1 (by repeat (first | with_reducible exact Below.refl _ _ | with_reducible assumption | with_reducible apply Below.new | with_reducible apply Below.drewN | with_reducible apply Below.drew | with_reducible refine Below.setCell ?_ (Nat.le_succ _) _)))
    ((go_at_call 82; refine (Ka.out _ (by repeat (first | with_reducible exact Below.refl _ _ | with_reducible assumption | with_reducible apply Below.new | with_reducible apply Below.drewN | with_reducible apply Below.drew | with_reducible refine Below.setCell ?_ (Nat.le_succ _) _))).mono ?_; rintro e w1 ⟨rfl, d, rfl⟩))
  all_goals (
    first
      | (obtain ⟨W1, hW1⟩ : ∃ W1, W1 = (((w.alloc (.cells #[.int .u8 0, .int .u16 0, .int .u16 0, .int .u16 0, .slice none 0 0, .slice none 0 0] 31)).drewN (1 + d)).alloc (.cells #[.int .u8 (f : Nat), .int .u16 (a : Nat), .int .u16 0, .int .u16 0, .slice none 0 0, .slice none 0 0] 31)) := ⟨_, rfl⟩
         rw [← hW1]
         have S : Pt w W1 (w.heap.size + 1) #[.int .u8 (f : Nat), .int .u16 (a : Nat), .int .u16 0, .int .u16 0, .slice none 0 0, .slice none 0 0] := hW1 ▸ Pt_a w (1 + d) f a
         clear hW1)
      | (obtain ⟨W1, hW1⟩ : ∃ W1, W1 = (((((((((w.alloc (.cells #[.int .u8 0, .int .u16 0, .int .u16 0, .int .u16 0, .slice none 0 0, .slice none 0 0] 31)).alloc (.cells #[.int .u8 0, .int .u16 0, .int .u16 0, .int .u16 0, .slice none 0 0, .slice none 0 0] 31)).drewN (1 + d)).setCell ⟨w.heap.size + 1, 0, none⟩ (.int .u8 (f : Nat))).setCell ⟨w.heap.size + 1, 1, none⟩ (.int .u16 (a : Nat))).setCell ⟨w.heap.size + 1, 2, none⟩ (.int .u16 0)).setCell ⟨w.heap.size + 1, 3, none⟩ (.int .u16 0)).setCell ⟨w.heap.size + 1, 4, none⟩ (.slice none 0 0)).setCell ⟨w.heap.size + 1, 5, none⟩ (.slice none 0 0)) := ⟨_, rfl⟩
         rw [← hW1]
         have S : Pt w W1 (w.heap.size + 1) #[.int .u8 (f : Nat), .int .u16 (a : Nat), .int .u16 0, .int .u16 0, .slice none 0 0, .slice none 0 0] := hW1 ▸ Pt_b w (1 + d) f a
         clear hW1))
  all_goals (
    obtain ⟨k, ek⟩ : ∃ k, k = w.heap.size + 1 := ⟨_, rfl⟩
    rw [← ek] at S ⊢
    clear ek
    obtain ⟨c0, c1, c2, c3, c4, c5⟩ := row6 S.ra
    go_wp2_with fail
    refine (Km.out _ S.bel).mono ?_
    rintro e W2 ⟨rfl, dd, hdd⟩
    have S := S.drewN dd
    rw [← hdd] at S
    clear hdd
    obtain ⟨c0, c1, c2, c3, c4, c5⟩ := row6 S.ra
    obtain ⟨f0, f1, f2, f3, f4, f5⟩ := free6 S.ra
    have slt := S.lt
    have sne : ¬ W2.heap.size = k := by omega
    have sne2 : ¬ k = W2.heap.size := by omega
    have S := (S.set 5 (.slice (some ⟨W2.heap.size, 0, none⟩) 1 1)).call ((Below.refl _ _).new (.cells #[.bool x] 4))
    have es : (W2.setCell ⟨k, 5, none⟩ (.slice (some ⟨W2.heap.size, 0, none⟩) 1 1)).heap.size = W2.heap.size := by simp [World.setCell]
    have SB : Sl ((W2.setCell ⟨k, 5, none⟩ (.slice (some ⟨W2.heap.size, 0, none⟩) 1 1)).alloc (.cells #[.bool x] 4)) ((W2.setCell ⟨k, 5, none⟩ (.slice (some ⟨W2.heap.size, 0, none⟩) 1 1)).alloc (.cells #[.bool x] 4)).heap.size (some ⟨W2.heap.size, 0, none⟩) 1 (bl [x]) := by
      have h := (Sl.new1 (W2.setCell ⟨k, 5, none⟩ (.slice (some ⟨W2.heap.size, 0, none⟩) 1 1)) (.bool x) 4).mono (B' := ((W2.setCell ⟨k, 5, none⟩ (.slice (some ⟨W2.heap.size, 0, none⟩) 1 1)).alloc (.cells #[.bool x] 4)).heap.size) (by simp)
      rw [es] at h
      exact h
    have SW := Sl.empty ((W2.setCell ⟨k, 5, none⟩ (.slice (some ⟨W2.heap.size, 0, none⟩) 1 1)).alloc (.cells #[.bool x] 4)) ((W2.setCell ⟨k, 5, none⟩ (.slice (some ⟨W2.heap.size, 0, none⟩) 1 1)).alloc (.cells #[.bool x] 4)).heap.size none
    have oW : ∀ b o, (none : Option Addr) = some (⟨b, o, none⟩ : Addr) → w.heap.size < b := fun _ _ h => by cases h
    have oB : ∀ b o, (some (⟨W2.heap.size, 0, none⟩ : Addr)) = some (⟨b, o, none⟩ : Addr) → w.heap.size < b := fun b o h => by have := S.hk; injection h with h; injection h with h _; omega
    have kW : (0 : Nat) ≤ 0 := Nat.le_refl _
    have kB : (1 : Nat) ≤ 1 := Nat.le_refl _
    have RA := S.ra
    go_wp2_with (first
      | (refine wpList_load_row rfl 31 (.tmp 4) rfl k rfl 31 #[.int .u8 (f : Nat), .int .u16 (a : Nat), .int .u16 0, .int .u16 0, .slice none 0 0, .slice (some ⟨W2.heap.size, 0, none⟩) 1 1] (0, 0) _ RA Tryz.underlying31 rfl (by kernel_rfl) ?_))
    refine (refBytes_any _ _ _ _ _ _ _ _ _ _ _ _ _ SW SB HWF).mono ?_
    rintro e w2 ⟨v, rfl, H⟩
    have S := S.call H.bel
    have SW := SW.to H.bel
    have SB := SB.to H.bel
    have RA := S.ra
    have rz := S.rz
    have hbel := S.bel
    have hk := S.hk
    have lz := row_lt rz
    obtain ⟨R, hR⟩ : ∃ R, R = right ⟨f, a, 0, 0, [], [x]⟩ := ⟨_, rfl⟩
    cases R
    case false =>
      have HR := Lib.hid hR.symm
      have hB : bytesE ⟨f, a, 0, 0, [], [x]⟩ = ([], 12) := by unfold bytesE; rw [HR.out]; rfl
      rw [hB] at H ⊢
      clear hB hR H
      go_wp2_with (refine wpList_store_grown rfl 31 (.tmp 2) _ rfl w.heap.size #[.int .u8 0, .int .u16 0, .int .u16 0, .int .u16 0, .slice none 0 0, .slice none 0 0] rfl rfl 31 _ rz (by kernel_rfl) rfl (by simp [Value.oneCell']) ?_; intro w9 h9 g9 s9)
      refine bodyPost_row_tmp rfl w.heap.size 31 #[.int .u8 0, .int .u16 0, .int .u16 0, .int .u16 0, .slice none 0 0, .slice none 0 0] (0, 0) _ (.int .i64 12) rfl h9 Tryz.underlying31 rfl (by kernel_rfl) rfl rfl ?_
      rw [HP.out, if_neg (by rw [HR.out]; simp)]
      exact RetReqTag.bare 0 _ _ (hbel.grown g9 hbel.size (fun k hk => by injection hk with hk; omega))
    case true =>
      have HR := Lib.hid hR.symm
      have hB : bytesE ⟨f, a, 0, 0, [], [x]⟩ = (bytes ⟨f, a, 0, 0, [], [x]⟩, 0) := by unfold bytesE; rw [HR.out]; rfl
      rw [hB] at H ⊢
      dsimp only at H
      have hbl : Bytes (bytes ⟨f, a, 0, 0, [], [x]⟩) := bytes_lt _ HWF (by have := right_words HR.out; omega)
      obtain ⟨Av, cv, rfl, hcv, SV, _⟩ := H.slice
      have H1 := run_string (P := Tryz.prog) w2 _ 32 9 5 Tryz.underlying32 Tryz.underlying5 Tryz.underlying9 Av _ cv _ SV
      have H2 := run_string (P := Tryz.prog) w2 _ 32 9 5 Tryz.underlying32 Tryz.underlying5 Tryz.underlying9 (some ⟨b, o, none⟩) n c _ (HS.out.to hbel)
      have hSE := strB_eq (bytes ⟨f, a, 0, 0, [], [x]⟩) xs hbl HX.out
      by_cases hq : bytes ⟨f, a, 0, 0, [], [x]⟩ = xs
      case neg =>
        rw [show (bytes ⟨f, a, 0, 0, [], [x]⟩ == xs) = false by rw [beq_eq_false_iff_ne]; exact hq] at hSE
        have HQ := Lib.hid hq
        clear hB hR H hq SV hcv
        go_wp2_with (refine wpList_store_grown rfl 31 (.tmp 2) _ rfl w.heap.size #[.int .u8 0, .int .u16 0, .int .u16 0, .int .u16 0, .slice none 0 0, .slice none 0 0] rfl rfl 31 _ rz (by kernel_rfl) rfl (by simp [Value.oneCell']) ?_; intro w9 h9 g9 s9)
        refine bodyPost_row_tmp rfl w.heap.size 31 #[.int .u8 0, .int .u16 0, .int .u16 0, .int .u16 0, .slice none 0 0, .slice none 0 0] (0, 0) _ (.int .i64 12) rfl h9 Tryz.underlying31 rfl (by kernel_rfl) rfl rfl ?_
        rw [HP.out, if_neg (by rw [HR.out]; simp; exact HQ.out)]
        exact RetReqTag.bare 0 _ _ (hbel.grown g9 hbel.size (fun k hk => by injection hk with hk; omega))
      case pos =>
        have HQ := Lib.hid hq
        rw [hq] at H1 SV ⊢
        clear hB hR H hSE hq
        go_wp2_with (first
          | (refine wpList_load_row rfl 31 (.tmp 4) rfl k rfl 31 #[.int .u8 (f : Nat), .int .u16 (a : Nat), .int .u16 0, .int .u16 0, .slice none 0 0, .slice (some ⟨W2.heap.size, 0, none⟩) 1 1] (0, 0) _ RA Tryz.underlying31 rfl (by kernel_rfl) ?_)
          | (refine wpList_store_grown rfl 31 (.tmp 2) _ rfl w.heap.size #[.int .u8 (f : Nat), .int .u16 (a : Nat), .int .u16 0, .int .u16 0, .slice none 0 0, .slice (some ⟨W2.heap.size, 0, none⟩) 1 1] rfl rfl 31 _ rz (by kernel_rfl) rfl (by simp [Value.oneCell']) ?_; intro w9 h9 g9 s9))
        refine bodyPost_row_tmp rfl w.heap.size 31 #[.int .u8 (f : Nat), .int .u16 (a : Nat), .int .u16 0, .int .u16 0, .slice none 0 0, .slice (some ⟨W2.heap.size, 0, none⟩) 1 1] (0, 0) _ (.int .i64 0) rfl h9 Tryz.underlying31 rfl (by kernel_rfl) rfl rfl ?_
        rw [HP.out, if_pos (by rw [HR.out, HQ.out]; simp)]
        exact ⟨_, _, _, _, _, _, rfl, SW.grown g9 (fun b o h e => by have := oW b o h; injection e with e; omega), SB.grown g9 (fun b o h e => by have := oB b o h; injection e with e; omega), kW, kB, (fun b o h => by have := oW b o h; omega), (fun b o h => by have := oB b o h; omega), hbel.grown g9 hbel.size (fun k hk => by injection hk with hk; omega)⟩)
end Go.Proofs.YtjfhfgchglaoiaaGreat.AskW
/- The walk of saucierref02.Parse: where one word is written, or what is read. -/
set_option linter.unusedVariables false
set_option linter.unusedSimpArgs false
namespace Go.Proofs.YtjfhfgchglaoiaaGreat.AskW
open Go.RowKit Go.Proofs.YtjfhfgchglaoiaaGreat Go.Proofs.YtjfhfgchglaoiaaGreat.Ask
set_option maxRecDepth 100000 in
set_option maxHeartbeats 16000000 in
theorem refParse_word (A : Option Addr) (n c : Nat) (xs : List Nat) (w : World) (hs : Sl w w.heap.size A n (bs xs)) (hx : Bytes xs) (hn2 : n ≤ 300) (h5 : 5 ≤ n) (hc : n ≤ c) (hf : xs[0]?.getD 0 = 6) :
    Calls Tryz.prog 65 #[.slice A n c] w (RetReqTag w (parseF xs).1 .i64 (parseF xs).2) := by
  have q1 : xs.length = n := by simpa using hs.len
  have HWF := cand_wf hx
  have HP := Lib.hid (parse_cand xs)
  have HC : cand xs = ⟨xs[0]?.getD 0, atF xs 1, 0, 0, [atF xs 3], []⟩ := by simp [cand, hf]
  obtain ⟨f, ef⟩ : ∃ f, f = xs[0]?.getD 0 := ⟨_, rfl⟩
  rw [← ef] at HC hf
  obtain ⟨a, ea⟩ : ∃ x, x = atF xs 1 := ⟨_, rfl⟩
  have ha : a < 65536 := by rw [ea]; exact atF_lt hx 1
  have Ka := Lib.hid (fun X (b : Below w.heap.size w X) => refAt_quiet A n c xs 1 X (hs.to b) hx (by omega) (by omega))
  rw [← ea] at HC Ka
  have va : IntKind.u16.wrap (a : Int) = a := by rw [IntKind.wrap_u16]; omega
  have ua := w64 (show a ≤ 9223372036854775807 by omega)
  obtain ⟨m, em⟩ : ∃ x, x = atF xs 3 := ⟨_, rfl⟩
  have hm : m < 65536 := by rw [em]; exact atF_lt hx 3
  have Km := Lib.hid (fun X (b : Below w.heap.size w X) => refAt_quiet A n c xs 3 X (hs.to b) hx (by omega) (by omega))
  rw [← em] at HC Km
  have vm : IntKind.u16.wrap (m : Int) = m := by rw [IntKind.wrap_u16]; omega
  have um := w64 (show m ≤ 9223372036854775807 by omega)
  have T5 : ((f : Int) == 5) = false := by first | (rw [beq_eq_false_iff_ne]; omega) | (rw [beq_iff_eq]; omega)
  have T6 : ((f : Int) == 6) = true := by first | (rw [beq_eq_false_iff_ne]; omega) | (rw [beq_iff_eq]; omega)
  have T15 : ((f : Int) == 15) = false := by first | (rw [beq_eq_false_iff_ne]; omega) | (rw [beq_iff_eq]; omega)
  have T16 : ((f : Int) == 16) = false := by first | (rw [beq_eq_false_iff_ne]; omega) | (rw [beq_iff_eq]; omega)
  have T23 : ((f : Int) == 23) = false := by first | (rw [beq_eq_false_iff_ne]; omega) | (rw [beq_iff_eq]; omega)
  rw [HC] at HP HWF
  obtain ⟨P, hP⟩ : ∃ P, P = parseF xs := ⟨_, rfl⟩
  rw [← hP] at HP ⊢
  have HD := Lib.hid (fun j (hj : j < n) (b o : Nat) (e : A = some ⟨b, o, none⟩) => hs)
  obtain ⟨b, o, rfl, hbl, d1⟩ := hs.2 (by omega)
  have g1 : w.cell? ⟨b, o, none⟩ = some (.int .u8 (f : Nat)) := (d1 0 (by omega)).trans (by rw [bs_get (by omega), ← ef])
  have HS := Lib.hid hs
  have HX := Lib.hid hx
  have z1 : (0 : Int) < (n : Int) := by omega
  have z1n : 0 < n := by omega
  have z1c : (0 : Int) ≤ (n : Int) := by omega
  have z2 : ¬ (n : Int) < 5 := by omega
  clear HC hP hs hx hn2 h5 ea em q1 d1 hf ef HD
  go_enter Tryz.func65, Tryz.ntmps65
  go_wp2_with fail
  go_region_held3 (fun w' => Below w.heap.size w w' ∧ w'.cell? ⟨b, o, none⟩ = some (.int .u8 (f : Nat)))
    (exact keepB hbl g1 (by repeat (first | with_reducible exact Below.refl _ _ | with_reducible assumption | with_reducible apply Below.new | with_reducible apply Below.drewN | with_reducible apply Below.drew | with_reducible refine Below.setCell ?_ (Nat.le_succ _) _)))
    ((go_at_call 82; refine (Ka.out _ (by repeat (first | with_reducible exact Below.refl _ _ | with_reducible assumption | with_reducible apply Below.new | with_reducible apply Below.drewN | with_reducible apply Below.drew | with_reducible refine Below.setCell ?_ (Nat.le_succ _) _))).mono ?_; rintro e w1 ⟨rfl, d, rfl⟩))
  all_goals (
    first
      | (obtain ⟨W1, hW1⟩ : ∃ W1, W1 = (((w.alloc (.cells #[.int .u8 0, .int .u16 0, .int .u16 0, .int .u16 0, .slice none 0 0, .slice none 0 0] 31)).drewN (1 + d)).alloc (.cells #[.int .u8 (f : Nat), .int .u16 (a : Nat), .int .u16 0, .int .u16 0, .slice none 0 0, .slice none 0 0] 31)) := ⟨_, rfl⟩
         rw [← hW1]
         have S : Pt w W1 (w.heap.size + 1) #[.int .u8 (f : Nat), .int .u16 (a : Nat), .int .u16 0, .int .u16 0, .slice none 0 0, .slice none 0 0] := hW1 ▸ Pt_a w (1 + d) f a
         clear hW1)
      | (obtain ⟨W1, hW1⟩ : ∃ W1, W1 = (((((((((w.alloc (.cells #[.int .u8 0, .int .u16 0, .int .u16 0, .int .u16 0, .slice none 0 0, .slice none 0 0] 31)).alloc (.cells #[.int .u8 0, .int .u16 0, .int .u16 0, .int .u16 0, .slice none 0 0, .slice none 0 0] 31)).drewN (1 + d)).setCell ⟨w.heap.size + 1, 0, none⟩ (.int .u8 (f : Nat))).setCell ⟨w.heap.size + 1, 1, none⟩ (.int .u16 (a : Nat))).setCell ⟨w.heap.size + 1, 2, none⟩ (.int .u16 0)).setCell ⟨w.heap.size + 1, 3, none⟩ (.int .u16 0)).setCell ⟨w.heap.size + 1, 4, none⟩ (.slice none 0 0)).setCell ⟨w.heap.size + 1, 5, none⟩ (.slice none 0 0)) := ⟨_, rfl⟩
         rw [← hW1]
         have S : Pt w W1 (w.heap.size + 1) #[.int .u8 (f : Nat), .int .u16 (a : Nat), .int .u16 0, .int .u16 0, .slice none 0 0, .slice none 0 0] := hW1 ▸ Pt_b w (1 + d) f a
         clear hW1))
  all_goals (
    obtain ⟨k, ek⟩ : ∃ k, k = w.heap.size + 1 := ⟨_, rfl⟩
    rw [← ek] at S ⊢
    clear ek
    obtain ⟨c0, c1, c2, c3, c4, c5⟩ := row6 S.ra
    go_wp2_with fail
    refine (Km.out _ S.bel).mono ?_
    rintro e W2 ⟨rfl, dd, hdd⟩
    have S := S.drewN dd
    rw [← hdd] at S
    clear hdd
    obtain ⟨c0, c1, c2, c3, c4, c5⟩ := row6 S.ra
    obtain ⟨f0, f1, f2, f3, f4, f5⟩ := free6 S.ra
    have slt := S.lt
    have sne : ¬ W2.heap.size = k := by omega
    have sne2 : ¬ k = W2.heap.size := by omega
    have S := (S.set 4 (.slice (some ⟨W2.heap.size, 0, none⟩) 1 1)).call ((Below.refl _ _).new (.cells #[.int .u16 (m : Nat)] 29))
    have es : (W2.setCell ⟨k, 4, none⟩ (.slice (some ⟨W2.heap.size, 0, none⟩) 1 1)).heap.size = W2.heap.size := by simp [World.setCell]
    have SW : Sl ((W2.setCell ⟨k, 4, none⟩ (.slice (some ⟨W2.heap.size, 0, none⟩) 1 1)).alloc (.cells #[.int .u16 (m : Nat)] 29)) ((W2.setCell ⟨k, 4, none⟩ (.slice (some ⟨W2.heap.size, 0, none⟩) 1 1)).alloc (.cells #[.int .u16 (m : Nat)] 29)).heap.size (some ⟨W2.heap.size, 0, none⟩) 1 (ws [m]) := by
      have h := (Sl.new1 (W2.setCell ⟨k, 4, none⟩ (.slice (some ⟨W2.heap.size, 0, none⟩) 1 1)) (.int .u16 (m : Nat)) 29).mono (B' := ((W2.setCell ⟨k, 4, none⟩ (.slice (some ⟨W2.heap.size, 0, none⟩) 1 1)).alloc (.cells #[.int .u16 (m : Nat)] 29)).heap.size) (by simp)
      rw [es] at h
      exact h
    have SB := Sl.empty ((W2.setCell ⟨k, 4, none⟩ (.slice (some ⟨W2.heap.size, 0, none⟩) 1 1)).alloc (.cells #[.int .u16 (m : Nat)] 29)) ((W2.setCell ⟨k, 4, none⟩ (.slice (some ⟨W2.heap.size, 0, none⟩) 1 1)).alloc (.cells #[.int .u16 (m : Nat)] 29)).heap.size none
    have oB : ∀ b o, (none : Option Addr) = some (⟨b, o, none⟩ : Addr) → w.heap.size < b := fun _ _ h => by cases h
    have oW : ∀ b o, (some (⟨W2.heap.size, 0, none⟩ : Addr)) = some (⟨b, o, none⟩ : Addr) → w.heap.size < b := fun b o h => by have := S.hk; injection h with h; injection h with h _; omega
    have kB : (0 : Nat) ≤ 0 := Nat.le_refl _
    have kW : (1 : Nat) ≤ 1 := Nat.le_refl _
    have RA := S.ra
    go_wp2_with (first
      | (refine wpList_load_row rfl 31 (.tmp 4) rfl k rfl 31 #[.int .u8 (f : Nat), .int .u16 (a : Nat), .int .u16 0, .int .u16 0, .slice (some ⟨W2.heap.size, 0, none⟩) 1 1, .slice none 0 0] (0, 0) _ RA Tryz.underlying31 rfl (by kernel_rfl) ?_))
    refine (refBytes_any _ _ _ _ _ _ _ _ _ _ _ _ _ SW SB HWF).mono ?_
    rintro e w2 ⟨v, rfl, H⟩
    have S := S.call H.bel
    have SW := SW.to H.bel
    have SB := SB.to H.bel
    have RA := S.ra
    have rz := S.rz
    have hbel := S.bel
    have hk := S.hk
    have lz := row_lt rz
    obtain ⟨R, hR⟩ : ∃ R, R = right ⟨f, a, 0, 0, [m], []⟩ := ⟨_, rfl⟩
    cases R
    case false =>
      have HR := Lib.hid hR.symm
      have hB : bytesE ⟨f, a, 0, 0, [m], []⟩ = ([], 12) := by unfold bytesE; rw [HR.out]; rfl
      rw [hB] at H ⊢
      clear hB hR H
      go_wp2_with (refine wpList_store_grown rfl 31 (.tmp 2) _ rfl w.heap.size #[.int .u8 0, .int .u16 0, .int .u16 0, .int .u16 0, .slice none 0 0, .slice none 0 0] rfl rfl 31 _ rz (by kernel_rfl) rfl (by simp [Value.oneCell']) ?_; intro w9 h9 g9 s9)
      refine bodyPost_row_tmp rfl w.heap.size 31 #[.int .u8 0, .int .u16 0, .int .u16 0, .int .u16 0, .slice none 0 0, .slice none 0 0] (0, 0) _ (.int .i64 12) rfl h9 Tryz.underlying31 rfl (by kernel_rfl) rfl rfl ?_
      rw [HP.out, if_neg (by rw [HR.out]; simp)]
      exact RetReqTag.bare 0 _ _ (hbel.grown g9 hbel.size (fun k hk => by injection hk with hk; omega))
    case true =>
      have HR := Lib.hid hR.symm
      have hB : bytesE ⟨f, a, 0, 0, [m], []⟩ = (bytes ⟨f, a, 0, 0, [m], []⟩, 0) := by unfold bytesE; rw [HR.out]; rfl
      rw [hB] at H ⊢
      dsimp only at H
      have hbl : Bytes (bytes ⟨f, a, 0, 0, [m], []⟩) := bytes_lt _ HWF (by have := right_words HR.out; omega)
      obtain ⟨Av, cv, rfl, hcv, SV, _⟩ := H.slice
      have H1 := run_string (P := Tryz.prog) w2 _ 32 9 5 Tryz.underlying32 Tryz.underlying5 Tryz.underlying9 Av _ cv _ SV
      have H2 := run_string (P := Tryz.prog) w2 _ 32 9 5 Tryz.underlying32 Tryz.underlying5 Tryz.underlying9 (some ⟨b, o, none⟩) n c _ (HS.out.to hbel)
      have hSE := strB_eq (bytes ⟨f, a, 0, 0, [m], []⟩) xs hbl HX.out
      by_cases hq : bytes ⟨f, a, 0, 0, [m], []⟩ = xs
      case neg =>
        rw [show (bytes ⟨f, a, 0, 0, [m], []⟩ == xs) = false by rw [beq_eq_false_iff_ne]; exact hq] at hSE
        have HQ := Lib.hid hq
        clear hB hR H hq SV hcv
        go_wp2_with (refine wpList_store_grown rfl 31 (.tmp 2) _ rfl w.heap.size #[.int .u8 0, .int .u16 0, .int .u16 0, .int .u16 0, .slice none 0 0, .slice none 0 0] rfl rfl 31 _ rz (by kernel_rfl) rfl (by simp [Value.oneCell']) ?_; intro w9 h9 g9 s9)
        refine bodyPost_row_tmp rfl w.heap.size 31 #[.int .u8 0, .int .u16 0, .int .u16 0, .int .u16 0, .slice none 0 0, .slice none 0 0] (0, 0) _ (.int .i64 12) rfl h9 Tryz.underlying31 rfl (by kernel_rfl) rfl rfl ?_
        rw [HP.out, if_neg (by rw [HR.out]; simp; exact HQ.out)]
        exact RetReqTag.bare 0 _ _ (hbel.grown g9 hbel.size (fun k hk => by injection hk with hk; omega))
      case pos =>
        have HQ := Lib.hid hq
        rw [hq] at H1 SV ⊢
        clear hB hR H hSE hq
        go_wp2_with (first
          | (refine wpList_load_row rfl 31 (.tmp 4) rfl k rfl 31 #[.int .u8 (f : Nat), .int .u16 (a : Nat), .int .u16 0, .int .u16 0, .slice (some ⟨W2.heap.size, 0, none⟩) 1 1, .slice none 0 0] (0, 0) _ RA Tryz.underlying31 rfl (by kernel_rfl) ?_)
          | (refine wpList_store_grown rfl 31 (.tmp 2) _ rfl w.heap.size #[.int .u8 (f : Nat), .int .u16 (a : Nat), .int .u16 0, .int .u16 0, .slice (some ⟨W2.heap.size, 0, none⟩) 1 1, .slice none 0 0] rfl rfl 31 _ rz (by kernel_rfl) rfl (by simp [Value.oneCell']) ?_; intro w9 h9 g9 s9))
        refine bodyPost_row_tmp rfl w.heap.size 31 #[.int .u8 (f : Nat), .int .u16 (a : Nat), .int .u16 0, .int .u16 0, .slice (some ⟨W2.heap.size, 0, none⟩) 1 1, .slice none 0 0] (0, 0) _ (.int .i64 0) rfl h9 Tryz.underlying31 rfl (by kernel_rfl) rfl rfl ?_
        rw [HP.out, if_pos (by rw [HR.out, HQ.out]; simp)]
        exact ⟨_, _, _, _, _, _, rfl, SW.grown g9 (fun b o h e => by have := oW b o h; injection e with e; omega), SB.grown g9 (fun b o h e => by have := oB b o h; injection e with e; omega), kW, kB, (fun b o h => by have := oW b o h; omega), (fun b o h => by have := oB b o h; omega), hbel.grown g9 hbel.size (fun k hk => by injection hk with hk; omega)⟩)
set_option maxRecDepth 100000 in
set_option maxHeartbeats 16000000 in
theorem refParse_ask (A : Option Addr) (n c : Nat) (xs : List Nat) (w : World) (hs : Sl w w.heap.size A n (bs xs)) (hx : Bytes xs) (hn2 : n ≤ 300) (h5 : 5 ≤ n) (hc : n ≤ c) (hf : ¬ xs[0]?.getD 0 = 5 ∧ ¬ xs[0]?.getD 0 = 6 ∧ ¬ xs[0]?.getD 0 = 15 ∧ ¬ xs[0]?.getD 0 = 16 ∧ ¬ xs[0]?.getD 0 = 23) :
    Calls Tryz.prog 65 #[.slice A n c] w (RetReqTag w (parseF xs).1 .i64 (parseF xs).2) := by
  have q1 : xs.length = n := by simpa using hs.len
  have HWF := cand_wf hx
  have HP := Lib.hid (parse_cand xs)
  have HC : cand xs = ⟨xs[0]?.getD 0, atF xs 1, atF xs 3, 0, [], []⟩ := by simp [cand, hf]
  obtain ⟨f, ef⟩ : ∃ f, f = xs[0]?.getD 0 := ⟨_, rfl⟩
  rw [← ef] at HC hf
  obtain ⟨a, ea⟩ : ∃ x, x = atF xs 1 := ⟨_, rfl⟩
  have ha : a < 65536 := by rw [ea]; exact atF_lt hx 1
  have Ka := Lib.hid (fun X (b : Below w.heap.size w X) => refAt_quiet A n c xs 1 X (hs.to b) hx (by omega) (by omega))
  rw [← ea] at HC Ka
  have va : IntKind.u16.wrap (a : Int) = a := by rw [IntKind.wrap_u16]; omega
  have ua := w64 (show a ≤ 9223372036854775807 by omega)
  obtain ⟨m, em⟩ : ∃ x, x = atF xs 3 := ⟨_, rfl⟩
  have hm : m < 65536 := by rw [em]; exact atF_lt hx 3
  have Km := Lib.hid (fun X (b : Below w.heap.size w X) => refAt_quiet A n c xs 3 X (hs.to b) hx (by omega) (by omega))
  rw [← em] at HC Km
  have vm : IntKind.u16.wrap (m : Int) = m := by rw [IntKind.wrap_u16]; omega
  have um := w64 (show m ≤ 9223372036854775807 by omega)
  have T5 : ((f : Int) == 5) = false := by first | (rw [beq_eq_false_iff_ne]; omega) | (rw [beq_iff_eq]; omega)
  have T6 : ((f : Int) == 6) = false := by first | (rw [beq_eq_false_iff_ne]; omega) | (rw [beq_iff_eq]; omega)
  have T15 : ((f : Int) == 15) = false := by first | (rw [beq_eq_false_iff_ne]; omega) | (rw [beq_iff_eq]; omega)
  have T16 : ((f : Int) == 16) = false := by first | (rw [beq_eq_false_iff_ne]; omega) | (rw [beq_iff_eq]; omega)
  have T23 : ((f : Int) == 23) = false := by first | (rw [beq_eq_false_iff_ne]; omega) | (rw [beq_iff_eq]; omega)
  rw [HC] at HP HWF
  obtain ⟨P, hP⟩ : ∃ P, P = parseF xs := ⟨_, rfl⟩
  rw [← hP] at HP ⊢
  have HD := Lib.hid (fun j (hj : j < n) (b o : Nat) (e : A = some ⟨b, o, none⟩) => hs)
  obtain ⟨b, o, rfl, hbl, d1⟩ := hs.2 (by omega)
  have g1 : w.cell? ⟨b, o, none⟩ = some (.int .u8 (f : Nat)) := (d1 0 (by omega)).trans (by rw [bs_get (by omega), ← ef])
  have HS := Lib.hid hs
  have HX := Lib.hid hx
  have z1 : (0 : Int) < (n : Int) := by omega
  have z1n : 0 < n := by omega
  have z1c : (0 : Int) ≤ (n : Int) := by omega
  have z2 : ¬ (n : Int) < 5 := by omega
  clear HC hP hs hx hn2 h5 ea em q1 d1 hf ef HD
  go_enter Tryz.func65, Tryz.ntmps65
  go_wp2_with fail
  go_region_held3 (fun w' => Below w.heap.size w w' ∧ w'.cell? ⟨b, o, none⟩ = some (.int .u8 (f : Nat)))
    (exact keepB hbl g1 (by repeat (first | with_reducible exact Below.refl _ _ | with_reducible assumption | with_reducible apply Below.new | with_reducible apply Below.drewN | with_reducible apply Below.drew | with_reducible refine Below.setCell ?_ (Nat.le_succ _) _)))
    ((go_at_call 82; refine (Ka.out _ (by repeat (first | with_reducible exact Below.refl _ _ | with_reducible assumption | with_reducible apply Below.new | with_reducible apply Below.drewN | with_reducible apply Below.drew | with_reducible refine Below.setCell ?_ (Nat.le_succ _) _))).mono ?_; rintro e w1 ⟨rfl, d, rfl⟩))
  all_goals (
    first
      | (obtain ⟨W1, hW1⟩ : ∃ W1, W1 = (((w.alloc (.cells #[.int .u8 0, .int .u16 0, .int .u16 0, .int .u16 0, .slice none 0 0, .slice none 0 0] 31)).drewN (1 + d)).alloc (.cells #[.int .u8 (f : Nat), .int .u16 (a : Nat), .int .u16 0, .int .u16 0, .slice none 0 0, .slice none 0 0] 31)) := ⟨_, rfl⟩
         rw [← hW1]
         have S : Pt w W1 (w.heap.size + 1) #[.int .u8 (f : Nat), .int .u16 (a : Nat), .int .u16 0, .int .u16 0, .slice none 0 0, .slice none 0 0] := hW1 ▸ Pt_a w (1 + d) f a
         clear hW1)
      | (obtain ⟨W1, hW1⟩ : ∃ W1, W1 = (((((((((w.alloc (.cells #[.int .u8 0, .int .u16 0, .int .u16 0, .int .u16 0, .slice none 0 0, .slice none 0 0] 31)).alloc (.cells #[.int .u8 0, .int .u16 0, .int .u16 0, .int .u16 0, .slice none 0 0, .slice none 0 0] 31)).drewN (1 + d)).setCell ⟨w.heap.size + 1, 0, none⟩ (.int .u8 (f : Nat))).setCell ⟨w.heap.size + 1, 1, none⟩ (.int .u16 (a : Nat))).setCell ⟨w.heap.size + 1, 2, none⟩ (.int .u16 0)).setCell ⟨w.heap.size + 1, 3, none⟩ (.int .u16 0)).setCell ⟨w.heap.size + 1, 4, none⟩ (.slice none 0 0)).setCell ⟨w.heap.size + 1, 5, none⟩ (.slice none 0 0)) := ⟨_, rfl⟩
         rw [← hW1]
         have S : Pt w W1 (w.heap.size + 1) #[.int .u8 (f : Nat), .int .u16 (a : Nat), .int .u16 0, .int .u16 0, .slice none 0 0, .slice none 0 0] := hW1 ▸ Pt_b w (1 + d) f a
         clear hW1))
  all_goals (
    obtain ⟨k, ek⟩ : ∃ k, k = w.heap.size + 1 := ⟨_, rfl⟩
    rw [← ek] at S ⊢
    clear ek
    obtain ⟨c0, c1, c2, c3, c4, c5⟩ := row6 S.ra
    go_wp2_with fail
    refine (Km.out _ S.bel).mono ?_
    rintro e W2 ⟨rfl, dd, hdd⟩
    have S := S.drewN dd
    rw [← hdd] at S
    clear hdd
    obtain ⟨c0, c1, c2, c3, c4, c5⟩ := row6 S.ra
    obtain ⟨f0, f1, f2, f3, f4, f5⟩ := free6 S.ra
    have slt := S.lt
    have sne : ¬ W2.heap.size = k := by omega
    have sne2 : ¬ k = W2.heap.size := by omega
    have S := S.set 2 (.int .u16 (m : Nat))
    have SW := Sl.empty (W2.setCell ⟨k, 2, none⟩ (.int .u16 (m : Nat))) (W2.setCell ⟨k, 2, none⟩ (.int .u16 (m : Nat))).heap.size none
    have oW : ∀ b o, (none : Option Addr) = some (⟨b, o, none⟩ : Addr) → w.heap.size < b := fun _ _ h => by cases h
    have kW : (0 : Nat) ≤ 0 := Nat.le_refl _
    have SB := Sl.empty (W2.setCell ⟨k, 2, none⟩ (.int .u16 (m : Nat))) (W2.setCell ⟨k, 2, none⟩ (.int .u16 (m : Nat))).heap.size none
    have oB : ∀ b o, (none : Option Addr) = some (⟨b, o, none⟩ : Addr) → w.heap.size < b := fun _ _ h => by cases h
    have kB : (0 : Nat) ≤ 0 := Nat.le_refl _
    have RA := S.ra
    go_wp2_with (first
      | (refine wpList_load_row rfl 31 (.tmp 4) rfl k rfl 31 #[.int .u8 (f : Nat), .int .u16 (a : Nat), .int .u16 (m : Nat), .int .u16 0, .slice none 0 0, .slice none 0 0] (0, 0) _ RA Tryz.underlying31 rfl (by kernel_rfl) ?_))
    refine (refBytes_any _ _ _ _ _ _ _ _ _ _ _ _ _ SW SB HWF).mono ?_
    rintro e w2 ⟨v, rfl, H⟩
    have S := S.call H.bel
    have SW := SW.to H.bel
    have SB := SB.to H.bel
    have RA := S.ra
    have rz := S.rz
    have hbel := S.bel
    have hk := S.hk
    have lz := row_lt rz
    obtain ⟨R, hR⟩ : ∃ R, R = right ⟨f, a, m, 0, [], []⟩ := ⟨_, rfl⟩
    cases R
    case false =>
      have HR := Lib.hid hR.symm
      have hB : bytesE ⟨f, a, m, 0, [], []⟩ = ([], 12) := by unfold bytesE; rw [HR.out]; rfl
      rw [hB] at H ⊢
      clear hB hR H
      go_wp2_with (refine wpList_store_grown rfl 31 (.tmp 2) _ rfl w.heap.size #[.int .u8 0, .int .u16 0, .int .u16 0, .int .u16 0, .slice none 0 0, .slice none 0 0] rfl rfl 31 _ rz (by kernel_rfl) rfl (by simp [Value.oneCell']) ?_; intro w9 h9 g9 s9)
      refine bodyPost_row_tmp rfl w.heap.size 31 #[.int .u8 0, .int .u16 0, .int .u16 0, .int .u16 0, .slice none 0 0, .slice none 0 0] (0, 0) _ (.int .i64 12) rfl h9 Tryz.underlying31 rfl (by kernel_rfl) rfl rfl ?_
      rw [HP.out, if_neg (by rw [HR.out]; simp)]
      exact RetReqTag.bare 0 _ _ (hbel.grown g9 hbel.size (fun k hk => by injection hk with hk; omega))
    case true =>
      have HR := Lib.hid hR.symm
      have hB : bytesE ⟨f, a, m, 0, [], []⟩ = (bytes ⟨f, a, m, 0, [], []⟩, 0) := by unfold bytesE; rw [HR.out]; rfl
      rw [hB] at H ⊢
      dsimp only at H
      have hbl : Bytes (bytes ⟨f, a, m, 0, [], []⟩) := bytes_lt _ HWF (by have := right_words HR.out; omega)
      obtain ⟨Av, cv, rfl, hcv, SV, _⟩ := H.slice
      have H1 := run_string (P := Tryz.prog) w2 _ 32 9 5 Tryz.underlying32 Tryz.underlying5 Tryz.underlying9 Av _ cv _ SV
      have H2 := run_string (P := Tryz.prog) w2 _ 32 9 5 Tryz.underlying32 Tryz.underlying5 Tryz.underlying9 (some ⟨b, o, none⟩) n c _ (HS.out.to hbel)
      have hSE := strB_eq (bytes ⟨f, a, m, 0, [], []⟩) xs hbl HX.out
      by_cases hq : bytes ⟨f, a, m, 0, [], []⟩ = xs
      case neg =>
        rw [show (bytes ⟨f, a, m, 0, [], []⟩ == xs) = false by rw [beq_eq_false_iff_ne]; exact hq] at hSE
        have HQ := Lib.hid hq
        clear hB hR H hq SV hcv
        go_wp2_with (refine wpList_store_grown rfl 31 (.tmp 2) _ rfl w.heap.size #[.int .u8 0, .int .u16 0, .int .u16 0, .int .u16 0, .slice none 0 0, .slice none 0 0] rfl rfl 31 _ rz (by kernel_rfl) rfl (by simp [Value.oneCell']) ?_; intro w9 h9 g9 s9)
        refine bodyPost_row_tmp rfl w.heap.size 31 #[.int .u8 0, .int .u16 0, .int .u16 0, .int .u16 0, .slice none 0 0, .slice none 0 0] (0, 0) _ (.int .i64 12) rfl h9 Tryz.underlying31 rfl (by kernel_rfl) rfl rfl ?_
        rw [HP.out, if_neg (by rw [HR.out]; simp; exact HQ.out)]
        exact RetReqTag.bare 0 _ _ (hbel.grown g9 hbel.size (fun k hk => by injection hk with hk; omega))
      case pos =>
        have HQ := Lib.hid hq
        rw [hq] at H1 SV ⊢
        clear hB hR H hSE hq
        go_wp2_with (first
          | (refine wpList_load_row rfl 31 (.tmp 4) rfl k rfl 31 #[.int .u8 (f : Nat), .int .u16 (a : Nat), .int .u16 (m : Nat), .int .u16 0, .slice none 0 0, .slice none 0 0] (0, 0) _ RA Tryz.underlying31 rfl (by kernel_rfl) ?_)
          | (refine wpList_store_grown rfl 31 (.tmp 2) _ rfl w.heap.size #[.int .u8 (f : Nat), .int .u16 (a : Nat), .int .u16 (m : Nat), .int .u16 0, .slice none 0 0, .slice none 0 0] rfl rfl 31 _ rz (by kernel_rfl) rfl (by simp [Value.oneCell']) ?_; intro w9 h9 g9 s9))
        refine bodyPost_row_tmp rfl w.heap.size 31 #[.int .u8 (f : Nat), .int .u16 (a : Nat), .int .u16 (m : Nat), .int .u16 0, .slice none 0 0, .slice none 0 0] (0, 0) _ (.int .i64 0) rfl h9 Tryz.underlying31 rfl (by kernel_rfl) rfl rfl ?_
        rw [HP.out, if_pos (by rw [HR.out, HQ.out]; simp)]
        exact ⟨_, _, _, _, _, _, rfl, SW.grown g9 (fun b o h e => by have := oW b o h; injection e with e; omega), SB.grown g9 (fun b o h e => by have := oB b o h; injection e with e; omega), kW, kB, (fun b o h => by have := oW b o h; omega), (fun b o h => by have := oB b o h; omega), hbel.grown g9 hbel.size (fun k hk => by injection hk with hk; omega)⟩)
end Go.Proofs.YtjfhfgchglaoiaaGreat.AskW
