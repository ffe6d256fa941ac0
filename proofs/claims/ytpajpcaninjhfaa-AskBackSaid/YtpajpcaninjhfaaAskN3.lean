/- The walk of fields.bytes, shape 3. -/
import Derived.Test.YtpajpcaninjhfaaAskN
namespace Go.Proofs.Ytpajpcaninjhfaa.AskW
open Go.RowKit Go.Proofs.Ytpajpcaninjhfaa Go.Proofs.Ytpajpcaninjhfaa.Ask
set_option linter.unusedVariables false
set_option linter.unusedSimpArgs false
set_option maxHeartbeats 8000000 in
theorem fbytes_3 (fm : Nat) (hP : (0 : Int) < fm) (fb fw : Nat) (hfb : fb ≠ 1) (hC : (decide (2 ≤ fb) || decide (2 ≤ fw)) = true) (f a m t : Nat) (Aw : Option Addr) (nw cw : Nat) (Ab : Option Addr) (nb cb : Nat) (W : List Nat) (B : List Bool) (w : World)
    (hW : Sl w w.heap.size Aw nw (ws W)) (hB : Sl w w.heap.size Ab nb (bl B)) (ha : a < 65536) (hm : m < 65536) (ht : t < 65536) (hww : ∀ x ∈ W, x < 65536) (hnw : nw ≤ 200) (hnb : nb ≤ 2100) :
    Calls Try.prog 31 #[.agg #[.int .i64 fm, .bool false, .int .u8 fb, .int .u8 fw], .agg #[.int .u8 f, .int .u16 a, .int .u16 m, .int .u16 t, .slice Aw nw cw, .slice Ab nb cb]] w
      fun e w' => ∃ v, e = .returned v ∧ Has w w' 5 v (fbytes fm false fb fw ⟨f, a, m, t, W, B⟩).length (bs (fbytes fm false fb fw ⟨f, a, m, t, W, B⟩)) := by
  have qW : W.length = nw := by simpa using hW.len
  have qB : B.length = nb := by simpa using hB.len
  have HF : Hid (fbytes fm false fb fw ⟨f, a, m, t, W, B⟩ = f :: two a ++ two m ++ [] ++ [(pack B ++ twos W).length % 256] ++ (pack B ++ twos W)) := by
    have e1 : 0 < fm := by omega
    have e2 : 2 ≤ fb ∨ 2 ≤ fw := by have := hC; simp at this; omega
    show _ = _
    simp [fbytes, if_neg hfb, e1, e2]
  obtain ⟨F, hF⟩ : ∃ F, F = fbytes fm false fb fw ⟨f, a, m, t, W, B⟩ := ⟨_, rfl⟩
  rw [← hF] at HF ⊢
  have hfb1 : ((fb : Int) == 1) = false := by rw [beq_eq_false_iff_ne]; omega
  have KC := Lib.hid (fun X => counted_any fm false fb fw X)
  rw [hC] at KC
  have hwn : IntKind.u16.wrap (nw : Int) = nw := by rw [IntKind.wrap_u16]; omega
  have hdl : (pack B ++ twos W).length = (nb + 7) / 8 + 2 * nw := by rw [List.length_append, pack_length, twos_len, qB, qW]
  have HWW := Lib.hid hww
  have hnw6 : nw < 65536 := by omega
  obtain ⟨ND, hND⟩ : ∃ ND, ND = (nb + 7) / 8 + 2 * nw := ⟨_, rfl⟩
  have hnd8 : IntKind.u8.wrap (ND : Int) = ((ND % 256 : Nat) : Int) := by rw [IntKind.wrap_u8]; omega
  have hND3 : ND ≤ 1000 := by omega
  rw [← hND] at hdl
  have HDL := Lib.hid hdl
  have HND := Lib.hid hND
  clear hF hC hfb qW qB hdl hww hND
  go_enter Try.func31, Try.ntmps31
  go_wp2_with fail
  refine (put_new1 _ _ (first_new _ f _ (by simp)) a ha (by omega) _ (by simp)).mono ?_
  rintro e w2 ⟨v2, rfl, HB⟩
  obtain ⟨W1, hW1⟩ : ∃ W1, W1 = (w.alloc (.cells #[.int .i64 fm, .bool false, .int .u8 fb, .int .u8 fw] 55)).alloc (.cells #[.int .u8 f, .int .u16 a, .int .u16 m, .int .u16 t, .slice Aw nw cw, .slice Ab nb cb] 26) := ⟨_, rfl⟩
  have r1 : W1.heap[w.heap.size]? = _ := hW1 ▸ row_alloc (heap_alloc_new w _) _
  have r2 : W1.heap[w.heap.size + 1]? = _ := hW1 ▸ heap_alloc2_new w _ _
  have s1 : w.heap.size + 1 < W1.heap.size := by rw [hW1]; simp
  have bW : Below w.heap.size w W1 := by rw [hW1]; exact ((Below.refl _ _).new _).new _
  rw [← hW1] at HB
  have hW' := hW.to bW
  have hB' := hB.to bW
  clear hW1 hW hB
  have R1 := Lib.hid r1
  have R2 := Lib.hid r2
  clear r1 r2
  obtain ⟨p0, p1, p2, p3⟩ := row4 (HB.bel.row (by omega) R1.out)
  obtain ⟨q0, q1, q2, q3, q4, q5⟩ := row6 (HB.bel.row (by omega) R2.out)
  go_wp2_with fail
  refine (put_new1 _ _ HB m hm (by omega) _ (by first | rfl | simp)).mono ?_
  rintro e w3 ⟨v3, rfl, HB3⟩
  have HB := HB3
  clear HB3
  obtain ⟨p0, p1, p2, p3⟩ := row4 (HB.bel.row (by omega) R1.out)
  obtain ⟨q0, q1, q2, q3, q4, q5⟩ := row6 (HB.bel.row (by omega) R2.out)
  go_wp2_with fail
  have HB0 := HB.drew
  go_region_held3 (fun w' => Below W1.heap.size W1 w' ∧ w'.cell? ⟨w.heap.size + 1, 4, none⟩ = some (.slice Aw nw cw) ∧ w'.cell? ⟨w.heap.size + 1, 5, none⟩ = some (.slice Ab nb cb))
    (first | exact ⟨HB.bel, (row6 (HB.bel.row (by omega) R2.out)).2.2.2.2.1, (row6 (HB.bel.row (by omega) R2.out)).2.2.2.2.2⟩ | exact ⟨HB0.bel, (row6 (HB0.bel.row (by omega) R2.out)).2.2.2.2.1, (row6 (HB0.bel.row (by omega) R2.out)).2.2.2.2.2⟩)
    (first
      | (go_at_call 22; refine (pack_any Ab nb cb B _ (hB'.to HB0.bel) (by omega)).mono ?_; rintro e w5 ⟨vp, rfl, HP⟩; have HB := HB0.below HP.bel)
      | (go_at_call 40; refine (data_put W1 _ _ HB0.bel HP Aw nw cw W hW' HWW.out (by omega)).mono ?_; rintro e w6 ⟨vd, rfl, HD⟩; have HB := HB0.below HD.bel))
  rw [← HND.out] at HD
  obtain ⟨Ad, cd, rfl, hcd, SD, oD⟩ := HD.slice
  have hap := fun b o (h : Ad = some (⟨b, o, none⟩ : Addr)) (e : Value.ownBlock _ = some b) => Nat.not_lt_of_le (oD b (by rw [h]; rfl)) (HB0.lt e)
  obtain ⟨p0, p1, p2, p3⟩ := row4 (HB.bel.row (by omega) R1.out)
  clear HD HP HB0
  go_wp2_with fail
  refine (KC.out _).mono ?_
  rintro e w7 ⟨rfl, b7⟩
  have HB := HB.below b7
  have SD := SD.to b7
  clear b7
  go_wp2_with (first
    | (at_builtin; refine wpList_app u8 rfl (.tmp 52) (.tmp 56) rfl (HB.alloc _) rfl (Sl.new1 _ _ _) rfl (one1 _ _) (by omega) (by simp only [maxLen]; omega) ?_; intro v8 w8 H8 g8 _; have SD := (SD.to ((Below.refl _ _).new _)).grown g8 hap; have HB := H8)
    | (at_builtin; refine wpList_app u8 rfl (.tmp 58) (.tmp 59) rfl HB rfl SD rfl (bs_one _) (by omega) (by simp only [maxLen]; omega) ?_; intro v9 w9 H9 _ _; have HB := H9))
  go_ret
  refine ⟨_, rfl, ?_⟩
  have e : bs ([f] ++ two a ++ two m) ++ [Value.int .u8 ((ND % 256 : Nat) : Int)] ++ bs (pack B ++ twos W) = bs F := by rw [HF.out]; simp [bs, two, HDL.out]
  have H := (HB.cast e).weaken bW
  simpa using H
end Go.Proofs.Ytpajpcaninjhfaa.AskW
