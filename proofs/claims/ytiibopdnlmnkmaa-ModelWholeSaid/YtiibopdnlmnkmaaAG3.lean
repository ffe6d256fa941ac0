/- Merged: AskN AskN1 AskN2 AskN3 AskN4 AskN5 AskO. -/
import Derived.Test.YtiibopdnlmnkmaaAG2
import Derived.Deep.RegionHeld3
/- The walks of the bytes of a right request: fields.bytes. -/
namespace Go.Proofs.Ytiibopdnlmnkmaa.AskW
open Go.RowKit Go.Proofs.Ytiibopdnlmnkmaa Go.Proofs.Ytiibopdnlmnkmaa.Ask
theorem first_new (w0 : World) (f g : Nat) (hg : g = w0.heap.size) : Has w0 (w0.alloc (.cells #[.int .u8 f] 5)) 5 (.slice (some ⟨g, 0, none⟩) 1 1) 1 (bs [f]) := by
  subst hg
  exact Has.of_row (n := 1) (cs := #[.int .u8 f]) ((Below.refl _ _).new _) (heap_alloc_new w0 _) (Nat.le_refl _) rfl (by simp [maxLen])
theorem put_new1 (w0 w : World) {v : Value} {n : Nat} {xs : List Nat} (H : Has w0 w 5 v n (bs xs)) (x : Nat) (hx : x < 65536) (hn : n ≤ 900000) (g : Nat) (hg : g = w.heap.size) :
    Calls Try.prog 66 #[v, .slice (some ⟨g, 0, none⟩) 1 1] (w.alloc (.cells #[.int .u16 x] 29)) fun e w' => ∃ v', e = .returned v' ∧ Has w0 w' 5 v' (n + 2) (bs (xs ++ two x)) := by
  subst hg
  have := askPut_any w0 v n xs (some ⟨w.heap.size, 0, none⟩) 1 1 [x] _ (H.alloc _) ((Sl.new1 w (.int .u16 x) 29).mono (by simp)) (by simpa using hx) (fun b o _ h e => by injection h with h; injection h with h _; have := H.lt e; omega) (by omega)
  simpa [twos] using this
theorem put_new2 (w0 w : World) {v : Value} {n : Nat} {xs : List Nat} (H : Has w0 w 5 v n (bs xs)) (x y : Nat) (hx : x < 65536) (hy : y < 65536) (hn : n ≤ 900000) (g : Nat) (hg : g = w.heap.size) :
    Calls Try.prog 66 #[v, .slice (some ⟨g, 0, none⟩) 2 2] (w.alloc (.cells #[.int .u16 x, .int .u16 y] 29)) fun e w' => ∃ v', e = .returned v' ∧ Has w0 w' 5 v' (n + 4) (bs (xs ++ two x ++ two y)) := by
  subst hg
  have := askPut_any w0 v n xs (some ⟨w.heap.size, 0, none⟩) 2 2 [x, y] _ (H.alloc _) ((Sl.new2 w (.int .u16 x) (.int .u16 y) 29).mono (by simp)) (by simp; omega) (fun b o _ h e => by injection h with h; injection h with h _; have := H.lt e; omega) (by omega)
  simpa [twos] using this
theorem data_put (W1 X w4 : World) (hX : Below W1.heap.size W1 X) {vp : Value} {n : Nat} {xs : List Nat} (HP : Has X w4 5 vp n (bs xs)) (Aw : Option Addr) (nw cw : Nat) (W : List Nat) (hW : Sl W1 W1.heap.size Aw nw (ws W)) (hww : ∀ x ∈ W, x < 65536) (hn : n + 2 * nw ≤ 1000000) :
    Calls Try.prog 66 #[vp, .slice Aw nw cw] w4 fun e w' => ∃ v', e = .returned v' ∧ Has X w' 5 v' (n + 2 * nw) (bs (xs ++ twos W)) := by
  refine askPut_any X vp n xs Aw nw cw W w4 HP (hW.to (hX.call HP.bel)) hww (fun b o h0 h => ?_) hn
  obtain ⟨b', o', e, hb', _⟩ := hW.2 h0
  rw [e] at h
  injection h with h
  injection h with h _
  exact HP.apart (by have := hX.size; omega)
/-- The bytes as fields.bytes lays them. -/
def fbytes (fm : Nat) (ft : Bool) (fb fw : Nat) (r : Req) : List Nat :=
  let h := r.f :: two r.at' ++ (if 0 < fm then two r.many else []) ++ (if ft then two r.to ++ two r.words.length else [])
  let d := pack r.bits ++ twos r.words
  if fb = 1 then h ++ two (if r.bits[0]?.getD false then 65280 else 0) else h ++ (if 2 ≤ fb ∨ 2 ≤ fw then [d.length % 256] else []) ++ d
end Go.Proofs.Ytiibopdnlmnkmaa.AskW
/- The walk of fields.bytes, shape 1. -/
namespace Go.Proofs.Ytiibopdnlmnkmaa.AskW
open Go.RowKit Go.Proofs.Ytiibopdnlmnkmaa Go.Proofs.Ytiibopdnlmnkmaa.Ask
set_option linter.unusedVariables false
set_option linter.unusedSimpArgs false
set_option maxHeartbeats 8000000 in
theorem fbytes_1 (fm : Nat) (hP : (0 : Int) < fm) (fb fw : Nat) (hfb : fb ≠ 1) (hC : (decide (2 ≤ fb) || decide (2 ≤ fw)) = false) (f a m t : Nat) (Aw : Option Addr) (nw cw : Nat) (Ab : Option Addr) (nb cb : Nat) (W : List Nat) (B : List Bool) (w : World)
    (hW : Sl w w.heap.size Aw nw (ws W)) (hB : Sl w w.heap.size Ab nb (bl B)) (ha : a < 65536) (hm : m < 65536) (ht : t < 65536) (hww : ∀ x ∈ W, x < 65536) (hnw : nw ≤ 200) (hnb : nb ≤ 2100) :
    Calls Try.prog 45 #[.agg #[.int .i64 fm, .bool false, .int .u8 fb, .int .u8 fw], .agg #[.int .u8 f, .int .u16 a, .int .u16 m, .int .u16 t, .slice Aw nw cw, .slice Ab nb cb]] w
      fun e w' => ∃ v, e = .returned v ∧ Has w w' 5 v (fbytes fm false fb fw ⟨f, a, m, t, W, B⟩).length (bs (fbytes fm false fb fw ⟨f, a, m, t, W, B⟩)) := by
  have qW : W.length = nw := by simpa using hW.len
  have qB : B.length = nb := by simpa using hB.len
  have HF : Hid (fbytes fm false fb fw ⟨f, a, m, t, W, B⟩ = f :: two a ++ two m ++ [] ++ [] ++ (pack B ++ twos W)) := by
    have e1 : 0 < fm := by omega
    have e2 : ¬ (2 ≤ fb ∨ 2 ≤ fw) := by have := hC; simp at this; omega
    show _ = _
    simp [fbytes, if_neg hfb, e1, e2]
  obtain ⟨F, hF⟩ : ∃ F, F = fbytes fm false fb fw ⟨f, a, m, t, W, B⟩ := ⟨_, rfl⟩
  rw [← hF] at HF ⊢
  have hfb1 : ((fb : Int) == 1) = false := by rw [beq_eq_false_iff_ne]; omega
  have KC := Lib.hid (fun X => counted_any fm false fb fw X)
  rw [hC] at KC
  have hwn : IntKind.u16.wrap (nw : Int) = nw := by rw [IntKind.wrap_u16]; omega
  have hdl : (pack B ++ twos W).length = (nb + 7) / 8 + 2 * nw := by rw [List.length_append, pack_length, twos_len, qB, qW]
  have HWW := Lib.hid hww
  have hnw6 : nw < 65536 := by omega
  obtain ⟨ND, hND⟩ : ∃ ND, ND = (nb + 7) / 8 + 2 * nw := ⟨_, rfl⟩
  have hnd8 : IntKind.u8.wrap (ND : Int) = ((ND % 256 : Nat) : Int) := by rw [IntKind.wrap_u8]; omega
  have hND3 : ND ≤ 1000 := by omega
  rw [← hND] at hdl
  have HDL := Lib.hid hdl
  have HND := Lib.hid hND
  clear hF hC hfb qW qB hdl hww hND
  go_enter Try.func45, Try.ntmps45
  go_wp2_with fail
  refine (put_new1 _ _ (first_new _ f _ (by simp)) a ha (by omega) _ (by simp)).mono ?_
  rintro e w2 ⟨v2, rfl, HB⟩
  obtain ⟨W1, hW1⟩ : ∃ W1, W1 = (w.alloc (.cells #[.int .i64 fm, .bool false, .int .u8 fb, .int .u8 fw] 91)).alloc (.cells #[.int .u8 f, .int .u16 a, .int .u16 m, .int .u16 t, .slice Aw nw cw, .slice Ab nb cb] 31) := ⟨_, rfl⟩
  have r1 : W1.heap[w.heap.size]? = _ := hW1 ▸ row_alloc (heap_alloc_new w _) _
  have r2 : W1.heap[w.heap.size + 1]? = _ := hW1 ▸ heap_alloc2_new w _ _
  have s1 : w.heap.size + 1 < W1.heap.size := by rw [hW1]; simp
  have bW : Below w.heap.size w W1 := by rw [hW1]; exact ((Below.refl _ _).new _).new _
  rw [← hW1] at HB
  have hW' := hW.to bW
  have hB' := hB.to bW
  clear hW1 hW hB
  have R1 := Lib.hid r1
  have R2 := Lib.hid r2
  clear r1 r2
  obtain ⟨p0, p1, p2, p3⟩ := row4 (HB.bel.row (by omega) R1.out)
  obtain ⟨q0, q1, q2, q3, q4, q5⟩ := row6 (HB.bel.row (by omega) R2.out)
  go_wp2_with fail
  refine (put_new1 _ _ HB m hm (by omega) _ (by first | rfl | simp)).mono ?_
  rintro e w3 ⟨v3, rfl, HB3⟩
  have HB := HB3
  clear HB3
  obtain ⟨p0, p1, p2, p3⟩ := row4 (HB.bel.row (by omega) R1.out)
  obtain ⟨q0, q1, q2, q3, q4, q5⟩ := row6 (HB.bel.row (by omega) R2.out)
  go_wp2_with fail
  have HB0 := HB.drew
  go_region_held3 (fun w' => Below W1.heap.size W1 w' ∧ w'.cell? ⟨w.heap.size + 1, 4, none⟩ = some (.slice Aw nw cw) ∧ w'.cell? ⟨w.heap.size + 1, 5, none⟩ = some (.slice Ab nb cb))
    (first | exact ⟨HB.bel, (row6 (HB.bel.row (by omega) R2.out)).2.2.2.2.1, (row6 (HB.bel.row (by omega) R2.out)).2.2.2.2.2⟩ | exact ⟨HB0.bel, (row6 (HB0.bel.row (by omega) R2.out)).2.2.2.2.1, (row6 (HB0.bel.row (by omega) R2.out)).2.2.2.2.2⟩)
    (first
      | (go_at_call 68; refine (pack_any Ab nb cb B _ (hB'.to HB0.bel) (by omega)).mono ?_; rintro e w5 ⟨vp, rfl, HP⟩; have HB := HB0.below HP.bel)
      | (go_at_call 66; refine (data_put W1 _ _ HB0.bel HP Aw nw cw W hW' HWW.out (by omega)).mono ?_; rintro e w6 ⟨vd, rfl, HD⟩; have HB := HB0.below HD.bel))
  rw [← HND.out] at HD
  obtain ⟨Ad, cd, rfl, hcd, SD, oD⟩ := HD.slice
  have hap := fun b o (h : Ad = some (⟨b, o, none⟩ : Addr)) (e : Value.ownBlock _ = some b) => Nat.not_lt_of_le (oD b (by rw [h]; rfl)) (HB0.lt e)
  obtain ⟨p0, p1, p2, p3⟩ := row4 (HB.bel.row (by omega) R1.out)
  clear HD HP HB0
  go_wp2_with fail
  refine (KC.out _).mono ?_
  rintro e w7 ⟨rfl, b7⟩
  have HB := HB.below b7
  have SD := SD.to b7
  clear b7
  go_wp2_with ((at_builtin; refine wpList_app u8 rfl (.tmp 58) (.tmp 59) rfl HB rfl SD rfl (bs_one _) (by omega) (by simp only [maxLen]; omega) ?_; intro v9 w9 H9 _ _; have HB := H9))
  go_ret
  refine ⟨_, rfl, ?_⟩
  have e : bs ([f] ++ two a ++ two m) ++ bs (pack B ++ twos W) = bs F := by rw [HF.out]; simp [bs, two, HDL.out]
  have H := (HB.cast e).weaken bW
  simpa using H
end Go.Proofs.Ytiibopdnlmnkmaa.AskW
/- The walk of fields.bytes, shape 2. -/
namespace Go.Proofs.Ytiibopdnlmnkmaa.AskW
open Go.RowKit Go.Proofs.Ytiibopdnlmnkmaa Go.Proofs.Ytiibopdnlmnkmaa.Ask
set_option linter.unusedVariables false
set_option linter.unusedSimpArgs false
set_option maxHeartbeats 8000000 in
theorem fbytes_2 (fm : Nat) (hP : ¬ (0 : Int) < fm) (fb fw : Nat) (hfb : fb ≠ 1) (hC : (decide (2 ≤ fb) || decide (2 ≤ fw)) = false) (f a m t : Nat) (Aw : Option Addr) (nw cw : Nat) (Ab : Option Addr) (nb cb : Nat) (W : List Nat) (B : List Bool) (w : World)
    (hW : Sl w w.heap.size Aw nw (ws W)) (hB : Sl w w.heap.size Ab nb (bl B)) (ha : a < 65536) (hm : m < 65536) (ht : t < 65536) (hww : ∀ x ∈ W, x < 65536) (hnw : nw ≤ 200) (hnb : nb ≤ 2100) :
    Calls Try.prog 45 #[.agg #[.int .i64 fm, .bool false, .int .u8 fb, .int .u8 fw], .agg #[.int .u8 f, .int .u16 a, .int .u16 m, .int .u16 t, .slice Aw nw cw, .slice Ab nb cb]] w
      fun e w' => ∃ v, e = .returned v ∧ Has w w' 5 v (fbytes fm false fb fw ⟨f, a, m, t, W, B⟩).length (bs (fbytes fm false fb fw ⟨f, a, m, t, W, B⟩)) := by
  have qW : W.length = nw := by simpa using hW.len
  have qB : B.length = nb := by simpa using hB.len
  have HF : Hid (fbytes fm false fb fw ⟨f, a, m, t, W, B⟩ = f :: two a ++ [] ++ [] ++ [] ++ (pack B ++ twos W)) := by
    have e1 : ¬ 0 < fm := by omega
    have e2 : ¬ (2 ≤ fb ∨ 2 ≤ fw) := by have := hC; simp at this; omega
    show _ = _
    simp [fbytes, if_neg hfb, e1, e2]
  obtain ⟨F, hF⟩ : ∃ F, F = fbytes fm false fb fw ⟨f, a, m, t, W, B⟩ := ⟨_, rfl⟩
  rw [← hF] at HF ⊢
  have hfb1 : ((fb : Int) == 1) = false := by rw [beq_eq_false_iff_ne]; omega
  have KC := Lib.hid (fun X => counted_any fm false fb fw X)
  rw [hC] at KC
  have hwn : IntKind.u16.wrap (nw : Int) = nw := by rw [IntKind.wrap_u16]; omega
  have hdl : (pack B ++ twos W).length = (nb + 7) / 8 + 2 * nw := by rw [List.length_append, pack_length, twos_len, qB, qW]
  have HWW := Lib.hid hww
  have hnw6 : nw < 65536 := by omega
  obtain ⟨ND, hND⟩ : ∃ ND, ND = (nb + 7) / 8 + 2 * nw := ⟨_, rfl⟩
  have hnd8 : IntKind.u8.wrap (ND : Int) = ((ND % 256 : Nat) : Int) := by rw [IntKind.wrap_u8]; omega
  have hND3 : ND ≤ 1000 := by omega
  rw [← hND] at hdl
  have HDL := Lib.hid hdl
  have HND := Lib.hid hND
  clear hF hC hfb qW qB hdl hww hND
  go_enter Try.func45, Try.ntmps45
  go_wp2_with fail
  refine (put_new1 _ _ (first_new _ f _ (by simp)) a ha (by omega) _ (by simp)).mono ?_
  rintro e w2 ⟨v2, rfl, HB⟩
  obtain ⟨W1, hW1⟩ : ∃ W1, W1 = (w.alloc (.cells #[.int .i64 fm, .bool false, .int .u8 fb, .int .u8 fw] 91)).alloc (.cells #[.int .u8 f, .int .u16 a, .int .u16 m, .int .u16 t, .slice Aw nw cw, .slice Ab nb cb] 31) := ⟨_, rfl⟩
  have r1 : W1.heap[w.heap.size]? = _ := hW1 ▸ row_alloc (heap_alloc_new w _) _
  have r2 : W1.heap[w.heap.size + 1]? = _ := hW1 ▸ heap_alloc2_new w _ _
  have s1 : w.heap.size + 1 < W1.heap.size := by rw [hW1]; simp
  have bW : Below w.heap.size w W1 := by rw [hW1]; exact ((Below.refl _ _).new _).new _
  rw [← hW1] at HB
  have hW' := hW.to bW
  have hB' := hB.to bW
  clear hW1 hW hB
  have R1 := Lib.hid r1
  have R2 := Lib.hid r2
  clear r1 r2
  obtain ⟨p0, p1, p2, p3⟩ := row4 (HB.bel.row (by omega) R1.out)
  obtain ⟨q0, q1, q2, q3, q4, q5⟩ := row6 (HB.bel.row (by omega) R2.out)
  go_wp2_with fail
  have HB0 := HB.drew
  go_region_held3 (fun w' => Below W1.heap.size W1 w' ∧ w'.cell? ⟨w.heap.size + 1, 4, none⟩ = some (.slice Aw nw cw) ∧ w'.cell? ⟨w.heap.size + 1, 5, none⟩ = some (.slice Ab nb cb))
    (first | exact ⟨HB.bel, (row6 (HB.bel.row (by omega) R2.out)).2.2.2.2.1, (row6 (HB.bel.row (by omega) R2.out)).2.2.2.2.2⟩ | exact ⟨HB0.bel, (row6 (HB0.bel.row (by omega) R2.out)).2.2.2.2.1, (row6 (HB0.bel.row (by omega) R2.out)).2.2.2.2.2⟩)
    (first
      | (go_at_call 68; refine (pack_any Ab nb cb B _ (hB'.to HB0.bel) (by omega)).mono ?_; rintro e w5 ⟨vp, rfl, HP⟩; have HB := HB0.below HP.bel)
      | (go_at_call 66; refine (data_put W1 _ _ HB0.bel HP Aw nw cw W hW' HWW.out (by omega)).mono ?_; rintro e w6 ⟨vd, rfl, HD⟩; have HB := HB0.below HD.bel))
  rw [← HND.out] at HD
  obtain ⟨Ad, cd, rfl, hcd, SD, oD⟩ := HD.slice
  have hap := fun b o (h : Ad = some (⟨b, o, none⟩ : Addr)) (e : Value.ownBlock _ = some b) => Nat.not_lt_of_le (oD b (by rw [h]; rfl)) (HB0.lt e)
  obtain ⟨p0, p1, p2, p3⟩ := row4 (HB.bel.row (by omega) R1.out)
  clear HD HP HB0
  go_wp2_with fail
  refine (KC.out _).mono ?_
  rintro e w7 ⟨rfl, b7⟩
  have HB := HB.below b7
  have SD := SD.to b7
  clear b7
  go_wp2_with ((at_builtin; refine wpList_app u8 rfl (.tmp 58) (.tmp 59) rfl HB rfl SD rfl (bs_one _) (by omega) (by simp only [maxLen]; omega) ?_; intro v9 w9 H9 _ _; have HB := H9))
  go_ret
  refine ⟨_, rfl, ?_⟩
  have e : bs ([f] ++ two a) ++ bs (pack B ++ twos W) = bs F := by rw [HF.out]; simp [bs, two, HDL.out]
  have H := (HB.cast e).weaken bW
  simpa using H
end Go.Proofs.Ytiibopdnlmnkmaa.AskW
/- The walk of fields.bytes, shape 3. -/
namespace Go.Proofs.Ytiibopdnlmnkmaa.AskW
open Go.RowKit Go.Proofs.Ytiibopdnlmnkmaa Go.Proofs.Ytiibopdnlmnkmaa.Ask
set_option linter.unusedVariables false
set_option linter.unusedSimpArgs false
set_option maxHeartbeats 8000000 in
theorem fbytes_3 (fm : Nat) (hP : (0 : Int) < fm) (fb fw : Nat) (hfb : fb ≠ 1) (hC : (decide (2 ≤ fb) || decide (2 ≤ fw)) = true) (f a m t : Nat) (Aw : Option Addr) (nw cw : Nat) (Ab : Option Addr) (nb cb : Nat) (W : List Nat) (B : List Bool) (w : World)
    (hW : Sl w w.heap.size Aw nw (ws W)) (hB : Sl w w.heap.size Ab nb (bl B)) (ha : a < 65536) (hm : m < 65536) (ht : t < 65536) (hww : ∀ x ∈ W, x < 65536) (hnw : nw ≤ 200) (hnb : nb ≤ 2100) :
    Calls Try.prog 45 #[.agg #[.int .i64 fm, .bool false, .int .u8 fb, .int .u8 fw], .agg #[.int .u8 f, .int .u16 a, .int .u16 m, .int .u16 t, .slice Aw nw cw, .slice Ab nb cb]] w
      fun e w' => ∃ v, e = .returned v ∧ Has w w' 5 v (fbytes fm false fb fw ⟨f, a, m, t, W, B⟩).length (bs (fbytes fm false fb fw ⟨f, a, m, t, W, B⟩)) := by
  have qW : W.length = nw := by simpa using hW.len
  have qB : B.length = nb := by simpa using hB.len
  have HF : Hid (fbytes fm false fb fw ⟨f, a, m, t, W, B⟩ = f :: two a ++ two m ++ [] ++ [(pack B ++ twos W).length % 256] ++ (pack B ++ twos W)) := by
    have e1 : 0 < fm := by omega
    have e2 : 2 ≤ fb ∨ 2 ≤ fw := by have := hC; simp at this; omega
    show _ = _
    simp [fbytes, if_neg hfb, e1, e2]
  obtain ⟨F, hF⟩ : ∃ F, F = fbytes fm false fb fw ⟨f, a, m, t, W, B⟩ := ⟨_, rfl⟩
  rw [← hF] at HF ⊢
  have hfb1 : ((fb : Int) == 1) = false := by rw [beq_eq_false_iff_ne]; omega
  have KC := Lib.hid (fun X => counted_any fm false fb fw X)
  rw [hC] at KC
  have hwn : IntKind.u16.wrap (nw : Int) = nw := by rw [IntKind.wrap_u16]; omega
  have hdl : (pack B ++ twos W).length = (nb + 7) / 8 + 2 * nw := by rw [List.length_append, pack_length, twos_len, qB, qW]
  have HWW := Lib.hid hww
  have hnw6 : nw < 65536 := by omega
  obtain ⟨ND, hND⟩ : ∃ ND, ND = (nb + 7) / 8 + 2 * nw := ⟨_, rfl⟩
  have hnd8 : IntKind.u8.wrap (ND : Int) = ((ND % 256 : Nat) : Int) := by rw [IntKind.wrap_u8]; omega
  have hND3 : ND ≤ 1000 := by omega
  rw [← hND] at hdl
  have HDL := Lib.hid hdl
  have HND := Lib.hid hND
  clear hF hC hfb qW qB hdl hww hND
  go_enter Try.func45, Try.ntmps45
  go_wp2_with fail
  refine (put_new1 _ _ (first_new _ f _ (by simp)) a ha (by omega) _ (by simp)).mono ?_
  rintro e w2 ⟨v2, rfl, HB⟩
  obtain ⟨W1, hW1⟩ : ∃ W1, W1 = (w.alloc (.cells #[.int .i64 fm, .bool false, .int .u8 fb, .int .u8 fw] 91)).alloc (.cells #[.int .u8 f, .int .u16 a, .int .u16 m, .int .u16 t, .slice Aw nw cw, .slice Ab nb cb] 31) := ⟨_, rfl⟩
  have r1 : W1.heap[w.heap.size]? = _ := hW1 ▸ row_alloc (heap_alloc_new w _) _
  have r2 : W1.heap[w.heap.size + 1]? = _ := hW1 ▸ heap_alloc2_new w _ _
  have s1 : w.heap.size + 1 < W1.heap.size := by rw [hW1]; simp
  have bW : Below w.heap.size w W1 := by rw [hW1]; exact ((Below.refl _ _).new _).new _
  rw [← hW1] at HB
  have hW' := hW.to bW
  have hB' := hB.to bW
  clear hW1 hW hB
  have R1 := Lib.hid r1
  have R2 := Lib.hid r2
  clear r1 r2
  obtain ⟨p0, p1, p2, p3⟩ := row4 (HB.bel.row (by omega) R1.out)
  obtain ⟨q0, q1, q2, q3, q4, q5⟩ := row6 (HB.bel.row (by omega) R2.out)
  go_wp2_with fail
  refine (put_new1 _ _ HB m hm (by omega) _ (by first | rfl | simp)).mono ?_
  rintro e w3 ⟨v3, rfl, HB3⟩
  have HB := HB3
  clear HB3
  obtain ⟨p0, p1, p2, p3⟩ := row4 (HB.bel.row (by omega) R1.out)
  obtain ⟨q0, q1, q2, q3, q4, q5⟩ := row6 (HB.bel.row (by omega) R2.out)
  go_wp2_with fail
  have HB0 := HB.drew
  go_region_held3 (fun w' => Below W1.heap.size W1 w' ∧ w'.cell? ⟨w.heap.size + 1, 4, none⟩ = some (.slice Aw nw cw) ∧ w'.cell? ⟨w.heap.size + 1, 5, none⟩ = some (.slice Ab nb cb))
    (first | exact ⟨HB.bel, (row6 (HB.bel.row (by omega) R2.out)).2.2.2.2.1, (row6 (HB.bel.row (by omega) R2.out)).2.2.2.2.2⟩ | exact ⟨HB0.bel, (row6 (HB0.bel.row (by omega) R2.out)).2.2.2.2.1, (row6 (HB0.bel.row (by omega) R2.out)).2.2.2.2.2⟩)
    (first
      | (go_at_call 68; refine (pack_any Ab nb cb B _ (hB'.to HB0.bel) (by omega)).mono ?_; rintro e w5 ⟨vp, rfl, HP⟩; have HB := HB0.below HP.bel)
      | (go_at_call 66; refine (data_put W1 _ _ HB0.bel HP Aw nw cw W hW' HWW.out (by omega)).mono ?_; rintro e w6 ⟨vd, rfl, HD⟩; have HB := HB0.below HD.bel))
  rw [← HND.out] at HD
  obtain ⟨Ad, cd, rfl, hcd, SD, oD⟩ := HD.slice
  have hap := fun b o (h : Ad = some (⟨b, o, none⟩ : Addr)) (e : Value.ownBlock _ = some b) => Nat.not_lt_of_le (oD b (by rw [h]; rfl)) (HB0.lt e)
  obtain ⟨p0, p1, p2, p3⟩ := row4 (HB.bel.row (by omega) R1.out)
  clear HD HP HB0
  go_wp2_with fail
  refine (KC.out _).mono ?_
  rintro e w7 ⟨rfl, b7⟩
  have HB := HB.below b7
  have SD := SD.to b7
  clear b7
  go_wp2_with (first
    | (at_builtin; refine wpList_app u8 rfl (.tmp 52) (.tmp 56) rfl (HB.alloc _) rfl (Sl.new1 _ _ _) rfl (one1 _ _) (by omega) (by simp only [maxLen]; omega) ?_; intro v8 w8 H8 g8 _; have SD := (SD.to ((Below.refl _ _).new _)).grown g8 hap; have HB := H8)
    | (at_builtin; refine wpList_app u8 rfl (.tmp 58) (.tmp 59) rfl HB rfl SD rfl (bs_one _) (by omega) (by simp only [maxLen]; omega) ?_; intro v9 w9 H9 _ _; have HB := H9))
  go_ret
  refine ⟨_, rfl, ?_⟩
  have e : bs ([f] ++ two a ++ two m) ++ [Value.int .u8 ((ND % 256 : Nat) : Int)] ++ bs (pack B ++ twos W) = bs F := by rw [HF.out]; simp [bs, two, HDL.out]
  have H := (HB.cast e).weaken bW
  simpa using H
end Go.Proofs.Ytiibopdnlmnkmaa.AskW
/- The walk of fields.bytes, shape 4. -/
namespace Go.Proofs.Ytiibopdnlmnkmaa.AskW
open Go.RowKit Go.Proofs.Ytiibopdnlmnkmaa Go.Proofs.Ytiibopdnlmnkmaa.Ask
set_option linter.unusedVariables false
set_option linter.unusedSimpArgs false
set_option maxHeartbeats 8000000 in
theorem fbytes_4 (fm : Nat) (hP : (0 : Int) < fm) (fb fw : Nat) (hfb : fb ≠ 1) (hC : (decide (2 ≤ fb) || decide (2 ≤ fw)) = true) (f a m t : Nat) (Aw : Option Addr) (nw cw : Nat) (Ab : Option Addr) (nb cb : Nat) (W : List Nat) (B : List Bool) (w : World)
    (hW : Sl w w.heap.size Aw nw (ws W)) (hB : Sl w w.heap.size Ab nb (bl B)) (ha : a < 65536) (hm : m < 65536) (ht : t < 65536) (hww : ∀ x ∈ W, x < 65536) (hnw : nw ≤ 200) (hnb : nb ≤ 2100) :
    Calls Try.prog 45 #[.agg #[.int .i64 fm, .bool true, .int .u8 fb, .int .u8 fw], .agg #[.int .u8 f, .int .u16 a, .int .u16 m, .int .u16 t, .slice Aw nw cw, .slice Ab nb cb]] w
      fun e w' => ∃ v, e = .returned v ∧ Has w w' 5 v (fbytes fm true fb fw ⟨f, a, m, t, W, B⟩).length (bs (fbytes fm true fb fw ⟨f, a, m, t, W, B⟩)) := by
  have qW : W.length = nw := by simpa using hW.len
  have qB : B.length = nb := by simpa using hB.len
  have HF : Hid (fbytes fm true fb fw ⟨f, a, m, t, W, B⟩ = f :: two a ++ two m ++ (two t ++ two nw) ++ [(pack B ++ twos W).length % 256] ++ (pack B ++ twos W)) := by
    have e1 : 0 < fm := by omega
    have e2 : 2 ≤ fb ∨ 2 ≤ fw := by have := hC; simp at this; omega
    show _ = _
    simp [fbytes, if_neg hfb, e1, e2, qW]
  obtain ⟨F, hF⟩ : ∃ F, F = fbytes fm true fb fw ⟨f, a, m, t, W, B⟩ := ⟨_, rfl⟩
  rw [← hF] at HF ⊢
  have hfb1 : ((fb : Int) == 1) = false := by rw [beq_eq_false_iff_ne]; omega
  have KC := Lib.hid (fun X => counted_any fm true fb fw X)
  rw [hC] at KC
  have hwn : IntKind.u16.wrap (nw : Int) = nw := by rw [IntKind.wrap_u16]; omega
  have hdl : (pack B ++ twos W).length = (nb + 7) / 8 + 2 * nw := by rw [List.length_append, pack_length, twos_len, qB, qW]
  have HWW := Lib.hid hww
  have hnw6 : nw < 65536 := by omega
  obtain ⟨ND, hND⟩ : ∃ ND, ND = (nb + 7) / 8 + 2 * nw := ⟨_, rfl⟩
  have hnd8 : IntKind.u8.wrap (ND : Int) = ((ND % 256 : Nat) : Int) := by rw [IntKind.wrap_u8]; omega
  have hND3 : ND ≤ 1000 := by omega
  rw [← hND] at hdl
  have HDL := Lib.hid hdl
  have HND := Lib.hid hND
  clear hF hC hfb qW qB hdl hww hND
  go_enter Try.func45, Try.ntmps45
  go_wp2_with fail
  refine (put_new1 _ _ (first_new _ f _ (by simp)) a ha (by omega) _ (by simp)).mono ?_
  rintro e w2 ⟨v2, rfl, HB⟩
  obtain ⟨W1, hW1⟩ : ∃ W1, W1 = (w.alloc (.cells #[.int .i64 fm, .bool true, .int .u8 fb, .int .u8 fw] 91)).alloc (.cells #[.int .u8 f, .int .u16 a, .int .u16 m, .int .u16 t, .slice Aw nw cw, .slice Ab nb cb] 31) := ⟨_, rfl⟩
  have r1 : W1.heap[w.heap.size]? = _ := hW1 ▸ row_alloc (heap_alloc_new w _) _
  have r2 : W1.heap[w.heap.size + 1]? = _ := hW1 ▸ heap_alloc2_new w _ _
  have s1 : w.heap.size + 1 < W1.heap.size := by rw [hW1]; simp
  have bW : Below w.heap.size w W1 := by rw [hW1]; exact ((Below.refl _ _).new _).new _
  rw [← hW1] at HB
  have hW' := hW.to bW
  have hB' := hB.to bW
  clear hW1 hW hB
  have R1 := Lib.hid r1
  have R2 := Lib.hid r2
  clear r1 r2
  obtain ⟨p0, p1, p2, p3⟩ := row4 (HB.bel.row (by omega) R1.out)
  obtain ⟨q0, q1, q2, q3, q4, q5⟩ := row6 (HB.bel.row (by omega) R2.out)
  go_wp2_with fail
  refine (put_new1 _ _ HB m hm (by omega) _ (by first | rfl | simp)).mono ?_
  rintro e w3 ⟨v3, rfl, HB3⟩
  have HB := HB3
  clear HB3
  obtain ⟨p0, p1, p2, p3⟩ := row4 (HB.bel.row (by omega) R1.out)
  obtain ⟨q0, q1, q2, q3, q4, q5⟩ := row6 (HB.bel.row (by omega) R2.out)
  go_wp2_with fail
  refine (put_new2 _ _ HB t nw ht hnw6 (by omega) _ (by first | rfl | simp)).mono ?_
  rintro e w4 ⟨v4, rfl, HB4⟩
  have HB := HB4
  clear HB4
  obtain ⟨p0, p1, p2, p3⟩ := row4 (HB.bel.row (by omega) R1.out)
  obtain ⟨q0, q1, q2, q3, q4, q5⟩ := row6 (HB.bel.row (by omega) R2.out)
  go_wp2_with fail
  have HB0 := HB.drew
  go_region_held3 (fun w' => Below W1.heap.size W1 w' ∧ w'.cell? ⟨w.heap.size + 1, 4, none⟩ = some (.slice Aw nw cw) ∧ w'.cell? ⟨w.heap.size + 1, 5, none⟩ = some (.slice Ab nb cb))
    (first | exact ⟨HB.bel, (row6 (HB.bel.row (by omega) R2.out)).2.2.2.2.1, (row6 (HB.bel.row (by omega) R2.out)).2.2.2.2.2⟩ | exact ⟨HB0.bel, (row6 (HB0.bel.row (by omega) R2.out)).2.2.2.2.1, (row6 (HB0.bel.row (by omega) R2.out)).2.2.2.2.2⟩)
    (first
      | (go_at_call 68; refine (pack_any Ab nb cb B _ (hB'.to HB0.bel) (by omega)).mono ?_; rintro e w5 ⟨vp, rfl, HP⟩; have HB := HB0.below HP.bel)
      | (go_at_call 66; refine (data_put W1 _ _ HB0.bel HP Aw nw cw W hW' HWW.out (by omega)).mono ?_; rintro e w6 ⟨vd, rfl, HD⟩; have HB := HB0.below HD.bel))
  rw [← HND.out] at HD
  obtain ⟨Ad, cd, rfl, hcd, SD, oD⟩ := HD.slice
  have hap := fun b o (h : Ad = some (⟨b, o, none⟩ : Addr)) (e : Value.ownBlock _ = some b) => Nat.not_lt_of_le (oD b (by rw [h]; rfl)) (HB0.lt e)
  obtain ⟨p0, p1, p2, p3⟩ := row4 (HB.bel.row (by omega) R1.out)
  clear HD HP HB0
  go_wp2_with fail
  refine (KC.out _).mono ?_
  rintro e w7 ⟨rfl, b7⟩
  have HB := HB.below b7
  have SD := SD.to b7
  clear b7
  go_wp2_with (first
    | (at_builtin; refine wpList_app u8 rfl (.tmp 52) (.tmp 56) rfl (HB.alloc _) rfl (Sl.new1 _ _ _) rfl (one1 _ _) (by omega) (by simp only [maxLen]; omega) ?_; intro v8 w8 H8 g8 _; have SD := (SD.to ((Below.refl _ _).new _)).grown g8 hap; have HB := H8)
    | (at_builtin; refine wpList_app u8 rfl (.tmp 58) (.tmp 59) rfl HB rfl SD rfl (bs_one _) (by omega) (by simp only [maxLen]; omega) ?_; intro v9 w9 H9 _ _; have HB := H9))
  go_ret
  refine ⟨_, rfl, ?_⟩
  have e : bs ([f] ++ two a ++ two m ++ two t ++ two nw) ++ [Value.int .u8 ((ND % 256 : Nat) : Int)] ++ bs (pack B ++ twos W) = bs F := by rw [HF.out]; simp [bs, two, HDL.out]
  have H := (HB.cast e).weaken bW
  simpa using H
end Go.Proofs.Ytiibopdnlmnkmaa.AskW
/- The walk of fields.bytes where one bit is written alone. -/
set_option linter.unusedVariables false
set_option linter.unusedSimpArgs false
namespace Go.Proofs.Ytiibopdnlmnkmaa.AskW
open Go.RowKit Go.Proofs.Ytiibopdnlmnkmaa Go.Proofs.Ytiibopdnlmnkmaa.Ask
theorem lvl_lt (b : Bool) : (if b then 65280 else 0 : Nat) < 65536 := by cases b <;> decide
set_option maxHeartbeats 8000000 in
theorem fbytes_5 (f a m t : Nat) (Aw : Option Addr) (nw cw : Nat) (Ab : Option Addr) (nb cb : Nat) (W : List Nat) (B : List Bool) (w : World)
    (hW : Sl w w.heap.size Aw nw (ws W)) (hB : Sl w w.heap.size Ab nb (bl B)) (ha : a < 65536) (hnb : 1 ≤ nb) :
    Calls Try.prog 45 #[.agg #[.int .i64 0, .bool false, .int .u8 1, .int .u8 0], .agg #[.int .u8 f, .int .u16 a, .int .u16 m, .int .u16 t, .slice Aw nw cw, .slice Ab nb cb]] w
      fun e w' => ∃ v, e = .returned v ∧ Has w w' 5 v (fbytes 0 false 1 0 ⟨f, a, m, t, W, B⟩).length (bs (fbytes 0 false 1 0 ⟨f, a, m, t, W, B⟩)) := by
  have qB : B.length = nb := by simpa using hB.len
  obtain ⟨x, ex⟩ : ∃ x, x = B[0]?.getD false := ⟨_, rfl⟩
  have HF : Hid (fbytes 0 false 1 0 ⟨f, a, m, t, W, B⟩ = f :: two a ++ two (if x then 65280 else 0)) := by
    show _ = _
    simp [fbytes, ex]
  obtain ⟨F, hF⟩ : ∃ F, F = fbytes 0 false 1 0 ⟨f, a, m, t, W, B⟩ := ⟨_, rfl⟩
  rw [← hF] at HF ⊢
  obtain ⟨b, o, rfl, hbl, d1⟩ := hB.2 (by omega)
  have g1 : w.cell? ⟨b, o, none⟩ = _ := (d1 0 (by omega)).trans (bl_get (by omega))
  rw [← ex] at g1
  have z1 : (0 : Int) < (nb : Int) := by omega
  have hL := Lib.hid (lvl_lt x)
  obtain ⟨L, eL⟩ : ∃ L, L = (if x then 65280 else 0 : Nat) := ⟨_, rfl⟩
  have KL := Lib.hid (fun X => level_any x X)
  rw [← eL] at hL HF KL
  clear hF qB ex d1 hW hB eL
  go_enter Try.func45, Try.ntmps45
  go_wp2_with fail
  refine (put_new1 _ _ (first_new _ f _ (by simp)) a ha (by omega) _ (by simp)).mono ?_
  rintro e w2 ⟨v2, rfl, HB⟩
  obtain ⟨W1, hW1⟩ : ∃ W1, W1 = (w.alloc (.cells #[.int .i64 0, .bool false, .int .u8 1, .int .u8 0] 91)).alloc (.cells #[.int .u8 f, .int .u16 a, .int .u16 m, .int .u16 t, .slice Aw nw cw, .slice (some ⟨b, o, none⟩) nb cb] 31) := ⟨_, rfl⟩
  have r1 : W1.heap[w.heap.size]? = _ := hW1 ▸ row_alloc (heap_alloc_new w _) _
  have r2 : W1.heap[w.heap.size + 1]? = _ := hW1 ▸ heap_alloc2_new w _ _
  have s1 : w.heap.size + 1 < W1.heap.size := by rw [hW1]; simp
  have bW : Below w.heap.size w W1 := by rw [hW1]; exact ((Below.refl _ _).new _).new _
  rw [← hW1] at HB
  clear hW1
  have bW2 : Below w.heap.size w w2 := bW.call HB.bel
  have g2 : w2.cell? ⟨b, o, none⟩ = _ := (bW2.cell (p := ⟨b, o, none⟩) hbl).trans g1
  obtain ⟨p0, p1, p2, p3⟩ := row4 (HB.bel.row (by omega) r1)
  obtain ⟨q0, q1, q2, q3, q4, q5⟩ := row6 (HB.bel.row (by omega) r2)
  clear r1 r2
  go_wp2_with fail
  refine (KL.out _).mono ?_
  rintro e w3 ⟨rfl, rfl⟩
  go_wp2_with fail
  refine (put_new1 _ _ HB L hL.out (by omega) _ (by first | rfl | simp)).mono ?_
  rintro e w4 ⟨v4, rfl, HB4⟩
  go_wp2_with fail
  go_ret
  refine ⟨_, rfl, ?_⟩
  have e : bs ([f] ++ two a ++ two L) = bs F := by rw [HF.out]; simp [bs, two]
  have H := (HB4.cast e).weaken bW
  simpa using H
end Go.Proofs.Ytiibopdnlmnkmaa.AskW
/- What is read of bytes: words for the walks of fields.read. -/
namespace Go.Proofs.Ytiibopdnlmnkmaa.AskW
open Go.RowKit Go.Proofs.Ytiibopdnlmnkmaa Go.Proofs.Ytiibopdnlmnkmaa.Ask
/-- A request is handed back, in memory of its own or as it was. -/
def RetReq (w : World) (r : Req) (e : Ending) (w' : World) : Prop := ∃ Aw nw cw Ab nb cb, e = .returned (.agg #[.int .u8 r.f, .int .u16 r.at', .int .u16 r.many, .int .u16 r.to, .slice Aw nw cw, .slice Ab nb cb]) ∧
  Sl w' w'.heap.size Aw nw (ws r.words) ∧ Sl w' w'.heap.size Ab nb (bl r.bits) ∧ nw ≤ cw ∧ nb ≤ cb ∧ (∀ b o, Aw = some (⟨b, o, none⟩ : Addr) → w.heap.size ≤ b) ∧ (∀ b o, Ab = some (⟨b, o, none⟩ : Addr) → w.heap.size ≤ b) ∧ Below w.heap.size w w'
theorem keepB {w w' : World} {b o : Nat} {v : Value} (hbl : b < w.heap.size) (g : w.cell? ⟨b, o, none⟩ = some v) (h : Below w.heap.size w w') : Below w.heap.size w w' ∧ w'.cell? ⟨b, o, none⟩ = some v := ⟨h, (h.cell (p := ⟨b, o, none⟩) hbl).trans g⟩
/-- The world while a request is read: the fields at the first block, the result at the next, the request at k5, the bytes that are left at k6. -/
structure St (w W : World) (k5 k6 : Nat) (F Z cs : Array Value) (ys : List Nat) : Prop where
  bel : Below w.heap.size w W
  rf : W.heap[w.heap.size]? = some (.cells F 91 (0, 0))
  rz : W.heap[w.heap.size + 1]? = some (.cells Z 31 (0, 0))
  ra : W.heap[k5]? = some (.cells cs 31 (0, 0))
  rr : Rst W k6 w.heap.size ys
  ne : k5 ≠ k6
  h5 : w.heap.size + 2 ≤ k5
  h6 : w.heap.size + 2 ≤ k6
section
variable {w W W' : World} {k5 k6 i : Nat} {F Z cs : Array Value} {xs ys zs : List Nat}
theorem St.turn (S : St w W k5 k6 F Z cs ys) (g : W.grownBy W' (some k6)) (R : Rst W' k6 w.heap.size zs) : St w W' k5 k6 F Z cs zs :=
  ⟨S.bel.grown g S.bel.size (fun k hk => by injection hk with hk; have := S.h6; omega), g.row (by have := S.h6; omega) S.rf, g.row (by have := S.h6; omega) S.rz, g.row S.ne S.ra, R, S.ne, S.h5, S.h6⟩
theorem St.set (S : St w W k5 k6 F Z cs ys) (i : Nat) (v : Value) : St w (W.setCell ⟨k5, i, none⟩ v) k5 k6 F Z (cs.setIfInBounds i v) ys := by
  have g := grown_setCell W k5 i v
  have h5 := S.h5
  refine ⟨S.bel.setCell (by show _ ≤ k5; omega) v, g.row (by omega) S.rf, g.row (by omega) S.rz, heap_setCell_same W k5 i _ _ _ S.ra, ?_, S.ne, S.h5, S.h6⟩
  exact S.rr.keep g (by have := S.h6; omega) (fun e => by injection e with e; exact S.ne e) (fun r e => by injection e with e; omega)
theorem St.keep (S : St w W k5 k6 F Z cs ys) (b : Below W.heap.size W W') : St w W' k5 k6 F Z cs ys := by
  refine ⟨S.bel.call b, b.row (row_lt S.rf) S.rf, b.row (row_lt S.rz) S.rz, b.row (row_lt S.ra) S.ra, ?_, S.ne, S.h5, S.h6⟩
  obtain ⟨A, n, c, h, hs, hn⟩ := S.rr
  exact ⟨A, n, c, b.row (row_lt h) h, hs.keep (fun b' o hb => b.cell (p := ⟨b', o, none⟩) (Nat.lt_of_lt_of_le hb S.bel.size)), hn⟩
theorem num_drop (xs : List Nat) (i : Nat) : num (xs.drop i) 0 = num xs i := by simp [num, List.getElem?_drop]
theorem numberAt (S : St w W k5 k6 F Z cs (List.drop i xs)) (hx : Bytes xs) : Calls Try.prog 60 #[.pointer (some ⟨k6, 0, none⟩)] W fun e w' => e = .returned (.int .u16 ((num xs i : Nat) : Int)) ∧ St w w' k5 k6 F Z cs (xs.drop (i + 2)) := by
  refine (number_any k6 w.heap.size (xs.drop i) (hx.drop i) (by have := S.h6; omega) W S.rr).mono ?_
  rintro e w1 ⟨rfl, R, g⟩
  rw [num_drop]
  rw [List.drop_drop] at R
  exact ⟨rfl, S.turn g R⟩
theorem nextAt (S : St w W k5 k6 F Z cs (List.drop i xs)) : Calls Try.prog 62 #[.pointer (some ⟨k6, 0, none⟩)] W fun e w' => e = .returned (.int .u8 (((xs.drop i)[0]?.getD 0 : Nat) : Int)) ∧ St w w' k5 k6 F Z cs (xs.drop (i + 1)) := by
  refine (next_any k6 w.heap.size (xs.drop i) (by have := S.h6; omega) W S.rr).mono ?_
  rintro e w1 ⟨rfl, R, g⟩
  rw [List.drop_drop] at R
  exact ⟨rfl, S.turn g R⟩
theorem bitsAt (S : St w W k5 k6 F Z cs (List.drop i xs)) (hx : Bytes xs) (hlen : xs.length ≤ 1000) (n : Nat) : Calls Try.prog 63 #[.pointer (some ⟨k6, 0, none⟩), .int .i64 n] W fun e w' => ∃ A m c, e = .returned (.slice A m c) ∧ Sl w' w'.heap.size A m (bl ((unpack (xs.drop i)).take n)) ∧ (∀ b o, A = some (⟨b, o, none⟩ : Addr) → W.heap.size ≤ b) ∧ m ≤ c ∧ St w w' k5 k6 F Z cs (xs.drop i) := by
  refine (bits_any k6 w.heap.size (xs.drop i) (hx.drop i) (by simp; omega) (by have := S.h6; omega) W S.rr n).mono ?_
  rintro e w1 ⟨A, m, c, rfl, hs, hA, hm, b⟩
  exact ⟨A, m, c, rfl, hs, hA, hm, S.keep b⟩
theorem numbersAt (S : St w W k5 k6 F Z cs (List.drop i xs)) (hx : Bytes xs) (hlen : xs.length ≤ 1000) : Calls Try.prog 64 #[.pointer (some ⟨k6, 0, none⟩)] W fun e w' => ∃ A m c, e = .returned (.slice A m c) ∧ Sl w' w'.heap.size A m (ws (nums (xs.drop i))) ∧ (∀ b o, A = some (⟨b, o, none⟩ : Addr) → W.heap.size ≤ b) ∧ m ≤ c ∧ St w w' k5 k6 F Z cs [] := by
  refine (numbers_any w k6 w.heap.size (xs.drop i) (hx.drop i) (Nat.le_refl _) (by have := S.h6; omega) W S.bel S.rr (by simp; omega)).mono ?_
  rintro e w1 ⟨v, rfl, H, g, ho, R⟩
  obtain ⟨A, c, rfl, hc, hs, _⟩ := H.slice
  refine ⟨A, _, c, rfl, hs, fun b o h => ho b (by rw [h]; rfl), hc, S.turn g R⟩
theorem nat_bne (x : Nat) : ((x : Int) != 0) = (x != 0) := by rw [Bool.eq_iff_iff]; simp
theorem size2 (w : World) (o1 o2 : Obj) : ((w.alloc o1).alloc o2).heap.size = w.heap.size + 1 + 1 := by simp
theorem size3 (w : World) (o1 o2 o3 : Obj) : (((w.alloc o1).alloc o2).alloc o3).heap.size = w.heap.size + 1 + 1 + 1 := by simp
theorem St_new0 (w : World) (F Z X : Array Value) (Ar : Option Addr) (nr cr : Nat) (ys : List Nat) (hn : nr ≤ cr) (hr : Sl w w.heap.size Ar nr (bs ys)) :
    St w ((((w.alloc (.cells F 91)).alloc (.cells Z 31)).alloc (.cells X 31)).alloc (.cells #[.slice Ar nr cr] 118)).drew (w.heap.size + 1 + 1) (w.heap.size + 1 + 1 + 1) F Z X ys := by
  have b : Below w.heap.size w ((((w.alloc (.cells F 91)).alloc (.cells Z 31)).alloc (.cells X 31)).alloc (.cells #[.slice Ar nr cr] 118)).drew := ((((((Below.refl _ _).new _).new _).new _).new _)).drew
  have r3 := heap_alloc_new ((w.alloc (.cells F 91)).alloc (.cells Z 31)) (.cells X 31)
  have r4 := heap_alloc_new (((w.alloc (.cells F 91)).alloc (.cells Z 31)).alloc (.cells X 31)) (.cells #[.slice Ar nr cr] 118)
  rw [size2] at r3
  rw [size3] at r4
  exact ⟨b, row_alloc (row_alloc (row_alloc (heap_alloc_new w _) _) _) _, row_alloc (row_alloc (heap_alloc2_new w _ _) _) _, row_alloc r3 _, ⟨Ar, nr, cr, r4, hr.below b, hn⟩, by omega, by omega, by omega⟩
theorem St_new1 (w : World) (F Z X : Array Value) (Ar : Option Addr) (nr cr : Nat) (ys : List Nat) (hn : nr ≤ cr) (hr : Sl w w.heap.size Ar nr (bs ys)) :
    St w ((((w.alloc (.cells F 91)).alloc (.cells Z 31)).alloc (.cells #[.slice Ar nr cr] 118)).alloc (.cells X 31)).drew (w.heap.size + 1 + 1 + 1) (w.heap.size + 1 + 1) F Z X ys := by
  have b : Below w.heap.size w ((((w.alloc (.cells F 91)).alloc (.cells Z 31)).alloc (.cells #[.slice Ar nr cr] 118)).alloc (.cells X 31)).drew := ((((((Below.refl _ _).new _).new _).new _).new _)).drew
  have r3 := heap_alloc_new ((w.alloc (.cells F 91)).alloc (.cells Z 31)) (.cells #[.slice Ar nr cr] 118)
  have r4 := heap_alloc_new (((w.alloc (.cells F 91)).alloc (.cells Z 31)).alloc (.cells #[.slice Ar nr cr] 118)) (.cells X 31)
  rw [size2] at r3
  rw [size3] at r4
  exact ⟨b, row_alloc (row_alloc (row_alloc (heap_alloc_new w _) _) _) _, row_alloc (row_alloc (heap_alloc2_new w _ _) _) _, r4, ⟨Ar, nr, cr, row_alloc r3 _, hr.below b, hn⟩, by omega, by omega, by omega⟩
end
end Go.Proofs.Ytiibopdnlmnkmaa.AskW
