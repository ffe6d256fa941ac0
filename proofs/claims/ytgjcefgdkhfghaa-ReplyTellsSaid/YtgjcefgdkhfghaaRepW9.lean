/- The walk of saucierref03.Fits. -/
import Derived.Test.YtgjcefgdkhfghaaRepW8
import Derived.Test.YtgjcefgdkhfghaaRepW2
import Derived.Test.YtgjcefgdkhfghaaRepW1
import Derived.Test.YtgjcefgdkhfghaaRepEc
set_option linter.unusedVariables false
set_option linter.unusedSimpArgs false
namespace Go.Proofs.Ytgjcefgdkhfghaa.AskW
open Go.RowKit Go.Proofs.Ytgjcefgdkhfghaa Go.Proofs.Ytgjcefgdkhfghaa.Ask
theorem any_none {B : List Bool} {m : Nat} (h : ∀ j, m ≤ j → j < B.length → B[j]?.getD false = false) : (B.drop m).any id = false := by
  rw [List.any_eq_false]
  intro x hx
  obtain ⟨i, hi, e⟩ := List.mem_iff_getElem.1 hx
  rw [List.getElem_drop] at e
  rw [List.length_drop] at hi
  have := h (m + i) (by omega) (by omega)
  rw [List.getElem?_eq_getElem (by omega)] at this
  simp at this
  rw [← e]
  simp [this]
theorem any_some {B : List Bool} {m k : Nat} (h1 : m ≤ k) (h2 : B[k]?.getD false = true) : (B.drop m).any id = true := by
  refine any_get (k := k - m) ?_
  rw [List.getElem?_drop, show m + (k - m) = k by omega]
  exact h2
theorem repSameF_comm (r e : Rep) : repSameF r e = repSameF e r := by
  rw [Bool.eq_iff_iff, repSame_iff, repSame_iff]
  exact ⟨fun h => h.symm, fun h => h.symm⟩
theorem fits_words {q : Req} {r : Rep} (h1 : right q = true) (h2 : rright r = true) (h3 : q.f = r.f) (h4 : r.x = 0) (h5 : (echoF q).2 = false) (h6 : 2 < q.f) : fitsF q r = (r.words.length == q.many) := by
  have hf := right_fld h1
  have hn := echo_is h1
  rw [h5] at hn
  have hn := of_decide_eq_false hn.symm
  obtain ⟨f, x, B, W, a, m⟩ := r
  dsimp only at h3 h4 ⊢
  subst h4
  have hw : 0 < W.length := by
    have hf2 : f = 3 ∨ f = 4 ∨ f = 23 := by omega
    rcases hf2 with rfl | rfl | rfl <;> simp [rright, kdOf, kdBy, Kd.right] at h2 <;> omega
  unfold fitsF
  rw [h1, h2, h5, h3]
  simp [hw]
theorem fits_bits {q : Req} {r : Rep} (h1 : right q = true) (h2 : rright r = true) (h3 : q.f = r.f) (h4 : r.x = 0) (h6 : ¬ 2 < q.f) : fitsF q r = (decide (q.many ≤ r.bits.length) && decide (r.bits.length < q.many + 8) && !((r.bits.drop q.many).any id)) ∧ r.bits.length ≤ 2000 ∧ (echoF q).2 = false := by
  have hf := right_fld h1
  have hn : (echoF q).2 = false := by rw [echo_is h1, decide_eq_false_iff_not]; omega
  obtain ⟨f, x, B, W, a, m⟩ := r
  dsimp only at h3 h4 ⊢
  subst h4
  have hw : W = [] ∧ B.length % 8 = 0 ∧ B.length ≤ 2000 := by
    have hf2 : f = 1 ∨ f = 2 := by omega
    rcases hf2 with rfl | rfl <;> simp [rright, kdOf, kdBy, Kd.right] at h2 <;> exact ⟨h2.2.2.2.2.2, h2.2.2.1, h2.2.1⟩
  refine ⟨?_, hw.2.2, hn⟩
  have e : (B.length == (q.many + 7) / 8 * 8) = (decide (q.many ≤ B.length) && decide (B.length < q.many + 8)) := by
    rw [Bool.eq_iff_iff]; simp; omega
  unfold fitsF
  rw [h1, h2, hn, h3, hw.1]
  simp [← e]
theorem fits_f {q : Req} {r : Rep} (h : q.f ≠ r.f) : fitsF q r = false := by
  unfold fitsF
  rw [show (q.f == r.f) = false by rw [beq_eq_false_iff_ne]; exact h, Bool.false_and, Bool.and_false, Bool.and_false]
theorem fits_x {q : Req} {r : Rep} (h1 : right q = true) (h2 : rright r = true) (h3 : q.f = r.f) (h4 : r.x ≠ 0) : fitsF q r = true := by
  unfold fitsF
  rw [h1, h2, h3]
  simp [h4]
theorem fits_is {q : Req} {r : Rep} (h1 : right q = true) (h2 : rright r = true) (h3 : q.f = r.f) (h4 : r.x = 0) (h5 : (echoF q).2 = true) : fitsF q r = repSameF (echoF q).1 r := by
  unfold fitsF
  rw [h1, h2, h3, h4, h5, repSameF_comm]
  simp
theorem fits_r {q : Req} {r : Rep} (h2 : rright r = false) : fitsF q r = false := by
  unfold fitsF
  rw [h2, Bool.false_and, Bool.and_false]
set_option maxRecDepth 100000 in
set_option maxHeartbeats 3000000 in
theorem ref3Fits_any (f a m t : Nat) (Aw : Option Addr) (nw cw : Nat) (Ab : Option Addr) (nb cb : Nat) (W : List Nat) (B : List Bool) (f2 x2 : Nat) (Ab2 : Option Addr) (nb2 cb2 : Nat) (Aw2 : Option Addr) (nw2 cw2 : Nat) (a2 m2 : Nat) (B2 : List Bool) (W2 : List Nat) (w : World)
    (hW : Sl w w.heap.size Aw nw (ws W)) (hB : Sl w w.heap.size Ab nb (bl B)) (hwf : Req.Wf ⟨f, a, m, t, W, B⟩) (kW : nw ≤ 100000) (kB : nb ≤ 100000)
    (hB2 : Sl w w.heap.size Ab2 nb2 (bl B2)) (hW2 : Sl w w.heap.size Aw2 nw2 (ws W2)) (kB2 : nb2 ≤ 100000) (kW2 : nw2 ≤ 100000) :
    Calls Try.prog 24 #[.agg #[.int .u8 f, .int .u16 a, .int .u16 m, .int .u16 t, .slice Aw nw cw, .slice Ab nb cb], .agg #[.int .u8 f2, .int .u8 x2, .slice Ab2 nb2 cb2, .slice Aw2 nw2 cw2, .int .u16 a2, .int .u16 m2]] w fun e w' => e = .returned (.bool (fitsF ⟨f, a, m, t, W, B⟩ ⟨f2, x2, B2, W2, a2, m2⟩)) ∧ Below w.heap.size w w' := by
  have qW : W.length = nw := by simpa using hW.len
  have qB : B.length = nb := by simpa using hB.len
  have qW2 : W2.length = nw2 := by simpa using hW2.len
  have qB2 : B2.length = nb2 := by simpa using hB2.len
  have hm := hwf.many
  dsimp only at hm
  have wm := w64 (show m ≤ 9223372036854775807 by omega)
  have hb0 : Below w.heap.size w ((w.alloc (.cells #[.int .u8 f, .int .u16 a, .int .u16 m, .int .u16 t, .slice Aw nw cw, .slice Ab nb cb] 28)).alloc (.cells #[.int .u8 f2, .int .u8 x2, .slice Ab2 nb2 cb2, .slice Aw2 nw2 cw2, .int .u16 a2, .int .u16 m2] 26)) := ((Below.refl _ _).new _).new _
  have ra0 := row_alloc (heap_alloc_new w (.cells #[.int .u8 f, .int .u16 a, .int .u16 m, .int .u16 t, .slice Aw nw cw, .slice Ab nb cb] 28)) (.cells #[.int .u8 f2, .int .u8 x2, .slice Ab2 nb2 cb2, .slice Aw2 nw2 cw2, .int .u16 a2, .int .u16 m2] 26)
  have ro0 := heap_alloc2_new w (.cells #[.int .u8 f, .int .u16 a, .int .u16 m, .int .u16 t, .slice Aw nw cw, .slice Ab nb cb] 28) (.cells #[.int .u8 f2, .int .u8 x2, .slice Ab2 nb2 cb2, .slice Aw2 nw2 cw2, .int .u16 a2, .int .u16 m2] 26)
  have HRA0 := Lib.hid ra0
  have HRO0 := Lib.hid ro0
  have KA0 := fun X => refRight_any f a m t Aw nw cw Ab nb cb W B qW qB hm X
  have KR0 := fun X => ref3Right_any f2 x2 Ab2 nb2 cb2 Aw2 nw2 cw2 a2 m2 B2 W2 qW2 qB2 X
  have KE0 := fun X (b : Below w.heap.size w X) => ref3Echo_any f a m t Aw nw cw Ab nb cb W B X (hW.to b) (hB.to b) hwf
  have hsm := echo_small ⟨f, a, m, t, W, B⟩ (by dsimp only; omega) (by dsimp only; omega)
  obtain ⟨P, hP⟩ : ∃ P, P = fitsF ⟨f, a, m, t, W, B⟩ ⟨f2, x2, B2, W2, a2, m2⟩ := ⟨_, rfl⟩
  rw [← hP]
  have HSB := Lib.hid hB2
  have HSW := Lib.hid hW2
  clear ra0 ro0
  cases hr : right ⟨f, a, m, t, W, B⟩
  · have HP := Lib.hid (show P = false from by rw [hP, fits_not hr])
    rw [hr] at KA0
    have KA := Lib.hid KA0
    clear KA0 KR0 KE0 hP hr hsm qW qB qW2 qB2 hW hB hB2 hW2 hwf
    go_enter Try.func24, Try.ntmps24
    go_wp2_with fail
    refine (KA.out _).mono ?_
    rintro e w1 ⟨rfl, b1⟩
    have ra := b1.row (row_lt HRA0.out) HRA0.out
    have ro := b1.row (row_lt HRO0.out) HRO0.out
    have hb := hb0.call b1
    clear b1
    obtain ⟨c0, c1, c2, c3, c4, c5⟩ := row6 ra
    obtain ⟨d0, d1, d2, d3, d4, d5⟩ := row6 ro
    go_wp2_with fail
    go_ret
    exact ⟨ret_bool (by rw [HP.out]), hb⟩
  rw [hr] at KA0
  have KA := Lib.hid KA0
  cases hr2 : rright ⟨f2, x2, B2, W2, a2, m2⟩
  · have HP := Lib.hid (show P = false from by rw [hP, fits_r hr2])
    rw [hr2] at KR0
    have KR := Lib.hid KR0
    clear KA0 KR0 KE0 hP hr hr2 hsm qW qB qW2 qB2 hW hB hB2 hW2 hwf
    go_enter Try.func24, Try.ntmps24
    go_wp2_with fail
    refine (KA.out _).mono ?_
    rintro e w1 ⟨rfl, b1⟩
    have ra := b1.row (row_lt HRA0.out) HRA0.out
    have ro := b1.row (row_lt HRO0.out) HRO0.out
    have hb := hb0.call b1
    clear b1
    obtain ⟨c0, c1, c2, c3, c4, c5⟩ := row6 ra
    obtain ⟨d0, d1, d2, d3, d4, d5⟩ := row6 ro
    go_wp2_with fail
    refine (KR.out _).mono ?_
    rintro e w2 ⟨rfl, b2⟩
    have ra := b2.row (row_lt ra) ra
    have ro := b2.row (row_lt ro) ro
    have hb := hb.call b2
    clear b2 c0 c1 c2 c3 c4 c5 d0 d1 d2 d3 d4 d5
    obtain ⟨c0, c1, c2, c3, c4, c5⟩ := row6 ra
    obtain ⟨d0, d1, d2, d3, d4, d5⟩ := row6 ro
    go_wp2_with fail
    go_ret
    exact ⟨ret_bool (by rw [HP.out]), hb⟩
  rw [hr2] at KR0
  have KR := Lib.hid KR0
  by_cases hf : f = f2
  case neg =>
    have HP := Lib.hid (show P = false from by rw [hP, fits_f (by dsimp only; exact hf)])
    have hfT : ((f : Int) != (f2 : Int)) = true := by rw [bne_iff_ne]; omega
    clear KA0 KR0 KE0 hP hr hr2 hsm hf qW qB qW2 qB2 hW hB hB2 hW2 hwf
    go_enter Try.func24, Try.ntmps24
    go_wp2_with fail
    refine (KA.out _).mono ?_
    rintro e w1 ⟨rfl, b1⟩
    have ra := b1.row (row_lt HRA0.out) HRA0.out
    have ro := b1.row (row_lt HRO0.out) HRO0.out
    have hb := hb0.call b1
    clear b1
    obtain ⟨c0, c1, c2, c3, c4, c5⟩ := row6 ra
    obtain ⟨d0, d1, d2, d3, d4, d5⟩ := row6 ro
    go_wp2_with fail
    refine (KR.out _).mono ?_
    rintro e w2 ⟨rfl, b2⟩
    have ra := b2.row (row_lt ra) ra
    have ro := b2.row (row_lt ro) ro
    have hb := hb.call b2
    clear b2 c0 c1 c2 c3 c4 c5 d0 d1 d2 d3 d4 d5
    obtain ⟨c0, c1, c2, c3, c4, c5⟩ := row6 ra
    obtain ⟨d0, d1, d2, d3, d4, d5⟩ := row6 ro
    go_wp2_with fail
    go_ret
    exact ⟨ret_bool (by rw [HP.out]), hb⟩
  subst hf
  by_cases hx : x2 = 0
  case neg =>
    have HP := Lib.hid (show P = true from by rw [hP, fits_x hr hr2 rfl (by dsimp only; exact hx)])
    have hxT : ((x2 : Int) != 0) = true := by rw [bne_iff_ne]; omega
    clear KA0 KR0 KE0 hP hr hr2 hsm hx qW qB qW2 qB2 hW hB hB2 hW2 hwf
    go_enter Try.func24, Try.ntmps24
    go_wp2_with fail
    refine (KA.out _).mono ?_
    rintro e w1 ⟨rfl, b1⟩
    have ra := b1.row (row_lt HRA0.out) HRA0.out
    have ro := b1.row (row_lt HRO0.out) HRO0.out
    have hb := hb0.call b1
    clear b1
    obtain ⟨c0, c1, c2, c3, c4, c5⟩ := row6 ra
    obtain ⟨d0, d1, d2, d3, d4, d5⟩ := row6 ro
    go_wp2_with fail
    refine (KR.out _).mono ?_
    rintro e w2 ⟨rfl, b2⟩
    have ra := b2.row (row_lt ra) ra
    have ro := b2.row (row_lt ro) ro
    have hb := hb.call b2
    clear b2 c0 c1 c2 c3 c4 c5 d0 d1 d2 d3 d4 d5
    obtain ⟨c0, c1, c2, c3, c4, c5⟩ := row6 ra
    obtain ⟨d0, d1, d2, d3, d4, d5⟩ := row6 ro
    go_wp2_with fail
    go_ret
    exact ⟨ret_bool (by rw [HP.out]), hb⟩
  have hxT : ((x2 : Int) != 0) = false := by rw [bne_eq_false_iff_eq]; omega
  have hPi := fits_is (q := ⟨f, a, m, t, W, B⟩) (r := ⟨f, x2, B2, W2, a2, m2⟩) hr hr2 rfl (by dsimp only; exact hx)
  have hPw := fits_words (q := ⟨f, a, m, t, W, B⟩) (r := ⟨f, x2, B2, W2, a2, m2⟩) hr hr2 rfl (by dsimp only; exact hx)
  have hPb := fits_bits (q := ⟨f, a, m, t, W, B⟩) (r := ⟨f, x2, B2, W2, a2, m2⟩) hr hr2 rfl (by dsimp only; exact hx)
  rw [← hP] at hPi hPw hPb
  obtain ⟨E, hE⟩ : ∃ E, E = echoF ⟨f, a, m, t, W, B⟩ := ⟨_, rfl⟩
  rw [← hE] at hPi hPw hPb KE0 hsm
  obtain ⟨⟨e1, e2, e3, e4, e5, e6⟩, is⟩ := E
  dsimp only at hPi hPw hPb hsm
  have KE := Lib.hid KE0
  have HSM := Lib.hid hsm
  clear KA0 KR0 KE0 hE hsm hx hr hr2 hP
  cases is
  case true =>
    have HP := Lib.hid (show P = (e1 == f && e2 == x2 && e5 == a2 && e6 == m2 && e3 == B2 && e4 == W2) from hPi rfl)
    clear hPi hPw hPb qW qB hW hB hB2 hW2 hwf
    go_enter Try.func24, Try.ntmps24
    go_wp2_with fail
    refine (KA.out _).mono ?_
    rintro e w1 ⟨rfl, b1⟩
    have ra := b1.row (row_lt HRA0.out) HRA0.out
    have ro := b1.row (row_lt HRO0.out) HRO0.out
    have hb := hb0.call b1
    clear b1
    obtain ⟨c0, c1, c2, c3, c4, c5⟩ := row6 ra
    obtain ⟨d0, d1, d2, d3, d4, d5⟩ := row6 ro
    go_wp2_with fail
    refine (KR.out _).mono ?_
    rintro e w2 ⟨rfl, b2⟩
    have ra := b2.row (row_lt ra) ra
    have ro := b2.row (row_lt ro) ro
    have hb := hb.call b2
    clear b2 c0 c1 c2 c3 c4 c5 d0 d1 d2 d3 d4 d5
    obtain ⟨c0, c1, c2, c3, c4, c5⟩ := row6 ra
    obtain ⟨d0, d1, d2, d3, d4, d5⟩ := row6 ro
    go_wp2_with fail
    refine (KE.out _ hb).mono ?_
    rintro e w3 ⟨pAb, pnb, pcb, pAw, pnw, pcw, rfl, PB, PW, _, _, _, _, b3⟩
    dsimp only at PB PW ⊢
    have bn := b3.new (.cells #[.int .u8 (e1 : Nat), .int .u8 (e2 : Nat), .slice pAb pnb pcb, .slice pAw pnw pcw, .int .u16 (e5 : Nat), .int .u16 (e6 : Nat)] 26)
    have rp := heap_alloc_new w3 (.cells #[.int .u8 (e1 : Nat), .int .u8 (e2 : Nat), .slice pAb pnb pcb, .slice pAw pnw pcw, .int .u16 (e5 : Nat), .int .u16 (e6 : Nat)] 26)
    have PB := PB.to ((Below.refl _ _).new (.cells #[.int .u8 (e1 : Nat), .int .u8 (e2 : Nat), .slice pAb pnb pcb, .slice pAw pnw pcw, .int .u16 (e5 : Nat), .int .u16 (e6 : Nat)] 26))
    have PW := PW.to ((Below.refl _ _).new (.cells #[.int .u8 (e1 : Nat), .int .u8 (e2 : Nat), .slice pAb pnb pcb, .slice pAw pnw pcw, .int .u16 (e5 : Nat), .int .u16 (e6 : Nat)] 26))
    have ra := bn.row (row_lt ra) ra
    have ro := bn.row (row_lt ro) ro
    have hb := hb.call bn
    clear bn b3 c0 c1 c2 c3 c4 c5 d0 d1 d2 d3 d4 d5
    obtain ⟨c0, c1, c2, c3, c4, c5⟩ := row6 ra
    obtain ⟨d0, d1, d2, d3, d4, d5⟩ := row6 ro
    obtain ⟨g0, g1, g2, g3, g4, g5⟩ := row6 rp
    have KS := Lib.hid (ref3Same_any e1 e2 e5 e6 pAw pnw pcw pAb pnb pcb f x2 a2 m2 Aw2 nw2 cw2 Ab2 nb2 cb2 e4 W2 e3 B2 _ PW PB (HSW.out.to hb) (HSB.out.to hb) (by have := PW.len; simp at this; have := HSM.out; omega) (by have := PB.len; simp at this; have := HSM.out; omega) (by omega) (by omega))
    clear PB PW qW2 qB2
    go_wp2_with fail
    refine KS.out.mono ?_
    rintro e w4 ⟨rfl, b4⟩
    have hb := hb.call b4
    go_wp2_with fail
    go_ret
    refine ⟨ret_bool ?_, hb⟩
    rw [HP.out, Bool.and_assoc, Bool.and_assoc, Bool.and_comm (e4 == W2), ← Bool.and_assoc, ← Bool.and_assoc]
  case false =>
    by_cases h2 : (2 : Int) < (f : Int)
    · have HP := Lib.hid (show P = (nw2 == m) from by rw [hPw rfl (by omega), qW2])
      have hnb := Lib.hid (nat_beq nw2 m)
      clear hPi hPw hPb qW qB qW2 qB2 hW hB hB2 hW2 hwf
      go_enter Try.func24, Try.ntmps24
      go_wp2_with fail
      refine (KA.out _).mono ?_
      rintro e w1 ⟨rfl, b1⟩
      have ra := b1.row (row_lt HRA0.out) HRA0.out
      have ro := b1.row (row_lt HRO0.out) HRO0.out
      have hb := hb0.call b1
      clear b1
      obtain ⟨c0, c1, c2, c3, c4, c5⟩ := row6 ra
      obtain ⟨d0, d1, d2, d3, d4, d5⟩ := row6 ro
      go_wp2_with fail
      refine (KR.out _).mono ?_
      rintro e w2 ⟨rfl, b2⟩
      have ra := b2.row (row_lt ra) ra
      have ro := b2.row (row_lt ro) ro
      have hb := hb.call b2
      clear b2 c0 c1 c2 c3 c4 c5 d0 d1 d2 d3 d4 d5
      obtain ⟨c0, c1, c2, c3, c4, c5⟩ := row6 ra
      obtain ⟨d0, d1, d2, d3, d4, d5⟩ := row6 ro
      go_wp2_with fail
      refine (KE.out _ hb).mono ?_
      rintro e w3 ⟨pAb, pnb, pcb, pAw, pnw, pcw, rfl, PB, PW, _, _, _, _, b3⟩
      dsimp only at PB PW ⊢
      have bn := b3.new (.cells #[.int .u8 (e1 : Nat), .int .u8 (e2 : Nat), .slice pAb pnb pcb, .slice pAw pnw pcw, .int .u16 (e5 : Nat), .int .u16 (e6 : Nat)] 26)
      have rp := heap_alloc_new w3 (.cells #[.int .u8 (e1 : Nat), .int .u8 (e2 : Nat), .slice pAb pnb pcb, .slice pAw pnw pcw, .int .u16 (e5 : Nat), .int .u16 (e6 : Nat)] 26)
      have PB := PB.to ((Below.refl _ _).new (.cells #[.int .u8 (e1 : Nat), .int .u8 (e2 : Nat), .slice pAb pnb pcb, .slice pAw pnw pcw, .int .u16 (e5 : Nat), .int .u16 (e6 : Nat)] 26))
      have PW := PW.to ((Below.refl _ _).new (.cells #[.int .u8 (e1 : Nat), .int .u8 (e2 : Nat), .slice pAb pnb pcb, .slice pAw pnw pcw, .int .u16 (e5 : Nat), .int .u16 (e6 : Nat)] 26))
      have ra := bn.row (row_lt ra) ra
      have ro := bn.row (row_lt ro) ro
      have hb := hb.call bn
      clear bn b3 c0 c1 c2 c3 c4 c5 d0 d1 d2 d3 d4 d5
      obtain ⟨c0, c1, c2, c3, c4, c5⟩ := row6 ra
      obtain ⟨d0, d1, d2, d3, d4, d5⟩ := row6 ro
      obtain ⟨g0, g1, g2, g3, g4, g5⟩ := row6 rp
      clear PB PW
      go_wp2_with fail
      go_ret
      exact ⟨ret_bool (by rw [HP.out, hnb.out]), hb⟩
    · obtain ⟨hPb1, hPb2, _⟩ := hPb (by omega)
      rw [qB2] at hPb1 hPb2
      by_cases k1 : (nb2 : Int) < (m : Int)
      · have HP := Lib.hid (show P = false from by rw [hPb1, decide_eq_false (by omega)]; rfl)
        clear hPi hPw hPb hPb1 hPb2 qW qB qW2 qB2 hW hB hB2 hW2 hwf
        go_enter Try.func24, Try.ntmps24
        go_wp2_with fail
        refine (KA.out _).mono ?_
        rintro e w1 ⟨rfl, b1⟩
        have ra := b1.row (row_lt HRA0.out) HRA0.out
        have ro := b1.row (row_lt HRO0.out) HRO0.out
        have hb := hb0.call b1
        clear b1
        obtain ⟨c0, c1, c2, c3, c4, c5⟩ := row6 ra
        obtain ⟨d0, d1, d2, d3, d4, d5⟩ := row6 ro
        go_wp2_with fail
        refine (KR.out _).mono ?_
        rintro e w2 ⟨rfl, b2⟩
        have ra := b2.row (row_lt ra) ra
        have ro := b2.row (row_lt ro) ro
        have hb := hb.call b2
        clear b2 c0 c1 c2 c3 c4 c5 d0 d1 d2 d3 d4 d5
        obtain ⟨c0, c1, c2, c3, c4, c5⟩ := row6 ra
        obtain ⟨d0, d1, d2, d3, d4, d5⟩ := row6 ro
        go_wp2_with fail
        refine (KE.out _ hb).mono ?_
        rintro e w3 ⟨pAb, pnb, pcb, pAw, pnw, pcw, rfl, PB, PW, _, _, _, _, b3⟩
        dsimp only at PB PW ⊢
        have bn := b3.new (.cells #[.int .u8 (e1 : Nat), .int .u8 (e2 : Nat), .slice pAb pnb pcb, .slice pAw pnw pcw, .int .u16 (e5 : Nat), .int .u16 (e6 : Nat)] 26)
        have rp := heap_alloc_new w3 (.cells #[.int .u8 (e1 : Nat), .int .u8 (e2 : Nat), .slice pAb pnb pcb, .slice pAw pnw pcw, .int .u16 (e5 : Nat), .int .u16 (e6 : Nat)] 26)
        have PB := PB.to ((Below.refl _ _).new (.cells #[.int .u8 (e1 : Nat), .int .u8 (e2 : Nat), .slice pAb pnb pcb, .slice pAw pnw pcw, .int .u16 (e5 : Nat), .int .u16 (e6 : Nat)] 26))
        have PW := PW.to ((Below.refl _ _).new (.cells #[.int .u8 (e1 : Nat), .int .u8 (e2 : Nat), .slice pAb pnb pcb, .slice pAw pnw pcw, .int .u16 (e5 : Nat), .int .u16 (e6 : Nat)] 26))
        have ra := bn.row (row_lt ra) ra
        have ro := bn.row (row_lt ro) ro
        have hb := hb.call bn
        clear bn b3 c0 c1 c2 c3 c4 c5 d0 d1 d2 d3 d4 d5
        obtain ⟨c0, c1, c2, c3, c4, c5⟩ := row6 ra
        obtain ⟨d0, d1, d2, d3, d4, d5⟩ := row6 ro
        obtain ⟨g0, g1, g2, g3, g4, g5⟩ := row6 rp
        clear PB PW
        go_wp2_with fail
        go_ret
        exact ⟨ret_bool (by rw [HP.out]), hb⟩
      have hw8 : IntKind.i64.wrap ((m : Int) + 8) = (m : Int) + 8 := by rw [IntKind.wrap_i64]; omega
      by_cases k2 : (m : Int) + 8 ≤ (nb2 : Int)
      · have HP := Lib.hid (show P = false from by rw [hPb1, decide_eq_false (show ¬ nb2 < m + 8 by omega), Bool.and_false]; rfl)
        clear hPi hPw hPb hPb1 hPb2 qW qB qW2 qB2 hW hB hB2 hW2 hwf
        go_enter Try.func24, Try.ntmps24
        go_wp2_with fail
        refine (KA.out _).mono ?_
        rintro e w1 ⟨rfl, b1⟩
        have ra := b1.row (row_lt HRA0.out) HRA0.out
        have ro := b1.row (row_lt HRO0.out) HRO0.out
        have hb := hb0.call b1
        clear b1
        obtain ⟨c0, c1, c2, c3, c4, c5⟩ := row6 ra
        obtain ⟨d0, d1, d2, d3, d4, d5⟩ := row6 ro
        go_wp2_with fail
        refine (KR.out _).mono ?_
        rintro e w2 ⟨rfl, b2⟩
        have ra := b2.row (row_lt ra) ra
        have ro := b2.row (row_lt ro) ro
        have hb := hb.call b2
        clear b2 c0 c1 c2 c3 c4 c5 d0 d1 d2 d3 d4 d5
        obtain ⟨c0, c1, c2, c3, c4, c5⟩ := row6 ra
        obtain ⟨d0, d1, d2, d3, d4, d5⟩ := row6 ro
        go_wp2_with fail
        refine (KE.out _ hb).mono ?_
        rintro e w3 ⟨pAb, pnb, pcb, pAw, pnw, pcw, rfl, PB, PW, _, _, _, _, b3⟩
        dsimp only at PB PW ⊢
        have bn := b3.new (.cells #[.int .u8 (e1 : Nat), .int .u8 (e2 : Nat), .slice pAb pnb pcb, .slice pAw pnw pcw, .int .u16 (e5 : Nat), .int .u16 (e6 : Nat)] 26)
        have rp := heap_alloc_new w3 (.cells #[.int .u8 (e1 : Nat), .int .u8 (e2 : Nat), .slice pAb pnb pcb, .slice pAw pnw pcw, .int .u16 (e5 : Nat), .int .u16 (e6 : Nat)] 26)
        have PB := PB.to ((Below.refl _ _).new (.cells #[.int .u8 (e1 : Nat), .int .u8 (e2 : Nat), .slice pAb pnb pcb, .slice pAw pnw pcw, .int .u16 (e5 : Nat), .int .u16 (e6 : Nat)] 26))
        have PW := PW.to ((Below.refl _ _).new (.cells #[.int .u8 (e1 : Nat), .int .u8 (e2 : Nat), .slice pAb pnb pcb, .slice pAw pnw pcw, .int .u16 (e5 : Nat), .int .u16 (e6 : Nat)] 26))
        have ra := bn.row (row_lt ra) ra
        have ro := bn.row (row_lt ro) ro
        have hb := hb.call bn
        clear bn b3 c0 c1 c2 c3 c4 c5 d0 d1 d2 d3 d4 d5
        obtain ⟨c0, c1, c2, c3, c4, c5⟩ := row6 ra
        obtain ⟨d0, d1, d2, d3, d4, d5⟩ := row6 ro
        obtain ⟨g0, g1, g2, g3, g4, g5⟩ := row6 rp
        clear PB PW
        go_wp2_with fail
        go_ret
        exact ⟨ret_bool (by rw [HP.out]), hb⟩
      have HP := Lib.hid (show P = !((B2.drop m).any id) from by rw [hPb1, decide_eq_true (by omega), decide_eq_true (by omega)]; rfl)
      have HQB := Lib.hid qB2
      clear hPi hPw hPb hPb1 qW qB qW2 qB2 hW hB hB2 hW2 hwf
      go_enter Try.func24, Try.ntmps24
      go_wp2_with fail
      refine (KA.out _).mono ?_
      rintro e w1 ⟨rfl, b1⟩
      have ra := b1.row (row_lt HRA0.out) HRA0.out
      have ro := b1.row (row_lt HRO0.out) HRO0.out
      have hb := hb0.call b1
      clear b1
      obtain ⟨c0, c1, c2, c3, c4, c5⟩ := row6 ra
      obtain ⟨d0, d1, d2, d3, d4, d5⟩ := row6 ro
      go_wp2_with fail
      refine (KR.out _).mono ?_
      rintro e w2 ⟨rfl, b2⟩
      have ra := b2.row (row_lt ra) ra
      have ro := b2.row (row_lt ro) ro
      have hb := hb.call b2
      clear b2 c0 c1 c2 c3 c4 c5 d0 d1 d2 d3 d4 d5
      obtain ⟨c0, c1, c2, c3, c4, c5⟩ := row6 ra
      obtain ⟨d0, d1, d2, d3, d4, d5⟩ := row6 ro
      go_wp2_with fail
      refine (KE.out _ hb).mono ?_
      rintro e w3 ⟨pAb, pnb, pcb, pAw, pnw, pcw, rfl, PB, PW, _, _, _, _, b3⟩
      dsimp only at PB PW ⊢
      have bn := b3.new (.cells #[.int .u8 (e1 : Nat), .int .u8 (e2 : Nat), .slice pAb pnb pcb, .slice pAw pnw pcw, .int .u16 (e5 : Nat), .int .u16 (e6 : Nat)] 26)
      have rp := heap_alloc_new w3 (.cells #[.int .u8 (e1 : Nat), .int .u8 (e2 : Nat), .slice pAb pnb pcb, .slice pAw pnw pcw, .int .u16 (e5 : Nat), .int .u16 (e6 : Nat)] 26)
      have PB := PB.to ((Below.refl _ _).new (.cells #[.int .u8 (e1 : Nat), .int .u8 (e2 : Nat), .slice pAb pnb pcb, .slice pAw pnw pcw, .int .u16 (e5 : Nat), .int .u16 (e6 : Nat)] 26))
      have PW := PW.to ((Below.refl _ _).new (.cells #[.int .u8 (e1 : Nat), .int .u8 (e2 : Nat), .slice pAb pnb pcb, .slice pAw pnw pcw, .int .u16 (e5 : Nat), .int .u16 (e6 : Nat)] 26))
      have ra := bn.row (row_lt ra) ra
      have ro := bn.row (row_lt ro) ro
      have hb := hb.call bn
      clear bn b3 c0 c1 c2 c3 c4 c5 d0 d1 d2 d3 d4 d5
      obtain ⟨c0, c1, c2, c3, c4, c5⟩ := row6 ra
      obtain ⟨d0, d1, d2, d3, d4, d5⟩ := row6 ro
      obtain ⟨g0, g1, g2, g3, g4, g5⟩ := row6 rp
      have S2 := Lib.hid (HSB.out.to hb)
      clear PB PW
      go_wp2_with fail
      go_loop [8] (fun i => ∃ k : Nat, m ≤ k ∧ k ≤ nb2 ∧ i = .int .i64 k ∧ ∀ j, m ≤ j → j < k → B2[j]?.getD false = false) (fun i => nb2 - (intOf i).toNat)
      case atStart => exact ⟨m, Nat.le_refl _, by omega, rfl, fun j h1 h2 => by omega⟩
      case round =>
        obtain ⟨k, hk1, hk2, rfl, hall⟩ := hrel
        have HALL := Lib.hid hall
        clear hall
        by_cases hlt : k < nb2
        · obtain ⟨b, o, rfl, hbl, cc⟩ := S2.out.2 (by omega)
          have gk := (cc k hlt).trans (bl_get (by rw [HQB.out]; exact hlt))
          clear cc
          have z0 : (0 : Int) ≤ (k : Int) := by omega
          have z1 : (k : Int) < (nb2 : Int) := by omega
          cases hy : B2[k]?.getD false
          · rw [hy] at gk
            have HY := Lib.hid hy
            clear hy
            go_wp2_with fail
            go_round
            case rel => exact ⟨k + 1, by omega, by omega, by go_num, fun j h1 h2 => by
              by_cases h : j = k
              · rw [h]; exact HY.out
              · exact HALL.out j h1 (by omega)⟩
            case measure => simp [intOf]; omega
          · rw [hy] at gk
            have HY := Lib.hid (any_some hk1 hy)
            clear hy
            go_wp2_with fail
            go_ret
            exact ⟨ret_bool (by rw [HP.out, HY.out]; rfl), hb⟩
        · obtain rfl : k = nb2 := by omega
          have HY := Lib.hid (any_none (B := B2) (m := m) (fun j h1 h2 => HALL.out j h1 (by rw [HQB.out] at h2; exact h2)))
          go_wp2_with fail
          go_ret
          exact ⟨ret_bool (by rw [HP.out, HY.out]; rfl), hb⟩
end Go.Proofs.Ytgjcefgdkhfghaa.AskW
