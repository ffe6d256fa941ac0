/- The walk of reply.Fits. -/
import Derived.Test.YtiibopdnlmnkmaaRepH
import Derived.Test.YtiibopdnlmnkmaaRepJ
set_option linter.unusedVariables false
set_option linter.unusedSimpArgs false
namespace Go.Proofs.Ytiibopdnlmnkmaa.AskW
open Go.RowKit Go.Proofs.Ytiibopdnlmnkmaa Go.Proofs.Ytiibopdnlmnkmaa.Ask
def repSameF (r e : Rep) : Bool := r.f == e.f && r.x == e.x && r.at' == e.at' && r.many == e.many && r.bits == e.bits && r.words == e.words
/-- Does a reply fit a request? -/
def fitsF (q : Req) (r : Rep) : Bool :=
  right q && (rright r && (q.f == r.f && (r.x != 0 ||
    (if (echoF q).2 then repSameF r (echoF q).1
     else if 0 < r.words.length then r.words.length == q.many
     else r.bits.length == (q.many + 7) / 8 * 8 && !((r.bits.drop q.many).any id)))))
theorem echo_small (q : Req) (h1 : q.words.length ≤ 100000) (h2 : q.bits.length ≤ 100000) : (echoF q).1.bits.length ≤ 100000 ∧ (echoF q).1.words.length ≤ 100000 := by
  unfold echoF
  repeat' split
  all_goals simp [rep0] <;> omega
set_option maxRecDepth 100000 in
set_option maxHeartbeats 16000000 in
theorem fits2_any (f a m t : Nat) (Aw : Option Addr) (nw cw : Nat) (Ab : Option Addr) (nb cb : Nat) (W : List Nat) (B : List Bool) (f2 x2 : Nat) (Ab2 : Option Addr) (nb2 cb2 : Nat) (Aw2 : Option Addr) (nw2 cw2 : Nat) (a2 m2 : Nat) (B2 : List Bool) (W2 : List Nat) (w : World)
    (hW : Sl w w.heap.size Aw nw (ws W)) (hB : Sl w w.heap.size Ab nb (bl B)) (hwf : Req.Wf ⟨f, a, m, t, W, B⟩) (kW : nw ≤ 100000) (kB : nb ≤ 100000)
    (hB2 : Sl w w.heap.size Ab2 nb2 (bl B2)) (hW2 : Sl w w.heap.size Aw2 nw2 (ws W2)) (kB2 : nb2 ≤ 100000) (kW2 : nw2 ≤ 100000) (hc2 : nb2 ≤ cb2) :
    Calls Try.prog 15 #[.agg #[.int .u8 f, .int .u16 a, .int .u16 m, .int .u16 t, .slice Aw nw cw, .slice Ab nb cb], .agg #[.int .u8 f2, .int .u8 x2, .slice Ab2 nb2 cb2, .slice Aw2 nw2 cw2, .int .u16 a2, .int .u16 m2]] w fun e w' => e = .returned (.bool (fitsF ⟨f, a, m, t, W, B⟩ ⟨f2, x2, B2, W2, a2, m2⟩)) ∧ Below w.heap.size w w' := by
  have qW : W.length = nw := by simpa using hW.len
  have qB : B.length = nb := by simpa using hB.len
  have qW2 : W2.length = nw2 := by simpa using hW2.len
  have qB2 : B2.length = nb2 := by simpa using hB2.len
  have hm := hwf.many
  dsimp only at hm
  have KA0 := fun X => right_any f a m t Aw nw cw Ab nb cb W B qW qB hm X
  have KR0 := fun X (b : Below w.heap.size w X) => repRight_any f2 x2 Ab2 nb2 cb2 Aw2 nw2 cw2 a2 m2 B2 W2 X (hB2.to b) (hW2.to b) (by omega) (by omega)
  have KE0 := fun X (b : Below w.heap.size w X) => echo_any f a m t Aw nw cw Ab nb cb W B X (hW.to b) (hB.to b) hwf kW kB
  have hes := echo_small ⟨f, a, m, t, W, B⟩ (by dsimp only; omega) (by dsimp only; omega)
  obtain ⟨F, hF⟩ : ∃ F, F = fitsF ⟨f, a, m, t, W, B⟩ ⟨f2, x2, B2, W2, a2, m2⟩ := ⟨_, rfl⟩
  rw [← hF]
  unfold fitsF at hF
  dsimp only at hF
  obtain ⟨R1, hR1⟩ : ∃ R, R = right ⟨f, a, m, t, W, B⟩ := ⟨_, rfl⟩
  obtain ⟨R2, hR2⟩ : ∃ R, R = rright ⟨f2, x2, B2, W2, a2, m2⟩ := ⟨_, rfl⟩
  obtain ⟨⟨⟨e1, e2, e3, e4, e5, e6⟩, fl⟩, hE⟩ : ∃ E, E = echoF ⟨f, a, m, t, W, B⟩ := ⟨_, rfl⟩
  rw [← hR1] at KA0 hF
  rw [← hR2] at KR0 hF
  rw [← hE] at KE0 hF hes
  dsimp only [repSameF] at hF hes
  rw [qW2, qB2] at hF
  have KA := Lib.hid KA0
  have KR := Lib.hid KR0
  have KE := Lib.hid KE0
  have HB2 := Lib.hid hB2
  have HW2 := Lib.hid hW2
  have HQB := Lib.hid qB2
  have HES := Lib.hid hes
  clear KA0 KR0 KE0 hR1 hR2 hE hW hB hwf kW kB hB2 hW2 hes qW qB qW2 qB2
  cases R1
  case false =>
    have HF := Lib.hid (show F = false from by rw [hF]; rfl)
    clear hF
    go_enter Try.func15, Try.ntmps15
    go_wp2_with fail
    refine (KA.out _).mono ?_
    rintro e w1 ⟨rfl, b1⟩
    have ra := b1.row (by simp; omega) (row_alloc (heap_alloc_new w (.cells #[.int .u8 f, .int .u16 a, .int .u16 m, .int .u16 t, .slice Aw nw cw, .slice Ab nb cb] 31)) (.cells #[.int .u8 f2, .int .u8 x2, .slice Ab2 nb2 cb2, .slice Aw2 nw2 cw2, .int .u16 a2, .int .u16 m2] 36))
    have rr := b1.row (by simp) (heap_alloc2_new w (.cells #[.int .u8 f, .int .u16 a, .int .u16 m, .int .u16 t, .slice Aw nw cw, .slice Ab nb cb] 31) (.cells #[.int .u8 f2, .int .u8 x2, .slice Ab2 nb2 cb2, .slice Aw2 nw2 cw2, .int .u16 a2, .int .u16 m2] 36))
    have hb := (((Below.refl _ w).new _).new _).call b1
    obtain ⟨c0, c1, c2, c3, c4, c5⟩ := row6 ra
    obtain ⟨d0, d1, d2, d3, d4, d5⟩ := row6 rr
    clear b1
    go_wp2_with fail
    go_ret
    exact ⟨ret_bool HF.out.symm, hb⟩
  cases R2
  case false =>
    have HF := Lib.hid (show F = false from by rw [hF]; rfl)
    clear hF
    go_enter Try.func15, Try.ntmps15
    go_wp2_with fail
    refine (KA.out _).mono ?_
    rintro e w1 ⟨rfl, b1⟩
    have ra := b1.row (by simp; omega) (row_alloc (heap_alloc_new w (.cells #[.int .u8 f, .int .u16 a, .int .u16 m, .int .u16 t, .slice Aw nw cw, .slice Ab nb cb] 31)) (.cells #[.int .u8 f2, .int .u8 x2, .slice Ab2 nb2 cb2, .slice Aw2 nw2 cw2, .int .u16 a2, .int .u16 m2] 36))
    have rr := b1.row (by simp) (heap_alloc2_new w (.cells #[.int .u8 f, .int .u16 a, .int .u16 m, .int .u16 t, .slice Aw nw cw, .slice Ab nb cb] 31) (.cells #[.int .u8 f2, .int .u8 x2, .slice Ab2 nb2 cb2, .slice Aw2 nw2 cw2, .int .u16 a2, .int .u16 m2] 36))
    have hb := (((Below.refl _ w).new _).new _).call b1
    obtain ⟨c0, c1, c2, c3, c4, c5⟩ := row6 ra
    obtain ⟨d0, d1, d2, d3, d4, d5⟩ := row6 rr
    clear b1
    go_wp2_with fail
    refine (KR.out _ hb).mono ?_
    rintro e w2 ⟨rfl, b2⟩
    have ra := b2.row (row_lt ra) ra
    have rr := b2.row (row_lt rr) rr
    have hb := hb.call b2
    obtain ⟨c0, c1, c2, c3, c4, c5⟩ := row6 ra
    obtain ⟨d0, d1, d2, d3, d4, d5⟩ := row6 rr
    clear b2
    go_wp2_with fail
    go_ret
    exact ⟨ret_bool HF.out.symm, hb⟩
  by_cases hff : f = f2
  case neg =>
    have HF := Lib.hid (show F = false from by rw [hF, show (f == f2) = false by rw [beq_eq_false_iff_ne]; exact hff]; rfl)
    have T : ((f : Int) != (f2 : Int)) = true := by rw [bne_iff_ne]; omega
    clear hF hff
    go_enter Try.func15, Try.ntmps15
    go_wp2_with fail
    refine (KA.out _).mono ?_
    rintro e w1 ⟨rfl, b1⟩
    have ra := b1.row (by simp; omega) (row_alloc (heap_alloc_new w (.cells #[.int .u8 f, .int .u16 a, .int .u16 m, .int .u16 t, .slice Aw nw cw, .slice Ab nb cb] 31)) (.cells #[.int .u8 f2, .int .u8 x2, .slice Ab2 nb2 cb2, .slice Aw2 nw2 cw2, .int .u16 a2, .int .u16 m2] 36))
    have rr := b1.row (by simp) (heap_alloc2_new w (.cells #[.int .u8 f, .int .u16 a, .int .u16 m, .int .u16 t, .slice Aw nw cw, .slice Ab nb cb] 31) (.cells #[.int .u8 f2, .int .u8 x2, .slice Ab2 nb2 cb2, .slice Aw2 nw2 cw2, .int .u16 a2, .int .u16 m2] 36))
    have hb := (((Below.refl _ w).new _).new _).call b1
    obtain ⟨c0, c1, c2, c3, c4, c5⟩ := row6 ra
    obtain ⟨d0, d1, d2, d3, d4, d5⟩ := row6 rr
    clear b1
    go_wp2_with fail
    refine (KR.out _ hb).mono ?_
    rintro e w2 ⟨rfl, b2⟩
    have ra := b2.row (row_lt ra) ra
    have rr := b2.row (row_lt rr) rr
    have hb := hb.call b2
    obtain ⟨c0, c1, c2, c3, c4, c5⟩ := row6 ra
    obtain ⟨d0, d1, d2, d3, d4, d5⟩ := row6 rr
    clear b2
    go_wp2_with fail
    go_ret
    exact ⟨ret_bool HF.out.symm, hb⟩
  rw [show (f == f2) = true by rw [beq_iff_eq]; exact hff] at hF
  have T : ((f : Int) != (f2 : Int)) = false := by rw [bne_eq_false_iff_eq]; omega
  have HFF := Lib.hid hff
  clear hff
  by_cases hx : x2 = 0
  case neg =>
    have HF := Lib.hid (show F = true from by rw [hF, show (x2 != 0) = true by rw [bne_iff_ne]; exact hx]; rfl)
    have TX : ((x2 : Int) != 0) = true := by rw [bne_iff_ne]; omega
    clear hF hx
    go_enter Try.func15, Try.ntmps15
    go_wp2_with fail
    refine (KA.out _).mono ?_
    rintro e w1 ⟨rfl, b1⟩
    have ra := b1.row (by simp; omega) (row_alloc (heap_alloc_new w (.cells #[.int .u8 f, .int .u16 a, .int .u16 m, .int .u16 t, .slice Aw nw cw, .slice Ab nb cb] 31)) (.cells #[.int .u8 f2, .int .u8 x2, .slice Ab2 nb2 cb2, .slice Aw2 nw2 cw2, .int .u16 a2, .int .u16 m2] 36))
    have rr := b1.row (by simp) (heap_alloc2_new w (.cells #[.int .u8 f, .int .u16 a, .int .u16 m, .int .u16 t, .slice Aw nw cw, .slice Ab nb cb] 31) (.cells #[.int .u8 f2, .int .u8 x2, .slice Ab2 nb2 cb2, .slice Aw2 nw2 cw2, .int .u16 a2, .int .u16 m2] 36))
    have hb := (((Below.refl _ w).new _).new _).call b1
    obtain ⟨c0, c1, c2, c3, c4, c5⟩ := row6 ra
    obtain ⟨d0, d1, d2, d3, d4, d5⟩ := row6 rr
    clear b1
    go_wp2_with fail
    refine (KR.out _ hb).mono ?_
    rintro e w2 ⟨rfl, b2⟩
    have ra := b2.row (row_lt ra) ra
    have rr := b2.row (row_lt rr) rr
    have hb := hb.call b2
    obtain ⟨c0, c1, c2, c3, c4, c5⟩ := row6 ra
    obtain ⟨d0, d1, d2, d3, d4, d5⟩ := row6 rr
    clear b2
    go_wp2_with fail
    go_ret
    exact ⟨ret_bool HF.out.symm, hb⟩
  rw [show (x2 != 0) = false by rw [bne_eq_false_iff_eq]; exact hx] at hF
  have TX : ((x2 : Int) != 0) = false := by rw [bne_eq_false_iff_eq]; omega
  clear hx
  simp only [Bool.true_and, Bool.false_or] at hF
  cases fl
  case true =>
    simp only [if_true] at hF
    have KS0 := fun X Ae ne ce Af nf cf (b : Below w.heap.size w X) (h1 : Sl X X.heap.size Ae ne (bl e3)) (h2 : Sl X X.heap.size Af nf (ws e4)) => repSame_any f2 x2 Ab2 nb2 cb2 Aw2 nw2 cw2 a2 m2 e1 e2 Ae ne ce Af nf cf e5 e6 B2 e3 W2 e4 X (HW2.out.to b) (HB2.out.to b) h2 h1 (by omega) (by omega) (by have := h2.len; simp at this; have := HES.out; omega) (by have := h1.len; simp at this; have := HES.out; omega)
    rw [← hF] at KS0
    have KS := Lib.hid KS0
    clear KS0 hF
    go_enter Try.func15, Try.ntmps15
    go_wp2_with fail
    refine (KA.out _).mono ?_
    rintro e w1 ⟨rfl, b1⟩
    have ra := b1.row (by simp; omega) (row_alloc (heap_alloc_new w (.cells #[.int .u8 f, .int .u16 a, .int .u16 m, .int .u16 t, .slice Aw nw cw, .slice Ab nb cb] 31)) (.cells #[.int .u8 f2, .int .u8 x2, .slice Ab2 nb2 cb2, .slice Aw2 nw2 cw2, .int .u16 a2, .int .u16 m2] 36))
    have rr := b1.row (by simp) (heap_alloc2_new w (.cells #[.int .u8 f, .int .u16 a, .int .u16 m, .int .u16 t, .slice Aw nw cw, .slice Ab nb cb] 31) (.cells #[.int .u8 f2, .int .u8 x2, .slice Ab2 nb2 cb2, .slice Aw2 nw2 cw2, .int .u16 a2, .int .u16 m2] 36))
    have hb := (((Below.refl _ w).new _).new _).call b1
    obtain ⟨c0, c1, c2, c3, c4, c5⟩ := row6 ra
    obtain ⟨d0, d1, d2, d3, d4, d5⟩ := row6 rr
    clear b1
    go_wp2_with fail
    refine (KR.out _ hb).mono ?_
    rintro e w2 ⟨rfl, b2⟩
    have ra := b2.row (row_lt ra) ra
    have rr := b2.row (row_lt rr) rr
    have hb := hb.call b2
    obtain ⟨c0, c1, c2, c3, c4, c5⟩ := row6 ra
    obtain ⟨d0, d1, d2, d3, d4, d5⟩ := row6 rr
    clear b2
    go_wp2_with fail
    refine (KE.out _ hb).mono ?_
    rintro e w3 ⟨Ae, ne, ce, Af, nf, cf, rfl, SE, SF, kE, kF, -, -, b3⟩
    dsimp only at SE SF
    have rr := row_alloc (b3.row (row_lt rr) rr) (.cells #[.int .u8 (e1 : Nat), .int .u8 (e2 : Nat), .slice Ae ne ce, .slice Af nf cf, .int .u16 (e5 : Nat), .int .u16 (e6 : Nat)] 36)
    have ra := row_alloc (b3.row (row_lt ra) ra) (.cells #[.int .u8 (e1 : Nat), .int .u8 (e2 : Nat), .slice Ae ne ce, .slice Af nf cf, .int .u16 (e5 : Nat), .int .u16 (e6 : Nat)] 36)
    have hb := (hb.call b3).new (.cells #[.int .u8 (e1 : Nat), .int .u8 (e2 : Nat), .slice Ae ne ce, .slice Af nf cf, .int .u16 (e5 : Nat), .int .u16 (e6 : Nat)] 36)
    have SE := SE.to ((Below.refl _ w3).new (.cells #[.int .u8 (e1 : Nat), .int .u8 (e2 : Nat), .slice Ae ne ce, .slice Af nf cf, .int .u16 (e5 : Nat), .int .u16 (e6 : Nat)] 36))
    have SF := SF.to ((Below.refl _ w3).new (.cells #[.int .u8 (e1 : Nat), .int .u8 (e2 : Nat), .slice Ae ne ce, .slice Af nf cf, .int .u16 (e5 : Nat), .int .u16 (e6 : Nat)] 36))
    clear b3 c0 c1 c2 c3 c4 c5 d0 d1 d2 d3 d4 d5
    obtain ⟨X, hX⟩ : ∃ X, X = w3.alloc (.cells #[.int .u8 (e1 : Nat), .int .u8 (e2 : Nat), .slice Ae ne ce, .slice Af nf cf, .int .u16 (e5 : Nat), .int .u16 (e6 : Nat)] 36) := ⟨_, rfl⟩
    have re := heap_alloc_new w3 (.cells #[.int .u8 (e1 : Nat), .int .u8 (e2 : Nat), .slice Ae ne ce, .slice Af nf cf, .int .u16 (e5 : Nat), .int .u16 (e6 : Nat)] 36)
    dsimp only
    go_upto_region 7 with fail
    rw [← hX] at rr ra hb SE SF re ⊢
    clear hX
    obtain ⟨c0, c1, c2, c3, c4, c5⟩ := row6 ra
    obtain ⟨d0, d1, d2, d3, d4, d5⟩ := row6 rr
    obtain ⟨p0, p1, p2, p3, p4, p5⟩ := row6 re
    go_wp2_with fail
    refine (KS.out _ _ _ _ _ _ _ hb SE SF).mono ?_
    rintro e w4 ⟨rfl, b4⟩
    go_wp2_with fail
    go_ret
    exact ⟨rfl, hb.call b4⟩
  case false =>
    simp only [Bool.false_eq_true, if_false] at hF
    have wm := w64 (show m ≤ 9223372036854775807 by omega)
    by_cases hw : 0 < nw2
    case pos =>
      rw [if_pos hw] at hF
      have hnm := nat_beq nw2 m
      have HF := Lib.hid (hF.trans hnm)
      have z1 : (0 : Int) < (nw2 : Int) := by omega
      clear hF hnm hw
      go_enter Try.func15, Try.ntmps15
      go_wp2_with fail
      refine (KA.out _).mono ?_
      rintro e w1 ⟨rfl, b1⟩
      have ra := b1.row (by simp; omega) (row_alloc (heap_alloc_new w (.cells #[.int .u8 f, .int .u16 a, .int .u16 m, .int .u16 t, .slice Aw nw cw, .slice Ab nb cb] 31)) (.cells #[.int .u8 f2, .int .u8 x2, .slice Ab2 nb2 cb2, .slice Aw2 nw2 cw2, .int .u16 a2, .int .u16 m2] 36))
      have rr := b1.row (by simp) (heap_alloc2_new w (.cells #[.int .u8 f, .int .u16 a, .int .u16 m, .int .u16 t, .slice Aw nw cw, .slice Ab nb cb] 31) (.cells #[.int .u8 f2, .int .u8 x2, .slice Ab2 nb2 cb2, .slice Aw2 nw2 cw2, .int .u16 a2, .int .u16 m2] 36))
      have hb := (((Below.refl _ w).new _).new _).call b1
      obtain ⟨c0, c1, c2, c3, c4, c5⟩ := row6 ra
      obtain ⟨d0, d1, d2, d3, d4, d5⟩ := row6 rr
      clear b1
      go_wp2_with fail
      refine (KR.out _ hb).mono ?_
      rintro e w2 ⟨rfl, b2⟩
      have ra := b2.row (row_lt ra) ra
      have rr := b2.row (row_lt rr) rr
      have hb := hb.call b2
      obtain ⟨c0, c1, c2, c3, c4, c5⟩ := row6 ra
      obtain ⟨d0, d1, d2, d3, d4, d5⟩ := row6 rr
      clear b2
      go_wp2_with fail
      refine (KE.out _ hb).mono ?_
      rintro e w3 ⟨Ae, ne, ce, Af, nf, cf, rfl, SE, SF, kE, kF, -, -, b3⟩
      dsimp only at SE SF
      have rr := row_alloc (b3.row (row_lt rr) rr) (.cells #[.int .u8 (e1 : Nat), .int .u8 (e2 : Nat), .slice Ae ne ce, .slice Af nf cf, .int .u16 (e5 : Nat), .int .u16 (e6 : Nat)] 36)
      have ra := row_alloc (b3.row (row_lt ra) ra) (.cells #[.int .u8 (e1 : Nat), .int .u8 (e2 : Nat), .slice Ae ne ce, .slice Af nf cf, .int .u16 (e5 : Nat), .int .u16 (e6 : Nat)] 36)
      have hb := (hb.call b3).new (.cells #[.int .u8 (e1 : Nat), .int .u8 (e2 : Nat), .slice Ae ne ce, .slice Af nf cf, .int .u16 (e5 : Nat), .int .u16 (e6 : Nat)] 36)
      have SE := SE.to ((Below.refl _ w3).new (.cells #[.int .u8 (e1 : Nat), .int .u8 (e2 : Nat), .slice Ae ne ce, .slice Af nf cf, .int .u16 (e5 : Nat), .int .u16 (e6 : Nat)] 36))
      have SF := SF.to ((Below.refl _ w3).new (.cells #[.int .u8 (e1 : Nat), .int .u8 (e2 : Nat), .slice Ae ne ce, .slice Af nf cf, .int .u16 (e5 : Nat), .int .u16 (e6 : Nat)] 36))
      clear b3 c0 c1 c2 c3 c4 c5 d0 d1 d2 d3 d4 d5
      obtain ⟨X, hX⟩ : ∃ X, X = w3.alloc (.cells #[.int .u8 (e1 : Nat), .int .u8 (e2 : Nat), .slice Ae ne ce, .slice Af nf cf, .int .u16 (e5 : Nat), .int .u16 (e6 : Nat)] 36) := ⟨_, rfl⟩
      have re := heap_alloc_new w3 (.cells #[.int .u8 (e1 : Nat), .int .u8 (e2 : Nat), .slice Ae ne ce, .slice Af nf cf, .int .u16 (e5 : Nat), .int .u16 (e6 : Nat)] 36)
      dsimp only
      go_upto_region 8 with fail
      rw [← hX] at rr ra hb SE SF re ⊢
      clear hX
      obtain ⟨c0, c1, c2, c3, c4, c5⟩ := row6 ra
      obtain ⟨d0, d1, d2, d3, d4, d5⟩ := row6 rr
      obtain ⟨p0, p1, p2, p3, p4, p5⟩ := row6 re
      go_wp2_with fail
      go_ret
      exact ⟨ret_bool HF.out.symm, hb⟩
    rw [if_neg hw] at hF
    have z1 : ¬ (0 : Int) < (nw2 : Int) := by omega
    have hm7 : IntKind.i64.wrap ((m : Int) + 7) = (m : Int) + 7 := by rw [IntKind.wrap_i64]; omega
    have hq7 : Int.tdiv ((m : Int) + 7) 8 = (((m + 7) / 8 : Nat) : Int) := by rw [Int.tdiv_eq_ediv_of_nonneg (by omega)]; omega
    have q64 := w64 (show (m + 7) / 8 ≤ 9223372036854775807 by omega)
    have h88 : IntKind.i64.wrap ((((m + 7) / 8 : Nat) : Int) * 8) = (((m + 7) / 8 * 8 : Nat) : Int) := by rw [IntKind.wrap_i64]; omega
    have hml : m ≤ (m + 7) / 8 * 8 := by omega
    obtain ⟨q, eq⟩ : ∃ q, q = (m + 7) / 8 := ⟨_, rfl⟩
    rw [← eq] at hq7 q64 h88 hml hF
    obtain ⟨N, hN⟩ : ∃ N, N = q * 8 := ⟨_, rfl⟩
    rw [← hN] at h88 hml hF
    clear eq hN hw
    by_cases hn : nb2 = N
    case neg =>
      have HF := Lib.hid (show F = false from by rw [hF, show (nb2 == N) = false by rw [beq_eq_false_iff_ne]; exact hn]; rfl)
      have z2 : ((nb2 : Int) == (N : Int)) = false := by rw [beq_eq_false_iff_ne]; omega
      clear hF hn hml
      go_enter Try.func15, Try.ntmps15
      go_wp2_with fail
      refine (KA.out _).mono ?_
      rintro e w1 ⟨rfl, b1⟩
      have ra := b1.row (by simp; omega) (row_alloc (heap_alloc_new w (.cells #[.int .u8 f, .int .u16 a, .int .u16 m, .int .u16 t, .slice Aw nw cw, .slice Ab nb cb] 31)) (.cells #[.int .u8 f2, .int .u8 x2, .slice Ab2 nb2 cb2, .slice Aw2 nw2 cw2, .int .u16 a2, .int .u16 m2] 36))
      have rr := b1.row (by simp) (heap_alloc2_new w (.cells #[.int .u8 f, .int .u16 a, .int .u16 m, .int .u16 t, .slice Aw nw cw, .slice Ab nb cb] 31) (.cells #[.int .u8 f2, .int .u8 x2, .slice Ab2 nb2 cb2, .slice Aw2 nw2 cw2, .int .u16 a2, .int .u16 m2] 36))
      have hb := (((Below.refl _ w).new _).new _).call b1
      obtain ⟨c0, c1, c2, c3, c4, c5⟩ := row6 ra
      obtain ⟨d0, d1, d2, d3, d4, d5⟩ := row6 rr
      clear b1
      go_wp2_with fail
      refine (KR.out _ hb).mono ?_
      rintro e w2 ⟨rfl, b2⟩
      have ra := b2.row (row_lt ra) ra
      have rr := b2.row (row_lt rr) rr
      have hb := hb.call b2
      obtain ⟨c0, c1, c2, c3, c4, c5⟩ := row6 ra
      obtain ⟨d0, d1, d2, d3, d4, d5⟩ := row6 rr
      clear b2
      go_wp2_with fail
      refine (KE.out _ hb).mono ?_
      rintro e w3 ⟨Ae, ne, ce, Af, nf, cf, rfl, SE, SF, kE, kF, -, -, b3⟩
      dsimp only at SE SF
      have rr := row_alloc (b3.row (row_lt rr) rr) (.cells #[.int .u8 (e1 : Nat), .int .u8 (e2 : Nat), .slice Ae ne ce, .slice Af nf cf, .int .u16 (e5 : Nat), .int .u16 (e6 : Nat)] 36)
      have ra := row_alloc (b3.row (row_lt ra) ra) (.cells #[.int .u8 (e1 : Nat), .int .u8 (e2 : Nat), .slice Ae ne ce, .slice Af nf cf, .int .u16 (e5 : Nat), .int .u16 (e6 : Nat)] 36)
      have hb := (hb.call b3).new (.cells #[.int .u8 (e1 : Nat), .int .u8 (e2 : Nat), .slice Ae ne ce, .slice Af nf cf, .int .u16 (e5 : Nat), .int .u16 (e6 : Nat)] 36)
      have SE := SE.to ((Below.refl _ w3).new (.cells #[.int .u8 (e1 : Nat), .int .u8 (e2 : Nat), .slice Ae ne ce, .slice Af nf cf, .int .u16 (e5 : Nat), .int .u16 (e6 : Nat)] 36))
      have SF := SF.to ((Below.refl _ w3).new (.cells #[.int .u8 (e1 : Nat), .int .u8 (e2 : Nat), .slice Ae ne ce, .slice Af nf cf, .int .u16 (e5 : Nat), .int .u16 (e6 : Nat)] 36))
      clear b3 c0 c1 c2 c3 c4 c5 d0 d1 d2 d3 d4 d5
      obtain ⟨X, hX⟩ : ∃ X, X = w3.alloc (.cells #[.int .u8 (e1 : Nat), .int .u8 (e2 : Nat), .slice Ae ne ce, .slice Af nf cf, .int .u16 (e5 : Nat), .int .u16 (e6 : Nat)] 36) := ⟨_, rfl⟩
      have re := heap_alloc_new w3 (.cells #[.int .u8 (e1 : Nat), .int .u8 (e2 : Nat), .slice Ae ne ce, .slice Af nf cf, .int .u16 (e5 : Nat), .int .u16 (e6 : Nat)] 36)
      dsimp only
      go_upto_region 8 with fail
      rw [← hX] at rr ra hb SE SF re ⊢
      clear hX
      obtain ⟨c0, c1, c2, c3, c4, c5⟩ := row6 ra
      obtain ⟨d0, d1, d2, d3, d4, d5⟩ := row6 rr
      obtain ⟨p0, p1, p2, p3, p4, p5⟩ := row6 re
      go_wp2_with fail
      go_ret
      exact ⟨ret_bool HF.out.symm, hb⟩
    have HF := Lib.hid (show F = !((B2.drop m).any id) from by rw [hF, show (nb2 == N) = true by rw [beq_iff_eq]; exact hn]; rfl)
    have z2 : ((nb2 : Int) == (N : Int)) = true := by rw [beq_iff_eq]; omega
    have hmn : m ≤ nb2 := by omega
    have z3 : (0 : Int) ≤ (m : Int) := by omega
    have z4 : (m : Int) ≤ (nb2 : Int) := by omega
    have z5 : (m : Int) ≤ (cb2 : Int) := by omega
    have z6 : (nb2 : Int) ≤ (cb2 : Int) := by omega
    by_cases hcm : cb2 = m
    case pos =>
      have e0 : m = nb2 := by omega
      have e1 : m = cb2 := hcm.symm
      have HF := Lib.hid (show F = true from by rw [HF.out, List.drop_eq_nil_of_le (by rw [HQB.out]; omega)]; rfl)
      have KC := Lib.hid (fun X => contains_any Ab2 0 0 [] X (Sl.empty _ _ _) (by omega))
      clear hF hn hml hcm hmn
      subst e0
      subst e1
      go_enter Try.func15, Try.ntmps15
      go_wp2_with fail
      refine (KA.out _).mono ?_
      rintro e w1 ⟨rfl, b1⟩
      have ra := b1.row (by simp; omega) (row_alloc (heap_alloc_new w (.cells #[.int .u8 f, .int .u16 a, .int .u16 m, .int .u16 t, .slice Aw nw cw, .slice Ab nb cb] 31)) (.cells #[.int .u8 f2, .int .u8 x2, .slice Ab2 m m, .slice Aw2 nw2 cw2, .int .u16 a2, .int .u16 m2] 36))
      have rr := b1.row (by simp) (heap_alloc2_new w (.cells #[.int .u8 f, .int .u16 a, .int .u16 m, .int .u16 t, .slice Aw nw cw, .slice Ab nb cb] 31) (.cells #[.int .u8 f2, .int .u8 x2, .slice Ab2 m m, .slice Aw2 nw2 cw2, .int .u16 a2, .int .u16 m2] 36))
      have hb := (((Below.refl _ w).new _).new _).call b1
      obtain ⟨c0, c1, c2, c3, c4, c5⟩ := row6 ra
      obtain ⟨d0, d1, d2, d3, d4, d5⟩ := row6 rr
      clear b1
      go_wp2_with fail
      refine (KR.out _ hb).mono ?_
      rintro e w2 ⟨rfl, b2⟩
      have ra := b2.row (row_lt ra) ra
      have rr := b2.row (row_lt rr) rr
      have hb := hb.call b2
      obtain ⟨c0, c1, c2, c3, c4, c5⟩ := row6 ra
      obtain ⟨d0, d1, d2, d3, d4, d5⟩ := row6 rr
      clear b2
      go_wp2_with fail
      refine (KE.out _ hb).mono ?_
      rintro e w3 ⟨Ae, ne, ce, Af, nf, cf, rfl, SE, SF, kE, kF, -, -, b3⟩
      dsimp only at SE SF
      have rr := row_alloc (b3.row (row_lt rr) rr) (.cells #[.int .u8 (e1 : Nat), .int .u8 (e2 : Nat), .slice Ae ne ce, .slice Af nf cf, .int .u16 (e5 : Nat), .int .u16 (e6 : Nat)] 36)
      have ra := row_alloc (b3.row (row_lt ra) ra) (.cells #[.int .u8 (e1 : Nat), .int .u8 (e2 : Nat), .slice Ae ne ce, .slice Af nf cf, .int .u16 (e5 : Nat), .int .u16 (e6 : Nat)] 36)
      have hb := (hb.call b3).new (.cells #[.int .u8 (e1 : Nat), .int .u8 (e2 : Nat), .slice Ae ne ce, .slice Af nf cf, .int .u16 (e5 : Nat), .int .u16 (e6 : Nat)] 36)
      have SE := SE.to ((Below.refl _ w3).new (.cells #[.int .u8 (e1 : Nat), .int .u8 (e2 : Nat), .slice Ae ne ce, .slice Af nf cf, .int .u16 (e5 : Nat), .int .u16 (e6 : Nat)] 36))
      have SF := SF.to ((Below.refl _ w3).new (.cells #[.int .u8 (e1 : Nat), .int .u8 (e2 : Nat), .slice Ae ne ce, .slice Af nf cf, .int .u16 (e5 : Nat), .int .u16 (e6 : Nat)] 36))
      clear b3 c0 c1 c2 c3 c4 c5 d0 d1 d2 d3 d4 d5
      obtain ⟨X, hX⟩ : ∃ X, X = w3.alloc (.cells #[.int .u8 (e1 : Nat), .int .u8 (e2 : Nat), .slice Ae ne ce, .slice Af nf cf, .int .u16 (e5 : Nat), .int .u16 (e6 : Nat)] 36) := ⟨_, rfl⟩
      have re := heap_alloc_new w3 (.cells #[.int .u8 (e1 : Nat), .int .u8 (e2 : Nat), .slice Ae ne ce, .slice Af nf cf, .int .u16 (e5 : Nat), .int .u16 (e6 : Nat)] 36)
      dsimp only
      go_upto_region 8 with fail
      rw [← hX] at rr ra hb SE SF re ⊢
      clear hX
      obtain ⟨c0, c1, c2, c3, c4, c5⟩ := row6 ra
      obtain ⟨d0, d1, d2, d3, d4, d5⟩ := row6 rr
      obtain ⟨p0, p1, p2, p3, p4, p5⟩ := row6 re
      go_wp2_with fail
      refine (KC.out _).mono ?_
      rintro e w5 ⟨rfl, rfl⟩
      go_wp2_with fail
      go_ret
      exact ⟨ret_bool HF.out.symm, hb⟩
    have KC0 := fun X (b : Below w.heap.size w X) cc => contains_any _ _ cc _ X (by have h := (HB2.out.to b).drop (k := m) (cap := cb2) hmn hc2; rw [bl_drop] at h; exact h) (by omega)
    obtain ⟨Q, hQ⟩ : ∃ Q, Q = (B2.drop m).any id := ⟨_, rfl⟩
    rw [← hQ] at HF KC0
    clear hF hn hml hQ
    simp only [if_neg hcm] at KC0
    have KC := Lib.hid KC0
    clear KC0
    go_enter Try.func15, Try.ntmps15
    go_wp2_with fail
    refine (KA.out _).mono ?_
    rintro e w1 ⟨rfl, b1⟩
    have ra := b1.row (by simp; omega) (row_alloc (heap_alloc_new w (.cells #[.int .u8 f, .int .u16 a, .int .u16 m, .int .u16 t, .slice Aw nw cw, .slice Ab nb cb] 31)) (.cells #[.int .u8 f2, .int .u8 x2, .slice Ab2 nb2 cb2, .slice Aw2 nw2 cw2, .int .u16 a2, .int .u16 m2] 36))
    have rr := b1.row (by simp) (heap_alloc2_new w (.cells #[.int .u8 f, .int .u16 a, .int .u16 m, .int .u16 t, .slice Aw nw cw, .slice Ab nb cb] 31) (.cells #[.int .u8 f2, .int .u8 x2, .slice Ab2 nb2 cb2, .slice Aw2 nw2 cw2, .int .u16 a2, .int .u16 m2] 36))
    have hb := (((Below.refl _ w).new _).new _).call b1
    obtain ⟨c0, c1, c2, c3, c4, c5⟩ := row6 ra
    obtain ⟨d0, d1, d2, d3, d4, d5⟩ := row6 rr
    clear b1
    go_wp2_with fail
    refine (KR.out _ hb).mono ?_
    rintro e w2 ⟨rfl, b2⟩
    have ra := b2.row (row_lt ra) ra
    have rr := b2.row (row_lt rr) rr
    have hb := hb.call b2
    obtain ⟨c0, c1, c2, c3, c4, c5⟩ := row6 ra
    obtain ⟨d0, d1, d2, d3, d4, d5⟩ := row6 rr
    clear b2
    go_wp2_with fail
    refine (KE.out _ hb).mono ?_
    rintro e w3 ⟨Ae, ne, ce, Af, nf, cf, rfl, SE, SF, kE, kF, -, -, b3⟩
    dsimp only at SE SF
    have rr := row_alloc (b3.row (row_lt rr) rr) (.cells #[.int .u8 (e1 : Nat), .int .u8 (e2 : Nat), .slice Ae ne ce, .slice Af nf cf, .int .u16 (e5 : Nat), .int .u16 (e6 : Nat)] 36)
    have ra := row_alloc (b3.row (row_lt ra) ra) (.cells #[.int .u8 (e1 : Nat), .int .u8 (e2 : Nat), .slice Ae ne ce, .slice Af nf cf, .int .u16 (e5 : Nat), .int .u16 (e6 : Nat)] 36)
    have hb := (hb.call b3).new (.cells #[.int .u8 (e1 : Nat), .int .u8 (e2 : Nat), .slice Ae ne ce, .slice Af nf cf, .int .u16 (e5 : Nat), .int .u16 (e6 : Nat)] 36)
    have SE := SE.to ((Below.refl _ w3).new (.cells #[.int .u8 (e1 : Nat), .int .u8 (e2 : Nat), .slice Ae ne ce, .slice Af nf cf, .int .u16 (e5 : Nat), .int .u16 (e6 : Nat)] 36))
    have SF := SF.to ((Below.refl _ w3).new (.cells #[.int .u8 (e1 : Nat), .int .u8 (e2 : Nat), .slice Ae ne ce, .slice Af nf cf, .int .u16 (e5 : Nat), .int .u16 (e6 : Nat)] 36))
    clear b3 c0 c1 c2 c3 c4 c5 d0 d1 d2 d3 d4 d5
    obtain ⟨X, hX⟩ : ∃ X, X = w3.alloc (.cells #[.int .u8 (e1 : Nat), .int .u8 (e2 : Nat), .slice Ae ne ce, .slice Af nf cf, .int .u16 (e5 : Nat), .int .u16 (e6 : Nat)] 36) := ⟨_, rfl⟩
    have re := heap_alloc_new w3 (.cells #[.int .u8 (e1 : Nat), .int .u8 (e2 : Nat), .slice Ae ne ce, .slice Af nf cf, .int .u16 (e5 : Nat), .int .u16 (e6 : Nat)] 36)
    dsimp only
    go_upto_region 8 with fail
    rw [← hX] at rr ra hb SE SF re ⊢
    clear hX
    obtain ⟨c0, c1, c2, c3, c4, c5⟩ := row6 ra
    obtain ⟨d0, d1, d2, d3, d4, d5⟩ := row6 rr
    obtain ⟨p0, p1, p2, p3, p4, p5⟩ := row6 re
    go_wp2_with fail
    refine (KC.out _ hb _).mono ?_
    rintro e w5 ⟨rfl, rfl⟩
    go_wp2_with fail
    go_ret
    exact ⟨ret_bool HF.out.symm, hb⟩
end Go.Proofs.Ytiibopdnlmnkmaa.AskW
