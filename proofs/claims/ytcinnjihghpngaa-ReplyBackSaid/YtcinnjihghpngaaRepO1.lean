/- The walk of ReplyOne. -/
import Derived.Test.YtcinnjihghpngaaAG6
import Derived.Test.YtcinnjihghpngaaRepRT
import Derived.Test.YtcinnjihghpngaaRepL
import Derived.Deep.RegionHeld3
set_option linter.unusedVariables false
set_option linter.unusedSimpArgs false
namespace Go.Proofs.Ytcinnjihghpngaa.AskW
open Go.RowKit Go.Proofs.Ytcinnjihghpngaa Go.Proofs.Ytcinnjihghpngaa.Ask
theorem keep12r {X w' : World} {g1 g2 : Nat} {t1 t2 : TypeId} {u0 u1 u2 u3 u4 u5 v0 v1 v2 v3 v4 v5 : Value} (b : Below X.heap.size X w') (r1 : X.heap[g1]? = some (.cells #[u0, u1, u2, u3, u4, u5] t1 (0, 0))) (r2 : X.heap[g2]? = some (.cells #[v0, v1, v2, v3, v4, v5] t2 (0, 0))) :
    Below X.heap.size X w' ∧ w'.cell? ⟨g1, 0, none⟩ = some u0 ∧ w'.cell? ⟨g1, 1, none⟩ = some u1 ∧ w'.cell? ⟨g1, 2, none⟩ = some u2 ∧ w'.cell? ⟨g1, 3, none⟩ = some u3 ∧ w'.cell? ⟨g1, 4, none⟩ = some u4 ∧ w'.cell? ⟨g1, 5, none⟩ = some u5 ∧
      w'.cell? ⟨g2, 0, none⟩ = some v0 ∧ w'.cell? ⟨g2, 1, none⟩ = some v1 ∧ w'.cell? ⟨g2, 2, none⟩ = some v2 ∧ w'.cell? ⟨g2, 3, none⟩ = some v3 ∧ w'.cell? ⟨g2, 4, none⟩ = some v4 ∧ w'.cell? ⟨g2, 5, none⟩ = some v5 := by
  obtain ⟨h0, h1, h2, h3, h4, h5⟩ := row6 (b.row (row_lt r1) r1)
  obtain ⟨k0, k1, k2, k3, k4, k5⟩ := row6 (b.row (row_lt r2) r2)
  exact ⟨b, h0, h1, h2, h3, h4, h5, k0, k1, k2, k3, k4, k5⟩
theorem rep_beq (f x a m f2 x2 a2 m2 : Nat) (W W2 : List Nat) (B B2 : List Bool) (h1 : rright ⟨f, x, B, W, a, m⟩ = true) (h2 : rright ⟨f2, x2, B2, W2, a2, m2⟩ = true) :
    (rbytes ⟨f, x, B, W, a, m⟩ == rbytes ⟨f2, x2, B2, W2, a2, m2⟩) = (f == f2 && x == x2 && a == a2 && m == m2 && B == B2 && W == W2) := by
  rw [Bool.eq_iff_iff]
  simp only [beq_iff_eq, Bool.and_eq_true]
  constructor
  · intro h
    have := rbytes_inj h1 h2 h
    simp only [Rep.mk.injEq] at this
    obtain ⟨e1, e2, e3, e4, e5, e6⟩ := this
    exact ⟨⟨⟨⟨⟨e1, e2⟩, e5⟩, e6⟩, e3⟩, e4⟩
  · rintro ⟨⟨⟨⟨⟨rfl, rfl⟩, rfl⟩, rfl⟩, rfl⟩, rfl⟩
    rfl
theorem rbytesE_cases (r : Rep) : (rright r = true ∧ rbytesE r = (rbytes r, 0)) ∨ (rright r = false ∧ rbytesE r = ([], 13)) := by
  unfold rbytesE
  cases h : rright r
  · exact Or.inr ⟨rfl, rfl⟩
  · exact Or.inl ⟨rfl, rfl⟩
theorem rbytesE_lt (r : Rep) (h : r.Wf) : Bytes (rbytesE r).1 := by
  rcases rbytesE_cases r with ⟨hr, e⟩ | ⟨_, e⟩ <;> rw [e]
  · obtain ⟨k, _, _, hb⟩ := rright_kd hr
    rw [hb]; exact kbytes_lt k r h
  · exact Bytes.nil
theorem rparse_wf {xs : List Nat} (h : Bytes xs) : (rparse xs).1.Wf := by
  have h0 : rep0.Wf := ⟨by decide, by decide, (fun y hy => by cases hy), by decide, by decide⟩
  unfold rparse
  by_cases h1 : xs.length = 0 ∨ 253 < xs.length
  · rw [if_pos h1]; exact h0
  rw [if_neg h1]
  cases hk : kdBy (xs[0]?.getD 0) with
  | none => exact h0
  | some k =>
    dsimp only
    split
    · exact read_wf k h
    · exact h0
theorem rright_small {r : Rep} (h : rright r = true) : r.bits.length ≤ 2000 ∧ r.words.length ≤ 125 := by
  obtain ⟨k, _, hr, _⟩ := rright_kd h
  obtain ⟨f, x, B, W, a, m⟩ := r
  exact rwf_small hr
set_option maxHeartbeats 16000000 in
theorem replyOne_any (A : Option Addr) (n c : Nat) (xs : List Nat) (f x : Nat) (Ab : Option Addr) (nb cb : Nat) (Aw : Option Addr) (nw cw : Nat) (a m : Nat) (B : List Bool) (W : List Nat) (f2 x2 : Nat) (Ab2 : Option Addr) (nb2 cb2 : Nat) (Aw2 : Option Addr) (nw2 cw2 : Nat) (a2 m2 : Nat) (B2 : List Bool) (W2 : List Nat) (w : World)
    (hs : Sl w w.heap.size A n (bs xs)) (hx : Bytes xs) (hc : n ≤ c) (hW : Sl w w.heap.size Aw nw (ws W)) (hB : Sl w w.heap.size Ab nb (bl B)) (hwf : Rep.Wf ⟨f, x, B, W, a, m⟩) (hW2 : Sl w w.heap.size Aw2 nw2 (ws W2)) (hB2 : Sl w w.heap.size Ab2 nb2 (bl B2)) (hwf2 : Rep.Wf ⟨f2, x2, B2, W2, a2, m2⟩) :
    Calls Try.prog 8 #[.slice A n c, .agg #[.int .u8 f, .int .u8 x, .slice Ab nb cb, .slice Aw nw cw, .int .u16 a, .int .u16 m], .agg #[.int .u8 f2, .int .u8 x2, .slice Ab2 nb2 cb2, .slice Aw2 nw2 cw2, .int .u16 a2, .int .u16 m2]] w fun e w' => e = .returned (.bool true) ∧ Below w.heap.size w w' := by
  have hb0 : Below w.heap.size w ((w.alloc (.cells #[.int .u8 f, .int .u8 x, .slice Ab nb cb, .slice Aw nw cw, .int .u16 a, .int .u16 m] 49)).alloc (.cells #[.int .u8 f2, .int .u8 x2, .slice Ab2 nb2 cb2, .slice Aw2 nw2 cw2, .int .u16 a2, .int .u16 m2] 49)) := ((Below.refl _ _).new _).new _
  have FA0 := few_any Aw Ab nw cw nb cb
  have FO0 := few_any Aw2 Ab2 nw2 cw2 nb2 cb2
  by_cases h1 : nw ≤ 200 ∧ nb ≤ 2100
  case neg =>
    rw [show (decide (nw ≤ 200) && decide (nb ≤ 2100)) = false by rw [Bool.and_eq_false_iff, decide_eq_false_iff_not, decide_eq_false_iff_not]; omega] at FA0
    have FA := Lib.hid FA0
    clear FA0 FO0 h1 hs hx hc hW hB hwf hW2 hB2 hwf2
    go_enter Try.func8, Try.ntmps8
    go_wp2_with (first
      | (go_at_call 11; refine (FA.out _).mono ?_; rintro e wf ⟨rfl, rfl⟩)
      | (go_at_call 29; refine (awake3_any _).mono ?_; rintro e wa ⟨rfl, ba⟩))
    go_ret
    exact ⟨rfl, hb0.call ba⟩
  rw [show (decide (nw ≤ 200) && decide (nb ≤ 2100)) = true by rw [Bool.and_eq_true, decide_eq_true_iff, decide_eq_true_iff]; omega] at FA0
  have FA := Lib.hid FA0
  clear FA0
  by_cases h2 : nw2 ≤ 200 ∧ nb2 ≤ 2100
  case neg =>
    rw [show (decide (nw2 ≤ 200) && decide (nb2 ≤ 2100)) = false by rw [Bool.and_eq_false_iff, decide_eq_false_iff_not, decide_eq_false_iff_not]; omega] at FO0
    have FO := Lib.hid FO0
    clear FO0 h1 h2 hs hx hc hW hB hwf hW2 hB2 hwf2
    go_enter Try.func8, Try.ntmps8
    go_wp2_with fail
    refine (FA.out _).mono ?_
    rintro e wf ⟨rfl, rfl⟩
    go_wp2_with fail
    refine (FO.out _).mono ?_
    rintro e wf ⟨rfl, rfl⟩
    go_wp2_with (go_at_call 29; refine (awake3_any _).mono ?_; rintro e wa ⟨rfl, ba⟩)
    go_ret
    exact ⟨rfl, hb0.call ba⟩
  rw [show (decide (nw2 ≤ 200) && decide (nb2 ≤ 2100)) = true by rw [Bool.and_eq_true, decide_eq_true_iff, decide_eq_true_iff]; omega] at FO0
  have FO := Lib.hid FO0
  clear FO0
  by_cases h3 : (300 : Int) < n
  · clear h1 h2 hs hx hc hW hB hwf hW2 hB2 hwf2
    go_enter Try.func8, Try.ntmps8
    go_wp2_with fail
    refine (FA.out _).mono ?_
    rintro e wf ⟨rfl, rfl⟩
    go_wp2_with fail
    refine (FO.out _).mono ?_
    rintro e wf ⟨rfl, rfl⟩
    go_wp2_with (go_at_call 29; refine (awake3_any _).mono ?_; rintro e wa ⟨rfl, ba⟩)
    go_ret
    exact ⟨rfl, hb0.call ba⟩
  have qn : xs.length = n := by simpa using hs.len
  have qW : W.length = nw := by simpa using hW.len
  have qB : B.length = nb := by simpa using hB.len
  have qW2 : W2.length = nw2 := by simpa using hW2.len
  have KP := Lib.hid (fun Y (b : Below w.heap.size w Y) => repParse_any A n c xs Y (hs.to b) hx (by omega) hc)
  have KA0 := fun Y (b : Below w.heap.size w Y) => repBytes_any f x Ab nb cb Aw nw cw a m B W Y (hB.to b) (hW.to b) hwf (by omega) (by omega)
  have KO0 := fun Y (b : Below w.heap.size w Y) => repBytes_any f2 x2 Ab2 nb2 cb2 Aw2 nw2 cw2 a2 m2 B2 W2 Y (hB2.to b) (hW2.to b) hwf2 (by omega) (by omega)
  have KT0' := fun Y (b : Below w.heap.size w Y) => repSame_any f x Ab nb cb Aw nw cw a m f2 x2 Ab2 nb2 cb2 Aw2 nw2 cw2 a2 m2 B B2 W W2 Y (hW.to b) (hB.to b) (hW2.to b) (hB2.to b) (by omega) (by omega) (by omega) (by omega)
  have KS0' := fun Y Aa ca Ao co Sa So => lowSame_any Aa Ao (rbytesE ⟨f, x, B, W, a, m⟩).1.length ca (rbytesE ⟨f2, x2, B2, W2, a2, m2⟩).1.length co Y.heap.size (rbytesE ⟨f, x, B, W, a, m⟩).1 (rbytesE ⟨f2, x2, B2, W2, a2, m2⟩).1 Y Sa (rbytesE_lt _ hwf) So (rbytesE_lt _ hwf2)
  obtain ⟨QS, hQS⟩ : ∃ Q, Q = ((rbytesE ⟨f, x, B, W, a, m⟩).1 == (rbytesE ⟨f2, x2, B2, W2, a2, m2⟩).1) := ⟨_, rfl⟩
  obtain ⟨QT, hQT⟩ : ∃ Q, Q = (f == f2 && x == x2 && a == a2 && m == m2 && B == B2 && W == W2) := ⟨_, rfl⟩
  have HC0 : ((rbytesE ⟨f, x, B, W, a, m⟩).2 = 13 ∧ True) ∨ ((rbytesE ⟨f, x, B, W, a, m⟩).2 = 0 ∧ (rbytesE ⟨f2, x2, B2, W2, a2, m2⟩).2 = 13) ∨ (((rbytesE ⟨f, x, B, W, a, m⟩).2 = 0 ∧ (rbytesE ⟨f2, x2, B2, W2, a2, m2⟩).2 = 0) ∧ QT = QS) := by
    rcases rbytesE_cases ⟨f, x, B, W, a, m⟩ with ⟨r1, e1⟩ | ⟨r1, e1⟩
    · rcases rbytesE_cases ⟨f2, x2, B2, W2, a2, m2⟩ with ⟨r2, e2⟩ | ⟨r2, e2⟩
      · exact Or.inr (Or.inr ⟨⟨by rw [e1], by rw [e2]⟩, by rw [hQS, hQT, e1, e2, rep_beq f x a m f2 x2 a2 m2 W W2 B B2 r1 r2]⟩)
      · exact Or.inr (Or.inl ⟨by rw [e1], by rw [e2]⟩)
    · exact Or.inl ⟨by rw [e1], trivial⟩
  rw [← hQS] at KS0'
  rw [← hQT] at KT0'
  obtain ⟨La, eLa⟩ : ∃ L, L = rbytesE ⟨f, x, B, W, a, m⟩ := ⟨_, rfl⟩
  obtain ⟨Lo, eLo⟩ : ∃ L, L = rbytesE ⟨f2, x2, B2, W2, a2, m2⟩ := ⟨_, rfl⟩
  rw [← eLa] at KA0 KS0' HC0
  rw [← eLo] at KO0 KS0' HC0
  obtain ⟨la, ea⟩ := La
  obtain ⟨lo, eo⟩ := Lo
  dsimp only at KS0' HC0
  have KA := Lib.hid KA0
  have KO := Lib.hid KO0
  have KT0 := Lib.hid KT0'
  have KS0 := Lib.hid KS0'
  have HPC0 : (rparse xs = (rep0, 13)) ∨ ∃ r, rright r = true ∧ rbytes r = xs ∧ r.Wf ∧ rparse xs = (r, 0) := by
    rcases rparse_cases xs with ⟨r, hr, hb, hp⟩ | hp
    · refine Or.inr ⟨r, hr, hb, ?_, hp⟩
      have := rparse_wf hx
      rw [hp] at this; exact this
    · exact Or.inl hp
  have KX := Lib.hid (fun Y A2 c2 (b : Below w.heap.size w Y) (h : Sl Y Y.heap.size A2 xs.length (bs xs)) => lowSame_any A A2 n c xs.length c2 Y.heap.size xs xs Y (hs.to b) hx h hx)
  have HPC := Lib.hid HPC0
  have ra0 := row_alloc (heap_alloc_new w (.cells #[.int .u8 f, .int .u8 x, .slice Ab nb cb, .slice Aw nw cw, .int .u16 a, .int .u16 m] 49)) (.cells #[.int .u8 f2, .int .u8 x2, .slice Ab2 nb2 cb2, .slice Aw2 nw2 cw2, .int .u16 a2, .int .u16 m2] 49)
  have ro0 := heap_alloc2_new w (.cells #[.int .u8 f, .int .u8 x, .slice Ab nb cb, .slice Aw nw cw, .int .u16 a, .int .u16 m] 49) (.cells #[.int .u8 f2, .int .u8 x2, .slice Ab2 nb2 cb2, .slice Aw2 nw2 cw2, .int .u16 a2, .int .u16 m2] 49)
  have HC := Lib.hid HC0
  have HRA0 := Lib.hid ra0
  have HRO0 := Lib.hid ro0
  clear KA0 KO0 KT0' KS0' HC0 HPC0 hQS hQT eLa eLo h1 h2 hs hx hc hW hB hwf hW2 hB2 hwf2 qn qW qB qW2 ra0 ro0
  go_enter Try.func8, Try.ntmps8
  go_wp2_with fail
  refine (FA.out _).mono ?_
  rintro e wf ⟨rfl, rfl⟩
  go_wp2_with fail
  refine (FO.out _).mono ?_
  rintro e wf ⟨rfl, rfl⟩
  go_wp2_with fail
  refine (KP.out _ hb0).mono ?_
  rintro e w1 ⟨pAb, pnb, pcb, pAw, pnw, pcw, he, SB, SW, hcb, hcw, oB, oW, b1⟩
  have ra := b1.row (by simp; omega) HRA0.out
  have ro := b1.row (by simp) HRO0.out
  have hb := hb0.call b1
  have lta := row_lt ra
  have lto := row_lt ro
  clear b1
  rcases HPC.out with hp | ⟨⟨g, gx, gB, gW, ga, gm⟩, hr, hrb, hrw, hp⟩
  · rw [hp] at he
    obtain rfl := he
    clear hp SW SB oW oB hcw hcb
    dsimp only [rep0]
    obtain ⟨c0, c1, c2, c3, c4, c5⟩ := row6 ra
    obtain ⟨d0, d1, d2, d3, d4, d5⟩ := row6 ro
    have ra := row_alloc ra (.cells #[.int .u8 (0 : Nat), .int .u8 (0 : Nat), .slice pAb pnb pcb, .slice pAw pnw pcw, .int .u16 (0 : Nat), .int .u16 (0 : Nat)] 49)
    have ro := row_alloc ro (.cells #[.int .u8 (0 : Nat), .int .u8 (0 : Nat), .slice pAb pnb pcb, .slice pAw pnw pcw, .int .u16 (0 : Nat), .int .u16 (0 : Nat)] 49)
    have hb := hb.new (.cells #[.int .u8 (0 : Nat), .int .u8 (0 : Nat), .slice pAb pnb pcb, .slice pAw pnw pcw, .int .u16 (0 : Nat), .int .u16 (0 : Nat)] 49)
    go_wp2_with fail
    refine (KA.out _ hb).mono ?_
    rintro e w5 ⟨va, rfl, Ha⟩
    obtain ⟨Aa, ca, rfl, _, Sa, _⟩ := Ha.slice
    have ra := Ha.bel.row (row_lt ra) ra
    have ro := Ha.bel.row (row_lt ro) ro
    have hb := hb.call Ha.bel
    clear Ha
    obtain ⟨c0, c1, c2, c3, c4, c5⟩ := row6 ra
    obtain ⟨d0, d1, d2, d3, d4, d5⟩ := row6 ro
    go_wp2_with fail
    refine (KO.out _ hb).mono ?_
    rintro e X ⟨vo, rfl, Ho⟩
    obtain ⟨Ao, co, rfl, _, So, _⟩ := Ho.slice
    have Sa := Sa.to Ho.bel
    have RA := Lib.hid (Ho.bel.row (row_lt ra) ra)
    have RO := Lib.hid (Ho.bel.row (row_lt ro) ro)
    have hb := hb.call Ho.bel
    clear Ho c0 c1 c2 c3 c4 c5 d0 d1 d2 d3 d4 d5 ra ro
    have KS := Lib.hid (fun Y (b : Below X.heap.size X Y) => KS0.out Y Aa ca Ao co (Sa.to b) (So.to b))
    have KT := Lib.hid (fun Y (b : Below X.heap.size X Y) => KT0.out Y (hb.trans (b.mono hb.size)))
    clear Sa So KS0 KT0 KA KO
    rcases HC.out with h | h | h
    · obtain ⟨h1, h2⟩ := h
      subst h1
      go_wp2_with fail
      refine wp_region_held_drew (S := fun w' => Below X.heap.size X w') (by kernel_rfl) ((Below.refl _ _).drew) (fun hHeld => ?_)
      refine wpAnyH_take (i := 0) (v := ?_) (by simp only [List.getElem?_toArray, List.getElem?_cons_succ, List.getElem?_cons_zero]; rfl) (by kernel_rfl) (by kernel_rfl) (by kernel_rfl) (by exact fun _ _ _ h => h) (Or.inl ⟨by kernel_rfl, ?_⟩) (by assumption) ?_
      rotate_left
      · intro w hSw
        (try dsimp only at hSw)
        go_simp
        try with_reducible rfl
      simp only [Act.put, List.setIfInBounds_toArray, List.set_cons_zero, List.set_cons_succ]
      refine wpAnyH_take (i := 1) (v := ?_) (by simp only [List.getElem?_toArray, List.getElem?_cons_succ, List.getElem?_cons_zero]; rfl) (by kernel_rfl) (by kernel_rfl) (by kernel_rfl) (by exact fun _ _ _ h => h) (Or.inl ⟨by kernel_rfl, ?_⟩) (by assumption) ?_
      rotate_left
      · intro w hSw
        (try dsimp only at hSw)
        go_simp
        try with_reducible rfl
      simp only [Act.put, List.setIfInBounds_toArray, List.set_cons_zero, List.set_cons_succ]
      refine wpAnyH_take (i := 2) (v := ?_) (by simp only [List.getElem?_toArray, List.getElem?_cons_succ, List.getElem?_cons_zero]; rfl) (by kernel_rfl) (by kernel_rfl) (by kernel_rfl) (by exact fun _ _ _ h => h) (Or.inl ⟨by kernel_rfl, ?_⟩) (by assumption) ?_
      rotate_left
      · intro w hSw
        (try dsimp only at hSw)
        go_simp
        try with_reducible rfl
      simp only [Act.put, List.setIfInBounds_toArray, List.set_cons_zero, List.set_cons_succ]
      refine wpAnyH_take (i := 3) (v := undef) (by simp only [List.getElem?_toArray, List.getElem?_cons_succ, List.getElem?_cons_zero]; rfl) (by kernel_rfl) (by kernel_rfl) (by kernel_rfl) (by exact fun _ _ _ h => h) (Or.inr ⟨by kernel_rfl, rfl⟩) (by assumption) ?_
      simp only [Act.put, List.setIfInBounds_toArray, List.set_cons_zero, List.set_cons_succ]
      refine wpAnyH_take (i := 4) (v := undef) (by simp only [List.getElem?_toArray, List.getElem?_cons_succ, List.getElem?_cons_zero]; rfl) (by kernel_rfl) (by kernel_rfl) (by kernel_rfl) (by exact fun _ _ _ h => h) (Or.inr ⟨by kernel_rfl, rfl⟩) (by assumption) ?_
      simp only [Act.put, List.setIfInBounds_toArray, List.set_cons_zero, List.set_cons_succ]
      refine wpAnyH_take (i := 5) (v := ?_) (by simp only [List.getElem?_toArray, List.getElem?_cons_succ, List.getElem?_cons_zero]; rfl) (by kernel_rfl) (by kernel_rfl) (by kernel_rfl) (by exact fun _ _ _ h => h) (Or.inl ⟨by kernel_rfl, ?_⟩) (by assumption) ?_
      rotate_left
      · intro w hSw
        (try dsimp only at hSw)
        go_simp
        try with_reducible rfl
      simp only [Act.put, List.setIfInBounds_toArray, List.set_cons_zero, List.set_cons_succ]
      refine wpAnyH_take (i := 6) (v := ?_) (by simp only [List.getElem?_toArray, List.getElem?_cons_succ, List.getElem?_cons_zero]; rfl) (by kernel_rfl) (by kernel_rfl) (by kernel_rfl) (by exact fun _ _ _ h => h) (Or.inl ⟨by kernel_rfl, ?_⟩) (by assumption) ?_
      rotate_left
      · intro w hSw
        (try dsimp only at hSw)
        go_simp
        try with_reducible rfl
      simp only [Act.put, List.setIfInBounds_toArray, List.set_cons_zero, List.set_cons_succ]
      refine wpAnyH_take (i := 7) (v := undef) (by simp only [List.getElem?_toArray, List.getElem?_cons_succ, List.getElem?_cons_zero]; rfl) (by kernel_rfl) (by kernel_rfl) (by kernel_rfl) (by exact fun _ _ _ h => h) (Or.inr ⟨by kernel_rfl, rfl⟩) (by assumption) ?_
      simp only [Act.put, List.setIfInBounds_toArray, List.set_cons_zero, List.set_cons_succ]
      refine wpAnyH_take (i := 8) (v := undef) (by simp only [List.getElem?_toArray, List.getElem?_cons_succ, List.getElem?_cons_zero]; rfl) (by kernel_rfl) (by kernel_rfl) (by kernel_rfl) (by exact fun _ _ _ h => h) (Or.inr ⟨by kernel_rfl, rfl⟩) (by assumption) ?_
      simp only [Act.put, List.setIfInBounds_toArray, List.set_cons_zero, List.set_cons_succ]
      refine wpAnyH_take (i := 9) (v := undef) (by simp only [List.getElem?_toArray, List.getElem?_cons_succ, List.getElem?_cons_zero]; rfl) (by kernel_rfl) (by kernel_rfl) (by kernel_rfl) (by exact fun _ _ _ h => h) (Or.inr ⟨by kernel_rfl, rfl⟩) (by assumption) ?_
      simp only [Act.put, List.setIfInBounds_toArray, List.set_cons_zero, List.set_cons_succ]
      refine wpAnyH_take (i := 10) (v := undef) (by simp only [List.getElem?_toArray, List.getElem?_cons_succ, List.getElem?_cons_zero]; rfl) (by kernel_rfl) (by kernel_rfl) (by kernel_rfl) (by exact fun _ _ _ h => h) (Or.inr ⟨by kernel_rfl, rfl⟩) (by assumption) ?_
      simp only [Act.put, List.setIfInBounds_toArray, List.set_cons_zero, List.set_cons_succ]
      refine wpAnyH_take (i := 11) (v := undef) (by simp only [List.getElem?_toArray, List.getElem?_cons_succ, List.getElem?_cons_zero]; rfl) (by kernel_rfl) (by kernel_rfl) (by kernel_rfl) (by exact fun _ _ _ h => h) (Or.inr ⟨by kernel_rfl, rfl⟩) (by assumption) ?_
      simp only [Act.put, List.setIfInBounds_toArray, List.set_cons_zero, List.set_cons_succ]
      refine wpAnyH_take (i := 12) (v := undef) (by simp only [List.getElem?_toArray, List.getElem?_cons_succ, List.getElem?_cons_zero]; rfl) (by kernel_rfl) (by kernel_rfl) (by kernel_rfl) (by exact fun _ _ _ h => h) (Or.inr ⟨by kernel_rfl, rfl⟩) (by assumption) ?_
      simp only [Act.put, List.setIfInBounds_toArray, List.set_cons_zero, List.set_cons_succ]
      refine wpAnyH_take (i := 13) (v := undef) (by simp only [List.getElem?_toArray, List.getElem?_cons_succ, List.getElem?_cons_zero]; rfl) (by kernel_rfl) (by kernel_rfl) (by kernel_rfl) (by exact fun _ _ _ h => h) (Or.inr ⟨by kernel_rfl, rfl⟩) (by assumption) ?_
      simp only [Act.put, List.setIfInBounds_toArray, List.set_cons_zero, List.set_cons_succ]
      refine wpAnyH_take (i := 14) (v := ?_) (by simp only [List.getElem?_toArray, List.getElem?_cons_succ, List.getElem?_cons_zero]; rfl) (by kernel_rfl) (by kernel_rfl) (by kernel_rfl) (by exact fun _ _ _ h => h) (Or.inl ⟨by kernel_rfl, ?_⟩) (by assumption) ?_
      rotate_left
      · intro w hSw
        (try dsimp only at hSw)
        go_simp
        try with_reducible rfl
      simp only [Act.put, List.setIfInBounds_toArray, List.set_cons_zero, List.set_cons_succ]
      refine wpAnyH_take (i := 15) (v := ?_) (by simp only [List.getElem?_toArray, List.getElem?_cons_succ, List.getElem?_cons_zero]; rfl) (by kernel_rfl) (by kernel_rfl) (by kernel_rfl) (by exact fun _ _ _ h => h) (Or.inl ⟨by kernel_rfl, ?_⟩) (by assumption) ?_
      rotate_left
      · intro w hSw
        (try dsimp only at hSw)
        go_simp
        try with_reducible rfl
      simp only [Act.put, List.setIfInBounds_toArray, List.set_cons_zero, List.set_cons_succ]
      refine wpAnyH_ready (rs := [16]) (by kernel_rfl) (by simp) ?_
      refine AllReadyH.cons (by simp only [List.getElem?_toArray, List.getElem?_cons_succ, List.getElem?_cons_zero]; rfl) (fun K hK => ?_) AllReadyH.nil
      rw [if_pos (by kernel_rfl)]
      go_simp
      refine (awake3_any _).mono ?_
      rintro e wa ⟨rfl, ba⟩
      have hbd := Below.call (a := X) (Below.refl _ _).drew ba
      go_wp2_with fail
      refine hK.out _ _ ?_ (fun hHeld => ?_)
      · exact hbd
      clear hK K
      try simp only [Act.put, List.setIfInBounds_toArray, List.set_cons_zero, List.set_cons_succ]
      refine wpAnyH_take (i := 17) (v := ?_) (by simp only [List.getElem?_toArray, List.getElem?_cons_succ, List.getElem?_cons_zero]; rfl) (by kernel_rfl) (by kernel_rfl) (by kernel_rfl) (by exact fun _ _ _ h => h) (Or.inl ⟨by kernel_rfl, ?_⟩) (by assumption) ?_
      rotate_left
      · intro w hSw
        (try dsimp only at hSw)
        go_simp
        try with_reducible rfl
      simp only [Act.put, List.setIfInBounds_toArray, List.set_cons_zero, List.set_cons_succ]
      refine wpAnyH_take (i := 18) (v := ?_) (by simp only [List.getElem?_toArray, List.getElem?_cons_succ, List.getElem?_cons_zero]; rfl) (by kernel_rfl) (by kernel_rfl) (by kernel_rfl) (by exact fun _ _ _ h => h) (Or.inl ⟨by kernel_rfl, ?_⟩) (by assumption) ?_
      rotate_left
      · intro w hSw
        (try dsimp only at hSw)
        go_simp
        try with_reducible rfl
      simp only [Act.put, List.setIfInBounds_toArray, List.set_cons_zero, List.set_cons_succ]
      refine wpAnyH_done (by kernel_rfl) ?_ _
      go_wp2_with fail
      go_ret
      exact ⟨rfl, hb.trans (hbd.mono hb.size)⟩
    · obtain ⟨h1, h2⟩ := h
      subst h1 h2
      go_wp2_with fail
      refine wp_region_held_drew (S := fun w' => Below X.heap.size X w') (by kernel_rfl) ((Below.refl _ _).drew) (fun hHeld => ?_)
      refine wpAnyH_take (i := 0) (v := ?_) (by simp only [List.getElem?_toArray, List.getElem?_cons_succ, List.getElem?_cons_zero]; rfl) (by kernel_rfl) (by kernel_rfl) (by kernel_rfl) (by exact fun _ _ _ h => h) (Or.inl ⟨by kernel_rfl, ?_⟩) (by assumption) ?_
      rotate_left
      · intro w hSw
        (try dsimp only at hSw)
        go_simp
        try with_reducible rfl
      simp only [Act.put, List.setIfInBounds_toArray, List.set_cons_zero, List.set_cons_succ]
      refine wpAnyH_take (i := 1) (v := ?_) (by simp only [List.getElem?_toArray, List.getElem?_cons_succ, List.getElem?_cons_zero]; rfl) (by kernel_rfl) (by kernel_rfl) (by kernel_rfl) (by exact fun _ _ _ h => h) (Or.inl ⟨by kernel_rfl, ?_⟩) (by assumption) ?_
      rotate_left
      · intro w hSw
        (try dsimp only at hSw)
        go_simp
        try with_reducible rfl
      simp only [Act.put, List.setIfInBounds_toArray, List.set_cons_zero, List.set_cons_succ]
      refine wpAnyH_take (i := 2) (v := ?_) (by simp only [List.getElem?_toArray, List.getElem?_cons_succ, List.getElem?_cons_zero]; rfl) (by kernel_rfl) (by kernel_rfl) (by kernel_rfl) (by exact fun _ _ _ h => h) (Or.inl ⟨by kernel_rfl, ?_⟩) (by assumption) ?_
      rotate_left
      · intro w hSw
        (try dsimp only at hSw)
        go_simp
        try with_reducible rfl
      simp only [Act.put, List.setIfInBounds_toArray, List.set_cons_zero, List.set_cons_succ]
      refine wpAnyH_take (i := 3) (v := ?_) (by simp only [List.getElem?_toArray, List.getElem?_cons_succ, List.getElem?_cons_zero]; rfl) (by kernel_rfl) (by kernel_rfl) (by kernel_rfl) (by exact fun _ _ _ h => h) (Or.inl ⟨by kernel_rfl, ?_⟩) (by assumption) ?_
      rotate_left
      · intro w hSw
        (try dsimp only at hSw)
        go_simp
        try with_reducible rfl
      simp only [Act.put, List.setIfInBounds_toArray, List.set_cons_zero, List.set_cons_succ]
      refine wpAnyH_take (i := 4) (v := ?_) (by simp only [List.getElem?_toArray, List.getElem?_cons_succ, List.getElem?_cons_zero]; rfl) (by kernel_rfl) (by kernel_rfl) (by kernel_rfl) (by exact fun _ _ _ h => h) (Or.inl ⟨by kernel_rfl, ?_⟩) (by assumption) ?_
      rotate_left
      · intro w hSw
        (try dsimp only at hSw)
        go_simp
        try with_reducible rfl
      simp only [Act.put, List.setIfInBounds_toArray, List.set_cons_zero, List.set_cons_succ]
      refine wpAnyH_take (i := 5) (v := ?_) (by simp only [List.getElem?_toArray, List.getElem?_cons_succ, List.getElem?_cons_zero]; rfl) (by kernel_rfl) (by kernel_rfl) (by kernel_rfl) (by exact fun _ _ _ h => h) (Or.inl ⟨by kernel_rfl, ?_⟩) (by assumption) ?_
      rotate_left
      · intro w hSw
        (try dsimp only at hSw)
        go_simp
        try with_reducible rfl
      simp only [Act.put, List.setIfInBounds_toArray, List.set_cons_zero, List.set_cons_succ]
      refine wpAnyH_take (i := 6) (v := ?_) (by simp only [List.getElem?_toArray, List.getElem?_cons_succ, List.getElem?_cons_zero]; rfl) (by kernel_rfl) (by kernel_rfl) (by kernel_rfl) (by exact fun _ _ _ h => h) (Or.inl ⟨by kernel_rfl, ?_⟩) (by assumption) ?_
      rotate_left
      · intro w hSw
        (try dsimp only at hSw)
        go_simp
        try with_reducible rfl
      simp only [Act.put, List.setIfInBounds_toArray, List.set_cons_zero, List.set_cons_succ]
      refine wpAnyH_take (i := 7) (v := undef) (by simp only [List.getElem?_toArray, List.getElem?_cons_succ, List.getElem?_cons_zero]; rfl) (by kernel_rfl) (by kernel_rfl) (by kernel_rfl) (by exact fun _ _ _ h => h) (Or.inr ⟨by kernel_rfl, rfl⟩) (by assumption) ?_
      simp only [Act.put, List.setIfInBounds_toArray, List.set_cons_zero, List.set_cons_succ]
      refine wpAnyH_take (i := 8) (v := undef) (by simp only [List.getElem?_toArray, List.getElem?_cons_succ, List.getElem?_cons_zero]; rfl) (by kernel_rfl) (by kernel_rfl) (by kernel_rfl) (by exact fun _ _ _ h => h) (Or.inr ⟨by kernel_rfl, rfl⟩) (by assumption) ?_
      simp only [Act.put, List.setIfInBounds_toArray, List.set_cons_zero, List.set_cons_succ]
      refine wpAnyH_take (i := 9) (v := undef) (by simp only [List.getElem?_toArray, List.getElem?_cons_succ, List.getElem?_cons_zero]; rfl) (by kernel_rfl) (by kernel_rfl) (by kernel_rfl) (by exact fun _ _ _ h => h) (Or.inr ⟨by kernel_rfl, rfl⟩) (by assumption) ?_
      simp only [Act.put, List.setIfInBounds_toArray, List.set_cons_zero, List.set_cons_succ]
      refine wpAnyH_take (i := 10) (v := undef) (by simp only [List.getElem?_toArray, List.getElem?_cons_succ, List.getElem?_cons_zero]; rfl) (by kernel_rfl) (by kernel_rfl) (by kernel_rfl) (by exact fun _ _ _ h => h) (Or.inr ⟨by kernel_rfl, rfl⟩) (by assumption) ?_
      simp only [Act.put, List.setIfInBounds_toArray, List.set_cons_zero, List.set_cons_succ]
      refine wpAnyH_take (i := 11) (v := undef) (by simp only [List.getElem?_toArray, List.getElem?_cons_succ, List.getElem?_cons_zero]; rfl) (by kernel_rfl) (by kernel_rfl) (by kernel_rfl) (by exact fun _ _ _ h => h) (Or.inr ⟨by kernel_rfl, rfl⟩) (by assumption) ?_
      simp only [Act.put, List.setIfInBounds_toArray, List.set_cons_zero, List.set_cons_succ]
      refine wpAnyH_take (i := 12) (v := undef) (by simp only [List.getElem?_toArray, List.getElem?_cons_succ, List.getElem?_cons_zero]; rfl) (by kernel_rfl) (by kernel_rfl) (by kernel_rfl) (by exact fun _ _ _ h => h) (Or.inr ⟨by kernel_rfl, rfl⟩) (by assumption) ?_
      simp only [Act.put, List.setIfInBounds_toArray, List.set_cons_zero, List.set_cons_succ]
      refine wpAnyH_take (i := 13) (v := undef) (by simp only [List.getElem?_toArray, List.getElem?_cons_succ, List.getElem?_cons_zero]; rfl) (by kernel_rfl) (by kernel_rfl) (by kernel_rfl) (by exact fun _ _ _ h => h) (Or.inr ⟨by kernel_rfl, rfl⟩) (by assumption) ?_
      simp only [Act.put, List.setIfInBounds_toArray, List.set_cons_zero, List.set_cons_succ]
      refine wpAnyH_take (i := 14) (v := ?_) (by simp only [List.getElem?_toArray, List.getElem?_cons_succ, List.getElem?_cons_zero]; rfl) (by kernel_rfl) (by kernel_rfl) (by kernel_rfl) (by exact fun _ _ _ h => h) (Or.inl ⟨by kernel_rfl, ?_⟩) (by assumption) ?_
      rotate_left
      · intro w hSw
        (try dsimp only at hSw)
        go_simp
        try with_reducible rfl
      simp only [Act.put, List.setIfInBounds_toArray, List.set_cons_zero, List.set_cons_succ]
      refine wpAnyH_take (i := 15) (v := ?_) (by simp only [List.getElem?_toArray, List.getElem?_cons_succ, List.getElem?_cons_zero]; rfl) (by kernel_rfl) (by kernel_rfl) (by kernel_rfl) (by exact fun _ _ _ h => h) (Or.inl ⟨by kernel_rfl, ?_⟩) (by assumption) ?_
      rotate_left
      · intro w hSw
        (try dsimp only at hSw)
        go_simp
        try with_reducible rfl
      simp only [Act.put, List.setIfInBounds_toArray, List.set_cons_zero, List.set_cons_succ]
      refine wpAnyH_ready (rs := [16]) (by kernel_rfl) (by simp) ?_
      refine AllReadyH.cons (by simp only [List.getElem?_toArray, List.getElem?_cons_succ, List.getElem?_cons_zero]; rfl) (fun K hK => ?_) AllReadyH.nil
      rw [if_pos (by kernel_rfl)]
      go_simp
      refine (awake3_any _).mono ?_
      rintro e wa ⟨rfl, ba⟩
      have hbd := Below.call (a := X) (Below.refl _ _).drew ba
      go_wp2_with fail
      refine hK.out _ _ ?_ (fun hHeld => ?_)
      · exact hbd
      clear hK K
      try simp only [Act.put, List.setIfInBounds_toArray, List.set_cons_zero, List.set_cons_succ]
      refine wpAnyH_take (i := 17) (v := ?_) (by simp only [List.getElem?_toArray, List.getElem?_cons_succ, List.getElem?_cons_zero]; rfl) (by kernel_rfl) (by kernel_rfl) (by kernel_rfl) (by exact fun _ _ _ h => h) (Or.inl ⟨by kernel_rfl, ?_⟩) (by assumption) ?_
      rotate_left
      · intro w hSw
        (try dsimp only at hSw)
        go_simp
        try with_reducible rfl
      simp only [Act.put, List.setIfInBounds_toArray, List.set_cons_zero, List.set_cons_succ]
      refine wpAnyH_take (i := 18) (v := ?_) (by simp only [List.getElem?_toArray, List.getElem?_cons_succ, List.getElem?_cons_zero]; rfl) (by kernel_rfl) (by kernel_rfl) (by kernel_rfl) (by exact fun _ _ _ h => h) (Or.inl ⟨by kernel_rfl, ?_⟩) (by assumption) ?_
      rotate_left
      · intro w hSw
        (try dsimp only at hSw)
        go_simp
        try with_reducible rfl
      simp only [Act.put, List.setIfInBounds_toArray, List.set_cons_zero, List.set_cons_succ]
      refine wpAnyH_done (by kernel_rfl) ?_ _
      go_wp2_with fail
      go_ret
      exact ⟨rfl, hb.trans (hbd.mono hb.size)⟩
    · obtain ⟨⟨h1, h2⟩, h3⟩ := h
      subst h1 h2 h3
      go_wp2_with fail
      go_region_held3 (fun w' => Below X.heap.size X w' ∧ w'.cell? ⟨w.heap.size, 0, none⟩ = some (.int .u8 f) ∧ w'.cell? ⟨w.heap.size, 1, none⟩ = some (.int .u8 x) ∧ w'.cell? ⟨w.heap.size, 2, none⟩ = some (.slice Ab nb cb) ∧ w'.cell? ⟨w.heap.size, 3, none⟩ = some (.slice Aw nw cw) ∧ w'.cell? ⟨w.heap.size, 4, none⟩ = some (.int .u16 a) ∧ w'.cell? ⟨w.heap.size, 5, none⟩ = some (.int .u16 m) ∧ w'.cell? ⟨w.heap.size + 1, 0, none⟩ = some (.int .u8 f2) ∧ w'.cell? ⟨w.heap.size + 1, 1, none⟩ = some (.int .u8 x2) ∧ w'.cell? ⟨w.heap.size + 1, 2, none⟩ = some (.slice Ab2 nb2 cb2) ∧ w'.cell? ⟨w.heap.size + 1, 3, none⟩ = some (.slice Aw2 nw2 cw2) ∧ w'.cell? ⟨w.heap.size + 1, 4, none⟩ = some (.int .u16 a2) ∧ w'.cell? ⟨w.heap.size + 1, 5, none⟩ = some (.int .u16 m2))
        (first | exact keep12r hbd RA.out RO.out | exact keep12r (Below.refl _ _) RA.out RO.out | exact keep12r (Below.refl _ _).drew RA.out RO.out)
        (first
          | (go_at_call 19; refine (KS.out _ (by first | exact hbd | exact (Below.refl _ _).drew)).mono ?_; rintro e ws ⟨rfl, rfl⟩; have hbd := (Below.refl X.heap.size X).drew)
          | (go_at_call 36; refine (KT.out _ (by first | exact hbd | exact (Below.refl _ _).drew)).mono ?_; rintro e wt ⟨rfl, bt⟩; have hbd := Below.call (a := X) (by first | assumption | exact (Below.refl _ _).drew) bt)
          | (go_at_call 29; refine (awake3_any _).mono ?_; rintro e wa ⟨rfl, ba⟩; have hbd := Below.call (a := X) (by first | assumption | exact (Below.refl _ _).drew) ba))
      go_wp2_with fail
      go_ret
      exact ⟨rfl, hb.trans (hbd.mono hb.size)⟩
  · rw [hp] at he SW SB
    obtain rfl := he
    dsimp only at SW SB ⊢
    have hsm := rright_small hr
    dsimp only at hsm
    have gqB : gB.length = pnb := by simpa using SB.len
    have gqW : gW.length = pnw := by simpa using SW.len
    have KR := Lib.hid (fun Y (b : Below w1.heap.size w1 Y) => repBytes_any g gx pAb pnb pcb pAw pnw pcw ga gm gB gW Y (SB.to b) (SW.to b) hrw (by omega) (by omega))
    have eR : rbytesE ⟨g, gx, gB, gW, ga, gm⟩ = (xs, 0) := by unfold rbytesE; rw [if_pos hr, hrb]
    rw [eR] at KR
    have KG := Lib.hid (fun Y (b : Below w1.heap.size w1 Y) => repRight_any g gx pAb pnb pcb pAw pnw pcw ga gm gB gW Y (SB.to b) (SW.to b) (by omega) (by omega))
    rw [hr] at KG
    have rq := heap_alloc_new w1 (.cells #[.int .u8 (g : Nat), .int .u8 (gx : Nat), .slice pAb pnb pcb, .slice pAw pnw pcw, .int .u16 (ga : Nat), .int .u16 (gm : Nat)] 49)
    have ra := row_alloc ra (.cells #[.int .u8 (g : Nat), .int .u8 (gx : Nat), .slice pAb pnb pcb, .slice pAw pnw pcw, .int .u16 (ga : Nat), .int .u16 (gm : Nat)] 49)
    have ro := row_alloc ro (.cells #[.int .u8 (g : Nat), .int .u8 (gx : Nat), .slice pAb pnb pcb, .slice pAw pnw pcw, .int .u16 (ga : Nat), .int .u16 (gm : Nat)] 49)
    have hb := hb.new (.cells #[.int .u8 (g : Nat), .int .u8 (gx : Nat), .slice pAb pnb pcb, .slice pAw pnw pcw, .int .u16 (ga : Nat), .int .u16 (gm : Nat)] 49)
    have hb1 := (Below.refl w1.heap.size w1).new (.cells #[.int .u8 (g : Nat), .int .u8 (gx : Nat), .slice pAb pnb pcb, .slice pAw pnw pcw, .int .u16 (ga : Nat), .int .u16 (gm : Nat)] 49)
    clear hp SW SB oW oB hcw hcb hr hrb hrw eR hsm gqB gqW
    go_wp2_with fail
    refine (KR.out _ hb1).mono ?_
    rintro e w2 ⟨vc, rfl, Hc⟩
    obtain ⟨Ac, cc, rfl, _, Sc, _⟩ := Hc.slice
    have rq := Hc.bel.row (row_lt rq) rq
    have ra := Hc.bel.row (row_lt ra) ra
    have ro := Hc.bel.row (row_lt ro) ro
    have hb := hb.call Hc.bel
    have hb1 := hb1.call Hc.bel
    clear Hc
    obtain ⟨q0, q1, q2, q3, q4, q5⟩ := row6 rq
    go_wp2_with fail
    refine (KG.out _ hb1).mono ?_
    rintro e w3 ⟨rfl, b3⟩
    have ra := b3.row (row_lt ra) ra
    have ro := b3.row (row_lt ro) ro
    have hb := hb.call b3
    have Sc := Sc.to b3
    clear b3 hb1
    go_wp2_with fail
    refine (KX.out _ _ _ hb Sc).mono ?_
    rintro e w4 ⟨rfl, rfl⟩
    rw [beq_self_eq_true]
    obtain ⟨c0, c1, c2, c3, c4, c5⟩ := row6 ra
    obtain ⟨d0, d1, d2, d3, d4, d5⟩ := row6 ro
    go_wp2_with fail
    refine (KA.out _ hb).mono ?_
    rintro e w5 ⟨va, rfl, Ha⟩
    obtain ⟨Aa, ca, rfl, _, Sa, _⟩ := Ha.slice
    have ra := Ha.bel.row (row_lt ra) ra
    have ro := Ha.bel.row (row_lt ro) ro
    have hb := hb.call Ha.bel
    clear Ha
    obtain ⟨c0, c1, c2, c3, c4, c5⟩ := row6 ra
    obtain ⟨d0, d1, d2, d3, d4, d5⟩ := row6 ro
    go_wp2_with fail
    refine (KO.out _ hb).mono ?_
    rintro e X ⟨vo, rfl, Ho⟩
    obtain ⟨Ao, co, rfl, _, So, _⟩ := Ho.slice
    have Sa := Sa.to Ho.bel
    have RA := Lib.hid (Ho.bel.row (row_lt ra) ra)
    have RO := Lib.hid (Ho.bel.row (row_lt ro) ro)
    have hb := hb.call Ho.bel
    clear Ho c0 c1 c2 c3 c4 c5 d0 d1 d2 d3 d4 d5 ra ro
    have KS := Lib.hid (fun Y (b : Below X.heap.size X Y) => KS0.out Y Aa ca Ao co (Sa.to b) (So.to b))
    have KT := Lib.hid (fun Y (b : Below X.heap.size X Y) => KT0.out Y (hb.trans (b.mono hb.size)))
    clear Sa So KS0 KT0 KA KO
    rcases HC.out with h | h | h
    · obtain ⟨h1, h2⟩ := h
      subst h1
      go_wp2_with fail
      refine wp_region_held_drew (S := fun w' => Below X.heap.size X w') (by kernel_rfl) ((Below.refl _ _).drew) (fun hHeld => ?_)
      refine wpAnyH_take (i := 0) (v := ?_) (by simp only [List.getElem?_toArray, List.getElem?_cons_succ, List.getElem?_cons_zero]; rfl) (by kernel_rfl) (by kernel_rfl) (by kernel_rfl) (by exact fun _ _ _ h => h) (Or.inl ⟨by kernel_rfl, ?_⟩) (by assumption) ?_
      rotate_left
      · intro w hSw
        (try dsimp only at hSw)
        go_simp
        try with_reducible rfl
      simp only [Act.put, List.setIfInBounds_toArray, List.set_cons_zero, List.set_cons_succ]
      refine wpAnyH_take (i := 1) (v := ?_) (by simp only [List.getElem?_toArray, List.getElem?_cons_succ, List.getElem?_cons_zero]; rfl) (by kernel_rfl) (by kernel_rfl) (by kernel_rfl) (by exact fun _ _ _ h => h) (Or.inl ⟨by kernel_rfl, ?_⟩) (by assumption) ?_
      rotate_left
      · intro w hSw
        (try dsimp only at hSw)
        go_simp
        try with_reducible rfl
      simp only [Act.put, List.setIfInBounds_toArray, List.set_cons_zero, List.set_cons_succ]
      refine wpAnyH_take (i := 2) (v := ?_) (by simp only [List.getElem?_toArray, List.getElem?_cons_succ, List.getElem?_cons_zero]; rfl) (by kernel_rfl) (by kernel_rfl) (by kernel_rfl) (by exact fun _ _ _ h => h) (Or.inl ⟨by kernel_rfl, ?_⟩) (by assumption) ?_
      rotate_left
      · intro w hSw
        (try dsimp only at hSw)
        go_simp
        try with_reducible rfl
      simp only [Act.put, List.setIfInBounds_toArray, List.set_cons_zero, List.set_cons_succ]
      refine wpAnyH_take (i := 3) (v := undef) (by simp only [List.getElem?_toArray, List.getElem?_cons_succ, List.getElem?_cons_zero]; rfl) (by kernel_rfl) (by kernel_rfl) (by kernel_rfl) (by exact fun _ _ _ h => h) (Or.inr ⟨by kernel_rfl, rfl⟩) (by assumption) ?_
      simp only [Act.put, List.setIfInBounds_toArray, List.set_cons_zero, List.set_cons_succ]
      refine wpAnyH_take (i := 4) (v := undef) (by simp only [List.getElem?_toArray, List.getElem?_cons_succ, List.getElem?_cons_zero]; rfl) (by kernel_rfl) (by kernel_rfl) (by kernel_rfl) (by exact fun _ _ _ h => h) (Or.inr ⟨by kernel_rfl, rfl⟩) (by assumption) ?_
      simp only [Act.put, List.setIfInBounds_toArray, List.set_cons_zero, List.set_cons_succ]
      refine wpAnyH_take (i := 5) (v := ?_) (by simp only [List.getElem?_toArray, List.getElem?_cons_succ, List.getElem?_cons_zero]; rfl) (by kernel_rfl) (by kernel_rfl) (by kernel_rfl) (by exact fun _ _ _ h => h) (Or.inl ⟨by kernel_rfl, ?_⟩) (by assumption) ?_
      rotate_left
      · intro w hSw
        (try dsimp only at hSw)
        go_simp
        try with_reducible rfl
      simp only [Act.put, List.setIfInBounds_toArray, List.set_cons_zero, List.set_cons_succ]
      refine wpAnyH_take (i := 6) (v := ?_) (by simp only [List.getElem?_toArray, List.getElem?_cons_succ, List.getElem?_cons_zero]; rfl) (by kernel_rfl) (by kernel_rfl) (by kernel_rfl) (by exact fun _ _ _ h => h) (Or.inl ⟨by kernel_rfl, ?_⟩) (by assumption) ?_
      rotate_left
      · intro w hSw
        (try dsimp only at hSw)
        go_simp
        try with_reducible rfl
      simp only [Act.put, List.setIfInBounds_toArray, List.set_cons_zero, List.set_cons_succ]
      refine wpAnyH_take (i := 7) (v := undef) (by simp only [List.getElem?_toArray, List.getElem?_cons_succ, List.getElem?_cons_zero]; rfl) (by kernel_rfl) (by kernel_rfl) (by kernel_rfl) (by exact fun _ _ _ h => h) (Or.inr ⟨by kernel_rfl, rfl⟩) (by assumption) ?_
      simp only [Act.put, List.setIfInBounds_toArray, List.set_cons_zero, List.set_cons_succ]
      refine wpAnyH_take (i := 8) (v := undef) (by simp only [List.getElem?_toArray, List.getElem?_cons_succ, List.getElem?_cons_zero]; rfl) (by kernel_rfl) (by kernel_rfl) (by kernel_rfl) (by exact fun _ _ _ h => h) (Or.inr ⟨by kernel_rfl, rfl⟩) (by assumption) ?_
      simp only [Act.put, List.setIfInBounds_toArray, List.set_cons_zero, List.set_cons_succ]
      refine wpAnyH_take (i := 9) (v := undef) (by simp only [List.getElem?_toArray, List.getElem?_cons_succ, List.getElem?_cons_zero]; rfl) (by kernel_rfl) (by kernel_rfl) (by kernel_rfl) (by exact fun _ _ _ h => h) (Or.inr ⟨by kernel_rfl, rfl⟩) (by assumption) ?_
      simp only [Act.put, List.setIfInBounds_toArray, List.set_cons_zero, List.set_cons_succ]
      refine wpAnyH_take (i := 10) (v := undef) (by simp only [List.getElem?_toArray, List.getElem?_cons_succ, List.getElem?_cons_zero]; rfl) (by kernel_rfl) (by kernel_rfl) (by kernel_rfl) (by exact fun _ _ _ h => h) (Or.inr ⟨by kernel_rfl, rfl⟩) (by assumption) ?_
      simp only [Act.put, List.setIfInBounds_toArray, List.set_cons_zero, List.set_cons_succ]
      refine wpAnyH_take (i := 11) (v := undef) (by simp only [List.getElem?_toArray, List.getElem?_cons_succ, List.getElem?_cons_zero]; rfl) (by kernel_rfl) (by kernel_rfl) (by kernel_rfl) (by exact fun _ _ _ h => h) (Or.inr ⟨by kernel_rfl, rfl⟩) (by assumption) ?_
      simp only [Act.put, List.setIfInBounds_toArray, List.set_cons_zero, List.set_cons_succ]
      refine wpAnyH_take (i := 12) (v := undef) (by simp only [List.getElem?_toArray, List.getElem?_cons_succ, List.getElem?_cons_zero]; rfl) (by kernel_rfl) (by kernel_rfl) (by kernel_rfl) (by exact fun _ _ _ h => h) (Or.inr ⟨by kernel_rfl, rfl⟩) (by assumption) ?_
      simp only [Act.put, List.setIfInBounds_toArray, List.set_cons_zero, List.set_cons_succ]
      refine wpAnyH_take (i := 13) (v := undef) (by simp only [List.getElem?_toArray, List.getElem?_cons_succ, List.getElem?_cons_zero]; rfl) (by kernel_rfl) (by kernel_rfl) (by kernel_rfl) (by exact fun _ _ _ h => h) (Or.inr ⟨by kernel_rfl, rfl⟩) (by assumption) ?_
      simp only [Act.put, List.setIfInBounds_toArray, List.set_cons_zero, List.set_cons_succ]
      refine wpAnyH_take (i := 14) (v := ?_) (by simp only [List.getElem?_toArray, List.getElem?_cons_succ, List.getElem?_cons_zero]; rfl) (by kernel_rfl) (by kernel_rfl) (by kernel_rfl) (by exact fun _ _ _ h => h) (Or.inl ⟨by kernel_rfl, ?_⟩) (by assumption) ?_
      rotate_left
      · intro w hSw
        (try dsimp only at hSw)
        go_simp
        try with_reducible rfl
      simp only [Act.put, List.setIfInBounds_toArray, List.set_cons_zero, List.set_cons_succ]
      refine wpAnyH_take (i := 15) (v := ?_) (by simp only [List.getElem?_toArray, List.getElem?_cons_succ, List.getElem?_cons_zero]; rfl) (by kernel_rfl) (by kernel_rfl) (by kernel_rfl) (by exact fun _ _ _ h => h) (Or.inl ⟨by kernel_rfl, ?_⟩) (by assumption) ?_
      rotate_left
      · intro w hSw
        (try dsimp only at hSw)
        go_simp
        try with_reducible rfl
      simp only [Act.put, List.setIfInBounds_toArray, List.set_cons_zero, List.set_cons_succ]
      refine wpAnyH_ready (rs := [16]) (by kernel_rfl) (by simp) ?_
      refine AllReadyH.cons (by simp only [List.getElem?_toArray, List.getElem?_cons_succ, List.getElem?_cons_zero]; rfl) (fun K hK => ?_) AllReadyH.nil
      rw [if_pos (by kernel_rfl)]
      go_simp
      refine (awake3_any _).mono ?_
      rintro e wa ⟨rfl, ba⟩
      have hbd := Below.call (a := X) (Below.refl _ _).drew ba
      go_wp2_with fail
      refine hK.out _ _ ?_ (fun hHeld => ?_)
      · exact hbd
      clear hK K
      try simp only [Act.put, List.setIfInBounds_toArray, List.set_cons_zero, List.set_cons_succ]
      refine wpAnyH_take (i := 17) (v := ?_) (by simp only [List.getElem?_toArray, List.getElem?_cons_succ, List.getElem?_cons_zero]; rfl) (by kernel_rfl) (by kernel_rfl) (by kernel_rfl) (by exact fun _ _ _ h => h) (Or.inl ⟨by kernel_rfl, ?_⟩) (by assumption) ?_
      rotate_left
      · intro w hSw
        (try dsimp only at hSw)
        go_simp
        try with_reducible rfl
      simp only [Act.put, List.setIfInBounds_toArray, List.set_cons_zero, List.set_cons_succ]
      refine wpAnyH_take (i := 18) (v := ?_) (by simp only [List.getElem?_toArray, List.getElem?_cons_succ, List.getElem?_cons_zero]; rfl) (by kernel_rfl) (by kernel_rfl) (by kernel_rfl) (by exact fun _ _ _ h => h) (Or.inl ⟨by kernel_rfl, ?_⟩) (by assumption) ?_
      rotate_left
      · intro w hSw
        (try dsimp only at hSw)
        go_simp
        try with_reducible rfl
      simp only [Act.put, List.setIfInBounds_toArray, List.set_cons_zero, List.set_cons_succ]
      refine wpAnyH_done (by kernel_rfl) ?_ _
      go_wp2_with fail
      go_ret
      exact ⟨rfl, hb.trans (hbd.mono hb.size)⟩
    · obtain ⟨h1, h2⟩ := h
      subst h1 h2
      go_wp2_with fail
      refine wp_region_held_drew (S := fun w' => Below X.heap.size X w') (by kernel_rfl) ((Below.refl _ _).drew) (fun hHeld => ?_)
      refine wpAnyH_take (i := 0) (v := ?_) (by simp only [List.getElem?_toArray, List.getElem?_cons_succ, List.getElem?_cons_zero]; rfl) (by kernel_rfl) (by kernel_rfl) (by kernel_rfl) (by exact fun _ _ _ h => h) (Or.inl ⟨by kernel_rfl, ?_⟩) (by assumption) ?_
      rotate_left
      · intro w hSw
        (try dsimp only at hSw)
        go_simp
        try with_reducible rfl
      simp only [Act.put, List.setIfInBounds_toArray, List.set_cons_zero, List.set_cons_succ]
      refine wpAnyH_take (i := 1) (v := ?_) (by simp only [List.getElem?_toArray, List.getElem?_cons_succ, List.getElem?_cons_zero]; rfl) (by kernel_rfl) (by kernel_rfl) (by kernel_rfl) (by exact fun _ _ _ h => h) (Or.inl ⟨by kernel_rfl, ?_⟩) (by assumption) ?_
      rotate_left
      · intro w hSw
        (try dsimp only at hSw)
        go_simp
        try with_reducible rfl
      simp only [Act.put, List.setIfInBounds_toArray, List.set_cons_zero, List.set_cons_succ]
      refine wpAnyH_take (i := 2) (v := ?_) (by simp only [List.getElem?_toArray, List.getElem?_cons_succ, List.getElem?_cons_zero]; rfl) (by kernel_rfl) (by kernel_rfl) (by kernel_rfl) (by exact fun _ _ _ h => h) (Or.inl ⟨by kernel_rfl, ?_⟩) (by assumption) ?_
      rotate_left
      · intro w hSw
        (try dsimp only at hSw)
        go_simp
        try with_reducible rfl
      simp only [Act.put, List.setIfInBounds_toArray, List.set_cons_zero, List.set_cons_succ]
      refine wpAnyH_take (i := 3) (v := ?_) (by simp only [List.getElem?_toArray, List.getElem?_cons_succ, List.getElem?_cons_zero]; rfl) (by kernel_rfl) (by kernel_rfl) (by kernel_rfl) (by exact fun _ _ _ h => h) (Or.inl ⟨by kernel_rfl, ?_⟩) (by assumption) ?_
      rotate_left
      · intro w hSw
        (try dsimp only at hSw)
        go_simp
        try with_reducible rfl
      simp only [Act.put, List.setIfInBounds_toArray, List.set_cons_zero, List.set_cons_succ]
      refine wpAnyH_take (i := 4) (v := ?_) (by simp only [List.getElem?_toArray, List.getElem?_cons_succ, List.getElem?_cons_zero]; rfl) (by kernel_rfl) (by kernel_rfl) (by kernel_rfl) (by exact fun _ _ _ h => h) (Or.inl ⟨by kernel_rfl, ?_⟩) (by assumption) ?_
      rotate_left
      · intro w hSw
        (try dsimp only at hSw)
        go_simp
        try with_reducible rfl
      simp only [Act.put, List.setIfInBounds_toArray, List.set_cons_zero, List.set_cons_succ]
      refine wpAnyH_take (i := 5) (v := ?_) (by simp only [List.getElem?_toArray, List.getElem?_cons_succ, List.getElem?_cons_zero]; rfl) (by kernel_rfl) (by kernel_rfl) (by kernel_rfl) (by exact fun _ _ _ h => h) (Or.inl ⟨by kernel_rfl, ?_⟩) (by assumption) ?_
      rotate_left
      · intro w hSw
        (try dsimp only at hSw)
        go_simp
        try with_reducible rfl
      simp only [Act.put, List.setIfInBounds_toArray, List.set_cons_zero, List.set_cons_succ]
      refine wpAnyH_take (i := 6) (v := ?_) (by simp only [List.getElem?_toArray, List.getElem?_cons_succ, List.getElem?_cons_zero]; rfl) (by kernel_rfl) (by kernel_rfl) (by kernel_rfl) (by exact fun _ _ _ h => h) (Or.inl ⟨by kernel_rfl, ?_⟩) (by assumption) ?_
      rotate_left
      · intro w hSw
        (try dsimp only at hSw)
        go_simp
        try with_reducible rfl
      simp only [Act.put, List.setIfInBounds_toArray, List.set_cons_zero, List.set_cons_succ]
      refine wpAnyH_take (i := 7) (v := undef) (by simp only [List.getElem?_toArray, List.getElem?_cons_succ, List.getElem?_cons_zero]; rfl) (by kernel_rfl) (by kernel_rfl) (by kernel_rfl) (by exact fun _ _ _ h => h) (Or.inr ⟨by kernel_rfl, rfl⟩) (by assumption) ?_
      simp only [Act.put, List.setIfInBounds_toArray, List.set_cons_zero, List.set_cons_succ]
      refine wpAnyH_take (i := 8) (v := undef) (by simp only [List.getElem?_toArray, List.getElem?_cons_succ, List.getElem?_cons_zero]; rfl) (by kernel_rfl) (by kernel_rfl) (by kernel_rfl) (by exact fun _ _ _ h => h) (Or.inr ⟨by kernel_rfl, rfl⟩) (by assumption) ?_
      simp only [Act.put, List.setIfInBounds_toArray, List.set_cons_zero, List.set_cons_succ]
      refine wpAnyH_take (i := 9) (v := undef) (by simp only [List.getElem?_toArray, List.getElem?_cons_succ, List.getElem?_cons_zero]; rfl) (by kernel_rfl) (by kernel_rfl) (by kernel_rfl) (by exact fun _ _ _ h => h) (Or.inr ⟨by kernel_rfl, rfl⟩) (by assumption) ?_
      simp only [Act.put, List.setIfInBounds_toArray, List.set_cons_zero, List.set_cons_succ]
      refine wpAnyH_take (i := 10) (v := undef) (by simp only [List.getElem?_toArray, List.getElem?_cons_succ, List.getElem?_cons_zero]; rfl) (by kernel_rfl) (by kernel_rfl) (by kernel_rfl) (by exact fun _ _ _ h => h) (Or.inr ⟨by kernel_rfl, rfl⟩) (by assumption) ?_
      simp only [Act.put, List.setIfInBounds_toArray, List.set_cons_zero, List.set_cons_succ]
      refine wpAnyH_take (i := 11) (v := undef) (by simp only [List.getElem?_toArray, List.getElem?_cons_succ, List.getElem?_cons_zero]; rfl) (by kernel_rfl) (by kernel_rfl) (by kernel_rfl) (by exact fun _ _ _ h => h) (Or.inr ⟨by kernel_rfl, rfl⟩) (by assumption) ?_
      simp only [Act.put, List.setIfInBounds_toArray, List.set_cons_zero, List.set_cons_succ]
      refine wpAnyH_take (i := 12) (v := undef) (by simp only [List.getElem?_toArray, List.getElem?_cons_succ, List.getElem?_cons_zero]; rfl) (by kernel_rfl) (by kernel_rfl) (by kernel_rfl) (by exact fun _ _ _ h => h) (Or.inr ⟨by kernel_rfl, rfl⟩) (by assumption) ?_
      simp only [Act.put, List.setIfInBounds_toArray, List.set_cons_zero, List.set_cons_succ]
      refine wpAnyH_take (i := 13) (v := undef) (by simp only [List.getElem?_toArray, List.getElem?_cons_succ, List.getElem?_cons_zero]; rfl) (by kernel_rfl) (by kernel_rfl) (by kernel_rfl) (by exact fun _ _ _ h => h) (Or.inr ⟨by kernel_rfl, rfl⟩) (by assumption) ?_
      simp only [Act.put, List.setIfInBounds_toArray, List.set_cons_zero, List.set_cons_succ]
      refine wpAnyH_take (i := 14) (v := ?_) (by simp only [List.getElem?_toArray, List.getElem?_cons_succ, List.getElem?_cons_zero]; rfl) (by kernel_rfl) (by kernel_rfl) (by kernel_rfl) (by exact fun _ _ _ h => h) (Or.inl ⟨by kernel_rfl, ?_⟩) (by assumption) ?_
      rotate_left
      · intro w hSw
        (try dsimp only at hSw)
        go_simp
        try with_reducible rfl
      simp only [Act.put, List.setIfInBounds_toArray, List.set_cons_zero, List.set_cons_succ]
      refine wpAnyH_take (i := 15) (v := ?_) (by simp only [List.getElem?_toArray, List.getElem?_cons_succ, List.getElem?_cons_zero]; rfl) (by kernel_rfl) (by kernel_rfl) (by kernel_rfl) (by exact fun _ _ _ h => h) (Or.inl ⟨by kernel_rfl, ?_⟩) (by assumption) ?_
      rotate_left
      · intro w hSw
        (try dsimp only at hSw)
        go_simp
        try with_reducible rfl
      simp only [Act.put, List.setIfInBounds_toArray, List.set_cons_zero, List.set_cons_succ]
      refine wpAnyH_ready (rs := [16]) (by kernel_rfl) (by simp) ?_
      refine AllReadyH.cons (by simp only [List.getElem?_toArray, List.getElem?_cons_succ, List.getElem?_cons_zero]; rfl) (fun K hK => ?_) AllReadyH.nil
      rw [if_pos (by kernel_rfl)]
      go_simp
      refine (awake3_any _).mono ?_
      rintro e wa ⟨rfl, ba⟩
      have hbd := Below.call (a := X) (Below.refl _ _).drew ba
      go_wp2_with fail
      refine hK.out _ _ ?_ (fun hHeld => ?_)
      · exact hbd
      clear hK K
      try simp only [Act.put, List.setIfInBounds_toArray, List.set_cons_zero, List.set_cons_succ]
      refine wpAnyH_take (i := 17) (v := ?_) (by simp only [List.getElem?_toArray, List.getElem?_cons_succ, List.getElem?_cons_zero]; rfl) (by kernel_rfl) (by kernel_rfl) (by kernel_rfl) (by exact fun _ _ _ h => h) (Or.inl ⟨by kernel_rfl, ?_⟩) (by assumption) ?_
      rotate_left
      · intro w hSw
        (try dsimp only at hSw)
        go_simp
        try with_reducible rfl
      simp only [Act.put, List.setIfInBounds_toArray, List.set_cons_zero, List.set_cons_succ]
      refine wpAnyH_take (i := 18) (v := ?_) (by simp only [List.getElem?_toArray, List.getElem?_cons_succ, List.getElem?_cons_zero]; rfl) (by kernel_rfl) (by kernel_rfl) (by kernel_rfl) (by exact fun _ _ _ h => h) (Or.inl ⟨by kernel_rfl, ?_⟩) (by assumption) ?_
      rotate_left
      · intro w hSw
        (try dsimp only at hSw)
        go_simp
        try with_reducible rfl
      simp only [Act.put, List.setIfInBounds_toArray, List.set_cons_zero, List.set_cons_succ]
      refine wpAnyH_done (by kernel_rfl) ?_ _
      go_wp2_with fail
      go_ret
      exact ⟨rfl, hb.trans (hbd.mono hb.size)⟩
    · obtain ⟨⟨h1, h2⟩, h3⟩ := h
      subst h1 h2 h3
      go_wp2_with fail
      go_region_held3 (fun w' => Below X.heap.size X w' ∧ w'.cell? ⟨w.heap.size, 0, none⟩ = some (.int .u8 f) ∧ w'.cell? ⟨w.heap.size, 1, none⟩ = some (.int .u8 x) ∧ w'.cell? ⟨w.heap.size, 2, none⟩ = some (.slice Ab nb cb) ∧ w'.cell? ⟨w.heap.size, 3, none⟩ = some (.slice Aw nw cw) ∧ w'.cell? ⟨w.heap.size, 4, none⟩ = some (.int .u16 a) ∧ w'.cell? ⟨w.heap.size, 5, none⟩ = some (.int .u16 m) ∧ w'.cell? ⟨w.heap.size + 1, 0, none⟩ = some (.int .u8 f2) ∧ w'.cell? ⟨w.heap.size + 1, 1, none⟩ = some (.int .u8 x2) ∧ w'.cell? ⟨w.heap.size + 1, 2, none⟩ = some (.slice Ab2 nb2 cb2) ∧ w'.cell? ⟨w.heap.size + 1, 3, none⟩ = some (.slice Aw2 nw2 cw2) ∧ w'.cell? ⟨w.heap.size + 1, 4, none⟩ = some (.int .u16 a2) ∧ w'.cell? ⟨w.heap.size + 1, 5, none⟩ = some (.int .u16 m2))
        (first | exact keep12r hbd RA.out RO.out | exact keep12r (Below.refl _ _) RA.out RO.out | exact keep12r (Below.refl _ _).drew RA.out RO.out)
        (first
          | (go_at_call 19; refine (KS.out _ (by first | exact hbd | exact (Below.refl _ _).drew)).mono ?_; rintro e ws ⟨rfl, rfl⟩; have hbd := (Below.refl X.heap.size X).drew)
          | (go_at_call 36; refine (KT.out _ (by first | exact hbd | exact (Below.refl _ _).drew)).mono ?_; rintro e wt ⟨rfl, bt⟩; have hbd := Below.call (a := X) (by first | assumption | exact (Below.refl _ _).drew) bt)
          | (go_at_call 29; refine (awake3_any _).mono ?_; rintro e wa ⟨rfl, ba⟩; have hbd := Below.call (a := X) (by first | assumption | exact (Below.refl _ _).drew) ba))
      go_wp2_with fail
      go_ret
      exact ⟨rfl, hb.trans (hbd.mono hb.size)⟩
end Go.Proofs.Ytcinnjihghpngaa.AskW
