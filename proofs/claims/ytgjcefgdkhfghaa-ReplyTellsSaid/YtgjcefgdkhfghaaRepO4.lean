/- The walk of ReplyTells. -/
import Derived.Test.YtgjcefgdkhfghaaRepW7
import Derived.Test.YtgjcefgdkhfghaaRepW9
import Derived.Test.YtgjcefgdkhfghaaRepL
import Derived.Test.YtgjcefgdkhfghaaRepO1
import Derived.Test.YtgjcefgdkhfghaaAG6
import Derived.Deep.RegionHeld3
import Derived.Deep.DeepCutAuto
set_option linter.unusedVariables false
set_option linter.unusedSimpArgs false
namespace Go.Proofs.Ytgjcefgdkhfghaa.AskW
open Go.RowKit Go.Proofs.Ytgjcefgdkhfghaa Go.Proofs.Ytgjcefgdkhfghaa.Ask
theorem keepR4 {X w' : World} {g0 : Nat} {t0 : TypeId} {v00 v01 v02 v03 v04 v05 : Value} {g1 : Nat} {t1 : TypeId} {v10 v11 v12 v13 v14 v15 : Value} {g2 : Nat} {t2 : TypeId} {v20 v21 v22 v23 v24 v25 : Value} {g3 : Nat} {t3 : TypeId} {v30 v31 v32 v33 v34 v35 : Value} (b : Below X.heap.size X w') (r0 : X.heap[g0]? = some (.cells #[v00, v01, v02, v03, v04, v05] t0 (0, 0))) (r1 : X.heap[g1]? = some (.cells #[v10, v11, v12, v13, v14, v15] t1 (0, 0))) (r2 : X.heap[g2]? = some (.cells #[v20, v21, v22, v23, v24, v25] t2 (0, 0))) (r3 : X.heap[g3]? = some (.cells #[v30, v31, v32, v33, v34, v35] t3 (0, 0))) :
    Below X.heap.size X w' ∧ w'.cell? ⟨g0, 0, none⟩ = some v00 ∧ w'.cell? ⟨g0, 1, none⟩ = some v01 ∧ w'.cell? ⟨g0, 2, none⟩ = some v02 ∧ w'.cell? ⟨g0, 3, none⟩ = some v03 ∧ w'.cell? ⟨g0, 4, none⟩ = some v04 ∧ w'.cell? ⟨g0, 5, none⟩ = some v05 ∧ w'.cell? ⟨g1, 0, none⟩ = some v10 ∧ w'.cell? ⟨g1, 1, none⟩ = some v11 ∧ w'.cell? ⟨g1, 2, none⟩ = some v12 ∧ w'.cell? ⟨g1, 3, none⟩ = some v13 ∧ w'.cell? ⟨g1, 4, none⟩ = some v14 ∧ w'.cell? ⟨g1, 5, none⟩ = some v15 ∧ w'.cell? ⟨g2, 0, none⟩ = some v20 ∧ w'.cell? ⟨g2, 1, none⟩ = some v21 ∧ w'.cell? ⟨g2, 2, none⟩ = some v22 ∧ w'.cell? ⟨g2, 3, none⟩ = some v23 ∧ w'.cell? ⟨g2, 4, none⟩ = some v24 ∧ w'.cell? ⟨g2, 5, none⟩ = some v25 ∧ w'.cell? ⟨g3, 0, none⟩ = some v30 ∧ w'.cell? ⟨g3, 1, none⟩ = some v31 ∧ w'.cell? ⟨g3, 2, none⟩ = some v32 ∧ w'.cell? ⟨g3, 3, none⟩ = some v33 ∧ w'.cell? ⟨g3, 4, none⟩ = some v34 ∧ w'.cell? ⟨g3, 5, none⟩ = some v35 := by
  obtain ⟨h00, h01, h02, h03, h04, h05⟩ := row6 (b.row (row_lt r0) r0)
  obtain ⟨h10, h11, h12, h13, h14, h15⟩ := row6 (b.row (row_lt r1) r1)
  obtain ⟨h20, h21, h22, h23, h24, h25⟩ := row6 (b.row (row_lt r2) r2)
  obtain ⟨h30, h31, h32, h33, h34, h35⟩ := row6 (b.row (row_lt r3) r3)
  exact ⟨b, h00, h01, h02, h03, h04, h05, h10, h11, h12, h13, h14, h15, h20, h21, h22, h23, h24, h25, h30, h31, h32, h33, h34, h35⟩
theorem keepR5 {X w' : World} {g0 : Nat} {t0 : TypeId} {v00 v01 v02 v03 v04 v05 : Value} {g1 : Nat} {t1 : TypeId} {v10 v11 v12 v13 v14 v15 : Value} {g2 : Nat} {t2 : TypeId} {v20 v21 v22 v23 v24 v25 : Value} {g3 : Nat} {t3 : TypeId} {v30 v31 v32 v33 v34 v35 : Value} {g4 : Nat} {t4 : TypeId} {v40 v41 v42 v43 v44 v45 : Value} (b : Below X.heap.size X w') (r0 : X.heap[g0]? = some (.cells #[v00, v01, v02, v03, v04, v05] t0 (0, 0))) (r1 : X.heap[g1]? = some (.cells #[v10, v11, v12, v13, v14, v15] t1 (0, 0))) (r2 : X.heap[g2]? = some (.cells #[v20, v21, v22, v23, v24, v25] t2 (0, 0))) (r3 : X.heap[g3]? = some (.cells #[v30, v31, v32, v33, v34, v35] t3 (0, 0))) (r4 : X.heap[g4]? = some (.cells #[v40, v41, v42, v43, v44, v45] t4 (0, 0))) :
    Below X.heap.size X w' ∧ w'.cell? ⟨g0, 0, none⟩ = some v00 ∧ w'.cell? ⟨g0, 1, none⟩ = some v01 ∧ w'.cell? ⟨g0, 2, none⟩ = some v02 ∧ w'.cell? ⟨g0, 3, none⟩ = some v03 ∧ w'.cell? ⟨g0, 4, none⟩ = some v04 ∧ w'.cell? ⟨g0, 5, none⟩ = some v05 ∧ w'.cell? ⟨g1, 0, none⟩ = some v10 ∧ w'.cell? ⟨g1, 1, none⟩ = some v11 ∧ w'.cell? ⟨g1, 2, none⟩ = some v12 ∧ w'.cell? ⟨g1, 3, none⟩ = some v13 ∧ w'.cell? ⟨g1, 4, none⟩ = some v14 ∧ w'.cell? ⟨g1, 5, none⟩ = some v15 ∧ w'.cell? ⟨g2, 0, none⟩ = some v20 ∧ w'.cell? ⟨g2, 1, none⟩ = some v21 ∧ w'.cell? ⟨g2, 2, none⟩ = some v22 ∧ w'.cell? ⟨g2, 3, none⟩ = some v23 ∧ w'.cell? ⟨g2, 4, none⟩ = some v24 ∧ w'.cell? ⟨g2, 5, none⟩ = some v25 ∧ w'.cell? ⟨g3, 0, none⟩ = some v30 ∧ w'.cell? ⟨g3, 1, none⟩ = some v31 ∧ w'.cell? ⟨g3, 2, none⟩ = some v32 ∧ w'.cell? ⟨g3, 3, none⟩ = some v33 ∧ w'.cell? ⟨g3, 4, none⟩ = some v34 ∧ w'.cell? ⟨g3, 5, none⟩ = some v35 ∧ w'.cell? ⟨g4, 0, none⟩ = some v40 ∧ w'.cell? ⟨g4, 1, none⟩ = some v41 ∧ w'.cell? ⟨g4, 2, none⟩ = some v42 ∧ w'.cell? ⟨g4, 3, none⟩ = some v43 ∧ w'.cell? ⟨g4, 4, none⟩ = some v44 ∧ w'.cell? ⟨g4, 5, none⟩ = some v45 := by
  obtain ⟨h00, h01, h02, h03, h04, h05⟩ := row6 (b.row (row_lt r0) r0)
  obtain ⟨h10, h11, h12, h13, h14, h15⟩ := row6 (b.row (row_lt r1) r1)
  obtain ⟨h20, h21, h22, h23, h24, h25⟩ := row6 (b.row (row_lt r2) r2)
  obtain ⟨h30, h31, h32, h33, h34, h35⟩ := row6 (b.row (row_lt r3) r3)
  obtain ⟨h40, h41, h42, h43, h44, h45⟩ := row6 (b.row (row_lt r4) r4)
  exact ⟨b, h00, h01, h02, h03, h04, h05, h10, h11, h12, h13, h14, h15, h20, h21, h22, h23, h24, h25, h30, h31, h32, h33, h34, h35, h40, h41, h42, h43, h44, h45⟩
theorem ref3Same_self (f x a m : Nat) (Aw : Option Addr) (nw cw : Nat) (Ab : Option Addr) (nb cb : Nat) (Aw2 : Option Addr) (nw2 cw2 : Nat) (Ab2 : Option Addr) (nb2 cb2 : Nat) (W : List Nat) (B : List Bool) (w : World)
    (h1 : Sl w w.heap.size Aw nw (ws W)) (h2 : Sl w w.heap.size Ab nb (bl B)) (h3 : Sl w w.heap.size Aw2 nw2 (ws W)) (h4 : Sl w w.heap.size Ab2 nb2 (bl B)) (kW : W.length ≤ 1000000) (kB : B.length ≤ 1000000) :
    Calls Try.prog 18 #[.agg #[.int .u8 f, .int .u8 x, .slice Ab nb cb, .slice Aw nw cw, .int .u16 a, .int .u16 m], .agg #[.int .u8 f, .int .u8 x, .slice Ab2 nb2 cb2, .slice Aw2 nw2 cw2, .int .u16 a, .int .u16 m]] w
      fun e w' => e = .returned (.bool true) ∧ Below w.heap.size w w' := by
  have := ref3Same_any f x a m Aw nw cw Ab nb cb f x a m Aw2 nw2 cw2 Ab2 nb2 cb2 W W B B w h1 h2 h3 h4 (by have := h1.len; simp at this; omega) (by have := h2.len; simp at this; omega) (by have := h3.len; simp at this; omega) (by have := h4.len; simp at this; omega)
  simpa only [beq_self_eq_true, Bool.and_true] using this
theorem rparse_small2 (xs : List Nat) : (rparse xs).1.bits.length ≤ 2000 ∧ (rparse xs).1.words.length ≤ 2000 := by
  rcases rparse_cases xs with ⟨r, hr, _, hp⟩ | hp <;> rw [hp]
  · have := rright_small hr; dsimp only; omega
  · simp [rep0]
set_option maxRecDepth 100000 in
set_option maxHeartbeats 30000000 in
theorem replyTells_any (f1 x1 : Nat) (Ab1 : Option Addr) (nb1 cb1 : Nat) (Aw1 : Option Addr) (nw1 cw1 : Nat) (a1 m1 : Nat) (B1 : List Bool) (W1 : List Nat) (f2 x2 : Nat) (Ab2 : Option Addr) (nb2 cb2 : Nat) (Aw2 : Option Addr) (nw2 cw2 : Nat) (a2 m2 : Nat) (B2 : List Bool) (W2 : List Nat)
    (f3 a3 m3 t3 : Nat) (Aw3 : Option Addr) (nw3 cw3 : Nat) (Ab3 : Option Addr) (nb3 cb3 : Nat) (W3 : List Nat) (B3 : List Bool) (A : Option Addr) (n c : Nat) (xs : List Nat) (u v : Nat) (w : World)
    (hB1 : Sl w w.heap.size Ab1 nb1 (bl B1)) (hW1 : Sl w w.heap.size Aw1 nw1 (ws W1)) (hwf1 : Rep.Wf ⟨f1, x1, B1, W1, a1, m1⟩) (hc1 : nb1 ≤ cb1) (hB2 : Sl w w.heap.size Ab2 nb2 (bl B2)) (hW2 : Sl w w.heap.size Aw2 nw2 (ws W2))
    (hW3 : Sl w w.heap.size Aw3 nw3 (ws W3)) (hB3 : Sl w w.heap.size Ab3 nb3 (bl B3)) (hwf3 : Req.Wf ⟨f3, a3, m3, t3, W3, B3⟩) (hs : Sl w w.heap.size A n (bs xs)) (hx : Bytes xs) (hc : n ≤ c) (hu : u < 256) (hv : v < 256) :
    Calls Try.prog 3 #[.agg #[.int .u8 (f1 : Nat), .int .u8 (x1 : Nat), .slice Ab1 nb1 cb1, .slice Aw1 nw1 cw1, .int .u16 (a1 : Nat), .int .u16 (m1 : Nat)], .agg #[.int .u8 (f2 : Nat), .int .u8 (x2 : Nat), .slice Ab2 nb2 cb2, .slice Aw2 nw2 cw2, .int .u16 (a2 : Nat), .int .u16 (m2 : Nat)], .agg #[.int .u8 (f3 : Nat), .int .u16 (a3 : Nat), .int .u16 (m3 : Nat), .int .u16 (t3 : Nat), .slice Aw3 nw3 cw3, .slice Ab3 nb3 cb3], .slice A n c, .int .u8 (u : Nat), .int .u8 (v : Nat)] w fun e w' => e = .returned (.bool true) ∧ Below w.heap.size w w' := by
  obtain ⟨X0, hX0⟩ : ∃ X0, X0 = ((w.alloc (.cells #[.int .u8 (f1 : Nat), .int .u8 (x1 : Nat), .slice Ab1 nb1 cb1, .slice Aw1 nw1 cw1, .int .u16 (a1 : Nat), .int .u16 (m1 : Nat)] 26)).alloc (.cells #[.int .u8 (f2 : Nat), .int .u8 (x2 : Nat), .slice Ab2 nb2 cb2, .slice Aw2 nw2 cw2, .int .u16 (a2 : Nat), .int .u16 (m2 : Nat)] 26)).alloc (.cells #[.int .u8 (f3 : Nat), .int .u16 (a3 : Nat), .int .u16 (m3 : Nat), .int .u16 (t3 : Nat), .slice Aw3 nw3 cw3, .slice Ab3 nb3 cb3] 28) := ⟨_, rfl⟩
  have hb0 : Below w.heap.size w X0 := hX0 ▸ (((Below.refl _ _).new _).new _).new _
  have HX0 := Lib.hid hX0
  have F10 := few_any Aw1 Ab1 nw1 cw1 nb1 cb1
  have F20 := few_any Aw2 Ab2 nw2 cw2 nb2 cb2
  have F30 := few_any Aw3 Ab3 nw3 cw3 nb3 cb3
  by_cases k1 : nw1 ≤ 200 ∧ nb1 ≤ 2100
  case neg =>
    rw [show (decide (nw1 ≤ 200) && decide (nb1 ≤ 2100)) = false by rw [Bool.and_eq_false_iff, decide_eq_false_iff_not, decide_eq_false_iff_not]; omega] at F10
    have F1 := Lib.hid F10
    rw [hX0] at hb0
    clear F10 hX0 HX0 hB1 hW1 hwf1 hc1 hB2 hW2 hW3 hB3 hwf3 hs hx hc
    go_enter Try.func3, Try.ntmps3
    go_wp2_with fail
    refine (F1.out _).mono ?_
    rintro e wf ⟨rfl, rfl⟩
    go_wp2_with (go_at_call 10; refine (awake3_any _).mono ?_; rintro e wa ⟨rfl, ba⟩)
    go_ret
    exact ⟨rfl, hb0.call ba⟩
  rw [show (decide (nw1 ≤ 200) && decide (nb1 ≤ 2100)) = true by rw [Bool.and_eq_true, decide_eq_true_iff, decide_eq_true_iff]; omega] at F10
  have F1 := Lib.hid F10
  clear F10
  by_cases k2 : nw2 ≤ 200 ∧ nb2 ≤ 2100
  case neg =>
    rw [show (decide (nw2 ≤ 200) && decide (nb2 ≤ 2100)) = false by rw [Bool.and_eq_false_iff, decide_eq_false_iff_not, decide_eq_false_iff_not]; omega] at F20
    have F2 := Lib.hid F20
    rw [hX0] at hb0
    clear F20 hX0 HX0 hB1 hW1 hwf1 hc1 hB2 hW2 hW3 hB3 hwf3 hs hx hc
    go_enter Try.func3, Try.ntmps3
    go_wp2_with fail
    refine (F1.out _).mono ?_
    rintro e wf ⟨rfl, rfl⟩
    go_wp2_with fail
    refine (F2.out _).mono ?_
    rintro e wf ⟨rfl, rfl⟩
    go_wp2_with (go_at_call 10; refine (awake3_any _).mono ?_; rintro e wa ⟨rfl, ba⟩)
    go_ret
    exact ⟨rfl, hb0.call ba⟩
  rw [show (decide (nw2 ≤ 200) && decide (nb2 ≤ 2100)) = true by rw [Bool.and_eq_true, decide_eq_true_iff, decide_eq_true_iff]; omega] at F20
  have F2 := Lib.hid F20
  clear F20
  by_cases k3 : nw3 ≤ 200 ∧ nb3 ≤ 2100
  case neg =>
    rw [show (decide (nw3 ≤ 200) && decide (nb3 ≤ 2100)) = false by rw [Bool.and_eq_false_iff, decide_eq_false_iff_not, decide_eq_false_iff_not]; omega] at F30
    have F3 := Lib.hid F30
    rw [hX0] at hb0
    clear F30 hX0 HX0 hB1 hW1 hwf1 hc1 hB2 hW2 hW3 hB3 hwf3 hs hx hc
    go_enter Try.func3, Try.ntmps3
    go_wp2_with fail
    refine (F1.out _).mono ?_
    rintro e wf ⟨rfl, rfl⟩
    go_wp2_with fail
    refine (F2.out _).mono ?_
    rintro e wf ⟨rfl, rfl⟩
    go_wp2_with fail
    refine (F3.out _).mono ?_
    rintro e wf ⟨rfl, rfl⟩
    go_wp2_with (go_at_call 10; refine (awake3_any _).mono ?_; rintro e wa ⟨rfl, ba⟩)
    go_ret
    exact ⟨rfl, hb0.call ba⟩
  rw [show (decide (nw3 ≤ 200) && decide (nb3 ≤ 2100)) = true by rw [Bool.and_eq_true, decide_eq_true_iff, decide_eq_true_iff]; omega] at F30
  have F3 := Lib.hid F30
  clear F30
  by_cases k4 : (300 : Int) < (n : Int)
  · rw [hX0] at hb0
    clear hX0 HX0 hB1 hW1 hwf1 hc1 hB2 hW2 hW3 hB3 hwf3 hs hx hc
    go_enter Try.func3, Try.ntmps3
    go_wp2_with fail
    refine (F1.out _).mono ?_
    rintro e wf ⟨rfl, rfl⟩
    go_wp2_with fail
    refine (F2.out _).mono ?_
    rintro e wf ⟨rfl, rfl⟩
    go_wp2_with fail
    refine (F3.out _).mono ?_
    rintro e wf ⟨rfl, rfl⟩
    go_wp2_with (go_at_call 10; refine (awake3_any _).mono ?_; rintro e wa ⟨rfl, ba⟩)
    go_ret
    exact ⟨rfl, hb0.call ba⟩
  have qW1 : W1.length = nw1 := by simpa using hW1.len
  have qB1 : B1.length = nb1 := by simpa using hB1.len
  have qW2 : W2.length = nw2 := by simpa using hW2.len
  have qB2 : B2.length = nb2 := by simpa using hB2.len
  have qW3 : W3.length = nw3 := by simpa using hW3.len
  have qB3 : B3.length = nb3 := by simpa using hB3.len
  have qn : xs.length = n := by simpa using hs.len
  have KB0 := fun Y (b : Below w.heap.size w Y) => repBytes_any f1 x1 Ab1 nb1 cb1 Aw1 nw1 cw1 a1 m1 B1 W1 Y (hB1.to b) (hW1.to b) hwf1 (by omega) (by omega)
  have KRB0 := fun Y (b : Below w.heap.size w Y) => ref3Bytes_any f1 x1 Ab1 nb1 cb1 Aw1 nw1 cw1 a1 m1 B1 W1 Y (hB1.to b) (hW1.to b) hwf1
  have KP0 := fun A1 c1 Y (h : Sl Y Y.heap.size A1 n (bs xs)) (hc : n ≤ c1) => repParse_any A1 n c1 xs Y h hx (by omega) hc
  have KRP0 := fun Y (b : Below w.heap.size w Y) => ref3Parse_any A n c xs Y (hs.to b) hx (by omega) hc
  have KRa := Lib.hid (fun Y (b : Below w.heap.size w Y) => repRight_any f1 x1 Ab1 nb1 cb1 Aw1 nw1 cw1 a1 m1 B1 W1 Y (hB1.to b) (hW1.to b) (by omega) (by omega))
  have KRr := Lib.hid (fun Y => ref3Right_any f1 x1 Ab1 nb1 cb1 Aw1 nw1 cw1 a1 m1 B1 W1 qW1 qB1 Y)
  have KQa0 := fun Y (b : Below w.heap.size w Y) => repSame_any f1 x1 Ab1 nb1 cb1 Aw1 nw1 cw1 a1 m1 f2 x2 Ab2 nb2 cb2 Aw2 nw2 cw2 a2 m2 B1 B2 W1 W2 Y (hW1.to b) (hB1.to b) (hW2.to b) (hB2.to b) (by omega) (by omega) (by omega) (by omega)
  have KQr0 := fun Y (b : Below w.heap.size w Y) => ref3Same_any f1 x1 a1 m1 Aw1 nw1 cw1 Ab1 nb1 cb1 f2 x2 a2 m2 Aw2 nw2 cw2 Ab2 nb2 cb2 W1 W2 B1 B2 Y (hW1.to b) (hB1.to b) (hW2.to b) (hB2.to b) (by omega) (by omega) (by omega) (by omega)
  obtain ⟨V, hV⟩ : ∃ V, V = (f1 == f2 && x1 == x2 && a1 == a2 && m1 == m2 && B1 == B2 && W1 == W2) := ⟨_, rfl⟩
  have hV2 : (f1 == f2 && x1 == x2 && a1 == a2 && m1 == m2 && W1 == W2 && B1 == B2) = V := by rw [hV, Bool.and_right_comm]
  rw [← hV] at KQa0
  rw [hV2] at KQr0
  have KE0 := fun Y (b : Below w.heap.size w Y) => echo_any f3 a3 m3 t3 Aw3 nw3 cw3 Ab3 nb3 cb3 W3 B3 Y (hW3.to b) (hB3.to b) hwf3 (by omega) (by omega)
  have KRE0 := fun Y (b : Below w.heap.size w Y) => ref3Echo_any f3 a3 m3 t3 Aw3 nw3 cw3 Ab3 nb3 cb3 W3 B3 Y (hW3.to b) (hB3.to b) hwf3
  have KW := Lib.hid (fun Y => show Calls Try.prog 22 #[.int .u8 (u : Nat), .int .u8 (v : Nat)] Y (RetRep Y ⟨u % 128, v, [], [], 0, 0⟩) from wrong2_any u v hu Y)
  have KF0 := fun Y (b : Below w.heap.size w Y) => fits2_any f3 a3 m3 t3 Aw3 nw3 cw3 Ab3 nb3 cb3 W3 B3 f1 x1 Ab1 nb1 cb1 Aw1 nw1 cw1 a1 m1 B1 W1 Y (hW3.to b) (hB3.to b) hwf3 (by omega) (by omega) (hB1.to b) (hW1.to b) (by omega) (by omega) hc1
  have KG0 := fun Y (b : Below w.heap.size w Y) => ref3Fits_any f3 a3 m3 t3 Aw3 nw3 cw3 Ab3 nb3 cb3 W3 B3 f1 x1 Ab1 nb1 cb1 Aw1 nw1 cw1 a1 m1 B1 W1 Y (hW3.to b) (hB3.to b) hwf3 (by omega) (by omega) (hB1.to b) (hW1.to b) (by omega) (by omega)
  have KFt := Lib.hid (fun Y (b : Below w.heap.size w Y) f x Ab nb cb Aw nw cw a m B W (h1 : Sl Y Y.heap.size Ab nb (bl B)) (h2 : Sl Y Y.heap.size Aw nw (ws W)) k1 k2 k3 => fits2_any f3 a3 m3 t3 Aw3 nw3 cw3 Ab3 nb3 cb3 W3 B3 f x Ab nb cb Aw nw cw a m B W Y (hW3.to b) (hB3.to b) hwf3 (by omega) (by omega) h1 h2 k1 k2 k3)
  have KGt := Lib.hid (fun Y (b : Below w.heap.size w Y) f x Ab nb cb Aw nw cw a m B W (h1 : Sl Y Y.heap.size Ab nb (bl B)) (h2 : Sl Y Y.heap.size Aw nw (ws W)) k1 k2 => ref3Fits_any f3 a3 m3 t3 Aw3 nw3 cw3 Ab3 nb3 cb3 W3 B3 f x Ab nb cb Aw nw cw a m B W Y (hW3.to b) (hB3.to b) hwf3 (by omega) (by omega) h1 h2 k1 k2)
  have hsm := echo_small ⟨f3, a3, m3, t3, W3, B3⟩ (by dsimp only; omega) (by dsimp only; omega)
  have hpm := rparse_small2 xs
  have hla := rbytesE_lt ⟨f1, x1, B1, W1, a1, m1⟩ hwf1
  obtain ⟨Z, hZ⟩ : ∃ Z, Z = fitsF ⟨f3, a3, m3, t3, W3, B3⟩ ⟨f1, x1, B1, W1, a1, m1⟩ := ⟨_, rfl⟩
  rw [← hZ] at KF0 KG0
  obtain ⟨q, hq⟩ : ∃ q, q = (⟨f3, a3, m3, t3, W3, B3⟩ : Req) := ⟨_, rfl⟩
  rw [← hq] at KE0 KRE0 KFt KGt hsm
  obtain ⟨L1, e1⟩ : ∃ L, L = rbytesE ⟨f1, x1, B1, W1, a1, m1⟩ := ⟨_, rfl⟩
  rw [← e1] at KB0 KRB0 hla
  obtain ⟨L2, e2⟩ : ∃ L, L = rparse xs := ⟨_, rfl⟩
  rw [← e2] at KP0 KRP0 hpm
  obtain ⟨L3, e3⟩ : ∃ L, L = echoF q := ⟨_, rfl⟩
  rw [← e3] at KE0 KRE0 hsm
  obtain ⟨la, ea⟩ := L1
  obtain ⟨⟨p1, p2, p3, p4, p5, p6⟩, pe⟩ := L2
  obtain ⟨⟨s1, s2, s3, s4, s5, s6⟩, is⟩ := L3
  dsimp only at hla hpm hsm
  obtain ⟨V2, hVr⟩ : ∃ V2, V2 = rright ⟨f1, x1, B1, W1, a1, m1⟩ := ⟨_, rfl⟩
  rw [← hVr] at KRa KRr
  have KB := Lib.hid KB0
  have KRB := Lib.hid KRB0
  have KP := Lib.hid KP0
  have KRP := Lib.hid KRP0
  have KQa := Lib.hid KQa0
  have KQr := Lib.hid KQr0
  have KE := Lib.hid KE0
  have KRE := Lib.hid KRE0
  have KF := Lib.hid KF0
  have KG := Lib.hid KG0
  have HPM := Lib.hid hpm
  have HSM := Lib.hid hsm
  have HLA := Lib.hid hla
  have KX := Lib.hid (fun Y A1 c1 (b : Below w.heap.size w Y) (h1 : Sl Y Y.heap.size A1 n (bs xs)) => lowSame_any A1 A n c1 n c Y.heap.size xs xs Y h1 hx (hs.to b) hx)
  have S0 := (hs.to hb0).to ((Below.refl _ _).new (.cells #[] 5))
  have RR0 : X0.heap[w.heap.size]? = some (.cells #[.int .u8 (f1 : Nat), .int .u8 (x1 : Nat), .slice Ab1 nb1 cb1, .slice Aw1 nw1 cw1, .int .u16 (a1 : Nat), .int .u16 (m1 : Nat)] 26 (0, 0)) := hX0 ▸ row_alloc (row_alloc (heap_alloc_new w _) _) _
  have RO0 : X0.heap[w.heap.size + 1]? = some (.cells #[.int .u8 (f2 : Nat), .int .u8 (x2 : Nat), .slice Ab2 nb2 cb2, .slice Aw2 nw2 cw2, .int .u16 (a2 : Nat), .int .u16 (m2 : Nat)] 26 (0, 0)) := hX0 ▸ row_alloc (heap_alloc2_new w _ _) _
  have RQ0 : X0.heap[w.heap.size + 2]? = some (.cells #[.int .u8 (f3 : Nat), .int .u16 (a3 : Nat), .int .u16 (m3 : Nat), .int .u16 (t3 : Nat), .slice Aw3 nw3 cw3, .slice Ab3 nb3 cb3] 28 (0, 0)) := by
    have := heap_alloc_new ((w.alloc (.cells #[.int .u8 (f1 : Nat), .int .u8 (x1 : Nat), .slice Ab1 nb1 cb1, .slice Aw1 nw1 cw1, .int .u16 (a1 : Nat), .int .u16 (m1 : Nat)] 26)).alloc (.cells #[.int .u8 (f2 : Nat), .int .u8 (x2 : Nat), .slice Ab2 nb2 cb2, .slice Aw2 nw2 cw2, .int .u16 (a2 : Nat), .int .u16 (m2 : Nat)] 26)) (.cells #[.int .u8 (f3 : Nat), .int .u16 (a3 : Nat), .int .u16 (m3 : Nat), .int .u16 (t3 : Nat), .slice Aw3 nw3 cw3, .slice Ab3 nb3 cb3] 28)
    rw [hX0]
    simpa using this
  obtain ⟨h, hh⟩ : ∃ h, h = u % 128 := ⟨_, rfl⟩
  have hrem : Int.tmod (u : Int) 128 = (h : Int) := by rw [Int.tmod_eq_emod_of_nonneg (by omega), hh]; omega
  rw [← hh] at KW
  have hh8 : IntKind.u8.wrap (h : Int) = h := by rw [IntKind.wrap_u8]; omega
  have HN3 : n ≤ 300 := by omega
  clear KB0 KRB0 KP0 KRP0 KQa0 KQr0 KE0 KRE0 KF0 KG0 hpm hsm hla hh e1 e2 e3 hq hZ hV hV2 hVr qW1 qB1 qW2 qB2 qW3 qB3 qn hX0 k1 k2 k3 hB1 hW1 hwf1 hc1 hB2 hW2 hW3 hB3 hwf3 hs hx hc
  go_enter Try.func3, Try.ntmps3
  go_wp2_with fail
  refine (F1.out _).mono ?_
  rintro e wf ⟨rfl, rfl⟩
  go_wp2_with fail
  refine (F2.out _).mono ?_
  rintro e wf ⟨rfl, rfl⟩
  go_wp2_with fail
  refine (F3.out _).mono ?_
  rintro e wf ⟨rfl, rfl⟩
  rw [← HX0.out]
  go_wp2_with (at_builtin; refine wpList_app _root_.Go.Proofs.Ytgjcefgdkhfghaa.AskW.u8 rfl (.tmp 55) (.tmp 56) rfl (Has.made0 (Below.refl X0.heap.size X0) _) rfl S0 rfl (bs_one _) (by omega) (by simp only [maxLen]; omega) ?_; intro v3 w3 H3 _ _; obtain ⟨A1, c1, rfl, hc1, S1, _⟩ := H3.slice; have b3 := H3.bel; have rr := b3.row (row_lt RR0) RR0; obtain ⟨c0, c1', c2, c3, c4, c5⟩ := row6 rr; clear H3 S0)
  rw [List.nil_append, Nat.zero_add] at S1
  rw [Nat.zero_add] at hc1
  have hb := hb0.call b3
  have ro := b3.row (row_lt RO0) RO0
  have rq := b3.row (row_lt RQ0) RQ0
  clear b3 RR0 RO0 RQ0
  refine (KB.out _ hb).mono ?_
  rintro e w4 ⟨vx, rfl, Hx⟩
  obtain ⟨Ax, cx, rfl, _, SX, _⟩ := Hx.slice
  have rr := Hx.bel.row (row_lt rr) rr
  have ro := Hx.bel.row (row_lt ro) ro
  have rq := Hx.bel.row (row_lt rq) rq
  have S1 := S1.to Hx.bel
  have hb := hb.call Hx.bel
  clear Hx c0 c1' c2 c3 c4 c5
  dsimp only at SX ⊢
  obtain ⟨c0, c1', c2, c3, c4, c5⟩ := row6 rr
  go_wp2_with fail
  refine (KRB.out _ hb).mono ?_
  rintro e w5 ⟨vy, rfl, Hy⟩
  obtain ⟨Ay, cy, rfl, _, SY, _⟩ := Hy.slice
  have rr := Hy.bel.row (row_lt rr) rr
  have ro := Hy.bel.row (row_lt ro) ro
  have rq := Hy.bel.row (row_lt rq) rq
  have S1 := S1.to Hy.bel
  have SX := SX.to Hy.bel
  have hb := hb.call Hy.bel
  clear Hy c0 c1' c2 c3 c4 c5
  dsimp only at SY ⊢
  go_wp2_with fail
  refine (KP.out _ _ _ S1 hc1).mono ?_
  rintro e w6 ⟨pAb, pnb, pcb, pAw, pnw, pcw, rfl, PB, PW, _, _, _, _, b6⟩
  dsimp only at PB PW ⊢
  have bn := b6.new (.cells #[.int .u8 (p1 : Nat), .int .u8 (p2 : Nat), .slice pAb pnb pcb, .slice pAw pnw pcw, .int .u16 (p5 : Nat), .int .u16 (p6 : Nat)] 26)
  have rp := heap_alloc_new w6 (.cells #[.int .u8 (p1 : Nat), .int .u8 (p2 : Nat), .slice pAb pnb pcb, .slice pAw pnw pcw, .int .u16 (p5 : Nat), .int .u16 (p6 : Nat)] 26)
  have nn := (Below.refl w6.heap.size w6).new (.cells #[.int .u8 (p1 : Nat), .int .u8 (p2 : Nat), .slice pAb pnb pcb, .slice pAw pnw pcw, .int .u16 (p5 : Nat), .int .u16 (p6 : Nat)] 26)
  have PB := PB.to nn
  have PW := PW.to nn
  clear nn
  have rr := bn.row (row_lt rr) rr
  have ro := bn.row (row_lt ro) ro
  have rq := bn.row (row_lt rq) rq
  have S1 := S1.to bn
  have SX := SX.to bn
  have SY := SY.to bn
  have hb := hb.call bn
  clear bn b6
  go_wp2_with fail
  refine (KRP.out _ hb).mono ?_
  rintro e w7 ⟨qAb, qnb, qcb, qAw, qnw, qcw, rfl, QB, QW, _, _, _, _, b7⟩
  dsimp only at QB QW ⊢
  have bn := b7.new (.cells #[.int .u8 (p1 : Nat), .int .u8 (p2 : Nat), .slice qAb qnb qcb, .slice qAw qnw qcw, .int .u16 (p5 : Nat), .int .u16 (p6 : Nat)] 26)
  have rt := heap_alloc_new w7 (.cells #[.int .u8 (p1 : Nat), .int .u8 (p2 : Nat), .slice qAb qnb qcb, .slice qAw qnw qcw, .int .u16 (p5 : Nat), .int .u16 (p6 : Nat)] 26)
  have nn := (Below.refl w7.heap.size w7).new (.cells #[.int .u8 (p1 : Nat), .int .u8 (p2 : Nat), .slice qAb qnb qcb, .slice qAw qnw qcw, .int .u16 (p5 : Nat), .int .u16 (p6 : Nat)] 26)
  have QB := QB.to nn
  have QW := QW.to nn
  clear nn
  have rr := bn.row (row_lt rr) rr
  have ro := bn.row (row_lt ro) ro
  have rq := bn.row (row_lt rq) rq
  have rp := bn.row (row_lt rp) rp
  have S1 := S1.to bn
  have SX := SX.to bn
  have SY := SY.to bn
  have PB := PB.to bn
  have PW := PW.to bn
  have hb := hb.call bn
  clear bn b7
  obtain ⟨X, hX⟩ : ∃ X, X = w7.alloc (.cells #[.int .u8 (p1 : Nat), .int .u8 (p2 : Nat), .slice qAb qnb qcb, .slice qAw qnw qcw, .int .u16 (p5 : Nat), .int .u16 (p6 : Nat)] 26) := ⟨_, rfl⟩
  go_upto_region 8 with fail
  rw [← hX] at rr ro rq rp rt S1 SX SY PB PW QB QW hb ⊢
  clear hX
  have RR := Lib.hid rr
  have RO := Lib.hid ro
  have RP := Lib.hid rp
  have RT := Lib.hid rt
  have RQ := Lib.hid rq
  have KL := Lib.hid (fun Y (b : Below X.heap.size X Y) => lowSame_any Ax Ay la.length cx la.length cy Y.heap.size la la Y (SX.to b) HLA.out (SY.to b) HLA.out)
  have KT := Lib.hid (fun Y (b : Below X.heap.size X Y) => ref3Same_self p1 p2 p5 p6 pAw pnw pcw pAb pnb pcb qAw qnw qcw qAb qnb qcb p4 p3 Y (PW.to b) (PB.to b) (QW.to b) (QB.to b) (by have := HPM.out; omega) (by have := HPM.out; omega))
  have KI := Lib.hid (fun Y (b : Below X.heap.size X Y) => KX.out Y A1 c1 (hb.trans (b.mono hb.size)) (S1.to b))
  clear rr ro rp rt rq SX SY PB PW QB QW S1 KB KRB KP KRP KX
  go_cut [119] (fun s wx => s = .bool false ∧ Below X.heap.size X wx)
  case first =>
    have hbd := (Below.refl X.heap.size X).drew
    go_region_held3 (fun w' => Below X.heap.size X w' ∧ w'.cell? ⟨w.heap.size, 0, none⟩ = some (.int .u8 (f1 : Nat)) ∧ w'.cell? ⟨w.heap.size, 1, none⟩ = some (.int .u8 (x1 : Nat)) ∧ w'.cell? ⟨w.heap.size, 2, none⟩ = some (.slice Ab1 nb1 cb1) ∧ w'.cell? ⟨w.heap.size, 3, none⟩ = some (.slice Aw1 nw1 cw1) ∧ w'.cell? ⟨w.heap.size, 4, none⟩ = some (.int .u16 (a1 : Nat)) ∧ w'.cell? ⟨w.heap.size, 5, none⟩ = some (.int .u16 (m1 : Nat)) ∧ w'.cell? ⟨w.heap.size + 1, 0, none⟩ = some (.int .u8 (f2 : Nat)) ∧ w'.cell? ⟨w.heap.size + 1, 1, none⟩ = some (.int .u8 (x2 : Nat)) ∧ w'.cell? ⟨w.heap.size + 1, 2, none⟩ = some (.slice Ab2 nb2 cb2) ∧ w'.cell? ⟨w.heap.size + 1, 3, none⟩ = some (.slice Aw2 nw2 cw2) ∧ w'.cell? ⟨w.heap.size + 1, 4, none⟩ = some (.int .u16 (a2 : Nat)) ∧ w'.cell? ⟨w.heap.size + 1, 5, none⟩ = some (.int .u16 (m2 : Nat)) ∧ w'.cell? ⟨w6.heap.size, 0, none⟩ = some (.int .u8 (p1 : Nat)) ∧ w'.cell? ⟨w6.heap.size, 1, none⟩ = some (.int .u8 (p2 : Nat)) ∧ w'.cell? ⟨w6.heap.size, 2, none⟩ = some (.slice pAb pnb pcb) ∧ w'.cell? ⟨w6.heap.size, 3, none⟩ = some (.slice pAw pnw pcw) ∧ w'.cell? ⟨w6.heap.size, 4, none⟩ = some (.int .u16 (p5 : Nat)) ∧ w'.cell? ⟨w6.heap.size, 5, none⟩ = some (.int .u16 (p6 : Nat)) ∧ w'.cell? ⟨w7.heap.size, 0, none⟩ = some (.int .u8 (p1 : Nat)) ∧ w'.cell? ⟨w7.heap.size, 1, none⟩ = some (.int .u8 (p2 : Nat)) ∧ w'.cell? ⟨w7.heap.size, 2, none⟩ = some (.slice qAb qnb qcb) ∧ w'.cell? ⟨w7.heap.size, 3, none⟩ = some (.slice qAw qnw qcw) ∧ w'.cell? ⟨w7.heap.size, 4, none⟩ = some (.int .u16 (p5 : Nat)) ∧ w'.cell? ⟨w7.heap.size, 5, none⟩ = some (.int .u16 (p6 : Nat)))
      (exact keepR4 hbd RR.out RO.out RP.out RT.out)
      (first
        | (go_at_call 15; refine (KRa.out _ (hb.trans (hbd.mono hb.size))).mono ?_; rintro e wt ⟨rfl, bt⟩; have hbd := hbd.call bt)
        | (go_at_call 16; refine (KRr.out _).mono ?_; rintro e wt ⟨rfl, bt⟩; have hbd := hbd.call bt)
        | (go_at_call 17; refine (KQa.out _ (hb.trans (hbd.mono hb.size))).mono ?_; rintro e wt ⟨rfl, bt⟩; have hbd := hbd.call bt)
        | (go_at_call 18; with_reducible refine (KQr.out _ (hb.trans (hbd.mono hb.size))).mono ?_; rintro e wt ⟨rfl, bt⟩; have hbd := hbd.call bt)
        | (go_at_call 18; with_reducible refine (KT.out _ hbd).mono ?_; rintro e wt ⟨rfl, bt⟩; have hbd := hbd.call bt)
        | (go_at_call 19; with_reducible refine (KL.out _ hbd).mono ?_; rw [beq_self_eq_true]; rintro e wt ⟨rfl, rfl⟩)
        | (go_at_call 19; with_reducible refine (KI.out _ hbd).mono ?_; rw [beq_self_eq_true]; rintro e wt ⟨rfl, rfl⟩)
        | fail)
    all_goals (go_wp2_with fail; go_meet; exact ⟨rfl, hbd⟩)
  case rest =>
    obtain ⟨rfl, hbd⟩ := hcut
    have hb := hb.trans (hbd.mono hb.size)
    have rr := hbd.row (row_lt RR.out) RR.out
    have rq := hbd.row (row_lt RQ.out) RQ.out
    clear hbd RR RO RP RT RQ KL KT KI KRa KRr KQa KQr
    obtain ⟨c0, c1', c2, c3, c4, c5⟩ := row6 rq
    go_wp2_with fail
    refine (KE.out _ hb).mono ?_
    rintro e y1 ⟨sAb, snb, scb, sAw, snw, scw, rfl, SB, SW, _, _, _, _, b1⟩
    dsimp only at SB SW ⊢
    have bn := b1.new (.cells #[.int .u8 (s1 : Nat), .int .u8 (s2 : Nat), .slice sAb snb scb, .slice sAw snw scw, .int .u16 (s5 : Nat), .int .u16 (s6 : Nat)] 26)
    have rs := heap_alloc_new y1 (.cells #[.int .u8 (s1 : Nat), .int .u8 (s2 : Nat), .slice sAb snb scb, .slice sAw snw scw, .int .u16 (s5 : Nat), .int .u16 (s6 : Nat)] 26)
    have nn := (Below.refl y1.heap.size y1).new (.cells #[.int .u8 (s1 : Nat), .int .u8 (s2 : Nat), .slice sAb snb scb, .slice sAw snw scw, .int .u16 (s5 : Nat), .int .u16 (s6 : Nat)] 26)
    have SB := SB.to nn
    have SW := SW.to nn
    have rr := bn.row (row_lt rr) rr
    have rq := bn.row (row_lt rq) rq
    have hb := hb.call bn
    clear nn bn b1 c0 c1' c2 c3 c4 c5
    obtain ⟨c0, c1', c2, c3, c4, c5⟩ := row6 rq
    go_wp2_with fail
    refine (KRE.out _ hb).mono ?_
    rintro e y2 ⟨tAb, tnb, tcb, tAw, tnw, tcw, rfl, TB, TW, tkb, _, _, _, b2⟩
    dsimp only at TB TW ⊢
    have bn := b2.new (.cells #[.int .u8 (s1 : Nat), .int .u8 (s2 : Nat), .slice tAb tnb tcb, .slice tAw tnw tcw, .int .u16 (s5 : Nat), .int .u16 (s6 : Nat)] 26)
    have rt := heap_alloc_new y2 (.cells #[.int .u8 (s1 : Nat), .int .u8 (s2 : Nat), .slice tAb tnb tcb, .slice tAw tnw tcw, .int .u16 (s5 : Nat), .int .u16 (s6 : Nat)] 26)
    have nn := (Below.refl y2.heap.size y2).new (.cells #[.int .u8 (s1 : Nat), .int .u8 (s2 : Nat), .slice tAb tnb tcb, .slice tAw tnw tcw, .int .u16 (s5 : Nat), .int .u16 (s6 : Nat)] 26)
    have TB := TB.to nn
    have TW := TW.to nn
    have SB := SB.to bn
    have SW := SW.to bn
    have rr := bn.row (row_lt rr) rr
    have rq := bn.row (row_lt rq) rq
    have rs := bn.row (row_lt rs) rs
    have hb := hb.call bn
    clear nn bn b2 c0 c1' c2 c3 c4 c5
    go_wp2_with fail
    refine (KW.out _).mono ?_
    rintro e y3 ⟨wAb, wnb, wcb, wAw, wnw, wcw, rfl, WB, WW, _, _, _, _, b3⟩
    have q1 : 0 = wnb := by simpa using WB.len
    have q2 : 0 = wnw := by simpa using WW.len
    subst q1 q2
    dsimp only at WB WW ⊢
    have bn := b3.new (.cells #[.int .u8 (h : Nat), .int .u8 (v : Nat), .slice wAb 0 wcb, .slice wAw 0 wcw, .int .u16 0, .int .u16 0] 26)
    have rw' := heap_alloc_new y3 (.cells #[.int .u8 (h : Nat), .int .u8 (v : Nat), .slice wAb 0 wcb, .slice wAw 0 wcw, .int .u16 0, .int .u16 0] 26)
    have nn := (Below.refl y3.heap.size y3).new (.cells #[.int .u8 (h : Nat), .int .u8 (v : Nat), .slice wAb 0 wcb, .slice wAw 0 wcw, .int .u16 0, .int .u16 0] 26)
    have WB := WB.to nn
    have WW := WW.to nn
    have SB := SB.to bn
    have SW := SW.to bn
    have TB := TB.to bn
    have TW := TW.to bn
    have rr := bn.row (row_lt rr) rr
    have rq := bn.row (row_lt rq) rq
    have rs := bn.row (row_lt rs) rs
    have rt := bn.row (row_lt rt) rt
    have hb := hb.call bn
    clear nn bn b3
    obtain ⟨X, hX⟩ : ∃ X, X = y3.alloc (.cells #[.int .u8 (h : Nat), .int .u8 (v : Nat), .slice wAb 0 wcb, .slice wAw 0 wcw, .int .u16 0, .int .u16 0] 26) := ⟨_, rfl⟩
    go_upto_region 13 with fail
    rw [← hX] at rr rq rs rt rw' SB SW TB TW WB WW hb ⊢
    clear hX
    have RR := Lib.hid rr
    have RS := Lib.hid rs
    have RT := Lib.hid rt
    have RW := Lib.hid rw'
    have RQ := Lib.hid rq
    have KS := Lib.hid (fun Y (b : Below X.heap.size X Y) => ref3Same_self s1 s2 s5 s6 sAw snw scw sAb snb scb tAw tnw tcw tAb tnb tcb s4 s3 Y (SW.to b) (SB.to b) (TW.to b) (TB.to b) (by have := HSM.out; omega) (by have := HSM.out; omega))
    have KWs := Lib.hid (fun Y (b : Below X.heap.size X Y) => (show Calls Try.prog 18 #[.agg #[.int .u8 (h : Nat), .int .u8 (v : Nat), .slice wAb 0 wcb, .slice wAw 0 wcw, .int .u16 0, .int .u16 0], .agg #[.int .u8 (h : Nat), .int .u8 (v : Nat), .slice none 0 0, .slice none 0 0, .int .u16 0, .int .u16 0]] Y (fun e w' => e = .returned (.bool true) ∧ Below Y.heap.size Y w') from ref3Same_self h v 0 0 wAw 0 wcw wAb 0 wcb none 0 0 none 0 0 [] [] Y (WW.to b) (WB.to b) (Sl.empty _ _ _) (Sl.empty _ _ _) (by decide) (by decide)))
    have KF2 := fun Y (b : Below X.heap.size X Y) => KFt.out Y (hb.trans (b.mono hb.size)) s1 s2 tAb tnb tcb tAw tnw tcw s5 s6 s3 s4 (TB.to b) (TW.to b) (by have := TB.len; simp at this; have := HSM.out; omega) (by have := TW.len; simp at this; have := HSM.out; omega) tkb
    have KG2 := fun Y (b : Below X.heap.size X Y) => KGt.out Y (hb.trans (b.mono hb.size)) s1 s2 tAb tnb tcb tAw tnw tcw s5 s6 s3 s4 (TB.to b) (TW.to b) (by have := TB.len; simp at this; have := HSM.out; omega) (by have := TW.len; simp at this; have := HSM.out; omega)
    obtain ⟨Z2, hZ2⟩ : ∃ Z2, Z2 = fitsF q ⟨s1, s2, s3, s4, s5, s6⟩ := ⟨_, rfl⟩
    rw [← hZ2] at KF2 KG2
    have KFT := Lib.hid KF2
    have KGT := Lib.hid KG2
    clear rr rs rt rw' rq SB SW TB TW WB WW KF2 KG2 hZ2 KE KRE KW
    have hbd := (Below.refl X.heap.size X).drew
    go_region_held3 (fun w' => Below X.heap.size X w' ∧ w'.cell? ⟨y1.heap.size, 0, none⟩ = some (.int .u8 (s1 : Nat)) ∧ w'.cell? ⟨y1.heap.size, 1, none⟩ = some (.int .u8 (s2 : Nat)) ∧ w'.cell? ⟨y1.heap.size, 2, none⟩ = some (.slice sAb snb scb) ∧ w'.cell? ⟨y1.heap.size, 3, none⟩ = some (.slice sAw snw scw) ∧ w'.cell? ⟨y1.heap.size, 4, none⟩ = some (.int .u16 (s5 : Nat)) ∧ w'.cell? ⟨y1.heap.size, 5, none⟩ = some (.int .u16 (s6 : Nat)) ∧ w'.cell? ⟨y2.heap.size, 0, none⟩ = some (.int .u8 (s1 : Nat)) ∧ w'.cell? ⟨y2.heap.size, 1, none⟩ = some (.int .u8 (s2 : Nat)) ∧ w'.cell? ⟨y2.heap.size, 2, none⟩ = some (.slice tAb tnb tcb) ∧ w'.cell? ⟨y2.heap.size, 3, none⟩ = some (.slice tAw tnw tcw) ∧ w'.cell? ⟨y2.heap.size, 4, none⟩ = some (.int .u16 (s5 : Nat)) ∧ w'.cell? ⟨y2.heap.size, 5, none⟩ = some (.int .u16 (s6 : Nat)) ∧ w'.cell? ⟨y3.heap.size, 0, none⟩ = some (.int .u8 (h : Nat)) ∧ w'.cell? ⟨y3.heap.size, 1, none⟩ = some (.int .u8 (v : Nat)) ∧ w'.cell? ⟨y3.heap.size, 2, none⟩ = some (.slice wAb 0 wcb) ∧ w'.cell? ⟨y3.heap.size, 3, none⟩ = some (.slice wAw 0 wcw) ∧ w'.cell? ⟨y3.heap.size, 4, none⟩ = some (.int .u16 0) ∧ w'.cell? ⟨y3.heap.size, 5, none⟩ = some (.int .u16 0) ∧ w'.cell? ⟨w.heap.size + 2, 0, none⟩ = some (.int .u8 (f3 : Nat)) ∧ w'.cell? ⟨w.heap.size + 2, 1, none⟩ = some (.int .u16 (a3 : Nat)) ∧ w'.cell? ⟨w.heap.size + 2, 2, none⟩ = some (.int .u16 (m3 : Nat)) ∧ w'.cell? ⟨w.heap.size + 2, 3, none⟩ = some (.int .u16 (t3 : Nat)) ∧ w'.cell? ⟨w.heap.size + 2, 4, none⟩ = some (.slice Aw3 nw3 cw3) ∧ w'.cell? ⟨w.heap.size + 2, 5, none⟩ = some (.slice Ab3 nb3 cb3) ∧ w'.cell? ⟨w.heap.size, 0, none⟩ = some (.int .u8 (f1 : Nat)) ∧ w'.cell? ⟨w.heap.size, 1, none⟩ = some (.int .u8 (x1 : Nat)) ∧ w'.cell? ⟨w.heap.size, 2, none⟩ = some (.slice Ab1 nb1 cb1) ∧ w'.cell? ⟨w.heap.size, 3, none⟩ = some (.slice Aw1 nw1 cw1) ∧ w'.cell? ⟨w.heap.size, 4, none⟩ = some (.int .u16 (a1 : Nat)) ∧ w'.cell? ⟨w.heap.size, 5, none⟩ = some (.int .u16 (m1 : Nat)))
      (exact keepR5 hbd RS.out RT.out RW.out RQ.out RR.out)
      (first
        | (go_at_call 18; with_reducible refine (KS.out _ hbd).mono ?_; rintro e wt ⟨rfl, bt⟩; have hbd := hbd.call bt)
        | (go_at_call 18; with_reducible refine (KWs.out _ hbd).mono ?_; rintro e wt ⟨rfl, bt⟩; have hbd := hbd.call bt)
        | (go_at_call 23; with_reducible refine (KF.out _ (hb.trans (hbd.mono hb.size))).mono ?_; rintro e wt ⟨rfl, bt⟩; have hbd := hbd.call bt)
        | (go_at_call 23; with_reducible refine (KFT.out _ hbd).mono ?_; rintro e wt ⟨rfl, bt⟩; have hbd := hbd.call bt)
        | (go_at_call 24; with_reducible refine (KG.out _ (hb.trans (hbd.mono hb.size))).mono ?_; rintro e wt ⟨rfl, bt⟩; have hbd := hbd.call bt)
        | (go_at_call 24; with_reducible refine (KGT.out _ hbd).mono ?_; rintro e wt ⟨rfl, bt⟩; have hbd := hbd.call bt)
        | (go_at_call 10; refine (awake3_any _).mono ?_; rintro e wt ⟨rfl, bt⟩; have hbd := hbd.call bt)
        | fail)
    all_goals (go_wp2_with fail; go_ret; exact ⟨rfl, hb.trans (hbd.mono hb.size)⟩)
end Go.Proofs.Ytgjcefgdkhfghaa.AskW
