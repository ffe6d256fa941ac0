/- The walks of the law's own words: Few, said, wrong. -/
import Derived.Test.YtpajpcaninjhfaaAskS
import Derived.Test.YtpajpcaninjhfaaAskK
set_option linter.unusedVariables false
set_option linter.unusedSimpArgs false
namespace Go.Proofs.Ytpajpcaninjhfaa.AskW
open Go.RowKit Go.Proofs.Ytpajpcaninjhfaa Go.Proofs.Ytpajpcaninjhfaa.Ask
theorem few_any (A1 A2 : Option Addr) (n1 c1 n2 c2 : Nat) (w : World) :
    Calls Try.prog 9 #[.slice A1 n1 c1, .slice A2 n2 c2] w fun e w' => e = .returned (.bool (decide (n1 ≤ 200) && decide (n2 ≤ 2100))) ∧ w = w' := by
  by_cases h1 : (n1 : Int) ≤ 200
  · have HF := Lib.hid (show decide ((n2 : Int) ≤ 2100) = (decide (n1 ≤ 200) && decide (n2 ≤ 2100)) from by rw [decide_eq_true (show n1 ≤ 200 by omega), Bool.true_and, decide_eq_decide]; omega)
    go_enter Try.func9, Try.ntmps9
    go_wp2_with fail
    go_ret
    exact ⟨ret_bool HF.out, rfl⟩
  · have HF := Lib.hid (show false = (decide (n1 ≤ 200) && decide (n2 ≤ 2100)) from by rw [decide_eq_false (show ¬ n1 ≤ 200 by omega)]; rfl)
    go_enter Try.func9, Try.ntmps9
    go_wp2_with fail
    go_ret
    exact ⟨ret_bool HF.out, rfl⟩
theorem wrong_any (x : Nat) (A : Option Addr) (n c : Nat) (xs : List Nat) (w : World) (hs : Sl w w.heap.size A n (bs xs)) (hx : Bytes xs) (hn2 : n ≤ 300) (hc : n ≤ c) (hl : (lookF xs).2 = x) :
    Calls Try.prog 28 #[.int .u8 x, .slice A n c] w fun e w' => e = .returned (.bool true) ∧ Below w.heap.size w w' := by
  have K := Lib.hid (look_any A n c xs w hs hx hn2 hc)
  rw [hl] at K
  obtain ⟨Y, hY⟩ : ∃ Y, Y = (lookF xs).1 := ⟨_, rfl⟩
  rw [← hY] at K
  clear hs hx hn2 hc hl hY
  go_enter Try.func28, Try.ntmps28
  go_wp2_with fail
  refine K.out.mono ?_
  rintro e w1 ⟨Aw, nw, cw, Ab, nb, cb, rfl, SW, SB, hcw, hcb, oW, oB, b1⟩
  have hb := b1.new (.cells #[.int .u8 (Y.f : Nat), .int .u16 (Y.at' : Nat), .int .u16 (Y.many : Nat), .int .u16 (Y.to : Nat), .slice Aw nw cw, .slice Ab nb cb] 26)
  clear b1
  go_wp2_with fail
  go_ret
  exact ⟨rfl, hb⟩
set_option maxHeartbeats 4000000 in
theorem said_any (f a m t : Nat) (Aw : Option Addr) (nw cw : Nat) (Ab : Option Addr) (nb cb : Nat) (W : List Nat) (B : List Bool) (A : Option Addr) (n c : Nat) (xs : List Nat) (w : World)
    (hW : Sl w w.heap.size Aw nw (ws W)) (hB : Sl w w.heap.size Ab nb (bl B)) (hwf : Req.Wf ⟨f, a, m, t, W, B⟩) (kw : nw ≤ 1000000) (kb : nb ≤ 1000000) (hs : Sl w w.heap.size A n (bs xs)) (hx : Bytes xs) (hn2 : n ≤ 300) (hc : n ≤ c)
    (h1 : bytesE ⟨f, a, m, t, W, B⟩ = (xs, 0)) (h2 : parseF xs = (⟨f, a, m, t, W, B⟩, 0)) :
    Calls Try.prog 27 #[.agg #[.int .u8 f, .int .u16 a, .int .u16 m, .int .u16 t, .slice Aw nw cw, .slice Ab nb cb], .slice A n c] w fun e w' => e = .returned (.bool true) ∧ Below w.heap.size w w' := by
  have K1 := Lib.hid (fun X (b : Below w.heap.size w X) => bytes_any f a m t Aw nw cw Ab nb cb W B X (hW.to b) (hB.to b) hwf)
  have K2 := Lib.hid (fun X (b : Below w.heap.size w X) => parse_any A n c xs X (hs.to b) hx hn2 hc)
  rw [h1] at K1
  rw [h2] at K2
  have qn : xs.length = n := by simpa using hs.len
  have K3 := Lib.hid (fun X A2 c2 (b : Below w.heap.size w X) (h : Sl X X.heap.size A2 xs.length (bs xs)) => lowSame_any A2 A xs.length c2 n c X.heap.size xs xs X h hx (hs.to b) hx)
  have K4 := Lib.hid (fun X Aw2 nw2 cw2 Ab2 nb2 cb2 (b : Below w.heap.size w X) h3 h4 k3 k4 => same_any f a m t Aw nw cw Ab nb cb f a m t Aw2 nw2 cw2 Ab2 nb2 cb2 W W B B X (hW.to b) (hB.to b) h3 h4 kw kb k3 k4)
  have hWl : W.length = nw := by simpa using hW.len
  have hBl : B.length = nb := by simpa using hB.len
  have HWl := Lib.hid hWl
  have HBl := Lib.hid hBl
  have HKW := Lib.hid kw
  have HKB := Lib.hid kb
  clear h1 h2 hW hB hwf hs hx qn hn2 hc hWl hBl kw kb
  go_enter Try.func27, Try.ntmps27
  go_wp2_with fail
  have hb := (Below.refl w.heap.size w).new (.cells #[.int .u8 (f : Nat), .int .u16 (a : Nat), .int .u16 (m : Nat), .int .u16 (t : Nat), .slice Aw nw cw, .slice Ab nb cb] 26)
  refine (K1.out _ hb).mono ?_
  rintro e w1 ⟨v, rfl, H⟩
  obtain ⟨Av, cv, rfl, hcv, SV, _⟩ := H.slice
  have ra := H.bel.row (by simp) (heap_alloc_new w _)
  have hb := hb.call H.bel
  clear H
  go_wp2_with fail
  refine (K2.out _ hb).mono ?_
  rintro e w2 ⟨Aw2, nw2, cw2, Ab2, nb2, cb2, rfl, SW, SB, hcw, hcb, oW, oB, b2⟩
  have q1 : W.length = nw2 := by simpa using SW.len
  have q2 : B.length = nb2 := by simpa using SB.len
  have ra := b2.row (row_lt ra) ra
  have SV := SV.to b2
  have hb := hb.call b2
  have hlt : w.heap.size < w2.heap.size := row_lt ra
  have H1 := Lib.hid (show nw2 ≤ 1000000 by have := HWl.out; have := HKW.out; omega)
  have H2 := Lib.hid (show nb2 ≤ 1000000 by have := HBl.out; have := HKB.out; omega)
  have rq := heap_alloc_new w2 (.cells #[.int .u8 (f : Nat), .int .u16 (a : Nat), .int .u16 (m : Nat), .int .u16 (t : Nat), .slice Aw2 nw2 cw2, .slice Ab2 nb2 cb2] 26)
  have hb3 := hb.new (.cells #[.int .u8 (f : Nat), .int .u16 (a : Nat), .int .u16 (m : Nat), .int .u16 (t : Nat), .slice Aw2 nw2 cw2, .slice Ab2 nb2 cb2] 26)
  have bn := (Below.refl w2.heap.size w2).new (.cells #[.int .u8 (f : Nat), .int .u16 (a : Nat), .int .u16 (m : Nat), .int .u16 (t : Nat), .slice Aw2 nw2 cw2, .slice Ab2 nb2 cb2] 26)
  have SV := SV.to bn
  have SW := SW.to bn
  have SB := SB.to bn
  obtain ⟨c0, c1, c2, c3, c4, c5⟩ := row6 ra
  clear b2 q1 q2 rq bn
  go_wp2_with fail
  refine (K3.out _ _ _ hb3 SV).mono ?_
  rintro e w4 ⟨rfl, rfl⟩
  rw [beq_self_eq_true]
  go_wp2_with fail
  refine (K4.out _ _ _ _ _ _ _ hb3 SW SB H1.out H2.out).mono ?_
  rintro e w5 ⟨rfl, b5⟩
  simp only [beq_self_eq_true, Bool.and_true]
  go_wp2_with fail
  go_ret
  exact ⟨rfl, hb3.call b5⟩
end Go.Proofs.Ytpajpcaninjhfaa.AskW
