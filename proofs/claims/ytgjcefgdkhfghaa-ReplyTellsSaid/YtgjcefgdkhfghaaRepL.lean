/- The walks of the third layer's said and awake. -/
import Derived.Test.YtgjcefgdkhfghaaAG6
import Derived.Test.YtgjcefgdkhfghaaRepI
import Derived.Test.YtgjcefgdkhfghaaRepK
set_option linter.unusedVariables false
set_option linter.unusedSimpArgs false
namespace Go.Proofs.Ytgjcefgdkhfghaa.AskW
open Go.RowKit Go.Proofs.Ytgjcefgdkhfghaa Go.Proofs.Ytgjcefgdkhfghaa.Ask
set_option maxRecDepth 100000 in
set_option maxHeartbeats 4000000 in
theorem said3_any (f x : Nat) (Ab : Option Addr) (nb cb : Nat) (Aw : Option Addr) (nw cw : Nat) (a m : Nat) (B : List Bool) (W : List Nat) (A : Option Addr) (n c : Nat) (xs : List Nat) (w : World)
    (hB : Sl w w.heap.size Ab nb (bl B)) (hW : Sl w w.heap.size Aw nw (ws W)) (hwf : Rep.Wf ⟨f, x, B, W, a, m⟩) (kB : nb ≤ 1000000) (kW : nw ≤ 1000000) (hs : Sl w w.heap.size A n (bs xs)) (hx : Bytes xs) (hn2 : n ≤ 300) (hc : n ≤ c)
    (h1 : rbytesE ⟨f, x, B, W, a, m⟩ = (xs, 0)) (h2 : rparse xs = (⟨f, x, B, W, a, m⟩, 0)) :
    Calls Try.prog 38 #[.agg #[.int .u8 (f : Nat), .int .u8 (x : Nat), .slice Ab nb cb, .slice Aw nw cw, .int .u16 (a : Nat), .int .u16 (m : Nat)], .slice A n c] w fun e w' => e = .returned (.bool true) ∧ Below w.heap.size w w' := by
  have K1 := Lib.hid (fun X (b : Below w.heap.size w X) => repBytes_any f x Ab nb cb Aw nw cw a m B W X (hB.to b) (hW.to b) hwf kB kW)
  have K2 := Lib.hid (fun X (b : Below w.heap.size w X) => repParse_any A n c xs X (hs.to b) hx hn2 hc)
  rw [h1] at K1
  rw [h2] at K2
  have qn : xs.length = n := by simpa using hs.len
  have K3 := Lib.hid (fun X A2 c2 (b : Below w.heap.size w X) (h : Sl X X.heap.size A2 xs.length (bs xs)) => lowSame_any A2 A xs.length c2 n c X.heap.size xs xs X h hx (hs.to b) hx)
  have K4 := Lib.hid (fun X Ab2 nb2 cb2 Aw2 nw2 cw2 (b : Below w.heap.size w X) h3 h4 k3 k4 => repSame_any f x Ab nb cb Aw nw cw a m f x Ab2 nb2 cb2 Aw2 nw2 cw2 a m B B W W X (hW.to b) (hB.to b) h3 h4 kW kB k3 k4)
  have hWl : W.length = nw := by simpa using hW.len
  have hBl : B.length = nb := by simpa using hB.len
  have HWl := Lib.hid hWl
  have HBl := Lib.hid hBl
  have HKW := Lib.hid kW
  have HKB := Lib.hid kB
  clear h1 h2 hW hB hwf hs hx qn hn2 hc hWl hBl kW kB
  go_enter Try.func38, Try.ntmps38
  go_wp2_with fail
  have hb := (Below.refl w.heap.size w).new (.cells #[.int .u8 (f : Nat), .int .u8 (x : Nat), .slice Ab nb cb, .slice Aw nw cw, .int .u16 (a : Nat), .int .u16 (m : Nat)] 26)
  refine (K1.out _ hb).mono ?_
  rintro e w1 ⟨v, rfl, H⟩
  obtain ⟨Av, cv, rfl, hcv, SV, _⟩ := H.slice
  have ra := H.bel.row (by simp) (heap_alloc_new w _)
  have hb := hb.call H.bel
  clear H
  go_wp2_with fail
  refine (K2.out _ hb).mono ?_
  rintro e w2 ⟨Ab2, nb2, cb2, Aw2, nw2, cw2, rfl, SB, SW, hcb, hcw, oB, oW, b2⟩
  have q1 : W.length = nw2 := by simpa using SW.len
  have q2 : B.length = nb2 := by simpa using SB.len
  have ra := b2.row (row_lt ra) ra
  have SV := SV.to b2
  have hb := hb.call b2
  have hlt : w.heap.size < w2.heap.size := row_lt ra
  have H1 := Lib.hid (show nw2 ≤ 1000000 by have := HWl.out; have := HKW.out; omega)
  have H2 := Lib.hid (show nb2 ≤ 1000000 by have := HBl.out; have := HKB.out; omega)
  have hb3 := hb.new (.cells #[.int .u8 (f : Nat), .int .u8 (x : Nat), .slice Ab2 nb2 cb2, .slice Aw2 nw2 cw2, .int .u16 (a : Nat), .int .u16 (m : Nat)] 26)
  have bn := (Below.refl w2.heap.size w2).new (.cells #[.int .u8 (f : Nat), .int .u8 (x : Nat), .slice Ab2 nb2 cb2, .slice Aw2 nw2 cw2, .int .u16 (a : Nat), .int .u16 (m : Nat)] 26)
  have SV := SV.to bn
  have SW := SW.to bn
  have SB := SB.to bn
  obtain ⟨c0, c1, c2, c3, c4, c5⟩ := row6 ra
  clear b2 q1 q2 bn
  go_wp2_with fail
  refine (K3.out _ _ _ hb3 SV).mono ?_
  rintro e w4 ⟨rfl, rfl⟩
  rw [beq_self_eq_true]
  go_wp2_with fail
  refine (K4.out _ _ _ _ _ _ _ hb3 SW SB H1.out H2.out).mono ?_
  rintro e w5 ⟨rfl, b5⟩
  simp only [beq_self_eq_true, Bool.and_true]
  go_wp2_with fail
  go_ret
  exact ⟨rfl, hb3.call b5⟩
theorem words_then (w : World) (W : List Nat) (t : TypeId) (o : Obj) : Sl ((w.alloc (.cells (ws W).toArray t)).alloc o) ((w.alloc (.cells (ws W).toArray t)).alloc o).heap.size (some ⟨w.heap.size, 0, none⟩) W.length (ws W) := by
  have h := ((Sl.new w (ws W).toArray t (w.heap.size + 1) (by omega)).alloc (by simp) o).mono (B' := ((w.alloc (.cells (ws W).toArray t)).alloc o).heap.size) (by simp)
  simpa using h
theorem x1 : rbytesE ⟨3, 0, [], [1, 258], 0, 0⟩ = ([3, 4, 0, 1, 1, 2], 0) := by decide +kernel
theorem z1 : rparse [3, 4, 0, 1, 1, 2] = (⟨3, 0, [], [1, 258], 0, 0⟩, 0) := by decide +kernel
theorem x2 : rbytesE ⟨3, 2, [], [], 0, 0⟩ = ([131, 2], 0) := by decide +kernel
theorem z2 : rparse [131, 2] = (⟨3, 2, [], [], 0, 0⟩, 0) := by decide +kernel
theorem x3 : rbytesE ⟨15, 0, [], [], 19, 10⟩ = ([15, 0, 19, 0, 10], 0) := by decide +kernel
theorem z3 : rparse [15, 0, 19, 0, 10] = (⟨15, 0, [], [], 19, 10⟩, 0) := by decide +kernel
theorem fit1 : fitsF ⟨1, 0, 10, 0, [], []⟩ ⟨1, 0, [false, false, false, false, false, false, false, false, false, true, false, false, false, false, false, false], [], 0, 0⟩ = true := by decide +kernel
theorem fit2 : fitsF ⟨1, 0, 10, 0, [], []⟩ ⟨1, 0, [false, false, false, false, false, false, false, false, false, true, true, false, false, false, false, false], [], 0, 0⟩ = false := by decide +kernel
theorem rwf_of (f x a m : Nat) (W : List Nat) (h : f < 256 ∧ x < 256 ∧ a < 65536 ∧ m < 65536) (hW : ∀ y ∈ W, y < 65536) : Rep.Wf ⟨f, x, [], W, a, m⟩ := ⟨h.1, h.2.1, hW, h.2.2.1, h.2.2.2⟩
theorem sl_bits {w : World} {g : Nat} {cs : Array Value} {l : List Bool} {t : TypeId} (h : w.heap[g]? = some (.cells cs t (0, 0))) (e : cs = (bl l).toArray) : Sl w w.heap.size (some ⟨g, 0, none⟩) l.length (bl l) := by
  subst e
  have := Sl.of_block (B := w.heap.size) h (row_lt h)
  simpa using this
set_option maxRecDepth 100000 in
set_option maxHeartbeats 4000000 in
theorem awake3_any (w : World) :
    Calls Try.prog 10 #[] w fun e w' => e = .returned (.bool true) ∧ Below w.heap.size w w' := by
  obtain ⟨i0, hi0, hz0, hs0, hb0⟩ := info_parts (P := Try.prog) (e := 4) (z := .bool false) (size := 1) (bytes := 1) (by kernel_rfl)
  have rb := row_alloc (heap_alloc_new w (.cells ((Array.replicate 16 (Value.bool false)).setIfInBounds 9 (Value.bool true)) 4)) (.cells #[.int .u8 1, .int .u16 0, .int .u16 10, .int .u16 0, .slice none 0 0, .slice none 0 0] 28)
  have ra := heap_alloc2_new w (.cells ((Array.replicate 16 (Value.bool false)).setIfInBounds 9 (Value.bool true)) 4) (.cells #[.int .u8 1, .int .u16 0, .int .u16 10, .int .u16 0, .slice none 0 0, .slice none 0 0] 28)
  have B0 := ((Below.refl _ w).new (.cells ((Array.replicate 16 (Value.bool false)).setIfInBounds 9 (Value.bool true)) 4)).new (.cells #[.int .u8 1, .int .u16 0, .int .u16 10, .int .u16 0, .slice none 0 0, .slice none 0 0] 28)
  go_enter Try.func10, Try.ntmps10
  go_wp2_with (at_make; refine wpList_makeN Try.underlying22 hi0 hz0 hs0 rfl rfl _ _ rfl 16 rfl rfl (by rw [hb0]; omega) (by omega) ?_)
  refine (fits2_any 1 0 10 0 none 0 0 none 0 0 [] [] 1 0 (some ⟨w.heap.size, 0, none⟩) 16 16 none 0 0 0 0 [false, false, false, false, false, false, false, false, false, true, false, false, false, false, false, false] [] _ (Sl.empty _ _ _) (Sl.empty _ _ _) (wf_of _ _ _ _ _ (by decide)) (by decide) (by decide) (sl_bits rb (by rfl)) (Sl.empty _ _ _) (by decide) (by decide) (by decide)).mono ?_
  rw [fit1]
  rintro e X ⟨rfl, bX⟩
  have B1 := B0.call bX
  have rb := bX.row (row_lt rb) rb
  have ra := bX.row (row_lt ra) ra
  have c10 : X.cell? ⟨w.heap.size, 10, none⟩ = some (.bool false) := (cell_of_row X _ 10 _ _ _ rb).trans (by rfl)
  have f10 := frozen_of_row X w.heap.size 10 _ _ rb
  have rb2 := heap_setCell_same X w.heap.size 10 _ _ (Value.bool true) rb
  obtain ⟨c0, c1, c2, c3, c4, c5⟩ := row6 ra
  have B2 : Below w.heap.size w (X.setCell ⟨w.heap.size, 10, none⟩ (Value.bool true)) := B1.setCell (Nat.le_refl _) _
  have hnn : ¬ w.heap.size + 1 = w.heap.size := by omega
  clear bX B0 rb
  go_wp2_with fail
  refine (fits2_any 1 0 10 0 none 0 0 none 0 0 [] [] 1 0 (some ⟨w.heap.size, 0, none⟩) 16 16 none 0 0 0 0 [false, false, false, false, false, false, false, false, false, true, true, false, false, false, false, false] [] _ (Sl.empty _ _ _) (Sl.empty _ _ _) (wf_of _ _ _ _ _ (by decide)) (by decide) (by decide) (sl_bits rb2 (by rfl)) (Sl.empty _ _ _) (by decide) (by decide) (by decide)).mono ?_
  rw [fit2]
  rintro e w2 ⟨rfl, b2⟩
  have B3 := B2.call b2
  clear b2 rb2 ra c0 c1 c2 c3 c4 c5 c10 f10
  go_wp2_with fail
  refine (said3_any 3 0 none 0 0 _ 2 2 0 0 [] [1, 258] _ 6 6 [3, 4, 0, 1, 1, 2] _ (Sl.empty _ _ _) (words_then w2 [1, 258] _ _) (rwf_of _ _ _ _ _ (by decide) (by decide)) (by decide) (by decide) (bytes_then _ [3, 4, 0, 1, 1, 2] _ _ (by simp)) (bytes_of (by decide)) (by decide) (by decide) x1 z1).mono ?_
  rintro e w3 ⟨rfl, b3⟩
  have B4 := ((B3.new _).new _).call b3
  clear b3
  go_wp2_with fail
  refine (show Calls Try.prog 22 #[.int .u8 3, .int .u8 2] _ (RetRep _ ⟨3, 2, [], [], 0, 0⟩) from wrong2_any 3 2 (by decide) _).mono ?_
  rintro e w4 ⟨Ab, nb, cb, Aw, nw, cw, rfl, SB, SW, kb, kw, oB, oW, b4⟩
  have B5 := B4.call b4
  have q1 : 0 = nb := by simpa using SB.len
  have q2 : 0 = nw := by simpa using SW.len
  subst q1 q2
  clear b4
  go_wp2_with fail
  refine (said3_any 3 2 Ab 0 cb Aw 0 cw 0 0 [] [] _ 2 2 [131, 2] _ (SB.to ((Below.refl _ _).new _)) (SW.to ((Below.refl _ _).new _)) (rwf_of _ _ _ _ _ (by decide) (by decide)) (by decide) (by decide) (bytes_then _ [131, 2] _ _ (by simp)) (bytes_of (by decide)) (by decide) (by decide) x2 z2).mono ?_
  rintro e w5 ⟨rfl, b5⟩
  have B6 := (B5.new _).call b5
  clear b5
  go_wp2_with fail
  refine (said3_any 15 0 none 0 0 none 0 0 19 10 [] [] _ 5 5 [15, 0, 19, 0, 10] _ (Sl.empty _ _ _) (Sl.empty _ _ _) (rwf_of _ _ _ _ _ (by decide) (by decide)) (by decide) (by decide) (bytes_then _ [15, 0, 19, 0, 10] _ _ (by simp)) (bytes_of (by decide)) (by decide) (by decide) x3 z3).mono ?_
  rintro e w6 ⟨rfl, b6⟩
  have B7 := (B6.new _).call b6
  clear b6
  go_wp2_with fail
  go_ret
  exact ⟨rfl, B7⟩
end Go.Proofs.Ytgjcefgdkhfghaa.AskW
