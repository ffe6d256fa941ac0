/- saucierref02.Parse and Look as one contract each. -/
import Derived.Test.YtjfhfgchglaoiaaGreatAG9
import Derived.Test.YtjfhfgchglaoiaaGreatAskW11
import Derived.Test.YtjfhfgchglaoiaaGreatAG10
set_option linter.unusedVariables false
set_option linter.unusedSimpArgs false
namespace Go.Proofs.YtjfhfgchglaoiaaGreat.AskW
open Go.RowKit Go.Proofs.YtjfhfgchglaoiaaGreat Go.Proofs.YtjfhfgchglaoiaaGreat.Ask
set_option maxRecDepth 100000 in
set_option maxHeartbeats 4000000 in
theorem refParse_short (A : Option Addr) (n c : Nat) (xs : List Nat) (w : World) (hs : Sl w w.heap.size A n (bs xs)) (h5 : n < 5) :
    Calls Tryz.prog 65 #[.slice A n c] w (RetReqTag w (parseF xs).1 .i64 (parseF xs).2) := by
  have q1 : xs.length = n := by simpa using hs.len
  rw [parse_short (xs := xs) (by omega)]
  have z2 : (n : Int) < 5 := by omega
  have rz := heap_alloc_new w (.cells #[.int .u8 0, .int .u16 0, .int .u16 0, .int .u16 0, .slice none 0 0, .slice none 0 0] 31)
  have hb := (Below.refl _ w).new (.cells #[.int .u8 0, .int .u16 0, .int .u16 0, .int .u16 0, .slice none 0 0, .slice none 0 0] 31)
  clear q1 hs h5
  go_enter Tryz.func65, Tryz.ntmps65
  go_wp2_with (refine wpList_store_grown rfl 31 (.tmp 2) _ rfl w.heap.size #[.int .u8 0, .int .u16 0, .int .u16 0, .int .u16 0, .slice none 0 0, .slice none 0 0] rfl rfl 31 _ rz (by kernel_rfl) rfl (by simp [Value.oneCell']) ?_; intro w9 h9 g9 s9)
  refine bodyPost_row_tmp rfl w.heap.size 31 #[.int .u8 0, .int .u16 0, .int .u16 0, .int .u16 0, .slice none 0 0, .slice none 0 0] (0, 0) _ (.int .i64 12) rfl h9 Tryz.underlying31 rfl (by kernel_rfl) rfl rfl ?_
  exact RetReqTag.bare 0 _ _ (hb.grown g9 hb.size (fun k hk => by injection hk with hk; omega))
theorem refParse_any (A : Option Addr) (n c : Nat) (xs : List Nat) (w : World) (hs : Sl w w.heap.size A n (bs xs)) (hx : Bytes xs) (hn2 : n ≤ 300) (hc : n ≤ c) :
    Calls Tryz.prog 65 #[.slice A n c] w (RetReqTag w (parseF xs).1 .i64 (parseF xs).2) := by
  by_cases h5 : n < 5
  · exact refParse_short A n c xs w hs h5
  have h5 : 5 ≤ n := by omega
  by_cases e5 : xs[0]?.getD 0 = 5
  · exact refParse_bit A n c xs w hs hx hn2 h5 hc e5
  by_cases e6 : xs[0]?.getD 0 = 6
  · exact refParse_word A n c xs w hs hx hn2 h5 hc e6
  by_cases e15 : xs[0]?.getD 0 = 15
  · exact refParse_bits A n c xs w hs hx hn2 h5 hc e15
  by_cases e16 : xs[0]?.getD 0 = 16
  · exact refParse_words A n c xs w hs hx hn2 h5 hc e16
  by_cases e23 : xs[0]?.getD 0 = 23
  · exact refParse_swap A n c xs w hs hx hn2 h5 hc e23
  exact refParse_ask A n c xs w hs hx hn2 h5 hc ⟨e5, e6, e15, e16, e23⟩
theorem look_wrong {xs : List Nat} (h : (lookF xs).2 ≠ 0) : lookF xs = if xs.length = 0 then (bare 0, 1) else if (fld (xs[0]?.getD 0)).isSome then (bare (xs[0]?.getD 0), 3) else (bare (xs[0]?.getD 0), 1) := by
  unfold lookF at h ⊢
  by_cases h0 : xs.length = 0
  · rw [if_pos h0, if_pos h0]
  rw [if_neg h0] at h ⊢
  rw [if_neg h0]
  by_cases h1 : (fld (xs[0]?.getD 0)).isSome = false
  · rw [if_pos h1, if_neg (by rw [h1]; decide)]
  rw [if_neg h1] at h ⊢
  have h1' : (fld (xs[0]?.getD 0)).isSome = true := by
    cases hh : (fld (xs[0]?.getD 0)).isSome
    · exact absurd hh h1
    · rfl
  by_cases h2 : 253 < xs.length
  · rw [if_pos h2, if_pos h1']
  rw [if_neg h2] at h ⊢
  by_cases h3 : (right (rd xs) && bytes (rd xs) == xs) = true
  · rw [if_pos h3] at h; exact absurd rfl h
  · rw [if_neg h3, if_pos h1']
theorem fld_lo {f : Nat} (h : 1 ≤ f ∧ f ≤ 6) : (fld f).isSome = true := by
  obtain h | h | h | h | h | h : f = 1 ∨ f = 2 ∨ f = 3 ∨ f = 4 ∨ f = 5 ∨ f = 6 := by omega
  all_goals (subst h; rfl)
set_option maxRecDepth 100000 in
set_option maxHeartbeats 8000000 in
theorem refLook_any (A : Option Addr) (n c : Nat) (xs : List Nat) (w : World) (hs : Sl w w.heap.size A n (bs xs)) (hx : Bytes xs) (hn2 : n ≤ 300) (hc : n ≤ c) :
    Calls Tryz.prog 44 #[.slice A n c] w (RetReqTag w (lookF xs).1 .u8 (lookF xs).2) := by
  have K0 := fun X hs => refParse_any A n c xs X hs hx hn2 hc
  have HS := Lib.hid hs
  rcases parse_cases xs with ⟨r, hr, hby, hp, hl⟩ | ⟨hp, hl⟩
  · rw [hl]
    rw [hp] at K0
    have K := Lib.hid K0
    obtain ⟨y1, y2, y3, y4, y5, y6⟩ := r
    clear K0 hr hby hp hl hs hx hn2 hc
    go_enter Tryz.func44, Tryz.ntmps44
    go_wp2_with fail
    refine (K.out _ (HS.out.to ((Below.refl _ _).new _))).mono ?_
    rintro e w1 ⟨Aw, nw, cw, Ab, nb, cb, rfl, SW, SB, hcw, hcb, oW, oB, b1⟩
    have rz := b1.row (by simp) (heap_alloc_new w _)
    have hb := ((Below.refl _ w).new _).call b1
    have hlt : w.heap.size < w1.heap.size := row_lt rz
    have rq := heap_alloc_new w1 (.cells #[.int .u8 (y1 : Nat), .int .u16 (y2 : Nat), .int .u16 (y3 : Nat), .int .u16 (y4 : Nat), .slice Aw nw cw, .slice Ab nb cb] 31)
    have rz := row_alloc rz (.cells #[.int .u8 (y1 : Nat), .int .u16 (y2 : Nat), .int .u16 (y3 : Nat), .int .u16 (y4 : Nat), .slice Aw nw cw, .slice Ab nb cb] 31)
    have hb := hb.new (.cells #[.int .u8 (y1 : Nat), .int .u16 (y2 : Nat), .int .u16 (y3 : Nat), .int .u16 (y4 : Nat), .slice Aw nw cw, .slice Ab nb cb] 31)
    clear b1
    go_wp2_with (first
      | (refine wpList_load_row rfl 31 (.tmp 4) rfl w1.heap.size rfl 31 #[.int .u8 (y1 : Nat), .int .u16 (y2 : Nat), .int .u16 (y3 : Nat), .int .u16 (y4 : Nat), .slice Aw nw cw, .slice Ab nb cb] (0, 0) _ rq Tryz.underlying31 rfl (by kernel_rfl) ?_)
      | (refine wpList_store_grown rfl 31 (.tmp 2) _ rfl w.heap.size #[.int .u8 (y1 : Nat), .int .u16 (y2 : Nat), .int .u16 (y3 : Nat), .int .u16 (y4 : Nat), .slice Aw nw cw, .slice Ab nb cb] rfl rfl 31 _ rz (by kernel_rfl) rfl (by simp [Value.oneCell']) ?_; intro w9 h9 g9 s9))
    refine bodyPost_row_tmp rfl w.heap.size 31 #[.int .u8 (y1 : Nat), .int .u16 (y2 : Nat), .int .u16 (y3 : Nat), .int .u16 (y4 : Nat), .slice Aw nw cw, .slice Ab nb cb] (0, 0) _ (.int .u8 0) rfl h9 Tryz.underlying31 rfl (by kernel_rfl) rfl rfl ?_
    have SW := SW.to ((Below.refl _ w1).new (.cells #[.int .u8 (y1 : Nat), .int .u16 (y2 : Nat), .int .u16 (y3 : Nat), .int .u16 (y4 : Nat), .slice Aw nw cw, .slice Ab nb cb] 31))
    have SB := SB.to ((Below.refl _ w1).new (.cells #[.int .u8 (y1 : Nat), .int .u16 (y2 : Nat), .int .u16 (y3 : Nat), .int .u16 (y4 : Nat), .slice Aw nw cw, .slice Ab nb cb] 31))
    exact ⟨Aw, nw, cw, Ab, nb, cb, rfl, SW.grown g9 (fun b o h e => by have := oW b o h; simp at this; injection e with e; omega), SB.grown g9 (fun b o h e => by have := oB b o h; simp at this; injection e with e; omega), hcw, hcb, (fun b o h => by have := oW b o h; simp at this; omega), (fun b o h => by have := oB b o h; simp at this; omega), hb.grown g9 hb.size (fun k hk => by injection hk with hk; omega)⟩
  · rw [hp] at K0
    have K := Lib.hid K0
    have q1 : xs.length = n := by simpa using hs.len
    have HL := Lib.hid (look_wrong hl)
    rw [q1] at HL
    obtain ⟨LF, hLF⟩ : ∃ LF, LF = lookF xs := ⟨_, rfl⟩
    rw [← hLF] at HL ⊢
    clear K0 hp hl hLF hx hn2 hc
    by_cases h0 : n = 0
    · subst h0
      have HQ := Lib.hid q1
      clear q1 hs
      go_enter Tryz.func44, Tryz.ntmps44
      go_wp2_with fail
      refine (K.out _ (HS.out.to ((Below.refl _ _).new _))).mono ?_
      rintro e w1 ⟨Aw, nw, cw, Ab, nb, cb, rfl, SW, SB, hcw, hcb, oW, oB, b1⟩
      dsimp only [bare]
      have rz := b1.row (by simp) (heap_alloc_new w _)
      have hb := ((Below.refl _ w).new _).call b1
      have hlt : w.heap.size < w1.heap.size := row_lt rz
      have rz := row_alloc rz (.cells #[.int .u8 (0 : Nat), .int .u16 (0 : Nat), .int .u16 (0 : Nat), .int .u16 (0 : Nat), .slice Aw nw cw, .slice Ab nb cb] 31)
      have hb := hb.new (.cells #[.int .u8 (0 : Nat), .int .u16 (0 : Nat), .int .u16 (0 : Nat), .int .u16 (0 : Nat), .slice Aw nw cw, .slice Ab nb cb] 31)
      clear b1
      go_wp2_with (refine wpList_store_grown rfl 31 (.tmp 2) _ rfl w.heap.size #[.int .u8 0, .int .u16 0, .int .u16 0, .int .u16 0, .slice none 0 0, .slice none 0 0] rfl rfl 31 _ rz (by kernel_rfl) rfl (by simp [Value.oneCell']) ?_; intro w9 h9 g9 s9)
      refine bodyPost_row_tmp rfl w.heap.size 31 #[.int .u8 0, .int .u16 0, .int .u16 0, .int .u16 0, .slice none 0 0, .slice none 0 0] (0, 0) _ (.int .u8 1) rfl h9 Tryz.underlying31 rfl (by kernel_rfl) rfl rfl ?_
      first | rw [HL.out, if_pos rfl] | rw [HL.out, if_pos trivial]
      exact RetReqTag.bare 0 _ _ (hb.grown g9 hb.size (fun k hk => by injection hk with hk; omega))
    obtain ⟨b, o, rfl, hbl, d1⟩ := hs.2 (by omega)
    obtain ⟨f, ef⟩ : ∃ f, f = xs[0]?.getD 0 := ⟨_, rfl⟩
    have g0 : w.cell? ⟨b, o, none⟩ = some (.int .u8 (f : Nat)) := (d1 0 (by omega)).trans (by rw [bs_get (by omega), ← ef])
    rw [← ef] at HL
    have z1 : (0 : Int) < (n : Int) := by omega
    have z1n : 0 < n := by omega
    have z2 : ((n : Int) == 0) = false := by rw [beq_eq_false_iff_ne]; omega
    have HN0 := Lib.hid h0
    clear q1 hs d1 ef h0
    by_cases k1 : 1 ≤ f ∧ f ≤ 6
    · have HF := Lib.hid (show (fld f).isSome = true from fld_lo k1)
      have U1 : decide (1 ≤ (f : Int)) = true := by first | exact decide_eq_true (by omega) | exact decide_eq_false (by omega)
      have V1 : 1 ≤ (f : Int) := by omega
      have U6 : decide ((f : Int) ≤ 6) = true := by first | exact decide_eq_true (by omega) | exact decide_eq_false (by omega)
      have V6 : (f : Int) ≤ 6 := by omega
      clear k1
      go_enter Tryz.func44, Tryz.ntmps44
      go_wp2_with fail
      refine (K.out _ (HS.out.to ((Below.refl _ _).new _))).mono ?_
      rintro e w1 ⟨Aw, nw, cw, Ab, nb, cb, rfl, SW, SB, hcw, hcb, oW, oB, b1⟩
      dsimp only [bare]
      have rz := b1.row (by simp) (heap_alloc_new w _)
      have hb := ((Below.refl _ w).new _).call b1
      have hlt : w.heap.size < w1.heap.size := row_lt rz
      have rz := row_alloc rz (.cells #[.int .u8 (0 : Nat), .int .u16 (0 : Nat), .int .u16 (0 : Nat), .int .u16 (0 : Nat), .slice Aw nw cw, .slice Ab nb cb] 31)
      have hb := hb.new (.cells #[.int .u8 (0 : Nat), .int .u16 (0 : Nat), .int .u16 (0 : Nat), .int .u16 (0 : Nat), .slice Aw nw cw, .slice Ab nb cb] 31)
      have g1 := (hb.cell (p := ⟨b, o, none⟩) hbl).trans g0
      have g2 : w1.cell? ⟨b, o, none⟩ = some (.int .u8 (f : Nat)) := ((((Below.refl _ w).new _).call b1).cell (p := ⟨b, o, none⟩) hbl).trans g0
      have hbl1 : b < w1.heap.size := by omega
      clear b1
      go_wp2_with (refine wpList_store_grown rfl 31 (.tmp 2) _ rfl w.heap.size #[.int .u8 (f : Nat), .int .u16 0, .int .u16 0, .int .u16 0, .slice none 0 0, .slice none 0 0] rfl rfl 31 _ rz (by kernel_rfl) rfl (by simp [Value.oneCell']) ?_; intro w9 h9 g9 s9)
      refine bodyPost_row_tmp rfl w.heap.size 31 #[.int .u8 (f : Nat), .int .u16 0, .int .u16 0, .int .u16 0, .slice none 0 0, .slice none 0 0] (0, 0) _ (.int .u8 3) rfl h9 Tryz.underlying31 rfl (by kernel_rfl) rfl rfl ?_
      rw [HL.out, if_neg HN0.out, if_pos HF.out]
      exact RetReqTag.bare f _ _ (hb.grown g9 hb.size (fun k hk => by injection hk with hk; omega))
    by_cases k15 : f = 15
    · have HF := Lib.hid (show (fld f).isSome = true from by subst k15; rfl)
      have U1 : decide (1 ≤ (f : Int)) = true := by first | exact decide_eq_true (by omega) | exact decide_eq_false (by omega)
      have V1 : 1 ≤ (f : Int) := by omega
      have U6 : decide ((f : Int) ≤ 6) = false := by first | exact decide_eq_true (by omega) | exact decide_eq_false (by omega)
      have V6 : ¬ (f : Int) ≤ 6 := by omega
      have T15 : ((f : Int) == 15) = true := by first | (rw [beq_eq_false_iff_ne]; omega) | (rw [beq_iff_eq]; omega)
      have T16 : ((f : Int) == 16) = false := by first | (rw [beq_eq_false_iff_ne]; omega) | (rw [beq_iff_eq]; omega)
      have T23 : ((f : Int) == 23) = false := by first | (rw [beq_eq_false_iff_ne]; omega) | (rw [beq_iff_eq]; omega)
      clear k1 k15
      go_enter Tryz.func44, Tryz.ntmps44
      go_wp2_with fail
      refine (K.out _ (HS.out.to ((Below.refl _ _).new _))).mono ?_
      rintro e w1 ⟨Aw, nw, cw, Ab, nb, cb, rfl, SW, SB, hcw, hcb, oW, oB, b1⟩
      dsimp only [bare]
      have rz := b1.row (by simp) (heap_alloc_new w _)
      have hb := ((Below.refl _ w).new _).call b1
      have hlt : w.heap.size < w1.heap.size := row_lt rz
      have rz := row_alloc rz (.cells #[.int .u8 (0 : Nat), .int .u16 (0 : Nat), .int .u16 (0 : Nat), .int .u16 (0 : Nat), .slice Aw nw cw, .slice Ab nb cb] 31)
      have hb := hb.new (.cells #[.int .u8 (0 : Nat), .int .u16 (0 : Nat), .int .u16 (0 : Nat), .int .u16 (0 : Nat), .slice Aw nw cw, .slice Ab nb cb] 31)
      have g1 := (hb.cell (p := ⟨b, o, none⟩) hbl).trans g0
      have g2 : w1.cell? ⟨b, o, none⟩ = some (.int .u8 (f : Nat)) := ((((Below.refl _ w).new _).call b1).cell (p := ⟨b, o, none⟩) hbl).trans g0
      have hbl1 : b < w1.heap.size := by omega
      clear b1
      go_wp2_with (refine wpList_store_grown rfl 31 (.tmp 2) _ rfl w.heap.size #[.int .u8 (f : Nat), .int .u16 0, .int .u16 0, .int .u16 0, .slice none 0 0, .slice none 0 0] rfl rfl 31 _ rz (by kernel_rfl) rfl (by simp [Value.oneCell']) ?_; intro w9 h9 g9 s9)
      refine bodyPost_row_tmp rfl w.heap.size 31 #[.int .u8 (f : Nat), .int .u16 0, .int .u16 0, .int .u16 0, .slice none 0 0, .slice none 0 0] (0, 0) _ (.int .u8 3) rfl h9 Tryz.underlying31 rfl (by kernel_rfl) rfl rfl ?_
      rw [HL.out, if_neg HN0.out, if_pos HF.out]
      exact RetReqTag.bare f _ _ (hb.grown g9 hb.size (fun k hk => by injection hk with hk; omega))
    by_cases k16 : f = 16
    · have HF := Lib.hid (show (fld f).isSome = true from by subst k16; rfl)
      have U1 : decide (1 ≤ (f : Int)) = true := by first | exact decide_eq_true (by omega) | exact decide_eq_false (by omega)
      have V1 : 1 ≤ (f : Int) := by omega
      have U6 : decide ((f : Int) ≤ 6) = false := by first | exact decide_eq_true (by omega) | exact decide_eq_false (by omega)
      have V6 : ¬ (f : Int) ≤ 6 := by omega
      have T15 : ((f : Int) == 15) = false := by first | (rw [beq_eq_false_iff_ne]; omega) | (rw [beq_iff_eq]; omega)
      have T16 : ((f : Int) == 16) = true := by first | (rw [beq_eq_false_iff_ne]; omega) | (rw [beq_iff_eq]; omega)
      have T23 : ((f : Int) == 23) = false := by first | (rw [beq_eq_false_iff_ne]; omega) | (rw [beq_iff_eq]; omega)
      clear k1 k16
      go_enter Tryz.func44, Tryz.ntmps44
      go_wp2_with fail
      refine (K.out _ (HS.out.to ((Below.refl _ _).new _))).mono ?_
      rintro e w1 ⟨Aw, nw, cw, Ab, nb, cb, rfl, SW, SB, hcw, hcb, oW, oB, b1⟩
      dsimp only [bare]
      have rz := b1.row (by simp) (heap_alloc_new w _)
      have hb := ((Below.refl _ w).new _).call b1
      have hlt : w.heap.size < w1.heap.size := row_lt rz
      have rz := row_alloc rz (.cells #[.int .u8 (0 : Nat), .int .u16 (0 : Nat), .int .u16 (0 : Nat), .int .u16 (0 : Nat), .slice Aw nw cw, .slice Ab nb cb] 31)
      have hb := hb.new (.cells #[.int .u8 (0 : Nat), .int .u16 (0 : Nat), .int .u16 (0 : Nat), .int .u16 (0 : Nat), .slice Aw nw cw, .slice Ab nb cb] 31)
      have g1 := (hb.cell (p := ⟨b, o, none⟩) hbl).trans g0
      have g2 : w1.cell? ⟨b, o, none⟩ = some (.int .u8 (f : Nat)) := ((((Below.refl _ w).new _).call b1).cell (p := ⟨b, o, none⟩) hbl).trans g0
      have hbl1 : b < w1.heap.size := by omega
      clear b1
      go_wp2_with (refine wpList_store_grown rfl 31 (.tmp 2) _ rfl w.heap.size #[.int .u8 (f : Nat), .int .u16 0, .int .u16 0, .int .u16 0, .slice none 0 0, .slice none 0 0] rfl rfl 31 _ rz (by kernel_rfl) rfl (by simp [Value.oneCell']) ?_; intro w9 h9 g9 s9)
      refine bodyPost_row_tmp rfl w.heap.size 31 #[.int .u8 (f : Nat), .int .u16 0, .int .u16 0, .int .u16 0, .slice none 0 0, .slice none 0 0] (0, 0) _ (.int .u8 3) rfl h9 Tryz.underlying31 rfl (by kernel_rfl) rfl rfl ?_
      rw [HL.out, if_neg HN0.out, if_pos HF.out]
      exact RetReqTag.bare f _ _ (hb.grown g9 hb.size (fun k hk => by injection hk with hk; omega))
    by_cases k23 : f = 23
    · have HF := Lib.hid (show (fld f).isSome = true from by subst k23; rfl)
      have U1 : decide (1 ≤ (f : Int)) = true := by first | exact decide_eq_true (by omega) | exact decide_eq_false (by omega)
      have V1 : 1 ≤ (f : Int) := by omega
      have U6 : decide ((f : Int) ≤ 6) = false := by first | exact decide_eq_true (by omega) | exact decide_eq_false (by omega)
      have V6 : ¬ (f : Int) ≤ 6 := by omega
      have T15 : ((f : Int) == 15) = false := by first | (rw [beq_eq_false_iff_ne]; omega) | (rw [beq_iff_eq]; omega)
      have T16 : ((f : Int) == 16) = false := by first | (rw [beq_eq_false_iff_ne]; omega) | (rw [beq_iff_eq]; omega)
      have T23 : ((f : Int) == 23) = true := by first | (rw [beq_eq_false_iff_ne]; omega) | (rw [beq_iff_eq]; omega)
      clear k1 k23
      go_enter Tryz.func44, Tryz.ntmps44
      go_wp2_with fail
      refine (K.out _ (HS.out.to ((Below.refl _ _).new _))).mono ?_
      rintro e w1 ⟨Aw, nw, cw, Ab, nb, cb, rfl, SW, SB, hcw, hcb, oW, oB, b1⟩
      dsimp only [bare]
      have rz := b1.row (by simp) (heap_alloc_new w _)
      have hb := ((Below.refl _ w).new _).call b1
      have hlt : w.heap.size < w1.heap.size := row_lt rz
      have rz := row_alloc rz (.cells #[.int .u8 (0 : Nat), .int .u16 (0 : Nat), .int .u16 (0 : Nat), .int .u16 (0 : Nat), .slice Aw nw cw, .slice Ab nb cb] 31)
      have hb := hb.new (.cells #[.int .u8 (0 : Nat), .int .u16 (0 : Nat), .int .u16 (0 : Nat), .int .u16 (0 : Nat), .slice Aw nw cw, .slice Ab nb cb] 31)
      have g1 := (hb.cell (p := ⟨b, o, none⟩) hbl).trans g0
      have g2 : w1.cell? ⟨b, o, none⟩ = some (.int .u8 (f : Nat)) := ((((Below.refl _ w).new _).call b1).cell (p := ⟨b, o, none⟩) hbl).trans g0
      have hbl1 : b < w1.heap.size := by omega
      clear b1
      go_wp2_with (refine wpList_store_grown rfl 31 (.tmp 2) _ rfl w.heap.size #[.int .u8 (f : Nat), .int .u16 0, .int .u16 0, .int .u16 0, .slice none 0 0, .slice none 0 0] rfl rfl 31 _ rz (by kernel_rfl) rfl (by simp [Value.oneCell']) ?_; intro w9 h9 g9 s9)
      refine bodyPost_row_tmp rfl w.heap.size 31 #[.int .u8 (f : Nat), .int .u16 0, .int .u16 0, .int .u16 0, .slice none 0 0, .slice none 0 0] (0, 0) _ (.int .u8 3) rfl h9 Tryz.underlying31 rfl (by kernel_rfl) rfl rfl ?_
      rw [HL.out, if_neg HN0.out, if_pos HF.out]
      exact RetReqTag.bare f _ _ (hb.grown g9 hb.size (fun k hk => by injection hk with hk; omega))
    have HF := Lib.hid (show ¬ (fld f).isSome = true from fun h => by have := fld_cases h; omega)
    by_cases k0 : f = 0
    · have U1 : decide (1 ≤ (f : Int)) = false := by first | exact decide_eq_true (by omega) | exact decide_eq_false (by omega)
      have V1 : ¬ 1 ≤ (f : Int) := by omega
      have T15 : ((f : Int) == 15) = false := by first | (rw [beq_eq_false_iff_ne]; omega) | (rw [beq_iff_eq]; omega)
      have T16 : ((f : Int) == 16) = false := by first | (rw [beq_eq_false_iff_ne]; omega) | (rw [beq_iff_eq]; omega)
      have T23 : ((f : Int) == 23) = false := by first | (rw [beq_eq_false_iff_ne]; omega) | (rw [beq_iff_eq]; omega)
      clear k1 k15 k16 k23 k0
      go_enter Tryz.func44, Tryz.ntmps44
      go_wp2_with fail
      refine (K.out _ (HS.out.to ((Below.refl _ _).new _))).mono ?_
      rintro e w1 ⟨Aw, nw, cw, Ab, nb, cb, rfl, SW, SB, hcw, hcb, oW, oB, b1⟩
      dsimp only [bare]
      have rz := b1.row (by simp) (heap_alloc_new w _)
      have hb := ((Below.refl _ w).new _).call b1
      have hlt : w.heap.size < w1.heap.size := row_lt rz
      have rz := row_alloc rz (.cells #[.int .u8 (0 : Nat), .int .u16 (0 : Nat), .int .u16 (0 : Nat), .int .u16 (0 : Nat), .slice Aw nw cw, .slice Ab nb cb] 31)
      have hb := hb.new (.cells #[.int .u8 (0 : Nat), .int .u16 (0 : Nat), .int .u16 (0 : Nat), .int .u16 (0 : Nat), .slice Aw nw cw, .slice Ab nb cb] 31)
      have g1 := (hb.cell (p := ⟨b, o, none⟩) hbl).trans g0
      have g2 : w1.cell? ⟨b, o, none⟩ = some (.int .u8 (f : Nat)) := ((((Below.refl _ w).new _).call b1).cell (p := ⟨b, o, none⟩) hbl).trans g0
      have hbl1 : b < w1.heap.size := by omega
      clear b1
      go_wp2_with (refine wpList_store_grown rfl 31 (.tmp 2) _ rfl w.heap.size #[.int .u8 (f : Nat), .int .u16 0, .int .u16 0, .int .u16 0, .slice none 0 0, .slice none 0 0] rfl rfl 31 _ rz (by kernel_rfl) rfl (by simp [Value.oneCell']) ?_; intro w9 h9 g9 s9)
      refine bodyPost_row_tmp rfl w.heap.size 31 #[.int .u8 (f : Nat), .int .u16 0, .int .u16 0, .int .u16 0, .slice none 0 0, .slice none 0 0] (0, 0) _ (.int .u8 1) rfl h9 Tryz.underlying31 rfl (by kernel_rfl) rfl rfl ?_
      rw [HL.out, if_neg HN0.out, if_neg HF.out]
      exact RetReqTag.bare f _ _ (hb.grown g9 hb.size (fun k hk => by injection hk with hk; omega))
    · have U1 : decide (1 ≤ (f : Int)) = true := by first | exact decide_eq_true (by omega) | exact decide_eq_false (by omega)
      have V1 : 1 ≤ (f : Int) := by omega
      have U6 : decide ((f : Int) ≤ 6) = false := by first | exact decide_eq_true (by omega) | exact decide_eq_false (by omega)
      have V6 : ¬ (f : Int) ≤ 6 := by omega
      have T15 : ((f : Int) == 15) = false := by first | (rw [beq_eq_false_iff_ne]; omega) | (rw [beq_iff_eq]; omega)
      have T16 : ((f : Int) == 16) = false := by first | (rw [beq_eq_false_iff_ne]; omega) | (rw [beq_iff_eq]; omega)
      have T23 : ((f : Int) == 23) = false := by first | (rw [beq_eq_false_iff_ne]; omega) | (rw [beq_iff_eq]; omega)
      clear k1 k15 k16 k23 k0
      go_enter Tryz.func44, Tryz.ntmps44
      go_wp2_with fail
      refine (K.out _ (HS.out.to ((Below.refl _ _).new _))).mono ?_
      rintro e w1 ⟨Aw, nw, cw, Ab, nb, cb, rfl, SW, SB, hcw, hcb, oW, oB, b1⟩
      dsimp only [bare]
      have rz := b1.row (by simp) (heap_alloc_new w _)
      have hb := ((Below.refl _ w).new _).call b1
      have hlt : w.heap.size < w1.heap.size := row_lt rz
      have rz := row_alloc rz (.cells #[.int .u8 (0 : Nat), .int .u16 (0 : Nat), .int .u16 (0 : Nat), .int .u16 (0 : Nat), .slice Aw nw cw, .slice Ab nb cb] 31)
      have hb := hb.new (.cells #[.int .u8 (0 : Nat), .int .u16 (0 : Nat), .int .u16 (0 : Nat), .int .u16 (0 : Nat), .slice Aw nw cw, .slice Ab nb cb] 31)
      have g1 := (hb.cell (p := ⟨b, o, none⟩) hbl).trans g0
      have g2 : w1.cell? ⟨b, o, none⟩ = some (.int .u8 (f : Nat)) := ((((Below.refl _ w).new _).call b1).cell (p := ⟨b, o, none⟩) hbl).trans g0
      have hbl1 : b < w1.heap.size := by omega
      clear b1
      go_wp2_with (refine wpList_store_grown rfl 31 (.tmp 2) _ rfl w.heap.size #[.int .u8 (f : Nat), .int .u16 0, .int .u16 0, .int .u16 0, .slice none 0 0, .slice none 0 0] rfl rfl 31 _ rz (by kernel_rfl) rfl (by simp [Value.oneCell']) ?_; intro w9 h9 g9 s9)
      refine bodyPost_row_tmp rfl w.heap.size 31 #[.int .u8 (f : Nat), .int .u16 0, .int .u16 0, .int .u16 0, .slice none 0 0, .slice none 0 0] (0, 0) _ (.int .u8 1) rfl h9 Tryz.underlying31 rfl (by kernel_rfl) rfl rfl ?_
      rw [HL.out, if_neg HN0.out, if_neg HF.out]
      exact RetReqTag.bare f _ _ (hb.grown g9 hb.size (fun k hk => by injection hk with hk; omega))
end Go.Proofs.YtjfhfgchglaoiaaGreat.AskW
