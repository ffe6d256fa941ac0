/- Merged: AskW7 AskW8. -/
import Derived.Test.YtjfhfgchglaoiaaGreatBase
import Derived.Test.YtjfhfgchglaoiaaGreatAG7
import Derived.Test.YtjfhfgchglaoiaaGreatAG6
import Derived.Test.YtjfhfgchglaoiaaGreatAG3
import Derived.Deep.RegionHeld3
/- The walk of saucierref02.Bytes. -/
set_option linter.unusedVariables false
set_option linter.unusedSimpArgs false
namespace Go.Proofs.YtjfhfgchglaoiaaGreat.AskW
open Go.RowKit Go.Proofs.YtjfhfgchglaoiaaGreat Go.Proofs.YtjfhfgchglaoiaaGreat.Ask
theorem refTwo_keep (w0 w : World) (v : Value) (n : Nat) (xs : List Nat) (H : Has w0 w 5 v n (bs xs)) (x : Nat) (hx : x < 65536) (hn : n ≤ 900000) :
    Calls Tryz.prog 69 #[v, .int .i64 x] w fun e w' => ∃ v', e = .returned v' ∧ Has w0 w' 5 v' (n + 2) (bs (xs ++ two x)) ∧ Keeps w w' v ∧ Moves w v v' ∧ w.heap.size ≤ w'.heap.size := by
  have hq : Int.tdiv (x : Int) 256 = ((x / 256 : Nat) : Int) := by rw [Int.tdiv_eq_ediv_of_nonneg (by omega)]; omega
  have hr : Int.tmod (x : Int) 256 = ((x % 256 : Nat) : Int) := by rw [Int.tmod_eq_emod_of_nonneg (by omega)]; omega
  have hi : IntKind.u8.wrap ((x / 256 : Nat) : Int) = ((x / 256 : Nat) : Int) := by rw [IntKind.wrap_u8]; omega
  have lo : IntKind.u8.wrap ((x % 256 : Nat) : Int) = ((x % 256 : Nat) : Int) := by rw [IntKind.wrap_u8]; omega
  have qi := w64 (show x / 256 ≤ 9223372036854775807 by omega)
  have ri := w64 (show x % 256 ≤ 9223372036854775807 by omega)
  have HT := Lib.hid (show two x = [x / 256, x % 256] from rfl)
  obtain ⟨p, ep⟩ : ∃ p, p = x / 256 := ⟨_, rfl⟩
  obtain ⟨q, eq⟩ : ∃ q, q = x % 256 := ⟨_, rfl⟩
  rw [← ep] at hq hi qi HT
  rw [← eq] at hr lo ri HT
  clear ep eq hx
  go_enter Tryz.func69, Tryz.ntmps69
  go_wp2_with (first
    | (at_builtin; refine wpList_app u8 rfl (.tmp 5) (.tmp 9) rfl (H.alloc _) rfl (Sl.new1 _ _ _) rfl (one1 _ _) (by omega) (by simp only [maxLen]; omega) ?_; intro v3 w3 H3 g3 o3)
    | (at_builtin; refine wpList_app u8 rfl (.tmp 11) (.tmp 15) rfl (H3.alloc _) rfl (Sl.new1 _ _ _) rfl (one1 _ _) (by omega) (by simp only [maxLen]; omega) ?_; intro v4 w4 H4 g4 o4))
  go_ret
  have s3 := g3.size
  have s4 := g4.size
  simp at s3 s4
  have k1 : Keeps w w3 v := (Keeps.alloc w _ v).then (Moves.refl _ _) (by simp) (Keeps.grown g3)
  have m1 : Moves w v v3 := (Moves.refl w v).then (w1 := w.alloc _) (by simp) (Moves.grown o3)
  have m2 : Moves w3 v3 v4 := (Moves.refl w3 v3).then (w1 := w3.alloc _) (by simp) (Moves.grown o4)
  have k2 : Keeps w3 w4 v3 := (Keeps.alloc w3 _ v3).then (Moves.refl _ _) (by simp) (Keeps.grown g4)
  refine ⟨_, rfl, ?_, k1.then m1 (by omega) k2, m1.then (by omega) m2, by omega⟩
  have e : bs xs ++ [Value.int .u8 (p : Nat)] ++ [Value.int .u8 (q : Nat)] = bs (xs ++ two x) := by rw [HT.out]; simp [bs]
  rw [e] at H4
  exact H4
theorem by_ask {f a m t : Nat} {W : List Nat} {B : List Bool} (hr : right ⟨f, a, m, t, W, B⟩ = true) (hf : f = 1 ∨ f = 2 ∨ f = 3 ∨ f = 4) : bytes ⟨f, a, m, t, W, B⟩ = f :: two a ++ two m := by
  rcases hf with rfl | rfl | rfl | rfl
  all_goals
    simp [right, fld, Fld.right, fits] at hr
    obtain ⟨h1, ⟨h2, h3⟩, h4⟩ := hr
    subst h2 h3 h4
    simp [bytes, fbytes, fldOf, fld, two, pack_nil, twos]
theorem by_bit {a m t : Nat} {W : List Nat} {B : List Bool} (x : Bool) (hr : right ⟨5, a, m, t, W, B⟩ = true) (hB : B = [x]) : bytes ⟨5, a, m, t, W, B⟩ = 5 :: two a ++ two (if x then 65280 else 0) := by
  subst hB
  simp [bytes, fbytes, fldOf, fld, two]
theorem by_word {a m t : Nat} {W : List Nat} {B : List Bool} (x : Nat) (hr : right ⟨6, a, m, t, W, B⟩ = true) (hW : W = [x]) : bytes ⟨6, a, m, t, W, B⟩ = 6 :: two a ++ two x := by
  subst hW
  simp [right, fld, Fld.right, fits] at hr
  obtain ⟨h1, h2, h3⟩ := hr
  subst h3
  simp [bytes, fbytes, fldOf, fld, two, pack_nil, twos]
theorem by_bits {a m t nb : Nat} {W : List Nat} {B : List Bool} (hr : right ⟨15, a, m, t, W, B⟩ = true) (hb : B.length = nb) (hn : nb ≤ 1968) : bytes ⟨15, a, m, t, W, B⟩ = 15 :: two a ++ two m ++ [(nb + 7) / 8] ++ pack B := by
  simp [right, fld, Fld.right, fits] at hr
  obtain ⟨h1, ⟨h2, h3⟩, h4⟩ := hr
  subst h4
  simp [bytes, fbytes, fldOf, fld, two, twos, pack_length]
  omega
theorem by_words {a m t nw : Nat} {W : List Nat} {B : List Bool} (hr : right ⟨16, a, m, t, W, B⟩ = true) (hw : W.length = nw) (hn : nw ≤ 123) : bytes ⟨16, a, m, t, W, B⟩ = 16 :: two a ++ two m ++ [2 * nw] ++ twos W := by
  simp [right, fld, Fld.right, fits] at hr
  obtain ⟨h1, ⟨h2, h3⟩, h4⟩ := hr
  subst h3
  simp [bytes, fbytes, fldOf, fld, two, twos_len, pack_nil]
  omega
theorem by_swap {a m t nw : Nat} {W : List Nat} {B : List Bool} (hr : right ⟨23, a, m, t, W, B⟩ = true) (hw : W.length = nw) (hn : nw ≤ 121) : bytes ⟨23, a, m, t, W, B⟩ = 23 :: two a ++ two m ++ two t ++ two nw ++ [2 * nw] ++ twos W := by
  simp [right, fld, Fld.right, fits] at hr
  obtain ⟨h1, h2, h3⟩ := hr
  subst h2
  simp [bytes, fbytes, fldOf, fld, two, twos_len, pack_nil, hw]
  omega
theorem sl_built {w w3 : World} {v : Value} {cs : Array Value} {t : TypeId} (K : Keeps (w.alloc (.cells cs t)) w3 v) (s : (w.alloc (.cells cs t)).heap.size ≤ w3.heap.size) (hne : v.ownBlock ≠ some w.heap.size) : Sl w3 w3.heap.size (some ⟨w.heap.size, 0, none⟩) cs.size cs.toList := by
  simp at s
  exact Sl.of_block ((K w.heap.size (by simp) hne).trans (heap_alloc_new w _)) (by omega)
set_option maxHeartbeats 4000000 in
set_option maxRecDepth 100000 in
theorem refBytes_no (f a m t : Nat) (Aw : Option Addr) (nw cw : Nat) (Ab : Option Addr) (nb cb : Nat) (W : List Nat) (B : List Bool) (w : World)
    (hW : Sl w w.heap.size Aw nw (ws W)) (hB : Sl w w.heap.size Ab nb (bl B)) (hwf : Req.Wf ⟨f, a, m, t, W, B⟩) (hr : right ⟨f, a, m, t, W, B⟩ = false) :
    Calls Tryz.prog 84 #[.agg #[.int .u8 f, .int .u16 a, .int .u16 m, .int .u16 t, .slice Aw nw cw, .slice Ab nb cb]] w (RetRowErr w 5 (bytesE ⟨f, a, m, t, W, B⟩)) := by
  have qW : W.length = nw := by simpa using hW.len
  have qB : B.length = nb := by simpa using hB.len
  have ha := hwf.at'
  have hm := hwf.many
  have ht := hwf.to
  have hww := hwf.words
  dsimp only at ha hm ht hww
  have wa := w64 (show a ≤ 9223372036854775807 by omega)
  have wm := w64 (show m ≤ 9223372036854775807 by omega)
  have wt := w64 (show t ≤ 9223372036854775807 by omega)
  have HE := Lib.hid (show bytesE ⟨f, a, m, t, W, B⟩ = ([], 12) from by unfold bytesE; rw [hr]; rfl)
  obtain ⟨E, hE⟩ : ∃ E, E = bytesE ⟨f, a, m, t, W, B⟩ := ⟨_, rfl⟩
  have KR := Lib.hid (fun X => refRight_any f a m t Aw nw cw Ab nb cb W B qW qB hm X)
  rw [← hE] at HE ⊢
  rw [hr] at KR
  clear hE hr qW qB ha hm ht hww hwf hW hB
  go_enter Tryz.func84, Tryz.ntmps84
  go_wp2_with fail
  refine (KR.out _).mono ?_
  rintro e w1 ⟨rfl, b1⟩
  have hb := Below.call (Below.new (Below.refl _ w) _) b1
  clear b1
  go_wp2_with fail
  go_ret2
  rw [HE.out]
  exact ⟨_, rfl, Has.nil_ hb _⟩
set_option maxHeartbeats 8000000 in
set_option maxRecDepth 100000 in
theorem refBytes_ask (f a m t : Nat) (Aw : Option Addr) (nw cw : Nat) (Ab : Option Addr) (nb cb : Nat) (W : List Nat) (B : List Bool) (w : World)
    (hW : Sl w w.heap.size Aw nw (ws W)) (hB : Sl w w.heap.size Ab nb (bl B)) (hwf : Req.Wf ⟨f, a, m, t, W, B⟩) (hr : right ⟨f, a, m, t, W, B⟩ = true) (hf : f = 1 ∨ f = 2 ∨ f = 3 ∨ f = 4) :
    Calls Tryz.prog 84 #[.agg #[.int .u8 f, .int .u16 a, .int .u16 m, .int .u16 t, .slice Aw nw cw, .slice Ab nb cb]] w (RetRowErr w 5 (bytesE ⟨f, a, m, t, W, B⟩)) := by
  have qW : W.length = nw := by simpa using hW.len
  have qB : B.length = nb := by simpa using hB.len
  have ha := hwf.at'
  have hm := hwf.many
  have ht := hwf.to
  have hww := hwf.words
  dsimp only at ha hm ht hww
  have wa := w64 (show a ≤ 9223372036854775807 by omega)
  have wm := w64 (show m ≤ 9223372036854775807 by omega)
  have wt := w64 (show t ≤ 9223372036854775807 by omega)
  have HE := Lib.hid (show bytesE ⟨f, a, m, t, W, B⟩ = (bytes ⟨f, a, m, t, W, B⟩, 0) from by unfold bytesE; rw [hr]; rfl)
  obtain ⟨E, hE⟩ : ∃ E, E = bytesE ⟨f, a, m, t, W, B⟩ := ⟨_, rfl⟩
  have KR := Lib.hid (fun X => refRight_any f a m t Aw nw cw Ab nb cb W B qW qB hm X)
  rw [← hE] at HE ⊢
  rw [hr] at KR
  have HBY := Lib.hid (show bytes ⟨f, a, m, t, W, B⟩ = f :: two a ++ two m from by exact by_ask hr hf)
  obtain ⟨L, hL⟩ : ∃ L, L = bytes ⟨f, a, m, t, W, B⟩ := ⟨_, rfl⟩
  rw [← hL] at HBY HE
  have T5 : ((f : Int) == 5) = false := by rw [beq_eq_false_iff_ne]; omega
  have T6 : ((f : Int) == 6) = false := by rw [beq_eq_false_iff_ne]; omega
  have T15 : ((f : Int) == 15) = false := by rw [beq_eq_false_iff_ne]; omega
  have T16 : ((f : Int) == 16) = false := by rw [beq_eq_false_iff_ne]; omega
  have T23 : ((f : Int) == 23) = false := by rw [beq_eq_false_iff_ne]; omega
  clear hE hL hr qW qB hww hwf hW hB hf
  go_enter Tryz.func84, Tryz.ntmps84
  go_wp2_with fail
  refine (KR.out _).mono ?_
  rintro e w1 ⟨rfl, b1⟩
  have ra := b1.row (by simp) (heap_alloc_new w _)
  have hb := Below.call (Below.new (Below.refl _ w) _) b1
  clear b1
  have rl := row_lt ra
  obtain ⟨c0, c1, c2, c3, c4, c5⟩ := row6 ra
  go_wp2_with fail
  refine (refTwo_keep w1 _ _ 1 [f] (first_new w1 f _ (by first | rfl | simp)) a ha (by omega)).mono ?_
  rintro e w2 ⟨v2, rfl, H2, -, -, -⟩
  obtain ⟨c0, c1, c2, c3, c4, c5⟩ := row6 (H2.bel.row rl ra)
  go_wp2_with fail
  refine (refTwo_keep w1 _ _ _ _ H2 m hm (by omega)).mono ?_
  rintro e w3 ⟨v3, rfl, H3, -, -, -⟩
  go_wp2_with fail
  go_ret2
  rw [HE.out]
  have e : bs ([f] ++ two a ++ two m) = bs L := by rw [HBY.out] <;> simp [bs, two]
  exact ⟨_, rfl, by simpa using (H3.cast e).weaken hb⟩
set_option maxHeartbeats 8000000 in
set_option maxRecDepth 100000 in
theorem refBytes_bit (a m t : Nat) (Aw : Option Addr) (nw cw : Nat) (Ab : Option Addr) (nb cb : Nat) (W : List Nat) (B : List Bool) (w : World)
    (hW : Sl w w.heap.size Aw nw (ws W)) (hB : Sl w w.heap.size Ab nb (bl B)) (hwf : Req.Wf ⟨5, a, m, t, W, B⟩) (hr : right ⟨5, a, m, t, W, B⟩ = true) (x : Bool) (hBx : B = [x]) :
    Calls Tryz.prog 84 #[.agg #[.int .u8 5, .int .u16 a, .int .u16 m, .int .u16 t, .slice Aw nw cw, .slice Ab nb cb]] w (RetRowErr w 5 (bytesE ⟨5, a, m, t, W, B⟩)) := by
  have qW : W.length = nw := by simpa using hW.len
  have qB : B.length = nb := by simpa using hB.len
  have ha := hwf.at'
  have hm := hwf.many
  have ht := hwf.to
  have hww := hwf.words
  dsimp only at ha hm ht hww
  have wa := w64 (show a ≤ 9223372036854775807 by omega)
  have wm := w64 (show m ≤ 9223372036854775807 by omega)
  have wt := w64 (show t ≤ 9223372036854775807 by omega)
  have HE := Lib.hid (show bytesE ⟨5, a, m, t, W, B⟩ = (bytes ⟨5, a, m, t, W, B⟩, 0) from by unfold bytesE; rw [hr]; rfl)
  obtain ⟨E, hE⟩ : ∃ E, E = bytesE ⟨5, a, m, t, W, B⟩ := ⟨_, rfl⟩
  have KR := Lib.hid (fun X => refRight_any 5 a m t Aw nw cw Ab nb cb W B qW qB hm X)
  rw [← hE] at HE ⊢
  rw [hr] at KR
  have HBY := Lib.hid (show bytes ⟨5, a, m, t, W, B⟩ = 5 :: two a ++ two (if x then 65280 else 0) from by exact by_bit x hr hBx)
  obtain ⟨L, hL⟩ : ∃ L, L = bytes ⟨5, a, m, t, W, B⟩ := ⟨_, rfl⟩
  rw [← hL] at HBY HE
  have hnb : nb = 1 := by rw [← qB, hBx]; rfl
  have z1 : (0 : Int) < (nb : Int) := by omega
  have HB1 := Lib.hid hB
  have HBX := Lib.hid hBx
  have HNB := Lib.hid hnb
  obtain ⟨b, o, rfl, hbl, d1⟩ := hB.2 (by omega)
  have g1 : w.cell? ⟨b, o, none⟩ = some (.bool x) := (d1 0 (by omega)).trans (by rw [hBx] <;> rfl)
  clear hE hL hr qW qB hww hwf hW hB hBx hnb d1
  go_enter Tryz.func84, Tryz.ntmps84
  go_wp2_with fail
  refine (KR.out _).mono ?_
  rintro e w1 ⟨rfl, b1⟩
  have ra := b1.row (by simp) (heap_alloc_new w _)
  have hb := Below.call (Below.new (Below.refl _ w) _) b1
  clear b1
  have rl := row_lt ra
  obtain ⟨c0, c1, c2, c3, c4, c5⟩ := row6 ra
  go_wp2_with fail
  refine (refTwo_keep w1 _ _ 1 [5] (first_new w1 5 _ (by first | rfl | simp)) a ha (by omega)).mono ?_
  rintro e w2 ⟨v2, rfl, H2, -, -, -⟩
  obtain ⟨c0, c1, c2, c3, c4, c5⟩ := row6 (H2.bel.row rl ra)
  have g2 : w2.cell? ⟨b, o, none⟩ = _ := ((hb.call H2.bel).cell (p := ⟨b, o, none⟩) hbl).trans g1
  cases x
  · go_wp2_with fail
    refine (refTwo_keep w1 _ _ _ _ H2 0 (by omega) (by omega)).mono ?_
    rintro e w3 ⟨v3, rfl, H3, -, -, -⟩
    go_wp2_with fail
    go_ret2
    rw [HE.out]
    have e : bs ([5] ++ two a ++ two 0) = bs L := by rw [HBY.out] <;> simp [bs, two]
    exact ⟨_, rfl, by simpa using (H3.cast e).weaken hb⟩
  · go_wp2_with fail
    refine (refTwo_keep w1 _ _ _ _ H2 65280 (by omega) (by omega)).mono ?_
    rintro e w3 ⟨v3, rfl, H3, -, -, -⟩
    go_wp2_with fail
    go_ret2
    rw [HE.out]
    have e : bs ([5] ++ two a ++ two 65280) = bs L := by rw [HBY.out] <;> simp [bs, two]
    exact ⟨_, rfl, by simpa using (H3.cast e).weaken hb⟩
set_option maxHeartbeats 8000000 in
set_option maxRecDepth 100000 in
theorem refBytes_word (a m t : Nat) (Aw : Option Addr) (nw cw : Nat) (Ab : Option Addr) (nb cb : Nat) (W : List Nat) (B : List Bool) (w : World)
    (hW : Sl w w.heap.size Aw nw (ws W)) (hB : Sl w w.heap.size Ab nb (bl B)) (hwf : Req.Wf ⟨6, a, m, t, W, B⟩) (hr : right ⟨6, a, m, t, W, B⟩ = true) (x : Nat) (hWx : W = [x]) :
    Calls Tryz.prog 84 #[.agg #[.int .u8 6, .int .u16 a, .int .u16 m, .int .u16 t, .slice Aw nw cw, .slice Ab nb cb]] w (RetRowErr w 5 (bytesE ⟨6, a, m, t, W, B⟩)) := by
  have qW : W.length = nw := by simpa using hW.len
  have qB : B.length = nb := by simpa using hB.len
  have ha := hwf.at'
  have hm := hwf.many
  have ht := hwf.to
  have hww := hwf.words
  dsimp only at ha hm ht hww
  have wa := w64 (show a ≤ 9223372036854775807 by omega)
  have wm := w64 (show m ≤ 9223372036854775807 by omega)
  have wt := w64 (show t ≤ 9223372036854775807 by omega)
  have HE := Lib.hid (show bytesE ⟨6, a, m, t, W, B⟩ = (bytes ⟨6, a, m, t, W, B⟩, 0) from by unfold bytesE; rw [hr]; rfl)
  obtain ⟨E, hE⟩ : ∃ E, E = bytesE ⟨6, a, m, t, W, B⟩ := ⟨_, rfl⟩
  have KR := Lib.hid (fun X => refRight_any 6 a m t Aw nw cw Ab nb cb W B qW qB hm X)
  rw [← hE] at HE ⊢
  rw [hr] at KR
  have HBY := Lib.hid (show bytes ⟨6, a, m, t, W, B⟩ = 6 :: two a ++ two x from by exact by_word x hr hWx)
  obtain ⟨L, hL⟩ : ∃ L, L = bytes ⟨6, a, m, t, W, B⟩ := ⟨_, rfl⟩
  rw [← hL] at HBY HE
  have hnw : nw = 1 := by rw [← qW, hWx]; rfl
  have z1 : (0 : Int) < (nw : Int) := by omega
  have hx : x < 65536 := hww x (by rw [hWx]; simp)
  have wx := w64 (show x ≤ 9223372036854775807 by omega)
  have HWX := Lib.hid hWx
  obtain ⟨b, o, rfl, hbl, d1⟩ := hW.2 (by omega)
  have g1 : w.cell? ⟨b, o, none⟩ = some (.int .u16 (x : Nat)) := (d1 0 (by omega)).trans (by rw [hWx] <;> rfl)
  clear hE hL hr qW qB hww hwf hW hB hWx hnw d1
  go_enter Tryz.func84, Tryz.ntmps84
  go_wp2_with fail
  refine (KR.out _).mono ?_
  rintro e w1 ⟨rfl, b1⟩
  have ra := b1.row (by simp) (heap_alloc_new w _)
  have hb := Below.call (Below.new (Below.refl _ w) _) b1
  clear b1
  have rl := row_lt ra
  obtain ⟨c0, c1, c2, c3, c4, c5⟩ := row6 ra
  go_wp2_with fail
  refine (refTwo_keep w1 _ _ 1 [6] (first_new w1 6 _ (by first | rfl | simp)) a ha (by omega)).mono ?_
  rintro e w2 ⟨v2, rfl, H2, -, -, -⟩
  obtain ⟨c0, c1, c2, c3, c4, c5⟩ := row6 (H2.bel.row rl ra)
  have g2 : w2.cell? ⟨b, o, none⟩ = _ := ((hb.call H2.bel).cell (p := ⟨b, o, none⟩) hbl).trans g1
  go_wp2_with fail
  refine (refTwo_keep w1 _ _ _ _ H2 x hx (by omega)).mono ?_
  rintro e w3 ⟨v3, rfl, H3, -, -, -⟩
  go_wp2_with fail
  go_ret2
  rw [HE.out]
  have e : bs ([6] ++ two a ++ two x) = bs L := by rw [HBY.out] <;> simp [bs, two]
  exact ⟨_, rfl, by simpa using (H3.cast e).weaken hb⟩
set_option maxHeartbeats 8000000 in
set_option maxRecDepth 100000 in
theorem refBytes_bits (a m t : Nat) (Aw : Option Addr) (nw cw : Nat) (Ab : Option Addr) (nb cb : Nat) (W : List Nat) (B : List Bool) (w : World)
    (hW : Sl w w.heap.size Aw nw (ws W)) (hB : Sl w w.heap.size Ab nb (bl B)) (hwf : Req.Wf ⟨15, a, m, t, W, B⟩) (hr : right ⟨15, a, m, t, W, B⟩ = true) (hnb1 : 1 ≤ nb) (hnb : nb ≤ 1968) :
    Calls Tryz.prog 84 #[.agg #[.int .u8 15, .int .u16 a, .int .u16 m, .int .u16 t, .slice Aw nw cw, .slice Ab nb cb]] w (RetRowErr w 5 (bytesE ⟨15, a, m, t, W, B⟩)) := by
  have qW : W.length = nw := by simpa using hW.len
  have qB : B.length = nb := by simpa using hB.len
  have ha := hwf.at'
  have hm := hwf.many
  have ht := hwf.to
  have hww := hwf.words
  dsimp only at ha hm ht hww
  have wa := w64 (show a ≤ 9223372036854775807 by omega)
  have wm := w64 (show m ≤ 9223372036854775807 by omega)
  have wt := w64 (show t ≤ 9223372036854775807 by omega)
  have HE := Lib.hid (show bytesE ⟨15, a, m, t, W, B⟩ = (bytes ⟨15, a, m, t, W, B⟩, 0) from by unfold bytesE; rw [hr]; rfl)
  obtain ⟨E, hE⟩ : ∃ E, E = bytesE ⟨15, a, m, t, W, B⟩ := ⟨_, rfl⟩
  have KR := Lib.hid (fun X => refRight_any 15 a m t Aw nw cw Ab nb cb W B qW qB hm X)
  rw [← hE] at HE ⊢
  rw [hr] at KR
  have HBY := Lib.hid (show bytes ⟨15, a, m, t, W, B⟩ = 15 :: two a ++ two m ++ [(nb + 7) / 8] ++ pack B from by exact by_bits hr qB hnb)
  obtain ⟨L, hL⟩ : ∃ L, L = bytes ⟨15, a, m, t, W, B⟩ := ⟨_, rfl⟩
  rw [← hL] at HBY HE
  obtain ⟨N, hN⟩ : ∃ N, N = (nb + 7) / 8 := ⟨_, rfl⟩
  rw [← hN] at HBY
  have hN2 : N ≤ 250 := by omega
  have hN0 : 0 < N := by omega
  have hN8 : IntKind.u8.wrap (N : Int) = N := by rw [IntKind.wrap_u8]; omega
  have hn2 : nb ≤ 100000 := by omega
  have KP := Lib.hid (fun X (b : Below w.heap.size w X) => refPack_any Ab nb cb B X (hB.to b) hn2)
  rw [← hN] at KP
  clear hE hL hr qW qB hww hwf hW hB hN
  go_enter Tryz.func84, Tryz.ntmps84
  go_wp2_with fail
  refine (KR.out _).mono ?_
  rintro e w1 ⟨rfl, b1⟩
  have ra := b1.row (by simp) (heap_alloc_new w _)
  have hb := Below.call (Below.new (Below.refl _ w) _) b1
  clear b1
  have rl := row_lt ra
  obtain ⟨c0, c1, c2, c3, c4, c5⟩ := row6 ra
  go_wp2_with fail
  refine (refTwo_keep w1 _ _ 1 [15] (first_new w1 15 _ (by first | rfl | simp)) a ha (by omega)).mono ?_
  rintro e w2 ⟨v2, rfl, H2, -, -, -⟩
  obtain ⟨c0, c1, c2, c3, c4, c5⟩ := row6 (H2.bel.row rl ra)
  go_wp2_with fail
  refine (KP.out _ (hb.call H2.bel)).mono ?_
  rintro e w3 ⟨vp, rfl, HP⟩
  obtain ⟨Ap, cp, rfl, hcp, SP, oP⟩ := HP.slice
  have H3 := H2.below HP.bel
  obtain ⟨c0, c1, c2, c3, c4, c5⟩ := row6 (H3.bel.row rl ra)
  have hap := fun b o (h : Ap = some (⟨b, o, none⟩ : Addr)) (e : v2.ownBlock = some b) => Nat.not_lt_of_le (oP b (by rw [h]; rfl)) (H2.lt e)
  clear HP
  go_wp2_with fail
  refine (refTwo_keep w1 _ _ _ _ H3 m hm (by omega)).mono ?_
  rintro e w4 ⟨v4, rfl, H4, K4, M4, s4⟩
  have SP4 := SP.keeps K4 s4 (fun b o h => hap b o h)
  have hap4 : ∀ b o, Ap = some (⟨b, o, none⟩ : Addr) → v4.ownBlock ≠ some b := fun b o h e => by
    rcases M4 b e with e' | e'
    · exact hap b o h e'
    · obtain ⟨b', o', h', hb', _⟩ := SP.2 hN0
      rw [h] at h'; injection h' with h'; injection h' with h' _; omega
  go_wp2_with (first
    | (at_builtin; refine wpList_app u8 rfl (.tmp 51) (.tmp 55) rfl (H4.alloc _) rfl (Sl.new1 _ _ _) rfl (one1 _ _) (by omega) (by simp only [maxLen]; omega) ?_; intro v5 w5 H5 g5 o5; have SP5 := (SP4.to ((Below.refl _ _).new _)).grown g5 hap4)
    | (at_builtin; refine wpList_app u8 rfl (.tmp 57) (.tmp 58) rfl H5 rfl SP5 rfl (bs_one _) (by omega) (by simp only [maxLen]; omega) ?_; intro v6 w6 H6 _ _))
  go_wp2_with fail
  go_ret2
  rw [HE.out]
  have e : bs ([15] ++ two a ++ two m) ++ [Value.int .u8 (N : Nat)] ++ bs (pack B) = bs L := by rw [HBY.out] <;> simp [bs, two]
  exact ⟨_, rfl, by simpa using (H6.cast e).weaken hb⟩
set_option maxHeartbeats 8000000 in
set_option maxRecDepth 100000 in
theorem refBytes_words (a m t : Nat) (Aw : Option Addr) (nw cw : Nat) (Ab : Option Addr) (nb cb : Nat) (W : List Nat) (B : List Bool) (w : World)
    (hW : Sl w w.heap.size Aw nw (ws W)) (hB : Sl w w.heap.size Ab nb (bl B)) (hwf : Req.Wf ⟨16, a, m, t, W, B⟩) (hr : right ⟨16, a, m, t, W, B⟩ = true) (hnw : nw ≤ 123) :
    Calls Tryz.prog 84 #[.agg #[.int .u8 16, .int .u16 a, .int .u16 m, .int .u16 t, .slice Aw nw cw, .slice Ab nb cb]] w (RetRowErr w 5 (bytesE ⟨16, a, m, t, W, B⟩)) := by
  have qW : W.length = nw := by simpa using hW.len
  have qB : B.length = nb := by simpa using hB.len
  have ha := hwf.at'
  have hm := hwf.many
  have ht := hwf.to
  have hww := hwf.words
  dsimp only at ha hm ht hww
  have wa := w64 (show a ≤ 9223372036854775807 by omega)
  have wm := w64 (show m ≤ 9223372036854775807 by omega)
  have wt := w64 (show t ≤ 9223372036854775807 by omega)
  have HE := Lib.hid (show bytesE ⟨16, a, m, t, W, B⟩ = (bytes ⟨16, a, m, t, W, B⟩, 0) from by unfold bytesE; rw [hr]; rfl)
  obtain ⟨E, hE⟩ : ∃ E, E = bytesE ⟨16, a, m, t, W, B⟩ := ⟨_, rfl⟩
  have KR := Lib.hid (fun X => refRight_any 16 a m t Aw nw cw Ab nb cb W B qW qB hm X)
  rw [← hE] at HE ⊢
  rw [hr] at KR
  have HBY := Lib.hid (show bytes ⟨16, a, m, t, W, B⟩ = 16 :: two a ++ two m ++ [2 * nw] ++ twos W from by exact by_words hr qW hnw)
  obtain ⟨L, hL⟩ : ∃ L, L = bytes ⟨16, a, m, t, W, B⟩ := ⟨_, rfl⟩
  rw [← hL] at HBY HE
  have hN1 : IntKind.i64.wrap (2 * (nw : Int)) = ((2 * nw : Nat) : Int) := by rw [IntKind.wrap_i64]; omega
  obtain ⟨N, hN⟩ : ∃ N, N = 2 * nw := ⟨_, rfl⟩
  rw [← hN] at HBY hN1
  have hN8 : IntKind.u8.wrap (N : Int) = N := by rw [IntKind.wrap_u8]; omega
  have hN64 := w64 (show N ≤ 9223372036854775807 by omega)
  have HWW := Lib.hid hww
  clear hE hL hr qW qB hww hwf hB hN
  go_enter Tryz.func84, Tryz.ntmps84
  go_wp2_with fail
  refine (KR.out _).mono ?_
  rintro e w1 ⟨rfl, b1⟩
  have ra := b1.row (by simp) (heap_alloc_new w _)
  have hb := Below.call (Below.new (Below.refl _ w) _) b1
  clear b1
  have rl := row_lt ra
  obtain ⟨c0, c1, c2, c3, c4, c5⟩ := row6 ra
  go_wp2_with fail
  refine (refTwo_keep w1 _ _ 1 [16] (first_new w1 16 _ (by first | rfl | simp)) a ha (by omega)).mono ?_
  rintro e w2 ⟨v2, rfl, H2, -, -, -⟩
  obtain ⟨c0, c1, c2, c3, c4, c5⟩ := row6 (H2.bel.row rl ra)
  have HKP := Lib.hid (fun (X : World) (b : Below w1.heap.size w1 X) => (And.intro b (And.intro (row6 (b.row rl ra)).2.2.1 (row6 (b.row rl ra)).2.2.2.2.1) : Below w1.heap.size w1 X ∧ X.cell? ⟨w.heap.size, 2, none⟩ = some (.int .u16 m) ∧ X.cell? ⟨w.heap.size, 4, none⟩ = some (.slice Aw nw cw)))
  go_wp2_with fail
  go_region_held3 (fun w' => Below w1.heap.size w1 w' ∧ w'.cell? ⟨w.heap.size, 2, none⟩ = some (.int .u16 m) ∧ w'.cell? ⟨w.heap.size, 4, none⟩ = some (.slice Aw nw cw))
    (first | exact HKP.out _ H2.drew.bel | exact HKP.out _ (H2.alloc _).drew.bel | exact HKP.out _ H3.bel | exact HKP.out _ (H3.alloc _).bel | exact HKP.out _ H4.bel)
    (first
      | (go_at_call 69; (with_reducible refine (refTwo_keep w1 _ _ _ _ H2.drew m hm (by omega)).mono ?_); rintro e w3 ⟨v3, rfl, H3, K3, M3, s3⟩)
      | (go_at_call 69; (with_reducible refine (refTwo_keep w1 _ _ _ _ (H2.alloc _).drew m hm (by omega)).mono ?_); rintro e w3 ⟨v3, rfl, H3, K3, M3, s3⟩; have SB : Sl w3 w3.heap.size (some ⟨w2.heap.size, 0, none⟩) 1 [Value.int .u8 (N : Nat)] := sl_built (w := w2) K3 s3 (fun e => Nat.lt_irrefl _ (H2.lt e)))
      | (refine step_app u8 rfl (.tmp 66) (.tmp 72) rfl H3 rfl SB rfl (one1 _ _) (by omega) (by simp only [maxLen]; omega) ?_; intro v4 w4 H4 g4 o4)
      | (refine step_app u8 rfl (.tmp 66) (.tmp 72) rfl (H3.alloc _) rfl (Sl.new1 _ _ _) rfl (one1 _ _) (by omega) (by simp only [maxLen]; omega) ?_; intro v4 w4 H4 g4 o4)
      | fail)
  all_goals (
    have H4 : Has w1 w4 5 v4 _ _ := H4
    obtain ⟨c0, c1, c2, c3, c4, c5⟩ := row6 (H4.bel.row rl ra)
    rw [show bs ([16] ++ two a ++ two m) ++ [Value.int .u8 (N : Nat)] = bs ([16] ++ two a ++ two m ++ [N]) from by simp [bs]] at H4
    go_wp2_with fail
    refine (refWords_any w1 _ _ _ _ H4 Aw nw cw W (hW.to hb) HWW.out (by omega)).mono ?_
    rintro e w5 ⟨v5, rfl, H5⟩
    go_wp2_with fail
    go_ret2
    rw [HE.out]
    have e : bs ([16] ++ two a ++ two m ++ [N] ++ twos W) = bs L := by rw [HBY.out] <;> simp [bs, two]
    exact ⟨_, rfl, by simpa using (H5.cast e).weaken hb⟩)
set_option maxHeartbeats 8000000 in
set_option maxRecDepth 100000 in
theorem refBytes_swap (a m t : Nat) (Aw : Option Addr) (nw cw : Nat) (Ab : Option Addr) (nb cb : Nat) (W : List Nat) (B : List Bool) (w : World)
    (hW : Sl w w.heap.size Aw nw (ws W)) (hB : Sl w w.heap.size Ab nb (bl B)) (hwf : Req.Wf ⟨23, a, m, t, W, B⟩) (hr : right ⟨23, a, m, t, W, B⟩ = true) (hnw : nw ≤ 121) :
    Calls Tryz.prog 84 #[.agg #[.int .u8 23, .int .u16 a, .int .u16 m, .int .u16 t, .slice Aw nw cw, .slice Ab nb cb]] w (RetRowErr w 5 (bytesE ⟨23, a, m, t, W, B⟩)) := by
  have qW : W.length = nw := by simpa using hW.len
  have qB : B.length = nb := by simpa using hB.len
  have ha := hwf.at'
  have hm := hwf.many
  have ht := hwf.to
  have hww := hwf.words
  dsimp only at ha hm ht hww
  have wa := w64 (show a ≤ 9223372036854775807 by omega)
  have wm := w64 (show m ≤ 9223372036854775807 by omega)
  have wt := w64 (show t ≤ 9223372036854775807 by omega)
  have HE := Lib.hid (show bytesE ⟨23, a, m, t, W, B⟩ = (bytes ⟨23, a, m, t, W, B⟩, 0) from by unfold bytesE; rw [hr]; rfl)
  obtain ⟨E, hE⟩ : ∃ E, E = bytesE ⟨23, a, m, t, W, B⟩ := ⟨_, rfl⟩
  have KR := Lib.hid (fun X => refRight_any 23 a m t Aw nw cw Ab nb cb W B qW qB hm X)
  rw [← hE] at HE ⊢
  rw [hr] at KR
  have HBY := Lib.hid (show bytes ⟨23, a, m, t, W, B⟩ = 23 :: two a ++ two m ++ two t ++ two nw ++ [2 * nw] ++ twos W from by exact by_swap hr qW hnw)
  obtain ⟨L, hL⟩ : ∃ L, L = bytes ⟨23, a, m, t, W, B⟩ := ⟨_, rfl⟩
  rw [← hL] at HBY HE
  have hN1 : IntKind.i64.wrap (2 * (nw : Int)) = ((2 * nw : Nat) : Int) := by rw [IntKind.wrap_i64]; omega
  obtain ⟨N, hN⟩ : ∃ N, N = 2 * nw := ⟨_, rfl⟩
  rw [← hN] at HBY hN1
  have hN8 : IntKind.u8.wrap (N : Int) = N := by rw [IntKind.wrap_u8]; omega
  have hN64 := w64 (show N ≤ 9223372036854775807 by omega)
  have hnw6 : nw < 65536 := by omega
  have HWW := Lib.hid hww
  clear hE hL hr qW qB hww hwf hB hN
  go_enter Tryz.func84, Tryz.ntmps84
  go_wp2_with fail
  refine (KR.out _).mono ?_
  rintro e w1 ⟨rfl, b1⟩
  have ra := b1.row (by simp) (heap_alloc_new w _)
  have hb := Below.call (Below.new (Below.refl _ w) _) b1
  clear b1
  have rl := row_lt ra
  obtain ⟨c0, c1, c2, c3, c4, c5⟩ := row6 ra
  go_wp2_with fail
  refine (refTwo_keep w1 _ _ 1 [23] (first_new w1 23 _ (by first | rfl | simp)) a ha (by omega)).mono ?_
  rintro e w2 ⟨v2, rfl, H2, -, -, -⟩
  obtain ⟨c0, c1, c2, c3, c4, c5⟩ := row6 (H2.bel.row rl ra)
  have HKP := Lib.hid (fun (X : World) (b : Below w1.heap.size w1 X) => (And.intro b (And.intro (row6 (b.row rl ra)).2.2.1 (And.intro (row6 (b.row rl ra)).2.2.2.1 (row6 (b.row rl ra)).2.2.2.2.1)) : Below w1.heap.size w1 X ∧ X.cell? ⟨w.heap.size, 2, none⟩ = some (.int .u16 m) ∧ X.cell? ⟨w.heap.size, 3, none⟩ = some (.int .u16 t) ∧ X.cell? ⟨w.heap.size, 4, none⟩ = some (.slice Aw nw cw)))
  have H2 := H2.drew
  go_wp2_with fail
  go_region_held3 (fun w' => Below w1.heap.size w1 w' ∧ w'.cell? ⟨w.heap.size, 2, none⟩ = some (.int .u16 m) ∧ w'.cell? ⟨w.heap.size, 3, none⟩ = some (.int .u16 t) ∧ w'.cell? ⟨w.heap.size, 4, none⟩ = some (.slice Aw nw cw))
    (exact HKP.out _ H2.bel)
    ((go_at_call 69; refine (refTwo_keep w1 _ _ _ _ H2 _ (by assumption) (by omega)).mono ?_; rintro e w3 ⟨v3, rfl, H3, -, -, -⟩; have H2 := H3; clear H3))
  have H5 := H2
  obtain ⟨c0, c1, c2, c3, c4, c5⟩ := row6 (H5.bel.row rl ra)
  have H5 := H5.drew
  go_wp2_with fail
  go_region_held3 (fun w' => Below w1.heap.size w1 w' ∧ w'.cell? ⟨w.heap.size, 2, none⟩ = some (.int .u16 m) ∧ w'.cell? ⟨w.heap.size, 3, none⟩ = some (.int .u16 t) ∧ w'.cell? ⟨w.heap.size, 4, none⟩ = some (.slice Aw nw cw))
    (first | exact HKP.out _ H5.bel | exact HKP.out _ (H5.alloc _).bel | exact HKP.out _ H6.bel | exact HKP.out _ H7.bel)
    (first
      | (refine step_app u8 rfl (.tmp 93) (.tmp 99) rfl (H5.alloc _) rfl (Sl.new1 _ _ _) rfl (one1 _ _) (by omega) (by simp only [maxLen]; omega) ?_; intro v6 w6 H6 g6 o6)
      | (go_at_call 68; refine (refWords_any w1 _ _ _ ([23] ++ two a ++ two m ++ two t ++ two nw ++ [N]) (by rw [← bs_append]; exact H6) Aw nw cw W (hW.to hb) HWW.out (by omega)).mono ?_; rintro e w7 ⟨v7, rfl, H7⟩))
  go_wp2_with fail
  go_ret2
  rw [HE.out]
  have e : bs ([23] ++ two a ++ two m ++ two t ++ two nw ++ [N] ++ twos W) = bs L := by rw [HBY.out] <;> simp [bs, two]
  exact ⟨_, rfl, by simpa using (H7.cast e).weaken hb⟩
end Go.Proofs.YtjfhfgchglaoiaaGreat.AskW
/- What saucierref02.Parse reads of bytes; its state; At as a quiet call; Bytes as one contract. -/
set_option linter.unusedVariables false
set_option linter.unusedSimpArgs false
namespace Go.Proofs.YtjfhfgchglaoiaaGreat.AskW
open Go.RowKit Go.Proofs.YtjfhfgchglaoiaaGreat Go.Proofs.YtjfhfgchglaoiaaGreat.Ask
/-- Numbers of two bytes, as far as both are there. -/
def pairs : List Nat → List Nat
  | x :: y :: r => (256 * x + y) :: pairs r
  | _ => []
theorem pairs_twos : ∀ W : List Nat, pairs (twos W) = W
  | [] => rfl
  | x :: l => by
    show pairs (x / 256 :: x % 256 :: twos l) = x :: l
    simp only [pairs, pairs_twos l]
    congr 1
    exact Nat.div_add_mod x 256
theorem pairs_len : ∀ xs : List Nat, (pairs xs).length = xs.length / 2
  | [] => rfl
  | [_] => by simp [pairs]
  | _ :: _ :: r => by simp only [pairs, List.length_cons, pairs_len r]; omega
theorem pairs_get : ∀ (xs : List Nat) (j : Nat), 2 * j + 1 < xs.length → (pairs xs)[j]?.getD 0 = num xs (2 * j)
  | [], j, h => by simp at h
  | [_], j, h => by simp at h
  | x :: y :: r, 0, h => by simp [pairs, num]
  | x :: y :: r, j + 1, h => by
    have := pairs_get r j (by simp at h; omega)
    rw [show 2 * (j + 1) = 2 * j + 2 by omega]
    simpa [pairs, num] using this
theorem pairs_lt : ∀ {xs : List Nat}, Bytes xs → ∀ y ∈ pairs xs, y < 65536
  | [], _, y, hy => by cases hy
  | [_], _, y, hy => by cases hy
  | a :: b :: r, h, y, hy => by
    simp only [pairs, List.mem_cons] at hy
    have h1 := h a (by simp)
    have h2 := h b (by simp)
    rcases hy with rfl | hy
    · omega
    · exact pairs_lt (fun c hc => h c (by simp [hc])) y hy
theorem atF_eq {xs : List Nat} {i : Nat} (h : i + 1 < xs.length) : atF xs i = num xs i := by unfold atF; rw [if_neg (by omega)]
theorem atF_lt {xs : List Nat} (h : Bytes xs) (i : Nat) : atF xs i < 65536 := by
  unfold atF; split
  · decide
  · exact num_lt h i
/-- The only request that bytes may be of. -/
def cand (xs : List Nat) : Req :=
  let f := xs[0]?.getD 0
  if f = 5 then ⟨f, atF xs 1, 0, 0, [], [atF xs 3 == 65280]⟩
  else if f = 6 then ⟨f, atF xs 1, 0, 0, [atF xs 3], []⟩
  else if f = 15 then ⟨f, atF xs 1, atF xs 3, 0, [], (unpack (xs.drop 6)).take (atF xs 3)⟩
  else if f = 16 then ⟨f, atF xs 1, atF xs 3, 0, pairs (xs.drop 6), []⟩
  else if f = 23 then ⟨f, atF xs 1, atF xs 3, atF xs 5, pairs (xs.drop 10), []⟩
  else ⟨f, atF xs 1, atF xs 3, 0, [], []⟩
theorem cand_wf {xs : List Nat} (h : Bytes xs) : (cand xs).Wf := by
  have h0 := h.at 0
  have h1 := atF_lt h 1
  have h3 := atF_lt h 3
  have h5 := atF_lt h 5
  unfold cand; dsimp only; repeat' split
  all_goals exact ⟨h0, h1, by first | exact h3 | exact Nat.zero_lt_succ _, by first | exact h5 | exact Nat.zero_lt_succ _, by first | exact pairs_lt (h.drop _) | (intro x hx; simp at hx; done) | (intro x hx; simp at hx; omega)⟩
theorem cand_bytes {r : Req} (hr : right r = true) : cand (bytes r) = r := by
  cases shape_of hr with
  | ask m h hf hm hb =>
    rw [hb, h]
    rcases hf with hf | hf | hf | hf <;> simp [cand, atF, num, hf, dm]
  | bit x h hb =>
    rw [hb]
    conv => rhs; rw [h]
    cases x <;> simp [cand, atF, num, dm]
  | word x h hb =>
    rw [hb]
    conv => rhs; rw [h]
    simp [cand, atF, num, dm]
  | bits h hm hb =>
    rw [hb]
    conv => rhs; rw [h]
    simp [cand, atF, num, dm, unpack_pack]
  | words h hm hb =>
    rw [hb]
    conv => rhs; rw [h]
    simp [cand, atF, num, dm, pairs_twos]
  | swap h hm hw hb =>
    rw [hb]
    conv => rhs; rw [h]
    simp [cand, atF, num, dm, pairs_twos]
theorem parse_cand (xs : List Nat) : parseF xs = if right (cand xs) && bytes (cand xs) == xs then (cand xs, 0) else (bare 0, 12) := by
  rcases parse_cases xs with ⟨r, hr, hb, hp, _⟩ | ⟨hp, hl⟩
  · have hc : cand xs = r := by rw [← hb]; exact cand_bytes hr
    rw [hc, hp, if_pos (by rw [hr, hb]; simp)]
  · rw [hp, if_neg]
    intro h
    rw [Bool.and_eq_true] at h
    have hb : bytes (cand xs) = xs := by simpa using h.2
    have := look_bytes h.1
    rw [hb] at this
    rw [this] at hl
    exact hl rfl
theorem parse_short {xs : List Nat} (h : xs.length < 5) : parseF xs = (bare 0, 12) := by
  rcases parse_cases xs with ⟨r, hr, hb, _, _⟩ | ⟨hp, _⟩
  · have := bytes_len hr
    rw [hb] at this; omega
  · exact hp
/-- At leaves the world as it was, but for draws. -/
theorem refAt_quiet (A : Option Addr) (n c : Nat) (xs : List Nat) (i : Nat) (w : World) (hs : Sl w w.heap.size A n (bs xs)) (hx : Bytes xs) (hn : n ≤ 100000) (hi : i ≤ 100000) :
    Calls Tryz.prog 82 #[.slice A n c, .int .i64 i] w fun e w' => e = .returned (.int .i64 (atF xs i : Nat)) ∧ ∃ d, w' = w.drewN d := by
  have q1 : xs.length = n := by simpa using hs.len
  have hw : IntKind.i64.wrap ((i : Int) + 1) = (i : Int) + 1 := by rw [IntKind.wrap_i64]; omega
  by_cases h : n ≤ i + 1
  · have h1 : (n : Int) ≤ (i : Int) + 1 := by omega
    have HF := Lib.hid (show atF xs i = 0 from by unfold atF; rw [if_pos (by omega)])
    clear q1 h
    go_enter Tryz.func82, Tryz.ntmps82
    go_wp2_with fail
    go_ret
    exact ⟨by rw [HF.out]; rfl, 0, rfl⟩
  · have h1 : ¬ (n : Int) ≤ (i : Int) + 1 := by omega
    have HF := Lib.hid (show atF xs i = 256 * xs[i]?.getD 0 + xs[i + 1]?.getD 0 from by unfold atF; rw [if_neg (by omega)]; rfl)
    obtain ⟨b, o, rfl, hbl, d1⟩ := hs.2 (by omega)
    have g1 := (d1 i (by omega)).trans (bs_get (by omega))
    have g2 : w.cell? ⟨b, o + (i + 1), none⟩ = _ := (d1 (i + 1) (by omega)).trans (bs_get (by omega))
    have y1 := hx.at i
    have y2 := hx.at (i + 1)
    obtain ⟨x, ex⟩ : ∃ x, x = xs[i]?.getD 0 := ⟨_, rfl⟩
    obtain ⟨y, ey⟩ : ∃ y, y = xs[i + 1]?.getD 0 := ⟨_, rfl⟩
    rw [← ex] at g1 y1 HF
    rw [← ey] at g2 y2 HF
    have wx := w64 (show x ≤ 9223372036854775807 by omega)
    have wy := w64 (show y ≤ 9223372036854775807 by omega)
    have wm : IntKind.i64.wrap (256 * (x : Int)) = 256 * (x : Int) := by rw [IntKind.wrap_i64]; omega
    have wa : IntKind.i64.wrap (256 * (x : Int) + (y : Int)) = 256 * (x : Int) + (y : Int) := by rw [IntKind.wrap_i64]; omega
    have z0 : (0 : Int) ≤ (i : Int) := by omega
    have z1 : (i : Int) < (n : Int) := by omega
    have z2 : (0 : Int) ≤ (i : Int) + 1 := by omega
    have z3 : (i : Int) + 1 < (n : Int) := by omega
    have z4 : ((i : Int) + 1).toNat = i + 1 := by omega
    clear d1 ex ey q1 h
    go_enter Tryz.func82, Tryz.ntmps82
    go_wp2_with fail
    go_quiet (fail)
    go_wp2_with fail
    go_ret
    refine ⟨?_, _, rfl⟩
    rw [HF.out]
    rfl
theorem refBytes_any (f a m t : Nat) (Aw : Option Addr) (nw cw : Nat) (Ab : Option Addr) (nb cb : Nat) (W : List Nat) (B : List Bool) (w : World)
    (hW : Sl w w.heap.size Aw nw (ws W)) (hB : Sl w w.heap.size Ab nb (bl B)) (hwf : Req.Wf ⟨f, a, m, t, W, B⟩) :
    Calls Tryz.prog 84 #[.agg #[.int .u8 f, .int .u16 a, .int .u16 m, .int .u16 t, .slice Aw nw cw, .slice Ab nb cb]] w (RetRowErr w 5 (bytesE ⟨f, a, m, t, W, B⟩)) := by
  by_cases hr : right ⟨f, a, m, t, W, B⟩ = true
  · have qW : W.length = nw := by simpa using hW.len
    have qB : B.length = nb := by simpa using hB.len
    have hs := right_some hr
    dsimp only at hs
    rcases fld_cases hs with rfl | rfl | rfl | rfl | rfl | rfl | rfl | rfl | rfl
    · exact refBytes_ask 1 a m t Aw nw cw Ab nb cb W B w hW hB hwf hr (by omega)
    · exact refBytes_ask 2 a m t Aw nw cw Ab nb cb W B w hW hB hwf hr (by omega)
    · exact refBytes_ask 3 a m t Aw nw cw Ab nb cb W B w hW hB hwf hr (by omega)
    · exact refBytes_ask 4 a m t Aw nw cw Ab nb cb W B w hW hB hwf hr (by omega)
    · have h := hr
      simp [right, fld, Fld.right, fits] at h
      obtain ⟨_, ⟨_, h3⟩, _⟩ := h
      match B, h3 with
      | [x], _ => exact refBytes_bit a m t Aw nw cw Ab nb cb W [x] w hW hB hwf hr x rfl
    · have h := hr
      simp [right, fld, Fld.right, fits] at h
      obtain ⟨_, ⟨_, _⟩, h4⟩ := h
      match W, h4 with
      | [x], _ => exact refBytes_word a m t Aw nw cw Ab nb cb [x] B w hW hB hwf hr x rfl
    · have h := hr
      simp [right, fld, Fld.right, fits, qB] at h
      exact refBytes_bits a m t Aw nw cw Ab nb cb W B w hW hB hwf hr (by omega) (by omega)
    · have h := hr
      simp [right, fld, Fld.right, fits, qW] at h
      exact refBytes_words a m t Aw nw cw Ab nb cb W B w hW hB hwf hr (by omega)
    · have h := hr
      simp [right, fld, Fld.right, fits, qW] at h
      exact refBytes_swap a m t Aw nw cw Ab nb cb W B w hW hB hwf hr (by omega)
  · exact refBytes_no f a m t Aw nw cw Ab nb cb W B w hW hB hwf (by simpa using hr)
/-- The world while Parse is under way: the result's block, and the request's. -/
structure Pt (w W : World) (k : Nat) (cs : Array Value) : Prop where
  bel : Below w.heap.size w W
  rz : W.heap[w.heap.size]? = some (.cells #[.int .u8 0, .int .u16 0, .int .u16 0, .int .u16 0, .slice none 0 0, .slice none 0 0] 31 (0, 0))
  ra : W.heap[k]? = some (.cells cs 31 (0, 0))
  hk : w.heap.size < k
section
variable {w W W' : World} {k : Nat} {cs : Array Value}
theorem Pt.lt (S : Pt w W k cs) : k < W.heap.size := row_lt S.ra
theorem Pt.call (S : Pt w W k cs) (b : Below W.heap.size W W') : Pt w W' k cs := ⟨S.bel.call b, b.row (by have := S.lt; have := S.hk; omega) S.rz, b.row (by have := S.lt; omega) S.ra, S.hk⟩
theorem Pt.new (S : Pt w W k cs) (o : Obj) : Pt w (W.alloc o) k cs := ⟨S.bel.new o, row_alloc S.rz o, row_alloc S.ra o, S.hk⟩
theorem Pt.drewN (S : Pt w W k cs) (d : Nat) : Pt w (W.drewN d) k cs := ⟨S.bel.drewN d, S.rz, S.ra, S.hk⟩
theorem Pt.set (S : Pt w W k cs) (i : Nat) (v : Value) : Pt w (W.setCell ⟨k, i, none⟩ v) k (cs.setIfInBounds i v) := by
  have g := grown_setCell W k i v
  exact ⟨S.bel.setCell (Nat.le_of_lt S.hk) v, g.row (by have := S.hk; omega) S.rz, heap_setCell_same W _ i _ _ _ S.ra, S.hk⟩
theorem Pt.grown (S : Pt w W k cs) {v : Value} (g : W.grownBy W' v.ownBlock) (h : ∀ b, v.ownBlock = some b → w.heap.size < b ∧ b ≠ k) : Pt w W' k cs :=
  ⟨S.bel.grown g S.bel.size (fun k hk => by have := h k hk; omega),
   (g.block _ (by have := S.lt; have := S.hk; omega) (fun e => by have := h _ e.symm; omega)).trans S.rz,
   (g.block _ (by have := S.lt; omega) (fun e => by have := h _ e.symm; omega)).trans S.ra, S.hk⟩
end
end Go.Proofs.YtjfhfgchglaoiaaGreat.AskW
