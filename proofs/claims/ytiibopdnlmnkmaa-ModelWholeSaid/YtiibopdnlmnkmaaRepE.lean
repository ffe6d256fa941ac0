/- The walks of the kinds' bytes. -/
import Derived.Test.YtiibopdnlmnkmaaAG2
import Derived.Test.YtiibopdnlmnkmaaRepA
import Derived.Test.YtiibopdnlmnkmaaRepD
import Derived.Deep.RegionHeld3
set_option linter.unusedVariables false
set_option linter.unusedSimpArgs false
namespace Go.Proofs.Ytiibopdnlmnkmaa.AskW
open Go.RowKit Go.Proofs.Ytiibopdnlmnkmaa Go.Proofs.Ytiibopdnlmnkmaa.Ask
theorem hlong {w w' : World} {t : TypeId} {v : Value} {n : Nat} {L : List Nat} (H : Has w w' t v n (bs L)) : Has w w' t v L.length (bs L) := by
  have h := H.len
  rw [bs_length] at h
  rw [h]; exact H
theorem rput_a' (w : World) (f p q g h : Nat) (hg : g = w.heap.size) (hh : h = w.heap.size + 1) (hp : p < 65536) (hq : q < 65536) :
    Calls Try.prog 98 #[.slice (some ⟨g, 0, none⟩) 1 1, .slice (some ⟨h, 0, none⟩) 2 2] ((w.alloc (.cells #[.int .u8 f] 5)).alloc (.cells #[.int .u16 p, .int .u16 q] 29)).drew fun e w' => ∃ v', e = .returned v' ∧ Has w.drew w' 5 v' 5 (bs (f :: (two p ++ two q))) := rput_a w.drew f p q g h hg hh hp hq
theorem rput_b' (w : World) (f p q g h : Nat) (hg : g = w.heap.size + 1) (hh : h = w.heap.size) (hp : p < 65536) (hq : q < 65536) :
    Calls Try.prog 98 #[.slice (some ⟨g, 0, none⟩) 1 1, .slice (some ⟨h, 0, none⟩) 2 2] ((w.alloc (.cells #[.int .u16 p, .int .u16 q] 29)).alloc (.cells #[.int .u8 f] 5)).drew fun e w' => ∃ v', e = .returned v' ∧ Has w.drew w' 5 v' 5 (bs (f :: (two p ++ two q))) := rput_b w.drew f p q g h hg hh hp hq
set_option maxRecDepth 100000 in
set_option maxHeartbeats 4000000 in
theorem kbytes_exc (f x : Nat) (Ab : Option Addr) (nb cb : Nat) (Aw : Option Addr) (nw cw : Nat) (a m : Nat) (B : List Bool) (W : List Nat) (w : World) (hB : Sl w w.heap.size Ab nb (bl B)) (hW : Sl w w.heap.size Aw nw (ws W)) (hwf : Rep.Wf ⟨f, x, B, W, a, m⟩) :
    Calls Try.prog 87 #[.agg #[], .agg #[.int .u8 f, .int .u8 x, .slice Ab nb cb, .slice Aw nw cw, .int .u16 a, .int .u16 m]] w fun e w' => ∃ v, e = .returned v ∧ Has w w' 5 v (Kd.bytes Kd.exc ⟨f, x, B, W, a, m⟩).length (bs (Kd.bytes Kd.exc ⟨f, x, B, W, a, m⟩)) := by
  have qB : B.length = nb := by simpa using hB.len
  have qW : W.length = nw := by simpa using hW.len
  have hf := hwf.f
  have ha := hwf.at'
  have hm := hwf.many
  have hww := hwf.words
  dsimp only at hf ha hm hww
  obtain ⟨W1, hW1⟩ : ∃ W1, W1 = ((w.alloc (.cells #[] 110)).alloc (.cells #[.int .u8 f, .int .u8 x, .slice Ab nb cb, .slice Aw nw cw, .int .u16 a, .int .u16 m] 36)) := ⟨_, rfl⟩
  have hb : Below w.heap.size w W1 := by rw [hW1]; exact ((Below.refl _ _).new _).new _
  have ra : W1.heap[w.heap.size + 1]? = _ := hW1 ▸ heap_alloc2_new w _ _
  have HK := Lib.hid (show Kd.bytes .exc ⟨f, x, B, W, a, m⟩ = [(f + 128) % 256, x] from rfl)
  obtain ⟨L, hL⟩ : ∃ L, L = Kd.bytes .exc ⟨f, x, B, W, a, m⟩ := ⟨_, rfl⟩
  rw [← hL] at HK ⊢
  have h8 : IntKind.u8.wrap ((f : Int) + 128) = (((f + 128) % 256 : Nat) : Int) := by rw [IntKind.wrap_u8]; omega
  obtain ⟨q, eq⟩ : ∃ q, q = (f + 128) % 256 := ⟨_, rfl⟩
  rw [← eq] at h8 HK
  clear hL eq hB hW qB qW hf ha hm hww hwf ra
  go_enter Try.func87, Try.ntmps87
  go_wp2_with fail
  go_ret
  rw [← hW1]
  rw [HK.out]
  refine ⟨_, rfl, ?_⟩
  have H := (Has.of_row (w0 := W1) (n := 2) (cs := #[.int .u8 (q : Nat), .int .u8 (x : Nat)]) ((Below.refl _ _).new _) (heap_alloc_new W1 (.cells #[.int .u8 (q : Nat), .int .u8 (x : Nat)] 5)) (Nat.le_refl _) rfl (by simp [maxLen])).weaken hb
  have e : w.heap.size + 1 + 1 = W1.heap.size := by rw [hW1]; simp
  try rw [e]
  exact H
set_option maxRecDepth 100000 in
set_option maxHeartbeats 4000000 in
theorem kbytes_bitsR (f x : Nat) (Ab : Option Addr) (nb cb : Nat) (Aw : Option Addr) (nw cw : Nat) (a m : Nat) (B : List Bool) (W : List Nat) (w : World) (hB : Sl w w.heap.size Ab nb (bl B)) (hW : Sl w w.heap.size Aw nw (ws W)) (hwf : Rep.Wf ⟨f, x, B, W, a, m⟩) (kB : nb ≤ 2000) :
    Calls Try.prog 90 #[.agg #[], .agg #[.int .u8 f, .int .u8 x, .slice Ab nb cb, .slice Aw nw cw, .int .u16 a, .int .u16 m]] w fun e w' => ∃ v, e = .returned v ∧ Has w w' 5 v (Kd.bytes Kd.bitsR ⟨f, x, B, W, a, m⟩).length (bs (Kd.bytes Kd.bitsR ⟨f, x, B, W, a, m⟩)) := by
  have qB : B.length = nb := by simpa using hB.len
  have qW : W.length = nw := by simpa using hW.len
  have hf := hwf.f
  have ha := hwf.at'
  have hm := hwf.many
  have hww := hwf.words
  dsimp only at hf ha hm hww
  obtain ⟨W1, hW1⟩ : ∃ W1, W1 = ((w.alloc (.cells #[] 111)).alloc (.cells #[.int .u8 f, .int .u8 x, .slice Ab nb cb, .slice Aw nw cw, .int .u16 a, .int .u16 m] 36)) := ⟨_, rfl⟩
  have hb : Below w.heap.size w W1 := by rw [hW1]; exact ((Below.refl _ _).new _).new _
  have ra : W1.heap[w.heap.size + 1]? = _ := hW1 ▸ heap_alloc2_new w _ _
  have HK := Lib.hid (show Kd.bytes .bitsR ⟨f, x, B, W, a, m⟩ = f :: ((nb + 7) / 8) % 256 :: pack B from by simp [Kd.bytes, pack_length, qB])
  obtain ⟨L, hL⟩ : ∃ L, L = Kd.bytes .bitsR ⟨f, x, B, W, a, m⟩ := ⟨_, rfl⟩
  rw [← hL] at HK ⊢
  have hpl := pack_length B
  rw [qB] at hpl
  obtain ⟨N, hN⟩ : ∃ N, N = (nb + 7) / 8 := ⟨_, rfl⟩
  rw [← hN] at HK hpl
  have hN2 : N ≤ 100000 := by omega
  have KP := Lib.hid (fun X (b : Below w.heap.size w X) => pack_any Ab nb cb B X (hB.to b) (by omega))
  rw [← hN] at KP
  clear hL hN hB hW qB qW hf ha hm hww hwf
  go_enter Try.func90, Try.ntmps90
  go_wp2_with fail
  rw [← hW1]
  clear hW1
  have rl := row_lt ra
  obtain ⟨c0, c1, c2, c3, c4, c5⟩ := row6 ra
  have HKP := Lib.hid (fun (X : World) (b : Below W1.heap.size W1 X) => (And.intro b (And.intro (row6 (b.row rl ra)).1 (row6 (b.row rl ra)).2.2.1) : Below W1.heap.size W1 X ∧ X.cell? ⟨w.heap.size + 1, 0, none⟩ = some (.int .u8 f) ∧ X.cell? ⟨w.heap.size + 1, 2, none⟩ = some (.slice Ab nb cb)))
  have hbd := (Below.refl W1.heap.size W1).drew
  go_region_held3 (fun w' => Below W1.heap.size W1 w' ∧ w'.cell? ⟨w.heap.size + 1, 0, none⟩ = some (.int .u8 f) ∧ w'.cell? ⟨w.heap.size + 1, 2, none⟩ = some (.slice Ab nb cb))
    (exact HKP.out _ hbd)
    (first
      | (go_at_call 68; refine (KP.out _ (hb.call hbd)).mono ?_; rintro e w2 ⟨vp, rfl, HP⟩; obtain ⟨Ap, cp, rfl, _, SP, _⟩ := HP.slice; have hbd := hbd.call HP.bel; clear HP)
      | (go_at_call 93; refine (counted_any' f Ap N cp (pack B) _ SP hN2).mono ?_; rintro e w3 ⟨vc, rfl, HC⟩; have hbd2 := hbd; have hbd := hbd.call HC.bel)
      | fail)
  go_wp2_with fail
  go_ret
  have H := HC.weaken (hb.call hbd2)
  rw [← HK.out] at H
  exact ⟨_, rfl, hlong H⟩
set_option maxRecDepth 100000 in
set_option maxHeartbeats 4000000 in
theorem kbytes_wordsR (f x : Nat) (Ab : Option Addr) (nb cb : Nat) (Aw : Option Addr) (nw cw : Nat) (a m : Nat) (B : List Bool) (W : List Nat) (w : World) (hB : Sl w w.heap.size Ab nb (bl B)) (hW : Sl w w.heap.size Aw nw (ws W)) (hwf : Rep.Wf ⟨f, x, B, W, a, m⟩) (kW : nw ≤ 1000) :
    Calls Try.prog 95 #[.agg #[], .agg #[.int .u8 f, .int .u8 x, .slice Ab nb cb, .slice Aw nw cw, .int .u16 a, .int .u16 m]] w fun e w' => ∃ v, e = .returned v ∧ Has w w' 5 v (Kd.bytes Kd.wordsR ⟨f, x, B, W, a, m⟩).length (bs (Kd.bytes Kd.wordsR ⟨f, x, B, W, a, m⟩)) := by
  have qB : B.length = nb := by simpa using hB.len
  have qW : W.length = nw := by simpa using hW.len
  have hf := hwf.f
  have ha := hwf.at'
  have hm := hwf.many
  have hww := hwf.words
  dsimp only at hf ha hm hww
  obtain ⟨W1, hW1⟩ : ∃ W1, W1 = ((w.alloc (.cells #[] 112)).alloc (.cells #[.int .u8 f, .int .u8 x, .slice Ab nb cb, .slice Aw nw cw, .int .u16 a, .int .u16 m] 36)) := ⟨_, rfl⟩
  have hb : Below w.heap.size w W1 := by rw [hW1]; exact ((Below.refl _ _).new _).new _
  have ra : W1.heap[w.heap.size + 1]? = _ := hW1 ▸ heap_alloc2_new w _ _
  have HK := Lib.hid (show Kd.bytes .wordsR ⟨f, x, B, W, a, m⟩ = f :: (2 * nw) % 256 :: twos W from by simp [Kd.bytes, twos_len, qW])
  obtain ⟨L, hL⟩ : ∃ L, L = Kd.bytes .wordsR ⟨f, x, B, W, a, m⟩ := ⟨_, rfl⟩
  rw [← hL] at HK ⊢
  have KP := Lib.hid (fun X (b : Below w.heap.size w X) => repPut_any X (.slice none 0 0) 0 [] Aw nw cw W X (Has.nil_ (Below.refl _ _) _) (hW.to b) hww (fun _ _ _ _ e => by cases e) (by omega))
  simp only [Nat.zero_add, List.nil_append] at KP
  have hN2 : 2 * nw ≤ 100000 := by omega
  clear hL hB hW qB qW hf ha hm hww hwf
  go_enter Try.func95, Try.ntmps95
  go_wp2_with fail
  rw [← hW1]
  clear hW1
  have rl := row_lt ra
  obtain ⟨c0, c1, c2, c3, c4, c5⟩ := row6 ra
  have HKP := Lib.hid (fun (X : World) (b : Below W1.heap.size W1 X) => (And.intro b (And.intro (row6 (b.row rl ra)).1 (row6 (b.row rl ra)).2.2.2.1) : Below W1.heap.size W1 X ∧ X.cell? ⟨w.heap.size + 1, 0, none⟩ = some (.int .u8 f) ∧ X.cell? ⟨w.heap.size + 1, 3, none⟩ = some (.slice Aw nw cw)))
  have hbd := (Below.refl W1.heap.size W1).drew
  go_region_held3 (fun w' => Below W1.heap.size W1 w' ∧ w'.cell? ⟨w.heap.size + 1, 0, none⟩ = some (.int .u8 f) ∧ w'.cell? ⟨w.heap.size + 1, 3, none⟩ = some (.slice Aw nw cw))
    (exact HKP.out _ hbd)
    (first
      | (go_at_call 98; refine (KP.out _ (hb.call hbd)).mono ?_; rintro e w2 ⟨vp, rfl, HP⟩; obtain ⟨Ap, cp, rfl, _, SP, _⟩ := HP.slice; have hbd := hbd.call HP.bel; clear HP)
      | (go_at_call 93; refine (counted_any' f Ap (2 * nw) cp (twos W) _ SP hN2).mono ?_; rintro e w3 ⟨vc, rfl, HC⟩; have hbd2 := hbd; have hbd := hbd.call HC.bel)
      | fail)
  go_wp2_with fail
  go_ret
  have H := HC.weaken (hb.call hbd2)
  rw [← HK.out] at H
  exact ⟨_, rfl, hlong H⟩
set_option maxRecDepth 100000 in
set_option maxHeartbeats 4000000 in
theorem kbytes_bitW (f x : Nat) (Ab : Option Addr) (nb cb : Nat) (Aw : Option Addr) (nw cw : Nat) (a m : Nat) (B : List Bool) (W : List Nat) (w : World) (hB : Sl w w.heap.size Ab nb (bl B)) (hW : Sl w w.heap.size Aw nw (ws W)) (hwf : Rep.Wf ⟨f, x, B, W, a, m⟩) (kB : 1 ≤ nb) :
    Calls Try.prog 100 #[.agg #[], .agg #[.int .u8 f, .int .u8 x, .slice Ab nb cb, .slice Aw nw cw, .int .u16 a, .int .u16 m]] w fun e w' => ∃ v, e = .returned v ∧ Has w w' 5 v (Kd.bytes Kd.bitW ⟨f, x, B, W, a, m⟩).length (bs (Kd.bytes Kd.bitW ⟨f, x, B, W, a, m⟩)) := by
  have qB : B.length = nb := by simpa using hB.len
  have qW : W.length = nw := by simpa using hW.len
  have hf := hwf.f
  have ha := hwf.at'
  have hm := hwf.many
  have hww := hwf.words
  dsimp only at hf ha hm hww
  obtain ⟨W1, hW1⟩ : ∃ W1, W1 = ((w.alloc (.cells #[] 113)).alloc (.cells #[.int .u8 f, .int .u8 x, .slice Ab nb cb, .slice Aw nw cw, .int .u16 a, .int .u16 m] 36)) := ⟨_, rfl⟩
  have hb : Below w.heap.size w W1 := by rw [hW1]; exact ((Below.refl _ _).new _).new _
  have ra : W1.heap[w.heap.size + 1]? = _ := hW1 ▸ heap_alloc2_new w _ _
  obtain ⟨z, ez⟩ : ∃ z, z = B[0]?.getD false := ⟨_, rfl⟩
  have HK := Lib.hid (show Kd.bytes .bitW ⟨f, x, B, W, a, m⟩ = f :: (two a ++ two (if z then 65280 else 0)) from by simp [Kd.bytes, ez])
  obtain ⟨L, hL⟩ : ∃ L, L = Kd.bytes .bitW ⟨f, x, B, W, a, m⟩ := ⟨_, rfl⟩
  rw [← hL] at HK ⊢
  obtain ⟨b, o, rfl, hbl, d1⟩ := hB.2 (by omega)
  have g1 : w.cell? ⟨b, o, none⟩ = some (.bool z) := (d1 0 (by omega)).trans (by rw [bl_get (by omega), ez])
  have g2 := (hb.cell (p := ⟨b, o, none⟩) hbl).trans g1
  have z1 : (0 : Int) < (nb : Int) := by omega
  have KP := Lib.hid (fun q g h hg hh hq => rput_a W1 f a q g h hg hh ha hq)
  have e : w.heap.size + 1 + 1 = W1.heap.size := by rw [hW1]; simp
  have HE := Lib.hid e
  clear hL ez hB hW qB qW hf hm hww hwf d1 e
  cases z
  · go_enter Try.func100, Try.ntmps100
    go_wp2_with fail
    rw [← hW1]
    first | rw [HE.out] | skip
    refine (KP.out 0 _ _ (by first | rfl | simp) (by first | rfl | simp) (by omega)).mono ?_
    rintro e w2 ⟨v, rfl, H⟩
    go_wp2_with fail
    go_ret
    have H := H.weaken hb
    rw [show (f :: (two a ++ two 0)) = L from by rw [HK.out] <;> rfl] at H
    exact ⟨_, rfl, hlong H⟩
  · go_enter Try.func100, Try.ntmps100
    go_wp2_with fail
    rw [← hW1]
    first | rw [HE.out] | skip
    refine (KP.out 65280 _ _ (by first | rfl | simp) (by first | rfl | simp) (by omega)).mono ?_
    rintro e w2 ⟨v, rfl, H⟩
    go_wp2_with fail
    go_ret
    have H := H.weaken hb
    rw [show (f :: (two a ++ two 65280)) = L from by rw [HK.out] <;> rfl] at H
    exact ⟨_, rfl, hlong H⟩
set_option maxRecDepth 100000 in
set_option maxHeartbeats 4000000 in
theorem kbytes_wordW (f x : Nat) (Ab : Option Addr) (nb cb : Nat) (Aw : Option Addr) (nw cw : Nat) (a m : Nat) (B : List Bool) (W : List Nat) (w : World) (hB : Sl w w.heap.size Ab nb (bl B)) (hW : Sl w w.heap.size Aw nw (ws W)) (hwf : Rep.Wf ⟨f, x, B, W, a, m⟩) (kW : 1 ≤ nw) :
    Calls Try.prog 103 #[.agg #[], .agg #[.int .u8 f, .int .u8 x, .slice Ab nb cb, .slice Aw nw cw, .int .u16 a, .int .u16 m]] w fun e w' => ∃ v, e = .returned v ∧ Has w w' 5 v (Kd.bytes Kd.wordW ⟨f, x, B, W, a, m⟩).length (bs (Kd.bytes Kd.wordW ⟨f, x, B, W, a, m⟩)) := by
  have qB : B.length = nb := by simpa using hB.len
  have qW : W.length = nw := by simpa using hW.len
  have hf := hwf.f
  have ha := hwf.at'
  have hm := hwf.many
  have hww := hwf.words
  dsimp only at hf ha hm hww
  obtain ⟨W1, hW1⟩ : ∃ W1, W1 = ((w.alloc (.cells #[] 114)).alloc (.cells #[.int .u8 f, .int .u8 x, .slice Ab nb cb, .slice Aw nw cw, .int .u16 a, .int .u16 m] 36)) := ⟨_, rfl⟩
  have hb : Below w.heap.size w W1 := by rw [hW1]; exact ((Below.refl _ _).new _).new _
  have ra : W1.heap[w.heap.size + 1]? = _ := hW1 ▸ heap_alloc2_new w _ _
  obtain ⟨z, ez⟩ : ∃ z, z = W[0]?.getD 0 := ⟨_, rfl⟩
  have hz : z < 65536 := by rw [ez, List.getElem?_eq_getElem (by omega)]; exact hww _ (List.getElem_mem _)
  have HK := Lib.hid (show Kd.bytes .wordW ⟨f, x, B, W, a, m⟩ = f :: (two a ++ two z) from by simp [Kd.bytes, ez])
  obtain ⟨L, hL⟩ : ∃ L, L = Kd.bytes .wordW ⟨f, x, B, W, a, m⟩ := ⟨_, rfl⟩
  rw [← hL] at HK ⊢
  obtain ⟨b, o, rfl, hbl, d1⟩ := hW.2 (by omega)
  have g1 : w.cell? ⟨b, o, none⟩ = some (.int .u16 (z : Nat)) := (d1 0 (by omega)).trans (by rw [ws_get (by omega), ez])
  have g2 := (hb.cell (p := ⟨b, o, none⟩) hbl).trans g1
  have z1 : (0 : Int) < (nw : Int) := by omega
  have z1n : 0 < nw := by omega
  have hbl2 : b < W1.heap.size := Nat.lt_of_lt_of_le hbl hb.size
  clear hL ez hB hW qB qW hf hm hww hwf d1
  go_enter Try.func103, Try.ntmps103
  go_wp2_with fail
  rw [← hW1]
  clear hW1
  have hbd := (Below.refl W1.heap.size W1).drew
  have rl := row_lt ra
  obtain ⟨c0, c1, c2, c3, c4, c5⟩ := row6 ra
  have HKP := Lib.hid (fun (X : World) (bb : Below W1.heap.size W1 X) => (And.intro bb (And.intro (row6 (bb.row rl ra)).1 (And.intro (row6 (bb.row rl ra)).2.2.2.1 (And.intro (row6 (bb.row rl ra)).2.2.2.2.1 ((bb.cell (p := ⟨b, o, none⟩) hbl2).trans g2)))) : Below W1.heap.size W1 X ∧ X.cell? ⟨w.heap.size + 1, 0, none⟩ = some (.int .u8 f) ∧ X.cell? ⟨w.heap.size + 1, 3, none⟩ = some (.slice (some ⟨b, o, none⟩) nw cw) ∧ X.cell? ⟨w.heap.size + 1, 4, none⟩ = some (.int .u16 a) ∧ X.cell? ⟨b, o, none⟩ = some (.int .u16 (z : Nat))))
  go_region_held3 (fun w' => Below W1.heap.size W1 w' ∧ w'.cell? ⟨w.heap.size + 1, 0, none⟩ = some (.int .u8 f) ∧ w'.cell? ⟨w.heap.size + 1, 3, none⟩ = some (.slice (some ⟨b, o, none⟩) nw cw) ∧ w'.cell? ⟨w.heap.size + 1, 4, none⟩ = some (.int .u16 a) ∧ w'.cell? ⟨b, o, none⟩ = some (.int .u16 (z : Nat)))
    (first | exact HKP.out _ hbd | exact HKP.out _ (((Below.refl _ _).new _)).drew | exact HKP.out _ ((((Below.refl _ _).new _).new _)).drew | exact HKP.out _ (hbd.call HC.bel))
    (first
      | (go_at_call 98; (with_reducible refine (rput_a' W1 f a z _ _ rfl (by simp) ha hz).mono ?_); rintro e w3 ⟨vc, rfl, HC⟩)
      | (go_at_call 98; (with_reducible refine (rput_b' W1 f a z _ _ (by simp) rfl ha hz).mono ?_); rintro e w3 ⟨vc, rfl, HC⟩)
      | fail)
  all_goals (
    go_wp2_with fail
    go_ret
    have H := HC.weaken (hb.call hbd)
    rw [← HK.out] at H
    exact ⟨_, rfl, hlong H⟩)
set_option maxRecDepth 100000 in
set_option maxHeartbeats 4000000 in
theorem kbytes_manyW (mo : Nat) (f x : Nat) (Ab : Option Addr) (nb cb : Nat) (Aw : Option Addr) (nw cw : Nat) (a m : Nat) (B : List Bool) (W : List Nat) (w : World) (hB : Sl w w.heap.size Ab nb (bl B)) (hW : Sl w w.heap.size Aw nw (ws W)) (hwf : Rep.Wf ⟨f, x, B, W, a, m⟩) :
    Calls Try.prog 106 #[.agg #[.int .u16 (mo : Nat)], .agg #[.int .u8 f, .int .u8 x, .slice Ab nb cb, .slice Aw nw cw, .int .u16 a, .int .u16 m]] w fun e w' => ∃ v, e = .returned v ∧ Has w w' 5 v (Kd.bytes (Kd.manyW mo) ⟨f, x, B, W, a, m⟩).length (bs (Kd.bytes (Kd.manyW mo) ⟨f, x, B, W, a, m⟩)) := by
  have qB : B.length = nb := by simpa using hB.len
  have qW : W.length = nw := by simpa using hW.len
  have hf := hwf.f
  have ha := hwf.at'
  have hm := hwf.many
  have hww := hwf.words
  dsimp only at hf ha hm hww
  obtain ⟨W1, hW1⟩ : ∃ W1, W1 = ((w.alloc (.cells #[.int .u16 (mo : Nat)] 116)).alloc (.cells #[.int .u8 f, .int .u8 x, .slice Ab nb cb, .slice Aw nw cw, .int .u16 a, .int .u16 m] 36)) := ⟨_, rfl⟩
  have hb : Below w.heap.size w W1 := by rw [hW1]; exact ((Below.refl _ _).new _).new _
  have ra : W1.heap[w.heap.size + 1]? = _ := hW1 ▸ heap_alloc2_new w _ _
  have HK := Lib.hid (show Kd.bytes (.manyW mo) ⟨f, x, B, W, a, m⟩ = f :: (two a ++ two m) from rfl)
  obtain ⟨L, hL⟩ : ∃ L, L = Kd.bytes (.manyW mo) ⟨f, x, B, W, a, m⟩ := ⟨_, rfl⟩
  rw [← hL] at HK ⊢
  have KP := Lib.hid (fun g h hg hh => rput_a W1 f a m g h hg hh ha hm)
  have e : w.heap.size + 1 + 1 = W1.heap.size := by rw [hW1]; simp
  have HE := Lib.hid e
  clear hL hB hW qB qW hf ha hm hww hwf e
  go_enter Try.func106, Try.ntmps106
  go_wp2_with fail
  rw [← hW1]
  first | rw [HE.out] | skip
  refine (KP.out _ _ (by first | rfl | simp) (by first | rfl | simp)).mono ?_
  rintro e w2 ⟨v, rfl, H⟩
  go_wp2_with fail
  go_ret
  have H := H.weaken hb
  rw [← HK.out] at H
  exact ⟨_, rfl, hlong H⟩
end Go.Proofs.Ytiibopdnlmnkmaa.AskW
