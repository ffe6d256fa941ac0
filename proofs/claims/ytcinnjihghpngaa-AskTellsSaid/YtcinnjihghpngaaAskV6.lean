/- The walk of AskTells. -/
import Derived.Test.YtcinnjihghpngaaAG6
import Derived.Test.YtcinnjihghpngaaAG1
import Derived.Test.YtcinnjihghpngaaAG7
import Derived.Test.YtcinnjihghpngaaAskW14
import Derived.Deep.RegionHeld3
import Derived.Deep.DeepCutAuto
set_option linter.unusedVariables false
set_option linter.unusedSimpArgs false
namespace Go.Proofs.Ytcinnjihghpngaa.AskW
open Go.RowKit Go.Proofs.Ytcinnjihghpngaa Go.Proofs.Ytcinnjihghpngaa.Ask
theorem keepTwo {X w' : World} {g1 g2 : Nat} {t1 t2 : TypeId} {u0 u1 u2 u3 u4 u5 v0 v1 v2 v3 v4 v5 : Value} (b : Below X.heap.size X w') (r1 : X.heap[g1]? = some (.cells #[u0, u1, u2, u3, u4, u5] t1 (0, 0))) (r2 : X.heap[g2]? = some (.cells #[v0, v1, v2, v3, v4, v5] t2 (0, 0))) :
    Below X.heap.size X w' ∧ w'.cell? ⟨g1, 0, none⟩ = some u0 ∧ w'.cell? ⟨g1, 1, none⟩ = some u1 ∧ w'.cell? ⟨g1, 2, none⟩ = some u2 ∧ w'.cell? ⟨g1, 3, none⟩ = some u3 ∧ w'.cell? ⟨g1, 4, none⟩ = some u4 ∧ w'.cell? ⟨g1, 5, none⟩ = some u5 ∧
      w'.cell? ⟨g2, 0, none⟩ = some v0 ∧ w'.cell? ⟨g2, 1, none⟩ = some v1 ∧ w'.cell? ⟨g2, 2, none⟩ = some v2 ∧ w'.cell? ⟨g2, 3, none⟩ = some v3 ∧ w'.cell? ⟨g2, 4, none⟩ = some v4 ∧ w'.cell? ⟨g2, 5, none⟩ = some v5 := by
  obtain ⟨h0, h1, h2, h3, h4, h5⟩ := row6 (b.row (row_lt r1) r1)
  obtain ⟨k0, k1, k2, k3, k4, k5⟩ := row6 (b.row (row_lt r2) r2)
  exact ⟨b, h0, h1, h2, h3, h4, h5, k0, k1, k2, k3, k4, k5⟩
theorem lowSame_same (A A2 : Option Addr) (n cap n2 cap2 B : Nat) (l : List Nat) (w : World) (hs : Sl w B A n (bs l)) (hl : Bytes l) (hs2 : Sl w B A2 n2 (bs l)) :
    Calls Try.prog 19 #[.slice A n cap, .slice A2 n2 cap2] w fun e w' => e = .returned (.bool true) ∧ w = w' := by
  have := lowSame_any A A2 n cap n2 cap2 B l l w hs hl hs2 hl
  rwa [beq_self_eq_true] at this
theorem lowBits_same (A1 A2 : Option Addr) (n1 c1 n2 c2 : Nat) (l : List Bool) (w : World) (h1 : Sl w w.heap.size A1 n1 (bl l)) (h2 : Sl w w.heap.size A2 n2 (bl l)) (hn : n1 ≤ 1000000) (hn2 : n2 ≤ 1000000) :
    Calls Try.prog 26 #[.slice A1 n1 c1, .slice A2 n2 c2] w fun e w' => e = .returned (.bool true) ∧ Below w.heap.size w w' := by
  have := lowBits_any A1 A2 n1 c1 n2 c2 l l w h1 h2 (by omega) (by omega)
  rwa [beq_self_eq_true] at this
theorem refSame_same (f a m t : Nat) (Aw : Option Addr) (nw cw : Nat) (Ab : Option Addr) (nb cb : Nat) (Aw2 : Option Addr) (nw2 cw2 : Nat) (Ab2 : Option Addr) (nb2 cb2 : Nat) (W : List Nat) (B : List Bool) (w : World)
    (h1 : Sl w w.heap.size Aw nw (ws W)) (h2 : Sl w w.heap.size Ab nb (bl B)) (h3 : Sl w w.heap.size Aw2 nw2 (ws W)) (h4 : Sl w w.heap.size Ab2 nb2 (bl B)) (k1 : W.length ≤ 1000000) (k2 : B.length ≤ 1000000) :
    Calls Try.prog 18 #[.agg #[.int .u8 f, .int .u16 a, .int .u16 m, .int .u16 t, .slice Aw nw cw, .slice Ab nb cb], .agg #[.int .u8 f, .int .u16 a, .int .u16 m, .int .u16 t, .slice Aw2 nw2 cw2, .slice Ab2 nb2 cb2]] w
      fun e w' => e = .returned (.bool true) ∧ Below w.heap.size w w' := by
  have e1 := h1.len
  have e2 := h2.len
  have e3 := h3.len
  have e4 := h4.len
  simp at e1 e2 e3 e4
  have := refSame_any f a m t Aw nw cw Ab nb cb f a m t Aw2 nw2 cw2 Ab2 nb2 cb2 W W B B w h1 h2 h3 h4 (by omega) (by omega) (by omega) (by omega)
  simpa using this
theorem right_bits {r : Req} (h : right r = true) : r.bits.length ≤ 1968 := by
  cases shape_of h with
  | ask m h hf hm hb => rw [h]; simp
  | bit x h hb => rw [h]; simp
  | word x h hb => rw [h]; simp
  | bits h hm hb => exact hm.2
  | words h hm hb => rw [h]; simp
  | swap h hm hw hb => rw [h]; simp
theorem parse_small (xs : List Nat) : (parseF xs).1.words.length ≤ 1000000 ∧ (parseF xs).1.bits.length ≤ 1000000 := by
  rcases parse_cases xs with ⟨r, hr, _, hp, _⟩ | ⟨hp, _⟩
  · rw [hp]; have := right_words hr; have := right_bits hr; dsimp only; omega
  · rw [hp]; simp [bare]
theorem look_small (xs : List Nat) : (lookF xs).1.words.length ≤ 1000000 ∧ (lookF xs).1.bits.length ≤ 1000000 := by
  rcases parse_cases xs with ⟨r, hr, _, _, hp⟩ | ⟨_, hp⟩
  · rw [hp]; have := right_words hr; have := right_bits hr; dsimp only; omega
  · rw [look_wrong hp]; repeat' split
    all_goals simp [bare]
theorem bytesE_lt' (r : Req) (h : r.Wf) (hl : r.words.length < 65536) : Bytes (bytesE r).1 := by
  unfold bytesE; split
  · exact bytes_lt r h hl
  · exact Bytes.nil
set_option maxRecDepth 100000 in
set_option maxHeartbeats 32000000 in
theorem askTells_any (f a m t : Nat) (Aw : Option Addr) (nw cw : Nat) (Ab : Option Addr) (nb cb : Nat) (W : List Nat) (B : List Bool) (f2 a2 m2 t2 : Nat) (Aw2 : Option Addr) (nw2 cw2 : Nat) (Ab2 : Option Addr) (nb2 cb2 : Nat) (W2 : List Nat) (B2 : List Bool) (A : Option Addr) (n c : Nat) (xs : List Nat) (w : World)
    (hW : Sl w w.heap.size Aw nw (ws W)) (hB : Sl w w.heap.size Ab nb (bl B)) (hwf : Req.Wf ⟨f, a, m, t, W, B⟩) (hW2 : Sl w w.heap.size Aw2 nw2 (ws W2)) (hB2 : Sl w w.heap.size Ab2 nb2 (bl B2)) (hs : Sl w w.heap.size A n (bs xs)) (hx : Bytes xs) (hc : n ≤ c) :
    Calls Try.prog 3 #[.agg #[.int .u8 f, .int .u16 a, .int .u16 m, .int .u16 t, .slice Aw nw cw, .slice Ab nb cb], .agg #[.int .u8 f2, .int .u16 a2, .int .u16 m2, .int .u16 t2, .slice Aw2 nw2 cw2, .slice Ab2 nb2 cb2], .slice A n c] w fun e w' => e = .returned (.bool true) ∧ Below w.heap.size w w' := by
  have hb0 : Below w.heap.size w ((w.alloc (.cells #[.int .u8 f, .int .u16 a, .int .u16 m, .int .u16 t, .slice Aw nw cw, .slice Ab nb cb] 26)).alloc (.cells #[.int .u8 f2, .int .u16 a2, .int .u16 m2, .int .u16 t2, .slice Aw2 nw2 cw2, .slice Ab2 nb2 cb2] 26)) := ((Below.refl _ _).new _).new _
  have FA0 := few_any Aw Ab nw cw nb cb
  have FO0 := few_any Aw2 Ab2 nw2 cw2 nb2 cb2
  by_cases h1 : nw ≤ 200 ∧ nb ≤ 2100
  case neg =>
    rw [show (decide (nw ≤ 200) && decide (nb ≤ 2100)) = false by rw [Bool.and_eq_false_iff, decide_eq_false_iff_not, decide_eq_false_iff_not]; omega] at FA0
    have FA := Lib.hid FA0
    clear FA0 FO0 h1 hs hx hc hW hB hwf hW2 hB2
    go_enter Try.func3, Try.ntmps3
    go_wp2_with fail
    refine (FA.out _).mono ?_
    rintro e wf ⟨rfl, rfl⟩
    go_wp2_with (go_at_call 12; refine (awake_any _).mono ?_; rintro e wa ⟨rfl, ba⟩)
    go_ret
    exact ⟨rfl, hb0.call ba⟩
  rw [show (decide (nw ≤ 200) && decide (nb ≤ 2100)) = true by rw [Bool.and_eq_true, decide_eq_true_iff, decide_eq_true_iff]; omega] at FA0
  have FA := Lib.hid FA0
  clear FA0
  by_cases h2 : nw2 ≤ 200 ∧ nb2 ≤ 2100
  case neg =>
    rw [show (decide (nw2 ≤ 200) && decide (nb2 ≤ 2100)) = false by rw [Bool.and_eq_false_iff, decide_eq_false_iff_not, decide_eq_false_iff_not]; omega] at FO0
    have FO := Lib.hid FO0
    clear FO0 h1 h2 hs hx hc hW hB hwf hW2 hB2
    go_enter Try.func3, Try.ntmps3
    go_wp2_with fail
    refine (FA.out _).mono ?_
    rintro e wf ⟨rfl, rfl⟩
    go_wp2_with fail
    refine (FO.out _).mono ?_
    rintro e wf ⟨rfl, rfl⟩
    go_wp2_with (go_at_call 12; refine (awake_any _).mono ?_; rintro e wa ⟨rfl, ba⟩)
    go_ret
    exact ⟨rfl, hb0.call ba⟩
  rw [show (decide (nw2 ≤ 200) && decide (nb2 ≤ 2100)) = true by rw [Bool.and_eq_true, decide_eq_true_iff, decide_eq_true_iff]; omega] at FO0
  have FO := Lib.hid FO0
  clear FO0
  by_cases h3 : (300 : Int) < n
  · clear h1 h2 hs hx hc hW hB hwf hW2 hB2
    go_enter Try.func3, Try.ntmps3
    go_wp2_with fail
    refine (FA.out _).mono ?_
    rintro e wf ⟨rfl, rfl⟩
    go_wp2_with fail
    refine (FO.out _).mono ?_
    rintro e wf ⟨rfl, rfl⟩
    go_wp2_with (go_at_call 12; refine (awake_any _).mono ?_; rintro e wa ⟨rfl, ba⟩)
    go_ret
    exact ⟨rfl, hb0.call ba⟩
  have qW : W.length = nw := by simpa using hW.len
  have qB : B.length = nb := by simpa using hB.len
  have hn2 : n ≤ 300 := by omega
  have ra0 := row_alloc (heap_alloc_new w (.cells #[.int .u8 f, .int .u16 a, .int .u16 m, .int .u16 t, .slice Aw nw cw, .slice Ab nb cb] 26)) (.cells #[.int .u8 f2, .int .u16 a2, .int .u16 m2, .int .u16 t2, .slice Aw2 nw2 cw2, .slice Ab2 nb2 cb2] 26)
  have ro0 := heap_alloc2_new w (.cells #[.int .u8 f, .int .u16 a, .int .u16 m, .int .u16 t, .slice Aw nw cw, .slice Ab nb cb] 26) (.cells #[.int .u8 f2, .int .u16 a2, .int .u16 m2, .int .u16 t2, .slice Aw2 nw2 cw2, .slice Ab2 nb2 cb2] 26)
  have hlt := bytesE_lt' ⟨f, a, m, t, W, B⟩ hwf (by dsimp only; omega)
  have KA0 := fun Y (b : Below w.heap.size w Y) => bytes_any f a m t Aw nw cw Ab nb cb W B Y (hW.to b) (hB.to b) hwf
  have KB0 := fun Y (b : Below w.heap.size w Y) => refBytes_any f a m t Aw nw cw Ab nb cb W B Y (hW.to b) (hB.to b) hwf
  have KR0 := fun Y => right_any f a m t Aw nw cw Ab nb cb W B qW qB hwf.many Y
  have KR1 := fun Y => refRight_any f a m t Aw nw cw Ab nb cb W B qW qB hwf.many Y
  have KQ0 := fun Y (b : Below w.heap.size w Y) => same_any f a m t Aw nw cw Ab nb cb f2 a2 m2 t2 Aw2 nw2 cw2 Ab2 nb2 cb2 W W2 B B2 Y (hW.to b) (hB.to b) (hW2.to b) (hB2.to b) (by omega) (by omega) (by omega) (by omega)
  have KQ1 := fun Y (b : Below w.heap.size w Y) => refSame_any f a m t Aw nw cw Ab nb cb f2 a2 m2 t2 Aw2 nw2 cw2 Ab2 nb2 cb2 W W2 B B2 Y (hW.to b) (hB.to b) (hW2.to b) (hB2.to b) (by omega) (by omega) (by omega) (by omega)
  have KP0 := fun Y A1 c1 (h : Sl Y Y.heap.size A1 n (bs xs)) (hc1 : n ≤ c1) => parse_any A1 n c1 xs Y h hx hn2 hc1
  have KP1 := fun Y (b : Below w.heap.size w Y) => refParse_any A n c xs Y (hs.to b) hx hn2 hc
  have KL0 := fun Y A1 c1 (h : Sl Y Y.heap.size A1 n (bs xs)) (hc1 : n ≤ c1) => look_any A1 n c1 xs Y h hx hn2 hc1
  have KL1 := fun Y (b : Below w.heap.size w Y) => refLook_any A n c xs Y (hs.to b) hx hn2 hc
  have KK0 := Lib.hid (fun Y (b : Below w.heap.size w Y) => pack_any Ab nb cb B Y (hB.to b) (by omega))
  have KK1 := Lib.hid (fun Y (b : Below w.heap.size w Y) => refPack_any Ab nb cb B Y (hB.to b) (by omega))
  have KU0 := Lib.hid (fun Y A1 c1 (h : Sl Y Y.heap.size A1 n (bs xs)) => unpack_any A1 n c1 xs Y h hx (by omega))
  have KU1 := Lib.hid (fun Y (b : Below w.heap.size w Y) => refUnpack_any A n c xs Y (hs.to b) hx (by omega))
  have hpl := pack_bytes B
  have hps := parse_small xs
  have hls := look_small xs
  obtain ⟨R, hR⟩ : ∃ R, R = right ⟨f, a, m, t, W, B⟩ := ⟨_, rfl⟩
  obtain ⟨⟨E, ec⟩, hE⟩ : ∃ E, E = bytesE ⟨f, a, m, t, W, B⟩ := ⟨_, rfl⟩
  obtain ⟨Q, hQ⟩ : ∃ Q, Q = (f == f2 && a == a2 && m == m2 && t == t2 && W == W2 && B == B2) := ⟨_, rfl⟩
  obtain ⟨⟨⟨p1, p2, p3, p4, p5, p6⟩, pe⟩, hP⟩ : ∃ P, P = parseF xs := ⟨_, rfl⟩
  obtain ⟨⟨⟨l1, l2, l3, l4, l5, l6⟩, le⟩, hL⟩ : ∃ P, P = lookF xs := ⟨_, rfl⟩
  rw [← hE] at KA0 KB0 hlt
  rw [← hR] at KR0 KR1
  rw [← hQ] at KQ0 KQ1
  rw [← hP] at KP0 KP1 hps
  rw [← hL] at KL0 KL1 hls
  have KA := Lib.hid KA0
  have KB := Lib.hid KB0
  have KRa := Lib.hid KR0
  have KRr := Lib.hid KR1
  have KQa := Lib.hid KQ0
  have KQr := Lib.hid KQ1
  have KPa := Lib.hid KP0
  have KPr := Lib.hid KP1
  have KLa := Lib.hid KL0
  have KLr := Lib.hid KL1
  have HE := Lib.hid hlt
  have HK := Lib.hid hpl
  have HPS := Lib.hid hps
  have HLS := Lib.hid hls
  have HS := Lib.hid hs
  have HX := Lib.hid hx
  have RA0 := Lib.hid ra0
  have RO0 := Lib.hid ro0
  have hnb : nb ≤ 2100 := h1.2
  clear KA0 KB0 KR0 KR1 KQ0 KQ1 KP0 KP1 KL0 KL1 hlt hpl hps hls hs hx hW hB hwf hW2 hB2 hE hR hQ hP hL qW qB h1 h2 ra0 ro0
  go_enter Try.func3, Try.ntmps3
  go_wp2_with fail
  refine (FA.out _).mono ?_
  rintro e wf ⟨rfl, rfl⟩
  go_wp2_with fail
  refine (FO.out _).mono ?_
  rintro e wf ⟨rfl, rfl⟩
  obtain ⟨X0, hX0⟩ : ∃ X0, X0 = ((w.alloc (.cells #[.int .u8 f, .int .u16 a, .int .u16 m, .int .u16 t, .slice Aw nw cw, .slice Ab nb cb] 26)).alloc (.cells #[.int .u8 f2, .int .u16 a2, .int .u16 m2, .int .u16 t2, .slice Aw2 nw2 cw2, .slice Ab2 nb2 cb2] 26)) := ⟨_, rfl⟩
  have RA1 : Hid _ := RA0
  have RO1 : Hid _ := RO0
  rw [← hX0] at hb0 ⊢
  have ra := RA0.out
  have ro := RO0.out
  rw [← hX0] at ra ro
  clear hX0 RA1 RO1 RA0 RO0
  have S0 := (HS.out.to hb0).alloc (Nat.le_refl _) (.cells #[] 5)
  go_wp2_with (at_builtin; refine wpList_app _root_.Go.Proofs.Ytcinnjihghpngaa.AskW.u8 rfl (.tmp 40) (.tmp 41) rfl (Has.made0 (Below.refl X0.heap.size X0) _) rfl S0 rfl (bs_one _) (by omega) (by simp only [maxLen]; omega) ?_; intro v1 w1 H1 _ _; obtain ⟨A1, c1, rfl, hc1, S1, _⟩ := H1.slice; have ra := H1.bel.row (row_lt ra) ra; have ro := H1.bel.row (row_lt ro) ro; have hb := hb0.call H1.bel; rw [Nat.zero_add] at hc1 S1; rw [List.nil_append] at S1; obtain ⟨c0', c1', c2', c3', c4', c5'⟩ := row6 ra; clear H1)
  try simp only [Nat.zero_add]
  refine (KA.out _ hb).mono ?_
  rintro e w2 ⟨v2, rfl, H2⟩
  obtain ⟨A2, cc2, rfl, _, S2, _⟩ := H2.slice
  have ra := H2.bel.row (row_lt ra) ra
  have ro := H2.bel.row (row_lt ro) ro
  have hb := hb.call H2.bel
  have S1 := S1.to H2.bel
  obtain ⟨c0', c1', c2', c3', c4', c5'⟩ := row6 ra
  clear H2
  go_wp2_with fail
  refine (KB.out _ hb).mono ?_
  rintro e X ⟨v3, rfl, H3⟩
  obtain ⟨A3, cc3, rfl, _, S3, _⟩ := H3.slice
  have RA := Lib.hid (H3.bel.row (row_lt ra) ra)
  have RO := Lib.hid (H3.bel.row (row_lt ro) ro)
  have hb := hb.call H3.bel
  have S1 := S1.to H3.bel
  have S2 := S2.to H3.bel
  clear H3 ra ro c0' c1' c2' c3' c4' c5'
  dsimp only at S2 S3
  go_upto_region 6 with fail
  go_cut [77] (fun s wx => s = .bool false ∧ Below X.heap.size X wx)
  case first =>
    have hbd := (Below.refl X.heap.size X).drew
    go_region_held3 (fun w' => Below X.heap.size X w' ∧ w'.cell? ⟨w.heap.size, 0, none⟩ = some (.int .u8 f) ∧ w'.cell? ⟨w.heap.size, 1, none⟩ = some (.int .u16 a) ∧ w'.cell? ⟨w.heap.size, 2, none⟩ = some (.int .u16 m) ∧ w'.cell? ⟨w.heap.size, 3, none⟩ = some (.int .u16 t) ∧ w'.cell? ⟨w.heap.size, 4, none⟩ = some (.slice Aw nw cw) ∧ w'.cell? ⟨w.heap.size, 5, none⟩ = some (.slice Ab nb cb) ∧ w'.cell? ⟨w.heap.size + 1, 0, none⟩ = some (.int .u8 f2) ∧ w'.cell? ⟨w.heap.size + 1, 1, none⟩ = some (.int .u16 a2) ∧ w'.cell? ⟨w.heap.size + 1, 2, none⟩ = some (.int .u16 m2) ∧ w'.cell? ⟨w.heap.size + 1, 3, none⟩ = some (.int .u16 t2) ∧ w'.cell? ⟨w.heap.size + 1, 4, none⟩ = some (.slice Aw2 nw2 cw2) ∧ w'.cell? ⟨w.heap.size + 1, 5, none⟩ = some (.slice Ab2 nb2 cb2))
      (exact keepTwo hbd RA.out RO.out)
      (first
        | (go_at_call 15; refine (KRa.out _).mono ?_; rintro e wt ⟨rfl, bt⟩; have hbd := hbd.call bt)
        | (go_at_call 16; refine (KRr.out _).mono ?_; rintro e wt ⟨rfl, bt⟩; have hbd := hbd.call bt)
        | (go_at_call 17; refine (KQa.out _ (hb.call hbd)).mono ?_; rintro e wt ⟨rfl, bt⟩; have hbd := hbd.call bt)
        | (go_at_call 18; refine (KQr.out _ (hb.call hbd)).mono ?_; rintro e wt ⟨rfl, bt⟩; have hbd := hbd.call bt)
        | (go_at_call 19; refine (lowSame_same _ _ _ _ _ _ _ E _ (S2.to hbd) HE.out (S3.to hbd)).mono ?_; rintro e wt ⟨rfl, rfl⟩)
        | fail)
    all_goals (go_wp2_with fail; go_meet; exact ⟨rfl, hbd⟩)
  case rest =>
    obtain ⟨rfl, hbd⟩ := hcut
    have hb := hb.call hbd
    have S1 := S1.to hbd
    have ra := hbd.row (row_lt RA.out) RA.out
    clear S2 S3 RA RO hbd
    go_wp2_with fail
    refine (KPa.out _ A1 c1 S1 hc1).mono ?_
    rintro e y1 ⟨Aw4, nw4, cw4, Ab4, nb4, cb4, rfl, SW4, SB4, -, -, -, -, b1⟩
    dsimp only at SW4 SB4
    dsimp only
    have r1 := heap_alloc_new y1 (.cells #[.int .u8 (p1 : Nat), .int .u16 (p2 : Nat), .int .u16 (p3 : Nat), .int .u16 (p4 : Nat), .slice Aw4 nw4 cw4, .slice Ab4 nb4 cb4] 26)
    have hb := (hb.call b1).new (.cells #[.int .u8 (p1 : Nat), .int .u16 (p2 : Nat), .int .u16 (p3 : Nat), .int .u16 (p4 : Nat), .slice Aw4 nw4 cw4, .slice Ab4 nb4 cb4] 26)
    have ra := row_alloc (b1.row (row_lt ra) ra) (.cells #[.int .u8 (p1 : Nat), .int .u16 (p2 : Nat), .int .u16 (p3 : Nat), .int .u16 (p4 : Nat), .slice Aw4 nw4 cw4, .slice Ab4 nb4 cb4] 26)
    have S1 := (S1.to b1).to ((Below.refl _ _).new (.cells #[.int .u8 (p1 : Nat), .int .u16 (p2 : Nat), .int .u16 (p3 : Nat), .int .u16 (p4 : Nat), .slice Aw4 nw4 cw4, .slice Ab4 nb4 cb4] 26))
    have SW4 := SW4.to ((Below.refl _ _).new (.cells #[.int .u8 (p1 : Nat), .int .u16 (p2 : Nat), .int .u16 (p3 : Nat), .int .u16 (p4 : Nat), .slice Aw4 nw4 cw4, .slice Ab4 nb4 cb4] 26))
    have SB4 := SB4.to ((Below.refl _ _).new (.cells #[.int .u8 (p1 : Nat), .int .u16 (p2 : Nat), .int .u16 (p3 : Nat), .int .u16 (p4 : Nat), .slice Aw4 nw4 cw4, .slice Ab4 nb4 cb4] 26))
    clear b1
    go_wp2_with fail
    refine (KPr.out _ hb).mono ?_
    rintro e y2 ⟨Aw5, nw5, cw5, Ab5, nb5, cb5, rfl, SW5, SB5, -, -, -, -, b2⟩
    dsimp only at SW5 SB5
    dsimp only
    have r1 := row_alloc (b2.row (row_lt r1) r1) (.cells #[.int .u8 (p1 : Nat), .int .u16 (p2 : Nat), .int .u16 (p3 : Nat), .int .u16 (p4 : Nat), .slice Aw5 nw5 cw5, .slice Ab5 nb5 cb5] 26)
    have SW4 := (SW4.to b2).to ((Below.refl _ _).new (.cells #[.int .u8 (p1 : Nat), .int .u16 (p2 : Nat), .int .u16 (p3 : Nat), .int .u16 (p4 : Nat), .slice Aw5 nw5 cw5, .slice Ab5 nb5 cb5] 26))
    have SB4 := (SB4.to b2).to ((Below.refl _ _).new (.cells #[.int .u8 (p1 : Nat), .int .u16 (p2 : Nat), .int .u16 (p3 : Nat), .int .u16 (p4 : Nat), .slice Aw5 nw5 cw5, .slice Ab5 nb5 cb5] 26))
    have r2 := heap_alloc_new y2 (.cells #[.int .u8 (p1 : Nat), .int .u16 (p2 : Nat), .int .u16 (p3 : Nat), .int .u16 (p4 : Nat), .slice Aw5 nw5 cw5, .slice Ab5 nb5 cb5] 26)
    have hb := (hb.call b2).new (.cells #[.int .u8 (p1 : Nat), .int .u16 (p2 : Nat), .int .u16 (p3 : Nat), .int .u16 (p4 : Nat), .slice Aw5 nw5 cw5, .slice Ab5 nb5 cb5] 26)
    have ra := row_alloc (b2.row (row_lt ra) ra) (.cells #[.int .u8 (p1 : Nat), .int .u16 (p2 : Nat), .int .u16 (p3 : Nat), .int .u16 (p4 : Nat), .slice Aw5 nw5 cw5, .slice Ab5 nb5 cb5] 26)
    have S1 := (S1.to b2).to ((Below.refl _ _).new (.cells #[.int .u8 (p1 : Nat), .int .u16 (p2 : Nat), .int .u16 (p3 : Nat), .int .u16 (p4 : Nat), .slice Aw5 nw5 cw5, .slice Ab5 nb5 cb5] 26))
    have SW5 := SW5.to ((Below.refl _ _).new (.cells #[.int .u8 (p1 : Nat), .int .u16 (p2 : Nat), .int .u16 (p3 : Nat), .int .u16 (p4 : Nat), .slice Aw5 nw5 cw5, .slice Ab5 nb5 cb5] 26))
    have SB5 := SB5.to ((Below.refl _ _).new (.cells #[.int .u8 (p1 : Nat), .int .u16 (p2 : Nat), .int .u16 (p3 : Nat), .int .u16 (p4 : Nat), .slice Aw5 nw5 cw5, .slice Ab5 nb5 cb5] 26))
    clear b2
    go_wp2_with fail
    refine (KLa.out _ A1 c1 S1 hc1).mono ?_
    rintro e y3 ⟨Aw6, nw6, cw6, Ab6, nb6, cb6, rfl, SW6, SB6, -, -, -, -, b3⟩
    dsimp only at SW6 SB6
    dsimp only
    have r1 := row_alloc (b3.row (row_lt r1) r1) (.cells #[.int .u8 (l1 : Nat), .int .u16 (l2 : Nat), .int .u16 (l3 : Nat), .int .u16 (l4 : Nat), .slice Aw6 nw6 cw6, .slice Ab6 nb6 cb6] 26)
    have SW4 := (SW4.to b3).to ((Below.refl _ _).new (.cells #[.int .u8 (l1 : Nat), .int .u16 (l2 : Nat), .int .u16 (l3 : Nat), .int .u16 (l4 : Nat), .slice Aw6 nw6 cw6, .slice Ab6 nb6 cb6] 26))
    have SB4 := (SB4.to b3).to ((Below.refl _ _).new (.cells #[.int .u8 (l1 : Nat), .int .u16 (l2 : Nat), .int .u16 (l3 : Nat), .int .u16 (l4 : Nat), .slice Aw6 nw6 cw6, .slice Ab6 nb6 cb6] 26))
    have r2 := row_alloc (b3.row (row_lt r2) r2) (.cells #[.int .u8 (l1 : Nat), .int .u16 (l2 : Nat), .int .u16 (l3 : Nat), .int .u16 (l4 : Nat), .slice Aw6 nw6 cw6, .slice Ab6 nb6 cb6] 26)
    have SW5 := (SW5.to b3).to ((Below.refl _ _).new (.cells #[.int .u8 (l1 : Nat), .int .u16 (l2 : Nat), .int .u16 (l3 : Nat), .int .u16 (l4 : Nat), .slice Aw6 nw6 cw6, .slice Ab6 nb6 cb6] 26))
    have SB5 := (SB5.to b3).to ((Below.refl _ _).new (.cells #[.int .u8 (l1 : Nat), .int .u16 (l2 : Nat), .int .u16 (l3 : Nat), .int .u16 (l4 : Nat), .slice Aw6 nw6 cw6, .slice Ab6 nb6 cb6] 26))
    have r3 := heap_alloc_new y3 (.cells #[.int .u8 (l1 : Nat), .int .u16 (l2 : Nat), .int .u16 (l3 : Nat), .int .u16 (l4 : Nat), .slice Aw6 nw6 cw6, .slice Ab6 nb6 cb6] 26)
    have hb := (hb.call b3).new (.cells #[.int .u8 (l1 : Nat), .int .u16 (l2 : Nat), .int .u16 (l3 : Nat), .int .u16 (l4 : Nat), .slice Aw6 nw6 cw6, .slice Ab6 nb6 cb6] 26)
    have ra := row_alloc (b3.row (row_lt ra) ra) (.cells #[.int .u8 (l1 : Nat), .int .u16 (l2 : Nat), .int .u16 (l3 : Nat), .int .u16 (l4 : Nat), .slice Aw6 nw6 cw6, .slice Ab6 nb6 cb6] 26)
    have S1 := (S1.to b3).to ((Below.refl _ _).new (.cells #[.int .u8 (l1 : Nat), .int .u16 (l2 : Nat), .int .u16 (l3 : Nat), .int .u16 (l4 : Nat), .slice Aw6 nw6 cw6, .slice Ab6 nb6 cb6] 26))
    have SW6 := SW6.to ((Below.refl _ _).new (.cells #[.int .u8 (l1 : Nat), .int .u16 (l2 : Nat), .int .u16 (l3 : Nat), .int .u16 (l4 : Nat), .slice Aw6 nw6 cw6, .slice Ab6 nb6 cb6] 26))
    have SB6 := SB6.to ((Below.refl _ _).new (.cells #[.int .u8 (l1 : Nat), .int .u16 (l2 : Nat), .int .u16 (l3 : Nat), .int .u16 (l4 : Nat), .slice Aw6 nw6 cw6, .slice Ab6 nb6 cb6] 26))
    clear b3
    go_wp2_with fail
    refine (KLr.out _ hb).mono ?_
    rintro e y4 ⟨Aw7, nw7, cw7, Ab7, nb7, cb7, rfl, SW7, SB7, -, -, -, -, b4⟩
    dsimp only at SW7 SB7
    dsimp only
    have r1 := row_alloc (b4.row (row_lt r1) r1) (.cells #[.int .u8 (l1 : Nat), .int .u16 (l2 : Nat), .int .u16 (l3 : Nat), .int .u16 (l4 : Nat), .slice Aw7 nw7 cw7, .slice Ab7 nb7 cb7] 26)
    have SW4 := (SW4.to b4).to ((Below.refl _ _).new (.cells #[.int .u8 (l1 : Nat), .int .u16 (l2 : Nat), .int .u16 (l3 : Nat), .int .u16 (l4 : Nat), .slice Aw7 nw7 cw7, .slice Ab7 nb7 cb7] 26))
    have SB4 := (SB4.to b4).to ((Below.refl _ _).new (.cells #[.int .u8 (l1 : Nat), .int .u16 (l2 : Nat), .int .u16 (l3 : Nat), .int .u16 (l4 : Nat), .slice Aw7 nw7 cw7, .slice Ab7 nb7 cb7] 26))
    have r2 := row_alloc (b4.row (row_lt r2) r2) (.cells #[.int .u8 (l1 : Nat), .int .u16 (l2 : Nat), .int .u16 (l3 : Nat), .int .u16 (l4 : Nat), .slice Aw7 nw7 cw7, .slice Ab7 nb7 cb7] 26)
    have SW5 := (SW5.to b4).to ((Below.refl _ _).new (.cells #[.int .u8 (l1 : Nat), .int .u16 (l2 : Nat), .int .u16 (l3 : Nat), .int .u16 (l4 : Nat), .slice Aw7 nw7 cw7, .slice Ab7 nb7 cb7] 26))
    have SB5 := (SB5.to b4).to ((Below.refl _ _).new (.cells #[.int .u8 (l1 : Nat), .int .u16 (l2 : Nat), .int .u16 (l3 : Nat), .int .u16 (l4 : Nat), .slice Aw7 nw7 cw7, .slice Ab7 nb7 cb7] 26))
    have r3 := row_alloc (b4.row (row_lt r3) r3) (.cells #[.int .u8 (l1 : Nat), .int .u16 (l2 : Nat), .int .u16 (l3 : Nat), .int .u16 (l4 : Nat), .slice Aw7 nw7 cw7, .slice Ab7 nb7 cb7] 26)
    have SW6 := (SW6.to b4).to ((Below.refl _ _).new (.cells #[.int .u8 (l1 : Nat), .int .u16 (l2 : Nat), .int .u16 (l3 : Nat), .int .u16 (l4 : Nat), .slice Aw7 nw7 cw7, .slice Ab7 nb7 cb7] 26))
    have SB6 := (SB6.to b4).to ((Below.refl _ _).new (.cells #[.int .u8 (l1 : Nat), .int .u16 (l2 : Nat), .int .u16 (l3 : Nat), .int .u16 (l4 : Nat), .slice Aw7 nw7 cw7, .slice Ab7 nb7 cb7] 26))
    have r4 := heap_alloc_new y4 (.cells #[.int .u8 (l1 : Nat), .int .u16 (l2 : Nat), .int .u16 (l3 : Nat), .int .u16 (l4 : Nat), .slice Aw7 nw7 cw7, .slice Ab7 nb7 cb7] 26)
    have hb := (hb.call b4).new (.cells #[.int .u8 (l1 : Nat), .int .u16 (l2 : Nat), .int .u16 (l3 : Nat), .int .u16 (l4 : Nat), .slice Aw7 nw7 cw7, .slice Ab7 nb7 cb7] 26)
    have ra := row_alloc (b4.row (row_lt ra) ra) (.cells #[.int .u8 (l1 : Nat), .int .u16 (l2 : Nat), .int .u16 (l3 : Nat), .int .u16 (l4 : Nat), .slice Aw7 nw7 cw7, .slice Ab7 nb7 cb7] 26)
    have S1 := (S1.to b4).to ((Below.refl _ _).new (.cells #[.int .u8 (l1 : Nat), .int .u16 (l2 : Nat), .int .u16 (l3 : Nat), .int .u16 (l4 : Nat), .slice Aw7 nw7 cw7, .slice Ab7 nb7 cb7] 26))
    have SW7 := SW7.to ((Below.refl _ _).new (.cells #[.int .u8 (l1 : Nat), .int .u16 (l2 : Nat), .int .u16 (l3 : Nat), .int .u16 (l4 : Nat), .slice Aw7 nw7 cw7, .slice Ab7 nb7 cb7] 26))
    have SB7 := SB7.to ((Below.refl _ _).new (.cells #[.int .u8 (l1 : Nat), .int .u16 (l2 : Nat), .int .u16 (l3 : Nat), .int .u16 (l4 : Nat), .slice Aw7 nw7 cw7, .slice Ab7 nb7 cb7] 26))
    clear b4
    obtain ⟨Y, hY⟩ : ∃ Y, Y = (y4.alloc (.cells #[.int .u8 (l1 : Nat), .int .u16 (l2 : Nat), .int .u16 (l3 : Nat), .int .u16 (l4 : Nat), .slice Aw7 nw7 cw7, .slice Ab7 nb7 cb7] 26)) := ⟨_, rfl⟩
    go_upto_region 12 with fail
    rw [← hY] at r1 r2 r3 r4 hb ra S1 SW4 SB4 SW5 SB5 SW6 SB6 SW7 SB7 ⊢
    clear hY
    obtain ⟨g1, eg1⟩ : ∃ g, g = y1.heap.size := ⟨_, rfl⟩
    obtain ⟨g2, eg2⟩ : ∃ g, g = y2.heap.size := ⟨_, rfl⟩
    obtain ⟨g3, eg3⟩ : ∃ g, g = y3.heap.size := ⟨_, rfl⟩
    obtain ⟨g4, eg4⟩ : ∃ g, g = y4.heap.size := ⟨_, rfl⟩
    rw [← eg1] at r1 ⊢
    rw [← eg2] at r2 ⊢
    rw [← eg3] at r3 ⊢
    rw [← eg4] at r4 ⊢
    clear eg1 eg2 eg3 eg4
    obtain ⟨a0, a1', a2', a3, a4, a5⟩ := row6 r1
    obtain ⟨d0, d1, d2, d3, d4, d5⟩ := row6 r2
    go_wp2_with fail
    refine (refSame_same _ _ _ _ _ _ _ _ _ _ _ _ _ _ _ _ _ _ _ SW4 SB4 SW5 SB5 HPS.out.1 HPS.out.2).mono ?_
    rintro e Y2 ⟨rfl, bY⟩
    obtain ⟨a0, a1', a2', a3, a4, a5⟩ := row6 (bY.row (row_lt r3) r3)
    obtain ⟨d0, d1, d2, d3, d4, d5⟩ := row6 (bY.row (row_lt r4) r4)
    have ra := bY.row (row_lt ra) ra
    have hb := hb.call bY
    have S1 := S1.to bY
    have SW6 := SW6.to bY
    have SB6 := SB6.to bY
    have SW7 := SW7.to bY
    have SB7 := SB7.to bY
    clear SW4 SB4 SW5 SB5 r1 r2 r3 r4 bY
    go_wp2_with fail
    refine (refSame_same _ _ _ _ _ _ _ _ _ _ _ _ _ _ _ _ _ _ _ SW6 SB6 SW7 SB7 HLS.out.1 HLS.out.2).mono ?_
    rintro e X2 ⟨rfl, bY⟩
    have RA := Lib.hid (bY.row (row_lt ra) ra)
    have hb := hb.call bY
    have S1 := S1.to bY
    clear SW6 SB6 SW7 SB7 bY ra a0 a1' a2' a3 a4 a5 d0 d1 d2 d3 d4 d5
    go_wp2_with fail
    have hbd := (Below.refl X2.heap.size X2).drew
    go_region_held3 (fun w' => Below X2.heap.size X2 w' ∧ w'.cell? ⟨w.heap.size, 5, none⟩ = some (.slice Ab nb cb))
      (exact ⟨hbd, (row6 (hbd.row (row_lt RA.out) RA.out)).2.2.2.2.2⟩)
      (first
        | (go_at_call 24; refine (KK0.out _ (hb.call hbd)).mono ?_; rintro e wt ⟨vp, rfl, HP⟩; obtain ⟨Ap, cp, rfl, -, SP, -⟩ := HP.slice; have hbd := hbd.call HP.bel; first | (have SR := SR.to HP.bel; clear HP) | (clear HP))
        | (go_at_call 25; refine (KK1.out _ (hb.call hbd)).mono ?_; rintro e wt ⟨vr, rfl, HR⟩; obtain ⟨Ar, cr, rfl, -, SR, -⟩ := HR.slice; have hbd := hbd.call HR.bel; first | (have SP := SP.to HR.bel; clear HR) | (clear HR))
        | (go_at_call 19; (with_reducible refine (lowSame_same _ _ _ _ _ _ _ (pack B) _ SP HK.out SR).mono ?_); rintro e wt ⟨rfl, rfl⟩)
        | (go_at_call 27; refine (KU0.out _ _ _ (S1.to hbd)).mono ?_; rintro e wt ⟨vu, rfl, HU⟩; obtain ⟨Au, cu, rfl, -, SU, -⟩ := HU.slice; have hbd := hbd.call HU.bel; first | (have SV := SV.to HU.bel; clear HU) | (clear HU))
        | (go_at_call 28; refine (KU1.out _ (hb.call hbd)).mono ?_; rintro e wt ⟨vv, rfl, HV⟩; obtain ⟨Av, cv, rfl, -, SV, -⟩ := HV.slice; have hbd := hbd.call HV.bel; first | (have SU := SU.to HV.bel; clear HV) | (clear HV))
        | (go_at_call 26; refine (lowBits_same _ _ _ _ _ _ _ _ SU SV (by omega) (by omega)).mono ?_; rintro e wt ⟨rfl, bt⟩; have hbd := hbd.call bt; clear SU SV SP SR)
        | (go_at_call 19; (with_reducible refine (lowSame_same _ _ _ _ _ _ _ xs _ (S1.to hbd) HX.out (HS.out.to (hb.call hbd))).mono ?_); rintro e wt ⟨rfl, rfl⟩)
        | (go_at_call 12; refine (awake_any _).mono ?_; rintro e wt ⟨rfl, bt⟩; have hbd := hbd.call bt)
        | fail)
    all_goals (
      go_wp2_with fail
      go_ret
      exact ⟨rfl, hb.call hbd⟩)
end Go.Proofs.Ytcinnjihghpngaa.AskW
