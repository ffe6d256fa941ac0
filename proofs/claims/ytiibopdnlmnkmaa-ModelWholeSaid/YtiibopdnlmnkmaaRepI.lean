/- The walk of reply.Parse. -/
import Derived.Test.YtiibopdnlmnkmaaAG6
import Derived.Test.YtiibopdnlmnkmaaRepH
set_option linter.unusedVariables false
set_option linter.unusedSimpArgs false
namespace Go.Proofs.Ytiibopdnlmnkmaa.AskW
open Go.RowKit Go.Proofs.Ytiibopdnlmnkmaa Go.Proofs.Ytiibopdnlmnkmaa.Ask
/-- A reply and a number beside it are handed back. -/
def RetRepTag (w : World) (r : Rep) (k : IntKind) (n : Int) (e : Ending) (w' : World) : Prop := ∃ Ab nb cb Aw nw cw, e = .returned (.tuple #[.agg #[.int .u8 (r.f : Nat), .int .u8 (r.x : Nat), .slice Ab nb cb, .slice Aw nw cw, .int .u16 (r.at' : Nat), .int .u16 (r.many : Nat)], .int k n]) ∧
  Sl w' w'.heap.size Ab nb (bl r.bits) ∧ Sl w' w'.heap.size Aw nw (ws r.words) ∧ nb ≤ cb ∧ nw ≤ cw ∧ (∀ b o, Ab = some (⟨b, o, none⟩ : Addr) → w.heap.size ≤ b) ∧ (∀ b o, Aw = some (⟨b, o, none⟩ : Addr) → w.heap.size ≤ b) ∧ Below w.heap.size w w'
theorem RetRepTag.bare {w w' : World} (k : IntKind) (n : Int) (h : Below w.heap.size w w') : RetRepTag w rep0 k n (.returned (.tuple #[.agg #[.int .u8 0, .int .u8 0, .slice none 0 0, .slice none 0 0, .int .u16 0, .int .u16 0], .int k n])) w' :=
  ⟨none, 0, 0, none, 0, 0, rfl, Sl.empty _ _ _, Sl.empty _ _ _, Nat.le_refl _, Nat.le_refl _, (fun _ _ h => by cases h), (fun _ _ h => by cases h), h⟩
theorem read_small (k : Kd) (xs : List Nat) (h : xs.length ≤ 300) : (k.read xs).bits.length ≤ 3000 ∧ (k.read xs).words.length ≤ 3000 := by
  cases k <;> simp [Kd.read, unpack_length, pairs_len] <;> omega
theorem read_wf (k : Kd) {xs : List Nat} (h : Bytes xs) : (k.read xs).Wf := by
  have h0 := h.at 0
  have h1 := h.at 1
  have a1 := atF_lt h 1
  have a3 := atF_lt h 3
  cases k
  all_goals refine ⟨?_, ?_, ?_, ?_, ?_⟩ <;> dsimp only [Kd.read]
  all_goals first | omega | exact h0 | exact h1 | exact a1 | exact a3 | exact pairs_lt (h.drop _) | (intro y hy; cases hy; done) | (intro y hy; simp at hy; omega) | decide
theorem kbytes_lt (k : Kd) (r : Rep) (h : r.Wf) : Bytes (k.bytes r) := by
  have hf := h.f
  cases k
  · exact Bytes.app (l := [_]) (Bytes.one (by omega)) (Bytes.one h.x)
  · exact Bytes.app (l := [_, _]) (Bytes.app (l := [_]) (Bytes.one hf) (Bytes.one (by omega))) (pack_bytes _)
  · exact Bytes.app (l := [_, _]) (Bytes.app (l := [_]) (Bytes.one hf) (Bytes.one (by omega))) (twos_lt h.words)
  · refine Bytes.app (l := [_]) (Bytes.one hf) (Bytes.app (two_lt h.at') (two_lt ?_))
    split <;> decide
  · refine Bytes.app (l := [_]) (Bytes.one hf) (Bytes.app (two_lt h.at') (two_lt ?_))
    cases hw : r.words with
    | nil => decide
    | cons y l => exact h.words y (by rw [hw]; simp)
  · exact Bytes.app (l := [_]) (Bytes.one hf) (Bytes.app (two_lt h.at') (two_lt h.many))
set_option maxRecDepth 100000 in
set_option maxHeartbeats 32000000 in
theorem repParse_any (A : Option Addr) (n c : Nat) (xs : List Nat) (w : World) (hs : Sl w w.heap.size A n (bs xs)) (hx : Bytes xs) (hn2 : n ≤ 300) (hc : n ≤ c) :
    Calls Try.prog 20 #[.slice A n c] w (RetRepTag w (rparse xs).1 .i64 (rparse xs).2) := by
  have q1 : xs.length = n := by simpa using hs.len
  obtain ⟨P, hP⟩ : ∃ P, P = rparse xs := ⟨_, rfl⟩
  rw [← hP]
  by_cases h0 : n = 0
  · have HP := Lib.hid (show P = (rep0, 13) from by rw [hP]; unfold rparse; rw [if_pos (by omega)])
    have z0 : ((n : Int) == 0) = true := by rw [beq_iff_eq]; omega
    have rz := heap_alloc_new w (.cells #[.int .u8 0, .int .u8 0, .slice none 0 0, .slice none 0 0, .int .u16 0, .int .u16 0] 36)
    have hb := (Below.refl _ w).new (.cells #[.int .u8 0, .int .u8 0, .slice none 0 0, .slice none 0 0, .int .u16 0, .int .u16 0] 36)
    clear h0 hP q1 hs hx hn2 hc
    go_enter Try.func20, Try.ntmps20
    go_wp2_with (refine wpList_store_grown rfl 36 (.tmp 2) _ rfl w.heap.size #[.int .u8 0, .int .u8 0, .slice none 0 0, .slice none 0 0, .int .u16 0, .int .u16 0] rfl rfl 36 _ rz (by kernel_rfl) rfl (by simp [Value.oneCell']) ?_; intro w9 h9 g9 s9)
    refine bodyPost_row_tmp rfl w.heap.size 36 #[.int .u8 0, .int .u8 0, .slice none 0 0, .slice none 0 0, .int .u16 0, .int .u16 0] (0, 0) _ (.int .i64 13) rfl h9 Try.underlying36 rfl (by kernel_rfl) rfl rfl ?_
    rw [HP.out]
    exact RetRepTag.bare _ _ (hb.grown g9 hb.size (fun k hk => by injection hk with hk; omega))
  have z0 : ((n : Int) == 0) = false := by rw [beq_eq_false_iff_ne]; omega
  by_cases h1 : (253 : Int) < n
  · have HP := Lib.hid (show P = (rep0, 13) from by rw [hP]; unfold rparse; rw [if_pos (by omega)])
    have rz := heap_alloc_new w (.cells #[.int .u8 0, .int .u8 0, .slice none 0 0, .slice none 0 0, .int .u16 0, .int .u16 0] 36)
    have hb := (Below.refl _ w).new (.cells #[.int .u8 0, .int .u8 0, .slice none 0 0, .slice none 0 0, .int .u16 0, .int .u16 0] 36)
    clear h0 hP q1 hs hx hn2 hc
    go_enter Try.func20, Try.ntmps20
    go_wp2_with (refine wpList_store_grown rfl 36 (.tmp 2) _ rfl w.heap.size #[.int .u8 0, .int .u8 0, .slice none 0 0, .slice none 0 0, .int .u16 0, .int .u16 0] rfl rfl 36 _ rz (by kernel_rfl) rfl (by simp [Value.oneCell']) ?_; intro w9 h9 g9 s9)
    refine bodyPost_row_tmp rfl w.heap.size 36 #[.int .u8 0, .int .u8 0, .slice none 0 0, .slice none 0 0, .int .u16 0, .int .u16 0] (0, 0) _ (.int .i64 13) rfl h9 Try.underlying36 rfl (by kernel_rfl) rfl rfl ?_
    rw [HP.out]
    exact RetRepTag.bare _ _ (hb.grown g9 hb.size (fun k hk => by injection hk with hk; omega))
  have h1b : decide ((253 : Int) < n) = false := decide_eq_false h1
  have HP0 : P = match kdBy (xs[0]?.getD 0) with
    | none => (rep0, 13)
    | some k => if k.right (k.read xs) && k.bytes (k.read xs) == xs then (k.read xs, 0) else (rep0, 13) := by
    rw [hP]; unfold rparse; rw [if_neg (by omega)]; cases kdBy (xs[0]?.getD 0) <;> rfl
  have KR0 := fun (k : Kd) => read_small k xs (by omega)
  have KW0 := fun (k : Kd) => read_wf k hx
  obtain ⟨f, ef⟩ : ∃ f, f = xs[0]?.getD 0 := ⟨_, rfl⟩
  have hn1 : 1 ≤ n := by omega
  obtain ⟨b, o, rfl, hbl, d1⟩ := hs.2 (by omega)
  have g1 : w.cell? ⟨b, o, none⟩ = some (.int .u8 (f : Nat)) := (d1 0 (by omega)).trans (by rw [bs_get (by omega), ← ef])
  have KB0 := fun X => kindBy_any f X
  rw [← ef] at HP0
  have z1 : (0 : Int) < (n : Int) := by omega
  have z1n : 0 < n := by omega
  have HS := Lib.hid hs
  have HX := Lib.hid hx
  have rz := heap_alloc_new w (.cells #[.int .u8 0, .int .u8 0, .slice none 0 0, .slice none 0 0, .int .u16 0, .int .u16 0] 36)
  have hb := (Below.refl _ w).new (.cells #[.int .u8 0, .int .u8 0, .slice none 0 0, .slice none 0 0, .int .u16 0, .int .u16 0] 36)
  clear hP d1 ef h0
  cases hk : kdBy f with
  | none =>
    rw [hk] at KB0 HP0
    have KB := Lib.hid KB0
    have HP := Lib.hid HP0
    clear KB0 HP0 hk KR0 KW0 q1 hs hx
    go_enter Try.func20, Try.ntmps20
    go_wp2_with fail
    refine (KB.out _).mono ?_
    rintro e w1 ⟨rfl, rfl⟩
    dsimp only [kvO, Option.isSome]
    go_wp2_with (refine wpList_store_grown rfl 36 (.tmp 2) _ rfl w.heap.size #[.int .u8 0, .int .u8 0, .slice none 0 0, .slice none 0 0, .int .u16 0, .int .u16 0] rfl rfl 36 _ rz (by kernel_rfl) rfl (by simp [Value.oneCell']) ?_; intro w9 h9 g9 s9)
    refine bodyPost_row_tmp rfl w.heap.size 36 #[.int .u8 0, .int .u8 0, .slice none 0 0, .slice none 0 0, .int .u16 0, .int .u16 0] (0, 0) _ (.int .i64 13) rfl h9 Try.underlying36 rfl (by kernel_rfl) rfl rfl ?_
    rw [HP.out]
    exact RetRepTag.bare _ _ (hb.grown g9 hb.size (fun k hk => by injection hk with hk; omega))
  | some k =>
    rw [hk] at KB0 HP0
    dsimp only at HP0
    have KB := Lib.hid KB0
    have hsm := KR0 k
    have hwf := KW0 k
    clear KB0 hk KR0 KW0
    cases k with
    | exc =>
      have KRd0 := fun X (bb : Below w.heap.size w X) => kread_exc (some ⟨b, o, none⟩) n c xs X (hs.to bb) hx hn1 hn2 hc
      have hm1 := m_exc_read
      have hm2 := m_exc_right
      have hm3 := m_exc_bytes
      obtain ⟨r, er⟩ : ∃ r, r = Kd.read Kd.exc xs := ⟨_, rfl⟩
      rw [← er] at HP0 hsm hwf KRd0
      obtain ⟨y1, y2, y3, y4, y5, y6⟩ := r
      dsimp only at hsm
      have KRd := Lib.hid KRd0
      have KM0 := fun X Ab nb cb Aw nw cw (h1 : Sl X X.heap.size Ab nb (bl y3)) (h2 : Sl X X.heap.size Aw nw (ws y4)) => right_exc y1 y2 Ab nb cb Aw nw cw y5 y6 y3 y4 X h1 h2 (by have := h1.len; simp at this; omega) (by have := h2.len; simp at this; omega)
      clear er KRd0 hs
      cases hr : Kd.right Kd.exc ⟨y1, y2, y3, y4, y5, y6⟩ with
      | false =>
        rw [hr] at KM0 HP0
        have KM := Lib.hid KM0
        have HP := Lib.hid HP0
        clear KM0 HP0 hr hsm hwf q1 hx
        go_enter Try.func20, Try.ntmps20
        go_wp2_with fail
        refine (KB.out _).mono ?_
        rintro e w1 ⟨rfl, rfl⟩
        dsimp only [kvO, kv, Option.isSome]
        go_wp2_with (first
          | (go_at_call 88; refine (KRd.out _ hb).mono ?_; rintro e w2 ⟨Ab, nb, cb, Aw, nw, cw, rfl, SB, SW, kb, kw, oB, oW, b2⟩; dsimp only at SB SW; have rz := row_alloc (b2.row (by simp) rz) (.cells #[.int .u8 (y1 : Nat), .int .u8 (y2 : Nat), .slice Ab nb cb, .slice Aw nw cw, .int .u16 (y5 : Nat), .int .u16 (y6 : Nat)] 36); have rq := heap_alloc_new w2 (.cells #[.int .u8 (y1 : Nat), .int .u8 (y2 : Nat), .slice Ab nb cb, .slice Aw nw cw, .int .u16 (y5 : Nat), .int .u16 (y6 : Nat)] 36); have hb := (hb.call b2).new (.cells #[.int .u8 (y1 : Nat), .int .u8 (y2 : Nat), .slice Ab nb cb, .slice Aw nw cw, .int .u16 (y5 : Nat), .int .u16 (y6 : Nat)] 36); have SB := SB.to ((Below.refl _ w2).new (.cells #[.int .u8 (y1 : Nat), .int .u8 (y2 : Nat), .slice Ab nb cb, .slice Aw nw cw, .int .u16 (y5 : Nat), .int .u16 (y6 : Nat)] 36)); have SW := SW.to ((Below.refl _ w2).new (.cells #[.int .u8 (y1 : Nat), .int .u8 (y2 : Nat), .slice Ab nb cb, .slice Aw nw cw, .int .u16 (y5 : Nat), .int .u16 (y6 : Nat)] 36)); have hl2 := b2.size; simp at hl2; clear b2)
          | (go_at_call 89; refine (KM.out _ _ _ _ _ _ _ SB SW).mono ?_; rintro e w3 ⟨rfl, b3⟩; have rz := b3.row (row_lt rz) rz; have rq := b3.row (row_lt rq) rq; have hb := hb.call b3; have SB := SB.to b3; have SW := SW.to b3; obtain ⟨c0, c1, c2, c3, c4, c5⟩ := row6 rq; clear b3)
          | (refine wpList_store_grown rfl 36 (.tmp 2) _ rfl w.heap.size #[.int .u8 0, .int .u8 0, .slice none 0 0, .slice none 0 0, .int .u16 0, .int .u16 0] rfl rfl 36 _ rz (by kernel_rfl) rfl (by simp [Value.oneCell']) ?_; intro w9 h9 g9 s9))
        refine bodyPost_row_tmp rfl w.heap.size 36 #[.int .u8 0, .int .u8 0, .slice none 0 0, .slice none 0 0, .int .u16 0, .int .u16 0] (0, 0) _ (.int .i64 13) rfl h9 Try.underlying36 rfl (by kernel_rfl) rfl rfl ?_
        rw [HP.out]
        exact RetRepTag.bare _ _ (hb.grown g9 hb.size (fun k hk => by injection hk with hk; omega))
      | true =>
        rw [hr] at KM0 HP0
        have KM := Lib.hid KM0
        have KBy := Lib.hid (fun X Ab nb cb Aw nw cw (h1 : Sl X X.heap.size Ab nb (bl y3)) (h2 : Sl X X.heap.size Aw nw (ws y4)) => kbytes_exc y1 y2 Ab nb cb Aw nw cw y5 y6 y3 y4 X h1 h2 hwf )
        have hby := kbytes_lt Kd.exc _ hwf
        obtain ⟨Q, hQ⟩ : ∃ Q, Q = (Kd.bytes Kd.exc ⟨y1, y2, y3, y4, y5, y6⟩ == xs) := ⟨_, rfl⟩
        have KE0 := fun X A1 n1 c1 (h1 : Sl X X.heap.size A1 n1 (bs (Kd.bytes Kd.exc ⟨y1, y2, y3, y4, y5, y6⟩))) (h2 : Sl X X.heap.size (some ⟨b, o, none⟩) n (bs xs)) => bytesEqual_any A1 (some ⟨b, o, none⟩) n1 c1 n c X.heap.size _ xs X h1 hby h2 HX.out
        rw [← hQ] at KE0 HP0
        have KE := Lib.hid KE0
        have HP := Lib.hid HP0
        clear KM0 HP0 KE0 hr hsm hwf q1 hby hQ hx
        cases Q
        case false =>
          go_enter Try.func20, Try.ntmps20
          go_wp2_with fail
          refine (KB.out _).mono ?_
          rintro e w1 ⟨rfl, rfl⟩
          dsimp only [kvO, kv, Option.isSome]
          go_wp2_with (first
            | (go_at_call 88; refine (KRd.out _ hb).mono ?_; rintro e w2 ⟨Ab, nb, cb, Aw, nw, cw, rfl, SB, SW, kb, kw, oB, oW, b2⟩; dsimp only at SB SW; have rz := row_alloc (b2.row (by simp) rz) (.cells #[.int .u8 (y1 : Nat), .int .u8 (y2 : Nat), .slice Ab nb cb, .slice Aw nw cw, .int .u16 (y5 : Nat), .int .u16 (y6 : Nat)] 36); have rq := heap_alloc_new w2 (.cells #[.int .u8 (y1 : Nat), .int .u8 (y2 : Nat), .slice Ab nb cb, .slice Aw nw cw, .int .u16 (y5 : Nat), .int .u16 (y6 : Nat)] 36); have hb := (hb.call b2).new (.cells #[.int .u8 (y1 : Nat), .int .u8 (y2 : Nat), .slice Ab nb cb, .slice Aw nw cw, .int .u16 (y5 : Nat), .int .u16 (y6 : Nat)] 36); have SB := SB.to ((Below.refl _ w2).new (.cells #[.int .u8 (y1 : Nat), .int .u8 (y2 : Nat), .slice Ab nb cb, .slice Aw nw cw, .int .u16 (y5 : Nat), .int .u16 (y6 : Nat)] 36)); have SW := SW.to ((Below.refl _ w2).new (.cells #[.int .u8 (y1 : Nat), .int .u8 (y2 : Nat), .slice Ab nb cb, .slice Aw nw cw, .int .u16 (y5 : Nat), .int .u16 (y6 : Nat)] 36)); have hl2 := b2.size; simp at hl2; clear b2)
            | (go_at_call 89; refine (KM.out _ _ _ _ _ _ _ SB SW).mono ?_; rintro e w3 ⟨rfl, b3⟩; have rz := b3.row (row_lt rz) rz; have rq := b3.row (row_lt rq) rq; have hb := hb.call b3; have SB := SB.to b3; have SW := SW.to b3; obtain ⟨c0, c1, c2, c3, c4, c5⟩ := row6 rq; clear b3)
            | (go_at_call 87; refine (KBy.out _ _ _ _ _ _ _ SB SW).mono ?_; rintro e w4 ⟨v, rfl, H⟩; obtain ⟨Av, cv, rfl, hcv, SV, _⟩ := H.slice; have rz := H.bel.row (row_lt rz) rz; have rq := H.bel.row (row_lt rq) rq; have hb := hb.call H.bel; have SB := SB.to H.bel; have SW := SW.to H.bel; clear H)
            | (go_at_call 41; refine (KE.out _ _ _ _ SV (HS.out.to hb)).mono ?_; rintro e w5 ⟨rfl, rfl⟩)
            | (refine wpList_store_grown rfl 36 (.tmp 2) _ rfl w.heap.size #[.int .u8 0, .int .u8 0, .slice none 0 0, .slice none 0 0, .int .u16 0, .int .u16 0] rfl rfl 36 _ rz (by kernel_rfl) rfl (by simp [Value.oneCell']) ?_; intro w9 h9 g9 s9))
          refine bodyPost_row_tmp rfl w.heap.size 36 #[.int .u8 0, .int .u8 0, .slice none 0 0, .slice none 0 0, .int .u16 0, .int .u16 0] (0, 0) _ (.int .i64 13) rfl h9 Try.underlying36 rfl (by kernel_rfl) rfl rfl ?_
          rw [HP.out]
          exact RetRepTag.bare _ _ (hb.grown g9 hb.size (fun k hk => by injection hk with hk; omega))
        case true =>
          go_enter Try.func20, Try.ntmps20
          go_wp2_with fail
          refine (KB.out _).mono ?_
          rintro e w1 ⟨rfl, rfl⟩
          dsimp only [kvO, kv, Option.isSome]
          go_wp2_with (first
            | (go_at_call 88; refine (KRd.out _ hb).mono ?_; rintro e w2 ⟨Ab, nb, cb, Aw, nw, cw, rfl, SB, SW, kb, kw, oB, oW, b2⟩; dsimp only at SB SW; have rz := row_alloc (b2.row (by simp) rz) (.cells #[.int .u8 (y1 : Nat), .int .u8 (y2 : Nat), .slice Ab nb cb, .slice Aw nw cw, .int .u16 (y5 : Nat), .int .u16 (y6 : Nat)] 36); have rq := heap_alloc_new w2 (.cells #[.int .u8 (y1 : Nat), .int .u8 (y2 : Nat), .slice Ab nb cb, .slice Aw nw cw, .int .u16 (y5 : Nat), .int .u16 (y6 : Nat)] 36); have hb := (hb.call b2).new (.cells #[.int .u8 (y1 : Nat), .int .u8 (y2 : Nat), .slice Ab nb cb, .slice Aw nw cw, .int .u16 (y5 : Nat), .int .u16 (y6 : Nat)] 36); have SB := SB.to ((Below.refl _ w2).new (.cells #[.int .u8 (y1 : Nat), .int .u8 (y2 : Nat), .slice Ab nb cb, .slice Aw nw cw, .int .u16 (y5 : Nat), .int .u16 (y6 : Nat)] 36)); have SW := SW.to ((Below.refl _ w2).new (.cells #[.int .u8 (y1 : Nat), .int .u8 (y2 : Nat), .slice Ab nb cb, .slice Aw nw cw, .int .u16 (y5 : Nat), .int .u16 (y6 : Nat)] 36)); have hl2 := b2.size; simp at hl2; clear b2)
            | (go_at_call 89; refine (KM.out _ _ _ _ _ _ _ SB SW).mono ?_; rintro e w3 ⟨rfl, b3⟩; have rz := b3.row (row_lt rz) rz; have rq := b3.row (row_lt rq) rq; have hb := hb.call b3; have SB := SB.to b3; have SW := SW.to b3; obtain ⟨c0, c1, c2, c3, c4, c5⟩ := row6 rq; clear b3)
            | (go_at_call 87; refine (KBy.out _ _ _ _ _ _ _ SB SW).mono ?_; rintro e w4 ⟨v, rfl, H⟩; obtain ⟨Av, cv, rfl, hcv, SV, _⟩ := H.slice; have rz := H.bel.row (row_lt rz) rz; have rq := H.bel.row (row_lt rq) rq; have hb := hb.call H.bel; have SB := SB.to H.bel; have SW := SW.to H.bel; clear H)
            | (go_at_call 41; refine (KE.out _ _ _ _ SV (HS.out.to hb)).mono ?_; rintro e w5 ⟨rfl, rfl⟩)
            | (refine wpList_load_row rfl 36 (.tmp 6) rfl w2.heap.size rfl 36 #[.int .u8 (y1 : Nat), .int .u8 (y2 : Nat), .slice Ab nb cb, .slice Aw nw cw, .int .u16 (y5 : Nat), .int .u16 (y6 : Nat)] (0, 0) _ rq Try.underlying36 rfl (by kernel_rfl) ?_)
            | (refine wpList_store_grown rfl 36 (.tmp 2) _ rfl w.heap.size #[.int .u8 (y1 : Nat), .int .u8 (y2 : Nat), .slice Ab nb cb, .slice Aw nw cw, .int .u16 (y5 : Nat), .int .u16 (y6 : Nat)] rfl rfl 36 _ rz (by kernel_rfl) rfl (by simp [Value.oneCell']) ?_; intro w9 h9 g9 s9))
          refine bodyPost_row_tmp rfl w.heap.size 36 #[.int .u8 (y1 : Nat), .int .u8 (y2 : Nat), .slice Ab nb cb, .slice Aw nw cw, .int .u16 (y5 : Nat), .int .u16 (y6 : Nat)] (0, 0) _ (.int .i64 0) rfl h9 Try.underlying36 rfl (by kernel_rfl) rfl rfl ?_
          rw [HP.out]
          exact ⟨Ab, nb, cb, Aw, nw, cw, rfl, SB.grown g9 (fun b o h e => by have := oB b o h; simp at this; injection e with e; omega), SW.grown g9 (fun b o h e => by have := oW b o h; simp at this; injection e with e; omega), kb, kw, (fun b o h => by have := oB b o h; simp at this; omega), (fun b o h => by have := oW b o h; simp at this; omega), hb.grown g9 hb.size (fun k hk => by injection hk with hk; omega)⟩
    | bitsR =>
      have KRd0 := fun X (bb : Below w.heap.size w X) => kread_bitsR (some ⟨b, o, none⟩) n c xs X (hs.to bb) hx hn1 hn2 hc
      have hm1 := m_bitsR_read
      have hm2 := m_bitsR_right
      have hm3 := m_bitsR_bytes
      obtain ⟨r, er⟩ : ∃ r, r = Kd.read Kd.bitsR xs := ⟨_, rfl⟩
      rw [← er] at HP0 hsm hwf KRd0
      obtain ⟨y1, y2, y3, y4, y5, y6⟩ := r
      dsimp only at hsm
      have KRd := Lib.hid KRd0
      have KM0 := fun X Ab nb cb Aw nw cw (h1 : Sl X X.heap.size Ab nb (bl y3)) (h2 : Sl X X.heap.size Aw nw (ws y4)) => right_bitsR y1 y2 Ab nb cb Aw nw cw y5 y6 y3 y4 X h1 h2 (by have := h1.len; simp at this; omega) (by have := h2.len; simp at this; omega)
      clear er KRd0 hs
      cases hr : Kd.right Kd.bitsR ⟨y1, y2, y3, y4, y5, y6⟩ with
      | false =>
        rw [hr] at KM0 HP0
        have KM := Lib.hid KM0
        have HP := Lib.hid HP0
        clear KM0 HP0 hr hsm hwf q1 hx
        go_enter Try.func20, Try.ntmps20
        go_wp2_with fail
        refine (KB.out _).mono ?_
        rintro e w1 ⟨rfl, rfl⟩
        dsimp only [kvO, kv, Option.isSome]
        go_wp2_with (first
          | (go_at_call 91; refine (KRd.out _ hb).mono ?_; rintro e w2 ⟨Ab, nb, cb, Aw, nw, cw, rfl, SB, SW, kb, kw, oB, oW, b2⟩; dsimp only at SB SW; have rz := row_alloc (b2.row (by simp) rz) (.cells #[.int .u8 (y1 : Nat), .int .u8 (y2 : Nat), .slice Ab nb cb, .slice Aw nw cw, .int .u16 (y5 : Nat), .int .u16 (y6 : Nat)] 36); have rq := heap_alloc_new w2 (.cells #[.int .u8 (y1 : Nat), .int .u8 (y2 : Nat), .slice Ab nb cb, .slice Aw nw cw, .int .u16 (y5 : Nat), .int .u16 (y6 : Nat)] 36); have hb := (hb.call b2).new (.cells #[.int .u8 (y1 : Nat), .int .u8 (y2 : Nat), .slice Ab nb cb, .slice Aw nw cw, .int .u16 (y5 : Nat), .int .u16 (y6 : Nat)] 36); have SB := SB.to ((Below.refl _ w2).new (.cells #[.int .u8 (y1 : Nat), .int .u8 (y2 : Nat), .slice Ab nb cb, .slice Aw nw cw, .int .u16 (y5 : Nat), .int .u16 (y6 : Nat)] 36)); have SW := SW.to ((Below.refl _ w2).new (.cells #[.int .u8 (y1 : Nat), .int .u8 (y2 : Nat), .slice Ab nb cb, .slice Aw nw cw, .int .u16 (y5 : Nat), .int .u16 (y6 : Nat)] 36)); have hl2 := b2.size; simp at hl2; clear b2)
          | (go_at_call 92; refine (KM.out _ _ _ _ _ _ _ SB SW).mono ?_; rintro e w3 ⟨rfl, b3⟩; have rz := b3.row (row_lt rz) rz; have rq := b3.row (row_lt rq) rq; have hb := hb.call b3; have SB := SB.to b3; have SW := SW.to b3; obtain ⟨c0, c1, c2, c3, c4, c5⟩ := row6 rq; clear b3)
          | (refine wpList_store_grown rfl 36 (.tmp 2) _ rfl w.heap.size #[.int .u8 0, .int .u8 0, .slice none 0 0, .slice none 0 0, .int .u16 0, .int .u16 0] rfl rfl 36 _ rz (by kernel_rfl) rfl (by simp [Value.oneCell']) ?_; intro w9 h9 g9 s9))
        refine bodyPost_row_tmp rfl w.heap.size 36 #[.int .u8 0, .int .u8 0, .slice none 0 0, .slice none 0 0, .int .u16 0, .int .u16 0] (0, 0) _ (.int .i64 13) rfl h9 Try.underlying36 rfl (by kernel_rfl) rfl rfl ?_
        rw [HP.out]
        exact RetRepTag.bare _ _ (hb.grown g9 hb.size (fun k hk => by injection hk with hk; omega))
      | true =>
        have n1 : y3.length ≤ 2000 := by simp [Kd.right] at hr; omega
        rw [hr] at KM0 HP0
        have KM := Lib.hid KM0
        have KBy := Lib.hid (fun X Ab nb cb Aw nw cw (h1 : Sl X X.heap.size Ab nb (bl y3)) (h2 : Sl X X.heap.size Aw nw (ws y4)) => kbytes_bitsR y1 y2 Ab nb cb Aw nw cw y5 y6 y3 y4 X h1 h2 hwf (by have := h1.len; simp at this; omega))
        have hby := kbytes_lt Kd.bitsR _ hwf
        obtain ⟨Q, hQ⟩ : ∃ Q, Q = (Kd.bytes Kd.bitsR ⟨y1, y2, y3, y4, y5, y6⟩ == xs) := ⟨_, rfl⟩
        have KE0 := fun X A1 n1 c1 (h1 : Sl X X.heap.size A1 n1 (bs (Kd.bytes Kd.bitsR ⟨y1, y2, y3, y4, y5, y6⟩))) (h2 : Sl X X.heap.size (some ⟨b, o, none⟩) n (bs xs)) => bytesEqual_any A1 (some ⟨b, o, none⟩) n1 c1 n c X.heap.size _ xs X h1 hby h2 HX.out
        rw [← hQ] at KE0 HP0
        have KE := Lib.hid KE0
        have HP := Lib.hid HP0
        clear KM0 HP0 KE0 hr hsm hwf q1 hby hQ hx
        cases Q
        case false =>
          go_enter Try.func20, Try.ntmps20
          go_wp2_with fail
          refine (KB.out _).mono ?_
          rintro e w1 ⟨rfl, rfl⟩
          dsimp only [kvO, kv, Option.isSome]
          go_wp2_with (first
            | (go_at_call 91; refine (KRd.out _ hb).mono ?_; rintro e w2 ⟨Ab, nb, cb, Aw, nw, cw, rfl, SB, SW, kb, kw, oB, oW, b2⟩; dsimp only at SB SW; have rz := row_alloc (b2.row (by simp) rz) (.cells #[.int .u8 (y1 : Nat), .int .u8 (y2 : Nat), .slice Ab nb cb, .slice Aw nw cw, .int .u16 (y5 : Nat), .int .u16 (y6 : Nat)] 36); have rq := heap_alloc_new w2 (.cells #[.int .u8 (y1 : Nat), .int .u8 (y2 : Nat), .slice Ab nb cb, .slice Aw nw cw, .int .u16 (y5 : Nat), .int .u16 (y6 : Nat)] 36); have hb := (hb.call b2).new (.cells #[.int .u8 (y1 : Nat), .int .u8 (y2 : Nat), .slice Ab nb cb, .slice Aw nw cw, .int .u16 (y5 : Nat), .int .u16 (y6 : Nat)] 36); have SB := SB.to ((Below.refl _ w2).new (.cells #[.int .u8 (y1 : Nat), .int .u8 (y2 : Nat), .slice Ab nb cb, .slice Aw nw cw, .int .u16 (y5 : Nat), .int .u16 (y6 : Nat)] 36)); have SW := SW.to ((Below.refl _ w2).new (.cells #[.int .u8 (y1 : Nat), .int .u8 (y2 : Nat), .slice Ab nb cb, .slice Aw nw cw, .int .u16 (y5 : Nat), .int .u16 (y6 : Nat)] 36)); have hl2 := b2.size; simp at hl2; clear b2)
            | (go_at_call 92; refine (KM.out _ _ _ _ _ _ _ SB SW).mono ?_; rintro e w3 ⟨rfl, b3⟩; have rz := b3.row (row_lt rz) rz; have rq := b3.row (row_lt rq) rq; have hb := hb.call b3; have SB := SB.to b3; have SW := SW.to b3; obtain ⟨c0, c1, c2, c3, c4, c5⟩ := row6 rq; clear b3)
            | (go_at_call 90; refine (KBy.out _ _ _ _ _ _ _ SB SW).mono ?_; rintro e w4 ⟨v, rfl, H⟩; obtain ⟨Av, cv, rfl, hcv, SV, _⟩ := H.slice; have rz := H.bel.row (row_lt rz) rz; have rq := H.bel.row (row_lt rq) rq; have hb := hb.call H.bel; have SB := SB.to H.bel; have SW := SW.to H.bel; clear H)
            | (go_at_call 41; refine (KE.out _ _ _ _ SV (HS.out.to hb)).mono ?_; rintro e w5 ⟨rfl, rfl⟩)
            | (refine wpList_store_grown rfl 36 (.tmp 2) _ rfl w.heap.size #[.int .u8 0, .int .u8 0, .slice none 0 0, .slice none 0 0, .int .u16 0, .int .u16 0] rfl rfl 36 _ rz (by kernel_rfl) rfl (by simp [Value.oneCell']) ?_; intro w9 h9 g9 s9))
          refine bodyPost_row_tmp rfl w.heap.size 36 #[.int .u8 0, .int .u8 0, .slice none 0 0, .slice none 0 0, .int .u16 0, .int .u16 0] (0, 0) _ (.int .i64 13) rfl h9 Try.underlying36 rfl (by kernel_rfl) rfl rfl ?_
          rw [HP.out]
          exact RetRepTag.bare _ _ (hb.grown g9 hb.size (fun k hk => by injection hk with hk; omega))
        case true =>
          go_enter Try.func20, Try.ntmps20
          go_wp2_with fail
          refine (KB.out _).mono ?_
          rintro e w1 ⟨rfl, rfl⟩
          dsimp only [kvO, kv, Option.isSome]
          go_wp2_with (first
            | (go_at_call 91; refine (KRd.out _ hb).mono ?_; rintro e w2 ⟨Ab, nb, cb, Aw, nw, cw, rfl, SB, SW, kb, kw, oB, oW, b2⟩; dsimp only at SB SW; have rz := row_alloc (b2.row (by simp) rz) (.cells #[.int .u8 (y1 : Nat), .int .u8 (y2 : Nat), .slice Ab nb cb, .slice Aw nw cw, .int .u16 (y5 : Nat), .int .u16 (y6 : Nat)] 36); have rq := heap_alloc_new w2 (.cells #[.int .u8 (y1 : Nat), .int .u8 (y2 : Nat), .slice Ab nb cb, .slice Aw nw cw, .int .u16 (y5 : Nat), .int .u16 (y6 : Nat)] 36); have hb := (hb.call b2).new (.cells #[.int .u8 (y1 : Nat), .int .u8 (y2 : Nat), .slice Ab nb cb, .slice Aw nw cw, .int .u16 (y5 : Nat), .int .u16 (y6 : Nat)] 36); have SB := SB.to ((Below.refl _ w2).new (.cells #[.int .u8 (y1 : Nat), .int .u8 (y2 : Nat), .slice Ab nb cb, .slice Aw nw cw, .int .u16 (y5 : Nat), .int .u16 (y6 : Nat)] 36)); have SW := SW.to ((Below.refl _ w2).new (.cells #[.int .u8 (y1 : Nat), .int .u8 (y2 : Nat), .slice Ab nb cb, .slice Aw nw cw, .int .u16 (y5 : Nat), .int .u16 (y6 : Nat)] 36)); have hl2 := b2.size; simp at hl2; clear b2)
            | (go_at_call 92; refine (KM.out _ _ _ _ _ _ _ SB SW).mono ?_; rintro e w3 ⟨rfl, b3⟩; have rz := b3.row (row_lt rz) rz; have rq := b3.row (row_lt rq) rq; have hb := hb.call b3; have SB := SB.to b3; have SW := SW.to b3; obtain ⟨c0, c1, c2, c3, c4, c5⟩ := row6 rq; clear b3)
            | (go_at_call 90; refine (KBy.out _ _ _ _ _ _ _ SB SW).mono ?_; rintro e w4 ⟨v, rfl, H⟩; obtain ⟨Av, cv, rfl, hcv, SV, _⟩ := H.slice; have rz := H.bel.row (row_lt rz) rz; have rq := H.bel.row (row_lt rq) rq; have hb := hb.call H.bel; have SB := SB.to H.bel; have SW := SW.to H.bel; clear H)
            | (go_at_call 41; refine (KE.out _ _ _ _ SV (HS.out.to hb)).mono ?_; rintro e w5 ⟨rfl, rfl⟩)
            | (refine wpList_load_row rfl 36 (.tmp 6) rfl w2.heap.size rfl 36 #[.int .u8 (y1 : Nat), .int .u8 (y2 : Nat), .slice Ab nb cb, .slice Aw nw cw, .int .u16 (y5 : Nat), .int .u16 (y6 : Nat)] (0, 0) _ rq Try.underlying36 rfl (by kernel_rfl) ?_)
            | (refine wpList_store_grown rfl 36 (.tmp 2) _ rfl w.heap.size #[.int .u8 (y1 : Nat), .int .u8 (y2 : Nat), .slice Ab nb cb, .slice Aw nw cw, .int .u16 (y5 : Nat), .int .u16 (y6 : Nat)] rfl rfl 36 _ rz (by kernel_rfl) rfl (by simp [Value.oneCell']) ?_; intro w9 h9 g9 s9))
          refine bodyPost_row_tmp rfl w.heap.size 36 #[.int .u8 (y1 : Nat), .int .u8 (y2 : Nat), .slice Ab nb cb, .slice Aw nw cw, .int .u16 (y5 : Nat), .int .u16 (y6 : Nat)] (0, 0) _ (.int .i64 0) rfl h9 Try.underlying36 rfl (by kernel_rfl) rfl rfl ?_
          rw [HP.out]
          exact ⟨Ab, nb, cb, Aw, nw, cw, rfl, SB.grown g9 (fun b o h e => by have := oB b o h; simp at this; injection e with e; omega), SW.grown g9 (fun b o h e => by have := oW b o h; simp at this; injection e with e; omega), kb, kw, (fun b o h => by have := oB b o h; simp at this; omega), (fun b o h => by have := oW b o h; simp at this; omega), hb.grown g9 hb.size (fun k hk => by injection hk with hk; omega)⟩
    | wordsR =>
      have KRd0 := fun X (bb : Below w.heap.size w X) => kread_wordsR (some ⟨b, o, none⟩) n c xs X (hs.to bb) hx hn1 hn2 hc
      have hm1 := m_wordsR_read
      have hm2 := m_wordsR_right
      have hm3 := m_wordsR_bytes
      obtain ⟨r, er⟩ : ∃ r, r = Kd.read Kd.wordsR xs := ⟨_, rfl⟩
      rw [← er] at HP0 hsm hwf KRd0
      obtain ⟨y1, y2, y3, y4, y5, y6⟩ := r
      dsimp only at hsm
      have KRd := Lib.hid KRd0
      have KM0 := fun X Ab nb cb Aw nw cw (h1 : Sl X X.heap.size Ab nb (bl y3)) (h2 : Sl X X.heap.size Aw nw (ws y4)) => right_wordsR y1 y2 Ab nb cb Aw nw cw y5 y6 y3 y4 X h1 h2 (by have := h1.len; simp at this; omega) (by have := h2.len; simp at this; omega)
      clear er KRd0 hs
      cases hr : Kd.right Kd.wordsR ⟨y1, y2, y3, y4, y5, y6⟩ with
      | false =>
        rw [hr] at KM0 HP0
        have KM := Lib.hid KM0
        have HP := Lib.hid HP0
        clear KM0 HP0 hr hsm hwf q1 hx
        go_enter Try.func20, Try.ntmps20
        go_wp2_with fail
        refine (KB.out _).mono ?_
        rintro e w1 ⟨rfl, rfl⟩
        dsimp only [kvO, kv, Option.isSome]
        go_wp2_with (first
          | (go_at_call 96; refine (KRd.out _ hb).mono ?_; rintro e w2 ⟨Ab, nb, cb, Aw, nw, cw, rfl, SB, SW, kb, kw, oB, oW, b2⟩; dsimp only at SB SW; have rz := row_alloc (b2.row (by simp) rz) (.cells #[.int .u8 (y1 : Nat), .int .u8 (y2 : Nat), .slice Ab nb cb, .slice Aw nw cw, .int .u16 (y5 : Nat), .int .u16 (y6 : Nat)] 36); have rq := heap_alloc_new w2 (.cells #[.int .u8 (y1 : Nat), .int .u8 (y2 : Nat), .slice Ab nb cb, .slice Aw nw cw, .int .u16 (y5 : Nat), .int .u16 (y6 : Nat)] 36); have hb := (hb.call b2).new (.cells #[.int .u8 (y1 : Nat), .int .u8 (y2 : Nat), .slice Ab nb cb, .slice Aw nw cw, .int .u16 (y5 : Nat), .int .u16 (y6 : Nat)] 36); have SB := SB.to ((Below.refl _ w2).new (.cells #[.int .u8 (y1 : Nat), .int .u8 (y2 : Nat), .slice Ab nb cb, .slice Aw nw cw, .int .u16 (y5 : Nat), .int .u16 (y6 : Nat)] 36)); have SW := SW.to ((Below.refl _ w2).new (.cells #[.int .u8 (y1 : Nat), .int .u8 (y2 : Nat), .slice Ab nb cb, .slice Aw nw cw, .int .u16 (y5 : Nat), .int .u16 (y6 : Nat)] 36)); have hl2 := b2.size; simp at hl2; clear b2)
          | (go_at_call 97; refine (KM.out _ _ _ _ _ _ _ SB SW).mono ?_; rintro e w3 ⟨rfl, b3⟩; have rz := b3.row (row_lt rz) rz; have rq := b3.row (row_lt rq) rq; have hb := hb.call b3; have SB := SB.to b3; have SW := SW.to b3; obtain ⟨c0, c1, c2, c3, c4, c5⟩ := row6 rq; clear b3)
          | (refine wpList_store_grown rfl 36 (.tmp 2) _ rfl w.heap.size #[.int .u8 0, .int .u8 0, .slice none 0 0, .slice none 0 0, .int .u16 0, .int .u16 0] rfl rfl 36 _ rz (by kernel_rfl) rfl (by simp [Value.oneCell']) ?_; intro w9 h9 g9 s9))
        refine bodyPost_row_tmp rfl w.heap.size 36 #[.int .u8 0, .int .u8 0, .slice none 0 0, .slice none 0 0, .int .u16 0, .int .u16 0] (0, 0) _ (.int .i64 13) rfl h9 Try.underlying36 rfl (by kernel_rfl) rfl rfl ?_
        rw [HP.out]
        exact RetRepTag.bare _ _ (hb.grown g9 hb.size (fun k hk => by injection hk with hk; omega))
      | true =>
        have n1 : y4.length ≤ 1000 := by simp [Kd.right] at hr; omega
        rw [hr] at KM0 HP0
        have KM := Lib.hid KM0
        have KBy := Lib.hid (fun X Ab nb cb Aw nw cw (h1 : Sl X X.heap.size Ab nb (bl y3)) (h2 : Sl X X.heap.size Aw nw (ws y4)) => kbytes_wordsR y1 y2 Ab nb cb Aw nw cw y5 y6 y3 y4 X h1 h2 hwf (by have := h2.len; simp at this; omega))
        have hby := kbytes_lt Kd.wordsR _ hwf
        obtain ⟨Q, hQ⟩ : ∃ Q, Q = (Kd.bytes Kd.wordsR ⟨y1, y2, y3, y4, y5, y6⟩ == xs) := ⟨_, rfl⟩
        have KE0 := fun X A1 n1 c1 (h1 : Sl X X.heap.size A1 n1 (bs (Kd.bytes Kd.wordsR ⟨y1, y2, y3, y4, y5, y6⟩))) (h2 : Sl X X.heap.size (some ⟨b, o, none⟩) n (bs xs)) => bytesEqual_any A1 (some ⟨b, o, none⟩) n1 c1 n c X.heap.size _ xs X h1 hby h2 HX.out
        rw [← hQ] at KE0 HP0
        have KE := Lib.hid KE0
        have HP := Lib.hid HP0
        clear KM0 HP0 KE0 hr hsm hwf q1 hby hQ hx
        cases Q
        case false =>
          go_enter Try.func20, Try.ntmps20
          go_wp2_with fail
          refine (KB.out _).mono ?_
          rintro e w1 ⟨rfl, rfl⟩
          dsimp only [kvO, kv, Option.isSome]
          go_wp2_with (first
            | (go_at_call 96; refine (KRd.out _ hb).mono ?_; rintro e w2 ⟨Ab, nb, cb, Aw, nw, cw, rfl, SB, SW, kb, kw, oB, oW, b2⟩; dsimp only at SB SW; have rz := row_alloc (b2.row (by simp) rz) (.cells #[.int .u8 (y1 : Nat), .int .u8 (y2 : Nat), .slice Ab nb cb, .slice Aw nw cw, .int .u16 (y5 : Nat), .int .u16 (y6 : Nat)] 36); have rq := heap_alloc_new w2 (.cells #[.int .u8 (y1 : Nat), .int .u8 (y2 : Nat), .slice Ab nb cb, .slice Aw nw cw, .int .u16 (y5 : Nat), .int .u16 (y6 : Nat)] 36); have hb := (hb.call b2).new (.cells #[.int .u8 (y1 : Nat), .int .u8 (y2 : Nat), .slice Ab nb cb, .slice Aw nw cw, .int .u16 (y5 : Nat), .int .u16 (y6 : Nat)] 36); have SB := SB.to ((Below.refl _ w2).new (.cells #[.int .u8 (y1 : Nat), .int .u8 (y2 : Nat), .slice Ab nb cb, .slice Aw nw cw, .int .u16 (y5 : Nat), .int .u16 (y6 : Nat)] 36)); have SW := SW.to ((Below.refl _ w2).new (.cells #[.int .u8 (y1 : Nat), .int .u8 (y2 : Nat), .slice Ab nb cb, .slice Aw nw cw, .int .u16 (y5 : Nat), .int .u16 (y6 : Nat)] 36)); have hl2 := b2.size; simp at hl2; clear b2)
            | (go_at_call 97; refine (KM.out _ _ _ _ _ _ _ SB SW).mono ?_; rintro e w3 ⟨rfl, b3⟩; have rz := b3.row (row_lt rz) rz; have rq := b3.row (row_lt rq) rq; have hb := hb.call b3; have SB := SB.to b3; have SW := SW.to b3; obtain ⟨c0, c1, c2, c3, c4, c5⟩ := row6 rq; clear b3)
            | (go_at_call 95; refine (KBy.out _ _ _ _ _ _ _ SB SW).mono ?_; rintro e w4 ⟨v, rfl, H⟩; obtain ⟨Av, cv, rfl, hcv, SV, _⟩ := H.slice; have rz := H.bel.row (row_lt rz) rz; have rq := H.bel.row (row_lt rq) rq; have hb := hb.call H.bel; have SB := SB.to H.bel; have SW := SW.to H.bel; clear H)
            | (go_at_call 41; refine (KE.out _ _ _ _ SV (HS.out.to hb)).mono ?_; rintro e w5 ⟨rfl, rfl⟩)
            | (refine wpList_store_grown rfl 36 (.tmp 2) _ rfl w.heap.size #[.int .u8 0, .int .u8 0, .slice none 0 0, .slice none 0 0, .int .u16 0, .int .u16 0] rfl rfl 36 _ rz (by kernel_rfl) rfl (by simp [Value.oneCell']) ?_; intro w9 h9 g9 s9))
          refine bodyPost_row_tmp rfl w.heap.size 36 #[.int .u8 0, .int .u8 0, .slice none 0 0, .slice none 0 0, .int .u16 0, .int .u16 0] (0, 0) _ (.int .i64 13) rfl h9 Try.underlying36 rfl (by kernel_rfl) rfl rfl ?_
          rw [HP.out]
          exact RetRepTag.bare _ _ (hb.grown g9 hb.size (fun k hk => by injection hk with hk; omega))
        case true =>
          go_enter Try.func20, Try.ntmps20
          go_wp2_with fail
          refine (KB.out _).mono ?_
          rintro e w1 ⟨rfl, rfl⟩
          dsimp only [kvO, kv, Option.isSome]
          go_wp2_with (first
            | (go_at_call 96; refine (KRd.out _ hb).mono ?_; rintro e w2 ⟨Ab, nb, cb, Aw, nw, cw, rfl, SB, SW, kb, kw, oB, oW, b2⟩; dsimp only at SB SW; have rz := row_alloc (b2.row (by simp) rz) (.cells #[.int .u8 (y1 : Nat), .int .u8 (y2 : Nat), .slice Ab nb cb, .slice Aw nw cw, .int .u16 (y5 : Nat), .int .u16 (y6 : Nat)] 36); have rq := heap_alloc_new w2 (.cells #[.int .u8 (y1 : Nat), .int .u8 (y2 : Nat), .slice Ab nb cb, .slice Aw nw cw, .int .u16 (y5 : Nat), .int .u16 (y6 : Nat)] 36); have hb := (hb.call b2).new (.cells #[.int .u8 (y1 : Nat), .int .u8 (y2 : Nat), .slice Ab nb cb, .slice Aw nw cw, .int .u16 (y5 : Nat), .int .u16 (y6 : Nat)] 36); have SB := SB.to ((Below.refl _ w2).new (.cells #[.int .u8 (y1 : Nat), .int .u8 (y2 : Nat), .slice Ab nb cb, .slice Aw nw cw, .int .u16 (y5 : Nat), .int .u16 (y6 : Nat)] 36)); have SW := SW.to ((Below.refl _ w2).new (.cells #[.int .u8 (y1 : Nat), .int .u8 (y2 : Nat), .slice Ab nb cb, .slice Aw nw cw, .int .u16 (y5 : Nat), .int .u16 (y6 : Nat)] 36)); have hl2 := b2.size; simp at hl2; clear b2)
            | (go_at_call 97; refine (KM.out _ _ _ _ _ _ _ SB SW).mono ?_; rintro e w3 ⟨rfl, b3⟩; have rz := b3.row (row_lt rz) rz; have rq := b3.row (row_lt rq) rq; have hb := hb.call b3; have SB := SB.to b3; have SW := SW.to b3; obtain ⟨c0, c1, c2, c3, c4, c5⟩ := row6 rq; clear b3)
            | (go_at_call 95; refine (KBy.out _ _ _ _ _ _ _ SB SW).mono ?_; rintro e w4 ⟨v, rfl, H⟩; obtain ⟨Av, cv, rfl, hcv, SV, _⟩ := H.slice; have rz := H.bel.row (row_lt rz) rz; have rq := H.bel.row (row_lt rq) rq; have hb := hb.call H.bel; have SB := SB.to H.bel; have SW := SW.to H.bel; clear H)
            | (go_at_call 41; refine (KE.out _ _ _ _ SV (HS.out.to hb)).mono ?_; rintro e w5 ⟨rfl, rfl⟩)
            | (refine wpList_load_row rfl 36 (.tmp 6) rfl w2.heap.size rfl 36 #[.int .u8 (y1 : Nat), .int .u8 (y2 : Nat), .slice Ab nb cb, .slice Aw nw cw, .int .u16 (y5 : Nat), .int .u16 (y6 : Nat)] (0, 0) _ rq Try.underlying36 rfl (by kernel_rfl) ?_)
            | (refine wpList_store_grown rfl 36 (.tmp 2) _ rfl w.heap.size #[.int .u8 (y1 : Nat), .int .u8 (y2 : Nat), .slice Ab nb cb, .slice Aw nw cw, .int .u16 (y5 : Nat), .int .u16 (y6 : Nat)] rfl rfl 36 _ rz (by kernel_rfl) rfl (by simp [Value.oneCell']) ?_; intro w9 h9 g9 s9))
          refine bodyPost_row_tmp rfl w.heap.size 36 #[.int .u8 (y1 : Nat), .int .u8 (y2 : Nat), .slice Ab nb cb, .slice Aw nw cw, .int .u16 (y5 : Nat), .int .u16 (y6 : Nat)] (0, 0) _ (.int .i64 0) rfl h9 Try.underlying36 rfl (by kernel_rfl) rfl rfl ?_
          rw [HP.out]
          exact ⟨Ab, nb, cb, Aw, nw, cw, rfl, SB.grown g9 (fun b o h e => by have := oB b o h; simp at this; injection e with e; omega), SW.grown g9 (fun b o h e => by have := oW b o h; simp at this; injection e with e; omega), kb, kw, (fun b o h => by have := oB b o h; simp at this; omega), (fun b o h => by have := oW b o h; simp at this; omega), hb.grown g9 hb.size (fun k hk => by injection hk with hk; omega)⟩
    | bitW =>
      have KRd0 := fun X (bb : Below w.heap.size w X) => kread_bitW (some ⟨b, o, none⟩) n c xs X (hs.to bb) hx hn1 hn2 hc
      have hm1 := m_bitW_read
      have hm2 := m_bitW_right
      have hm3 := m_bitW_bytes
      obtain ⟨r, er⟩ : ∃ r, r = Kd.read Kd.bitW xs := ⟨_, rfl⟩
      rw [← er] at HP0 hsm hwf KRd0
      obtain ⟨y1, y2, y3, y4, y5, y6⟩ := r
      dsimp only at hsm
      have KRd := Lib.hid KRd0
      have KM0 := fun X Ab nb cb Aw nw cw (h1 : Sl X X.heap.size Ab nb (bl y3)) (h2 : Sl X X.heap.size Aw nw (ws y4)) => right_bitW y1 y2 Ab nb cb Aw nw cw y5 y6 y3 y4 X h1 h2 (by have := h1.len; simp at this; omega) (by have := h2.len; simp at this; omega)
      clear er KRd0 hs
      cases hr : Kd.right Kd.bitW ⟨y1, y2, y3, y4, y5, y6⟩ with
      | false =>
        rw [hr] at KM0 HP0
        have KM := Lib.hid KM0
        have HP := Lib.hid HP0
        clear KM0 HP0 hr hsm hwf q1 hx
        go_enter Try.func20, Try.ntmps20
        go_wp2_with fail
        refine (KB.out _).mono ?_
        rintro e w1 ⟨rfl, rfl⟩
        dsimp only [kvO, kv, Option.isSome]
        go_wp2_with (first
          | (go_at_call 101; refine (KRd.out _ hb).mono ?_; rintro e w2 ⟨Ab, nb, cb, Aw, nw, cw, rfl, SB, SW, kb, kw, oB, oW, b2⟩; dsimp only at SB SW; have rz := row_alloc (b2.row (by simp) rz) (.cells #[.int .u8 (y1 : Nat), .int .u8 (y2 : Nat), .slice Ab nb cb, .slice Aw nw cw, .int .u16 (y5 : Nat), .int .u16 (y6 : Nat)] 36); have rq := heap_alloc_new w2 (.cells #[.int .u8 (y1 : Nat), .int .u8 (y2 : Nat), .slice Ab nb cb, .slice Aw nw cw, .int .u16 (y5 : Nat), .int .u16 (y6 : Nat)] 36); have hb := (hb.call b2).new (.cells #[.int .u8 (y1 : Nat), .int .u8 (y2 : Nat), .slice Ab nb cb, .slice Aw nw cw, .int .u16 (y5 : Nat), .int .u16 (y6 : Nat)] 36); have SB := SB.to ((Below.refl _ w2).new (.cells #[.int .u8 (y1 : Nat), .int .u8 (y2 : Nat), .slice Ab nb cb, .slice Aw nw cw, .int .u16 (y5 : Nat), .int .u16 (y6 : Nat)] 36)); have SW := SW.to ((Below.refl _ w2).new (.cells #[.int .u8 (y1 : Nat), .int .u8 (y2 : Nat), .slice Ab nb cb, .slice Aw nw cw, .int .u16 (y5 : Nat), .int .u16 (y6 : Nat)] 36)); have hl2 := b2.size; simp at hl2; clear b2)
          | (go_at_call 102; refine (KM.out _ _ _ _ _ _ _ SB SW).mono ?_; rintro e w3 ⟨rfl, b3⟩; have rz := b3.row (row_lt rz) rz; have rq := b3.row (row_lt rq) rq; have hb := hb.call b3; have SB := SB.to b3; have SW := SW.to b3; obtain ⟨c0, c1, c2, c3, c4, c5⟩ := row6 rq; clear b3)
          | (refine wpList_store_grown rfl 36 (.tmp 2) _ rfl w.heap.size #[.int .u8 0, .int .u8 0, .slice none 0 0, .slice none 0 0, .int .u16 0, .int .u16 0] rfl rfl 36 _ rz (by kernel_rfl) rfl (by simp [Value.oneCell']) ?_; intro w9 h9 g9 s9))
        refine bodyPost_row_tmp rfl w.heap.size 36 #[.int .u8 0, .int .u8 0, .slice none 0 0, .slice none 0 0, .int .u16 0, .int .u16 0] (0, 0) _ (.int .i64 13) rfl h9 Try.underlying36 rfl (by kernel_rfl) rfl rfl ?_
        rw [HP.out]
        exact RetRepTag.bare _ _ (hb.grown g9 hb.size (fun k hk => by injection hk with hk; omega))
      | true =>
        have n1 : 1 ≤ y3.length := by simp [Kd.right] at hr; omega
        rw [hr] at KM0 HP0
        have KM := Lib.hid KM0
        have KBy := Lib.hid (fun X Ab nb cb Aw nw cw (h1 : Sl X X.heap.size Ab nb (bl y3)) (h2 : Sl X X.heap.size Aw nw (ws y4)) => kbytes_bitW y1 y2 Ab nb cb Aw nw cw y5 y6 y3 y4 X h1 h2 hwf (by have := h1.len; simp at this; omega))
        have hby := kbytes_lt Kd.bitW _ hwf
        obtain ⟨Q, hQ⟩ : ∃ Q, Q = (Kd.bytes Kd.bitW ⟨y1, y2, y3, y4, y5, y6⟩ == xs) := ⟨_, rfl⟩
        have KE0 := fun X A1 n1 c1 (h1 : Sl X X.heap.size A1 n1 (bs (Kd.bytes Kd.bitW ⟨y1, y2, y3, y4, y5, y6⟩))) (h2 : Sl X X.heap.size (some ⟨b, o, none⟩) n (bs xs)) => bytesEqual_any A1 (some ⟨b, o, none⟩) n1 c1 n c X.heap.size _ xs X h1 hby h2 HX.out
        rw [← hQ] at KE0 HP0
        have KE := Lib.hid KE0
        have HP := Lib.hid HP0
        clear KM0 HP0 KE0 hr hsm hwf q1 hby hQ hx
        cases Q
        case false =>
          go_enter Try.func20, Try.ntmps20
          go_wp2_with fail
          refine (KB.out _).mono ?_
          rintro e w1 ⟨rfl, rfl⟩
          dsimp only [kvO, kv, Option.isSome]
          go_wp2_with (first
            | (go_at_call 101; refine (KRd.out _ hb).mono ?_; rintro e w2 ⟨Ab, nb, cb, Aw, nw, cw, rfl, SB, SW, kb, kw, oB, oW, b2⟩; dsimp only at SB SW; have rz := row_alloc (b2.row (by simp) rz) (.cells #[.int .u8 (y1 : Nat), .int .u8 (y2 : Nat), .slice Ab nb cb, .slice Aw nw cw, .int .u16 (y5 : Nat), .int .u16 (y6 : Nat)] 36); have rq := heap_alloc_new w2 (.cells #[.int .u8 (y1 : Nat), .int .u8 (y2 : Nat), .slice Ab nb cb, .slice Aw nw cw, .int .u16 (y5 : Nat), .int .u16 (y6 : Nat)] 36); have hb := (hb.call b2).new (.cells #[.int .u8 (y1 : Nat), .int .u8 (y2 : Nat), .slice Ab nb cb, .slice Aw nw cw, .int .u16 (y5 : Nat), .int .u16 (y6 : Nat)] 36); have SB := SB.to ((Below.refl _ w2).new (.cells #[.int .u8 (y1 : Nat), .int .u8 (y2 : Nat), .slice Ab nb cb, .slice Aw nw cw, .int .u16 (y5 : Nat), .int .u16 (y6 : Nat)] 36)); have SW := SW.to ((Below.refl _ w2).new (.cells #[.int .u8 (y1 : Nat), .int .u8 (y2 : Nat), .slice Ab nb cb, .slice Aw nw cw, .int .u16 (y5 : Nat), .int .u16 (y6 : Nat)] 36)); have hl2 := b2.size; simp at hl2; clear b2)
            | (go_at_call 102; refine (KM.out _ _ _ _ _ _ _ SB SW).mono ?_; rintro e w3 ⟨rfl, b3⟩; have rz := b3.row (row_lt rz) rz; have rq := b3.row (row_lt rq) rq; have hb := hb.call b3; have SB := SB.to b3; have SW := SW.to b3; obtain ⟨c0, c1, c2, c3, c4, c5⟩ := row6 rq; clear b3)
            | (go_at_call 100; refine (KBy.out _ _ _ _ _ _ _ SB SW).mono ?_; rintro e w4 ⟨v, rfl, H⟩; obtain ⟨Av, cv, rfl, hcv, SV, _⟩ := H.slice; have rz := H.bel.row (row_lt rz) rz; have rq := H.bel.row (row_lt rq) rq; have hb := hb.call H.bel; have SB := SB.to H.bel; have SW := SW.to H.bel; clear H)
            | (go_at_call 41; refine (KE.out _ _ _ _ SV (HS.out.to hb)).mono ?_; rintro e w5 ⟨rfl, rfl⟩)
            | (refine wpList_store_grown rfl 36 (.tmp 2) _ rfl w.heap.size #[.int .u8 0, .int .u8 0, .slice none 0 0, .slice none 0 0, .int .u16 0, .int .u16 0] rfl rfl 36 _ rz (by kernel_rfl) rfl (by simp [Value.oneCell']) ?_; intro w9 h9 g9 s9))
          refine bodyPost_row_tmp rfl w.heap.size 36 #[.int .u8 0, .int .u8 0, .slice none 0 0, .slice none 0 0, .int .u16 0, .int .u16 0] (0, 0) _ (.int .i64 13) rfl h9 Try.underlying36 rfl (by kernel_rfl) rfl rfl ?_
          rw [HP.out]
          exact RetRepTag.bare _ _ (hb.grown g9 hb.size (fun k hk => by injection hk with hk; omega))
        case true =>
          go_enter Try.func20, Try.ntmps20
          go_wp2_with fail
          refine (KB.out _).mono ?_
          rintro e w1 ⟨rfl, rfl⟩
          dsimp only [kvO, kv, Option.isSome]
          go_wp2_with (first
            | (go_at_call 101; refine (KRd.out _ hb).mono ?_; rintro e w2 ⟨Ab, nb, cb, Aw, nw, cw, rfl, SB, SW, kb, kw, oB, oW, b2⟩; dsimp only at SB SW; have rz := row_alloc (b2.row (by simp) rz) (.cells #[.int .u8 (y1 : Nat), .int .u8 (y2 : Nat), .slice Ab nb cb, .slice Aw nw cw, .int .u16 (y5 : Nat), .int .u16 (y6 : Nat)] 36); have rq := heap_alloc_new w2 (.cells #[.int .u8 (y1 : Nat), .int .u8 (y2 : Nat), .slice Ab nb cb, .slice Aw nw cw, .int .u16 (y5 : Nat), .int .u16 (y6 : Nat)] 36); have hb := (hb.call b2).new (.cells #[.int .u8 (y1 : Nat), .int .u8 (y2 : Nat), .slice Ab nb cb, .slice Aw nw cw, .int .u16 (y5 : Nat), .int .u16 (y6 : Nat)] 36); have SB := SB.to ((Below.refl _ w2).new (.cells #[.int .u8 (y1 : Nat), .int .u8 (y2 : Nat), .slice Ab nb cb, .slice Aw nw cw, .int .u16 (y5 : Nat), .int .u16 (y6 : Nat)] 36)); have SW := SW.to ((Below.refl _ w2).new (.cells #[.int .u8 (y1 : Nat), .int .u8 (y2 : Nat), .slice Ab nb cb, .slice Aw nw cw, .int .u16 (y5 : Nat), .int .u16 (y6 : Nat)] 36)); have hl2 := b2.size; simp at hl2; clear b2)
            | (go_at_call 102; refine (KM.out _ _ _ _ _ _ _ SB SW).mono ?_; rintro e w3 ⟨rfl, b3⟩; have rz := b3.row (row_lt rz) rz; have rq := b3.row (row_lt rq) rq; have hb := hb.call b3; have SB := SB.to b3; have SW := SW.to b3; obtain ⟨c0, c1, c2, c3, c4, c5⟩ := row6 rq; clear b3)
            | (go_at_call 100; refine (KBy.out _ _ _ _ _ _ _ SB SW).mono ?_; rintro e w4 ⟨v, rfl, H⟩; obtain ⟨Av, cv, rfl, hcv, SV, _⟩ := H.slice; have rz := H.bel.row (row_lt rz) rz; have rq := H.bel.row (row_lt rq) rq; have hb := hb.call H.bel; have SB := SB.to H.bel; have SW := SW.to H.bel; clear H)
            | (go_at_call 41; refine (KE.out _ _ _ _ SV (HS.out.to hb)).mono ?_; rintro e w5 ⟨rfl, rfl⟩)
            | (refine wpList_load_row rfl 36 (.tmp 6) rfl w2.heap.size rfl 36 #[.int .u8 (y1 : Nat), .int .u8 (y2 : Nat), .slice Ab nb cb, .slice Aw nw cw, .int .u16 (y5 : Nat), .int .u16 (y6 : Nat)] (0, 0) _ rq Try.underlying36 rfl (by kernel_rfl) ?_)
            | (refine wpList_store_grown rfl 36 (.tmp 2) _ rfl w.heap.size #[.int .u8 (y1 : Nat), .int .u8 (y2 : Nat), .slice Ab nb cb, .slice Aw nw cw, .int .u16 (y5 : Nat), .int .u16 (y6 : Nat)] rfl rfl 36 _ rz (by kernel_rfl) rfl (by simp [Value.oneCell']) ?_; intro w9 h9 g9 s9))
          refine bodyPost_row_tmp rfl w.heap.size 36 #[.int .u8 (y1 : Nat), .int .u8 (y2 : Nat), .slice Ab nb cb, .slice Aw nw cw, .int .u16 (y5 : Nat), .int .u16 (y6 : Nat)] (0, 0) _ (.int .i64 0) rfl h9 Try.underlying36 rfl (by kernel_rfl) rfl rfl ?_
          rw [HP.out]
          exact ⟨Ab, nb, cb, Aw, nw, cw, rfl, SB.grown g9 (fun b o h e => by have := oB b o h; simp at this; injection e with e; omega), SW.grown g9 (fun b o h e => by have := oW b o h; simp at this; injection e with e; omega), kb, kw, (fun b o h => by have := oB b o h; simp at this; omega), (fun b o h => by have := oW b o h; simp at this; omega), hb.grown g9 hb.size (fun k hk => by injection hk with hk; omega)⟩
    | wordW =>
      have KRd0 := fun X (bb : Below w.heap.size w X) => kread_wordW (some ⟨b, o, none⟩) n c xs X (hs.to bb) hx hn1 hn2 hc
      have hm1 := m_wordW_read
      have hm2 := m_wordW_right
      have hm3 := m_wordW_bytes
      obtain ⟨r, er⟩ : ∃ r, r = Kd.read Kd.wordW xs := ⟨_, rfl⟩
      rw [← er] at HP0 hsm hwf KRd0
      obtain ⟨y1, y2, y3, y4, y5, y6⟩ := r
      dsimp only at hsm
      have KRd := Lib.hid KRd0
      have KM0 := fun X Ab nb cb Aw nw cw (h1 : Sl X X.heap.size Ab nb (bl y3)) (h2 : Sl X X.heap.size Aw nw (ws y4)) => right_wordW y1 y2 Ab nb cb Aw nw cw y5 y6 y3 y4 X h1 h2 (by have := h1.len; simp at this; omega) (by have := h2.len; simp at this; omega)
      clear er KRd0 hs
      cases hr : Kd.right Kd.wordW ⟨y1, y2, y3, y4, y5, y6⟩ with
      | false =>
        rw [hr] at KM0 HP0
        have KM := Lib.hid KM0
        have HP := Lib.hid HP0
        clear KM0 HP0 hr hsm hwf q1 hx
        go_enter Try.func20, Try.ntmps20
        go_wp2_with fail
        refine (KB.out _).mono ?_
        rintro e w1 ⟨rfl, rfl⟩
        dsimp only [kvO, kv, Option.isSome]
        go_wp2_with (first
          | (go_at_call 104; refine (KRd.out _ hb).mono ?_; rintro e w2 ⟨Ab, nb, cb, Aw, nw, cw, rfl, SB, SW, kb, kw, oB, oW, b2⟩; dsimp only at SB SW; have rz := row_alloc (b2.row (by simp) rz) (.cells #[.int .u8 (y1 : Nat), .int .u8 (y2 : Nat), .slice Ab nb cb, .slice Aw nw cw, .int .u16 (y5 : Nat), .int .u16 (y6 : Nat)] 36); have rq := heap_alloc_new w2 (.cells #[.int .u8 (y1 : Nat), .int .u8 (y2 : Nat), .slice Ab nb cb, .slice Aw nw cw, .int .u16 (y5 : Nat), .int .u16 (y6 : Nat)] 36); have hb := (hb.call b2).new (.cells #[.int .u8 (y1 : Nat), .int .u8 (y2 : Nat), .slice Ab nb cb, .slice Aw nw cw, .int .u16 (y5 : Nat), .int .u16 (y6 : Nat)] 36); have SB := SB.to ((Below.refl _ w2).new (.cells #[.int .u8 (y1 : Nat), .int .u8 (y2 : Nat), .slice Ab nb cb, .slice Aw nw cw, .int .u16 (y5 : Nat), .int .u16 (y6 : Nat)] 36)); have SW := SW.to ((Below.refl _ w2).new (.cells #[.int .u8 (y1 : Nat), .int .u8 (y2 : Nat), .slice Ab nb cb, .slice Aw nw cw, .int .u16 (y5 : Nat), .int .u16 (y6 : Nat)] 36)); have hl2 := b2.size; simp at hl2; clear b2)
          | (go_at_call 105; refine (KM.out _ _ _ _ _ _ _ SB SW).mono ?_; rintro e w3 ⟨rfl, b3⟩; have rz := b3.row (row_lt rz) rz; have rq := b3.row (row_lt rq) rq; have hb := hb.call b3; have SB := SB.to b3; have SW := SW.to b3; obtain ⟨c0, c1, c2, c3, c4, c5⟩ := row6 rq; clear b3)
          | (refine wpList_store_grown rfl 36 (.tmp 2) _ rfl w.heap.size #[.int .u8 0, .int .u8 0, .slice none 0 0, .slice none 0 0, .int .u16 0, .int .u16 0] rfl rfl 36 _ rz (by kernel_rfl) rfl (by simp [Value.oneCell']) ?_; intro w9 h9 g9 s9))
        refine bodyPost_row_tmp rfl w.heap.size 36 #[.int .u8 0, .int .u8 0, .slice none 0 0, .slice none 0 0, .int .u16 0, .int .u16 0] (0, 0) _ (.int .i64 13) rfl h9 Try.underlying36 rfl (by kernel_rfl) rfl rfl ?_
        rw [HP.out]
        exact RetRepTag.bare _ _ (hb.grown g9 hb.size (fun k hk => by injection hk with hk; omega))
      | true =>
        have n1 : 1 ≤ y4.length := by simp [Kd.right] at hr; omega
        rw [hr] at KM0 HP0
        have KM := Lib.hid KM0
        have KBy := Lib.hid (fun X Ab nb cb Aw nw cw (h1 : Sl X X.heap.size Ab nb (bl y3)) (h2 : Sl X X.heap.size Aw nw (ws y4)) => kbytes_wordW y1 y2 Ab nb cb Aw nw cw y5 y6 y3 y4 X h1 h2 hwf (by have := h2.len; simp at this; omega))
        have hby := kbytes_lt Kd.wordW _ hwf
        obtain ⟨Q, hQ⟩ : ∃ Q, Q = (Kd.bytes Kd.wordW ⟨y1, y2, y3, y4, y5, y6⟩ == xs) := ⟨_, rfl⟩
        have KE0 := fun X A1 n1 c1 (h1 : Sl X X.heap.size A1 n1 (bs (Kd.bytes Kd.wordW ⟨y1, y2, y3, y4, y5, y6⟩))) (h2 : Sl X X.heap.size (some ⟨b, o, none⟩) n (bs xs)) => bytesEqual_any A1 (some ⟨b, o, none⟩) n1 c1 n c X.heap.size _ xs X h1 hby h2 HX.out
        rw [← hQ] at KE0 HP0
        have KE := Lib.hid KE0
        have HP := Lib.hid HP0
        clear KM0 HP0 KE0 hr hsm hwf q1 hby hQ hx
        cases Q
        case false =>
          go_enter Try.func20, Try.ntmps20
          go_wp2_with fail
          refine (KB.out _).mono ?_
          rintro e w1 ⟨rfl, rfl⟩
          dsimp only [kvO, kv, Option.isSome]
          go_wp2_with (first
            | (go_at_call 104; refine (KRd.out _ hb).mono ?_; rintro e w2 ⟨Ab, nb, cb, Aw, nw, cw, rfl, SB, SW, kb, kw, oB, oW, b2⟩; dsimp only at SB SW; have rz := row_alloc (b2.row (by simp) rz) (.cells #[.int .u8 (y1 : Nat), .int .u8 (y2 : Nat), .slice Ab nb cb, .slice Aw nw cw, .int .u16 (y5 : Nat), .int .u16 (y6 : Nat)] 36); have rq := heap_alloc_new w2 (.cells #[.int .u8 (y1 : Nat), .int .u8 (y2 : Nat), .slice Ab nb cb, .slice Aw nw cw, .int .u16 (y5 : Nat), .int .u16 (y6 : Nat)] 36); have hb := (hb.call b2).new (.cells #[.int .u8 (y1 : Nat), .int .u8 (y2 : Nat), .slice Ab nb cb, .slice Aw nw cw, .int .u16 (y5 : Nat), .int .u16 (y6 : Nat)] 36); have SB := SB.to ((Below.refl _ w2).new (.cells #[.int .u8 (y1 : Nat), .int .u8 (y2 : Nat), .slice Ab nb cb, .slice Aw nw cw, .int .u16 (y5 : Nat), .int .u16 (y6 : Nat)] 36)); have SW := SW.to ((Below.refl _ w2).new (.cells #[.int .u8 (y1 : Nat), .int .u8 (y2 : Nat), .slice Ab nb cb, .slice Aw nw cw, .int .u16 (y5 : Nat), .int .u16 (y6 : Nat)] 36)); have hl2 := b2.size; simp at hl2; clear b2)
            | (go_at_call 105; refine (KM.out _ _ _ _ _ _ _ SB SW).mono ?_; rintro e w3 ⟨rfl, b3⟩; have rz := b3.row (row_lt rz) rz; have rq := b3.row (row_lt rq) rq; have hb := hb.call b3; have SB := SB.to b3; have SW := SW.to b3; obtain ⟨c0, c1, c2, c3, c4, c5⟩ := row6 rq; clear b3)
            | (go_at_call 103; refine (KBy.out _ _ _ _ _ _ _ SB SW).mono ?_; rintro e w4 ⟨v, rfl, H⟩; obtain ⟨Av, cv, rfl, hcv, SV, _⟩ := H.slice; have rz := H.bel.row (row_lt rz) rz; have rq := H.bel.row (row_lt rq) rq; have hb := hb.call H.bel; have SB := SB.to H.bel; have SW := SW.to H.bel; clear H)
            | (go_at_call 41; refine (KE.out _ _ _ _ SV (HS.out.to hb)).mono ?_; rintro e w5 ⟨rfl, rfl⟩)
            | (refine wpList_store_grown rfl 36 (.tmp 2) _ rfl w.heap.size #[.int .u8 0, .int .u8 0, .slice none 0 0, .slice none 0 0, .int .u16 0, .int .u16 0] rfl rfl 36 _ rz (by kernel_rfl) rfl (by simp [Value.oneCell']) ?_; intro w9 h9 g9 s9))
          refine bodyPost_row_tmp rfl w.heap.size 36 #[.int .u8 0, .int .u8 0, .slice none 0 0, .slice none 0 0, .int .u16 0, .int .u16 0] (0, 0) _ (.int .i64 13) rfl h9 Try.underlying36 rfl (by kernel_rfl) rfl rfl ?_
          rw [HP.out]
          exact RetRepTag.bare _ _ (hb.grown g9 hb.size (fun k hk => by injection hk with hk; omega))
        case true =>
          go_enter Try.func20, Try.ntmps20
          go_wp2_with fail
          refine (KB.out _).mono ?_
          rintro e w1 ⟨rfl, rfl⟩
          dsimp only [kvO, kv, Option.isSome]
          go_wp2_with (first
            | (go_at_call 104; refine (KRd.out _ hb).mono ?_; rintro e w2 ⟨Ab, nb, cb, Aw, nw, cw, rfl, SB, SW, kb, kw, oB, oW, b2⟩; dsimp only at SB SW; have rz := row_alloc (b2.row (by simp) rz) (.cells #[.int .u8 (y1 : Nat), .int .u8 (y2 : Nat), .slice Ab nb cb, .slice Aw nw cw, .int .u16 (y5 : Nat), .int .u16 (y6 : Nat)] 36); have rq := heap_alloc_new w2 (.cells #[.int .u8 (y1 : Nat), .int .u8 (y2 : Nat), .slice Ab nb cb, .slice Aw nw cw, .int .u16 (y5 : Nat), .int .u16 (y6 : Nat)] 36); have hb := (hb.call b2).new (.cells #[.int .u8 (y1 : Nat), .int .u8 (y2 : Nat), .slice Ab nb cb, .slice Aw nw cw, .int .u16 (y5 : Nat), .int .u16 (y6 : Nat)] 36); have SB := SB.to ((Below.refl _ w2).new (.cells #[.int .u8 (y1 : Nat), .int .u8 (y2 : Nat), .slice Ab nb cb, .slice Aw nw cw, .int .u16 (y5 : Nat), .int .u16 (y6 : Nat)] 36)); have SW := SW.to ((Below.refl _ w2).new (.cells #[.int .u8 (y1 : Nat), .int .u8 (y2 : Nat), .slice Ab nb cb, .slice Aw nw cw, .int .u16 (y5 : Nat), .int .u16 (y6 : Nat)] 36)); have hl2 := b2.size; simp at hl2; clear b2)
            | (go_at_call 105; refine (KM.out _ _ _ _ _ _ _ SB SW).mono ?_; rintro e w3 ⟨rfl, b3⟩; have rz := b3.row (row_lt rz) rz; have rq := b3.row (row_lt rq) rq; have hb := hb.call b3; have SB := SB.to b3; have SW := SW.to b3; obtain ⟨c0, c1, c2, c3, c4, c5⟩ := row6 rq; clear b3)
            | (go_at_call 103; refine (KBy.out _ _ _ _ _ _ _ SB SW).mono ?_; rintro e w4 ⟨v, rfl, H⟩; obtain ⟨Av, cv, rfl, hcv, SV, _⟩ := H.slice; have rz := H.bel.row (row_lt rz) rz; have rq := H.bel.row (row_lt rq) rq; have hb := hb.call H.bel; have SB := SB.to H.bel; have SW := SW.to H.bel; clear H)
            | (go_at_call 41; refine (KE.out _ _ _ _ SV (HS.out.to hb)).mono ?_; rintro e w5 ⟨rfl, rfl⟩)
            | (refine wpList_load_row rfl 36 (.tmp 6) rfl w2.heap.size rfl 36 #[.int .u8 (y1 : Nat), .int .u8 (y2 : Nat), .slice Ab nb cb, .slice Aw nw cw, .int .u16 (y5 : Nat), .int .u16 (y6 : Nat)] (0, 0) _ rq Try.underlying36 rfl (by kernel_rfl) ?_)
            | (refine wpList_store_grown rfl 36 (.tmp 2) _ rfl w.heap.size #[.int .u8 (y1 : Nat), .int .u8 (y2 : Nat), .slice Ab nb cb, .slice Aw nw cw, .int .u16 (y5 : Nat), .int .u16 (y6 : Nat)] rfl rfl 36 _ rz (by kernel_rfl) rfl (by simp [Value.oneCell']) ?_; intro w9 h9 g9 s9))
          refine bodyPost_row_tmp rfl w.heap.size 36 #[.int .u8 (y1 : Nat), .int .u8 (y2 : Nat), .slice Ab nb cb, .slice Aw nw cw, .int .u16 (y5 : Nat), .int .u16 (y6 : Nat)] (0, 0) _ (.int .i64 0) rfl h9 Try.underlying36 rfl (by kernel_rfl) rfl rfl ?_
          rw [HP.out]
          exact ⟨Ab, nb, cb, Aw, nw, cw, rfl, SB.grown g9 (fun b o h e => by have := oB b o h; simp at this; injection e with e; omega), SW.grown g9 (fun b o h e => by have := oW b o h; simp at this; injection e with e; omega), kb, kw, (fun b o h => by have := oB b o h; simp at this; omega), (fun b o h => by have := oW b o h; simp at this; omega), hb.grown g9 hb.size (fun k hk => by injection hk with hk; omega)⟩
    | manyW mo =>
      have KRd0 := fun X (bb : Below w.heap.size w X) => kread_manyW mo (some ⟨b, o, none⟩) n c xs X (hs.to bb) hx hn1 hn2 hc
      have hm1 := m_manyW_read mo
      have hm2 := m_manyW_right mo
      have hm3 := m_manyW_bytes mo
      obtain ⟨r, er⟩ : ∃ r, r = Kd.read (Kd.manyW mo) xs := ⟨_, rfl⟩
      rw [← er] at HP0 hsm hwf KRd0
      obtain ⟨y1, y2, y3, y4, y5, y6⟩ := r
      dsimp only at hsm
      have KRd := Lib.hid KRd0
      have KM0 := fun X Ab nb cb Aw nw cw (h1 : Sl X X.heap.size Ab nb (bl y3)) (h2 : Sl X X.heap.size Aw nw (ws y4)) => right_manyW mo y1 y2 Ab nb cb Aw nw cw y5 y6 y3 y4 X h1 h2 (by have := h1.len; simp at this; omega) (by have := h2.len; simp at this; omega)
      clear er KRd0 hs
      cases hr : Kd.right (Kd.manyW mo) ⟨y1, y2, y3, y4, y5, y6⟩ with
      | false =>
        rw [hr] at KM0 HP0
        have KM := Lib.hid KM0
        have HP := Lib.hid HP0
        clear KM0 HP0 hr hsm hwf q1 hx
        go_enter Try.func20, Try.ntmps20
        go_wp2_with fail
        refine (KB.out _).mono ?_
        rintro e w1 ⟨rfl, rfl⟩
        dsimp only [kvO, kv, Option.isSome]
        go_wp2_with (first
          | (go_at_call 107; refine (KRd.out _ hb).mono ?_; rintro e w2 ⟨Ab, nb, cb, Aw, nw, cw, rfl, SB, SW, kb, kw, oB, oW, b2⟩; dsimp only at SB SW; have rz := row_alloc (b2.row (by simp) rz) (.cells #[.int .u8 (y1 : Nat), .int .u8 (y2 : Nat), .slice Ab nb cb, .slice Aw nw cw, .int .u16 (y5 : Nat), .int .u16 (y6 : Nat)] 36); have rq := heap_alloc_new w2 (.cells #[.int .u8 (y1 : Nat), .int .u8 (y2 : Nat), .slice Ab nb cb, .slice Aw nw cw, .int .u16 (y5 : Nat), .int .u16 (y6 : Nat)] 36); have hb := (hb.call b2).new (.cells #[.int .u8 (y1 : Nat), .int .u8 (y2 : Nat), .slice Ab nb cb, .slice Aw nw cw, .int .u16 (y5 : Nat), .int .u16 (y6 : Nat)] 36); have SB := SB.to ((Below.refl _ w2).new (.cells #[.int .u8 (y1 : Nat), .int .u8 (y2 : Nat), .slice Ab nb cb, .slice Aw nw cw, .int .u16 (y5 : Nat), .int .u16 (y6 : Nat)] 36)); have SW := SW.to ((Below.refl _ w2).new (.cells #[.int .u8 (y1 : Nat), .int .u8 (y2 : Nat), .slice Ab nb cb, .slice Aw nw cw, .int .u16 (y5 : Nat), .int .u16 (y6 : Nat)] 36)); have hl2 := b2.size; simp at hl2; clear b2)
          | (go_at_call 108; refine (KM.out _ _ _ _ _ _ _ SB SW).mono ?_; rintro e w3 ⟨rfl, b3⟩; have rz := b3.row (row_lt rz) rz; have rq := b3.row (row_lt rq) rq; have hb := hb.call b3; have SB := SB.to b3; have SW := SW.to b3; obtain ⟨c0, c1, c2, c3, c4, c5⟩ := row6 rq; clear b3)
          | (refine wpList_store_grown rfl 36 (.tmp 2) _ rfl w.heap.size #[.int .u8 0, .int .u8 0, .slice none 0 0, .slice none 0 0, .int .u16 0, .int .u16 0] rfl rfl 36 _ rz (by kernel_rfl) rfl (by simp [Value.oneCell']) ?_; intro w9 h9 g9 s9))
        refine bodyPost_row_tmp rfl w.heap.size 36 #[.int .u8 0, .int .u8 0, .slice none 0 0, .slice none 0 0, .int .u16 0, .int .u16 0] (0, 0) _ (.int .i64 13) rfl h9 Try.underlying36 rfl (by kernel_rfl) rfl rfl ?_
        rw [HP.out]
        exact RetRepTag.bare _ _ (hb.grown g9 hb.size (fun k hk => by injection hk with hk; omega))
      | true =>
        rw [hr] at KM0 HP0
        have KM := Lib.hid KM0
        have KBy := Lib.hid (fun X Ab nb cb Aw nw cw (h1 : Sl X X.heap.size Ab nb (bl y3)) (h2 : Sl X X.heap.size Aw nw (ws y4)) => kbytes_manyW mo y1 y2 Ab nb cb Aw nw cw y5 y6 y3 y4 X h1 h2 hwf )
        have hby := kbytes_lt (Kd.manyW mo) _ hwf
        obtain ⟨Q, hQ⟩ : ∃ Q, Q = (Kd.bytes (Kd.manyW mo) ⟨y1, y2, y3, y4, y5, y6⟩ == xs) := ⟨_, rfl⟩
        have KE0 := fun X A1 n1 c1 (h1 : Sl X X.heap.size A1 n1 (bs (Kd.bytes (Kd.manyW mo) ⟨y1, y2, y3, y4, y5, y6⟩))) (h2 : Sl X X.heap.size (some ⟨b, o, none⟩) n (bs xs)) => bytesEqual_any A1 (some ⟨b, o, none⟩) n1 c1 n c X.heap.size _ xs X h1 hby h2 HX.out
        rw [← hQ] at KE0 HP0
        have KE := Lib.hid KE0
        have HP := Lib.hid HP0
        clear KM0 HP0 KE0 hr hsm hwf q1 hby hQ hx
        cases Q
        case false =>
          go_enter Try.func20, Try.ntmps20
          go_wp2_with fail
          refine (KB.out _).mono ?_
          rintro e w1 ⟨rfl, rfl⟩
          dsimp only [kvO, kv, Option.isSome]
          go_wp2_with (first
            | (go_at_call 107; refine (KRd.out _ hb).mono ?_; rintro e w2 ⟨Ab, nb, cb, Aw, nw, cw, rfl, SB, SW, kb, kw, oB, oW, b2⟩; dsimp only at SB SW; have rz := row_alloc (b2.row (by simp) rz) (.cells #[.int .u8 (y1 : Nat), .int .u8 (y2 : Nat), .slice Ab nb cb, .slice Aw nw cw, .int .u16 (y5 : Nat), .int .u16 (y6 : Nat)] 36); have rq := heap_alloc_new w2 (.cells #[.int .u8 (y1 : Nat), .int .u8 (y2 : Nat), .slice Ab nb cb, .slice Aw nw cw, .int .u16 (y5 : Nat), .int .u16 (y6 : Nat)] 36); have hb := (hb.call b2).new (.cells #[.int .u8 (y1 : Nat), .int .u8 (y2 : Nat), .slice Ab nb cb, .slice Aw nw cw, .int .u16 (y5 : Nat), .int .u16 (y6 : Nat)] 36); have SB := SB.to ((Below.refl _ w2).new (.cells #[.int .u8 (y1 : Nat), .int .u8 (y2 : Nat), .slice Ab nb cb, .slice Aw nw cw, .int .u16 (y5 : Nat), .int .u16 (y6 : Nat)] 36)); have SW := SW.to ((Below.refl _ w2).new (.cells #[.int .u8 (y1 : Nat), .int .u8 (y2 : Nat), .slice Ab nb cb, .slice Aw nw cw, .int .u16 (y5 : Nat), .int .u16 (y6 : Nat)] 36)); have hl2 := b2.size; simp at hl2; clear b2)
            | (go_at_call 108; refine (KM.out _ _ _ _ _ _ _ SB SW).mono ?_; rintro e w3 ⟨rfl, b3⟩; have rz := b3.row (row_lt rz) rz; have rq := b3.row (row_lt rq) rq; have hb := hb.call b3; have SB := SB.to b3; have SW := SW.to b3; obtain ⟨c0, c1, c2, c3, c4, c5⟩ := row6 rq; clear b3)
            | (go_at_call 106; refine (KBy.out _ _ _ _ _ _ _ SB SW).mono ?_; rintro e w4 ⟨v, rfl, H⟩; obtain ⟨Av, cv, rfl, hcv, SV, _⟩ := H.slice; have rz := H.bel.row (row_lt rz) rz; have rq := H.bel.row (row_lt rq) rq; have hb := hb.call H.bel; have SB := SB.to H.bel; have SW := SW.to H.bel; clear H)
            | (go_at_call 41; refine (KE.out _ _ _ _ SV (HS.out.to hb)).mono ?_; rintro e w5 ⟨rfl, rfl⟩)
            | (refine wpList_store_grown rfl 36 (.tmp 2) _ rfl w.heap.size #[.int .u8 0, .int .u8 0, .slice none 0 0, .slice none 0 0, .int .u16 0, .int .u16 0] rfl rfl 36 _ rz (by kernel_rfl) rfl (by simp [Value.oneCell']) ?_; intro w9 h9 g9 s9))
          refine bodyPost_row_tmp rfl w.heap.size 36 #[.int .u8 0, .int .u8 0, .slice none 0 0, .slice none 0 0, .int .u16 0, .int .u16 0] (0, 0) _ (.int .i64 13) rfl h9 Try.underlying36 rfl (by kernel_rfl) rfl rfl ?_
          rw [HP.out]
          exact RetRepTag.bare _ _ (hb.grown g9 hb.size (fun k hk => by injection hk with hk; omega))
        case true =>
          go_enter Try.func20, Try.ntmps20
          go_wp2_with fail
          refine (KB.out _).mono ?_
          rintro e w1 ⟨rfl, rfl⟩
          dsimp only [kvO, kv, Option.isSome]
          go_wp2_with (first
            | (go_at_call 107; refine (KRd.out _ hb).mono ?_; rintro e w2 ⟨Ab, nb, cb, Aw, nw, cw, rfl, SB, SW, kb, kw, oB, oW, b2⟩; dsimp only at SB SW; have rz := row_alloc (b2.row (by simp) rz) (.cells #[.int .u8 (y1 : Nat), .int .u8 (y2 : Nat), .slice Ab nb cb, .slice Aw nw cw, .int .u16 (y5 : Nat), .int .u16 (y6 : Nat)] 36); have rq := heap_alloc_new w2 (.cells #[.int .u8 (y1 : Nat), .int .u8 (y2 : Nat), .slice Ab nb cb, .slice Aw nw cw, .int .u16 (y5 : Nat), .int .u16 (y6 : Nat)] 36); have hb := (hb.call b2).new (.cells #[.int .u8 (y1 : Nat), .int .u8 (y2 : Nat), .slice Ab nb cb, .slice Aw nw cw, .int .u16 (y5 : Nat), .int .u16 (y6 : Nat)] 36); have SB := SB.to ((Below.refl _ w2).new (.cells #[.int .u8 (y1 : Nat), .int .u8 (y2 : Nat), .slice Ab nb cb, .slice Aw nw cw, .int .u16 (y5 : Nat), .int .u16 (y6 : Nat)] 36)); have SW := SW.to ((Below.refl _ w2).new (.cells #[.int .u8 (y1 : Nat), .int .u8 (y2 : Nat), .slice Ab nb cb, .slice Aw nw cw, .int .u16 (y5 : Nat), .int .u16 (y6 : Nat)] 36)); have hl2 := b2.size; simp at hl2; clear b2)
            | (go_at_call 108; refine (KM.out _ _ _ _ _ _ _ SB SW).mono ?_; rintro e w3 ⟨rfl, b3⟩; have rz := b3.row (row_lt rz) rz; have rq := b3.row (row_lt rq) rq; have hb := hb.call b3; have SB := SB.to b3; have SW := SW.to b3; obtain ⟨c0, c1, c2, c3, c4, c5⟩ := row6 rq; clear b3)
            | (go_at_call 106; refine (KBy.out _ _ _ _ _ _ _ SB SW).mono ?_; rintro e w4 ⟨v, rfl, H⟩; obtain ⟨Av, cv, rfl, hcv, SV, _⟩ := H.slice; have rz := H.bel.row (row_lt rz) rz; have rq := H.bel.row (row_lt rq) rq; have hb := hb.call H.bel; have SB := SB.to H.bel; have SW := SW.to H.bel; clear H)
            | (go_at_call 41; refine (KE.out _ _ _ _ SV (HS.out.to hb)).mono ?_; rintro e w5 ⟨rfl, rfl⟩)
            | (refine wpList_load_row rfl 36 (.tmp 6) rfl w2.heap.size rfl 36 #[.int .u8 (y1 : Nat), .int .u8 (y2 : Nat), .slice Ab nb cb, .slice Aw nw cw, .int .u16 (y5 : Nat), .int .u16 (y6 : Nat)] (0, 0) _ rq Try.underlying36 rfl (by kernel_rfl) ?_)
            | (refine wpList_store_grown rfl 36 (.tmp 2) _ rfl w.heap.size #[.int .u8 (y1 : Nat), .int .u8 (y2 : Nat), .slice Ab nb cb, .slice Aw nw cw, .int .u16 (y5 : Nat), .int .u16 (y6 : Nat)] rfl rfl 36 _ rz (by kernel_rfl) rfl (by simp [Value.oneCell']) ?_; intro w9 h9 g9 s9))
          refine bodyPost_row_tmp rfl w.heap.size 36 #[.int .u8 (y1 : Nat), .int .u8 (y2 : Nat), .slice Ab nb cb, .slice Aw nw cw, .int .u16 (y5 : Nat), .int .u16 (y6 : Nat)] (0, 0) _ (.int .i64 0) rfl h9 Try.underlying36 rfl (by kernel_rfl) rfl rfl ?_
          rw [HP.out]
          exact ⟨Ab, nb, cb, Aw, nw, cw, rfl, SB.grown g9 (fun b o h e => by have := oB b o h; simp at this; injection e with e; omega), SW.grown g9 (fun b o h e => by have := oW b o h; simp at this; injection e with e; omega), kb, kw, (fun b o h => by have := oB b o h; simp at this; omega), (fun b o h => by have := oW b o h; simp at this; omega), hb.grown g9 hb.size (fun k hk => by injection hk with hk; omega)⟩
end Go.Proofs.Ytiibopdnlmnkmaa.AskW
