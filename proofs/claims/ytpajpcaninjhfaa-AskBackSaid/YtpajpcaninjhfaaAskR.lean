/- The walk of ask.Look. -/
import Derived.Test.YtpajpcaninjhfaaAskQ
set_option linter.unusedVariables false
set_option linter.unusedSimpArgs false
namespace Go.Proofs.Ytpajpcaninjhfaa.AskW
open Go.RowKit Go.Proofs.Ytpajpcaninjhfaa Go.Proofs.Ytpajpcaninjhfaa.Ask
/-- A request and a number beside it are handed back. -/
def RetReqTag (w : World) (r : Req) (k : IntKind) (n : Int) (e : Ending) (w' : World) : Prop := ∃ Aw nw cw Ab nb cb, e = .returned (.tuple #[.agg #[.int .u8 r.f, .int .u16 r.at', .int .u16 r.many, .int .u16 r.to, .slice Aw nw cw, .slice Ab nb cb], .int k n]) ∧
  Sl w' w'.heap.size Aw nw (ws r.words) ∧ Sl w' w'.heap.size Ab nb (bl r.bits) ∧ nw ≤ cw ∧ nb ≤ cb ∧ (∀ b o, Aw = some (⟨b, o, none⟩ : Addr) → w.heap.size ≤ b) ∧ (∀ b o, Ab = some (⟨b, o, none⟩ : Addr) → w.heap.size ≤ b) ∧ Below w.heap.size w w'
theorem RetReqTag.bare {w w' : World} (f : Nat) (k : IntKind) (n : Int) (h : Below w.heap.size w w') : RetReqTag w (bare f) k n (.returned (.tuple #[.agg #[.int .u8 f, .int .u16 0, .int .u16 0, .int .u16 0, .slice none 0 0, .slice none 0 0], .int k n])) w' :=
  ⟨none, 0, 0, none, 0, 0, rfl, Sl.empty _ _ _, Sl.empty _ _ _, Nat.le_refl _, Nat.le_refl _, (fun _ _ h => by cases h), (fun _ _ h => by cases h), h⟩
/-- What bytes say, and what is wrong with them. -/
def lookF (xs : List Nat) : Req × Nat :=
  if xs.length = 0 then (bare 0, 1)
  else if (fld (xs[0]?.getD 0)).isSome = false then (bare (xs[0]?.getD 0), 1)
  else if 253 < xs.length then (bare (xs[0]?.getD 0), 3)
  else if right (rd xs) && bytes (rd xs) == xs then (rd xs, 0)
  else (bare (xs[0]?.getD 0), 3)
theorem two_lt {n : Nat} (h : n < 65536) : Bytes (two n) := by
  intro c hc
  simp only [two, List.mem_cons, List.not_mem_nil, or_false] at hc
  rcases hc with rfl | rfl <;> omega
theorem Bytes.app {l r : List Nat} (h : Bytes l) (k : Bytes r) : Bytes (l ++ r) := by
  intro c hc
  rcases List.mem_append.1 hc with hc | hc
  · exact h c hc
  · exact k c hc
theorem Bytes.nil : Bytes [] := fun c hc => by cases hc
theorem Bytes.one {x : Nat} (h : x < 256) : Bytes [x] := fun c hc => by
  simp only [List.mem_cons, List.not_mem_nil, or_false] at hc
  rw [hc]; exact h
theorem twos_lt {l : List Nat} (h : ∀ x ∈ l, x < 65536) : Bytes (twos l) := by
  intro c hc
  obtain ⟨x, hx, hc⟩ := List.mem_flatMap.1 hc
  exact two_lt (h x hx) c hc
theorem fbytes_lt (fm : Nat) (ft : Bool) (fb fw : Nat) (r : Req) (h : r.Wf) (hl : r.words.length < 65536) : Bytes (fbytes fm ft fb fw r) := by
  have hh : Bytes (r.f :: two r.at' ++ (if 0 < fm then two r.many else []) ++ (if ft then two r.to ++ two r.words.length else [])) := by
    refine Bytes.app (Bytes.app (Bytes.app (Bytes.one h.f) (two_lt h.at')) ?_) ?_
    · split
      · exact two_lt h.many
      · exact Bytes.nil
    · split
      · exact Bytes.app (two_lt h.to) (two_lt hl)
      · exact Bytes.nil
  unfold fbytes
  dsimp only
  split
  · refine Bytes.app hh (two_lt ?_)
    split <;> decide
  · refine Bytes.app (Bytes.app hh ?_) (Bytes.app (pack_bytes _) (twos_lt h.words))
    split
    · exact Bytes.one (by omega)
    · exact Bytes.nil
theorem bytes_lt (r : Req) (h : r.Wf) (hl : r.words.length < 65536) : Bytes (bytes r) := fbytes_lt _ _ _ _ r h hl
theorem rd_words (xs : List Nat) : (rd xs).words.length ≤ xs.length := by
  unfold rd; dsimp only; repeat' split
  all_goals first | exact Nat.zero_le _ | (refine Nat.le_trans (nums_len _) ?_; simp)
set_option maxHeartbeats 8000000 in
theorem look_any (A : Option Addr) (n c : Nat) (xs : List Nat) (w : World) (hs : Sl w w.heap.size A n (bs xs)) (hx : Bytes xs) (hn2 : n ≤ 300) (hc : n ≤ c) :
    Calls Try.prog 20 #[.slice A n c] w (RetReqTag w (lookF xs).1 .u8 (lookF xs).2) := by
  have q1 : xs.length = n := by simpa using hs.len
  have HL := Lib.hid (show lookF xs = if xs.length = 0 then (bare 0, 1) else if (fld (xs[0]?.getD 0)).isSome = false then (bare (xs[0]?.getD 0), 1) else if 253 < xs.length then (bare (xs[0]?.getD 0), 3) else if right (rd xs) && bytes (rd xs) == xs then (rd xs, 0) else (bare (xs[0]?.getD 0), 3) from rfl)
  rw [q1] at HL
  obtain ⟨LF, hLF⟩ : ∃ LF, LF = lookF xs := ⟨_, rfl⟩
  rw [← hLF] at HL ⊢
  clear hLF
  by_cases h0 : n = 0
  · subst h0
    clear q1
    go_enter Try.func20, Try.ntmps20
    go_wp2_with (refine wpList_store_grown rfl 26 (.tmp 2) _ rfl w.heap.size #[.int .u8 0, .int .u16 0, .int .u16 0, .int .u16 0, .slice none 0 0, .slice none 0 0] rfl rfl 26 _ (heap_alloc_new w _) (by kernel_rfl) rfl (by simp [Value.oneCell']) ?_; intro w9 h9 g9 s9)
    refine bodyPost_row_tmp rfl w.heap.size 26 #[.int .u8 0, .int .u16 0, .int .u16 0, .int .u16 0, .slice none 0 0, .slice none 0 0] (0, 0) _ (.int .u8 1) rfl h9 Try.underlying26 rfl (by kernel_rfl) rfl rfl ?_
    rw [HL.out, if_pos trivial]
    exact RetReqTag.bare 0 _ _ (((Below.refl _ _).new _).grown g9 (by simp) (fun k hk => by injection hk with hk; omega))
  obtain ⟨b, o, rfl, hbl, d1⟩ := hs.2 (by omega)
  have g1 : w.cell? ⟨b, o, none⟩ = _ := (d1 0 (by omega)).trans (bs_get (by omega))
  have z1 : (0 : Int) < (n : Int) := by omega
  have z0 : ((n : Int) == 0) = false := by rw [beq_eq_false_iff_ne]; omega
  rw [if_neg h0] at HL
  have HRD := Lib.hid (right_of_fld (rd xs).f (rd xs).at' (rd xs).many (rd xs).to (rd xs).words (rd xs).bits)
  have hm : (rd xs).many < 65536 := (rd_wf hx).many
  have KR := Lib.hid (fun X hs hk => read_any (some ⟨b, o, none⟩) n c xs X hs hx (by omega) hn2 hc hk)
  have K2 := Lib.hid (fun Aw nw cw Ab nb cb X => fright_any (fldOf (rd xs).f).many (fldOf (rd xs).f).to (fldOf (rd xs).f).bits (fldOf (rd xs).f).words (rd xs).f (rd xs).at' (rd xs).many (rd xs).to Aw nw cw Ab nb cb hm X)
  have K3 := Lib.hid (fun Aw nw cw Ab nb cb X hW hB hr => fbytesAll_any (rd xs).f (rd xs).at' (rd xs).many (rd xs).to Aw nw cw Ab nb cb (rd xs).words (rd xs).bits X hW hB (rd_wf hx) hr)
  have HBY := Lib.hid (bytes_lt (rd xs) (rd_wf hx) (by have := rd_words xs; omega))
  have HX := Lib.hid hx
  have eF : fldOf (rd xs).f = fldOf (xs[0]?.getD 0) := by rw [rd_f]
  have eI : (fld (rd xs).f).isSome = (fld (xs[0]?.getD 0)).isSome := by rw [rd_f]
  rw [eF, eI] at HRD
  rw [eF] at K2 K3
  clear eF eI
  obtain ⟨x, ex⟩ : ∃ x, x = xs[0]?.getD 0 := ⟨_, rfl⟩
  rw [← ex] at g1 HL HRD K2 K3 KR
  have K1 := Lib.hid (fun W => find_any x W)
  have HEX := Lib.hid ex
  clear ex d1 hm h0 hx q1
  obtain ⟨O, hO⟩ : ∃ O, O = (fld x).isSome := ⟨_, rfl⟩
  obtain ⟨D, hD⟩ : ∃ D, D = fldOf x := ⟨_, rfl⟩
  rw [← hO, ← hD] at K1 HRD
  rw [← hO] at HL KR
  rw [← hD] at K2 K3 KR
  clear hO hD
  have HS := Lib.hid hs
  clear hs
  go_enter Try.func20, Try.ntmps20
  go_wp2_with fail
  refine (K1.out _).mono ?_
  rintro e w1 ⟨rfl, b1⟩
  have rz := b1.row (by simp; omega) (row_alloc (heap_alloc_new w _) _)
  have ra := b1.row (by simp) (heap_alloc2_new w _ _)
  have hb := Below.call (Below.new (Below.new (Below.refl _ w) _) _) b1
  have hlt : w.heap.size + 1 < w1.heap.size := by have := b1.size; simp at this; omega
  clear b1
  cases O
  · go_wp2_with (first
      | (refine wpList_load_row rfl 26 (.tmp 4) rfl (w.heap.size + 1) rfl 26 #[.int .u8 (x : Nat), .int .u16 0, .int .u16 0, .int .u16 0, .slice none 0 0, .slice none 0 0] (0, 0) _ (row_alloc ra _) Try.underlying26 rfl (by kernel_rfl) ?_)
      | (refine wpList_store_grown rfl 26 (.tmp 2) _ rfl w.heap.size #[.int .u8 (x : Nat), .int .u16 0, .int .u16 0, .int .u16 0, .slice none 0 0, .slice none 0 0] rfl rfl 26 _ (row_alloc rz _) (by kernel_rfl) rfl (by simp [Value.oneCell']) ?_; intro w9 h9 g9 s9))
    refine bodyPost_row_tmp rfl w.heap.size 26 #[.int .u8 (x : Nat), .int .u16 0, .int .u16 0, .int .u16 0, .slice none 0 0, .slice none 0 0] (0, 0) _ (.int .u8 1) rfl h9 Try.underlying26 rfl (by kernel_rfl) rfl rfl ?_
    rw [HL.out, if_pos trivial]
    exact RetReqTag.bare x _ _ ((hb.new _).grown g9 (by simp; omega) (fun k hk => by injection hk with hk; omega))
  rw [if_neg (by decide)] at HL
  by_cases h253 : 253 < n
  · have z3 : (253 : Int) < (n : Int) := by omega
    go_wp2_with (first
      | (refine wpList_load_row rfl 26 (.tmp 4) rfl (w.heap.size + 1) rfl 26 #[.int .u8 (x : Nat), .int .u16 0, .int .u16 0, .int .u16 0, .slice none 0 0, .slice none 0 0] (0, 0) _ (row_alloc ra _) Try.underlying26 rfl (by kernel_rfl) ?_)
      | (refine wpList_store_grown rfl 26 (.tmp 2) _ rfl w.heap.size #[.int .u8 (x : Nat), .int .u16 0, .int .u16 0, .int .u16 0, .slice none 0 0, .slice none 0 0] rfl rfl 26 _ (row_alloc rz _) (by kernel_rfl) rfl (by simp [Value.oneCell']) ?_; intro w9 h9 g9 s9))
    refine bodyPost_row_tmp rfl w.heap.size 26 #[.int .u8 (x : Nat), .int .u16 0, .int .u16 0, .int .u16 0, .slice none 0 0, .slice none 0 0] (0, 0) _ (.int .u8 3) rfl h9 Try.underlying26 rfl (by kernel_rfl) rfl rfl ?_
    rw [HL.out, if_pos h253]
    exact RetReqTag.bare x _ _ ((hb.new _).grown g9 (by simp; omega) (fun k hk => by injection hk with hk; omega))
  have z3 : ¬ (253 : Int) < (n : Int) := by omega
  rw [if_neg h253] at HL
  go_wp2_with fail
  have rf := heap_alloc_new w1 (.cells #[.int .i64 D.many, .bool D.to, .int .u8 D.bits, .int .u8 D.words] 55)
  have rz := row_alloc rz (.cells #[.int .i64 D.many, .bool D.to, .int .u8 D.bits, .int .u8 D.words] 55)
  have ra := row_alloc ra (.cells #[.int .i64 D.many, .bool D.to, .int .u8 D.bits, .int .u8 D.words] 55)
  have hb := hb.new (.cells #[.int .i64 D.many, .bool D.to, .int .u8 D.bits, .int .u8 D.words] 55)
  refine (KR.out _ (HS.out.to hb) trivial).mono ?_
  rintro e w2 ⟨Aw, nw, cw, Ab, nb, cb, rfl, SW, SB, hcw, hcb, oW, oB, b2⟩
  have qW : (rd xs).words.length = nw := by simpa using SW.len
  have qB : (rd xs).bits.length = nb := by simpa using SB.len
  have HRD2 : Hid _ := HRD
  rw [qW, qB] at HRD2
  have rf := b2.row (by simp) rf
  have rz := b2.row (by simp; omega) rz
  have ra := b2.row (by simp; omega) ra
  have hb := hb.call b2
  have hlt2 : w1.heap.size < w2.heap.size := by have := b2.size; simp at this; omega
  clear b2 qW qB HRD
  obtain ⟨p0, p1, p2, p3⟩ := row4 rf
  obtain ⟨R, hR⟩ : ∃ R, R = (!(decide (D.many < (rd xs).many) || ((rd xs).many == 0 && decide (0 < D.many))) && ((D.to || (rd xs).to == 0) && fits D.bits nb (rd xs).many && fits D.words nw (rd xs).many)) := ⟨_, rfl⟩
  have K2' := Lib.hid (K2.out Aw nw cw Ab nb cb)
  have K3' := Lib.hid (K3.out Aw nw cw Ab nb cb)
  rw [← hR] at HRD2 K2'
  clear K2 K3 KR K1 hR
  obtain ⟨Y, hY⟩ : ∃ Y, Y = rd xs := ⟨_, rfl⟩
  rw [← hY] at HL HRD2 K2' K3' HBY SW SB
  rw [← hY]
  clear hY
  obtain ⟨y1, y2, y3, y4, y5, y6⟩ := Y
  dsimp only at HL HRD2 K2' K3' HBY SW SB
  dsimp only
  go_wp2_with fail
  refine (K2'.out _).mono ?_
  rintro e w3 ⟨rfl, b3⟩
  have rq := b3.row (by simp) (heap_alloc_new w2 _)
  have rf := b3.row (by simp; omega) (row_alloc rf _)
  have rz := b3.row (by simp; omega) (row_alloc rz _)
  have ra := b3.row (by simp; omega) (row_alloc ra _)
  have hb := (hb.new _).call b3
  have SW := (SW.to ((Below.refl _ _).new _)).to b3
  have SB := (SB.to ((Below.refl _ _).new _)).to b3
  have hlt3 : w2.heap.size < w3.heap.size := by have := b3.size; simp at this; omega
  clear b3
  obtain ⟨q0, q1, q2, q3, q4, q5⟩ := row6 rq
  obtain ⟨p0, p1, p2, p3⟩ := row4 rf
  have HRR : Hid (right ⟨y1, y2, y3, y4, y5, y6⟩ = R) := by
    have := HRD2.out
    simpa [Hid] using this
  cases R
  · go_wp2_with (first
      | (refine wpList_load_row rfl 26 (.tmp 4) rfl (w.heap.size + 1) rfl 26 #[.int .u8 (x : Nat), .int .u16 0, .int .u16 0, .int .u16 0, .slice none 0 0, .slice none 0 0] (0, 0) _ ra Try.underlying26 rfl (by kernel_rfl) ?_)
      | (refine wpList_store_grown rfl 26 (.tmp 2) _ rfl w.heap.size #[.int .u8 (x : Nat), .int .u16 0, .int .u16 0, .int .u16 0, .slice none 0 0, .slice none 0 0] rfl rfl 26 _ rz (by kernel_rfl) rfl (by simp [Value.oneCell']) ?_; intro w9 h9 g9 s9))
    refine bodyPost_row_tmp rfl w.heap.size 26 #[.int .u8 (x : Nat), .int .u16 0, .int .u16 0, .int .u16 0, .slice none 0 0, .slice none 0 0] (0, 0) _ (.int .u8 3) rfl h9 Try.underlying26 rfl (by kernel_rfl) rfl rfl ?_
    rw [HL.out, HRR.out]
    exact RetReqTag.bare x _ _ (hb.grown g9 hb.size (fun k hk => by injection hk with hk; omega))
  · go_wp2_with fail
    refine (K3'.out _ SW SB HRR.out).mono ?_
    rintro e w4 ⟨v, rfl, H⟩
    obtain ⟨Av, cv, rfl, hcv, SV, _⟩ := H.slice
    have rq := H.bel.row (by omega) rq
    have rz := H.bel.row (by omega) rz
    have ra := H.bel.row (by omega) ra
    have hb := hb.call H.bel
    have SW := SW.to H.bel
    have SB := SB.to H.bel
    have KE := Lib.hid (bytesEqual_any Av (some ⟨b, o, none⟩) _ cv n c w4.heap.size _ xs w4 SV HBY.out (HS.out.to hb) HX.out)
    obtain ⟨Q, hQ⟩ : ∃ Q, Q = (bytes ⟨y1, y2, y3, y4, y5, y6⟩ == xs) := ⟨_, rfl⟩
    rw [← hQ] at HL KE
    clear H hQ SV
    go_wp2_with fail
    refine KE.out.mono ?_
    rintro e w5 ⟨rfl, rfl⟩
    cases Q
    · go_wp2_with (first
        | (refine wpList_load_row rfl 26 (.tmp 4) rfl (w.heap.size + 1) rfl 26 #[.int .u8 (x : Nat), .int .u16 0, .int .u16 0, .int .u16 0, .slice none 0 0, .slice none 0 0] (0, 0) _ ra Try.underlying26 rfl (by kernel_rfl) ?_)
        | (refine wpList_store_grown rfl 26 (.tmp 2) _ rfl w.heap.size #[.int .u8 (x : Nat), .int .u16 0, .int .u16 0, .int .u16 0, .slice none 0 0, .slice none 0 0] rfl rfl 26 _ rz (by kernel_rfl) rfl (by simp [Value.oneCell']) ?_; intro w9 h9 g9 s9))
      refine bodyPost_row_tmp rfl w.heap.size 26 #[.int .u8 (x : Nat), .int .u16 0, .int .u16 0, .int .u16 0, .slice none 0 0, .slice none 0 0] (0, 0) _ (.int .u8 3) rfl h9 Try.underlying26 rfl (by kernel_rfl) rfl rfl ?_
      rw [HL.out, HRR.out]
      exact RetReqTag.bare x _ _ (hb.grown g9 hb.size (fun k hk => by injection hk with hk; omega))
    · go_wp2_with (first
        | (refine wpList_load_row rfl 26 (.tmp 7) rfl (w2.heap.size) rfl 26 #[.int .u8 (y1 : Nat), .int .u16 (y2 : Nat), .int .u16 (y3 : Nat), .int .u16 (y4 : Nat), .slice Aw nw cw, .slice Ab nb cb] (0, 0) _ rq Try.underlying26 rfl (by kernel_rfl) ?_)
        | (refine wpList_store_grown rfl 26 (.tmp 2) _ rfl w.heap.size #[.int .u8 (y1 : Nat), .int .u16 (y2 : Nat), .int .u16 (y3 : Nat), .int .u16 (y4 : Nat), .slice Aw nw cw, .slice Ab nb cb] rfl rfl 26 _ rz (by kernel_rfl) rfl (by simp [Value.oneCell']) ?_; intro w9 h9 g9 s9))
      refine bodyPost_row_tmp rfl w.heap.size 26 #[.int .u8 (y1 : Nat), .int .u16 (y2 : Nat), .int .u16 (y3 : Nat), .int .u16 (y4 : Nat), .slice Aw nw cw, .slice Ab nb cb] (0, 0) _ (.int .u8 0) rfl h9 Try.underlying26 rfl (by kernel_rfl) rfl rfl ?_
      rw [HL.out, HRR.out]
      exact ⟨Aw, nw, cw, Ab, nb, cb, rfl, SW.grown g9 (fun b o h e => by have := oW b o h; simp at this; injection e with e; omega), SB.grown g9 (fun b o h e => by have := oB b o h; simp at this; injection e with e; omega), hcw, hcb, (fun b o h => by have := oW b o h; simp at this; omega), (fun b o h => by have := oB b o h; simp at this; omega), hb.grown g9 hb.size (fun k hk => by injection hk with hk; omega)⟩
end Go.Proofs.Ytpajpcaninjhfaa.AskW
