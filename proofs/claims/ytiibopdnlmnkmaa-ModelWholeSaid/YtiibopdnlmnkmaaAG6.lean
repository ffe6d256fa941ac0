/- Merged: AskP AskQ AskR AskS AskRT AskT AskU. -/
import Derived.Test.YtiibopdnlmnkmaaAG1
import Derived.Test.YtiibopdnlmnkmaaAG3
import Derived.Test.YtiibopdnlmnkmaaAG4
import Derived.Test.YtiibopdnlmnkmaaAG5
import Derived.Test.YtiibopdnlmnkmaaAG2
import Derived.Test.YtiibopdnlmnkmaaBase
/- Requests as bytes: what the fields of each function make of them. -/
set_option linter.unusedVariables false
set_option linter.unusedSimpArgs false
namespace Go.Proofs.Ytiibopdnlmnkmaa.AskW
open Go.RowKit Go.Proofs.Ytiibopdnlmnkmaa Go.Proofs.Ytiibopdnlmnkmaa.Ask
theorem fld_cases {f : Nat} (h : (fld f).isSome = true) : f = 1 ∨ f = 2 ∨ f = 3 ∨ f = 4 ∨ f = 5 ∨ f = 6 ∨ f = 15 ∨ f = 16 ∨ f = 23 := by
  unfold fld at h
  by_cases h1 : f = 1 ∨ f = 2
  · omega
  rw [if_neg h1] at h
  by_cases h2 : f = 3 ∨ f = 4
  · omega
  rw [if_neg h2] at h
  by_cases h3 : f = 5
  · omega
  rw [if_neg h3] at h
  by_cases h4 : f = 6
  · omega
  rw [if_neg h4] at h
  by_cases h5 : f = 15
  · omega
  rw [if_neg h5] at h
  by_cases h6 : f = 16
  · omega
  rw [if_neg h6] at h
  by_cases h7 : f = 23
  · omega
  rw [if_neg h7] at h
  cases h
theorem right_some {r : Req} (h : right r = true) : (fld r.f).isSome = true := by
  unfold right at h
  cases hf : fld r.f with
  | none => rw [hf] at h; cases h
  | some d => rfl
/-- The bytes of a request. -/
def bytes (r : Req) : List Nat := fbytes (fldOf r.f).many (fldOf r.f).to (fldOf r.f).bits (fldOf r.f).words r
/-- What is read of bytes. -/
def rd (xs : List Nat) : Req :=
  let f := xs[0]?.getD 0
  if f = 5 then ⟨f, num xs 1, 0, 0, [], [num xs 3 != 0]⟩
  else if f = 6 then ⟨f, num xs 1, 0, 0, nums (xs.drop 3), []⟩
  else if f = 15 then ⟨f, num xs 1, num xs 3, 0, [], (unpack (xs.drop 6)).take (num xs 3)⟩
  else if f = 16 then ⟨f, num xs 1, num xs 3, 0, nums (xs.drop 6), []⟩
  else if f = 23 then ⟨f, num xs 1, num xs 3, num xs 5, nums (xs.drop 10), []⟩
  else ⟨f, num xs 1, num xs 3, 0, [], []⟩
theorem rd_f (xs : List Nat) : (rd xs).f = xs[0]?.getD 0 := by
  unfold rd; dsimp only; repeat' split
  all_goals rfl
theorem nums_lt {xs : List Nat} : Bytes xs → ∀ y ∈ nums xs, y < 65536 := by
  induction xs using nums.induct with
  | case1 => intro _ y hy; cases hy
  | case2 x => intro h y hy; simp [nums] at hy; have := h x (by simp); omega
  | case3 x y r ih =>
    intro h z hz
    simp only [nums, List.mem_cons] at hz
    have h1 := h x (by simp)
    have h2 := h y (by simp)
    rcases hz with rfl | hz
    · omega
    · exact ih (fun c hc => h c (by simp [hc])) z hz
theorem rd_wf {xs : List Nat} (h : Bytes xs) : (rd xs).Wf := by
  have h0 := h.at 0
  have h1 := num_lt h 1
  have h3 := num_lt h 3
  have h5 := num_lt h 5
  unfold rd; dsimp only; repeat' split
  all_goals exact ⟨h0, h1, by first | exact h3 | exact Nat.zero_lt_succ _, by first | exact h5 | exact Nat.zero_lt_succ _, by first | exact nums_lt (h.drop _) | (intro x hx; cases hx)⟩
theorem read_any (A : Option Addr) (n c : Nat) (xs : List Nat) (w : World) (hs : Sl w w.heap.size A n (bs xs)) (hx : Bytes xs) (hn : 1 ≤ n) (hn2 : n ≤ 300) (hc : n ≤ c) (hk : (fld (xs[0]?.getD 0)).isSome = true) :
    Calls Try.prog 43 #[.agg #[.int .i64 (fldOf (xs[0]?.getD 0)).many, .bool (fldOf (xs[0]?.getD 0)).to, .int .u8 (fldOf (xs[0]?.getD 0)).bits, .int .u8 (fldOf (xs[0]?.getD 0)).words], .slice A n c] w (RetReq w (rd xs)) := by
  have hr : ∀ q, rd xs = q → RetReq w (rd xs) = RetReq w q := fun q h => by rw [h]
  rcases fld_cases hk with h | h | h | h | h | h | h | h | h
  · rw [hr ⟨xs[0]?.getD 0, num xs 1, num xs 3, 0, [], []⟩ (by simp [rd, h])]
    have := read_1 2000 (by decide) A n c xs w hs hx hn hn2 hc
    rw [h] at this ⊢
    exact this
  · rw [hr ⟨xs[0]?.getD 0, num xs 1, num xs 3, 0, [], []⟩ (by simp [rd, h])]
    have := read_1 2000 (by decide) A n c xs w hs hx hn hn2 hc
    rw [h] at this ⊢
    exact this
  · rw [hr ⟨xs[0]?.getD 0, num xs 1, num xs 3, 0, [], []⟩ (by simp [rd, h])]
    have := read_1 125 (by decide) A n c xs w hs hx hn hn2 hc
    rw [h] at this ⊢
    exact this
  · rw [hr ⟨xs[0]?.getD 0, num xs 1, num xs 3, 0, [], []⟩ (by simp [rd, h])]
    have := read_1 125 (by decide) A n c xs w hs hx hn hn2 hc
    rw [h] at this ⊢
    exact this
  · rw [hr ⟨xs[0]?.getD 0, num xs 1, 0, 0, [], [num xs 3 != 0]⟩ (by simp [rd, h])]
    have := read_2 0 (by decide) A n c xs w hs hx hn hn2 hc
    rw [h] at this ⊢
    exact this
  · rw [hr ⟨xs[0]?.getD 0, num xs 1, 0, 0, nums (xs.drop 3), []⟩ (by simp [rd, h])]
    have := read_3 0 (by decide) A n c xs w hs hx hn hn2 hc
    rw [h] at this ⊢
    exact this
  · rw [hr ⟨xs[0]?.getD 0, num xs 1, num xs 3, 0, [], (unpack (xs.drop 6)).take (num xs 3)⟩ (by simp [rd, h])]
    have := read_4 1968 (by decide) A n c xs w hs hx hn hn2 hc
    rw [h] at this ⊢
    exact this
  · rw [hr ⟨xs[0]?.getD 0, num xs 1, num xs 3, 0, nums (xs.drop 6), []⟩ (by simp [rd, h])]
    have := read_5 123 (by decide) A n c xs w hs hx hn hn2 hc
    rw [h] at this ⊢
    exact this
  · rw [hr ⟨xs[0]?.getD 0, num xs 1, num xs 3, num xs 5, nums (xs.drop 10), []⟩ (by simp [rd, h])]
    have := read_6 125 (by decide) A n c xs w hs hx hn hn2 hc
    rw [h] at this ⊢
    exact this
theorem fbytesAll_any (f a m t : Nat) (Aw : Option Addr) (nw cw : Nat) (Ab : Option Addr) (nb cb : Nat) (W : List Nat) (B : List Bool) (w : World)
    (hW : Sl w w.heap.size Aw nw (ws W)) (hB : Sl w w.heap.size Ab nb (bl B)) (hwf : Req.Wf ⟨f, a, m, t, W, B⟩) (hr : right ⟨f, a, m, t, W, B⟩ = true) :
    Calls Try.prog 45 #[.agg #[.int .i64 (fldOf f).many, .bool (fldOf f).to, .int .u8 (fldOf f).bits, .int .u8 (fldOf f).words], .agg #[.int .u8 f, .int .u16 a, .int .u16 m, .int .u16 t, .slice Aw nw cw, .slice Ab nb cb]] w
      fun e w' => ∃ v, e = .returned v ∧ Has w w' 5 v (bytes ⟨f, a, m, t, W, B⟩).length (bs (bytes ⟨f, a, m, t, W, B⟩)) := by
  have qW : W.length = nw := by simpa using hW.len
  have qB : B.length = nb := by simpa using hB.len
  have ha := hwf.at'
  have hm := hwf.many
  have ht := hwf.to
  have hww := hwf.words
  dsimp only at ha hm ht hww
  have hs := right_some hr
  dsimp only at hs
  rcases fld_cases hs with rfl | rfl | rfl | rfl | rfl | rfl | rfl | rfl | rfl
  all_goals simp [right, fld, Fld.right, fits, qW, qB] at hr
  · exact fbytes_1 2000 (by decide) 0 0 (by decide) (by decide) _ a m t Aw nw cw Ab nb cb W B w hW hB ha hm ht hww (by omega) (by omega)
  · exact fbytes_1 2000 (by decide) 0 0 (by decide) (by decide) _ a m t Aw nw cw Ab nb cb W B w hW hB ha hm ht hww (by omega) (by omega)
  · exact fbytes_1 125 (by decide) 0 0 (by decide) (by decide) _ a m t Aw nw cw Ab nb cb W B w hW hB ha hm ht hww (by omega) (by omega)
  · exact fbytes_1 125 (by decide) 0 0 (by decide) (by decide) _ a m t Aw nw cw Ab nb cb W B w hW hB ha hm ht hww (by omega) (by omega)
  · exact fbytes_5 _ a m t Aw nw cw Ab nb cb W B w hW hB ha (by omega)
  · exact fbytes_2 0 (by decide) 0 1 (by decide) (by decide) _ a m t Aw nw cw Ab nb cb W B w hW hB ha hm ht hww (by omega) (by omega)
  · exact fbytes_3 1968 (by decide) 2 0 (by decide) (by decide) _ a m t Aw nw cw Ab nb cb W B w hW hB ha hm ht hww (by omega) (by omega)
  · exact fbytes_3 123 (by decide) 0 2 (by decide) (by decide) _ a m t Aw nw cw Ab nb cb W B w hW hB ha hm ht hww (by omega) (by omega)
  · exact fbytes_4 125 (by decide) 0 3 (by decide) (by decide) _ a m t Aw nw cw Ab nb cb W B w hW hB ha hm ht hww (by omega) (by omega)
end Go.Proofs.Ytiibopdnlmnkmaa.AskW
/- The walk of ask.Bytes. -/
set_option linter.unusedVariables false
set_option linter.unusedSimpArgs false
namespace Go.Proofs.Ytiibopdnlmnkmaa.AskW
open Go.RowKit Go.Proofs.Ytiibopdnlmnkmaa Go.Proofs.Ytiibopdnlmnkmaa.Ask
/-- A row of its own, and an error. -/
def RetRowErr (w : World) (t : TypeId) (r : List Nat × Int) (e : Ending) (w' : World) : Prop := ∃ v, e = .returned (.tuple #[v, .int .i64 r.2]) ∧ Has w w' t v r.1.length (bs r.1)
/-- The bytes, or the error. -/
def bytesE (r : Req) : List Nat × Int := if right r then (bytes r, 0) else ([], 12)
end Go.Proofs.Ytiibopdnlmnkmaa.AskW
/- The walk of ask.Look. -/
set_option linter.unusedVariables false
set_option linter.unusedSimpArgs false
namespace Go.Proofs.Ytiibopdnlmnkmaa.AskW
open Go.RowKit Go.Proofs.Ytiibopdnlmnkmaa Go.Proofs.Ytiibopdnlmnkmaa.Ask
/-- A request and a number beside it are handed back. -/
def RetReqTag (w : World) (r : Req) (k : IntKind) (n : Int) (e : Ending) (w' : World) : Prop := ∃ Aw nw cw Ab nb cb, e = .returned (.tuple #[.agg #[.int .u8 r.f, .int .u16 r.at', .int .u16 r.many, .int .u16 r.to, .slice Aw nw cw, .slice Ab nb cb], .int k n]) ∧
  Sl w' w'.heap.size Aw nw (ws r.words) ∧ Sl w' w'.heap.size Ab nb (bl r.bits) ∧ nw ≤ cw ∧ nb ≤ cb ∧ (∀ b o, Aw = some (⟨b, o, none⟩ : Addr) → w.heap.size ≤ b) ∧ (∀ b o, Ab = some (⟨b, o, none⟩ : Addr) → w.heap.size ≤ b) ∧ Below w.heap.size w w'
theorem RetReqTag.bare {w w' : World} (f : Nat) (k : IntKind) (n : Int) (h : Below w.heap.size w w') : RetReqTag w (bare f) k n (.returned (.tuple #[.agg #[.int .u8 f, .int .u16 0, .int .u16 0, .int .u16 0, .slice none 0 0, .slice none 0 0], .int k n])) w' :=
  ⟨none, 0, 0, none, 0, 0, rfl, Sl.empty _ _ _, Sl.empty _ _ _, Nat.le_refl _, Nat.le_refl _, (fun _ _ h => by cases h), (fun _ _ h => by cases h), h⟩
/-- What bytes say, and what is wrong with them. -/
def lookF (xs : List Nat) : Req × Nat :=
  if xs.length = 0 then (bare 0, 1)
  else if (fld (xs[0]?.getD 0)).isSome = false then (bare (xs[0]?.getD 0), 1)
  else if 253 < xs.length then (bare (xs[0]?.getD 0), 3)
  else if right (rd xs) && bytes (rd xs) == xs then (rd xs, 0)
  else (bare (xs[0]?.getD 0), 3)
theorem two_lt {n : Nat} (h : n < 65536) : Bytes (two n) := by
  intro c hc
  simp only [two, List.mem_cons, List.not_mem_nil, or_false] at hc
  rcases hc with rfl | rfl <;> omega
theorem Bytes.app {l r : List Nat} (h : Bytes l) (k : Bytes r) : Bytes (l ++ r) := by
  intro c hc
  rcases List.mem_append.1 hc with hc | hc
  · exact h c hc
  · exact k c hc
theorem Bytes.nil : Bytes [] := fun c hc => by cases hc
theorem Bytes.one {x : Nat} (h : x < 256) : Bytes [x] := fun c hc => by
  simp only [List.mem_cons, List.not_mem_nil, or_false] at hc
  rw [hc]; exact h
theorem twos_lt {l : List Nat} (h : ∀ x ∈ l, x < 65536) : Bytes (twos l) := by
  intro c hc
  obtain ⟨x, hx, hc⟩ := List.mem_flatMap.1 hc
  exact two_lt (h x hx) c hc
theorem fbytes_lt (fm : Nat) (ft : Bool) (fb fw : Nat) (r : Req) (h : r.Wf) (hl : r.words.length < 65536) : Bytes (fbytes fm ft fb fw r) := by
  have hh : Bytes (r.f :: two r.at' ++ (if 0 < fm then two r.many else []) ++ (if ft then two r.to ++ two r.words.length else [])) := by
    refine Bytes.app (Bytes.app (Bytes.app (Bytes.one h.f) (two_lt h.at')) ?_) ?_
    · split
      · exact two_lt h.many
      · exact Bytes.nil
    · split
      · exact Bytes.app (two_lt h.to) (two_lt hl)
      · exact Bytes.nil
  unfold fbytes
  dsimp only
  split
  · refine Bytes.app hh (two_lt ?_)
    split <;> decide
  · refine Bytes.app (Bytes.app hh ?_) (Bytes.app (pack_bytes _) (twos_lt h.words))
    split
    · exact Bytes.one (by omega)
    · exact Bytes.nil
theorem bytes_lt (r : Req) (h : r.Wf) (hl : r.words.length < 65536) : Bytes (bytes r) := fbytes_lt _ _ _ _ r h hl
theorem rd_words (xs : List Nat) : (rd xs).words.length ≤ xs.length := by
  unfold rd; dsimp only; repeat' split
  all_goals first | exact Nat.zero_le _ | (refine Nat.le_trans (nums_len _) ?_; simp)
set_option maxHeartbeats 8000000 in
theorem look_any (A : Option Addr) (n c : Nat) (xs : List Nat) (w : World) (hs : Sl w w.heap.size A n (bs xs)) (hx : Bytes xs) (hn2 : n ≤ 300) (hc : n ≤ c) :
    Calls Try.prog 21 #[.slice A n c] w (RetReqTag w (lookF xs).1 .u8 (lookF xs).2) := by
  have q1 : xs.length = n := by simpa using hs.len
  have HL := Lib.hid (show lookF xs = if xs.length = 0 then (bare 0, 1) else if (fld (xs[0]?.getD 0)).isSome = false then (bare (xs[0]?.getD 0), 1) else if 253 < xs.length then (bare (xs[0]?.getD 0), 3) else if right (rd xs) && bytes (rd xs) == xs then (rd xs, 0) else (bare (xs[0]?.getD 0), 3) from rfl)
  rw [q1] at HL
  obtain ⟨LF, hLF⟩ : ∃ LF, LF = lookF xs := ⟨_, rfl⟩
  rw [← hLF] at HL ⊢
  clear hLF
  by_cases h0 : n = 0
  · subst h0
    clear q1
    go_enter Try.func21, Try.ntmps21
    go_wp2_with (refine wpList_store_grown rfl 31 (.tmp 2) _ rfl w.heap.size #[.int .u8 0, .int .u16 0, .int .u16 0, .int .u16 0, .slice none 0 0, .slice none 0 0] rfl rfl 31 _ (heap_alloc_new w _) (by kernel_rfl) rfl (by simp [Value.oneCell']) ?_; intro w9 h9 g9 s9)
    refine bodyPost_row_tmp rfl w.heap.size 31 #[.int .u8 0, .int .u16 0, .int .u16 0, .int .u16 0, .slice none 0 0, .slice none 0 0] (0, 0) _ (.int .u8 1) rfl h9 Try.underlying31 rfl (by kernel_rfl) rfl rfl ?_
    rw [HL.out, if_pos trivial]
    exact RetReqTag.bare 0 _ _ (((Below.refl _ _).new _).grown g9 (by simp) (fun k hk => by injection hk with hk; omega))
  obtain ⟨b, o, rfl, hbl, d1⟩ := hs.2 (by omega)
  have g1 : w.cell? ⟨b, o, none⟩ = _ := (d1 0 (by omega)).trans (bs_get (by omega))
  have z1 : (0 : Int) < (n : Int) := by omega
  have z0 : ((n : Int) == 0) = false := by rw [beq_eq_false_iff_ne]; omega
  rw [if_neg h0] at HL
  have HRD := Lib.hid (right_of_fld (rd xs).f (rd xs).at' (rd xs).many (rd xs).to (rd xs).words (rd xs).bits)
  have hm : (rd xs).many < 65536 := (rd_wf hx).many
  have KR := Lib.hid (fun X hs hk => read_any (some ⟨b, o, none⟩) n c xs X hs hx (by omega) hn2 hc hk)
  have K2 := Lib.hid (fun Aw nw cw Ab nb cb X => fright_any (fldOf (rd xs).f).many (fldOf (rd xs).f).to (fldOf (rd xs).f).bits (fldOf (rd xs).f).words (rd xs).f (rd xs).at' (rd xs).many (rd xs).to Aw nw cw Ab nb cb hm X)
  have K3 := Lib.hid (fun Aw nw cw Ab nb cb X hW hB hr => fbytesAll_any (rd xs).f (rd xs).at' (rd xs).many (rd xs).to Aw nw cw Ab nb cb (rd xs).words (rd xs).bits X hW hB (rd_wf hx) hr)
  have HBY := Lib.hid (bytes_lt (rd xs) (rd_wf hx) (by have := rd_words xs; omega))
  have HX := Lib.hid hx
  have eF : fldOf (rd xs).f = fldOf (xs[0]?.getD 0) := by rw [rd_f]
  have eI : (fld (rd xs).f).isSome = (fld (xs[0]?.getD 0)).isSome := by rw [rd_f]
  rw [eF, eI] at HRD
  rw [eF] at K2 K3
  clear eF eI
  obtain ⟨x, ex⟩ : ∃ x, x = xs[0]?.getD 0 := ⟨_, rfl⟩
  rw [← ex] at g1 HL HRD K2 K3 KR
  have K1 := Lib.hid (fun W => find_any x W)
  have HEX := Lib.hid ex
  clear ex d1 hm h0 hx q1
  obtain ⟨O, hO⟩ : ∃ O, O = (fld x).isSome := ⟨_, rfl⟩
  obtain ⟨D, hD⟩ : ∃ D, D = fldOf x := ⟨_, rfl⟩
  rw [← hO, ← hD] at K1 HRD
  rw [← hO] at HL KR
  rw [← hD] at K2 K3 KR
  clear hO hD
  have HS := Lib.hid hs
  clear hs
  go_enter Try.func21, Try.ntmps21
  go_wp2_with fail
  refine (K1.out _).mono ?_
  rintro e w1 ⟨rfl, b1⟩
  have rz := b1.row (by simp; omega) (row_alloc (heap_alloc_new w _) _)
  have ra := b1.row (by simp) (heap_alloc2_new w _ _)
  have hb := Below.call (Below.new (Below.new (Below.refl _ w) _) _) b1
  have hlt : w.heap.size + 1 < w1.heap.size := by have := b1.size; simp at this; omega
  clear b1
  cases O
  · go_wp2_with (first
      | (refine wpList_load_row rfl 31 (.tmp 4) rfl (w.heap.size + 1) rfl 31 #[.int .u8 (x : Nat), .int .u16 0, .int .u16 0, .int .u16 0, .slice none 0 0, .slice none 0 0] (0, 0) _ (row_alloc ra _) Try.underlying31 rfl (by kernel_rfl) ?_)
      | (refine wpList_store_grown rfl 31 (.tmp 2) _ rfl w.heap.size #[.int .u8 (x : Nat), .int .u16 0, .int .u16 0, .int .u16 0, .slice none 0 0, .slice none 0 0] rfl rfl 31 _ (row_alloc rz _) (by kernel_rfl) rfl (by simp [Value.oneCell']) ?_; intro w9 h9 g9 s9))
    refine bodyPost_row_tmp rfl w.heap.size 31 #[.int .u8 (x : Nat), .int .u16 0, .int .u16 0, .int .u16 0, .slice none 0 0, .slice none 0 0] (0, 0) _ (.int .u8 1) rfl h9 Try.underlying31 rfl (by kernel_rfl) rfl rfl ?_
    rw [HL.out, if_pos trivial]
    exact RetReqTag.bare x _ _ ((hb.new _).grown g9 (by simp; omega) (fun k hk => by injection hk with hk; omega))
  rw [if_neg (by decide)] at HL
  by_cases h253 : 253 < n
  · have z3 : (253 : Int) < (n : Int) := by omega
    go_wp2_with (first
      | (refine wpList_load_row rfl 31 (.tmp 4) rfl (w.heap.size + 1) rfl 31 #[.int .u8 (x : Nat), .int .u16 0, .int .u16 0, .int .u16 0, .slice none 0 0, .slice none 0 0] (0, 0) _ (row_alloc ra _) Try.underlying31 rfl (by kernel_rfl) ?_)
      | (refine wpList_store_grown rfl 31 (.tmp 2) _ rfl w.heap.size #[.int .u8 (x : Nat), .int .u16 0, .int .u16 0, .int .u16 0, .slice none 0 0, .slice none 0 0] rfl rfl 31 _ (row_alloc rz _) (by kernel_rfl) rfl (by simp [Value.oneCell']) ?_; intro w9 h9 g9 s9))
    refine bodyPost_row_tmp rfl w.heap.size 31 #[.int .u8 (x : Nat), .int .u16 0, .int .u16 0, .int .u16 0, .slice none 0 0, .slice none 0 0] (0, 0) _ (.int .u8 3) rfl h9 Try.underlying31 rfl (by kernel_rfl) rfl rfl ?_
    rw [HL.out, if_pos h253]
    exact RetReqTag.bare x _ _ ((hb.new _).grown g9 (by simp; omega) (fun k hk => by injection hk with hk; omega))
  have z3 : ¬ (253 : Int) < (n : Int) := by omega
  rw [if_neg h253] at HL
  go_wp2_with fail
  have rf := heap_alloc_new w1 (.cells #[.int .i64 D.many, .bool D.to, .int .u8 D.bits, .int .u8 D.words] 91)
  have rz := row_alloc rz (.cells #[.int .i64 D.many, .bool D.to, .int .u8 D.bits, .int .u8 D.words] 91)
  have ra := row_alloc ra (.cells #[.int .i64 D.many, .bool D.to, .int .u8 D.bits, .int .u8 D.words] 91)
  have hb := hb.new (.cells #[.int .i64 D.many, .bool D.to, .int .u8 D.bits, .int .u8 D.words] 91)
  refine (KR.out _ (HS.out.to hb) trivial).mono ?_
  rintro e w2 ⟨Aw, nw, cw, Ab, nb, cb, rfl, SW, SB, hcw, hcb, oW, oB, b2⟩
  have qW : (rd xs).words.length = nw := by simpa using SW.len
  have qB : (rd xs).bits.length = nb := by simpa using SB.len
  have HRD2 : Hid _ := HRD
  rw [qW, qB] at HRD2
  have rf := b2.row (by simp) rf
  have rz := b2.row (by simp; omega) rz
  have ra := b2.row (by simp; omega) ra
  have hb := hb.call b2
  have hlt2 : w1.heap.size < w2.heap.size := by have := b2.size; simp at this; omega
  clear b2 qW qB HRD
  obtain ⟨p0, p1, p2, p3⟩ := row4 rf
  obtain ⟨R, hR⟩ : ∃ R, R = (!(decide (D.many < (rd xs).many) || ((rd xs).many == 0 && decide (0 < D.many))) && ((D.to || (rd xs).to == 0) && fits D.bits nb (rd xs).many && fits D.words nw (rd xs).many)) := ⟨_, rfl⟩
  have K2' := Lib.hid (K2.out Aw nw cw Ab nb cb)
  have K3' := Lib.hid (K3.out Aw nw cw Ab nb cb)
  rw [← hR] at HRD2 K2'
  clear K2 K3 KR K1 hR
  obtain ⟨Y, hY⟩ : ∃ Y, Y = rd xs := ⟨_, rfl⟩
  rw [← hY] at HL HRD2 K2' K3' HBY SW SB
  rw [← hY]
  clear hY
  obtain ⟨y1, y2, y3, y4, y5, y6⟩ := Y
  dsimp only at HL HRD2 K2' K3' HBY SW SB
  dsimp only
  go_wp2_with fail
  refine (K2'.out _).mono ?_
  rintro e w3 ⟨rfl, b3⟩
  have rq := b3.row (by simp) (heap_alloc_new w2 _)
  have rf := b3.row (by simp; omega) (row_alloc rf _)
  have rz := b3.row (by simp; omega) (row_alloc rz _)
  have ra := b3.row (by simp; omega) (row_alloc ra _)
  have hb := (hb.new _).call b3
  have SW := (SW.to ((Below.refl _ _).new _)).to b3
  have SB := (SB.to ((Below.refl _ _).new _)).to b3
  have hlt3 : w2.heap.size < w3.heap.size := by have := b3.size; simp at this; omega
  clear b3
  obtain ⟨q0, q1, q2, q3, q4, q5⟩ := row6 rq
  obtain ⟨p0, p1, p2, p3⟩ := row4 rf
  have HRR : Hid (right ⟨y1, y2, y3, y4, y5, y6⟩ = R) := by
    have := HRD2.out
    simpa [Hid] using this
  cases R
  · go_wp2_with (first
      | (refine wpList_load_row rfl 31 (.tmp 4) rfl (w.heap.size + 1) rfl 31 #[.int .u8 (x : Nat), .int .u16 0, .int .u16 0, .int .u16 0, .slice none 0 0, .slice none 0 0] (0, 0) _ ra Try.underlying31 rfl (by kernel_rfl) ?_)
      | (refine wpList_store_grown rfl 31 (.tmp 2) _ rfl w.heap.size #[.int .u8 (x : Nat), .int .u16 0, .int .u16 0, .int .u16 0, .slice none 0 0, .slice none 0 0] rfl rfl 31 _ rz (by kernel_rfl) rfl (by simp [Value.oneCell']) ?_; intro w9 h9 g9 s9))
    refine bodyPost_row_tmp rfl w.heap.size 31 #[.int .u8 (x : Nat), .int .u16 0, .int .u16 0, .int .u16 0, .slice none 0 0, .slice none 0 0] (0, 0) _ (.int .u8 3) rfl h9 Try.underlying31 rfl (by kernel_rfl) rfl rfl ?_
    rw [HL.out, HRR.out]
    exact RetReqTag.bare x _ _ (hb.grown g9 hb.size (fun k hk => by injection hk with hk; omega))
  · go_wp2_with fail
    refine (K3'.out _ SW SB HRR.out).mono ?_
    rintro e w4 ⟨v, rfl, H⟩
    obtain ⟨Av, cv, rfl, hcv, SV, _⟩ := H.slice
    have rq := H.bel.row (by omega) rq
    have rz := H.bel.row (by omega) rz
    have ra := H.bel.row (by omega) ra
    have hb := hb.call H.bel
    have SW := SW.to H.bel
    have SB := SB.to H.bel
    have KE := Lib.hid (bytesEqual_any Av (some ⟨b, o, none⟩) _ cv n c w4.heap.size _ xs w4 SV HBY.out (HS.out.to hb) HX.out)
    obtain ⟨Q, hQ⟩ : ∃ Q, Q = (bytes ⟨y1, y2, y3, y4, y5, y6⟩ == xs) := ⟨_, rfl⟩
    rw [← hQ] at HL KE
    clear H hQ SV
    go_wp2_with fail
    refine KE.out.mono ?_
    rintro e w5 ⟨rfl, rfl⟩
    cases Q
    · go_wp2_with (first
        | (refine wpList_load_row rfl 31 (.tmp 4) rfl (w.heap.size + 1) rfl 31 #[.int .u8 (x : Nat), .int .u16 0, .int .u16 0, .int .u16 0, .slice none 0 0, .slice none 0 0] (0, 0) _ ra Try.underlying31 rfl (by kernel_rfl) ?_)
        | (refine wpList_store_grown rfl 31 (.tmp 2) _ rfl w.heap.size #[.int .u8 (x : Nat), .int .u16 0, .int .u16 0, .int .u16 0, .slice none 0 0, .slice none 0 0] rfl rfl 31 _ rz (by kernel_rfl) rfl (by simp [Value.oneCell']) ?_; intro w9 h9 g9 s9))
      refine bodyPost_row_tmp rfl w.heap.size 31 #[.int .u8 (x : Nat), .int .u16 0, .int .u16 0, .int .u16 0, .slice none 0 0, .slice none 0 0] (0, 0) _ (.int .u8 3) rfl h9 Try.underlying31 rfl (by kernel_rfl) rfl rfl ?_
      rw [HL.out, HRR.out]
      exact RetReqTag.bare x _ _ (hb.grown g9 hb.size (fun k hk => by injection hk with hk; omega))
    · go_wp2_with (first
        | (refine wpList_load_row rfl 31 (.tmp 7) rfl (w2.heap.size) rfl 31 #[.int .u8 (y1 : Nat), .int .u16 (y2 : Nat), .int .u16 (y3 : Nat), .int .u16 (y4 : Nat), .slice Aw nw cw, .slice Ab nb cb] (0, 0) _ rq Try.underlying31 rfl (by kernel_rfl) ?_)
        | (refine wpList_store_grown rfl 31 (.tmp 2) _ rfl w.heap.size #[.int .u8 (y1 : Nat), .int .u16 (y2 : Nat), .int .u16 (y3 : Nat), .int .u16 (y4 : Nat), .slice Aw nw cw, .slice Ab nb cb] rfl rfl 31 _ rz (by kernel_rfl) rfl (by simp [Value.oneCell']) ?_; intro w9 h9 g9 s9))
      refine bodyPost_row_tmp rfl w.heap.size 31 #[.int .u8 (y1 : Nat), .int .u16 (y2 : Nat), .int .u16 (y3 : Nat), .int .u16 (y4 : Nat), .slice Aw nw cw, .slice Ab nb cb] (0, 0) _ (.int .u8 0) rfl h9 Try.underlying31 rfl (by kernel_rfl) rfl rfl ?_
      rw [HL.out, HRR.out]
      exact ⟨Aw, nw, cw, Ab, nb, cb, rfl, SW.grown g9 (fun b o h e => by have := oW b o h; simp at this; injection e with e; omega), SB.grown g9 (fun b o h e => by have := oB b o h; simp at this; injection e with e; omega), hcw, hcb, (fun b o h => by have := oW b o h; simp at this; omega), (fun b o h => by have := oB b o h; simp at this; omega), hb.grown g9 hb.size (fun k hk => by injection hk with hk; omega)⟩
end Go.Proofs.Ytiibopdnlmnkmaa.AskW
/- The walk of ask.Parse. -/
set_option linter.unusedVariables false
set_option linter.unusedSimpArgs false
namespace Go.Proofs.Ytiibopdnlmnkmaa.AskW
open Go.RowKit Go.Proofs.Ytiibopdnlmnkmaa Go.Proofs.Ytiibopdnlmnkmaa.Ask
/-- The request that bytes say, or the error. -/
def parseF (xs : List Nat) : Req × Int := if (lookF xs).2 = 0 then ((lookF xs).1, 0) else (bare 0, 12)
end Go.Proofs.Ytiibopdnlmnkmaa.AskW
/- What is said of a right request is read as it; and no first part of it, and nothing more, is one. -/
set_option linter.unusedVariables false
set_option linter.unusedSimpArgs false
namespace Go.Proofs.Ytiibopdnlmnkmaa.AskW
open Go.RowKit Go.Proofs.Ytiibopdnlmnkmaa Go.Proofs.Ytiibopdnlmnkmaa.Ask
theorem nums_twos : ∀ W : List Nat, nums (twos W) = W
  | [] => rfl
  | x :: l => by
    show nums (x / 256 :: x % 256 :: twos l) = x :: l
    simp only [nums, nums_twos l]
    congr 1
    exact Nat.div_add_mod x 256
theorem pack_nil : pack [] = [] := rfl
theorem dm (x : Nat) : 256 * (x / 256) + x % 256 = x := Nat.div_add_mod x 256
/-- The right requests, by function, and their bytes. -/
inductive Shape (r : Req) : Prop
  | ask (m : Nat) (h : r = ⟨r.f, r.at', m, 0, [], []⟩) (hf : r.f = 1 ∨ r.f = 2 ∨ r.f = 3 ∨ r.f = 4) (hm : 1 ≤ m ∧ m ≤ 2000) (hb : bytes r = [r.f, r.at' / 256, r.at' % 256, m / 256, m % 256])
  | bit (x : Bool) (h : r = ⟨5, r.at', 0, 0, [], [x]⟩) (hb : bytes r = [5, r.at' / 256, r.at' % 256, (if x then 65280 else 0) / 256, (if x then 65280 else 0) % 256])
  | word (x : Nat) (h : r = ⟨6, r.at', 0, 0, [x], []⟩) (hb : bytes r = [6, r.at' / 256, r.at' % 256, x / 256, x % 256])
  | bits (h : r = ⟨15, r.at', r.bits.length, 0, [], r.bits⟩) (hm : 1 ≤ r.bits.length ∧ r.bits.length ≤ 1968) (hb : bytes r = 15 :: r.at' / 256 :: r.at' % 256 :: r.bits.length / 256 :: r.bits.length % 256 :: (r.bits.length + 7) / 8 :: pack r.bits)
  | words (h : r = ⟨16, r.at', r.words.length, 0, r.words, []⟩) (hm : 1 ≤ r.words.length ∧ r.words.length ≤ 123) (hb : bytes r = 16 :: r.at' / 256 :: r.at' % 256 :: r.words.length / 256 :: r.words.length % 256 :: 2 * r.words.length :: twos r.words)
  | swap (h : r = ⟨23, r.at', r.many, r.to, r.words, []⟩) (hm : 1 ≤ r.many ∧ r.many ≤ 125) (hw : 1 ≤ r.words.length ∧ r.words.length ≤ 121) (hb : bytes r = 23 :: r.at' / 256 :: r.at' % 256 :: r.many / 256 :: r.many % 256 :: r.to / 256 :: r.to % 256 :: r.words.length / 256 :: r.words.length % 256 :: 2 * r.words.length :: twos r.words)
theorem shape_of {r : Req} (hr : right r = true) : Shape r := by
  obtain ⟨f, a, m, t, W, B⟩ := r
  have hs := right_some hr
  dsimp only at hs
  rcases fld_cases hs with rfl | rfl | rfl | rfl | rfl | rfl | rfl | rfl | rfl
  all_goals simp [right, fld, Fld.right, fits] at hr
  · obtain ⟨h1, ⟨h2, h3⟩, h4⟩ := hr
    subst h2 h3 h4
    exact Shape.ask m rfl (by simp) (by omega) (by simp [bytes, fbytes, fldOf, fld, two, pack_nil, twos])
  · obtain ⟨h1, ⟨h2, h3⟩, h4⟩ := hr
    subst h2 h3 h4
    exact Shape.ask m rfl (by simp) (by omega) (by simp [bytes, fbytes, fldOf, fld, two, pack_nil, twos])
  · obtain ⟨h1, ⟨h2, h3⟩, h4⟩ := hr
    subst h2 h3 h4
    exact Shape.ask m rfl (by simp) (by omega) (by simp [bytes, fbytes, fldOf, fld, two, pack_nil, twos])
  · obtain ⟨h1, ⟨h2, h3⟩, h4⟩ := hr
    subst h2 h3 h4
    exact Shape.ask m rfl (by simp) (by omega) (by simp [bytes, fbytes, fldOf, fld, two, pack_nil, twos])
  · obtain ⟨h1, ⟨h2, h3⟩, h4⟩ := hr
    subst h1 h2 h4
    match B, h3 with
    | [x], _ => exact Shape.bit x rfl (by simp [bytes, fbytes, fldOf, fld, two])
  · obtain ⟨h1, ⟨h2, h3⟩, h4⟩ := hr
    subst h1 h2 h3
    match W, h4 with
    | [x], _ => exact Shape.word x rfl (by simp [bytes, fbytes, fldOf, fld, two, pack_nil, twos])
  · obtain ⟨h1, ⟨h2, h3⟩, h4⟩ := hr
    subst h2 h3 h4
    refine Shape.bits rfl (by dsimp only; omega) ?_
    simp [bytes, fbytes, fldOf, fld, two, twos, pack_length]
    omega
  · obtain ⟨h1, ⟨h2, h3⟩, h4⟩ := hr
    subst h2 h3 h4
    refine Shape.words rfl (by dsimp only; omega) ?_
    simp [bytes, fbytes, fldOf, fld, two, pack_nil, twos_len]
    omega
  · obtain ⟨h1, h2, h3⟩ := hr
    subst h2
    refine Shape.swap rfl (by dsimp only; omega) (by dsimp only; omega) ?_
    simp [bytes, fbytes, fldOf, fld, two, pack_nil, twos_len]
    omega
theorem rd_bytes {r : Req} (hr : right r = true) : rd (bytes r) = r := by
  cases shape_of hr with
  | ask m h hf hm hb =>
    rw [hb, h]
    rcases hf with hf | hf | hf | hf <;> simp [rd, num, hf, dm]
  | bit x h hb =>
    rw [hb]
    conv => rhs; rw [h]
    cases x <;> simp [rd, num, dm]
  | word x h hb =>
    rw [hb]
    conv => rhs; rw [h]
    simp [rd, num, nums, dm]
  | bits h hm hb =>
    rw [hb]
    conv => rhs; rw [h]
    simp [rd, num, dm, unpack_pack]
  | words h hm hb =>
    rw [hb]
    conv => rhs; rw [h]
    simp [rd, num, dm, nums_twos]
  | swap h hm hw hb =>
    rw [hb]
    conv => rhs; rw [h]
    simp [rd, num, dm, nums_twos]
theorem bytes_len {r : Req} (hr : right r = true) : 5 ≤ (bytes r).length ∧ (bytes r).length ≤ 253 := by
  cases shape_of hr with
  | ask m h hf hm hb => rw [hb]; simp
  | bit x h hb => rw [hb]; simp
  | word x h hb => rw [hb]; simp
  | bits h hm hb => rw [hb]; simp [pack_length]; omega
  | words h hm hb => rw [hb]; simp [twos_len]; omega
  | swap h hm hw hb => rw [hb]; simp [twos_len]; omega
theorem bytes_f (r : Req) : (bytes r)[0]?.getD 0 = r.f := by
  unfold bytes fbytes
  dsimp only
  split <;> rfl
theorem look_bytes {r : Req} (hr : right r = true) : lookF (bytes r) = (r, 0) := by
  have hl := bytes_len hr
  unfold lookF
  rw [if_neg (by omega), bytes_f, if_neg (by rw [right_some hr]; decide), if_neg (by omega), rd_bytes hr, if_pos (by rw [hr]; simp)]
theorem parse_bytes {r : Req} (hr : right r = true) : parseF (bytes r) = (r, 0) := by
  unfold parseF
  rw [look_bytes hr, if_pos rfl]
theorem look_ok {xs : List Nat} (h : (lookF xs).2 = 0) : right (lookF xs).1 = true ∧ bytes (lookF xs).1 = xs ∧ (lookF xs).1 = rd xs := by
  unfold lookF at h ⊢
  split at h
  · cases h
  rename_i h0
  rw [if_neg h0]
  split at h
  · cases h
  rename_i h1
  rw [if_neg h1]
  split at h
  · cases h
  rename_i h2
  rw [if_neg h2]
  split at h
  · rename_i h3
    rw [if_pos h3]
    rw [Bool.and_eq_true] at h3
    exact ⟨h3.1, by simpa using h3.2, rfl⟩
  · cases h
theorem parse_cases (xs : List Nat) : (∃ r, right r = true ∧ bytes r = xs ∧ parseF xs = (r, 0) ∧ lookF xs = (r, 0)) ∨ (parseF xs = (bare 0, 12) ∧ (lookF xs).2 ≠ 0) := by
  by_cases h : (lookF xs).2 = 0
  · obtain ⟨h1, h2, h3⟩ := look_ok h
    have e : lookF xs = ((lookF xs).1, 0) := by rw [← h]
    exact Or.inl ⟨(lookF xs).1, h1, h2, by unfold parseF; rw [if_pos h], e⟩
  · exact Or.inr ⟨by unfold parseF; rw [if_neg h], h⟩
theorem bytes_inj {r s : Req} (hr : right r = true) (hs : right s = true) (h : bytes r = bytes s) : r = s := by
  rw [← rd_bytes hr, h, rd_bytes hs]
/-- How many bytes there must be. -/
def need (xs : List Nat) : Nat := if xs[0]?.getD 0 = 15 ∨ xs[0]?.getD 0 = 16 then 6 + xs[5]?.getD 0 else if xs[0]?.getD 0 = 23 then 10 + xs[9]?.getD 0 else 5
theorem bytes_need {r : Req} (hr : right r = true) : (bytes r).length = need (bytes r) ∧ ((bytes r)[0]?.getD 0 = 15 ∨ (bytes r)[0]?.getD 0 = 16 → 6 ≤ (bytes r).length) ∧ ((bytes r)[0]?.getD 0 = 23 → 10 ≤ (bytes r).length) := by
  cases shape_of hr with
  | ask m h hf hm hb => rw [hb]; rcases hf with hf | hf | hf | hf <;> simp [need, hf]
  | bit x h hb => rw [hb]; simp [need]
  | word x h hb => rw [hb]; simp [need]
  | bits h hm hb => rw [hb]; simp [need, pack_length]; omega
  | words h hm hb => rw [hb]; simp [need, twos_len]; omega
  | swap h hm hw hb => rw [hb]; simp [need, twos_len]; omega
theorem no_prefix {r s : Req} (hr : right r = true) (hs : right s = true) {k : Nat} (h : bytes s = (bytes r).take k) : (bytes r).length ≤ k := by
  obtain ⟨n1, _, _⟩ := bytes_need hr
  obtain ⟨n2, a2, b2⟩ := bytes_need hs
  have hl := (bytes_len hs).1
  have hsl : (bytes s).length ≤ k := by rw [h, List.length_take]; omega
  have get : ∀ j, j < (bytes s).length → (bytes s)[j]?.getD 0 = (bytes r)[j]?.getD 0 := fun j hj => by rw [h, List.getElem?_take, if_pos (by omega)]
  have e : need (bytes s) = need (bytes r) := by
    have g0 := get 0 (by omega)
    unfold need
    rw [← g0]
    by_cases c1 : (bytes s)[0]?.getD 0 = 15 ∨ (bytes s)[0]?.getD 0 = 16
    · have : 5 < (bytes s).length := a2 c1
      rw [if_pos c1, if_pos c1, get 5 this]
    · rw [if_neg c1, if_neg c1]
      by_cases c2 : (bytes s)[0]?.getD 0 = 23
      · have : 9 < (bytes s).length := b2 c2
        rw [if_pos c2, if_pos c2, get 9 this]
      · rw [if_neg c2, if_neg c2]
  omega
end Go.Proofs.Ytiibopdnlmnkmaa.AskW
/- The walks of the law's own words: Few, said, wrong. -/
set_option linter.unusedVariables false
set_option linter.unusedSimpArgs false
namespace Go.Proofs.Ytiibopdnlmnkmaa.AskW
open Go.RowKit Go.Proofs.Ytiibopdnlmnkmaa Go.Proofs.Ytiibopdnlmnkmaa.Ask
theorem few_any (A1 A2 : Option Addr) (n1 c1 n2 c2 : Nat) (w : World) :
    Calls Try.prog 9 #[.slice A1 n1 c1, .slice A2 n2 c2] w fun e w' => e = .returned (.bool (decide (n1 ≤ 200) && decide (n2 ≤ 2100))) ∧ w = w' := by
  by_cases h1 : (n1 : Int) ≤ 200
  · have HF := Lib.hid (show decide ((n2 : Int) ≤ 2100) = (decide (n1 ≤ 200) && decide (n2 ≤ 2100)) from by rw [decide_eq_true (show n1 ≤ 200 by omega), Bool.true_and, decide_eq_decide]; omega)
    go_enter Try.func9, Try.ntmps9
    go_wp2_with fail
    go_ret
    exact ⟨ret_bool HF.out, rfl⟩
  · have HF := Lib.hid (show false = (decide (n1 ≤ 200) && decide (n2 ≤ 2100)) from by rw [decide_eq_false (show ¬ n1 ≤ 200 by omega)]; rfl)
    go_enter Try.func9, Try.ntmps9
    go_wp2_with fail
    go_ret
    exact ⟨ret_bool HF.out, rfl⟩
end Go.Proofs.Ytiibopdnlmnkmaa.AskW
/- The walk of awake: the chapter's examples. -/
set_option linter.unusedVariables false
set_option linter.unusedSimpArgs false
namespace Go.Proofs.Ytiibopdnlmnkmaa.AskW
open Go.RowKit Go.Proofs.Ytiibopdnlmnkmaa Go.Proofs.Ytiibopdnlmnkmaa.Ask
theorem bytes_of {l : List Nat} (h : l.all (fun c => decide (c < 256)) = true) : Bytes l := fun c hc => by
  have := List.all_eq_true.1 h c hc
  simpa using this
theorem wf_of (f a m t : Nat) (B : List Bool) (h : f < 256 ∧ a < 65536 ∧ m < 65536 ∧ t < 65536) : Req.Wf ⟨f, a, m, t, [], B⟩ := ⟨h.1, h.2.1, h.2.2.1, h.2.2.2, fun x hx => by cases hx⟩
theorem e1 : bytesE ⟨3, 107, 3, 0, [], []⟩ = ([3, 0, 107, 0, 3], 0) := by decide +kernel
theorem p1 : parseF [3, 0, 107, 0, 3] = (⟨3, 107, 3, 0, [], []⟩, 0) := by decide +kernel
theorem e2 : bytesE ⟨15, 19, 4, 0, [], [true, false, true, true]⟩ = ([15, 0, 19, 0, 4, 1, 13], 0) := by decide +kernel
theorem p2 : parseF [15, 0, 19, 0, 4, 1, 13] = (⟨15, 19, 4, 0, [], [true, false, true, true]⟩, 0) := by decide +kernel
theorem e3 : bytesE ⟨5, 172, 0, 0, [], [true]⟩ = ([5, 0, 172, 255, 0], 0) := by decide +kernel
theorem p3 : parseF [5, 0, 172, 255, 0] = (⟨5, 172, 0, 0, [], [true]⟩, 0) := by decide +kernel
theorem l1 : (lookF [5, 0, 172, 255, 1]).2 = 3 := by decide +kernel
theorem l2 : (lookF [3, 0, 0, 0, 126]).2 = 3 := by decide +kernel
theorem l3 : (lookF [7]).2 = 1 := by decide +kernel
theorem l4 : (lookF []).2 = 1 := by decide +kernel
theorem bits_then (w : World) (B : List Bool) (t : TypeId) (o : Obj) : Sl ((w.alloc (.cells (bl B).toArray t)).alloc o) ((w.alloc (.cells (bl B).toArray t)).alloc o).heap.size (some ⟨w.heap.size, 0, none⟩) B.length (bl B) := by
  have h := ((Sl.new w (bl B).toArray t (w.heap.size + 1) (by omega)).alloc (by simp) o).mono (B' := ((w.alloc (.cells (bl B).toArray t)).alloc o).heap.size) (by simp)
  simpa using h
theorem bytes_then (w : World) (xs : List Nat) (t : TypeId) (g : Nat) (hg : g = w.heap.size) : Sl (w.alloc (.cells (bs xs).toArray t)) (w.alloc (.cells (bs xs).toArray t)).heap.size (some ⟨g, 0, none⟩) xs.length (bs xs) := by
  subst hg
  have h := Sl.new w (bs xs).toArray t (w.alloc (.cells (bs xs).toArray t)).heap.size (by simp)
  simpa using h
end Go.Proofs.Ytiibopdnlmnkmaa.AskW
