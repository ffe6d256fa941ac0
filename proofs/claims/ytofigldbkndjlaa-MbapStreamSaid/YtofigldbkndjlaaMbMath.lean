/- Layer 5's answers as plain functions: frames over TCP, and the frames that bytes begin with. No program in sight. -/
import Derived.Test.YtofigldbkndjlaaBase
namespace Go.Proofs.Ytofigldbkndjlaa.Mb
open Go.Proofs.Ytofigldbkndjlaa
/-- A frame. -/
structure Fm where
  tx : Nat
  unit : Nat
  pdu : List Nat
deriving DecidableEq
/-- Its numbers are in their ranges. -/
structure Fm.Ok (x : Fm) : Prop where
  tx : x.tx < 65536
  unit : x.unit < 256
  pdu : Bytes x.pdu
def fm0 : Fm := ⟨0, 0, []⟩
theorem fm0_ok : fm0.Ok := ⟨by decide, by decide, fun _ h => by cases h⟩
/-- Is a frame right? -/
def right (x : Fm) : Bool := decide (1 ≤ x.pdu.length ∧ x.pdu.length ≤ 253)
def head (x : Fm) : List Nat := [x.tx / 256, x.tx % 256, 0, 0, (x.pdu.length + 1) / 256, (x.pdu.length + 1) % 256, x.unit]
/-- Its bytes. -/
def pack (x : Fm) : List Nat := head x ++ x.pdu
/-- Its bytes, or the error. -/
def packE (x : Fm) : List Nat × Int := if right x = true then (pack x, 0) else ([], 2)
/-- May bytes become a frame? -/
def begins (xs : List Nat) : Bool :=
  xs[2]?.getD 0 == 0 && xs[3]?.getD 0 == 0 && xs[4]?.getD 0 == 0 && (decide (xs.length < 6) || decide (2 ≤ xs[5]?.getD 0 ∧ xs[5]?.getD 0 ≤ 254))
/-- How many bytes the whole frame has that bytes begin with; 0: there is none. -/
def whole (xs : List Nat) : Nat := if begins xs = true ∧ 7 ≤ xs.length ∧ 6 + xs[5]?.getD 0 ≤ xs.length then 6 + xs[5]?.getD 0 else 0
/-- How many bytes the frame has that bytes begin; -1: there may be none; 0: it is not told yet. -/
def long (xs : List Nat) : Int := if begins xs = true then (if xs.length < 6 then 0 else 6 + (xs[5]?.getD 0 : Nat)) else -1
/-- What a frame's bytes say. -/
def read (xs : List Nat) : Fm := ⟨256 * xs[0]?.getD 0 + xs[1]?.getD 0, xs[6]?.getD 0, xs.drop 7⟩
/-- The frame with just these bytes, or the error. -/
def parse (xs : List Nat) : Fm × Int := if whole xs = xs.length ∧ xs.length ≠ 0 then (read xs, 0) else (fm0, 10)
/-- The pieces that are frames, and what is left. -/
def cutN : Nat → List Nat → List (List Nat) × List Nat
  | 0, xs => ([], xs)
  | k + 1, xs => if whole xs = 0 then ([], xs) else (xs.take (whole xs) :: (cutN k (xs.drop (whole xs))).1, (cutN k (xs.drop (whole xs))).2)
def pieces (xs : List Nat) : List (List Nat) := (cutN xs.length xs).1
def rest (xs : List Nat) : List Nat := (cutN xs.length xs).2
def used (xs : List Nat) : Nat := xs.length - (rest xs).length
def cutE (xs : List Nat) : Int := if begins (rest xs) = true then 0 else 10
theorem whole_le (xs : List Nat) : whole xs ≤ xs.length := by
  unfold whole; split <;> omega
theorem begins_five {xs : List Nat} (h : begins xs = true) (h6 : 6 ≤ xs.length) : 2 ≤ xs[5]?.getD 0 ∧ xs[5]?.getD 0 ≤ 254 := by
  unfold begins at h
  simp only [Bool.and_eq_true, Bool.or_eq_true, decide_eq_true_eq] at h
  omega
theorem whole_cases (xs : List Nat) : whole xs = 0 ∨ (begins xs = true ∧ 8 ≤ whole xs ∧ whole xs ≤ 260 ∧ whole xs ≤ xs.length ∧ whole xs = 6 + xs[5]?.getD 0) := by
  unfold whole
  split
  · rename_i h
    have := begins_five h.1 (by omega)
    exact Or.inr ⟨h.1, by omega, by omega, h.2.2, rfl⟩
  · exact Or.inl rfl
theorem whole_zero {xs : List Nat} (h : whole xs = 0) : begins xs = false ∨ xs.length < 7 ∨ xs.length < 6 + xs[5]?.getD 0 := by
  unfold whole at h
  split at h
  · omega
  · rename_i h'
    by_cases hb : begins xs = true
    · simp only [hb, true_and] at h'; omega
    · exact Or.inl (by simpa using hb)
theorem cutN_succ (k : Nat) (xs : List Nat) : cutN (k + 1) xs = if whole xs = 0 then ([], xs) else (xs.take (whole xs) :: (cutN k (xs.drop (whole xs))).1, (cutN k (xs.drop (whole xs))).2) := rfl
theorem cutN_more (k j : Nat) (xs : List Nat) (hk : xs.length ≤ k) (hj : xs.length ≤ j) : cutN k xs = cutN j xs := by
  induction k generalizing j xs with
  | zero =>
    have h0 : xs = [] := List.eq_nil_of_length_eq_zero (by omega)
    subst h0
    cases j with
    | zero => rfl
    | succ j => rfl
  | succ k ih =>
    cases j with
    | zero =>
      have h0 : xs = [] := List.eq_nil_of_length_eq_zero (by omega)
      subst h0
      rfl
    | succ j =>
      unfold cutN
      by_cases h : whole xs = 0
      · rw [if_pos h, if_pos h]
      · rw [if_neg h, if_neg h, ih j (xs.drop (whole xs)) (by rw [List.length_drop]; omega) (by rw [List.length_drop]; omega)]
theorem cut_none {xs : List Nat} (h : whole xs = 0) : pieces xs = [] ∧ rest xs = xs := by
  unfold pieces rest
  cases hl : xs.length with
  | zero => exact ⟨rfl, rfl⟩
  | succ k => unfold cutN; rw [if_pos h]; exact ⟨rfl, rfl⟩
theorem cut_some {xs : List Nat} (h : whole xs ≠ 0) : pieces xs = xs.take (whole xs) :: pieces (xs.drop (whole xs)) ∧ rest xs = rest (xs.drop (whole xs)) := by
  unfold pieces rest
  cases hl : xs.length with
  | zero => exact absurd (Nat.eq_zero_of_le_zero (hl ▸ whole_le xs)) h
  | succ k =>
    have e := cutN_more k (xs.drop (whole xs)).length (xs.drop (whole xs)) (by rw [List.length_drop]; omega) (Nat.le_refl _)
    rw [← e, cutN_succ, if_neg h]
    exact ⟨rfl, rfl⟩
theorem cut_ind {P : List Nat → Prop} (h0 : ∀ xs, whole xs = 0 → P xs) (h1 : ∀ xs, whole xs ≠ 0 → P (xs.drop (whole xs)) → P xs) : ∀ xs, P xs := by
  suffices H : ∀ n, ∀ xs : List Nat, xs.length ≤ n → P xs from fun xs => H _ xs (Nat.le_refl _)
  intro n
  induction n with
  | zero =>
    intro xs h
    exact h0 xs (by have := whole_le xs; omega)
  | succ n ih =>
    intro xs h
    by_cases hw : whole xs = 0
    · exact h0 xs hw
    · exact h1 xs hw (ih _ (by rw [List.length_drop]; omega))
theorem cut_join : ∀ xs, (pieces xs).flatten ++ rest xs = xs := cut_ind
  (fun xs h => by rw [(cut_none h).1, (cut_none h).2]; rfl)
  (fun xs h ih => by rw [(cut_some h).1, (cut_some h).2, List.flatten_cons, List.append_assoc, ih, List.take_append_drop])
theorem used_eq (xs : List Nat) : used xs = (pieces xs).flatten.length := by
  have h := congrArg List.length (cut_join xs)
  rw [List.length_append] at h
  unfold used; omega
theorem rest_eq (xs : List Nat) : rest xs = xs.drop (used xs) := by
  rw [used_eq]
  have h := cut_join xs
  have h2 : xs.drop (pieces xs).flatten.length = ((pieces xs).flatten ++ rest xs).drop (pieces xs).flatten.length := by rw [h]
  rw [h2, List.drop_left]
theorem used_le (xs : List Nat) : used xs ≤ xs.length := by unfold used; omega
theorem rest_whole : ∀ xs, whole (rest xs) = 0 := cut_ind (fun xs h => by rw [(cut_none h).2]; exact h) (fun xs h ih => by rw [(cut_some h).2]; exact ih)
/-- What is of a piece. -/
def Piece (p : List Nat) : Prop := 8 ≤ p.length ∧ p.length ≤ 260 ∧ whole p = p.length
theorem take_at {xs : List Nat} {k i : Nat} (h : i < k) : (xs.take k)[i]? = xs[i]? := by rw [List.getElem?_take, if_pos h]
theorem whole_take {xs : List Nat} (h : whole xs ≠ 0) : Piece (xs.take (whole xs)) := by
  rcases whole_cases xs with h' | ⟨h1, h2, h3, h4, h5⟩
  · exact absurd h' h
  have hl : (xs.take (whole xs)).length = whole xs := by rw [List.length_take]; omega
  refine ⟨by omega, by omega, ?_⟩
  have h6 := begins_five h1 (by omega)
  have hb : begins (xs.take (whole xs)) = true := by
    unfold begins at h1 ⊢
    rw [take_at (by omega), take_at (by omega), take_at (by omega), take_at (by omega), hl]
    simp only [Bool.and_eq_true, Bool.or_eq_true, decide_eq_true_eq] at h1 ⊢
    exact ⟨h1.1, Or.inr h6⟩
  have e5 : (xs.take (whole xs))[5]?.getD 0 = xs[5]?.getD 0 := by rw [take_at (by omega)]
  obtain ⟨p, hp⟩ : ∃ p, p = xs.take (whole xs) := ⟨_, rfl⟩
  rw [← hp] at hb hl e5 ⊢
  have e : whole p = 6 + p[5]?.getD 0 := by unfold whole; rw [if_pos ⟨hb, by omega, by omega⟩]
  omega
theorem pieces_piece : ∀ xs, ∀ p ∈ pieces xs, Piece p := cut_ind
  (fun xs h p hp => by rw [(cut_none h).1] at hp; cases hp)
  (fun xs h ih p hp => by
    rw [(cut_some h).1] at hp
    rcases List.mem_cons.1 hp with rfl | hp
    · exact whole_take h
    · exact ih p hp)
theorem pieces_bytes : ∀ xs, Bytes xs → ∀ p ∈ pieces xs, Bytes p := cut_ind
  (fun xs h _ p hp => by rw [(cut_none h).1] at hp; cases hp)
  (fun xs h ih hx p hp => by
    rw [(cut_some h).1] at hp
    rcases List.mem_cons.1 hp with rfl | hp
    · exact hx.take _
    · exact ih (hx.drop _) p hp)
theorem pieces_len : ∀ xs, 8 * (pieces xs).length ≤ xs.length := cut_ind
  (fun xs h => by rw [(cut_none h).1]; simp)
  (fun xs h ih => by
    rw [(cut_some h).1, List.length_cons]
    rw [List.length_drop] at ih
    rcases whole_cases xs with h' | ⟨_, h2, _, h4, _⟩
    · exact absurd h' h
    · omega)
theorem read_ok {xs : List Nat} (h : Bytes xs) : (read xs).Ok := by
  have h0 := h.at 0
  have h1 := h.at 1
  exact ⟨by show 256 * _ + _ < _; omega, h.at 6, h.drop 7⟩
theorem parse_ok {xs : List Nat} (h : Bytes xs) : (parse xs).1.Ok := by
  unfold parse; split
  · exact read_ok h
  · exact fm0_ok
/-- The frames that bytes begin with. -/
def frames (xs : List Nat) : List Fm := (pieces xs).map read
theorem frames_ok {xs : List Nat} (h : Bytes xs) : ∀ x ∈ frames xs, x.Ok := by
  intro x hx
  obtain ⟨p, hp, rfl⟩ := List.mem_map.1 hx
  exact read_ok (pieces_bytes xs h p hp)
/-! ### Packed, and read back -/
theorem pack_len (x : Fm) : (pack x).length = 7 + x.pdu.length := by simp [pack, head]; omega
theorem pack_bytes {x : Fm} (h : x.Ok) (hr : x.pdu.length ≤ 300) : Bytes (pack x) := by
  have := h.tx
  have := h.unit
  intro c hc
  simp only [pack, head, List.mem_append, List.mem_cons, List.not_mem_nil, or_false] at hc
  rcases hc with (rfl | rfl | rfl | rfl | rfl | rfl | rfl) | hc
  · omega
  · omega
  · omega
  · omega
  · omega
  · omega
  · exact h.unit
  · exact h.pdu c hc
theorem pack_begins {x : Fm} (h : right x = true) (r : List Nat) : begins (pack x ++ r) = true := by
  unfold right at h
  have h := of_decide_eq_true h
  have e : (x.pdu.length + 1) / 256 = 0 := by omega
  simp [begins, pack, head, e]
  omega
theorem pack_whole {x : Fm} (h : right x = true) (r : List Nat) : whole (pack x ++ r) = (pack x).length := by
  have hb := pack_begins h r
  unfold right at h
  have h := of_decide_eq_true h
  have e : (pack x ++ r)[5]?.getD 0 = x.pdu.length + 1 := by simp [pack, head]; omega
  unfold whole
  rw [if_pos ⟨hb, by rw [List.length_append, pack_len]; omega, by rw [e, List.length_append, pack_len]; omega⟩, e, pack_len]
  omega
theorem read_pack {x : Fm} (h : x.Ok) : read (pack x) = x := by
  have := h.tx
  obtain ⟨a, b, c⟩ := x
  simp only [read, pack, head, Fm.mk.injEq]
  refine ⟨?_, ?_, ?_⟩
  · simp; simp at this; omega
  · simp
  · simp
theorem cut_pack {x : Fm} (h : right x = true) (r : List Nat) : pieces (pack x ++ r) = pack x :: pieces r ∧ rest (pack x ++ r) = rest r := by
  have hw := pack_whole h r
  have hn : whole (pack x ++ r) ≠ 0 := by rw [hw, pack_len]; omega
  obtain ⟨h1, h2⟩ := cut_some hn
  rw [hw] at h1 h2
  rw [List.drop_left] at h1 h2
  rw [List.take_left] at h1
  exact ⟨h1, h2⟩
/-- Frames, one behind the other. -/
def packs (L : List Fm) : List Nat := (L.map pack).flatten
theorem packs_cons (x : Fm) (L : List Fm) : packs (x :: L) = pack x ++ packs L := by simp [packs]
theorem packs_append (L R : List Fm) : packs (L ++ R) = packs L ++ packs R := by simp [packs]
theorem packs_snoc (L : List Fm) (x : Fm) : packs (L ++ [x]) = packs L ++ pack x := by simp [packs]
theorem cut_packs {L : List Fm} (h : ∀ x ∈ L, right x = true) (r : List Nat) : pieces (packs L ++ r) = L.map pack ++ pieces r ∧ rest (packs L ++ r) = rest r := by
  induction L with
  | nil => exact ⟨rfl, rfl⟩
  | cons x L ih =>
    obtain ⟨i1, i2⟩ := ih (fun y hy => h y (List.mem_cons_of_mem _ hy))
    rw [packs_cons, List.append_assoc]
    obtain ⟨h1, h2⟩ := cut_pack (h x List.mem_cons_self) (packs L ++ r)
    rw [h1, h2, i1, i2]
    exact ⟨rfl, rfl⟩
theorem frames_packs {L : List Fm} (h : ∀ x ∈ L, right x = true) (ho : ∀ x ∈ L, x.Ok) (r : List Nat) : frames (packs L ++ r) = L ++ frames r := by
  unfold frames
  rw [(cut_packs h r).1, List.map_append, List.map_map]
  congr 1
  rw [List.map_congr_left (g := id)]
  · simp
  · intro x hx
    exact read_pack (ho x hx)
theorem pack_read {xs : List Nat} (h : Bytes xs) (hw : whole xs = xs.length) (h0 : xs.length ≠ 0) : pack (read xs) = xs ∧ right (read xs) = true := by
  rcases whole_cases xs with h' | ⟨h1, h2, h3, h4, h5⟩
  · omega
  have b0 := h.at 0
  have b1 := h.at 1
  have hl : (xs.drop 7).length = xs.length - 7 := List.length_drop
  have h6 := begins_five h1 (by omega)
  unfold begins at h1
  simp only [Bool.and_eq_true, beq_iff_eq, Bool.or_eq_true, decide_eq_true_eq] at h1
  obtain ⟨⟨⟨z2, z3⟩, z4⟩, _⟩ := h1
  refine ⟨?_, ?_⟩
  · match xs, h4 with
    | a :: b :: c :: d :: e :: f :: g :: r, _ =>
      simp at z2 z3 z4 h5 h6 b0 b1 hw
      subst z2 z3 z4
      simp [pack, head, read]
      simp [h5] at hw
      omega
    | [], h4 => simp at h2 h4; omega
    | [_], h4 => simp at h2 h4; omega
    | [_, _], h4 => simp at h2 h4; omega
    | [_, _, _], h4 => simp at h2 h4; omega
    | [_, _, _, _], h4 => simp at h2 h4; omega
    | [_, _, _, _, _], h4 => simp at h2 h4; omega
    | [_, _, _, _, _, _], h4 => simp at h2 h4; omega
  · unfold right read
    rw [decide_eq_true_eq]
    show 1 ≤ (xs.drop 7).length ∧ (xs.drop 7).length ≤ 253
    omega
end Go.Proofs.Ytofigldbkndjlaa.Mb
