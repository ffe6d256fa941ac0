/- Merged: AskW7 AskW8. -/
import Derived.Test.YtiibopdnlmnkmaaBase
import Derived.Test.YtiibopdnlmnkmaaAG7
import Derived.Test.YtiibopdnlmnkmaaAG6
import Derived.Test.YtiibopdnlmnkmaaAG3
import Derived.Deep.RegionHeld3
/- The walk of saucierref02.Bytes. -/
set_option linter.unusedVariables false
set_option linter.unusedSimpArgs false
namespace Go.Proofs.Ytiibopdnlmnkmaa.AskW
open Go.RowKit Go.Proofs.Ytiibopdnlmnkmaa Go.Proofs.Ytiibopdnlmnkmaa.Ask
theorem by_ask {f a m t : Nat} {W : List Nat} {B : List Bool} (hr : right ⟨f, a, m, t, W, B⟩ = true) (hf : f = 1 ∨ f = 2 ∨ f = 3 ∨ f = 4) : bytes ⟨f, a, m, t, W, B⟩ = f :: two a ++ two m := by
  rcases hf with rfl | rfl | rfl | rfl
  all_goals
    simp [right, fld, Fld.right, fits] at hr
    obtain ⟨h1, ⟨h2, h3⟩, h4⟩ := hr
    subst h2 h3 h4
    simp [bytes, fbytes, fldOf, fld, two, pack_nil, twos]
theorem by_bit {a m t : Nat} {W : List Nat} {B : List Bool} (x : Bool) (hr : right ⟨5, a, m, t, W, B⟩ = true) (hB : B = [x]) : bytes ⟨5, a, m, t, W, B⟩ = 5 :: two a ++ two (if x then 65280 else 0) := by
  subst hB
  simp [bytes, fbytes, fldOf, fld, two]
theorem by_word {a m t : Nat} {W : List Nat} {B : List Bool} (x : Nat) (hr : right ⟨6, a, m, t, W, B⟩ = true) (hW : W = [x]) : bytes ⟨6, a, m, t, W, B⟩ = 6 :: two a ++ two x := by
  subst hW
  simp [right, fld, Fld.right, fits] at hr
  obtain ⟨h1, h2, h3⟩ := hr
  subst h3
  simp [bytes, fbytes, fldOf, fld, two, pack_nil, twos]
theorem by_bits {a m t nb : Nat} {W : List Nat} {B : List Bool} (hr : right ⟨15, a, m, t, W, B⟩ = true) (hb : B.length = nb) (hn : nb ≤ 1968) : bytes ⟨15, a, m, t, W, B⟩ = 15 :: two a ++ two m ++ [(nb + 7) / 8] ++ pack B := by
  simp [right, fld, Fld.right, fits] at hr
  obtain ⟨h1, ⟨h2, h3⟩, h4⟩ := hr
  subst h4
  simp [bytes, fbytes, fldOf, fld, two, twos, pack_length]
  omega
theorem by_words {a m t nw : Nat} {W : List Nat} {B : List Bool} (hr : right ⟨16, a, m, t, W, B⟩ = true) (hw : W.length = nw) (hn : nw ≤ 123) : bytes ⟨16, a, m, t, W, B⟩ = 16 :: two a ++ two m ++ [2 * nw] ++ twos W := by
  simp [right, fld, Fld.right, fits] at hr
  obtain ⟨h1, ⟨h2, h3⟩, h4⟩ := hr
  subst h3
  simp [bytes, fbytes, fldOf, fld, two, twos_len, pack_nil]
  omega
theorem by_swap {a m t nw : Nat} {W : List Nat} {B : List Bool} (hr : right ⟨23, a, m, t, W, B⟩ = true) (hw : W.length = nw) (hn : nw ≤ 121) : bytes ⟨23, a, m, t, W, B⟩ = 23 :: two a ++ two m ++ two t ++ two nw ++ [2 * nw] ++ twos W := by
  simp [right, fld, Fld.right, fits] at hr
  obtain ⟨h1, h2, h3⟩ := hr
  subst h2
  simp [bytes, fbytes, fldOf, fld, two, twos_len, pack_nil, hw]
  omega
theorem sl_built {w w3 : World} {v : Value} {cs : Array Value} {t : TypeId} (K : Keeps (w.alloc (.cells cs t)) w3 v) (s : (w.alloc (.cells cs t)).heap.size ≤ w3.heap.size) (hne : v.ownBlock ≠ some w.heap.size) : Sl w3 w3.heap.size (some ⟨w.heap.size, 0, none⟩) cs.size cs.toList := by
  simp at s
  exact Sl.of_block ((K w.heap.size (by simp) hne).trans (heap_alloc_new w _)) (by omega)
end Go.Proofs.Ytiibopdnlmnkmaa.AskW
/- What saucierref02.Parse reads of bytes; its state; At as a quiet call; Bytes as one contract. -/
set_option linter.unusedVariables false
set_option linter.unusedSimpArgs false
namespace Go.Proofs.Ytiibopdnlmnkmaa.AskW
open Go.RowKit Go.Proofs.Ytiibopdnlmnkmaa Go.Proofs.Ytiibopdnlmnkmaa.Ask
/-- Numbers of two bytes, as far as both are there. -/
def pairs : List Nat → List Nat
  | x :: y :: r => (256 * x + y) :: pairs r
  | _ => []
theorem pairs_twos : ∀ W : List Nat, pairs (twos W) = W
  | [] => rfl
  | x :: l => by
    show pairs (x / 256 :: x % 256 :: twos l) = x :: l
    simp only [pairs, pairs_twos l]
    congr 1
    exact Nat.div_add_mod x 256
theorem pairs_len : ∀ xs : List Nat, (pairs xs).length = xs.length / 2
  | [] => rfl
  | [_] => by simp [pairs]
  | _ :: _ :: r => by simp only [pairs, List.length_cons, pairs_len r]; omega
theorem pairs_get : ∀ (xs : List Nat) (j : Nat), 2 * j + 1 < xs.length → (pairs xs)[j]?.getD 0 = num xs (2 * j)
  | [], j, h => by simp at h
  | [_], j, h => by simp at h
  | x :: y :: r, 0, h => by simp [pairs, num]
  | x :: y :: r, j + 1, h => by
    have := pairs_get r j (by simp at h; omega)
    rw [show 2 * (j + 1) = 2 * j + 2 by omega]
    simpa [pairs, num] using this
theorem pairs_lt : ∀ {xs : List Nat}, Bytes xs → ∀ y ∈ pairs xs, y < 65536
  | [], _, y, hy => by cases hy
  | [_], _, y, hy => by cases hy
  | a :: b :: r, h, y, hy => by
    simp only [pairs, List.mem_cons] at hy
    have h1 := h a (by simp)
    have h2 := h b (by simp)
    rcases hy with rfl | hy
    · omega
    · exact pairs_lt (fun c hc => h c (by simp [hc])) y hy
theorem atF_eq {xs : List Nat} {i : Nat} (h : i + 1 < xs.length) : atF xs i = num xs i := by unfold atF; rw [if_neg (by omega)]
theorem atF_lt {xs : List Nat} (h : Bytes xs) (i : Nat) : atF xs i < 65536 := by
  unfold atF; split
  · decide
  · exact num_lt h i
/-- The only request that bytes may be of. -/
def cand (xs : List Nat) : Req :=
  let f := xs[0]?.getD 0
  if f = 5 then ⟨f, atF xs 1, 0, 0, [], [atF xs 3 == 65280]⟩
  else if f = 6 then ⟨f, atF xs 1, 0, 0, [atF xs 3], []⟩
  else if f = 15 then ⟨f, atF xs 1, atF xs 3, 0, [], (unpack (xs.drop 6)).take (atF xs 3)⟩
  else if f = 16 then ⟨f, atF xs 1, atF xs 3, 0, pairs (xs.drop 6), []⟩
  else if f = 23 then ⟨f, atF xs 1, atF xs 3, atF xs 5, pairs (xs.drop 10), []⟩
  else ⟨f, atF xs 1, atF xs 3, 0, [], []⟩
theorem cand_wf {xs : List Nat} (h : Bytes xs) : (cand xs).Wf := by
  have h0 := h.at 0
  have h1 := atF_lt h 1
  have h3 := atF_lt h 3
  have h5 := atF_lt h 5
  unfold cand; dsimp only; repeat' split
  all_goals exact ⟨h0, h1, by first | exact h3 | exact Nat.zero_lt_succ _, by first | exact h5 | exact Nat.zero_lt_succ _, by first | exact pairs_lt (h.drop _) | (intro x hx; simp at hx; done) | (intro x hx; simp at hx; omega)⟩
theorem cand_bytes {r : Req} (hr : right r = true) : cand (bytes r) = r := by
  cases shape_of hr with
  | ask m h hf hm hb =>
    rw [hb, h]
    rcases hf with hf | hf | hf | hf <;> simp [cand, atF, num, hf, dm]
  | bit x h hb =>
    rw [hb]
    conv => rhs; rw [h]
    cases x <;> simp [cand, atF, num, dm]
  | word x h hb =>
    rw [hb]
    conv => rhs; rw [h]
    simp [cand, atF, num, dm]
  | bits h hm hb =>
    rw [hb]
    conv => rhs; rw [h]
    simp [cand, atF, num, dm, unpack_pack]
  | words h hm hb =>
    rw [hb]
    conv => rhs; rw [h]
    simp [cand, atF, num, dm, pairs_twos]
  | swap h hm hw hb =>
    rw [hb]
    conv => rhs; rw [h]
    simp [cand, atF, num, dm, pairs_twos]
theorem parse_cand (xs : List Nat) : parseF xs = if right (cand xs) && bytes (cand xs) == xs then (cand xs, 0) else (bare 0, 12) := by
  rcases parse_cases xs with ⟨r, hr, hb, hp, _⟩ | ⟨hp, hl⟩
  · have hc : cand xs = r := by rw [← hb]; exact cand_bytes hr
    rw [hc, hp, if_pos (by rw [hr, hb]; simp)]
  · rw [hp, if_neg]
    intro h
    rw [Bool.and_eq_true] at h
    have hb : bytes (cand xs) = xs := by simpa using h.2
    have := look_bytes h.1
    rw [hb] at this
    rw [this] at hl
    exact hl rfl
theorem parse_short {xs : List Nat} (h : xs.length < 5) : parseF xs = (bare 0, 12) := by
  rcases parse_cases xs with ⟨r, hr, hb, _, _⟩ | ⟨hp, _⟩
  · have := bytes_len hr
    rw [hb] at this; omega
  · exact hp
/-- The world while Parse is under way: the result's block, and the request's. -/
structure Pt (w W : World) (k : Nat) (cs : Array Value) : Prop where
  bel : Below w.heap.size w W
  rz : W.heap[w.heap.size]? = some (.cells #[.int .u8 0, .int .u16 0, .int .u16 0, .int .u16 0, .slice none 0 0, .slice none 0 0] 31 (0, 0))
  ra : W.heap[k]? = some (.cells cs 31 (0, 0))
  hk : w.heap.size < k
section
variable {w W W' : World} {k : Nat} {cs : Array Value}
theorem Pt.lt (S : Pt w W k cs) : k < W.heap.size := row_lt S.ra
theorem Pt.call (S : Pt w W k cs) (b : Below W.heap.size W W') : Pt w W' k cs := ⟨S.bel.call b, b.row (by have := S.lt; have := S.hk; omega) S.rz, b.row (by have := S.lt; omega) S.ra, S.hk⟩
theorem Pt.new (S : Pt w W k cs) (o : Obj) : Pt w (W.alloc o) k cs := ⟨S.bel.new o, row_alloc S.rz o, row_alloc S.ra o, S.hk⟩
theorem Pt.drewN (S : Pt w W k cs) (d : Nat) : Pt w (W.drewN d) k cs := ⟨S.bel.drewN d, S.rz, S.ra, S.hk⟩
theorem Pt.set (S : Pt w W k cs) (i : Nat) (v : Value) : Pt w (W.setCell ⟨k, i, none⟩ v) k (cs.setIfInBounds i v) := by
  have g := grown_setCell W k i v
  exact ⟨S.bel.setCell (Nat.le_of_lt S.hk) v, g.row (by have := S.hk; omega) S.rz, heap_setCell_same W _ i _ _ _ S.ra, S.hk⟩
theorem Pt.grown (S : Pt w W k cs) {v : Value} (g : W.grownBy W' v.ownBlock) (h : ∀ b, v.ownBlock = some b → w.heap.size < b ∧ b ≠ k) : Pt w W' k cs :=
  ⟨S.bel.grown g S.bel.size (fun k hk => by have := h k hk; omega),
   (g.block _ (by have := S.lt; have := S.hk; omega) (fun e => by have := h _ e.symm; omega)).trans S.rz,
   (g.block _ (by have := S.lt; omega) (fun e => by have := h _ e.symm; omega)).trans S.ra, S.hk⟩
end
end Go.Proofs.Ytiibopdnlmnkmaa.AskW
