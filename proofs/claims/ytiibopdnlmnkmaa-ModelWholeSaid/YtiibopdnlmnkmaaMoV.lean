/- What ModelReads, ModelWrites and ModelWhole say, as plain facts. No program in sight. -/
import Derived.Test.YtiibopdnlmnkmaaMG3
namespace Go.Proofs.Ytiibopdnlmnkmaa.Mo
open Go.Proofs.Ytiibopdnlmnkmaa Go.Proofs.Ytiibopdnlmnkmaa.Ask Go.Proofs.Ytiibopdnlmnkmaa.AskW
/-- A request of function 1 to 4. -/
theorem reads_wrote (m : Mem) (f a n : Nat) : wrote m ⟨f, a, n, 0, [], []⟩ = m := by
  unfold wrote; rw [over_nil, over_nil]
theorem reads_keep (s : Space) (m : Mem) (f a n : Nat) : (doM s m ⟨f, a, n, 0, [], []⟩).1 = m := by
  unfold doM
  by_cases h : faultM s m ⟨f, a, n, 0, [], []⟩ = 0
  · rw [if_pos h]; exact reads_wrote m f a n
  · rw [if_neg h]
theorem right_read {f a n : Nat} (hf : f = 1 ∨ f = 2 ∨ f = 3 ∨ f = 4) : right ⟨f, a, n, 0, [], []⟩ = decide (1 ≤ n ∧ n ≤ (if f ≤ 2 then 2000 else 125)) := by
  rw [Bool.eq_iff_iff, decide_eq_true_iff]
  rcases hf with rfl | rfl | rfl | rfl
  all_goals (simp [right, fld, Fld.right, fits]; omega)
theorem reads_part {L : List Area} {a n b k : Nat} (h : readsOk L a n = true) (h1 : a ≤ b) (h2 : b + k ≤ a + n) : readsOk L b k = true := by
  rw [reads_iff] at h ⊢
  intro j hj
  have h3 := h (b - a + j) (by omega)
  rwa [show a + (b - a + j) = b + j by omega] at h3
theorem allowed_part {s : Space} {f a n b k : Nat} (hf : f = 1 ∨ f = 2 ∨ f = 3 ∨ f = 4) (h : allowed s ⟨f, a, n, 0, [], []⟩ = true) (h1 : a ≤ b) (h2 : b + k ≤ a + n) : allowed s ⟨f, b, k, 0, [], []⟩ = true := by
  rcases hf with rfl | rfl | rfl | rfl
  all_goals exact reads_part (by exact h) h1 h2
/-- What is read of a part of what may be read. -/
theorem reads_fault {s : Space} {m : Mem} {f a n b k : Nat} (hf : f = 1 ∨ f = 2 ∨ f = 3 ∨ f = 4) (h : (doM s m ⟨f, a, n, 0, [], []⟩).2.x = 0) (h0 : 1 ≤ k) (h1 : a ≤ b) (h2 : b + k ≤ a + n) : faultM s m ⟨f, b, k, 0, [], []⟩ = 0 := by
  rw [do_x] at h
  obtain ⟨hc, hm⟩ := fault_ok h
  obtain ⟨hr, ha⟩ := check_ok hc
  rw [right_read hf, decide_eq_true_iff] at hr
  have hr2 : right ⟨f, b, k, 0, [], []⟩ = true := by rw [right_read hf, decide_eq_true_iff]; exact ⟨h0, by omega⟩
  rw [fault_right hm]
  unfold checkM
  rw [if_pos hr2, if_pos (allowed_part hf ha h1 h2)]
def table (m : Mem) (f : Nat) : List Bool := if f = 1 then m.coils else m.inputs
def regs (m : Mem) (f : Nat) : List Nat := if f = 4 then m.words else m.holding
theorem answer_read (m : Mem) {f a n : Nat} (hf : f = 1 ∨ f = 2 ∨ f = 3 ∨ f = 4) : answer m ⟨f, a, n, 0, [], []⟩ = if f ≤ 2 then ⟨f, 0, pad8 (slab (table m f) a n), [], 0, 0⟩ else ⟨f, 0, [], slab (regs m f) a n, 0, 0⟩ := by
  rcases hf with rfl | rfl | rfl | rfl
  all_goals
    unfold answer
    rw [show (echoF ⟨_, a, n, 0, [], []⟩).2 = false by unfold echoF; split <;> rfl]
    rfl
theorem reads_is {s : Space} {m : Mem} {f a n : Nat} (hf : f = 1 ∨ f = 2 ∨ f = 3 ∨ f = 4) (h : faultM s m ⟨f, a, n, 0, [], []⟩ = 0) : (doM s m ⟨f, a, n, 0, [], []⟩).2 = if f ≤ 2 then ⟨f, 0, pad8 (slab (table m f) a n), [], 0, 0⟩ else ⟨f, 0, [], slab (regs m f) a n, 0, 0⟩ := by
  rw [do_ok h]
  show answer (wrote m _) _ = _
  rw [reads_wrote, answer_read m hf]
theorem reads_long {s : Space} {m : Mem} {f a n : Nat} (hf : f = 1 ∨ f = 2 ∨ f = 3 ∨ f = 4) (h : faultM s m ⟨f, a, n, 0, [], []⟩ = 0) : 1 ≤ n ∧ n ≤ 2000 ∧ a + n ≤ 65536 ∧ (f ≤ 2 → a + n ≤ (table m f).length) ∧ (2 < f → a + n ≤ (regs m f).length) := by
  obtain ⟨hc, hm⟩ := fault_ok h
  have q := span_ok hc hm
  obtain ⟨l1, l2, l3, l4⟩ := right_long hm
  have l1 := (areas_mem l1).1
  have l2 := (areas_mem l2).1
  have l3 := (areas_mem l3).1
  have l4 := (areas_mem l4).1
  dsimp only at q
  rcases hf with rfl | rfl | rfl | rfl
  · have q := q.2.2.1 rfl; exact ⟨q.2.2.1, q.2.2.2.1, by omega, fun _ => q.2.2.2.2, fun h => by omega⟩
  · have q := q.2.2.2.1 rfl; exact ⟨q.2.2.1, q.2.2.2.1, by omega, fun _ => q.2.2.2.2, fun h => by omega⟩
  · have q := q.2.2.2.2.1 (.inl rfl); exact ⟨q.2.1, by omega, by omega, fun h => by omega, fun _ => q.2.2.2⟩
  · have q := q.2.2.2.2.2.2 rfl; exact ⟨q.2.2.1, by omega, by omega, fun h => by omega, fun _ => q.2.2.2.2⟩
/-- Two halves are the whole. -/
theorem halves {s : Space} {m : Mem} {f a n k : Nat} (hf : f = 1 ∨ f = 2 ∨ f = 3 ∨ f = 4) (h : (doM s m ⟨f, a, n, 0, [], []⟩).2.x = 0) (h1 : 1 ≤ k) (h2 : k < n) :
    let r := (doM s m ⟨f, a, n, 0, [], []⟩).2
    let x := (doM s m ⟨f, a, k, 0, [], []⟩).2
    let y := (doM s m ⟨f, a + k, n - k, 0, [], []⟩).2
    x.x = 0 ∧ y.x = 0 ∧ a + n ≤ 65536 ∧ (2 < f → x.words ++ y.words = r.words) ∧ (f ≤ 2 → k ≤ x.bits.length ∧ n - k ≤ y.bits.length ∧ n ≤ r.bits.length ∧ x.bits.take k ++ y.bits.take (n - k) = r.bits.take n) := by
  intro r x y
  have hr0 : faultM s m ⟨f, a, n, 0, [], []⟩ = 0 := by rw [← do_x]; exact h
  have hx0 : faultM s m ⟨f, a, k, 0, [], []⟩ = 0 := reads_fault hf h h1 (Nat.le_refl _) (by omega)
  have hy0 : faultM s m ⟨f, a + k, n - k, 0, [], []⟩ = 0 := reads_fault hf h (by omega) (by omega) (by omega)
  have er : r = _ := reads_is hf hr0
  have ex : x = _ := reads_is hf hx0
  have ey : y = _ := reads_is hf hy0
  obtain ⟨-, -, g1, g2, g3⟩ := reads_long hf hr0
  refine ⟨by rw [show x.x = faultM s m _ from do_x _ _ _]; exact hx0, by rw [show y.x = faultM s m _ from do_x _ _ _]; exact hy0, g1, fun hf2 => ?_, fun hf2 => ?_⟩
  · rw [er, ex, ey, if_neg (by omega), if_neg (by omega), if_neg (by omega)]
    show slab _ _ _ ++ slab _ _ _ = slab _ _ _
    rw [slab_split, show k + (n - k) = n by omega]
  · have g := g2 hf2
    rw [er, ex, ey, if_pos hf2, if_pos hf2, if_pos hf2]
    have e : ∀ b c, b + c ≤ (table m f).length → (pad8 (slab (table m f) b c)).take c = slab (table m f) b c ∧ c ≤ (pad8 (slab (table m f) b c)).length := fun b c hb => by
      have hl := slab_length hb
      refine ⟨?_, ?_⟩
      · unfold pad8; rw [List.take_append_of_le_length (by omega), List.take_of_length_le (by omega)]
      · rw [pad8_length, hl]; omega
    obtain ⟨e1, e2⟩ := e a k (by omega)
    obtain ⟨e3, e4⟩ := e (a + k) (n - k) (by omega)
    obtain ⟨e5, e6⟩ := e a n g
    refine ⟨e2, e4, e6, ?_⟩
    show (pad8 _).take _ ++ (pad8 _).take _ = (pad8 _).take _
    rw [e1, e3, e5, slab_split, show k + (n - k) = n by omega]
/-- What is refused changes nothing; what is done is read where it was written. -/
theorem writes_bad {s : Space} {m : Mem} {r : Req} (h : (doM s m r).2.x ≠ 0) : (doM s m r).1 = m ∧ (checkM s r = (doM s m r).2.x ∨ (checkM s r = 0 ∧ (doM s m r).2.x = 4 ∧ rightM s m = false)) := by
  rw [do_x] at h ⊢
  refine ⟨do_bad h, ?_⟩
  unfold faultM at h ⊢
  by_cases hc : checkM s r = 0
  · rw [if_pos hc] at h ⊢
    cases hm : rightM s m
    · exact .inr ⟨hc, rfl, rfl⟩
    · rw [hm] at h; exact absurd rfl h
  · rw [if_neg hc]; exact .inl rfl
theorem writes_ok {s : Space} {m : Mem} {r : Req} (h : (doM s m r).2.x = 0) :
    checkM s r = 0 ∧ rightM s (doM s m r).1 = true ∧ (doM s m r).1.inputs = m.inputs ∧ (doM s m r).1.words = m.words ∧
    (∀ i : Nat, (doM s m r).1.holding[i]? = if place r ≤ i ∧ i < place r + r.words.length then r.words[i - place r]? else m.holding[i]?) ∧
    (∀ i : Nat, (doM s m r).1.coils[i]? = if place r ≤ i ∧ i < place r + r.bits.length then r.bits[i - place r]? else m.coils[i]?) ∧
    (r.bits = [] ∨ place r + r.bits.length ≤ m.coils.length) ∧ (r.words = [] ∨ place r + r.words.length ≤ m.holding.length) := by
  rw [do_x] at h
  obtain ⟨hc, hm⟩ := fault_ok h
  have q := span_ok hc hm
  rw [do_ok h]
  exact ⟨hc, wrote_right hc hm, rfl, rfl, over_get q.2.1, over_get q.1, q.1, q.2.1⟩
/-- One area: what may be written of it. -/
theorem write_one {a l k c : Nat} {wr wh : Bool} (hc : 1 ≤ c) : writesOk [⟨(a : Int), (l : Int), true, wr, wh⟩] k c = (wr && (decide (a ≤ k ∧ k + c ≤ a + l) && (!wh || decide (a = k ∧ l = c)))) := by
  have e : ∀ j : Nat, writeAt [⟨(a : Int), (l : Int), true, wr, wh⟩] k c ((j : Nat) : Int) = (decide (a ≤ j ∧ j < a + l) && (wr && (!wh || decide (a = k ∧ l = c)))) := by
    intro j
    unfold writeAt findA
    rw [List.find?_cons]
    have hh : (Area.has ⟨(a : Int), (l : Int), true, wr, wh⟩ (j : Int)) = decide (a ≤ j ∧ j < a + l) := by
      unfold Area.has
      rw [Bool.eq_iff_iff]
      simp only [Bool.and_eq_true, decide_eq_true_iff]
      omega
    rw [hh]
    by_cases hj : a ≤ j ∧ j < a + l
    · rw [decide_eq_true hj]
      cases wr <;> cases wh <;> simp
      rw [Bool.eq_iff_iff]
      simp
      omega
    · rw [decide_eq_false hj]; rfl
  rw [Bool.eq_iff_iff, writes_iff]
  simp only [e, Bool.and_eq_true, decide_eq_true_iff]
  constructor
  · intro h
    have h1 := h 0 (by omega)
    have h2 := h (c - 1) (by omega)
    exact ⟨h1.2.1, ⟨by omega, by omega⟩, h1.2.2⟩
  · intro ⟨h1, h2, h3⟩ j hj
    exact ⟨⟨by omega, by omega⟩, h1, h3⟩
theorem right_6 {a x : Nat} : right ⟨6, a, 0, 0, [x], []⟩ = true := by simp [right, fld, Fld.right, fits]
/-- Request 6 or 16 to a memory of nothing but zeros. -/
theorem whole_is {s : Space} {n f k : Nat} {W : List Nat} {q : Nat} (hf : (f = 16 ∧ q = W.length) ∨ (f = 6 ∧ q = 0 ∧ W.length = 1)) (h1 : 1 ≤ W.length) (h2 : W.length ≤ 121) (hW : ∀ x ∈ W, x ≠ 0) (hm : rightM s ⟨[], [], List.replicate n 0, []⟩ = true) :
    let r := doM s ⟨[], [], List.replicate n 0, []⟩ ⟨f, k, q, 0, W, []⟩
    (r.2.x = 0 ↔ writesOk s.holding k W.length = true) ∧ (r.1 = ⟨[], [], List.replicate n 0, []⟩ ↔ writesOk s.holding k W.length = false) := by
  intro r
  have hr : right ⟨f, k, q, 0, W, []⟩ = true := by
    rcases hf with ⟨rfl, rfl⟩ | ⟨rfl, rfl, h⟩
    · exact right_16 h1 h2
    · match W, h with
      | [x], _ => exact right_6
  have ha : allowed s ⟨f, k, q, 0, W, []⟩ = writesOk s.holding k W.length := by
    rcases hf with ⟨rfl, rfl⟩ | ⟨rfl, rfl, h⟩ <;> rfl
  have hp : place ⟨f, k, q, 0, W, []⟩ = k := by
    rcases hf with ⟨rfl, rfl⟩ | ⟨rfl, rfl, h⟩ <;> rfl
  have hx : r.2.x = if writesOk s.holding k W.length then 0 else 2 := by
    rw [show r.2.x = faultM s _ _ from do_x _ _ _, fault_right hm]
    unfold checkM
    rw [hr, ha]; rfl
  cases hw : writesOk s.holding k W.length
  · rw [hw] at hx
    have hne : r.2.x ≠ 0 := by rw [hx]; decide
    exact ⟨⟨fun h => absurd h hne, fun h => by cases h⟩, ⟨fun _ => rfl, fun _ => (writes_bad hne).1⟩⟩
  · rw [hw] at hx
    have h0 : r.2.x = 0 := by rw [hx]; rfl
    refine ⟨⟨fun _ => rfl, fun _ => h0⟩, ⟨fun h => ?_, fun h => by cases h⟩⟩
    exfalso
    obtain ⟨-, -, -, -, g, -, -, l⟩ := writes_ok h0
    have l := l.resolve_left (fun e => by rw [show W = [] from e] at h1; simp at h1)
    rw [hp] at g l
    have g := g k
    rw [if_pos ⟨Nat.le_refl _, by show k < k + W.length; omega⟩, show (r.1).holding = List.replicate n 0 from by rw [h], Nat.sub_self] at g
    have l : k + W.length ≤ n := by simpa using l
    rw [List.getElem?_replicate, if_pos (by omega)] at g
    exact hW 0 (List.mem_of_getElem? g.symm) rfl
theorem whole_right {n a l : Nat} {wr wh : Bool} (hn : n ≤ 65536) (h1 : 1 ≤ l) (h2 : a + l ≤ n) : rightM ⟨[], [], [⟨(a : Int), (l : Int), true, wr, wh⟩], []⟩ ⟨[], [], List.replicate n 0, []⟩ = true := by
  simp [rightM, areasFrom, Area.fits]
  omega
end Go.Proofs.Ytiibopdnlmnkmaa.Mo
