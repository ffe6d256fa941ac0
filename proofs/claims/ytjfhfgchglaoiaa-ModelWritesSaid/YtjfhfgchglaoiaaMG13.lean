/- Merged: MoV MoVF MoY. -/
import Derived.Test.YtjfhfgchglaoiaaMG3
import Derived.Test.YtjfhfgchglaoiaaRepW9
import Derived.Test.YtjfhfgchglaoiaaMoT
/- What ModelReads, ModelWrites and ModelWhole say, as plain facts. No program in sight. -/
namespace Go.Proofs.Ytjfhfgchglaoiaa.Mo
open Go.Proofs.Ytjfhfgchglaoiaa Go.Proofs.Ytjfhfgchglaoiaa.Ask Go.Proofs.Ytjfhfgchglaoiaa.AskW
/-- A request of function 1 to 4. -/
theorem reads_wrote (m : Mem) (f a n : Nat) : wrote m ⟨f, a, n, 0, [], []⟩ = m := by
  unfold wrote; rw [over_nil, over_nil]
theorem reads_keep (s : Space) (m : Mem) (f a n : Nat) : (doM s m ⟨f, a, n, 0, [], []⟩).1 = m := by
  unfold doM
  by_cases h : faultM s m ⟨f, a, n, 0, [], []⟩ = 0
  · rw [if_pos h]; exact reads_wrote m f a n
  · rw [if_neg h]
theorem right_read {f a n : Nat} (hf : f = 1 ∨ f = 2 ∨ f = 3 ∨ f = 4) : right ⟨f, a, n, 0, [], []⟩ = decide (1 ≤ n ∧ n ≤ (if f ≤ 2 then 2000 else 125)) := by
  rw [Bool.eq_iff_iff, decide_eq_true_iff]
  rcases hf with rfl | rfl | rfl | rfl
  all_goals (simp [right, fld, Fld.right, fits]; omega)
theorem reads_part {L : List Area} {a n b k : Nat} (h : readsOk L a n = true) (h1 : a ≤ b) (h2 : b + k ≤ a + n) : readsOk L b k = true := by
  rw [reads_iff] at h ⊢
  intro j hj
  have h3 := h (b - a + j) (by omega)
  rwa [show a + (b - a + j) = b + j by omega] at h3
theorem allowed_part {s : Space} {f a n b k : Nat} (hf : f = 1 ∨ f = 2 ∨ f = 3 ∨ f = 4) (h : allowed s ⟨f, a, n, 0, [], []⟩ = true) (h1 : a ≤ b) (h2 : b + k ≤ a + n) : allowed s ⟨f, b, k, 0, [], []⟩ = true := by
  rcases hf with rfl | rfl | rfl | rfl
  all_goals exact reads_part (by exact h) h1 h2
/-- What is read of a part of what may be read. -/
theorem reads_fault {s : Space} {m : Mem} {f a n b k : Nat} (hf : f = 1 ∨ f = 2 ∨ f = 3 ∨ f = 4) (h : (doM s m ⟨f, a, n, 0, [], []⟩).2.x = 0) (h0 : 1 ≤ k) (h1 : a ≤ b) (h2 : b + k ≤ a + n) : faultM s m ⟨f, b, k, 0, [], []⟩ = 0 := by
  rw [do_x] at h
  obtain ⟨hc, hm⟩ := fault_ok h
  obtain ⟨hr, ha⟩ := check_ok hc
  rw [right_read hf, decide_eq_true_iff] at hr
  have hr2 : right ⟨f, b, k, 0, [], []⟩ = true := by rw [right_read hf, decide_eq_true_iff]; exact ⟨h0, by omega⟩
  rw [fault_right hm]
  unfold checkM
  rw [if_pos hr2, if_pos (allowed_part hf ha h1 h2)]
def table (m : Mem) (f : Nat) : List Bool := if f = 1 then m.coils else m.inputs
def regs (m : Mem) (f : Nat) : List Nat := if f = 4 then m.words else m.holding
theorem answer_read (m : Mem) {f a n : Nat} (hf : f = 1 ∨ f = 2 ∨ f = 3 ∨ f = 4) : answer m ⟨f, a, n, 0, [], []⟩ = if f ≤ 2 then ⟨f, 0, pad8 (slab (table m f) a n), [], 0, 0⟩ else ⟨f, 0, [], slab (regs m f) a n, 0, 0⟩ := by
  rcases hf with rfl | rfl | rfl | rfl
  all_goals
    unfold answer
    rw [show (echoF ⟨_, a, n, 0, [], []⟩).2 = false by unfold echoF; split <;> rfl]
    rfl
theorem reads_is {s : Space} {m : Mem} {f a n : Nat} (hf : f = 1 ∨ f = 2 ∨ f = 3 ∨ f = 4) (h : faultM s m ⟨f, a, n, 0, [], []⟩ = 0) : (doM s m ⟨f, a, n, 0, [], []⟩).2 = if f ≤ 2 then ⟨f, 0, pad8 (slab (table m f) a n), [], 0, 0⟩ else ⟨f, 0, [], slab (regs m f) a n, 0, 0⟩ := by
  rw [do_ok h]
  show answer (wrote m _) _ = _
  rw [reads_wrote, answer_read m hf]
theorem reads_long {s : Space} {m : Mem} {f a n : Nat} (hf : f = 1 ∨ f = 2 ∨ f = 3 ∨ f = 4) (h : faultM s m ⟨f, a, n, 0, [], []⟩ = 0) : 1 ≤ n ∧ n ≤ 2000 ∧ a + n ≤ 65536 ∧ (f ≤ 2 → a + n ≤ (table m f).length) ∧ (2 < f → a + n ≤ (regs m f).length) := by
  obtain ⟨hc, hm⟩ := fault_ok h
  have q := span_ok hc hm
  obtain ⟨l1, l2, l3, l4⟩ := right_long hm
  have l1 := (areas_mem l1).1
  have l2 := (areas_mem l2).1
  have l3 := (areas_mem l3).1
  have l4 := (areas_mem l4).1
  dsimp only at q
  rcases hf with rfl | rfl | rfl | rfl
  · have q := q.2.2.1 rfl; exact ⟨q.2.2.1, q.2.2.2.1, by omega, fun _ => q.2.2.2.2, fun h => by omega⟩
  · have q := q.2.2.2.1 rfl; exact ⟨q.2.2.1, q.2.2.2.1, by omega, fun _ => q.2.2.2.2, fun h => by omega⟩
  · have q := q.2.2.2.2.1 (.inl rfl); exact ⟨q.2.1, by omega, by omega, fun h => by omega, fun _ => q.2.2.2⟩
  · have q := q.2.2.2.2.2.2 rfl; exact ⟨q.2.2.1, by omega, by omega, fun h => by omega, fun _ => q.2.2.2.2⟩
/-- Two halves are the whole. -/
theorem halves {s : Space} {m : Mem} {f a n k : Nat} (hf : f = 1 ∨ f = 2 ∨ f = 3 ∨ f = 4) (h : (doM s m ⟨f, a, n, 0, [], []⟩).2.x = 0) (h1 : 1 ≤ k) (h2 : k < n) :
    let r := (doM s m ⟨f, a, n, 0, [], []⟩).2
    let x := (doM s m ⟨f, a, k, 0, [], []⟩).2
    let y := (doM s m ⟨f, a + k, n - k, 0, [], []⟩).2
    x.x = 0 ∧ y.x = 0 ∧ a + n ≤ 65536 ∧ (2 < f → x.words ++ y.words = r.words) ∧ (f ≤ 2 → k ≤ x.bits.length ∧ n - k ≤ y.bits.length ∧ n ≤ r.bits.length ∧ x.bits.take k ++ y.bits.take (n - k) = r.bits.take n) := by
  intro r x y
  have hr0 : faultM s m ⟨f, a, n, 0, [], []⟩ = 0 := by rw [← do_x]; exact h
  have hx0 : faultM s m ⟨f, a, k, 0, [], []⟩ = 0 := reads_fault hf h h1 (Nat.le_refl _) (by omega)
  have hy0 : faultM s m ⟨f, a + k, n - k, 0, [], []⟩ = 0 := reads_fault hf h (by omega) (by omega) (by omega)
  have er : r = _ := reads_is hf hr0
  have ex : x = _ := reads_is hf hx0
  have ey : y = _ := reads_is hf hy0
  obtain ⟨-, -, g1, g2, g3⟩ := reads_long hf hr0
  refine ⟨by rw [show x.x = faultM s m _ from do_x _ _ _]; exact hx0, by rw [show y.x = faultM s m _ from do_x _ _ _]; exact hy0, g1, fun hf2 => ?_, fun hf2 => ?_⟩
  · rw [er, ex, ey, if_neg (by omega), if_neg (by omega), if_neg (by omega)]
    show slab _ _ _ ++ slab _ _ _ = slab _ _ _
    rw [slab_split, show k + (n - k) = n by omega]
  · have g := g2 hf2
    rw [er, ex, ey, if_pos hf2, if_pos hf2, if_pos hf2]
    have e : ∀ b c, b + c ≤ (table m f).length → (pad8 (slab (table m f) b c)).take c = slab (table m f) b c ∧ c ≤ (pad8 (slab (table m f) b c)).length := fun b c hb => by
      have hl := slab_length hb
      refine ⟨?_, ?_⟩
      · unfold pad8; rw [List.take_append_of_le_length (by omega), List.take_of_length_le (by omega)]
      · rw [pad8_length, hl]; omega
    obtain ⟨e1, e2⟩ := e a k (by omega)
    obtain ⟨e3, e4⟩ := e (a + k) (n - k) (by omega)
    obtain ⟨e5, e6⟩ := e a n g
    refine ⟨e2, e4, e6, ?_⟩
    show (pad8 _).take _ ++ (pad8 _).take _ = (pad8 _).take _
    rw [e1, e3, e5, slab_split, show k + (n - k) = n by omega]
/-- What is refused changes nothing; what is done is read where it was written. -/
theorem writes_bad {s : Space} {m : Mem} {r : Req} (h : (doM s m r).2.x ≠ 0) : (doM s m r).1 = m ∧ (checkM s r = (doM s m r).2.x ∨ (checkM s r = 0 ∧ (doM s m r).2.x = 4 ∧ rightM s m = false)) := by
  rw [do_x] at h ⊢
  refine ⟨do_bad h, ?_⟩
  unfold faultM at h ⊢
  by_cases hc : checkM s r = 0
  · rw [if_pos hc] at h ⊢
    cases hm : rightM s m
    · exact .inr ⟨hc, rfl, rfl⟩
    · rw [hm] at h; exact absurd rfl h
  · rw [if_neg hc]; exact .inl rfl
theorem writes_ok {s : Space} {m : Mem} {r : Req} (h : (doM s m r).2.x = 0) :
    checkM s r = 0 ∧ rightM s (doM s m r).1 = true ∧ (doM s m r).1.inputs = m.inputs ∧ (doM s m r).1.words = m.words ∧
    (∀ i : Nat, (doM s m r).1.holding[i]? = if place r ≤ i ∧ i < place r + r.words.length then r.words[i - place r]? else m.holding[i]?) ∧
    (∀ i : Nat, (doM s m r).1.coils[i]? = if place r ≤ i ∧ i < place r + r.bits.length then r.bits[i - place r]? else m.coils[i]?) ∧
    (r.bits = [] ∨ place r + r.bits.length ≤ m.coils.length) ∧ (r.words = [] ∨ place r + r.words.length ≤ m.holding.length) := by
  rw [do_x] at h
  obtain ⟨hc, hm⟩ := fault_ok h
  have q := span_ok hc hm
  rw [do_ok h]
  exact ⟨hc, wrote_right hc hm, rfl, rfl, over_get q.2.1, over_get q.1, q.1, q.2.1⟩
/-- One area: what may be written of it. -/
theorem write_one {a l k c : Nat} {wr wh : Bool} (hc : 1 ≤ c) : writesOk [⟨(a : Int), (l : Int), true, wr, wh⟩] k c = (wr && (decide (a ≤ k ∧ k + c ≤ a + l) && (!wh || decide (a = k ∧ l = c)))) := by
  have e : ∀ j : Nat, writeAt [⟨(a : Int), (l : Int), true, wr, wh⟩] k c ((j : Nat) : Int) = (decide (a ≤ j ∧ j < a + l) && (wr && (!wh || decide (a = k ∧ l = c)))) := by
    intro j
    unfold writeAt findA
    rw [List.find?_cons]
    have hh : (Area.has ⟨(a : Int), (l : Int), true, wr, wh⟩ (j : Int)) = decide (a ≤ j ∧ j < a + l) := by
      unfold Area.has
      rw [Bool.eq_iff_iff]
      simp only [Bool.and_eq_true, decide_eq_true_iff]
      omega
    rw [hh]
    by_cases hj : a ≤ j ∧ j < a + l
    · rw [decide_eq_true hj]
      cases wr <;> cases wh <;> simp
      rw [Bool.eq_iff_iff]
      simp
      omega
    · rw [decide_eq_false hj]; rfl
  rw [Bool.eq_iff_iff, writes_iff]
  simp only [e, Bool.and_eq_true, decide_eq_true_iff]
  constructor
  · intro h
    have h1 := h 0 (by omega)
    have h2 := h (c - 1) (by omega)
    exact ⟨h1.2.1, ⟨by omega, by omega⟩, h1.2.2⟩
  · intro ⟨h1, h2, h3⟩ j hj
    exact ⟨⟨by omega, by omega⟩, h1, h3⟩
theorem right_6 {a x : Nat} : right ⟨6, a, 0, 0, [x], []⟩ = true := by simp [right, fld, Fld.right, fits]
/-- Request 6 or 16 to a memory of nothing but zeros. -/
theorem whole_is {s : Space} {n f k : Nat} {W : List Nat} {q : Nat} (hf : (f = 16 ∧ q = W.length) ∨ (f = 6 ∧ q = 0 ∧ W.length = 1)) (h1 : 1 ≤ W.length) (h2 : W.length ≤ 121) (hW : ∀ x ∈ W, x ≠ 0) (hm : rightM s ⟨[], [], List.replicate n 0, []⟩ = true) :
    let r := doM s ⟨[], [], List.replicate n 0, []⟩ ⟨f, k, q, 0, W, []⟩
    (r.2.x = 0 ↔ writesOk s.holding k W.length = true) ∧ (r.1 = ⟨[], [], List.replicate n 0, []⟩ ↔ writesOk s.holding k W.length = false) := by
  intro r
  have hr : right ⟨f, k, q, 0, W, []⟩ = true := by
    rcases hf with ⟨rfl, rfl⟩ | ⟨rfl, rfl, h⟩
    · exact right_16 h1 h2
    · match W, h with
      | [x], _ => exact right_6
  have ha : allowed s ⟨f, k, q, 0, W, []⟩ = writesOk s.holding k W.length := by
    rcases hf with ⟨rfl, rfl⟩ | ⟨rfl, rfl, h⟩ <;> rfl
  have hp : place ⟨f, k, q, 0, W, []⟩ = k := by
    rcases hf with ⟨rfl, rfl⟩ | ⟨rfl, rfl, h⟩ <;> rfl
  have hx : r.2.x = if writesOk s.holding k W.length then 0 else 2 := by
    rw [show r.2.x = faultM s _ _ from do_x _ _ _, fault_right hm]
    unfold checkM
    rw [hr, ha]; rfl
  cases hw : writesOk s.holding k W.length
  · rw [hw] at hx
    have hne : r.2.x ≠ 0 := by rw [hx]; decide
    exact ⟨⟨fun h => absurd h hne, fun h => by cases h⟩, ⟨fun _ => rfl, fun _ => (writes_bad hne).1⟩⟩
  · rw [hw] at hx
    have h0 : r.2.x = 0 := by rw [hx]; rfl
    refine ⟨⟨fun _ => rfl, fun _ => h0⟩, ⟨fun h => ?_, fun h => by cases h⟩⟩
    exfalso
    obtain ⟨-, -, -, -, g, -, -, l⟩ := writes_ok h0
    have l := l.resolve_left (fun e => by rw [show W = [] from e] at h1; simp at h1)
    rw [hp] at g l
    have g := g k
    rw [if_pos ⟨Nat.le_refl _, by show k < k + W.length; omega⟩, show (r.1).holding = List.replicate n 0 from by rw [h], Nat.sub_self] at g
    have l : k + W.length ≤ n := by simpa using l
    rw [List.getElem?_replicate, if_pos (by omega)] at g
    exact hW 0 (List.mem_of_getElem? g.symm) rfl
theorem whole_right {n a l : Nat} {wr wh : Bool} (hn : n ≤ 65536) (h1 : 1 ≤ l) (h2 : a + l ≤ n) : rightM ⟨[], [], [⟨(a : Int), (l : Int), true, wr, wh⟩], []⟩ ⟨[], [], List.replicate n 0, []⟩ = true := by
  simp [rightM, areasFrom, Area.fits]
  omega
end Go.Proofs.Ytjfhfgchglaoiaa.Mo
/- What is done fits what was asked. No program in sight. -/
namespace Go.Proofs.Ytjfhfgchglaoiaa.Mo
open Go.Proofs.Ytjfhfgchglaoiaa Go.Proofs.Ytjfhfgchglaoiaa.Ask Go.Proofs.Ytjfhfgchglaoiaa.AskW
theorem pad8_drop (l : List Bool) : ((pad8 l).drop l.length).any id = false := by
  unfold pad8
  rw [List.drop_left, List.any_eq_false]
  intro x hx
  rw [List.eq_of_mem_replicate hx]; simp
theorem do_fits {s : Space} {m : Mem} {r : Req} (h : (doM s m r).2.x = 0) : fitsF r (doM s m r).2 = true := by
  have hrr := do_rright s m r
  rw [do_x] at h
  obtain ⟨hc, hm⟩ := fault_ok h
  have hsp := span_ok hc hm
  have hr := (check_ok hc).1
  have hl := wrote_len hc hm
  rw [do_ok h] at hrr ⊢
  dsimp only at hrr ⊢
  by_cases hE : (echoF r).2 = true
  · have ha : answer (wrote m r) r = (echoF r).1 := by unfold answer; rw [if_pos hE]
    rw [ha]; exact fits_echo hr hE
  · have hE : (echoF r).2 = false := by simpa using hE
    have hn := echo_is hr
    rw [hE] at hn
    have hn := of_decide_eq_false hn.symm
    have hf := right_fld hr
    obtain ⟨f, a, n, t, W, B⟩ := r
    dsimp only at hn hf hsp
    have ha : answer (wrote m ⟨f, a, n, t, W, B⟩) ⟨f, a, n, t, W, B⟩ = (if f = 1 then ⟨f, 0, pad8 (slab (wrote m ⟨f, a, n, t, W, B⟩).coils a n), [], 0, 0⟩ else if f = 2 then ⟨f, 0, pad8 (slab (wrote m ⟨f, a, n, t, W, B⟩).inputs a n), [], 0, 0⟩ else if f = 4 then ⟨f, 0, [], slab (wrote m ⟨f, a, n, t, W, B⟩).words a n, 0, 0⟩ else ⟨f, 0, [], slab (wrote m ⟨f, a, n, t, W, B⟩).holding a n, 0, 0⟩) := by
      unfold answer; rw [if_neg (by rw [hE]; decide)]
    rw [ha] at hrr ⊢
    have hbits : ∀ l : List Bool, a + n ≤ l.length → (decide (n ≤ (pad8 (slab l a n)).length) && decide ((pad8 (slab l a n)).length < n + 8) && !(((pad8 (slab l a n)).drop n).any id)) = true := fun l hl => by
      have e := slab_length hl
      have d := pad8_drop (slab l a n)
      rw [e] at d
      rw [d, pad8_length, e, decide_eq_true (by omega), decide_eq_true (by omega)]
      rfl
    by_cases h1 : f = 1
    · subst h1
      rw [if_pos rfl] at hrr ⊢
      rw [(fits_bits hr hrr rfl rfl (by show ¬ 2 < 1; omega)).1]
      exact hbits _ (by rw [hl.1]; exact (hsp.2.2.1 rfl).2.2.2.2)
    rw [if_neg h1] at hrr ⊢
    by_cases h2 : f = 2
    · subst h2
      rw [if_pos rfl] at hrr ⊢
      rw [(fits_bits hr hrr rfl rfl (by show ¬ 2 < 2; omega)).1]
      exact hbits _ (hsp.2.2.2.1 rfl).2.2.2.2
    rw [if_neg h2] at hrr ⊢
    by_cases h4 : f = 4
    · subst h4
      rw [if_pos rfl] at hrr ⊢
      rw [fits_words hr hrr rfl rfl hE (by show 2 < 4; omega), beq_iff_eq]
      exact slab_length (hsp.2.2.2.2.2.2 rfl).2.2.2.2
    rw [if_neg h4] at hrr ⊢
    rw [fits_words hr hrr rfl rfl hE (by show 2 < f; omega), beq_iff_eq]
    exact slab_length (by rw [hl.2]; exact (hsp.2.2.2.2.1 (by omega)).2.2.2)
/-- What is written fits into what there is, or stands where nothing is written. -/
theorem writes_fit {s : Space} {m : Mem} {r : Req} (h : (doM s m r).2.x = 0) : (doM s m r).1.coils.length = m.coils.length ∧ (doM s m r).1.holding.length = m.holding.length := by
  rw [do_x] at h
  obtain ⟨hc, hm⟩ := fault_ok h
  rw [do_ok h]
  exact wrote_len hc hm
end Go.Proofs.Ytjfhfgchglaoiaa.Mo
/- The walk of ModelWrites. -/
set_option linter.unusedVariables false
set_option linter.unusedSimpArgs false
namespace Go.Proofs.Ytjfhfgchglaoiaa.MoW
open Go.RowKit Go.Proofs.Ytjfhfgchglaoiaa Go.Proofs.Ytjfhfgchglaoiaa.Mo Go.Proofs.Ytjfhfgchglaoiaa.Ask Go.Proofs.Ytjfhfgchglaoiaa.AskW
theorem boxes_three {w X : World} {a b c : Obj} (h : Below (((w.alloc a).alloc b).alloc c).heap.size (((w.alloc a).alloc b).alloc c) X) :
    X.heap[w.heap.size]? = some a ∧ X.heap[w.heap.size + 1]? = some b ∧ X.heap[w.heap.size + 1 + 1]? = some c ∧ Below w.heap.size w X := by
  have e : (((w.alloc a).alloc b).alloc c).heap.size = w.heap.size + 1 + 1 + 1 := by simp
  exact ⟨h.row (by omega) (row_alloc (row_alloc (heap_alloc_new w a) b) c), h.row (by omega) (row_alloc (heap_alloc2_new w a b) c), h.row (by omega) (row_third w a b c), ((((Below.refl _ w).new _).new _).new _).call h⟩
set_option maxRecDepth 10000 in
set_option maxHeartbeats 16000000 in
theorem modelWrites_any (v u : Sp) (s : Space) (M : Mem) (f a m t : Nat) (Aw : Option Addr) (nw cw : Nat) (Ab : Option Addr) (nb cb : Nat) (W : List Nat) (B : List Bool) (w : World) (hS : SpOk w v s) (hM : MmOk w u M) (ho : s.Ok)
    (hv : v.a.n ≤ 140737488355328 ∧ v.b.n ≤ 140737488355328 ∧ v.c.n ≤ 140737488355328 ∧ v.d.n ≤ 140737488355328) (hW : Sl w w.heap.size Aw nw (ws W)) (hB : Sl w w.heap.size Ab nb (bl B)) (hwf : Req.Wf ⟨f, a, m, t, W, B⟩) :
    Calls Try.prog 3 #[.agg #[.slice v.a.A v.a.n v.a.c, .slice v.b.A v.b.n v.b.c, .slice v.c.A v.c.n v.c.c, .slice v.d.A v.d.n v.d.c], .agg #[.slice u.a.A u.a.n u.a.c, .slice u.b.A u.b.n u.b.c, .slice u.c.A u.c.n u.c.c, .slice u.d.A u.d.n u.d.c], .agg #[.int .u8 (f : Nat), .int .u16 (a : Nat), .int .u16 (m : Nat), .int .u16 (t : Nat), .slice Aw nw cw, .slice Ab nb cb]] w fun e w' => e = .returned (.bool true) ∧ Below w.heap.size w w' := by
  cases hL : lightF v u
  case false =>
    go_enter Try.func3, Try.ntmps3
    go_wp2_with fail
    refine (light_any v u _ hv).mono ?_
    rintro e w1 ⟨rfl, b1⟩
    obtain ⟨X1, X2, X3, bw⟩ := boxes_three b1
    have HS := Lib.hid (hS.to bw)
    have HM := Lib.hid (hM.to bw)
    have HWq := Lib.hid (hW.to bw)
    have HBq := Lib.hid (hB.to bw)
    have Bs := Lib.hid X1
    have Bm := Lib.hid X2
    have Bq := Lib.hid X3
    clear b1 X1 X2 X3 hS hM hW hB
    rw [hL]
    obtain ⟨Bs_0, Bs_1, Bs_2, Bs_3⟩ := row4 Bs.out
    obtain ⟨Bm_0, Bm_1, Bm_2, Bm_3⟩ := row4 Bm.out
    obtain ⟨Bq_0, Bq_1, Bq_2, Bq_3, Bq_4, Bq_5⟩ := row6 Bq.out
    go_wp2_with (go_at_call 10; refine (awake7_any _).mono ?_; rintro e wa ⟨rfl, ba⟩)
    go_ret
    exact ⟨rfl, bw.call ba⟩
  case true =>
    obtain ⟨sv, su, l1, l2, l3, l4⟩ := light_small hL
    cases hL3 : (decide (nw ≤ 200) && decide (nb ≤ 2100))
    case false =>
      go_enter Try.func3, Try.ntmps3
      go_wp2_with fail
      refine (light_any v u _ hv).mono ?_
      rintro e w1 ⟨rfl, b1⟩
      obtain ⟨X1, X2, X3, bw⟩ := boxes_three b1
      have HS := Lib.hid (hS.to bw)
      have HM := Lib.hid (hM.to bw)
      have HWq := Lib.hid (hW.to bw)
      have HBq := Lib.hid (hB.to bw)
      have Bs := Lib.hid X1
      have Bm := Lib.hid X2
      have Bq := Lib.hid X3
      clear b1 X1 X2 X3 hS hM hW hB
      rw [hL]
      obtain ⟨Bs_0, Bs_1, Bs_2, Bs_3⟩ := row4 Bs.out
      obtain ⟨Bm_0, Bm_1, Bm_2, Bm_3⟩ := row4 Bm.out
      obtain ⟨Bq_0, Bq_1, Bq_2, Bq_3, Bq_4, Bq_5⟩ := row6 Bq.out
      go_wp2_with fail
      refine (few_any Aw Ab nw cw nb cb _).mono ?_
      rw [hL3]
      rintro e w2 ⟨rfl, rfl⟩
      go_wp2_with (go_at_call 10; refine (awake7_any _).mono ?_; rintro e wa ⟨rfl, ba⟩)
      go_ret
      exact ⟨rfl, bw.call ba⟩
    case true =>
      have hnw : nw ≤ 200 ∧ nb ≤ 2100 := by simpa only [Bool.and_eq_true, decide_eq_true_iff] using hL3
      obtain ⟨CK, eCK⟩ : ∃ R, R = checkM s ⟨f, a, m, t, W, B⟩ := ⟨_, rfl⟩
      have hpr := rright_small (do_rright s M ⟨f, a, m, t, W, B⟩)
      have hbad := fun h => writes_bad (s := s) (m := M) (r := ⟨f, a, m, t, W, B⟩) h
      have hok := fun h => writes_ok (s := s) (m := M) (r := ⟨f, a, m, t, W, B⟩) h
      have hfit := fun h => do_fits (s := s) (m := M) (r := ⟨f, a, m, t, W, B⟩) h
      have hlen := fun h => writes_fit (s := s) (m := M) (r := ⟨f, a, m, t, W, B⟩) h
      obtain ⟨⟨M1, ⟨f1, x1, B1, W1, a1, m1⟩⟩, e1⟩ : ∃ D, D = doM s M ⟨f, a, m, t, W, B⟩ := ⟨_, rfl⟩
      rw [← e1] at hpr hbad hok hfit hlen
      rw [← eCK] at hbad hok
      dsimp only at hpr hbad hok hfit hlen
      have HCK := Lib.hid eCK
      have HE1 := Lib.hid e1
      have HWF := Lib.hid hwf
      have hM1 : M1.coils.length ≤ 100000 ∧ M1.inputs.length ≤ 100000 ∧ M1.holding.length ≤ 100000 ∧ M1.words.length ≤ 100000 := do_small e1 su hM
      clear eCK e1 hwf
      by_cases hx : x1 = 0
      case neg =>
        have P0 : ((x1 : Int) != 0) = true := by rw [bne_iff_ne]; omega
        obtain ⟨rfl, hCC⟩ := hbad hx
        clear hbad hok hfit hlen
        rcases hCC with rfl | ⟨rfl, rfl, hRf⟩
        · have P1 : ((CK : Int) == (CK : Int)) = true := by simp
          go_enter Try.func3, Try.ntmps3
          go_wp2_with fail
          refine (light_any v u _ hv).mono ?_
          rintro e w1 ⟨rfl, b1⟩
          obtain ⟨X1, X2, X3, bw⟩ := boxes_three b1
          have HS := Lib.hid (hS.to bw)
          have HM := Lib.hid (hM.to bw)
          have HWq := Lib.hid (hW.to bw)
          have HBq := Lib.hid (hB.to bw)
          have Bs := Lib.hid X1
          have Bm := Lib.hid X2
          have Bq := Lib.hid X3
          clear b1 X1 X2 X3 hS hM hW hB
          rw [hL]
          obtain ⟨Bs_0, Bs_1, Bs_2, Bs_3⟩ := row4 Bs.out
          obtain ⟨Bm_0, Bm_1, Bm_2, Bm_3⟩ := row4 Bm.out
          obtain ⟨Bq_0, Bq_1, Bq_2, Bq_3, Bq_4, Bq_5⟩ := row6 Bq.out
          go_wp2_with fail
          refine (few_any Aw Ab nw cw nb cb _).mono ?_
          rw [hL3]
          rintro e w2 ⟨rfl, rfl⟩
          go_wp2_with fail
          refine (modDo_any v u s M1 f a m t Aw nw cw Ab nb cb W B _ HS.out HM.out ho sv su HWq.out HBq.out HWF.out (by omega) (by omega)).mono ?_
          rw [← HE1.out]
          rintro e w3 ⟨yn, A6n, n6n, c6n, A7n, n7n, c7n, rfl, YMn, S6n, S7n, k6n, k7n, bn⟩
          clear Bs_0 Bs_1 Bs_2 Bs_3 Bm_0 Bm_1 Bm_2 Bm_3 Bq_0 Bq_1 Bq_2 Bq_3 Bq_4 Bq_5
          have HS := Lib.hid (HS.out.to bn)
          have HM := Lib.hid (HM.out.to bn)
          have HWq := Lib.hid (HWq.out.to bn)
          have HBq := Lib.hid (HBq.out.to bn)
          have Bs := Lib.hid (bn.row (row_lt Bs.out) Bs.out)
          have Bm := Lib.hid (bn.row (row_lt Bm.out) Bm.out)
          have Bq := Lib.hid (bn.row (row_lt Bq.out) Bq.out)
          have bw := bw.call bn
          have HYn := Lib.hid YMn
          have HBn := Lib.hid S6n
          have HWn := Lib.hid S7n
          clear YMn S6n S7n
          clear bn
          go_wp2_with (first
            | (refine wpList_store_grown rfl 28 (.tmp 7) _ rfl w3.heap.size #[.slice yn.a.A yn.a.n yn.a.c, .slice yn.b.A yn.b.n yn.b.c, .slice yn.c.A yn.c.n yn.c.c, .slice yn.d.A yn.d.n yn.d.c] rfl rfl 28 _ (row_alloc (heap_alloc_new w3 _) _) (by kernel_rfl) rfl (by simp [Value.oneCell']) ?_; intro Wna hna gna sna)
            | (refine wpList_store_grown rfl 36 (.tmp 8) _ rfl (w3.heap.size + 1) #[.int .u8 (f1 : Nat), .int .u8 (CK : Nat), .slice A6n n6n c6n, .slice A7n n7n c7n, .int .u16 (a1 : Nat), .int .u16 (m1 : Nat)] rfl rfl 36 _ (gna.row (by omega) (heap_alloc2_new w3 _ _)) (by kernel_rfl) rfl (by simp [Value.oneCell']) ?_; intro Wn hnb gnb snb; have Bmn := Lib.hid (gnb.row (k := w3.heap.size) (by omega) hna); have Brn := Lib.hid hnb; have Cn := below_two gna gnb sna; clear gna gnb sna snb hna hnb; have HS := Lib.hid (HS.out.to Cn); have HM := Lib.hid (HM.out.to Cn); have HWq := Lib.hid (HWq.out.to Cn); have HBq := Lib.hid (HBq.out.to Cn); have HYn := Lib.hid (HYn.out.to Cn); have HBn := Lib.hid (HBn.out.to Cn); have HWn := Lib.hid (HWn.out.to Cn); have Bs := Lib.hid (Cn.row (row_lt Bs.out) Bs.out); have Bm := Lib.hid (Cn.row (row_lt Bm.out) Bm.out); have Bq := Lib.hid (Cn.row (row_lt Bq.out) Bq.out); have bw := bw.call Cn; clear Cn; obtain ⟨Bs_0, Bs_1, Bs_2, Bs_3⟩ := row4 Bs.out; obtain ⟨Bq_0, Bq_1, Bq_2, Bq_3, Bq_4, Bq_5⟩ := row6 Bq.out)
            | fail)
          have sn : yn.Small := small_of HYn.out hM1
          refine (modCheck_any v s f a m t Aw nw cw Ab nb cb W B _ HS.out ho sv HWq.out HBq.out HWF.out (by omega) (by omega)).mono ?_
          rw [← HCK.out]
          rintro e w4 ⟨rfl, b4⟩
          clear Bs_0 Bs_1 Bs_2 Bs_3 Bq_0 Bq_1 Bq_2 Bq_3 Bq_4 Bq_5
          have HS := Lib.hid (HS.out.to b4)
          have HM := Lib.hid (HM.out.to b4)
          have HWq := Lib.hid (HWq.out.to b4)
          have HBq := Lib.hid (HBq.out.to b4)
          have HYn := Lib.hid (HYn.out.to b4)
          have HBn := Lib.hid (HBn.out.to b4)
          have HWn := Lib.hid (HWn.out.to b4)
          have Bs := Lib.hid (b4.row (row_lt Bs.out) Bs.out)
          have Bm := Lib.hid (b4.row (row_lt Bm.out) Bm.out)
          have Bq := Lib.hid (b4.row (row_lt Bq.out) Bq.out)
          have Bmn := Lib.hid (b4.row (row_lt Bmn.out) Bmn.out)
          have Brn := Lib.hid (b4.row (row_lt Brn.out) Brn.out)
          have bw := bw.call b4
          clear b4
          obtain ⟨Brn_0, Brn_1, Brn_2, Brn_3, Brn_4, Brn_5⟩ := row6 Brn.out
          obtain ⟨Bmn_0, Bmn_1, Bmn_2, Bmn_3⟩ := row4 Bmn.out
          obtain ⟨Bm_0, Bm_1, Bm_2, Bm_3⟩ := row4 Bm.out
          go_wp2_with fail
          refine (lawSame7_any yn u M1 M1 _ HYn.out HM.out sn su).mono ?_
          rw [sameM_self]
          rintro e w5 ⟨rfl, b5⟩
          clear Brn_0 Brn_1 Brn_2 Brn_3 Brn_4 Brn_5 Bmn_0 Bmn_1 Bmn_2 Bmn_3 Bm_0 Bm_1 Bm_2 Bm_3
          have HS := Lib.hid (HS.out.to b5)
          have HM := Lib.hid (HM.out.to b5)
          have HWq := Lib.hid (HWq.out.to b5)
          have HBq := Lib.hid (HBq.out.to b5)
          have HYn := Lib.hid (HYn.out.to b5)
          have HBn := Lib.hid (HBn.out.to b5)
          have HWn := Lib.hid (HWn.out.to b5)
          have Bs := Lib.hid (b5.row (row_lt Bs.out) Bs.out)
          have Bm := Lib.hid (b5.row (row_lt Bm.out) Bm.out)
          have Bq := Lib.hid (b5.row (row_lt Bq.out) Bq.out)
          have Bmn := Lib.hid (b5.row (row_lt Bmn.out) Bmn.out)
          have Brn := Lib.hid (b5.row (row_lt Brn.out) Brn.out)
          have bw := bw.call b5
          clear b5
          obtain ⟨Brn_0, Brn_1, Brn_2, Brn_3, Brn_4, Brn_5⟩ := row6 Brn.out
          go_wp2_with (go_at_call 10; refine (awake7_any _).mono ?_; rintro e wa ⟨rfl, ba⟩)
          go_ret
          exact ⟨rfl, bw.call ba⟩
        · clear P0
          go_enter Try.func3, Try.ntmps3
          go_wp2_with fail
          refine (light_any v u _ hv).mono ?_
          rintro e w1 ⟨rfl, b1⟩
          obtain ⟨X1, X2, X3, bw⟩ := boxes_three b1
          have HS := Lib.hid (hS.to bw)
          have HM := Lib.hid (hM.to bw)
          have HWq := Lib.hid (hW.to bw)
          have HBq := Lib.hid (hB.to bw)
          have Bs := Lib.hid X1
          have Bm := Lib.hid X2
          have Bq := Lib.hid X3
          clear b1 X1 X2 X3 hS hM hW hB
          rw [hL]
          obtain ⟨Bs_0, Bs_1, Bs_2, Bs_3⟩ := row4 Bs.out
          obtain ⟨Bm_0, Bm_1, Bm_2, Bm_3⟩ := row4 Bm.out
          obtain ⟨Bq_0, Bq_1, Bq_2, Bq_3, Bq_4, Bq_5⟩ := row6 Bq.out
          go_wp2_with fail
          refine (few_any Aw Ab nw cw nb cb _).mono ?_
          rw [hL3]
          rintro e w2 ⟨rfl, rfl⟩
          go_wp2_with fail
          refine (modDo_any v u s M1 f a m t Aw nw cw Ab nb cb W B _ HS.out HM.out ho sv su HWq.out HBq.out HWF.out (by omega) (by omega)).mono ?_
          rw [← HE1.out]
          rintro e w3 ⟨yn, A6n, n6n, c6n, A7n, n7n, c7n, rfl, YMn, S6n, S7n, k6n, k7n, bn⟩
          clear Bs_0 Bs_1 Bs_2 Bs_3 Bm_0 Bm_1 Bm_2 Bm_3 Bq_0 Bq_1 Bq_2 Bq_3 Bq_4 Bq_5
          have HS := Lib.hid (HS.out.to bn)
          have HM := Lib.hid (HM.out.to bn)
          have HWq := Lib.hid (HWq.out.to bn)
          have HBq := Lib.hid (HBq.out.to bn)
          have Bs := Lib.hid (bn.row (row_lt Bs.out) Bs.out)
          have Bm := Lib.hid (bn.row (row_lt Bm.out) Bm.out)
          have Bq := Lib.hid (bn.row (row_lt Bq.out) Bq.out)
          have bw := bw.call bn
          have HYn := Lib.hid YMn
          have HBn := Lib.hid S6n
          have HWn := Lib.hid S7n
          clear YMn S6n S7n
          clear bn
          go_wp2_with (first
            | (refine wpList_store_grown rfl 28 (.tmp 7) _ rfl w3.heap.size #[.slice yn.a.A yn.a.n yn.a.c, .slice yn.b.A yn.b.n yn.b.c, .slice yn.c.A yn.c.n yn.c.c, .slice yn.d.A yn.d.n yn.d.c] rfl rfl 28 _ (row_alloc (heap_alloc_new w3 _) _) (by kernel_rfl) rfl (by simp [Value.oneCell']) ?_; intro Wna hna gna sna)
            | (refine wpList_store_grown rfl 36 (.tmp 8) _ rfl (w3.heap.size + 1) #[.int .u8 (f1 : Nat), .int .u8 4, .slice A6n n6n c6n, .slice A7n n7n c7n, .int .u16 (a1 : Nat), .int .u16 (m1 : Nat)] rfl rfl 36 _ (gna.row (by omega) (heap_alloc2_new w3 _ _)) (by kernel_rfl) rfl (by simp [Value.oneCell']) ?_; intro Wn hnb gnb snb; have Bmn := Lib.hid (gnb.row (k := w3.heap.size) (by omega) hna); have Brn := Lib.hid hnb; have Cn := below_two gna gnb sna; clear gna gnb sna snb hna hnb; have HS := Lib.hid (HS.out.to Cn); have HM := Lib.hid (HM.out.to Cn); have HWq := Lib.hid (HWq.out.to Cn); have HBq := Lib.hid (HBq.out.to Cn); have HYn := Lib.hid (HYn.out.to Cn); have HBn := Lib.hid (HBn.out.to Cn); have HWn := Lib.hid (HWn.out.to Cn); have Bs := Lib.hid (Cn.row (row_lt Bs.out) Bs.out); have Bm := Lib.hid (Cn.row (row_lt Bm.out) Bm.out); have Bq := Lib.hid (Cn.row (row_lt Bq.out) Bq.out); have bw := bw.call Cn; clear Cn; obtain ⟨Bs_0, Bs_1, Bs_2, Bs_3⟩ := row4 Bs.out; obtain ⟨Bq_0, Bq_1, Bq_2, Bq_3, Bq_4, Bq_5⟩ := row6 Bq.out)
            | fail)
          have sn : yn.Small := small_of HYn.out hM1
          refine (modCheck_any v s f a m t Aw nw cw Ab nb cb W B _ HS.out ho sv HWq.out HBq.out HWF.out (by omega) (by omega)).mono ?_
          rw [← HCK.out]
          rintro e w4 ⟨rfl, b4⟩
          clear Bs_0 Bs_1 Bs_2 Bs_3 Bq_0 Bq_1 Bq_2 Bq_3 Bq_4 Bq_5
          have HS := Lib.hid (HS.out.to b4)
          have HM := Lib.hid (HM.out.to b4)
          have HWq := Lib.hid (HWq.out.to b4)
          have HBq := Lib.hid (HBq.out.to b4)
          have HYn := Lib.hid (HYn.out.to b4)
          have HBn := Lib.hid (HBn.out.to b4)
          have HWn := Lib.hid (HWn.out.to b4)
          have Bs := Lib.hid (b4.row (row_lt Bs.out) Bs.out)
          have Bm := Lib.hid (b4.row (row_lt Bm.out) Bm.out)
          have Bq := Lib.hid (b4.row (row_lt Bq.out) Bq.out)
          have Bmn := Lib.hid (b4.row (row_lt Bmn.out) Bmn.out)
          have Brn := Lib.hid (b4.row (row_lt Brn.out) Brn.out)
          have bw := bw.call b4
          clear b4
          obtain ⟨Brn_0, Brn_1, Brn_2, Brn_3, Brn_4, Brn_5⟩ := row6 Brn.out
          obtain ⟨Bmn_0, Bmn_1, Bmn_2, Bmn_3⟩ := row4 Bmn.out
          obtain ⟨Bm_0, Bm_1, Bm_2, Bm_3⟩ := row4 Bm.out
          go_wp2_with fail
          refine (lawSame7_any yn u M1 M1 _ HYn.out HM.out sn su).mono ?_
          rw [sameM_self]
          rintro e w5 ⟨rfl, b5⟩
          clear Brn_0 Brn_1 Brn_2 Brn_3 Brn_4 Brn_5 Bmn_0 Bmn_1 Bmn_2 Bmn_3 Bm_0 Bm_1 Bm_2 Bm_3
          have HS := Lib.hid (HS.out.to b5)
          have HM := Lib.hid (HM.out.to b5)
          have HWq := Lib.hid (HWq.out.to b5)
          have HBq := Lib.hid (HBq.out.to b5)
          have HYn := Lib.hid (HYn.out.to b5)
          have HBn := Lib.hid (HBn.out.to b5)
          have HWn := Lib.hid (HWn.out.to b5)
          have Bs := Lib.hid (b5.row (row_lt Bs.out) Bs.out)
          have Bm := Lib.hid (b5.row (row_lt Bm.out) Bm.out)
          have Bq := Lib.hid (b5.row (row_lt Bq.out) Bq.out)
          have Bmn := Lib.hid (b5.row (row_lt Bmn.out) Bmn.out)
          have Brn := Lib.hid (b5.row (row_lt Brn.out) Brn.out)
          have bw := bw.call b5
          clear b5
          obtain ⟨Brn_0, Brn_1, Brn_2, Brn_3, Brn_4, Brn_5⟩ := row6 Brn.out
          obtain ⟨Bs_0, Bs_1, Bs_2, Bs_3⟩ := row4 Bs.out
          obtain ⟨Bm_0, Bm_1, Bm_2, Bm_3⟩ := row4 Bm.out
          go_wp2_with fail
          refine (modRight_any v u s M1 _ HS.out HM.out ho sv su).mono ?_
          rw [hRf]
          rintro e w6 ⟨rfl, b6⟩
          clear Brn_0 Brn_1 Brn_2 Brn_3 Brn_4 Brn_5 Bs_0 Bs_1 Bs_2 Bs_3 Bm_0 Bm_1 Bm_2 Bm_3
          have HS := Lib.hid (HS.out.to b6)
          have HM := Lib.hid (HM.out.to b6)
          have HWq := Lib.hid (HWq.out.to b6)
          have HBq := Lib.hid (HBq.out.to b6)
          have HYn := Lib.hid (HYn.out.to b6)
          have HBn := Lib.hid (HBn.out.to b6)
          have HWn := Lib.hid (HWn.out.to b6)
          have Bs := Lib.hid (b6.row (row_lt Bs.out) Bs.out)
          have Bm := Lib.hid (b6.row (row_lt Bm.out) Bm.out)
          have Bq := Lib.hid (b6.row (row_lt Bq.out) Bq.out)
          have Bmn := Lib.hid (b6.row (row_lt Bmn.out) Bmn.out)
          have Brn := Lib.hid (b6.row (row_lt Brn.out) Brn.out)
          have bw := bw.call b6
          clear b6
          go_wp2_with (go_at_call 10; refine (awake7_any _).mono ?_; rintro e wa ⟨rfl, ba⟩)
          go_ret
          exact ⟨rfl, bw.call ba⟩
      case pos =>
        subst hx
        obtain ⟨rfl, hR1, hI1, hD1, hH1, hC1, hfb, hfw⟩ := hok rfl
        have hft := hfit rfl
        obtain ⟨hlc, hlh⟩ := hlen rfl
        clear hbad hok hfit hlen
        have HR1 := Lib.hid hR1
        have HI1 := Lib.hid (show (M1.inputs == M.inputs) = true by rw [hI1]; simp)
        have HD1 := Lib.hid (show (M1.words == M.words) = true by rw [hD1]; simp)
        have HH1 := Lib.hid hH1
        have HC1 := Lib.hid hC1
        have HFB := Lib.hid hfb
        have HFW := Lib.hid hfw
        have HFT := Lib.hid hft
        have HLC := Lib.hid hlc
        have HLH := Lib.hid hlh
        clear hR1 hI1 hD1 hH1 hC1 hfb hfw hft hlc hlh
        go_enter Try.func3, Try.ntmps3
        go_wp2_with fail
        refine (light_any v u _ hv).mono ?_
        rintro e w1 ⟨rfl, b1⟩
        obtain ⟨X1, X2, X3, bw⟩ := boxes_three b1
        have HS := Lib.hid (hS.to bw)
        have HM := Lib.hid (hM.to bw)
        have HWq := Lib.hid (hW.to bw)
        have HBq := Lib.hid (hB.to bw)
        have Bs := Lib.hid X1
        have Bm := Lib.hid X2
        have Bq := Lib.hid X3
        clear b1 X1 X2 X3 hS hM hW hB
        rw [hL]
        obtain ⟨Bs_0, Bs_1, Bs_2, Bs_3⟩ := row4 Bs.out
        obtain ⟨Bm_0, Bm_1, Bm_2, Bm_3⟩ := row4 Bm.out
        obtain ⟨Bq_0, Bq_1, Bq_2, Bq_3, Bq_4, Bq_5⟩ := row6 Bq.out
        go_wp2_with fail
        refine (few_any Aw Ab nw cw nb cb _).mono ?_
        rw [hL3]
        rintro e w2 ⟨rfl, rfl⟩
        go_wp2_with fail
        refine (modDo_any v u s M f a m t Aw nw cw Ab nb cb W B _ HS.out HM.out ho sv su HWq.out HBq.out HWF.out (by omega) (by omega)).mono ?_
        rw [← HE1.out]
        rintro e w3 ⟨yn, A6n, n6n, c6n, A7n, n7n, c7n, rfl, YMn, S6n, S7n, k6n, k7n, bn⟩
        clear Bs_0 Bs_1 Bs_2 Bs_3 Bm_0 Bm_1 Bm_2 Bm_3 Bq_0 Bq_1 Bq_2 Bq_3 Bq_4 Bq_5
        have HS := Lib.hid (HS.out.to bn)
        have HM := Lib.hid (HM.out.to bn)
        have HWq := Lib.hid (HWq.out.to bn)
        have HBq := Lib.hid (HBq.out.to bn)
        have Bs := Lib.hid (bn.row (row_lt Bs.out) Bs.out)
        have Bm := Lib.hid (bn.row (row_lt Bm.out) Bm.out)
        have Bq := Lib.hid (bn.row (row_lt Bq.out) Bq.out)
        have bw := bw.call bn
        have HYn := Lib.hid YMn
        have HBn := Lib.hid S6n
        have HWn := Lib.hid S7n
        clear YMn S6n S7n
        clear bn
        go_wp2_with (first
          | (refine wpList_store_grown rfl 28 (.tmp 7) _ rfl w3.heap.size #[.slice yn.a.A yn.a.n yn.a.c, .slice yn.b.A yn.b.n yn.b.c, .slice yn.c.A yn.c.n yn.c.c, .slice yn.d.A yn.d.n yn.d.c] rfl rfl 28 _ (row_alloc (heap_alloc_new w3 _) _) (by kernel_rfl) rfl (by simp [Value.oneCell']) ?_; intro Wna hna gna sna)
          | (refine wpList_store_grown rfl 36 (.tmp 8) _ rfl (w3.heap.size + 1) #[.int .u8 (f1 : Nat), .int .u8 0, .slice A6n n6n c6n, .slice A7n n7n c7n, .int .u16 (a1 : Nat), .int .u16 (m1 : Nat)] rfl rfl 36 _ (gna.row (by omega) (heap_alloc2_new w3 _ _)) (by kernel_rfl) rfl (by simp [Value.oneCell']) ?_; intro Wn hnb gnb snb; have Bmn := Lib.hid (gnb.row (k := w3.heap.size) (by omega) hna); have Brn := Lib.hid hnb; have Cn := below_two gna gnb sna; clear gna gnb sna snb hna hnb; have HS := Lib.hid (HS.out.to Cn); have HM := Lib.hid (HM.out.to Cn); have HWq := Lib.hid (HWq.out.to Cn); have HBq := Lib.hid (HBq.out.to Cn); have HYn := Lib.hid (HYn.out.to Cn); have HBn := Lib.hid (HBn.out.to Cn); have HWn := Lib.hid (HWn.out.to Cn); have Bs := Lib.hid (Cn.row (row_lt Bs.out) Bs.out); have Bm := Lib.hid (Cn.row (row_lt Bm.out) Bm.out); have Bq := Lib.hid (Cn.row (row_lt Bq.out) Bq.out); have bw := bw.call Cn; clear Cn; obtain ⟨Bs_0, Bs_1, Bs_2, Bs_3⟩ := row4 Bs.out; obtain ⟨Bq_0, Bq_1, Bq_2, Bq_3, Bq_4, Bq_5⟩ := row6 Bq.out)
          | fail)
        have sn : yn.Small := small_of HYn.out hM1
        refine (modCheck_any v s f a m t Aw nw cw Ab nb cb W B _ HS.out ho sv HWq.out HBq.out HWF.out (by omega) (by omega)).mono ?_
        rw [← HCK.out]
        rintro e w4 ⟨rfl, b4⟩
        clear Bs_0 Bs_1 Bs_2 Bs_3 Bq_0 Bq_1 Bq_2 Bq_3 Bq_4 Bq_5
        have HS := Lib.hid (HS.out.to b4)
        have HM := Lib.hid (HM.out.to b4)
        have HWq := Lib.hid (HWq.out.to b4)
        have HBq := Lib.hid (HBq.out.to b4)
        have HYn := Lib.hid (HYn.out.to b4)
        have HBn := Lib.hid (HBn.out.to b4)
        have HWn := Lib.hid (HWn.out.to b4)
        have Bs := Lib.hid (b4.row (row_lt Bs.out) Bs.out)
        have Bm := Lib.hid (b4.row (row_lt Bm.out) Bm.out)
        have Bq := Lib.hid (b4.row (row_lt Bq.out) Bq.out)
        have Bmn := Lib.hid (b4.row (row_lt Bmn.out) Bmn.out)
        have Brn := Lib.hid (b4.row (row_lt Brn.out) Brn.out)
        have bw := bw.call b4
        clear b4
        obtain ⟨Brn_0, Brn_1, Brn_2, Brn_3, Brn_4, Brn_5⟩ := row6 Brn.out
        obtain ⟨Bq_0, Bq_1, Bq_2, Bq_3, Bq_4, Bq_5⟩ := row6 Bq.out
        go_wp2_with fail
        have j0 : n6n ≤ 100000 := by have h := HBn.out.len; rw [bl_length] at h; omega
        have j1 : n7n ≤ 100000 := by have h := HWn.out.len; rw [ws_length] at h; omega
        refine (fits2_any f a m t Aw nw cw Ab nb cb W B f1 0 A6n n6n c6n A7n n7n c7n a1 m1 B1 W1 _ HWq.out HBq.out HWF.out (by omega) (by omega) HBn.out HWn.out j0 j1 k6n).mono ?_
        rw [HFT.out]
        rintro e w5 ⟨rfl, b5⟩
        clear Brn_0 Brn_1 Brn_2 Brn_3 Brn_4 Brn_5 Bq_0 Bq_1 Bq_2 Bq_3 Bq_4 Bq_5
        have HS := Lib.hid (HS.out.to b5)
        have HM := Lib.hid (HM.out.to b5)
        have HWq := Lib.hid (HWq.out.to b5)
        have HBq := Lib.hid (HBq.out.to b5)
        have HYn := Lib.hid (HYn.out.to b5)
        have HBn := Lib.hid (HBn.out.to b5)
        have HWn := Lib.hid (HWn.out.to b5)
        have Bs := Lib.hid (b5.row (row_lt Bs.out) Bs.out)
        have Bm := Lib.hid (b5.row (row_lt Bm.out) Bm.out)
        have Bq := Lib.hid (b5.row (row_lt Bq.out) Bq.out)
        have Bmn := Lib.hid (b5.row (row_lt Bmn.out) Bmn.out)
        have Brn := Lib.hid (b5.row (row_lt Brn.out) Brn.out)
        have bw := bw.call b5
        clear b5
        obtain ⟨Bs_0, Bs_1, Bs_2, Bs_3⟩ := row4 Bs.out
        obtain ⟨Bmn_0, Bmn_1, Bmn_2, Bmn_3⟩ := row4 Bmn.out
        go_wp2_with fail
        refine (modRight_any v yn s M1 _ HS.out HYn.out ho sv sn).mono ?_
        rw [HR1.out]
        rintro e w6 ⟨rfl, b6⟩
        clear Bs_0 Bs_1 Bs_2 Bs_3 Bmn_0 Bmn_1 Bmn_2 Bmn_3
        have HS := Lib.hid (HS.out.to b6)
        have HM := Lib.hid (HM.out.to b6)
        have HWq := Lib.hid (HWq.out.to b6)
        have HBq := Lib.hid (HBq.out.to b6)
        have HYn := Lib.hid (HYn.out.to b6)
        have HBn := Lib.hid (HBn.out.to b6)
        have HWn := Lib.hid (HWn.out.to b6)
        have Bs := Lib.hid (b6.row (row_lt Bs.out) Bs.out)
        have Bm := Lib.hid (b6.row (row_lt Bm.out) Bm.out)
        have Bq := Lib.hid (b6.row (row_lt Bq.out) Bq.out)
        have Bmn := Lib.hid (b6.row (row_lt Bmn.out) Bmn.out)
        have Brn := Lib.hid (b6.row (row_lt Brn.out) Brn.out)
        have bw := bw.call b6
        clear b6
        have T1 : ((yn.c.n : Int) != (u.c.n : Int)) = false := by
          have h1 := HYn.out.lens.2.2.1
          have h2 := HM.out.lens.2.2.1
          have h3 := HLH.out
          rw [show yn.c.n = u.c.n by omega]; simp
        have T2 : ((yn.a.n : Int) != (u.a.n : Int)) = false := by
          have h1 := HYn.out.lens.1
          have h2 := HM.out.lens.1
          have h3 := HLC.out
          rw [show yn.a.n = u.a.n by omega]; simp
        obtain ⟨Bmn_0, Bmn_1, Bmn_2, Bmn_3⟩ := row4 Bmn.out
        obtain ⟨Bm_0, Bm_1, Bm_2, Bm_3⟩ := row4 Bm.out
        go_wp2_with fail
        refine (lowBits_any yn.b.A u.b.A yn.b.n yn.b.c u.b.n u.b.c M1.inputs M.inputs _ HYn.out.inputs HM.out.inputs (by have := sn.b; omega) (by have := su.b; omega)).mono ?_
        rw [HI1.out]
        rintro e w7 ⟨rfl, b7⟩
        clear Bmn_0 Bmn_1 Bmn_2 Bmn_3 Bm_0 Bm_1 Bm_2 Bm_3
        have HS := Lib.hid (HS.out.to b7)
        have HM := Lib.hid (HM.out.to b7)
        have HWq := Lib.hid (HWq.out.to b7)
        have HBq := Lib.hid (HBq.out.to b7)
        have HYn := Lib.hid (HYn.out.to b7)
        have HBn := Lib.hid (HBn.out.to b7)
        have HWn := Lib.hid (HWn.out.to b7)
        have Bs := Lib.hid (b7.row (row_lt Bs.out) Bs.out)
        have Bm := Lib.hid (b7.row (row_lt Bm.out) Bm.out)
        have Bq := Lib.hid (b7.row (row_lt Bq.out) Bq.out)
        have Bmn := Lib.hid (b7.row (row_lt Bmn.out) Bmn.out)
        have Brn := Lib.hid (b7.row (row_lt Brn.out) Brn.out)
        have bw := bw.call b7
        clear b7
        obtain ⟨Bmn_0, Bmn_1, Bmn_2, Bmn_3⟩ := row4 Bmn.out
        obtain ⟨Bm_0, Bm_1, Bm_2, Bm_3⟩ := row4 Bm.out
        go_wp2_with fail
        refine (lowWords_any yn.d.A u.d.A yn.d.n yn.d.c u.d.n u.d.c M1.words M.words _ HYn.out.words HM.out.words (by have := sn.d; omega) (by have := su.d; omega)).mono ?_
        rw [HD1.out]
        rintro e w8 ⟨rfl, b8⟩
        clear Bmn_0 Bmn_1 Bmn_2 Bmn_3 Bm_0 Bm_1 Bm_2 Bm_3
        have HS := Lib.hid (HS.out.to b8)
        have HM := Lib.hid (HM.out.to b8)
        have HWq := Lib.hid (HWq.out.to b8)
        have HBq := Lib.hid (HBq.out.to b8)
        have HYn := Lib.hid (HYn.out.to b8)
        have HBn := Lib.hid (HBn.out.to b8)
        have HWn := Lib.hid (HWn.out.to b8)
        have Bs := Lib.hid (b8.row (row_lt Bs.out) Bs.out)
        have Bm := Lib.hid (b8.row (row_lt Bm.out) Bm.out)
        have Bq := Lib.hid (b8.row (row_lt Bq.out) Bq.out)
        have Bmn := Lib.hid (b8.row (row_lt Bmn.out) Bmn.out)
        have Brn := Lib.hid (b8.row (row_lt Brn.out) Brn.out)
        have bw := bw.call b8
        clear b8
        obtain ⟨Bq_0, Bq_1, Bq_2, Bq_3, Bq_4, Bq_5⟩ := row6 Bq.out
        obtain ⟨Bmn_0, Bmn_1, Bmn_2, Bmn_3⟩ := row4 Bmn.out
        obtain ⟨Bm_0, Bm_1, Bm_2, Bm_3⟩ := row4 Bm.out
        have wa : IntKind.i64.wrap (a : Int) = a := by have h := HWF.out.at'; simp only at h; rw [IntKind.wrap_i64]; omega
        have wt : IntKind.i64.wrap (t : Int) = t := by have h := HWF.out.to; simp only at h; rw [IntKind.wrap_i64]; omega
        go_upto_if 121 with fail
        obtain ⟨P, hP0⟩ : ∃ P, P = place ⟨f, a, m, t, W, B⟩ := ⟨_, rfl⟩
        have HPL := Lib.hid (show P = if f = 23 then t else a from hP0)
        have HH2 := Lib.hid (show ∀ i : Nat, M1.holding[i]? = if P ≤ i ∧ i < P + W.length then W[i - P]? else M.holding[i]? from fun i => by rw [hP0]; exact HH1.out i)
        have HC2 := Lib.hid (show ∀ i : Nat, M1.coils[i]? = if P ≤ i ∧ i < P + B.length then B[i - P]? else M.coils[i]? from fun i => by rw [hP0]; exact HC1.out i)
        have HFB2 := Lib.hid (show B = [] ∨ P + B.length ≤ M.coils.length by rw [hP0]; exact HFB.out)
        have HFW2 := Lib.hid (show W = [] ∨ P + W.length ≤ M.holding.length by rw [hP0]; exact HFW.out)
        have hP6 : P < 65536 := by rw [HPL.out]; have h1 := HWF.out.at'; have h2 := HWF.out.to; simp only at h1 h2; split <;> omega
        clear hP0 HH1 HC1 HFB HFW
        go_cut [10] from 119 to 124 (fun s10 wx => s10 = .int .i64 (P : Nat) ∧ w8 = wx)
        case first =>
          by_cases h23 : f = 23
          · have HE := Lib.hid (show P = t by rw [HPL.out, if_pos h23])
            have T : ((f : Int) == 23) = true := by rw [h23]; rfl
            clear h23
            go_wp2_with fail
            go_meet
            exact ⟨by rw [HE.out], rfl⟩
          · have HE := Lib.hid (show P = a by rw [HPL.out, if_neg h23])
            have T : ((f : Int) == 23) = false := by rw [beq_eq_false_iff_ne]; omega
            clear h23
            go_wp2_with fail
            go_meet
            exact ⟨by rw [HE.out], rfl⟩
        case rest =>
          obtain ⟨rfl, hwx⟩ := hcut
          subst hwx
          go_wp2_with fail
          go_loopw [128] (fun iv wr => ∃ i : Nat, i ≤ yn.c.n ∧ iv = .int .i64 i ∧ w8 = wr) (fun iv _ => yn.c.n - (intOf iv).toNat)
          case atStart => exact ⟨0, by omega, rfl, rfl⟩
          case round =>
            obtain ⟨i, hi, rfl, hwr⟩ := hrel
            subst hwr
            by_cases hlt : (i : Int) < (yn.c.n : Int)
            · have e1 := HYn.out.lens.2.2.1
              have e2 := HM.out.lens.2.2.1
              have e3 := HLH.out
              have hiu : i < u.c.n := by omega
              have lN : i < M1.holding.length := by omega
              have lM : i < M.holding.length := by omega
              have lQ : W.length = nw := by have h := HWq.out.len; simpa using h
              clear e1 e2 e3
              obtain ⟨bN, oN, eN, hbN, dN⟩ := HYn.out.holding.2 (by omega)
              obtain ⟨bM, oM, eM, hbM, dM⟩ := HM.out.holding.2 (by omega)
              have gN := (dN i (by omega)).trans (ws_get lN)
              have gM := (dM i (by omega)).trans (ws_get lM)
              rw [eN] at Bmn_2
              rw [eM] at Bm_2
              have HG := HH2.out i
              rw [lQ] at HG
              have z0 : (0 : Int) ≤ (i : Int) := by omega
              have z1 : (i : Int) < (u.c.n : Int) := by omega
              obtain ⟨x, ex⟩ : ∃ x, x = M1.holding[i]?.getD 0 := ⟨_, rfl⟩
              obtain ⟨z, ez⟩ : ∃ z, z = M.holding[i]?.getD 0 := ⟨_, rfl⟩
              rw [← ex] at gN
              rw [← ez] at gM
              have HX := Lib.hid ex
              have HZ := Lib.hid ez
              clear eN eM dN dM ex ez
              have TX : ((x : Int) != (x : Int)) = false := by simp
              by_cases hP : P ≤ i
              · have D1 : decide ((P : Int) ≤ (i : Int)) = true := decide_eq_true (by omega)
                obtain ⟨J, hJ⟩ : ∃ J, J = i - P := ⟨_, rfl⟩
                have wJ : IntKind.i64.wrap ((i : Int) - (P : Int)) = (J : Int) := by rw [IntKind.wrap_i64]; omega
                by_cases hin : J < nw
                · have D2 : decide ((J : Int) < (nw : Int)) = true := decide_eq_true (by omega)
                  obtain ⟨bW, oW, eW, hbW, dW⟩ := HWq.out.2 (by omega)
                  have gW := (dW J hin).trans (ws_get (by omega))
                  rw [eW] at Bq_4
                  have hxw : W[J]?.getD 0 = x := by
                    rw [HX.out, HG, if_pos ⟨hP, by omega⟩, hJ]
                  rw [hxw] at gW
                  have z2 : (0 : Int) ≤ (J : Int) := by omega
                  have z3 : (J : Int) < (nw : Int) := by omega
                  have HJ := Lib.hid hJ
                  have HGG := Lib.hid HG
                  clear eW dW hxw hJ HG lQ lN lM
                  go_wp2_with fail
                  go_roundw
                  case rel => exact ⟨i + 1, by omega, by go_num, by trivial⟩
                  case measure => simp [intOf]; omega
                · have D2 : decide ((J : Int) < (nw : Int)) = false := decide_eq_false (by omega)
                  have hxz : x = z := by
                    rw [HX.out, HG, if_neg (by omega), ← HZ.out]
                  subst hxz
                  have HJ := Lib.hid hJ
                  have HGG := Lib.hid HG
                  clear hJ HG lQ lN lM
                  go_wp2_with fail
                  go_roundw
                  case rel => exact ⟨i + 1, by omega, by go_num, by trivial⟩
                  case measure => simp [intOf]; omega
              · have D1 : decide ((P : Int) ≤ (i : Int)) = false := decide_eq_false (by omega)
                have hxz : x = z := by
                  rw [HX.out, HG, if_neg (by omega), ← HZ.out]
                subst hxz
                have HGG := Lib.hid HG
                clear HG lQ lN lM
                go_wp2_with fail
                go_roundw
                case rel => exact ⟨i + 1, by omega, by go_num, by trivial⟩
                case measure => simp [intOf]; omega
            · skip
              go_wp2_with fail
              go_loopw [166] (fun iv wr => ∃ i : Nat, i ≤ yn.a.n ∧ iv = .int .i64 i ∧ w8 = wr) (fun iv _ => yn.a.n - (intOf iv).toNat)
              case atStart => exact ⟨0, by omega, rfl, rfl⟩
              case round =>
                obtain ⟨i, hi, rfl, hwr⟩ := hrel
                subst hwr
                by_cases hlt : (i : Int) < (yn.a.n : Int)
                · have e1 := HYn.out.lens.1
                  have e2 := HM.out.lens.1
                  have e3 := HLC.out
                  have hiu : i < u.a.n := by omega
                  have lN : i < M1.coils.length := by omega
                  have lM : i < M.coils.length := by omega
                  have lQ : B.length = nb := by have h := HBq.out.len; simpa using h
                  clear e1 e2 e3
                  obtain ⟨bN, oN, eN, hbN, dN⟩ := HYn.out.coils.2 (by omega)
                  obtain ⟨bM, oM, eM, hbM, dM⟩ := HM.out.coils.2 (by omega)
                  have gN := (dN i (by omega)).trans (bl_get lN)
                  have gM := (dM i (by omega)).trans (bl_get lM)
                  rw [eN] at Bmn_0
                  rw [eM] at Bm_0
                  have HG := HC2.out i
                  rw [lQ] at HG
                  have z0 : (0 : Int) ≤ (i : Int) := by omega
                  have z1 : (i : Int) < (u.a.n : Int) := by omega
                  obtain ⟨x, ex⟩ : ∃ x, x = M1.coils[i]?.getD false := ⟨_, rfl⟩
                  obtain ⟨z, ez⟩ : ∃ z, z = M.coils[i]?.getD false := ⟨_, rfl⟩
                  rw [← ex] at gN
                  rw [← ez] at gM
                  have HX := Lib.hid ex
                  have HZ := Lib.hid ez
                  clear eN eM dN dM ex ez
                  have TX : ((x : Bool) != x) = false := by simp
                  by_cases hP : P ≤ i
                  · have D1 : decide ((P : Int) ≤ (i : Int)) = true := decide_eq_true (by omega)
                    obtain ⟨J, hJ⟩ : ∃ J, J = i - P := ⟨_, rfl⟩
                    have wJ : IntKind.i64.wrap ((i : Int) - (P : Int)) = (J : Int) := by rw [IntKind.wrap_i64]; omega
                    by_cases hin : J < nb
                    · have D2 : decide ((J : Int) < (nb : Int)) = true := decide_eq_true (by omega)
                      obtain ⟨bW, oW, eW, hbW, dW⟩ := HBq.out.2 (by omega)
                      have gW := (dW J hin).trans (bl_get (by omega))
                      rw [eW] at Bq_5
                      have hxw : B[J]?.getD false = x := by
                        rw [HX.out, HG, if_pos ⟨hP, by omega⟩, hJ]
                      rw [hxw] at gW
                      have z2 : (0 : Int) ≤ (J : Int) := by omega
                      have z3 : (J : Int) < (nb : Int) := by omega
                      have HJ := Lib.hid hJ
                      have HGG := Lib.hid HG
                      clear eW dW hxw hJ HG lQ lN lM
                      go_wp2_with fail
                      go_roundw
                      case rel => exact ⟨i + 1, by omega, by go_num, by trivial⟩
                      case measure => simp [intOf]; omega
                    · have D2 : decide ((J : Int) < (nb : Int)) = false := decide_eq_false (by omega)
                      have hxz : x = z := by
                        rw [HX.out, HG, if_neg (by omega), ← HZ.out]
                      subst hxz
                      have HJ := Lib.hid hJ
                      have HGG := Lib.hid HG
                      clear hJ HG lQ lN lM
                      go_wp2_with fail
                      go_roundw
                      case rel => exact ⟨i + 1, by omega, by go_num, by trivial⟩
                      case measure => simp [intOf]; omega
                  · have D1 : decide ((P : Int) ≤ (i : Int)) = false := decide_eq_false (by omega)
                    have hxz : x = z := by
                      rw [HX.out, HG, if_neg (by omega), ← HZ.out]
                    subst hxz
                    have HGG := Lib.hid HG
                    clear HG lQ lN lM
                    go_wp2_with fail
                    go_roundw
                    case rel => exact ⟨i + 1, by omega, by go_num, by trivial⟩
                    case measure => simp [intOf]; omega
                · skip
                  have d0 : P + nb ≤ max yn.a.n P := by
                    have e1 := HYn.out.lens.1
                    have e3 := HLC.out
                    have lQ : B.length = nb := by have h := HBq.out.len; simpa using h
                    rcases HFB2.out with h | h
                    · rw [h] at lQ; simp at lQ; omega
                    · omega
                  have d1 : P + nw ≤ max yn.c.n P := by
                    have e1 := HYn.out.lens.2.2.1
                    have e3 := HLH.out
                    have lQ : W.length = nw := by have h := HWq.out.len; simpa using h
                    rcases HFW2.out with h | h
                    · rw [h] at lQ; simp at lQ; omega
                    · omega
                  have w0 : IntKind.i64.wrap ((P : Int) + (nb : Int)) = ((P + nb : Nat) : Int) := by rw [IntKind.wrap_i64]; omega
                  have w1 : IntKind.i64.wrap ((P : Int) + (nw : Int)) = ((P + nw : Nat) : Int) := by rw [IntKind.wrap_i64]; omega
                  go_wp2_with (go_at_call 10; refine (awake7_any _).mono ?_; rintro e wa ⟨rfl, ba⟩)
                  all_goals (
                    go_ret
                    exact ⟨rfl, bw.call ba⟩)
end Go.Proofs.Ytjfhfgchglaoiaa.MoW
