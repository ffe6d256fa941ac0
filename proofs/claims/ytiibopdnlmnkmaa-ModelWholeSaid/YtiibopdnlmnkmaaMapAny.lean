/- A map that is written entry by entry in a region that draws its order, in whatever order its entries come; then asked, without ok. Keys are numbers. No program in sight. -/
import Derived.Test.YtiibopdnlmnkmaaBase
import Derived.Orders
namespace Go.Proofs.Ytiibopdnlmnkmaa
open Go.RowKit
section
variable {q : IntKind} {K : Nat → Int} {V : Nat → Value} {n : Nat} {td : List Nat} {es : List MapEntry}
/-- Entries of all keys but those still to come. -/
structure Ents (q : IntKind) (K : Nat → Int) (V : Nat → Value) (n : Nat) (td : List Nat) (es : List MapEntry) : Prop where
  all : ∀ x ∈ es, ∃ j, j < n ∧ j ∉ td ∧ x.key = .int q (K j) ∧ x.val = V j
  has : ∀ j, j < n → j ∉ td → ∃ x ∈ es, x.key = .int q (K j)
theorem findNow_ints (key : Int) : ∀ (es : List MapEntry) (s : Nat), (∀ x ∈ es, ∃ c, x.key = .int q c) →
    (∃ x ∈ es, x.key = .int q key ∧ ∃ i, Instr.findNow (.int q) (.int q key) es s = some (some (i, x.val))) ∨ ((∀ x ∈ es, x.key ≠ .int q key) ∧ Instr.findNow (.int q) (.int q key) es s = some none) := by
  intro es
  induction es with
  | nil => intro s _; exact .inr ⟨(fun x h => by cases h), rfl⟩
  | cons y l ih =>
    intro s h
    obtain ⟨c, hc⟩ := h y List.mem_cons_self
    by_cases hk : key = c
    · subst hk
      exact .inl ⟨y, List.mem_cons_self, hc, s, by simp [Instr.findNow, Instr.sameNow, hc]⟩
    · have hne : (key == c) = false := by rw [beq_eq_false_iff_ne]; exact hk
      have hstep : Instr.findNow (.int q) (.int q key) (y :: l) s = Instr.findNow (.int q) (.int q key) l (s + 1) := by
        simp [Instr.findNow, Instr.sameNow, hc, hne]
      rw [hstep]
      rcases ih (s + 1) (fun x hx => h x (List.mem_cons_of_mem _ hx)) with ⟨x, hx, h1, h2⟩ | ⟨h1, h2⟩
      · exact .inl ⟨x, List.mem_cons_of_mem _ hx, h1, h2⟩
      · refine .inr ⟨fun x hx => ?_, h2⟩
        rcases List.mem_cons.1 hx with rfl | hx
        · rw [hc]; intro e; injection e with _ e; exact hk e.symm
        · exact h1 x hx
theorem Ents.ints (h : Ents q K V n td es) : ∀ x ∈ es, ∃ c, x.key = .int q c := fun x hx => by
  obtain ⟨j, _, _, e, _⟩ := h.all x hx
  exact ⟨_, e⟩
theorem Ents.find (h : Ents q K V n td es) (hinj : ∀ i j, i < n → j < n → K i = K j → i = j) {j : Nat} (hj : j < n) (ht : j ∉ td) : ∃ i, Instr.findNow (.int q) (.int q (K j)) es 0 = some (some (i, V j)) := by
  rcases findNow_ints (K j) es 0 h.ints with ⟨x, hx, h1, i, h2⟩ | ⟨h1, _⟩
  · obtain ⟨j', hj', _, e1, e2⟩ := h.all x hx
    rw [h1] at e1
    injection e1 with _ e1
    have := hinj j j' hj hj' e1
    subst this
    exact ⟨i, by rw [h2, e2]⟩
  · obtain ⟨x, hx, e⟩ := h.has j hj ht
    exact absurd e (h1 x hx)
theorem Ents.absent (h : Ents q K V n td es) {c : Int} (hc : ∀ j, j < n → j ∉ td → c ≠ K j) : Instr.findNow (.int q) (.int q c) es 0 = some none := by
  rcases findNow_ints c es 0 h.ints with ⟨x, hx, h1, i, h2⟩ | ⟨_, h2⟩
  · obtain ⟨j', hj', hn, e1, e2⟩ := h.all x hx
    rw [h1] at e1
    injection e1 with _ e1
    exact absurd e1 (hc j' hj' hn)
  · exact h2
theorem Ents.miss (h : Ents q K V n td es) (hinj : ∀ i j, i < n → j < n → K i = K j → i = j) {j : Nat} (hj : j < n) (ht : j ∈ td) : Instr.findNow (.int q) (.int q (K j)) es 0 = some none :=
  h.absent fun i hi hn e => hn (by rw [← hinj j i hj hi e]; exact ht)
theorem Ents.push (h : Ents q K V n td es) (hn : td.Nodup) {j : Nat} (hj : j < n) (ht : j ∈ td) (clock : Nat) : Ents q K V n (td.erase j) (es ++ [⟨.int q (K j), V j, clock⟩]) := by
  constructor
  · intro x hx
    rcases List.mem_append.1 hx with hx | hx
    · obtain ⟨i, hi, hni, e1, e2⟩ := h.all x hx
      exact ⟨i, hi, fun hc => hni (List.mem_of_mem_erase hc), e1, e2⟩
    · rw [List.mem_singleton] at hx
      subst hx
      exact ⟨j, hj, List.Nodup.not_mem_erase hn, rfl, rfl⟩
  · intro i hi hni
    by_cases e : i = j
    · subst e
      exact ⟨_, List.mem_append_right _ (List.mem_singleton.2 rfl), rfl⟩
    · obtain ⟨x, hx, e2⟩ := h.has i hi (fun hc => hni ((List.mem_erase_of_ne e).2 hc))
      exact ⟨x, List.mem_append_left _ hx, e2⟩
theorem Ents.none_yet (q : IntKind) (K : Nat → Int) (V : Nat → Value) (n : Nat) : Ents q K V n (List.range n) [] := ⟨(fun x h => by cases h), fun j hj h => absurd (List.mem_range.2 hj) h⟩
end
section
variable {P : Program} {md : Region.Mode} {ops : Array Oper} {Q : Exit → Act → World → Prop} {t k e : TypeId} {q : IntKind} {K : Nat → Int} {V : Nat → Value} {n : Nat} {b : Nat} {a : Act} {w : World}
theorem still_here (td : List Nat) (j : Nat) (hn : td.Nodup) : (fun i => if i = j then true else !td.contains i) = fun i => !(td.erase j).contains i := by
  funext i
  by_cases e : i = j
  · subst e
    rw [if_pos rfl]
    have : (td.erase i).contains i = false := by
      rw [Bool.eq_false_iff]; intro h; exact List.Nodup.not_mem_erase hn (List.contains_iff_mem.1 h)
    rw [this]; rfl
  · rw [if_neg e]
    congr 1
    rw [Bool.eq_iff_iff, List.contains_iff_mem, List.contains_iff_mem, List.mem_erase_of_ne e]
theorem wp_insert_new {o : Oper} {K' : Act → World → Prop} {m x v : Operand} {es : Array MapEntry} {clock : Nat} (hop : o.op = .insert t m x v) (ht : P.underlying t = some (.map k e)) (hk : P.underlying k = some (.int q))
    (hm : a.eval m = .map (some b)) (hb : w.heap[b]? = some (.map es clock)) (key : Int) (val : Value) (hx : a.eval x = .int q key) (hv : a.eval v = val) (hf : Instr.findNow (.int q) (.int q key) es.toList 0 = some none) (hd : o.dst = none)
    (hK : K' a { w with heap := w.heap.setIfInBounds b (.map (es.push ⟨.int q key, val, clock⟩) (clock + 1)) }) : o.wp P a w K' Q := by
  have hrun := run_insert_new ht hk hb key val hf
  unfold Oper.wp
  simp [execOp, hop, hm, hx, hv, hrun, Result.andThen]
  have e : a.put o.dst undef = a := by rw [hd]; rfl
  unfold Oper.upon
  simp only [e]
  exact hK
/-- ALL THE INSERTS OF A DRAWN REGION, in whatever order. -/
theorem wpAny_inserts (pos : Nat → Nat) (arr : (Nat → Bool) → Array Bool) (ht : P.underlying t = some (.map k e)) (hk : P.underlying k = some (.int q)) (hinj : ∀ i j, i < n → j < n → K i = K j → i = j)
    (hop : ∀ j, j < n → ∃ o m x v, ops[pos j]? = some o ∧ o.guard = none ∧ o.dst = none ∧ o.op = .insert t m x v ∧ a.eval m = .map (some b) ∧ a.eval x = .int q (K j) ∧ a.eval v = V j)
    (hset : ∀ f j, j < n → (arr f).setIfInBounds (pos j) true = arr (fun i => if i = j then true else f i))
    (hready : ∀ f : Nat → Bool, (∃ j, j < n ∧ f j = false) → Region.ready md ops (arr f) ≠ [] ∧ ∀ i ∈ Region.ready md ops (arr f), ∃ j, j < n ∧ f j = false ∧ i = pos j)
    (F : Nat)
    (hfin : ∀ w' es clock, w'.heap[b]? = some (.map es clock) → Ents q K V n [] es.toList → w.grownBy w' (some b) → wpAny P md ops Q F (arr (fun i => !([] : List Nat).contains i)) a w') :
    ∀ (m : Nat) (td : List Nat), td.length = m → td.Nodup → (∀ j ∈ td, j < n) → ∀ (w1 : World) (es : Array MapEntry) (clock : Nat), w1.heap[b]? = some (.map es clock) → Ents q K V n td es.toList → w.grownBy w1 (some b) → wpAny P md ops Q (F + m) (arr (fun i => !td.contains i)) a w1 := by
  intro m
  induction m with
  | zero =>
    intro td hl _ _ w1 es clock h1 h2 h3
    obtain rfl : td = [] := List.eq_nil_of_length_eq_zero hl
    exact hfin w1 es clock h1 h2 h3
  | succ m ih =>
    intro td hl hn hlt w1 es clock h1 h2 h3
    obtain ⟨j0, hj0⟩ : ∃ j, j ∈ td := by
      cases td with
      | nil => cases hl
      | cons j l => exact ⟨j, List.mem_cons_self⟩
    obtain ⟨r1, r2⟩ := hready (fun i => !td.contains i) ⟨j0, hlt j0 hj0, by simp [hj0]⟩
    refine ⟨fun h => absurd h r1, fun i hi => ?_⟩
    obtain ⟨j, hj, hf, rfl⟩ := r2 i hi
    have hjt : j ∈ td := by simpa using hf
    obtain ⟨o, m', x, v, ho, hg, hd, hop', hm, hx, hv⟩ := hop j hj
    have hw : Region.wanted o (yielded ops a.tmps) = true := by simp [Region.wanted, hg]
    unfold wpOp
    simp only [ho, hw, if_true]
    left
    refine wp_insert_new hop' ht hk hm h1 (K j) (V j) hx hv (h2.miss hinj hj hjt) hd ?_
    rw [hset _ j hj, still_here td j hn]
    refine ih (td.erase j) (by rw [List.length_erase_of_mem hjt, hl]; rfl) (hn.erase j) (fun i hi => hlt i (List.mem_of_mem_erase hi)) _ _ _ (MapKept.heap_set h1).1 (by simpa using h2.push hn hj hjt clock) (h3.trans (grown_set h1 _))
/-- What has come up of a region, when all has but some of the inserts (at pos j, where f j is false), and what waits for them. -/
def litArr (N n : Nat) (pos : Nat → Nat) (late : List Nat) (f : Nat → Bool) : Array Bool := ((List.range N).map fun i => !late.contains i && (List.range n).all fun j => pos j != i || f j).toArray
theorem litArr_size (N n : Nat) (pos : Nat → Nat) (late : List Nat) (f : Nat → Bool) : (litArr N n pos late f).size = N := by simp [litArr]
theorem litArr_get {N n : Nat} {pos : Nat → Nat} {late : List Nat} {f : Nat → Bool} {i : Nat} (hi : i < N) : (litArr N n pos late f)[i]? = some (!late.contains i && (List.range n).all fun j => pos j != i || f j) := by
  unfold litArr
  rw [List.getElem?_toArray, List.getElem?_map, List.getElem?_range hi]
  rfl
theorem litArr_no {N n : Nat} {pos : Nat → Nat} {late : List Nat} {f : Nat → Bool} {j : Nat} (hj : j < n) (hN : pos j < N) (hf : f j = false) : (litArr N n pos late f)[pos j]? = some false := by
  rw [litArr_get hN]
  congr 1
  rw [Bool.and_eq_false_iff]
  right
  rw [List.all_eq_false]
  exact ⟨j, List.mem_range.2 hj, by simp [hf]⟩
theorem litArr_set {N n : Nat} {pos : Nat → Nat} {late : List Nat} (f : Nat → Bool) (j : Nat) (hj : j < n) (hN : pos j < N) (hl : late.contains (pos j) = false) (hinj : ∀ i, i < n → pos i = pos j → i = j) :
    (litArr N n pos late f).setIfInBounds (pos j) true = litArr N n pos late (fun i => if i = j then true else f i) := by
  apply Array.ext_getElem?
  intro i
  rw [Array.getElem?_setIfInBounds, litArr_size]
  by_cases hi : i < N
  · rw [litArr_get hi, litArr_get hi]
    by_cases e : pos j = i
    · rw [if_pos e, if_pos (by omega)]
      subst e
      congr 1
      rw [hl, Bool.not_false, Bool.true_and]
      symm
      rw [List.all_eq_true]
      intro x hx
      by_cases ex : x = j
      · rw [if_pos ex, Bool.or_true]
      · have : (pos x != pos j) = true := by rw [bne_iff_ne]; exact fun h => ex (hinj x (List.mem_range.1 hx) h)
        rw [this, Bool.true_or]
    · rw [if_neg e]
      have : ∀ x, (pos x != i || f x) = (pos x != i || if x = j then true else f x) := by
        intro x
        by_cases ex : x = j
        · subst ex
          have : (pos x != i) = true := by rw [bne_iff_ne]; exact e
          rw [this, Bool.true_or, Bool.true_or]
        · rw [if_neg ex]
      simp only [this]
  · have h0 : ∀ g, (litArr N n pos late g)[i]? = none := fun g => by rw [Array.getElem?_eq_none]; rw [litArr_size]; omega
    rw [h0, h0]
    by_cases e : pos j = i
    · omega
    · rw [if_neg e]
/-- What is to be looked at in a region, once: the inserts wait for what has come up alone, what is late waits for each of them. -/
def litCheck (md : Region.Mode) (ops : Array Oper) (n : Nat) (pos : Nat → Nat) (late : List Nat) : Bool :=
  (List.range n).all (fun j => decide (pos j < ops.size) && (!late.contains (pos j) && ((List.range n).all (fun i => i == j || pos i != pos j) &&
    ((ops[pos j]?).map fun o => o.after.all fun e => !Region.binds md e || (decide (e.on < ops.size) && (!late.contains e.on && (List.range n).all fun i => pos i != e.on))).getD false))) &&
  late.all (fun i => (List.range n).all fun j => ((ops[i]?).map fun o => o.after.any fun e => Region.binds md e && e.on == pos j).getD false)
theorem litReady {ops : Array Oper} {n : Nat} {pos : Nat → Nat} {late : List Nat} (hck : litCheck md ops n pos late = true) (f : Nat → Bool) (hf : ∃ j, j < n ∧ f j = false) :
    Region.ready md ops (litArr ops.size n pos late f) ≠ [] ∧ ∀ i ∈ Region.ready md ops (litArr ops.size n pos late f), ∃ j, j < n ∧ f j = false ∧ i = pos j := by
  unfold litCheck at hck
  rw [Bool.and_eq_true, List.all_eq_true, List.all_eq_true] at hck
  obtain ⟨c1, c2⟩ := hck
  constructor
  · obtain ⟨j, hj, hfj⟩ := hf
    have h := c1 j (List.mem_range.2 hj)
    rw [Bool.and_eq_true, Bool.and_eq_true, Bool.and_eq_true, decide_eq_true_iff] at h
    obtain ⟨h1, h2, h3, h4⟩ := h
    intro e
    have hm : pos j ∈ Region.ready md ops (litArr ops.size n pos late f) := by
      unfold Region.ready
      rw [List.mem_filter]
      refine ⟨List.mem_range.2 h1, ?_⟩
      rw [Array.getD_eq_getD_getElem?, litArr_no hj h1 hfj]
      cases ho : ops[pos j]? with
      | none => rw [ho] at h4; simp at h4
      | some o =>
        rw [ho] at h4
        simp only [Option.map_some, Option.getD_some] at h4 ⊢
        rw [Bool.not_false, Bool.true_and]
        rw [Array.all_eq_true] at h4 ⊢
        intro x hx
        have h5 := h4 x hx
        cases hb : Region.binds md o.after[x]
        · rfl
        · rw [hb, Bool.not_true, Bool.false_or, Bool.and_eq_true, Bool.and_eq_true, decide_eq_true_iff] at h5
          obtain ⟨k1, k2, k3⟩ := h5
          rw [Bool.not_true, Bool.false_or, Array.getD_eq_getD_getElem?, litArr_get k1]
          simp only [Option.getD_some]
          rw [k2, Bool.true_and, List.all_eq_true]
          intro y hy
          rw [List.all_eq_true] at k3
          rw [k3 y hy, Bool.true_or]
    rw [e] at hm
    cases hm
  · intro i hi
    unfold Region.ready at hi
    rw [List.mem_filter] at hi
    obtain ⟨hi1, hi2⟩ := hi
    have hi1 := List.mem_range.1 hi1
    rw [Bool.and_eq_true, Array.getD_eq_getD_getElem?, litArr_get hi1] at hi2
    obtain ⟨h1, h2⟩ := hi2
    simp only [Option.getD_some] at h1
    rw [Bool.not_eq_true', Bool.and_eq_false_iff] at h1
    rcases h1 with h1 | h1
    · exfalso
      have hl : i ∈ late := by
        rw [Bool.not_eq_false'] at h1
        exact List.contains_iff_mem.1 h1
      obtain ⟨j, hj, hfj⟩ := hf
      have h3 := c2 i hl
      rw [List.all_eq_true] at h3
      have h3 := h3 j (List.mem_range.2 hj)
      cases ho : ops[i]? with
      | none => rw [ho] at h3; simp at h3
      | some o =>
        rw [ho] at h2 h3
        simp only [Option.map_some, Option.getD_some] at h2 h3
        rw [Array.any_eq_true] at h3
        obtain ⟨x, hx, h3⟩ := h3
        rw [Bool.and_eq_true, beq_iff_eq] at h3
        rw [Array.all_eq_true] at h2
        have h2 := h2 x hx
        have hc := c1 j (List.mem_range.2 hj)
        rw [Bool.and_eq_true, decide_eq_true_iff] at hc
        rw [h3.1, h3.2, Array.getD_eq_getD_getElem?, litArr_no hj hc.1 hfj] at h2
        simp at h2
    · rw [List.all_eq_false] at h1
      obtain ⟨j, hj, h⟩ := h1
      rw [Bool.not_eq_true, Bool.or_eq_false_iff, bne_eq_false_iff_eq] at h
      exact ⟨j, List.mem_range.1 hj, h.2, h.1.symm⟩
/-- A MAP'S ENTRIES ALL TOGETHER, in whatever order they come. -/
theorem wpAny_mapLit (pos : Nat → Nat) (late : List Nat) (N F : Nat) (hN : ops.size = N) (hck : litCheck md ops n pos late = true) (ht : P.underlying t = some (.map k e)) (hk : P.underlying k = some (.int q)) (hinj : ∀ i j, i < n → j < n → K i = K j → i = j)
    (hop : ∀ j, j < n → ∃ o m x v, ops[pos j]? = some o ∧ o.guard = none ∧ o.dst = none ∧ o.op = .insert t m x v ∧ a.eval m = .map (some b) ∧ a.eval x = .int q (K j) ∧ a.eval v = V j)
    (hb : w.heap[b]? = some (.map #[] 0))
    (hfin : ∀ w' es clock, w'.heap[b]? = some (.map es clock) → Ents q K V n [] es.toList → w.grownBy w' (some b) → wpAny P md ops Q F (litArr N n pos late (fun i => !([] : List Nat).contains i)) a w') :
    wpAny P md ops Q (F + n) (litArr N n pos late (fun i => !(List.range n).contains i)) a w := by
  subst hN
  have hck2 := hck
  unfold litCheck at hck2
  rw [Bool.and_eq_true, List.all_eq_true] at hck2
  refine wpAny_inserts pos (litArr ops.size n pos late) ht hk hinj hop (fun f j hj => ?_) (litReady hck) F hfin n (List.range n) List.length_range List.nodup_range (fun j hj => List.mem_range.1 hj) w #[] 0 hb (Ents.none_yet _ _ _ _) ⟨rfl, rfl, rfl, Nat.le_refl _, fun _ _ _ => rfl⟩
  have h := hck2.1 j (List.mem_range.2 hj)
  rw [Bool.and_eq_true, Bool.and_eq_true, Bool.and_eq_true, decide_eq_true_iff, Bool.not_eq_true'] at h
  refine litArr_set f j hj h.1 h.2.1 (fun i hi e => ?_)
  have h3 := h.2.2.1
  rw [List.all_eq_true] at h3
  have h3 := h3 i (List.mem_range.2 hi)
  rw [Bool.or_eq_true, beq_iff_eq, bne_iff_ne] at h3
  rcases h3 with h3 | h3
  · exact h3
  · exact absurd e h3
theorem run_lookup_val {es : Array MapEntry} {clock : Nat} (ht : P.underlying t = some (.map k e)) (hk : P.underlying k = some (.int q)) (hb : w.heap[b]? = some (.map es clock)) (key : Int) {r : Option (Nat × Value)} (hf : Instr.findNow (.int q) (.int q key) es.toList 0 = some r) {z : Value} (hz : (zeroValue e).run P w = .ok z w) :
    (Instr.lookup t (.map (some b)) (.int q key) false).run P w = .ok ((r.map (·.2)).getD z) w := by
  rcases r with _ | ⟨i, v⟩ <;> simp [Instr.lookup, run_underlying ht, MapKept.run_getObj_map hb, MapKept.run_checkKey hk (k := .int q key) (by simp [MapKept.IsKey]), MapKept.run_findKey hk hf, Result.andThen, hz]
theorem wpList_lookup_val {rest : List Oper} {o : Oper} {es : Array MapEntry} {clock : Nat}
    (hg : o.guard = none) (m x : Operand) (hop : o.op = Op.lookup t m x false) (ht : P.underlying t = some (.map k e)) (hk : P.underlying k = some (.int q))
    (hm : a.eval m = .map (some b)) (hb : w.heap[b]? = some (.map es clock)) (key : Int) (hx : a.eval x = .int q key) {r : Option (Nat × Value)} (hf : Instr.findNow (.int q) (.int q key) es.toList 0 = some r) {z : Value} (hz : (zeroValue e).run P w = .ok z w)
    {v : Value} (hv : (r.map (·.2)).getD z = v)
    (hK : wpList P ops Q rest (a.put o.dst v) w) : wpList P ops Q (o :: rest) a w := by
  refine wpList_plain hg fun K' hK' => ?_
  have hrun := run_lookup_val ht hk hb key hf hz
  rw [hv] at hrun
  unfold Oper.wp
  simp [execOp, hop, hm, hx, hrun, Result.andThen]
  exact hK' _ _ hK
end
end Go.Proofs.Ytiibopdnlmnkmaa
