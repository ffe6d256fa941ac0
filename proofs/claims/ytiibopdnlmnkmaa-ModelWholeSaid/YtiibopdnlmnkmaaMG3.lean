/- Merged: MoMath MoR. -/
import Derived.Test.YtiibopdnlmnkmaaRepK
import Derived.Test.YtiibopdnlmnkmaaRepEc
import Derived.Test.YtiibopdnlmnkmaaMG1
import Derived.Test.YtiibopdnlmnkmaaRepRT
/- Layer 7's answers as plain functions: what is wrong with a request, what is written and replied. No program in sight. -/
namespace Go.Proofs.Ytiibopdnlmnkmaa.Mo
open Go.Proofs.Ytiibopdnlmnkmaa Go.Proofs.Ytiibopdnlmnkmaa.Ask Go.Proofs.Ytiibopdnlmnkmaa.AskW
/-- May a right request be done? -/
def allowed (s : Space) (r : Req) : Bool :=
  if r.f = 1 then readsOk s.coils r.at' r.many
  else if r.f = 2 then readsOk s.inputs r.at' r.many
  else if r.f = 3 then readsOk s.holding r.at' r.many
  else if r.f = 4 then readsOk s.words r.at' r.many
  else if r.f = 5 ∨ r.f = 15 then writesOk s.coils r.at' r.bits.length
  else if r.f = 6 ∨ r.f = 16 then writesOk s.holding r.at' r.words.length
  else readsOk s.holding r.at' r.many && writesOk s.holding r.to r.words.length
def checkM (s : Space) (r : Req) : Nat := if right r then (if allowed s r then 0 else 2) else 3
/-- What a request writes, where. -/
def place (r : Req) : Nat := if r.f = 23 then r.to else r.at'
def wrote (m : Mem) (r : Req) : Mem := ⟨over m.coils (place r) r.bits, m.inputs, over m.holding (place r) r.words, m.words⟩
/-- What is replied to a right request that may be done. -/
def answer (m : Mem) (r : Req) : Rep :=
  if (echoF r).2 then (echoF r).1
  else if r.f = 1 then ⟨r.f, 0, pad8 (slab m.coils r.at' r.many), [], 0, 0⟩
  else if r.f = 2 then ⟨r.f, 0, pad8 (slab m.inputs r.at' r.many), [], 0, 0⟩
  else if r.f = 4 then ⟨r.f, 0, [], slab m.words r.at' r.many, 0, 0⟩
  else ⟨r.f, 0, [], slab m.holding r.at' r.many, 0, 0⟩
def exc (f x : Nat) : Rep := ⟨f % 128, x, [], [], 0, 0⟩
def faultM (s : Space) (m : Mem) (r : Req) : Nat := if checkM s r = 0 then (if rightM s m then 0 else 4) else checkM s r
def doM (s : Space) (m : Mem) (r : Req) : Mem × Rep :=
  if faultM s m r = 0 then (wrote m r, answer (wrote m r) r) else (m, exc r.f (faultM s m r))
def serveM (s : Space) (m : Mem) (xs : List Nat) : Mem × List Nat :=
  if (lookF xs).2 = 0 then ((doM s m (lookF xs).1).1, (rbytesE (doM s m (lookF xs).1).2).1) else (m, (rbytesE (exc (lookF xs).1.f (lookF xs).2)).1)
theorem check_ok {s : Space} {r : Req} (h : checkM s r = 0) : right r = true ∧ allowed s r = true := by
  unfold checkM at h
  cases hr : right r
  · rw [hr] at h; simp at h
  · rw [hr] at h
    cases ha : allowed s r
    · rw [ha] at h; simp at h
    · exact ⟨rfl, rfl⟩
/-- What a right request that is allowed has, and where. -/
theorem span_ok {s : Space} {m : Mem} {r : Req} (hc : checkM s r = 0) (hm : rightM s m = true) :
    (r.bits = [] ∨ place r + r.bits.length ≤ m.coils.length) ∧ (r.words = [] ∨ place r + r.words.length ≤ m.holding.length) ∧
    (r.f = 1 → r.bits = [] ∧ r.words = [] ∧ 1 ≤ r.many ∧ r.many ≤ 2000 ∧ r.at' + r.many ≤ m.coils.length) ∧ (r.f = 2 → r.bits = [] ∧ r.words = [] ∧ 1 ≤ r.many ∧ r.many ≤ 2000 ∧ r.at' + r.many ≤ m.inputs.length) ∧
    ((r.f = 3 ∨ r.f = 23) → r.bits = [] ∧ 1 ≤ r.many ∧ r.many ≤ 125 ∧ r.at' + r.many ≤ m.holding.length) ∧ (r.f = 3 → r.words = []) ∧ (r.f = 4 → r.bits = [] ∧ r.words = [] ∧ 1 ≤ r.many ∧ r.many ≤ 125 ∧ r.at' + r.many ≤ m.words.length) := by
  obtain ⟨hr, ha⟩ := check_ok hc
  obtain ⟨l1, l2, l3, l4⟩ := right_long hm
  obtain ⟨f, a, n, t, W, B⟩ := r
  have hf := right_fld hr
  unfold allowed at ha
  dsimp only at hf ha ⊢
  rcases hf with rfl | rfl | rfl | rfl | rfl | rfl | rfl | rfl | rfl
  all_goals simp [right, fld, Fld.right, fits] at hr
  · obtain ⟨h1, ⟨h2, h3⟩, h4⟩ := hr
    subst h3 h4
    have h5 := reads_in l1 (by simpa using ha) (by omega)
    exact ⟨.inl rfl, .inl rfl, fun _ => ⟨rfl, rfl, by omega, by omega, h5⟩, fun e => by omega, fun e => by omega, fun e => by omega, fun e => by omega⟩
  · obtain ⟨h1, ⟨h2, h3⟩, h4⟩ := hr
    subst h3 h4
    have h5 := reads_in l2 (by simpa using ha) (by omega)
    exact ⟨.inl rfl, .inl rfl, fun e => by omega, fun _ => ⟨rfl, rfl, by omega, by omega, h5⟩, fun e => by omega, fun e => by omega, fun e => by omega⟩
  · obtain ⟨h1, ⟨h2, h3⟩, h4⟩ := hr
    subst h3 h4
    have h5 := reads_in l3 (by simpa using ha) (by omega)
    exact ⟨.inl rfl, .inl rfl, fun e => by omega, fun e => by omega, fun _ => ⟨rfl, by omega, by omega, h5⟩, fun _ => rfl, fun e => by omega⟩
  · obtain ⟨h1, ⟨h2, h3⟩, h4⟩ := hr
    subst h3 h4
    have h5 := reads_in l4 (by simpa using ha) (by omega)
    exact ⟨.inl rfl, .inl rfl, fun e => by omega, fun e => by omega, fun e => by omega, fun e => by omega, fun _ => ⟨rfl, rfl, by omega, by omega, h5⟩⟩
  · obtain ⟨h1, ⟨h2, h3⟩, h4⟩ := hr
    subst h4
    refine ⟨.inr (by simpa [place] using writes_in l1 (by simpa using ha) (by omega)), .inl rfl, fun e => by omega, fun e => by omega, fun e => by omega, fun e => by omega, fun e => by omega⟩
  · obtain ⟨h1, ⟨h2, h3⟩, h4⟩ := hr
    subst h3
    refine ⟨.inl rfl, .inr (by simpa [place] using writes_in l3 (by simpa using ha) (by omega)), fun e => by omega, fun e => by omega, fun e => by omega, fun e => by omega, fun e => by omega⟩
  · obtain ⟨h1, ⟨h2, h3⟩, h4⟩ := hr
    subst h4
    refine ⟨.inr (by simpa [place] using writes_in l1 (by simpa using ha) (by omega)), .inl rfl, fun e => by omega, fun e => by omega, fun e => by omega, fun e => by omega, fun e => by omega⟩
  · obtain ⟨h1, ⟨h2, h3⟩, h4⟩ := hr
    subst h3
    refine ⟨.inl rfl, .inr (by simpa [place] using writes_in l3 (by simpa using ha) (by omega)), fun e => by omega, fun e => by omega, fun e => by omega, fun e => by omega, fun e => by omega⟩
  · obtain ⟨h1, h3, h4⟩ := hr
    subst h3
    simp only [Nat.reduceEqDiff, if_false, or_self, Bool.and_eq_true] at ha
    have h5 := reads_in l3 ha.1 (by omega)
    refine ⟨.inl rfl, .inr (by simpa [place] using writes_in l3 ha.2 (by omega)), fun e => by omega, fun e => by omega, fun _ => ⟨rfl, by omega, by omega, h5⟩, fun e => by omega, fun e => by omega⟩
theorem fault_ok {s : Space} {m : Mem} {r : Req} (h : faultM s m r = 0) : checkM s r = 0 ∧ rightM s m = true := by
  unfold faultM at h
  by_cases hc : checkM s r = 0
  · rw [if_pos hc] at h
    cases hr : rightM s m
    · rw [hr] at h; simp at h
    · exact ⟨hc, rfl⟩
  · rw [if_neg hc] at h; exact absurd h hc
theorem fault_lt (s : Space) (m : Mem) (r : Req) : faultM s m r ≤ 4 := by
  unfold faultM checkM; repeat' split
  all_goals omega
theorem over_all {α : Type} {p : α → Prop} {l v : List α} {k : Nat} (hl : ∀ x ∈ l, p x) (hv : ∀ x ∈ v, p x) : ∀ x ∈ over l k v, p x := by
  intro x hx
  unfold over at hx
  rcases List.mem_append.1 hx with h | h
  · exact hl x (List.mem_of_mem_take h)
  · rcases List.mem_append.1 h with h | h
    · exact hv x h
    · exact hl x (List.mem_of_mem_drop h)
theorem wrote_wf {m : Mem} {r : Req} (hm : m.Wf) (hr : r.Wf) : (wrote m r).Wf := ⟨over_all hm.holding hr.words, hm.words⟩
theorem slab_all {α : Type} {p : α → Prop} {l : List α} {k n : Nat} (hl : ∀ x ∈ l, p x) : ∀ x ∈ slab l k n, p x := fun x hx => hl x (List.mem_of_mem_drop (List.mem_of_mem_take hx))
theorem echo_wf {r : Req} (hr : r.Wf) : (echoF r).1.Wf := by
  unfold echoF
  have h1 := hr.f
  have h2 := hr.at'
  have h3 := hr.many
  have h4 := hr.words
  repeat' split
  all_goals first
    | exact ⟨h1, by show (0 : Nat) < 256; omega, h4, h2, by show (0 : Nat) < 65536; omega⟩
    | exact ⟨h1, by show (0 : Nat) < 256; omega, (fun _ h => by cases h), h2, by show (0 : Nat) < 65536; omega⟩
    | exact ⟨h1, by show (0 : Nat) < 256; omega, (fun _ h => by cases h), h2, h3⟩
    | exact ⟨by show (0 : Nat) < 256; omega, by show (0 : Nat) < 256; omega, (fun _ h => by cases h), by show (0 : Nat) < 65536; omega, by show (0 : Nat) < 65536; omega⟩
theorem answer_wf {m : Mem} {r : Req} (hm : m.Wf) (hr : r.Wf) : (answer m r).Wf := by
  unfold answer
  have h1 := hr.f
  repeat' split
  · exact echo_wf hr
  all_goals first
    | exact ⟨h1, by show (0 : Nat) < 256; omega, slab_all hm.words, by show (0 : Nat) < 65536; omega, by show (0 : Nat) < 65536; omega⟩
    | exact ⟨h1, by show (0 : Nat) < 256; omega, slab_all hm.holding, by show (0 : Nat) < 65536; omega, by show (0 : Nat) < 65536; omega⟩
    | exact ⟨h1, by show (0 : Nat) < 256; omega, (fun _ h => by cases h), by show (0 : Nat) < 65536; omega, by show (0 : Nat) < 65536; omega⟩
theorem exc_wf (f x : Nat) (hx : x < 256) : (exc f x).Wf := ⟨by show f % 128 < 256; omega, hx, (fun _ h => by cases h), by show (0 : Nat) < 65536; omega, by show (0 : Nat) < 65536; omega⟩
theorem do_wf {s : Space} {m : Mem} {r : Req} (hm : m.Wf) (hr : r.Wf) : (doM s m r).1.Wf ∧ (doM s m r).2.Wf := by
  unfold doM
  by_cases h : faultM s m r = 0
  · rw [if_pos h]; exact ⟨wrote_wf hm hr, answer_wf (wrote_wf hm hr) hr⟩
  · rw [if_neg h]; exact ⟨hm, exc_wf _ _ (by have := fault_lt s m r; omega)⟩
theorem look_wf {xs : List Nat} (hx : Bytes xs) : (lookF xs).1.Wf ∧ (lookF xs).1.words.length ≤ 1000 ∧ (lookF xs).1.bits.length ≤ 3000 ∧ (lookF xs).2 < 256 := by
  have h0 := hx.at 0
  have hb : ∀ f, f < 256 → (bare f).Wf ∧ (bare f).words.length ≤ 1000 ∧ (bare f).bits.length ≤ 3000 := fun f hf => ⟨⟨hf, by show (0 : Nat) < 65536; omega, by show (0 : Nat) < 65536; omega, by show (0 : Nat) < 65536; omega, fun _ h => by cases h⟩, Nat.zero_le _, Nat.zero_le _⟩
  by_cases h : (lookF xs).2 = 0
  · obtain ⟨h1, h2, h3⟩ := look_ok h
    have hl : (lookF xs).1.words.length ≤ 1000 ∧ (lookF xs).1.bits.length ≤ 3000 := by
      generalize (lookF xs).1 = q at h1
      cases shape_of h1 with
      | ask m e hf hm hb => rw [e]; exact ⟨Nat.zero_le _, Nat.zero_le _⟩
      | bit x e hb => rw [e]; exact ⟨Nat.zero_le _, by show 1 ≤ 3000; omega⟩
      | word x e hb => rw [e]; exact ⟨by show 1 ≤ 1000; omega, Nat.zero_le _⟩
      | bits e hm hb => exact ⟨by rw [e]; exact Nat.zero_le _, by omega⟩
      | words e hm hb => exact ⟨by omega, by rw [e]; exact Nat.zero_le _⟩
      | swap e hm hw hb => exact ⟨by omega, by rw [e]; exact Nat.zero_le _⟩
    exact ⟨by rw [h3]; exact rd_wf hx, hl.1, hl.2, by omega⟩
  · unfold lookF
    unfold lookF at h
    repeat' split
    · exact ⟨(hb 0 (by omega)).1, (hb 0 (by omega)).2.1, (hb 0 (by omega)).2.2, by show 1 < 256; omega⟩
    · exact ⟨(hb _ h0).1, (hb _ h0).2.1, (hb _ h0).2.2, by show 1 < 256; omega⟩
    · exact ⟨(hb _ h0).1, (hb _ h0).2.1, (hb _ h0).2.2, by show 3 < 256; omega⟩
    · simp_all
    · exact ⟨(hb _ h0).1, (hb _ h0).2.1, (hb _ h0).2.2, by show 3 < 256; omega⟩
end Go.Proofs.Ytiibopdnlmnkmaa.Mo
/- What the laws of layer 7 say, as plain facts. No program in sight. -/
namespace Go.Proofs.Ytiibopdnlmnkmaa.Mo
open Go.Proofs.Ytiibopdnlmnkmaa Go.Proofs.Ytiibopdnlmnkmaa.Ask Go.Proofs.Ytiibopdnlmnkmaa.AskW
theorem right_len {s : Space} {m n : Mem} (h1 : n.coils.length = m.coils.length) (h2 : n.inputs.length = m.inputs.length) (h3 : n.holding.length = m.holding.length) (h4 : n.words.length = m.words.length) : rightM s n = rightM s m := by
  unfold rightM; rw [h1, h2, h3, h4]
theorem echo_x (r : Req) : (echoF r).1.x = 0 := by
  unfold echoF
  repeat' split
  all_goals rfl
theorem answer_x (m : Mem) (r : Req) : (answer m r).x = 0 := by
  unfold answer; repeat' split
  all_goals first | exact echo_x r | rfl
theorem wrote_len {s : Space} {m : Mem} {r : Req} (hc : checkM s r = 0) (hm : rightM s m = true) : (wrote m r).coils.length = m.coils.length ∧ (wrote m r).holding.length = m.holding.length := by
  have h := span_ok hc hm
  exact ⟨over_length h.1, over_length h.2.1⟩
theorem wrote_right {s : Space} {m : Mem} {r : Req} (hc : checkM s r = 0) (hm : rightM s m = true) : rightM s (wrote m r) = true := by
  have h := wrote_len hc hm
  rw [right_len h.1 rfl h.2 rfl]; exact hm
theorem do_right {s : Space} {m : Mem} (r : Req) (hm : rightM s m = true) : rightM s (doM s m r).1 = true := by
  unfold doM
  by_cases h : faultM s m r = 0
  · rw [if_pos h]; exact wrote_right (fault_ok h).1 hm
  · rw [if_neg h]; exact hm
theorem fault_right {s : Space} {m : Mem} {r : Req} (hm : rightM s m = true) : faultM s m r = checkM s r := by
  unfold faultM; rw [hm]
  by_cases h : checkM s r = 0
  · rw [if_pos h, h]; rfl
  · rw [if_neg h]
theorem do_x (s : Space) (m : Mem) (r : Req) : (doM s m r).2.x = faultM s m r := by
  unfold doM
  by_cases h : faultM s m r = 0
  · rw [if_pos h, h]; exact answer_x _ _
  · rw [if_neg h]; rfl
theorem do_bad {s : Space} {m : Mem} {r : Req} (h : faultM s m r ≠ 0) : (doM s m r).1 = m := by unfold doM; rw [if_neg h]
theorem do_ok {s : Space} {m : Mem} {r : Req} (h : faultM s m r = 0) : doM s m r = (wrote m r, answer (wrote m r) r) := by unfold doM; rw [if_pos h]
theorem right_23 {a m t : Nat} {W : List Nat} (h1 : 1 ≤ W.length) (h2 : W.length ≤ 121) : right ⟨23, a, m, t, W, []⟩ = decide (1 ≤ m ∧ m ≤ 125) := by
  rw [Bool.eq_iff_iff, decide_eq_true_iff]
  simp [right, fld, Fld.right, fits]
  omega
theorem right_16 {a : Nat} {W : List Nat} (h1 : 1 ≤ W.length) (h2 : W.length ≤ 121) : right ⟨16, a, W.length, 0, W, []⟩ = true := by
  have hne : ¬ W = [] := fun e => by rw [e] at h1; simp at h1
  simp [right, fld, Fld.right, fits, hne]
  omega
theorem right_3 {a m : Nat} : right ⟨3, a, m, 0, [], []⟩ = decide (1 ≤ m ∧ m ≤ 125) := by
  rw [Bool.eq_iff_iff, decide_eq_true_iff]
  simp [right, fld, Fld.right, fits]
  omega
/-- Function 23 is function 16, and 3 behind it. -/
theorem swap_is {s : Space} {m : Mem} {a n t : Nat} {W : List Nat} (hm : rightM s m = true) (h1 : 1 ≤ W.length) (h2 : W.length ≤ 121) :
    let r := doM s m ⟨23, a, n, t, W, []⟩
    let x := doM s m ⟨16, t, W.length, 0, W, []⟩
    let y := doM s x.1 ⟨3, a, n, 0, [], []⟩
    ((x.2.x ≠ 0 ∨ y.2.x ≠ 0) → r.1 = m ∧ r.2.x = (if y.2.x = 0 ∨ y.2.x = 2 then 2 else y.2.x)) ∧ (x.2.x = 0 → y.2.x = 0 → r.1 = y.1 ∧ r.2.x = 0 ∧ r.2.words = y.2.words) := by
  intro r x y
  have hxm : rightM s x.1 = true := do_right _ hm
  have fx : x.2.x = checkM s ⟨16, t, W.length, 0, W, []⟩ := (do_x _ _ _).trans (fault_right hm)
  have fy : y.2.x = checkM s ⟨3, a, n, 0, [], []⟩ := (do_x _ _ _).trans (fault_right hxm)
  have fr : r.2.x = checkM s ⟨23, a, n, t, W, []⟩ := (do_x _ _ _).trans (fault_right hm)
  have cx : checkM s ⟨16, t, W.length, 0, W, []⟩ = if writesOk s.holding t W.length then 0 else 2 := by
    unfold checkM; rw [right_16 h1 h2]; rfl
  have cy : checkM s ⟨3, a, n, 0, [], []⟩ = if 1 ≤ n ∧ n ≤ 125 then (if readsOk s.holding a n then 0 else 2) else 3 := by
    unfold checkM; rw [right_3]
    by_cases h : 1 ≤ n ∧ n ≤ 125
    · rw [decide_eq_true h, if_pos h]; rfl
    · rw [decide_eq_false h, if_neg h]; rfl
  have cr : checkM s ⟨23, a, n, t, W, []⟩ = if 1 ≤ n ∧ n ≤ 125 then (if readsOk s.holding a n && writesOk s.holding t W.length then 0 else 2) else 3 := by
    unfold checkM; rw [right_23 h1 h2]
    by_cases h : 1 ≤ n ∧ n ≤ 125
    · rw [decide_eq_true h, if_pos h]; rfl
    · rw [decide_eq_false h, if_neg h]; rfl
  rw [cx] at fx
  rw [cy] at fy
  rw [cr] at fr
  constructor
  · intro hor
    have hne : faultM s m ⟨23, a, n, t, W, []⟩ ≠ 0 := by
      rw [fault_right hm, cr]
      by_cases h : 1 ≤ n ∧ n ≤ 125
      · rw [if_pos h]
        rw [if_pos h] at fy
        cases hr : readsOk s.holding a n <;> cases hw : writesOk s.holding t W.length <;> simp_all
      · rw [if_neg h]; decide
    refine ⟨do_bad hne, ?_⟩
    rw [fr, fy]
    by_cases h : 1 ≤ n ∧ n ≤ 125
    · rw [if_pos h, if_pos h]
      rw [if_pos h] at fy
      cases hr : readsOk s.holding a n <;> cases hw : writesOk s.holding t W.length <;> simp_all
    · rw [if_neg h, if_neg h]; rfl
  · intro hx hy
    rw [hx] at fx
    rw [hy] at fy
    have hw : writesOk s.holding t W.length = true := by
      cases h : writesOk s.holding t W.length
      · rw [h] at fx; simp at fx
      · rfl
    have hn : 1 ≤ n ∧ n ≤ 125 := by
      by_cases h : 1 ≤ n ∧ n ≤ 125
      · exact h
      · rw [if_neg h] at fy; simp at fy
    have hr : readsOk s.holding a n = true := by
      rw [if_pos hn] at fy
      cases h : readsOk s.holding a n
      · rw [h] at fy; simp at fy
      · rfl
    have e1 : faultM s m ⟨23, a, n, t, W, []⟩ = 0 := by rw [fault_right hm, cr, if_pos hn, hr, hw]; rfl
    have e2 : faultM s m ⟨16, t, W.length, 0, W, []⟩ = 0 := by rw [fault_right hm, cx, hw]; rfl
    have e3 : faultM s x.1 ⟨3, a, n, 0, [], []⟩ = 0 := by rw [fault_right hxm, cy, if_pos hn, hr]; rfl
    have q1 : r = (wrote m ⟨23, a, n, t, W, []⟩, answer (wrote m ⟨23, a, n, t, W, []⟩) ⟨23, a, n, t, W, []⟩) := do_ok e1
    have q2 : x = (wrote m ⟨16, t, W.length, 0, W, []⟩, answer (wrote m ⟨16, t, W.length, 0, W, []⟩) ⟨16, t, W.length, 0, W, []⟩) := do_ok e2
    have q3 : y = (wrote x.1 ⟨3, a, n, 0, [], []⟩, answer (wrote x.1 ⟨3, a, n, 0, [], []⟩) ⟨3, a, n, 0, [], []⟩) := do_ok e3
    have w3 : ∀ N : Mem, wrote N ⟨3, a, n, 0, [], []⟩ = N := fun N => by unfold wrote; rw [over_nil, over_nil]
    have w23 : wrote m ⟨23, a, n, t, W, []⟩ = wrote m ⟨16, t, W.length, 0, W, []⟩ := rfl
    have n23 : ∀ N : Mem, answer N ⟨23, a, n, t, W, []⟩ = ⟨23, 0, [], slab N.holding a n, 0, 0⟩ := fun N => by
      have h : (echoF ⟨23, a, n, t, W, []⟩).2 = false := by unfold echoF; split <;> rfl
      unfold answer; rw [h]; rfl
    have n3 : ∀ N : Mem, answer N ⟨3, a, n, 0, [], []⟩ = ⟨3, 0, [], slab N.holding a n, 0, 0⟩ := fun N => by
      have h : (echoF ⟨3, a, n, 0, [], []⟩).2 = false := by unfold echoF; split <;> rfl
      unfold answer; rw [h]; rfl
    have hx1 : x.1 = wrote m ⟨16, t, W.length, 0, W, []⟩ := by rw [q2]
    refine ⟨?_, by rw [q1]; exact answer_x _ _, ?_⟩
    · rw [q3, q1, w3, hx1]; exact w23
    · rw [q3, q1, w3, n3, n23, hx1, w23]
theorem do_len (s : Space) (m : Mem) (r : Req) : (doM s m r).1.coils.length = m.coils.length ∧ (doM s m r).1.inputs.length = m.inputs.length ∧ (doM s m r).1.holding.length = m.holding.length ∧ (doM s m r).1.words.length = m.words.length := by
  by_cases h : faultM s m r = 0
  · rw [do_ok h]
    have hl := wrote_len (fault_ok h).1 (fault_ok h).2
    exact ⟨hl.1, rfl, hl.2, rfl⟩
  · rw [do_bad h]; exact ⟨rfl, rfl, rfl, rfl⟩
theorem slab_le {α : Type} (l : List α) (k n : Nat) : (slab l k n).length ≤ n := by unfold slab; rw [List.length_take]; omega
theorem do_words {s : Space} {m N : Mem} {r : Req} {p : Rep} (e : (N, p) = doM s m r) : p.words.length ≤ r.words.length + r.many := by
  have e2 : p = (doM s m r).2 := by rw [← e]
  rw [e2]
  by_cases h : faultM s m r = 0
  · rw [do_ok h]
    show (answer (wrote m r) r).words.length ≤ _
    unfold answer
    repeat' split
    · unfold echoF
      repeat' split
      all_goals first | exact Nat.zero_le _ | exact Nat.le_add_right _ _
    all_goals first | exact Nat.zero_le _ | exact Nat.le_trans (slab_le _ _ _) (Nat.le_add_left _ _)
  · unfold doM; rw [if_neg h]; exact Nat.zero_le _
theorem exc_rright (f x : Nat) (h1 : 1 ≤ x) (h2 : x ≤ 4) : rright (exc f x) = true := by
  unfold exc
  rw [rright_wrong _ _ (Nat.mod_lt _ (by decide)), decide_eq_true_iff]
  exact ⟨h1, h2⟩
/-- What is replied is a right reply. -/
theorem answer_rright {s : Space} {m : Mem} {r : Req} (hc : checkM s r = 0) (hm : rightM s m = true) : rright (answer (wrote m r) r) = true := by
  obtain ⟨hr, ha⟩ := check_ok hc
  have hsp := span_ok hc hm
  have hl := wrote_len hc hm
  have hf := right_fld hr
  unfold answer
  by_cases he : (echoF r).2 = true
  · rw [if_pos he]; exact (echo_right hr he).1
  · rw [if_neg he]
    have hbits : ∀ l : List Bool, 1 ≤ l.length → l.length ≤ 2000 → ∀ f, f = 1 ∨ f = 2 → rright ⟨f, 0, pad8 l, [], 0, 0⟩ = true := fun l h1 h2 f hf => by
      have h3 := pad8_length l
      rcases hf with rfl | rfl <;>
      · simp [rright, kdOf, kdBy, Kd.right]
        omega
    have hwords : ∀ l : List Nat, 1 ≤ l.length → l.length ≤ 125 → ∀ f, f = 3 ∨ f = 4 ∨ f = 23 → rright ⟨f, 0, [], l, 0, 0⟩ = true := fun l h1 h2 f hf => by
      have hne : l ≠ [] := fun e => by rw [e] at h1; simp at h1
      have hne2 := List.length_pos_iff.2 hne
      rcases hf with rfl | rfl | rfl <;>
      · simp [rright, kdOf, kdBy, Kd.right]
        omega
    by_cases h1 : r.f = 1
    · rw [if_pos h1]
      have h := hsp.2.2.1 h1
      have hn := slab_length (l := (wrote m r).coils) (k := r.at') (n := r.many) (by rw [hl.1]; exact h.2.2.2.2)
      exact hbits _ (by omega) (by omega) _ (.inl h1)
    rw [if_neg h1]
    by_cases h2 : r.f = 2
    · rw [if_pos h2]
      have h := hsp.2.2.2.1 h2
      have hn := slab_length (l := (wrote m r).inputs) (k := r.at') (n := r.many) h.2.2.2.2
      exact hbits _ (by omega) (by omega) _ (.inr h2)
    rw [if_neg h2]
    by_cases h4 : r.f = 4
    · rw [if_pos h4]
      have h := hsp.2.2.2.2.2.2 h4
      have hn := slab_length (l := (wrote m r).words) (k := r.at') (n := r.many) h.2.2.2.2
      exact hwords _ (by omega) (by omega) _ (.inr (.inl h4))
    rw [if_neg h4]
    have h323 : r.f = 3 ∨ r.f = 23 := by
      rw [echo_is hr, decide_eq_true_iff] at he
      omega
    have h := hsp.2.2.2.2.1 h323
    have hn := slab_length (l := (wrote m r).holding) (k := r.at') (n := r.many) (by rw [hl.2]; exact h.2.2.2)
    exact hwords _ (by omega) (by omega) _ (by omega)
theorem fault_le (s : Space) (m : Mem) (r : Req) : faultM s m r ≤ 4 := fault_lt s m r
theorem do_rright (s : Space) (m : Mem) (r : Req) : rright (doM s m r).2 = true := by
  by_cases h : faultM s m r = 0
  · rw [do_ok h]; exact answer_rright (fault_ok h).1 (fault_ok h).2
  · unfold doM; rw [if_neg h]; exact exc_rright _ _ (by omega) (fault_lt s m r)
theorem look_x (xs : List Nat) : (lookF xs).2 = 0 ∨ (lookF xs).2 = 1 ∨ (lookF xs).2 = 3 := by
  unfold lookF
  repeat' split
  all_goals simp
/-- What bytes are replied with says the reply. -/
theorem serve_says (s : Space) (m : Mem) (xs : List Nat) : ∃ p : Rep, rright p = true ∧ (serveM s m xs).2 = rbytes p ∧ rparse (serveM s m xs).2 = (p, 0) ∧
    ((lookF xs).2 ≠ 0 → p = exc (lookF xs).1.f (lookF xs).2 ∧ (serveM s m xs).1 = m) ∧ ((lookF xs).2 = 0 → p = (doM s m (lookF xs).1).2 ∧ (serveM s m xs).1 = (doM s m (lookF xs).1).1) := by
  by_cases h : (lookF xs).2 = 0
  · have hr := do_rright s m (lookF xs).1
    refine ⟨_, hr, ?_, ?_, fun h' => absurd h h', fun _ => ⟨rfl, ?_⟩⟩
    all_goals unfold serveM; rw [if_pos h]
    · show (rbytesE _).1 = _; unfold rbytesE; rw [if_pos hr]
    · show rparse (rbytesE _).1 = _; unfold rbytesE; rw [if_pos hr]; exact rparse_bytes hr
  · have hr := exc_rright (lookF xs).1.f (lookF xs).2 (by omega) (by have := look_x xs; omega)
    refine ⟨_, hr, ?_, ?_, fun _ => ⟨rfl, ?_⟩, fun h' => absurd h' h⟩
    all_goals unfold serveM; rw [if_neg h]
    · show (rbytesE _).1 = _; unfold rbytesE; rw [if_pos hr]
    · show rparse (rbytesE _).1 = _; unfold rbytesE; rw [if_pos hr]; exact rparse_bytes hr
end Go.Proofs.Ytiibopdnlmnkmaa.Mo
