/- Merged: MoWC MoWD MoWE. -/
import Derived.Test.YtiibopdnlmnkmaaMG2
import Derived.Test.YtiibopdnlmnkmaaMapAny
import Derived.Test.YtiibopdnlmnkmaaMG4
import Derived.Deep.RegionHeld3
import Derived.RegionTactic
import Derived.Test.YtiibopdnlmnkmaaAskW14
/- The walks of model: join, target, usedBy. Written by gen_mowc.py. -/
set_option linter.unusedVariables false
set_option linter.unusedSimpArgs false
namespace Go.Proofs.Ytiibopdnlmnkmaa.MoW
open Go.RowKit Go.Proofs.Ytiibopdnlmnkmaa Go.Proofs.Ytiibopdnlmnkmaa.Mo Go.Proofs.Ytiibopdnlmnkmaa.Ask Go.Proofs.Ytiibopdnlmnkmaa.AskW
/-- A server's cells: areas and contents of its four tables. -/
def srv (v u : Sp) : Array Value := #[.slice v.a.A v.a.n v.a.c, .slice u.a.A u.a.n u.a.c, .slice v.b.A v.b.n v.b.c, .slice u.b.A u.b.n u.b.c, .slice v.c.A v.c.n v.c.c, .slice u.c.A u.c.n u.c.c, .slice v.d.A v.d.n v.d.c, .slice u.d.A u.d.n u.d.c]
set_option maxHeartbeats 4000000 in
theorem join_any (v u : Sp) (w : World) :
    Calls Try.prog 24 #[.agg #[.slice v.a.A v.a.n v.a.c, .slice v.b.A v.b.n v.b.c, .slice v.c.A v.c.n v.c.c, .slice v.d.A v.d.n v.d.c], .agg #[.slice u.a.A u.a.n u.a.c, .slice u.b.A u.b.n u.b.c, .slice u.c.A u.c.n u.c.c, .slice u.d.A u.d.n u.d.c]] w
      fun e w' => ∃ g, e = .returned (.pointer (some ⟨g, 0, none⟩)) ∧ w'.heap[g]? = some (.cells (srv v u) 77 (0, 0)) ∧ w.heap.size ≤ g ∧ Below w.heap.size w w' := by
  go_enter Try.func24, Try.ntmps24
  go_wp2_with fail
  go_ret
  refine ⟨_, rfl, ?_, by omega, (((Below.refl _ w).new _).new _).new _⟩
  show _ = some (Obj.cells (srv v u) 77 (0, 0))
  have h := heap_alloc_new ((w.alloc (.cells #[.slice v.a.A v.a.n v.a.c, .slice v.b.A v.b.n v.b.c, .slice v.c.A v.c.n v.c.c, .slice v.d.A v.d.n v.d.c] 24)).alloc (.cells #[.slice u.a.A u.a.n u.a.c, .slice u.b.A u.b.n u.b.c, .slice u.c.A u.c.n u.c.c, .slice u.d.A u.d.n u.d.c] 28)) (.cells (srv v u) 77)
  rw [show w.heap.size + 1 + 1 = ((w.alloc (.cells #[.slice v.a.A v.a.n v.a.c, .slice v.b.A v.b.n v.b.c, .slice v.c.A v.c.n v.c.c, .slice v.d.A v.d.n v.d.c] 24)).alloc (.cells #[.slice u.a.A u.a.n u.a.c, .slice u.b.A u.b.n u.b.c, .slice u.c.A u.c.n u.c.c, .slice u.d.A u.d.n u.d.c] 28)).heap.size from by simp]
  exact h
set_option maxHeartbeats 4000000 in
theorem target_any (f a m t : Nat) (Aw : Option Addr) (nw cw : Nat) (Ab : Option Addr) (nb cb : Nat) (W : List Nat) (B : List Bool) (ha : a < 65536) (ht : t < 65536) (w : World) :
    Calls Try.prog 49 #[.agg #[.int .u8 f, .int .u16 a, .int .u16 m, .int .u16 t, .slice Aw nw cw, .slice Ab nb cb]] w fun e w' => e = .returned (.int .i64 ((place ⟨f, a, m, t, W, B⟩ : Nat) : Int)) ∧ Below w.heap.size w w' := by
  have hP : place ⟨f, a, m, t, W, B⟩ = if f = 23 then t else a := rfl
  have wa : IntKind.i64.wrap (a : Int) = a := by rw [IntKind.wrap_i64]; omega
  have wt : IntKind.i64.wrap (t : Int) = t := by rw [IntKind.wrap_i64]; omega
  rw [hP]
  by_cases hf : f = 23
  · subst hf
    rw [if_pos rfl]
    clear hP
    go_enter Try.func49, Try.ntmps49
    go_wp2_with fail
    go_ret
    exact ⟨rfl, (Below.refl _ w).new _⟩
  · rw [if_neg hf]
    have hd : ((f : Int) == 23) = false := by rw [beq_eq_false_iff_ne]; omega
    clear hP
    go_enter Try.func49, Try.ntmps49
    go_wp2_with fail
    go_ret
    exact ⟨rfl, (Below.refl _ w).new _⟩
def useKeys : List Nat := [1, 2, 3, 4, 5, 6, 15, 16, 23]
/-- What a function uses of the server at g. -/
def useV (g : Nat) (j : Nat) : Value := match j with
  | 0 => .agg #[.pointer (some ⟨g, 0, none⟩), .pointer none, .pointer none, .pointer none]
  | 1 => .agg #[.pointer (some ⟨g, 2, none⟩), .pointer none, .pointer none, .pointer none]
  | 2 => .agg #[.pointer none, .pointer none, .pointer (some ⟨g, 4, none⟩), .pointer none]
  | 3 => .agg #[.pointer none, .pointer none, .pointer (some ⟨g, 6, none⟩), .pointer none]
  | 4 => .agg #[.pointer none, .pointer (some ⟨g, 0, none⟩), .pointer none, .pointer none]
  | 5 => .agg #[.pointer none, .pointer none, .pointer none, .pointer (some ⟨g, 4, none⟩)]
  | 6 => .agg #[.pointer none, .pointer (some ⟨g, 0, none⟩), .pointer none, .pointer none]
  | 7 => .agg #[.pointer none, .pointer none, .pointer none, .pointer (some ⟨g, 4, none⟩)]
  | 8 => .agg #[.pointer none, .pointer none, .pointer (some ⟨g, 4, none⟩), .pointer (some ⟨g, 4, none⟩)]
  | _ => .agg #[.pointer none, .pointer none, .pointer none, .pointer none]
def useK (j : Nat) : Int := match j with
  | 0 => 1
  | 1 => 2
  | 2 => 3
  | 3 => 4
  | 4 => 5
  | 5 => 6
  | 6 => 15
  | 7 => 16
  | 8 => 23
  | _ => 0
def uses (g f : Nat) : Value :=
  if f = 1 then .agg #[.pointer (some ⟨g, 0, none⟩), .pointer none, .pointer none, .pointer none] else if f = 2 then .agg #[.pointer (some ⟨g, 2, none⟩), .pointer none, .pointer none, .pointer none] else if f = 3 then .agg #[.pointer none, .pointer none, .pointer (some ⟨g, 4, none⟩), .pointer none] else if f = 4 then .agg #[.pointer none, .pointer none, .pointer (some ⟨g, 6, none⟩), .pointer none] else if f = 5 then .agg #[.pointer none, .pointer (some ⟨g, 0, none⟩), .pointer none, .pointer none] else if f = 6 then .agg #[.pointer none, .pointer none, .pointer none, .pointer (some ⟨g, 4, none⟩)] else if f = 15 then .agg #[.pointer none, .pointer (some ⟨g, 0, none⟩), .pointer none, .pointer none] else if f = 16 then .agg #[.pointer none, .pointer none, .pointer none, .pointer (some ⟨g, 4, none⟩)] else if f = 23 then .agg #[.pointer none, .pointer none, .pointer (some ⟨g, 4, none⟩), .pointer (some ⟨g, 4, none⟩)] else .agg #[.pointer none, .pointer none, .pointer none, .pointer none]
theorem useK_inj0 : ∀ i, i < 9 → ∀ j, j < 9 → useK i = useK j → i = j := by decide
theorem useK_inj : ∀ i j, i < 9 → j < 9 → useK i = useK j → i = j := fun i j hi hj h => useK_inj0 i hi j hj h
def usePos (j : Nat) : Nat := match j with
  | 0 => 5
  | 1 => 10
  | 2 => 15
  | 3 => 20
  | 4 => 25
  | 5 => 30
  | 6 => 35
  | 7 => 40
  | 8 => 48
  | _ => 0
theorem uses_entry (g f : Nat) (es : Array MapEntry) (h : Ents .u8 useK (useV g) 9 [] es.toList) : ∃ r, Instr.findNow (.int .u8) (.int .u8 f) es.toList 0 = some r ∧ (r.map (·.2)).getD (.agg #[.pointer none, .pointer none, .pointer none, .pointer none]) = uses g f := by
  by_cases hk : ∃ j, j < 9 ∧ useK j = (f : Int)
  · obtain ⟨j, hj, e⟩ := hk
    obtain ⟨i, hi⟩ := h.find useK_inj hj (by simp)
    rw [e] at hi
    refine ⟨_, hi, ?_⟩
    show useV g j = uses g f
    have hjs : j = 0 ∨ j = 1 ∨ j = 2 ∨ j = 3 ∨ j = 4 ∨ j = 5 ∨ j = 6 ∨ j = 7 ∨ j = 8 := by omega
    rcases hjs with rfl | rfl | rfl | rfl | rfl | rfl | rfl | rfl | rfl
    · obtain rfl : f = 1 := by have e2 : (1 : Int) = (f : Int) := e; omega
      rfl
    · obtain rfl : f = 2 := by have e2 : (2 : Int) = (f : Int) := e; omega
      rfl
    · obtain rfl : f = 3 := by have e2 : (3 : Int) = (f : Int) := e; omega
      rfl
    · obtain rfl : f = 4 := by have e2 : (4 : Int) = (f : Int) := e; omega
      rfl
    · obtain rfl : f = 5 := by have e2 : (5 : Int) = (f : Int) := e; omega
      rfl
    · obtain rfl : f = 6 := by have e2 : (6 : Int) = (f : Int) := e; omega
      rfl
    · obtain rfl : f = 15 := by have e2 : (15 : Int) = (f : Int) := e; omega
      rfl
    · obtain rfl : f = 16 := by have e2 : (16 : Int) = (f : Int) := e; omega
      rfl
    · obtain rfl : f = 23 := by have e2 : (23 : Int) = (f : Int) := e; omega
      rfl
  · refine ⟨none, h.absent fun j hj _ e => hk ⟨j, hj, e.symm⟩, ?_⟩
    have hn : ∀ j, j < 9 → useK j ≠ (f : Int) := fun j hj e => hk ⟨j, hj, e⟩
    unfold uses
    rw [if_neg (by have e2 : (1 : Int) ≠ (f : Int) := hn 0 (by omega); omega)]
    rw [if_neg (by have e2 : (2 : Int) ≠ (f : Int) := hn 1 (by omega); omega)]
    rw [if_neg (by have e2 : (3 : Int) ≠ (f : Int) := hn 2 (by omega); omega)]
    rw [if_neg (by have e2 : (4 : Int) ≠ (f : Int) := hn 3 (by omega); omega)]
    rw [if_neg (by have e2 : (5 : Int) ≠ (f : Int) := hn 4 (by omega); omega)]
    rw [if_neg (by have e2 : (6 : Int) ≠ (f : Int) := hn 5 (by omega); omega)]
    rw [if_neg (by have e2 : (15 : Int) ≠ (f : Int) := hn 6 (by omega); omega)]
    rw [if_neg (by have e2 : (16 : Int) ≠ (f : Int) := hn 7 (by omega); omega)]
    rw [if_neg (by have e2 : (23 : Int) ≠ (f : Int) := hn 8 (by omega); omega)]
    rfl
theorem zero_use (w : World) : (zeroValue 65).run Try.prog w = .ok (.agg #[.pointer none, .pointer none, .pointer none, .pointer none]) w := by kernel_rfl
theorem uses_cells (g f : Nat) : ∃ x0 x1 x2 x3 : Option Addr, uses g f = .agg #[.pointer x0, .pointer x1, .pointer x2, .pointer x3] := by
  unfold uses
  repeat' split
  all_goals exact ⟨_, _, _, _, rfl⟩
set_option maxRecDepth 20000 in
set_option maxHeartbeats 4000000 in
theorem usedBy_any (g f : Nat) (cs : Array Value) (w : World) (hg : w.heap[g]? = some (.cells cs 77 (0, 0))) :
    Calls Try.prog 25 #[.pointer (some ⟨g, 0, none⟩), .int .u8 f] w fun e w' => e = .returned (uses g f) ∧ Below w.heap.size w w' := by
  go_enter Try.func25, Try.ntmps25
  go_wp2_with fail
  refine wp_region_any (by kernel_rfl) ?_
  change wpAny _ _ _ _ _ _ _ (World.drew _)
  obtain ⟨W1, hW1⟩ : ∃ W1, W1 = (w.alloc (.cells #[.pointer none, .pointer none, .pointer none, .pointer none] 65)).drew := ⟨_, rfl⟩
  rw [← hW1]
  have hrow : W1.heap[w.heap.size]? = some (.cells #[.pointer none, .pointer none, .pointer none, .pointer none] 65 (0, 0)) := by rw [hW1]; exact heap_alloc_new w _
  have hszW : W1.heap.size = w.heap.size + 1 := by rw [hW1]; show (w.alloc _).heap.size = _; simp
  have hB : Below w.heap.size w W1 := by rw [hW1]; exact ((Below.refl _ w).new _).drew
  have hsz := Lib.hid hszW
  clear hW1 hszW
  refine wpAny_take (i := 1) (v := ?_) (by simp only [List.getElem?_toArray, List.getElem?_cons_succ, List.getElem?_cons_zero]; rfl) (by kernel_rfl) (by kernel_rfl) (by kernel_rfl) (by exact fun _ _ _ h => h) (Or.inl ⟨by kernel_rfl, ?_⟩) ?_
  rotate_left
  · intro w
    go_simp
    try with_reducible rfl
  simp only [Act.put, List.setIfInBounds_toArray, List.set_cons_zero, List.set_cons_succ]
  refine wpAny_take (i := 2) (v := ?_) (by simp only [List.getElem?_toArray, List.getElem?_cons_succ, List.getElem?_cons_zero]; rfl) (by kernel_rfl) (by kernel_rfl) (by kernel_rfl) (by exact fun _ _ _ h => h) (Or.inl ⟨by kernel_rfl, ?_⟩) ?_
  rotate_left
  · intro w
    go_simp
    try with_reducible rfl
  simp only [Act.put, List.setIfInBounds_toArray, List.set_cons_zero, List.set_cons_succ]
  refine wpAny_take (i := 3) (v := ?_) (by simp only [List.getElem?_toArray, List.getElem?_cons_succ, List.getElem?_cons_zero]; rfl) (by kernel_rfl) (by kernel_rfl) (by kernel_rfl) (by exact fun _ _ _ h => h) (Or.inl ⟨by kernel_rfl, ?_⟩) ?_
  rotate_left
  · intro w
    go_simp
    try with_reducible rfl
  simp only [Act.put, List.setIfInBounds_toArray, List.set_cons_zero, List.set_cons_succ]
  refine wpAny_take (i := 4) (v := ?_) (by simp only [List.getElem?_toArray, List.getElem?_cons_succ, List.getElem?_cons_zero]; rfl) (by kernel_rfl) (by kernel_rfl) (by kernel_rfl) (by exact fun _ _ _ h => h) (Or.inl ⟨by kernel_rfl, ?_⟩) ?_
  rotate_left
  · intro w
    go_simp
    try with_reducible rfl
  simp only [Act.put, List.setIfInBounds_toArray, List.set_cons_zero, List.set_cons_succ]
  refine wpAny_take (i := 6) (v := ?_) (by simp only [List.getElem?_toArray, List.getElem?_cons_succ, List.getElem?_cons_zero]; rfl) (by kernel_rfl) (by kernel_rfl) (by kernel_rfl) (by exact fun _ _ _ h => h) (Or.inl ⟨by kernel_rfl, ?_⟩) ?_
  rotate_left
  · intro w
    go_simp
    try with_reducible rfl
  simp only [Act.put, List.setIfInBounds_toArray, List.set_cons_zero, List.set_cons_succ]
  refine wpAny_take (i := 7) (v := ?_) (by simp only [List.getElem?_toArray, List.getElem?_cons_succ, List.getElem?_cons_zero]; rfl) (by kernel_rfl) (by kernel_rfl) (by kernel_rfl) (by exact fun _ _ _ h => h) (Or.inl ⟨by kernel_rfl, ?_⟩) ?_
  rotate_left
  · intro w
    go_simp
    try with_reducible rfl
  simp only [Act.put, List.setIfInBounds_toArray, List.set_cons_zero, List.set_cons_succ]
  refine wpAny_take (i := 8) (v := ?_) (by simp only [List.getElem?_toArray, List.getElem?_cons_succ, List.getElem?_cons_zero]; rfl) (by kernel_rfl) (by kernel_rfl) (by kernel_rfl) (by exact fun _ _ _ h => h) (Or.inl ⟨by kernel_rfl, ?_⟩) ?_
  rotate_left
  · intro w
    go_simp
    try with_reducible rfl
  simp only [Act.put, List.setIfInBounds_toArray, List.set_cons_zero, List.set_cons_succ]
  refine wpAny_take (i := 9) (v := ?_) (by simp only [List.getElem?_toArray, List.getElem?_cons_succ, List.getElem?_cons_zero]; rfl) (by kernel_rfl) (by kernel_rfl) (by kernel_rfl) (by exact fun _ _ _ h => h) (Or.inl ⟨by kernel_rfl, ?_⟩) ?_
  rotate_left
  · intro w
    go_simp
    try with_reducible rfl
  simp only [Act.put, List.setIfInBounds_toArray, List.set_cons_zero, List.set_cons_succ]
  refine wpAny_take (i := 11) (v := ?_) (by simp only [List.getElem?_toArray, List.getElem?_cons_succ, List.getElem?_cons_zero]; rfl) (by kernel_rfl) (by kernel_rfl) (by kernel_rfl) (by exact fun _ _ _ h => h) (Or.inl ⟨by kernel_rfl, ?_⟩) ?_
  rotate_left
  · intro w
    go_simp
    try with_reducible rfl
  simp only [Act.put, List.setIfInBounds_toArray, List.set_cons_zero, List.set_cons_succ]
  refine wpAny_take (i := 12) (v := ?_) (by simp only [List.getElem?_toArray, List.getElem?_cons_succ, List.getElem?_cons_zero]; rfl) (by kernel_rfl) (by kernel_rfl) (by kernel_rfl) (by exact fun _ _ _ h => h) (Or.inl ⟨by kernel_rfl, ?_⟩) ?_
  rotate_left
  · intro w
    go_simp
    try with_reducible rfl
  simp only [Act.put, List.setIfInBounds_toArray, List.set_cons_zero, List.set_cons_succ]
  refine wpAny_take (i := 13) (v := ?_) (by simp only [List.getElem?_toArray, List.getElem?_cons_succ, List.getElem?_cons_zero]; rfl) (by kernel_rfl) (by kernel_rfl) (by kernel_rfl) (by exact fun _ _ _ h => h) (Or.inl ⟨by kernel_rfl, ?_⟩) ?_
  rotate_left
  · intro w
    go_simp
    try with_reducible rfl
  simp only [Act.put, List.setIfInBounds_toArray, List.set_cons_zero, List.set_cons_succ]
  refine wpAny_take (i := 14) (v := ?_) (by simp only [List.getElem?_toArray, List.getElem?_cons_succ, List.getElem?_cons_zero]; rfl) (by kernel_rfl) (by kernel_rfl) (by kernel_rfl) (by exact fun _ _ _ h => h) (Or.inl ⟨by kernel_rfl, ?_⟩) ?_
  rotate_left
  · intro w
    go_simp
    try with_reducible rfl
  simp only [Act.put, List.setIfInBounds_toArray, List.set_cons_zero, List.set_cons_succ]
  refine wpAny_take (i := 16) (v := ?_) (by simp only [List.getElem?_toArray, List.getElem?_cons_succ, List.getElem?_cons_zero]; rfl) (by kernel_rfl) (by kernel_rfl) (by kernel_rfl) (by exact fun _ _ _ h => h) (Or.inl ⟨by kernel_rfl, ?_⟩) ?_
  rotate_left
  · intro w
    go_simp
    try with_reducible rfl
  simp only [Act.put, List.setIfInBounds_toArray, List.set_cons_zero, List.set_cons_succ]
  refine wpAny_take (i := 17) (v := ?_) (by simp only [List.getElem?_toArray, List.getElem?_cons_succ, List.getElem?_cons_zero]; rfl) (by kernel_rfl) (by kernel_rfl) (by kernel_rfl) (by exact fun _ _ _ h => h) (Or.inl ⟨by kernel_rfl, ?_⟩) ?_
  rotate_left
  · intro w
    go_simp
    try with_reducible rfl
  simp only [Act.put, List.setIfInBounds_toArray, List.set_cons_zero, List.set_cons_succ]
  refine wpAny_take (i := 18) (v := ?_) (by simp only [List.getElem?_toArray, List.getElem?_cons_succ, List.getElem?_cons_zero]; rfl) (by kernel_rfl) (by kernel_rfl) (by kernel_rfl) (by exact fun _ _ _ h => h) (Or.inl ⟨by kernel_rfl, ?_⟩) ?_
  rotate_left
  · intro w
    go_simp
    try with_reducible rfl
  simp only [Act.put, List.setIfInBounds_toArray, List.set_cons_zero, List.set_cons_succ]
  refine wpAny_take (i := 19) (v := ?_) (by simp only [List.getElem?_toArray, List.getElem?_cons_succ, List.getElem?_cons_zero]; rfl) (by kernel_rfl) (by kernel_rfl) (by kernel_rfl) (by exact fun _ _ _ h => h) (Or.inl ⟨by kernel_rfl, ?_⟩) ?_
  rotate_left
  · intro w
    go_simp
    try with_reducible rfl
  simp only [Act.put, List.setIfInBounds_toArray, List.set_cons_zero, List.set_cons_succ]
  refine wpAny_take (i := 21) (v := ?_) (by simp only [List.getElem?_toArray, List.getElem?_cons_succ, List.getElem?_cons_zero]; rfl) (by kernel_rfl) (by kernel_rfl) (by kernel_rfl) (by exact fun _ _ _ h => h) (Or.inl ⟨by kernel_rfl, ?_⟩) ?_
  rotate_left
  · intro w
    go_simp
    try with_reducible rfl
  simp only [Act.put, List.setIfInBounds_toArray, List.set_cons_zero, List.set_cons_succ]
  refine wpAny_take (i := 22) (v := ?_) (by simp only [List.getElem?_toArray, List.getElem?_cons_succ, List.getElem?_cons_zero]; rfl) (by kernel_rfl) (by kernel_rfl) (by kernel_rfl) (by exact fun _ _ _ h => h) (Or.inl ⟨by kernel_rfl, ?_⟩) ?_
  rotate_left
  · intro w
    go_simp
    try with_reducible rfl
  simp only [Act.put, List.setIfInBounds_toArray, List.set_cons_zero, List.set_cons_succ]
  refine wpAny_take (i := 23) (v := ?_) (by simp only [List.getElem?_toArray, List.getElem?_cons_succ, List.getElem?_cons_zero]; rfl) (by kernel_rfl) (by kernel_rfl) (by kernel_rfl) (by exact fun _ _ _ h => h) (Or.inl ⟨by kernel_rfl, ?_⟩) ?_
  rotate_left
  · intro w
    go_simp
    try with_reducible rfl
  simp only [Act.put, List.setIfInBounds_toArray, List.set_cons_zero, List.set_cons_succ]
  refine wpAny_take (i := 24) (v := ?_) (by simp only [List.getElem?_toArray, List.getElem?_cons_succ, List.getElem?_cons_zero]; rfl) (by kernel_rfl) (by kernel_rfl) (by kernel_rfl) (by exact fun _ _ _ h => h) (Or.inl ⟨by kernel_rfl, ?_⟩) ?_
  rotate_left
  · intro w
    go_simp
    try with_reducible rfl
  simp only [Act.put, List.setIfInBounds_toArray, List.set_cons_zero, List.set_cons_succ]
  refine wpAny_take (i := 26) (v := ?_) (by simp only [List.getElem?_toArray, List.getElem?_cons_succ, List.getElem?_cons_zero]; rfl) (by kernel_rfl) (by kernel_rfl) (by kernel_rfl) (by exact fun _ _ _ h => h) (Or.inl ⟨by kernel_rfl, ?_⟩) ?_
  rotate_left
  · intro w
    go_simp
    try with_reducible rfl
  simp only [Act.put, List.setIfInBounds_toArray, List.set_cons_zero, List.set_cons_succ]
  refine wpAny_take (i := 27) (v := ?_) (by simp only [List.getElem?_toArray, List.getElem?_cons_succ, List.getElem?_cons_zero]; rfl) (by kernel_rfl) (by kernel_rfl) (by kernel_rfl) (by exact fun _ _ _ h => h) (Or.inl ⟨by kernel_rfl, ?_⟩) ?_
  rotate_left
  · intro w
    go_simp
    try with_reducible rfl
  simp only [Act.put, List.setIfInBounds_toArray, List.set_cons_zero, List.set_cons_succ]
  refine wpAny_take (i := 28) (v := ?_) (by simp only [List.getElem?_toArray, List.getElem?_cons_succ, List.getElem?_cons_zero]; rfl) (by kernel_rfl) (by kernel_rfl) (by kernel_rfl) (by exact fun _ _ _ h => h) (Or.inl ⟨by kernel_rfl, ?_⟩) ?_
  rotate_left
  · intro w
    go_simp
    try with_reducible rfl
  simp only [Act.put, List.setIfInBounds_toArray, List.set_cons_zero, List.set_cons_succ]
  refine wpAny_take (i := 29) (v := ?_) (by simp only [List.getElem?_toArray, List.getElem?_cons_succ, List.getElem?_cons_zero]; rfl) (by kernel_rfl) (by kernel_rfl) (by kernel_rfl) (by exact fun _ _ _ h => h) (Or.inl ⟨by kernel_rfl, ?_⟩) ?_
  rotate_left
  · intro w
    go_simp
    try with_reducible rfl
  simp only [Act.put, List.setIfInBounds_toArray, List.set_cons_zero, List.set_cons_succ]
  refine wpAny_take (i := 31) (v := ?_) (by simp only [List.getElem?_toArray, List.getElem?_cons_succ, List.getElem?_cons_zero]; rfl) (by kernel_rfl) (by kernel_rfl) (by kernel_rfl) (by exact fun _ _ _ h => h) (Or.inl ⟨by kernel_rfl, ?_⟩) ?_
  rotate_left
  · intro w
    go_simp
    try with_reducible rfl
  simp only [Act.put, List.setIfInBounds_toArray, List.set_cons_zero, List.set_cons_succ]
  refine wpAny_take (i := 32) (v := ?_) (by simp only [List.getElem?_toArray, List.getElem?_cons_succ, List.getElem?_cons_zero]; rfl) (by kernel_rfl) (by kernel_rfl) (by kernel_rfl) (by exact fun _ _ _ h => h) (Or.inl ⟨by kernel_rfl, ?_⟩) ?_
  rotate_left
  · intro w
    go_simp
    try with_reducible rfl
  simp only [Act.put, List.setIfInBounds_toArray, List.set_cons_zero, List.set_cons_succ]
  refine wpAny_take (i := 33) (v := ?_) (by simp only [List.getElem?_toArray, List.getElem?_cons_succ, List.getElem?_cons_zero]; rfl) (by kernel_rfl) (by kernel_rfl) (by kernel_rfl) (by exact fun _ _ _ h => h) (Or.inl ⟨by kernel_rfl, ?_⟩) ?_
  rotate_left
  · intro w
    go_simp
    try with_reducible rfl
  simp only [Act.put, List.setIfInBounds_toArray, List.set_cons_zero, List.set_cons_succ]
  refine wpAny_take (i := 34) (v := ?_) (by simp only [List.getElem?_toArray, List.getElem?_cons_succ, List.getElem?_cons_zero]; rfl) (by kernel_rfl) (by kernel_rfl) (by kernel_rfl) (by exact fun _ _ _ h => h) (Or.inl ⟨by kernel_rfl, ?_⟩) ?_
  rotate_left
  · intro w
    go_simp
    try with_reducible rfl
  simp only [Act.put, List.setIfInBounds_toArray, List.set_cons_zero, List.set_cons_succ]
  refine wpAny_take (i := 36) (v := ?_) (by simp only [List.getElem?_toArray, List.getElem?_cons_succ, List.getElem?_cons_zero]; rfl) (by kernel_rfl) (by kernel_rfl) (by kernel_rfl) (by exact fun _ _ _ h => h) (Or.inl ⟨by kernel_rfl, ?_⟩) ?_
  rotate_left
  · intro w
    go_simp
    try with_reducible rfl
  simp only [Act.put, List.setIfInBounds_toArray, List.set_cons_zero, List.set_cons_succ]
  refine wpAny_take (i := 37) (v := ?_) (by simp only [List.getElem?_toArray, List.getElem?_cons_succ, List.getElem?_cons_zero]; rfl) (by kernel_rfl) (by kernel_rfl) (by kernel_rfl) (by exact fun _ _ _ h => h) (Or.inl ⟨by kernel_rfl, ?_⟩) ?_
  rotate_left
  · intro w
    go_simp
    try with_reducible rfl
  simp only [Act.put, List.setIfInBounds_toArray, List.set_cons_zero, List.set_cons_succ]
  refine wpAny_take (i := 38) (v := ?_) (by simp only [List.getElem?_toArray, List.getElem?_cons_succ, List.getElem?_cons_zero]; rfl) (by kernel_rfl) (by kernel_rfl) (by kernel_rfl) (by exact fun _ _ _ h => h) (Or.inl ⟨by kernel_rfl, ?_⟩) ?_
  rotate_left
  · intro w
    go_simp
    try with_reducible rfl
  simp only [Act.put, List.setIfInBounds_toArray, List.set_cons_zero, List.set_cons_succ]
  refine wpAny_take (i := 39) (v := ?_) (by simp only [List.getElem?_toArray, List.getElem?_cons_succ, List.getElem?_cons_zero]; rfl) (by kernel_rfl) (by kernel_rfl) (by kernel_rfl) (by exact fun _ _ _ h => h) (Or.inl ⟨by kernel_rfl, ?_⟩) ?_
  rotate_left
  · intro w
    go_simp
    try with_reducible rfl
  simp only [Act.put, List.setIfInBounds_toArray, List.set_cons_zero, List.set_cons_succ]
  refine wpAny_take (i := 41) (v := ?_) (by simp only [List.getElem?_toArray, List.getElem?_cons_succ, List.getElem?_cons_zero]; rfl) (by kernel_rfl) (by kernel_rfl) (by kernel_rfl) (by exact fun _ _ _ h => h) (Or.inl ⟨by kernel_rfl, ?_⟩) ?_
  rotate_left
  · intro w
    go_simp
    try with_reducible rfl
  simp only [Act.put, List.setIfInBounds_toArray, List.set_cons_zero, List.set_cons_succ]
  refine wpAny_take (i := 42) (v := ?_) (by simp only [List.getElem?_toArray, List.getElem?_cons_succ, List.getElem?_cons_zero]; rfl) (by kernel_rfl) (by kernel_rfl) (by kernel_rfl) (by exact fun _ _ _ h => h) (Or.inl ⟨by kernel_rfl, ?_⟩) ?_
  rotate_left
  · intro w
    go_simp
    try with_reducible rfl
  simp only [Act.put, List.setIfInBounds_toArray, List.set_cons_zero, List.set_cons_succ]
  refine wpAny_take (i := 43) (v := ?_) (by simp only [List.getElem?_toArray, List.getElem?_cons_succ, List.getElem?_cons_zero]; rfl) (by kernel_rfl) (by kernel_rfl) (by kernel_rfl) (by exact fun _ _ _ h => h) (Or.inl ⟨by kernel_rfl, ?_⟩) ?_
  rotate_left
  · intro w
    go_simp
    try with_reducible rfl
  simp only [Act.put, List.setIfInBounds_toArray, List.set_cons_zero, List.set_cons_succ]
  refine wpAny_take (i := 44) (v := ?_) (by simp only [List.getElem?_toArray, List.getElem?_cons_succ, List.getElem?_cons_zero]; rfl) (by kernel_rfl) (by kernel_rfl) (by kernel_rfl) (by exact fun _ _ _ h => h) (Or.inl ⟨by kernel_rfl, ?_⟩) ?_
  rotate_left
  · intro w
    go_simp
    try with_reducible rfl
  simp only [Act.put, List.setIfInBounds_toArray, List.set_cons_zero, List.set_cons_succ]
  refine wpAny_take (i := 45) (v := ?_) (by simp only [List.getElem?_toArray, List.getElem?_cons_succ, List.getElem?_cons_zero]; rfl) (by kernel_rfl) (by kernel_rfl) (by kernel_rfl) (by exact fun _ _ _ h => h) (Or.inl ⟨by kernel_rfl, ?_⟩) ?_
  rotate_left
  · intro w
    go_simp
    try with_reducible rfl
  simp only [Act.put, List.setIfInBounds_toArray, List.set_cons_zero, List.set_cons_succ]
  refine wpAny_take (i := 46) (v := ?_) (by simp only [List.getElem?_toArray, List.getElem?_cons_succ, List.getElem?_cons_zero]; rfl) (by kernel_rfl) (by kernel_rfl) (by kernel_rfl) (by exact fun _ _ _ h => h) (Or.inl ⟨by kernel_rfl, ?_⟩) ?_
  rotate_left
  · intro w
    go_simp
    try with_reducible rfl
  simp only [Act.put, List.setIfInBounds_toArray, List.set_cons_zero, List.set_cons_succ]
  refine wpAny_take (i := 47) (v := ?_) (by simp only [List.getElem?_toArray, List.getElem?_cons_succ, List.getElem?_cons_zero]; rfl) (by kernel_rfl) (by kernel_rfl) (by kernel_rfl) (by exact fun _ _ _ h => h) (Or.inl ⟨by kernel_rfl, ?_⟩) ?_
  rotate_left
  · intro w
    go_simp
    try with_reducible rfl
  simp only [Act.put, List.setIfInBounds_toArray, List.set_cons_zero, List.set_cons_succ]
  refine wpAny_ready (rs := [0]) (by kernel_rfl) (by simp) ?_
  refine AllReady.cons (by simp only [List.getElem?_toArray, List.getElem?_cons_succ, List.getElem?_cons_zero]; rfl) (fun K hK => ?_) AllReady.nil
  go_simp
  refine hK _ _ ?_
  clear hK K
  try simp only [Act.put, List.setIfInBounds_toArray, List.set_cons_zero, List.set_cons_succ]
  change wpAny _ _ _ _ (2 + 9) (litArr 51 9 usePos [49, 50] (fun i => !(List.range 9).contains i)) _ (W1.alloc (.map #[] 0))
  refine wpAny_mapLit (n := 9) (q := .u8) (K := useK) (V := useV g) (w := W1.alloc (.map #[] 0)) (b := W1.heap.size) usePos [49, 50] 51 2 rfl (by kernel_rfl) Try.underlying98 Try.underlying5 useK_inj ?hop (heap_alloc_new W1 _) ?hfin
  case hop =>
    intro j hj
    have hjs : j = 0 ∨ j = 1 ∨ j = 2 ∨ j = 3 ∨ j = 4 ∨ j = 5 ∨ j = 6 ∨ j = 7 ∨ j = 8 := by omega
    rcases hjs with rfl | rfl | rfl | rfl | rfl | rfl | rfl | rfl | rfl <;> exact ⟨_, _, _, _, (by simp only [usePos]; simp only [List.getElem?_toArray, List.getElem?_cons_succ, List.getElem?_cons_zero]; rfl), rfl, rfl, rfl, rfl, rfl, rfl⟩
  case hfin =>
    intro w2 es clock h1 h2 h3
    obtain ⟨r, hr1, hr2⟩ := uses_entry g f es h2
    have HR := Lib.hid (And.intro hr1 hr2)
    obtain ⟨x0, x1, x2, x3, hx⟩ := uses_cells g f
    have hb2 : Below w.heap.size w w2 := (hB.new _).grown h3 (by have := (hB.new (.map #[] 0)).size; exact this) (fun k e => by injection e with e; have := hsz.out; omega)
    have hrow2 : w2.heap[w.heap.size]? = some (.cells #[.pointer none, .pointer none, .pointer none, .pointer none] 65 (0, 0)) := h3.row (by have := hsz.out; omega) (row_alloc hrow _)
    clear hr1 hr2 h2 h3 hB hrow
    rw [hx] at HR
    have HX := Lib.hid hx
    clear hx
    refine wpAny_take (i := 49) (v := ?_) (by simp only [List.getElem?_toArray, List.getElem?_cons_succ, List.getElem?_cons_zero]; rfl) (by kernel_rfl) (by kernel_rfl) (by kernel_rfl) (by exact fun _ _ _ h => h) (Or.inl ⟨by kernel_rfl, ?_⟩) ?_
    rotate_left
    · intro w
      go_simp
      try with_reducible rfl
    simp only [Act.put, List.setIfInBounds_toArray, List.set_cons_zero, List.set_cons_succ]
    refine wpAny_take (i := 50) (v := ?_) (by simp only [List.getElem?_toArray, List.getElem?_cons_succ, List.getElem?_cons_zero]; rfl) (by kernel_rfl) (by kernel_rfl) (by kernel_rfl) (by exact fun _ _ _ h => h) (Or.inl ⟨by kernel_rfl, ?_⟩) ?_
    rotate_left
    · intro w
      go_simp
      try with_reducible rfl
    simp only [Act.put, List.setIfInBounds_toArray, List.set_cons_zero, List.set_cons_succ]
    refine wpAny_done (by kernel_rfl) ?_ _
    go_wp2_with (first
      | (refine wpList_lookup_val rfl (.tmp 47) (.tmp 48) rfl Try.underlying98 Try.underlying5 rfl h1 _ rfl HR.out.1 (zero_use _) HR.out.2 ?_)
      | (refine wpList_store_row rfl 65 (.tmp 4) _ rfl w.heap.size #[.pointer x0, .pointer x1, .pointer x2, .pointer x3] rfl rfl 65 _ hrow2 (by kernel_rfl) rfl (by simp [Value.oneCell']) ?_)
      | fail)
    refine bodyPost_row rfl w.heap.size 65 #[.pointer x0, .pointer x1, .pointer x2, .pointer x3] (0, 0) _ rfl (setRow_heap _ _ _ _ _ _ hrow2) Try.underlying65 rfl (by kernel_rfl) rfl ?_
    exact ⟨by rw [HX.out], below_setRow hb2 (Nat.le_refl _) _⟩
end Go.Proofs.Ytiibopdnlmnkmaa.MoW
/- The walks of model: possible, Check. -/
set_option linter.unusedVariables false
set_option linter.unusedSimpArgs false
namespace Go.Proofs.Ytiibopdnlmnkmaa.MoW
open Go.RowKit Go.Proofs.Ytiibopdnlmnkmaa Go.Proofs.Ytiibopdnlmnkmaa.Mo Go.Proofs.Ytiibopdnlmnkmaa.Ask Go.Proofs.Ytiibopdnlmnkmaa.AskW
theorem keep46 {X w' : World} {g1 g2 : Nat} {t1 t2 : TypeId} {u0 u1 u2 u3 v0 v1 v2 v3 v4 v5 : Value} (b : Below X.heap.size X w') (r1 : X.heap[g1]? = some (.cells #[u0, u1, u2, u3] t1 (0, 0))) (r2 : X.heap[g2]? = some (.cells #[v0, v1, v2, v3, v4, v5] t2 (0, 0))) :
    Below X.heap.size X w' ∧ w'.cell? ⟨g1, 0, none⟩ = some u0 ∧ w'.cell? ⟨g1, 1, none⟩ = some u1 ∧ w'.cell? ⟨g1, 2, none⟩ = some u2 ∧ w'.cell? ⟨g1, 3, none⟩ = some u3 ∧
      w'.cell? ⟨g2, 0, none⟩ = some v0 ∧ w'.cell? ⟨g2, 1, none⟩ = some v1 ∧ w'.cell? ⟨g2, 2, none⟩ = some v2 ∧ w'.cell? ⟨g2, 3, none⟩ = some v3 ∧ w'.cell? ⟨g2, 4, none⟩ = some v4 ∧ w'.cell? ⟨g2, 5, none⟩ = some v5 := by
  obtain ⟨h0, h1, h2, h3⟩ := row4 (b.row (row_lt r1) r1)
  obtain ⟨k0, k1, k2, k3, k4, k5⟩ := row6 (b.row (row_lt r2) r2)
  exact ⟨b, h0, h1, h2, h3, k0, k1, k2, k3, k4, k5⟩
theorem Bx.to {w X Y : World} {P Q : Obj} (h : Bx w X P Q) (b : Below X.heap.size X Y) : Bx w Y P Q := h.call b
set_option maxHeartbeats 4000000 in
theorem possible_any (x0 x1 x2 x3 : Option Addr) (b0 b1 b2 b3 : Bool) (f a m t : Nat) (Aw : Option Addr) (nw cw : Nat) (Ab : Option Addr) (nb cb : Nat) (W : List Nat) (B : List Bool) (w : World) (ha : a < 65536) (hm : m < 65536) (ht : t < 65536)
    (K0 : ∀ X, Below w.heap.size w X → Calls Try.prog 53 #[.pointer x0, .int .i64 a, .int .i64 m] X fun e w' => e = .returned (.bool b0) ∧ Below X.heap.size X w')
    (K1 : ∀ X, Below w.heap.size w X → Calls Try.prog 54 #[.pointer x2, .int .i64 a, .int .i64 m] X fun e w' => e = .returned (.bool b1) ∧ Below X.heap.size X w')
    (K2 : ∀ X, Below w.heap.size w X → Calls Try.prog 55 #[.pointer x1, .int .i64 ((place ⟨f, a, m, t, W, B⟩ : Nat) : Int), .int .i64 nb] X fun e w' => e = .returned (.bool b2) ∧ Below X.heap.size X w')
    (K3 : ∀ X, Below w.heap.size w X → Calls Try.prog 56 #[.pointer x3, .int .i64 ((place ⟨f, a, m, t, W, B⟩ : Nat) : Int), .int .i64 nw] X fun e w' => e = .returned (.bool b3) ∧ Below X.heap.size X w') :
    Calls Try.prog 29 #[.agg #[.pointer x0, .pointer x1, .pointer x2, .pointer x3], .agg #[.int .u8 f, .int .u16 a, .int .u16 m, .int .u16 t, .slice Aw nw cw, .slice Ab nb cb]] w fun e w' => e = .returned (.bool (b0 && (b1 && (b2 && b3)))) ∧ Below w.heap.size w w' := by
  have wa : IntKind.i64.wrap (a : Int) = a := by rw [IntKind.wrap_i64]; omega
  have wm : IntKind.i64.wrap (m : Int) = m := by rw [IntKind.wrap_i64]; omega
  have KT0 := fun X => target_any f a m t Aw nw cw Ab nb cb W B ha ht X
  obtain ⟨T, hT⟩ : ∃ T, T = place ⟨f, a, m, t, W, B⟩ := ⟨_, rfl⟩
  rw [← hT] at K2 K3 KT0
  have KT := Lib.hid KT0
  have L0 := Lib.hid K0
  have L1 := Lib.hid K1
  have L2 := Lib.hid K2
  have L3 := Lib.hid K3
  obtain ⟨W0, hW0⟩ : ∃ W0, W0 = (w.alloc (.cells #[.pointer x0, .pointer x1, .pointer x2, .pointer x3] 65)).alloc (.cells #[.int .u8 f, .int .u16 a, .int .u16 m, .int .u16 t, .slice Aw nw cw, .slice Ab nb cb] 31) := ⟨_, rfl⟩
  have B0 : Bx w W0 (.cells #[.pointer x0, .pointer x1, .pointer x2, .pointer x3] 65 (0, 0)) (.cells #[.int .u8 f, .int .u16 a, .int .u16 m, .int .u16 t, .slice Aw nw cw, .slice Ab nb cb] 31 (0, 0)) := by
    rw [hW0]; exact Bx.first (Below.refl _ _)
  have HW0 := Lib.hid hW0
  have ra := Lib.hid B0.x
  have ro := Lib.hid B0.y
  clear KT0 K0 K1 K2 K3 hT hW0 ha hm ht
  go_enter Try.func29, Try.ntmps29
  go_upto_region 1 with fail
  rw [← HW0.out]
  go_cut [5, 6, 7] from 8 to 15 (fun s5 s6 s7 wx => s5 = .int .i64 a ∧ s6 = .int .i64 m ∧ s7 = .int .i64 T ∧ Below W0.heap.size W0 wx)
  case first =>
    have hbd := (Below.refl W0.heap.size W0).drew
    go_region_held3 (fun w' => Below W0.heap.size W0 w' ∧ w'.cell? ⟨w.heap.size, 0, none⟩ = some (.pointer x0) ∧ w'.cell? ⟨w.heap.size, 1, none⟩ = some (.pointer x1) ∧ w'.cell? ⟨w.heap.size, 2, none⟩ = some (.pointer x2) ∧ w'.cell? ⟨w.heap.size, 3, none⟩ = some (.pointer x3) ∧ w'.cell? ⟨w.heap.size + 1, 0, none⟩ = some (.int .u8 f) ∧ w'.cell? ⟨w.heap.size + 1, 1, none⟩ = some (.int .u16 a) ∧ w'.cell? ⟨w.heap.size + 1, 2, none⟩ = some (.int .u16 m) ∧ w'.cell? ⟨w.heap.size + 1, 3, none⟩ = some (.int .u16 t) ∧ w'.cell? ⟨w.heap.size + 1, 4, none⟩ = some (.slice Aw nw cw) ∧ w'.cell? ⟨w.heap.size + 1, 5, none⟩ = some (.slice Ab nb cb))
      (exact keep46 hbd ra.out ro.out)
      (first
        | (go_at_call 49; refine (KT.out _).mono ?_; rintro e wt ⟨rfl, bt⟩; have hbd := hbd.call bt)
        | fail)
    all_goals (go_wp2_with fail; go_meet; exact ⟨rfl, rfl, rfl, hbd⟩)
  case rest =>
    obtain ⟨rfl, rfl, rfl, hbd⟩ := hcut
    have B1 := B0.to hbd
    clear hbd
    obtain ⟨c0, c1, c2, c3⟩ := row4 B1.x
    obtain ⟨e0, e1, e2, e3, e4, e5⟩ := row6 B1.y
    cases b0 <;> cases b1 <;> cases b2 <;> (
      go_wp2_with (first
        | (go_at_call 53; refine (L0.out _ B1.bel).mono ?_; rintro e w1 ⟨rfl, bt⟩; have B1 := B1.to bt; clear bt c0 c1 c2 c3 e0 e1 e2 e3 e4 e5; obtain ⟨c0, c1, c2, c3⟩ := row4 B1.x; obtain ⟨e0, e1, e2, e3, e4, e5⟩ := row6 B1.y)
        | (go_at_call 54; refine (L1.out _ B1.bel).mono ?_; rintro e w1 ⟨rfl, bt⟩; have B1 := B1.to bt; clear bt c0 c1 c2 c3 e0 e1 e2 e3 e4 e5; obtain ⟨c0, c1, c2, c3⟩ := row4 B1.x; obtain ⟨e0, e1, e2, e3, e4, e5⟩ := row6 B1.y)
        | (go_at_call 55; refine (L2.out _ B1.bel).mono ?_; rintro e w1 ⟨rfl, bt⟩; have B1 := B1.to bt; clear bt c0 c1 c2 c3 e0 e1 e2 e3 e4 e5; obtain ⟨c0, c1, c2, c3⟩ := row4 B1.x; obtain ⟨e0, e1, e2, e3, e4, e5⟩ := row6 B1.y)
        | (go_at_call 56; refine (L3.out _ B1.bel).mono ?_; rintro e w1 ⟨rfl, bt⟩; have B1 := B1.to bt; clear bt c0 c1 c2 c3 e0 e1 e2 e3 e4 e5; obtain ⟨c0, c1, c2, c3⟩ := row4 B1.x; obtain ⟨e0, e1, e2, e3, e4, e5⟩ := row6 B1.y)
        | fail)
      go_ret
      exact ⟨rfl, B1.bel⟩)
end Go.Proofs.Ytiibopdnlmnkmaa.MoW
/- What a function uses of a server's tables; the walks of model's Check and Right. Written by gen_mowe.py. -/
set_option linter.unusedVariables false
set_option linter.unusedSimpArgs false
namespace Go.Proofs.Ytiibopdnlmnkmaa.MoW
open Go.RowKit Go.Proofs.Ytiibopdnlmnkmaa Go.Proofs.Ytiibopdnlmnkmaa.Mo Go.Proofs.Ytiibopdnlmnkmaa.Ask Go.Proofs.Ytiibopdnlmnkmaa.AskW
theorem srv_cell {X : World} {g : Nat} {v u : Sp} (h : X.heap[g]? = some (.cells (srv v u) 77 (0, 0))) (k : Nat) : X.cell? ⟨g, k, none⟩ = (srv v u)[k]? := cell_of_row X g k _ _ _ h
/-- What a right request uses of a server, and what may be done of it. -/
def UseOk (v u : Sp) (s : Space) (f a m t nw nb : Nat) (W : List Nat) (B : List Bool) (g : Nat) : Prop := ∃ (x0 x1 x2 x3 : Option Addr) (b0 b1 b2 b3 : Bool), uses g f = .agg #[.pointer x0, .pointer x1, .pointer x2, .pointer x3] ∧ (b0 && (b1 && (b2 && b3))) = allowed s ⟨f, a, m, t, W, B⟩ ∧
  ∀ X : World, X.heap[g]? = some (.cells (srv v u) 77 (0, 0)) → SpOk X v s →
    (Calls Try.prog 53 #[.pointer x0, .int .i64 a, .int .i64 m] X fun e w' => e = .returned (.bool b0) ∧ Below X.heap.size X w') ∧
    (Calls Try.prog 54 #[.pointer x2, .int .i64 a, .int .i64 m] X fun e w' => e = .returned (.bool b1) ∧ Below X.heap.size X w') ∧
    (Calls Try.prog 55 #[.pointer x1, .int .i64 ((place ⟨f, a, m, t, W, B⟩ : Nat) : Int), .int .i64 nb] X fun e w' => e = .returned (.bool b2) ∧ Below X.heap.size X w') ∧
    (Calls Try.prog 56 #[.pointer x3, .int .i64 ((place ⟨f, a, m, t, W, B⟩ : Nat) : Int), .int .i64 nw] X fun e w' => e = .returned (.bool b3) ∧ Below X.heap.size X w')
theorem use_parts (v u : Sp) (s : Space) (f a m t nw nb : Nat) (W : List Nat) (B : List Bool) (g : Nat) (ho : s.Ok) (hv : v.Small) (hW : W.length = nw) (hB : B.length = nb) (ha : a < 65536) (hm : m < 65536) (ht : t < 65536) (kW : nw ≤ 100000) (kB : nb ≤ 100000)
    (hf : f = 1 ∨ f = 2 ∨ f = 3 ∨ f = 4 ∨ f = 5 ∨ f = 6 ∨ f = 15 ∨ f = 16 ∨ f = 23) : UseOk v u s f a m t nw nb W B g := by
  have h1 := hv.a
  have h2 := hv.b
  have h3 := hv.c
  have h4 := hv.d
  subst hW hB
  rcases hf with rfl | rfl | rfl | rfl | rfl | rfl | rfl | rfl | rfl
  · refine ⟨(some ⟨g, 0, none⟩), none, none, none, (readsOk s.coils a m), true, true, true, rfl, by simp [allowed], fun X hr hs => ⟨?_, ?_, ?_, ?_⟩⟩
    · exact readableB_any g 0 v.a.A v.a.n v.a.c s.coils a m X (srv_cell hr 0) (row_lt hr) hs.coils ho.coils (by omega) (by omega) (by omega)
    · exact readableW_nil _ _ X
    · exact writableB_nil _ _ X
    · exact writableW_nil _ _ X
  · refine ⟨(some ⟨g, 2, none⟩), none, none, none, (readsOk s.inputs a m), true, true, true, rfl, by simp [allowed], fun X hr hs => ⟨?_, ?_, ?_, ?_⟩⟩
    · exact readableB_any g 2 v.b.A v.b.n v.b.c s.inputs a m X (srv_cell hr 2) (row_lt hr) hs.inputs ho.inputs (by omega) (by omega) (by omega)
    · exact readableW_nil _ _ X
    · exact writableB_nil _ _ X
    · exact writableW_nil _ _ X
  · refine ⟨none, none, (some ⟨g, 4, none⟩), none, true, (readsOk s.holding a m), true, true, rfl, by simp [allowed], fun X hr hs => ⟨?_, ?_, ?_, ?_⟩⟩
    · exact readableB_nil _ _ X
    · exact readableW_any g 4 v.c.A v.c.n v.c.c s.holding a m X (srv_cell hr 4) (row_lt hr) hs.holding ho.holding (by omega) (by omega) (by omega)
    · exact writableB_nil _ _ X
    · exact writableW_nil _ _ X
  · refine ⟨none, none, (some ⟨g, 6, none⟩), none, true, (readsOk s.words a m), true, true, rfl, by simp [allowed], fun X hr hs => ⟨?_, ?_, ?_, ?_⟩⟩
    · exact readableB_nil _ _ X
    · exact readableW_any g 6 v.d.A v.d.n v.d.c s.words a m X (srv_cell hr 6) (row_lt hr) hs.words ho.words (by omega) (by omega) (by omega)
    · exact writableB_nil _ _ X
    · exact writableW_nil _ _ X
  · refine ⟨none, (some ⟨g, 0, none⟩), none, none, true, true, (writesOk s.coils a B.length), true, rfl, by simp [allowed], fun X hr hs => ⟨?_, ?_, ?_, ?_⟩⟩
    · exact readableB_nil _ _ X
    · exact readableW_nil _ _ X
    · exact writableB_any g 0 v.a.A v.a.n v.a.c s.coils a B.length X (srv_cell hr 0) (row_lt hr) hs.coils ho.coils (by omega) (by omega) (by omega)
    · exact writableW_nil _ _ X
  · refine ⟨none, none, none, (some ⟨g, 4, none⟩), true, true, true, (writesOk s.holding a W.length), rfl, by simp [allowed], fun X hr hs => ⟨?_, ?_, ?_, ?_⟩⟩
    · exact readableB_nil _ _ X
    · exact readableW_nil _ _ X
    · exact writableB_nil _ _ X
    · exact writableW_any g 4 v.c.A v.c.n v.c.c s.holding a W.length X (srv_cell hr 4) (row_lt hr) hs.holding ho.holding (by omega) (by omega) (by omega)
  · refine ⟨none, (some ⟨g, 0, none⟩), none, none, true, true, (writesOk s.coils a B.length), true, rfl, by simp [allowed], fun X hr hs => ⟨?_, ?_, ?_, ?_⟩⟩
    · exact readableB_nil _ _ X
    · exact readableW_nil _ _ X
    · exact writableB_any g 0 v.a.A v.a.n v.a.c s.coils a B.length X (srv_cell hr 0) (row_lt hr) hs.coils ho.coils (by omega) (by omega) (by omega)
    · exact writableW_nil _ _ X
  · refine ⟨none, none, none, (some ⟨g, 4, none⟩), true, true, true, (writesOk s.holding a W.length), rfl, by simp [allowed], fun X hr hs => ⟨?_, ?_, ?_, ?_⟩⟩
    · exact readableB_nil _ _ X
    · exact readableW_nil _ _ X
    · exact writableB_nil _ _ X
    · exact writableW_any g 4 v.c.A v.c.n v.c.c s.holding a W.length X (srv_cell hr 4) (row_lt hr) hs.holding ho.holding (by omega) (by omega) (by omega)
  · refine ⟨none, none, (some ⟨g, 4, none⟩), (some ⟨g, 4, none⟩), true, (readsOk s.holding a m), true, (writesOk s.holding t W.length), rfl, by simp [allowed], fun X hr hs => ⟨?_, ?_, ?_, ?_⟩⟩
    · exact readableB_nil _ _ X
    · exact readableW_any g 4 v.c.A v.c.n v.c.c s.holding a m X (srv_cell hr 4) (row_lt hr) hs.holding ho.holding (by omega) (by omega) (by omega)
    · exact writableB_nil _ _ X
    · exact writableW_any g 4 v.c.A v.c.n v.c.c s.holding t W.length X (srv_cell hr 4) (row_lt hr) hs.holding ho.holding (by omega) (by omega) (by omega)
set_option maxHeartbeats 4000000 in
theorem modCheck_any (v : Sp) (s : Space) (f a m t : Nat) (Aw : Option Addr) (nw cw : Nat) (Ab : Option Addr) (nb cb : Nat) (W : List Nat) (B : List Bool) (w : World) (hS : SpOk w v s) (ho : s.Ok) (hv : v.Small)
    (hW : Sl w w.heap.size Aw nw (ws W)) (hB : Sl w w.heap.size Ab nb (bl B)) (hwf : Req.Wf ⟨f, a, m, t, W, B⟩) (kW : nw ≤ 100000) (kB : nb ≤ 100000) :
    Calls Try.prog 12 #[.agg #[.slice v.a.A v.a.n v.a.c, .slice v.b.A v.b.n v.b.c, .slice v.c.A v.c.n v.c.c, .slice v.d.A v.d.n v.d.c], .agg #[.int .u8 f, .int .u16 a, .int .u16 m, .int .u16 t, .slice Aw nw cw, .slice Ab nb cb]] w fun e w' => e = .returned (.int .u8 ((checkM s ⟨f, a, m, t, W, B⟩ : Nat) : Int)) ∧ Below w.heap.size w w' := by
  have hf := hwf.f
  have ha := hwf.at'
  have hm := hwf.many
  have ht := hwf.to
  simp only at hf ha hm ht
  have lW : W.length = nw := by simpa using hW.len
  have lB : B.length = nb := by simpa using hB.len
  have KR0 := fun X => right_any f a m t Aw nw cw Ab nb cb W B lW lB hm X
  have hRF := fun h : right ⟨f, a, m, t, W, B⟩ = true => right_fld h
  have KU0 := fun (h : right ⟨f, a, m, t, W, B⟩ = true) (g : Nat) => use_parts v ⟨⟨none, 0, 0⟩, ⟨none, 0, 0⟩, ⟨none, 0, 0⟩, ⟨none, 0, 0⟩⟩ s f a m t nw nb W B g ho hv lW lB ha hm ht kW kB (right_fld h)
  have hE : checkM s ⟨f, a, m, t, W, B⟩ = if right ⟨f, a, m, t, W, B⟩ then (if allowed s ⟨f, a, m, t, W, B⟩ then 0 else 2) else 3 := rfl
  have KP := Lib.hid (fun (x0 x1 x2 x3 : Option Addr) (b0 b1 b2 b3 : Bool) (X : World) k0 k1 k2 k3 => possible_any x0 x1 x2 x3 b0 b1 b2 b3 f a m t Aw nw cw Ab nb cb W B X ha hm ht k0 k1 k2 k3)
  have HS := Lib.hid hS
  rw [hE]
  clear hE
  obtain ⟨Q, hQ⟩ : ∃ Q, Q = right ⟨f, a, m, t, W, B⟩ := ⟨_, rfl⟩
  rw [← hQ] at KR0 KU0 ⊢
  have KR := Lib.hid KR0
  clear KR0 hQ hwf hRF hS hW hB lW lB ho hv
  cases Q
  case false =>
    clear KU0 KP
    go_enter Try.func12, Try.ntmps12
    go_wp2_with fail
    refine (KR.out _).mono ?_
    rintro e w1 ⟨rfl, b1⟩
    have B1 := Bx.first b1
    clear b1
    go_wp2_with fail
    go_ret
    exact ⟨rfl, B1.bel⟩
  case true =>
    have KU := Lib.hid (KU0 rfl)
    clear KU0
    obtain ⟨R, hR⟩ : ∃ R, R = allowed s ⟨f, a, m, t, W, B⟩ := ⟨_, rfl⟩
    have HR := Lib.hid hR
    rw [← hR]
    clear hR
    go_enter Try.func12, Try.ntmps12
    go_wp2_with fail
    refine (KR.out _).mono ?_
    rintro e w1 ⟨rfl, b1⟩
    have B1 := Bx.first b1
    have ra := Lib.hid B1.x
    have ro := Lib.hid B1.y
    clear b1
    obtain ⟨c0, c1, c2, c3⟩ := row4 B1.x
    obtain ⟨e0, e1, e2, e3, e4, e5⟩ := row6 B1.y
    go_upto_region 3 with fail
    clear c0 c1 c2 c3 e0 e1 e2 e3 e4 e5
    go_cut [16] from 8 to 16 (fun s16 wx => s16 = .bool (!R) ∧ Below w1.heap.size w1 wx)
    case first =>
      have hbd := (Below.refl w1.heap.size w1).drew
      go_region_held3 (fun w' => Below w1.heap.size w1 w' ∧ w'.cell? ⟨w.heap.size, 0, none⟩ = some (.slice v.a.A v.a.n v.a.c) ∧ w'.cell? ⟨w.heap.size, 1, none⟩ = some (.slice v.b.A v.b.n v.b.c) ∧ w'.cell? ⟨w.heap.size, 2, none⟩ = some (.slice v.c.A v.c.n v.c.c) ∧ w'.cell? ⟨w.heap.size, 3, none⟩ = some (.slice v.d.A v.d.n v.d.c) ∧ w'.cell? ⟨w.heap.size + 1, 0, none⟩ = some (.int .u8 f) ∧ w'.cell? ⟨w.heap.size + 1, 1, none⟩ = some (.int .u16 a) ∧ w'.cell? ⟨w.heap.size + 1, 2, none⟩ = some (.int .u16 m) ∧ w'.cell? ⟨w.heap.size + 1, 3, none⟩ = some (.int .u16 t) ∧ w'.cell? ⟨w.heap.size + 1, 4, none⟩ = some (.slice Aw nw cw) ∧ w'.cell? ⟨w.heap.size + 1, 5, none⟩ = some (.slice Ab nb cb))
        (exact keep46 hbd ra.out ro.out)
        (first
          | (go_at_call 24; refine (join_any v ⟨⟨none, 0, 0⟩, ⟨none, 0, 0⟩, ⟨none, 0, 0⟩, ⟨none, 0, 0⟩⟩ _).mono ?_; rintro e wt ⟨g, rfl, hrow, -, bt⟩; have hbd := hbd.call bt; clear bt)
          | (go_at_call 25; refine (usedBy_any g f _ _ hrow).mono ?_; obtain ⟨x0, x1, x2, x3, q0, q1, q2, q3, hu, hq, hk⟩ := KU.out g; rw [hu]; rintro e wt ⟨rfl, bt⟩; have hrow := Lib.hid (bt.row (row_lt hrow) hrow); have hq := Lib.hid hq; have hk := Lib.hid hk; have hbd := hbd.call bt; clear bt hu)
          | (go_at_call 29; refine (KP.out x0 x1 x2 x3 q0 q1 q2 q3 _ (fun X b => (hk.out X (b.row (row_lt hrow.out) hrow.out) (HS.out.to ((B1.bel.call hbd).call b))).1) (fun X b => (hk.out X (b.row (row_lt hrow.out) hrow.out) (HS.out.to ((B1.bel.call hbd).call b))).2.1) (fun X b => (hk.out X (b.row (row_lt hrow.out) hrow.out) (HS.out.to ((B1.bel.call hbd).call b))).2.2.1) (fun X b => (hk.out X (b.row (row_lt hrow.out) hrow.out) (HS.out.to ((B1.bel.call hbd).call b))).2.2.2)).mono ?_; rw [hq.out, ← HR.out]; rintro e wt ⟨rfl, bt⟩; have hbd := hbd.call bt; clear bt)
          | fail)
      all_goals (go_wp2_with fail; go_meet; exact ⟨rfl, hbd⟩)
    case rest =>
      obtain ⟨rfl, hbd⟩ := hcut
      have hb := B1.bel.call hbd
      cases R <;> (
        go_wp2_with fail
        go_ret
        exact ⟨rfl, hb⟩)
set_option maxHeartbeats 4000000 in
theorem modRight_any (v u : Sp) (s : Space) (M : Mem) (w : World) (hS : SpOk w v s) (hM : MmOk w u M) (ho : s.Ok) (hv : v.Small) (hu : u.Small) :
    Calls Try.prog 14 #[.agg #[.slice v.a.A v.a.n v.a.c, .slice v.b.A v.b.n v.b.c, .slice v.c.A v.c.n v.c.c, .slice v.d.A v.d.n v.d.c], .agg #[.slice u.a.A u.a.n u.a.c, .slice u.b.A u.b.n u.b.c, .slice u.c.A u.c.n u.c.c, .slice u.d.A u.d.n u.d.c]] w fun e w' => e = .returned (.bool (rightM s M)) ∧ Below w.heap.size w w' := by
  have h1 := hv.a
  have h2 := hv.b
  have h3 := hv.c
  have h4 := hv.d
  have g1 := hu.a
  have g2 := hu.b
  have g3 := hu.c
  have g4 := hu.d
  have hE : rightM s M = (areasFrom 0 s.coils u.a.n false && (areasFrom 0 s.inputs u.b.n true && (areasFrom 0 s.holding u.c.n false && areasFrom 0 s.words u.d.n true))) := by
    unfold rightM; rw [hM.lens.1, hM.lens.2.1, hM.lens.2.2.1, hM.lens.2.2.2]
  rw [areas_fixed, areas_fixed] at hE
  rw [hE]
  have k0 := fun (g : Nat) (X : World) (hr : X.heap[g]? = some (.cells (srv v u) 77 (0, 0))) (hs : SpOk X v s) => rightB_any g 0 v.a.A v.a.n v.a.c u.a.A u.a.n u.a.c s.coils X (srv_cell hr 0) (srv_cell hr (0 + 1)) (row_lt hr) hs.coils ho.coils (by omega) (by omega)
  obtain ⟨R0, hR0⟩ : ∃ R, R = areasFrom 0 s.coils u.a.n false := ⟨_, rfl⟩
  rw [← hR0] at k0 ⊢
  have K0 := Lib.hid k0
  clear k0 hR0
  have k1 := fun (g : Nat) (X : World) (hr : X.heap[g]? = some (.cells (srv v u) 77 (0, 0))) (hs : SpOk X v s) => rightB_any g 2 v.b.A v.b.n v.b.c u.b.A u.b.n u.b.c s.inputs X (srv_cell hr 2) (srv_cell hr (2 + 1)) (row_lt hr) hs.inputs ho.inputs (by omega) (by omega)
  obtain ⟨R1, hR1⟩ : ∃ R, R = areasFrom 0 s.inputs u.b.n false := ⟨_, rfl⟩
  rw [← hR1] at k1 ⊢
  have K1 := Lib.hid k1
  clear k1 hR1
  have k2 := fun (g : Nat) (X : World) (hr : X.heap[g]? = some (.cells (srv v u) 77 (0, 0))) (hs : SpOk X v s) => rightW_any g 4 v.c.A v.c.n v.c.c u.c.A u.c.n u.c.c s.holding X (srv_cell hr 4) (srv_cell hr (4 + 1)) (row_lt hr) hs.holding ho.holding (by omega) (by omega)
  obtain ⟨R2, hR2⟩ : ∃ R, R = areasFrom 0 s.holding u.c.n false := ⟨_, rfl⟩
  rw [← hR2] at k2 ⊢
  have K2 := Lib.hid k2
  clear k2 hR2
  have k3 := fun (g : Nat) (X : World) (hr : X.heap[g]? = some (.cells (srv v u) 77 (0, 0))) (hs : SpOk X v s) => rightW_any g 6 v.d.A v.d.n v.d.c u.d.A u.d.n u.d.c s.words X (srv_cell hr 6) (srv_cell hr (6 + 1)) (row_lt hr) hs.words ho.words (by omega) (by omega)
  obtain ⟨R3, hR3⟩ : ∃ R, R = areasFrom 0 s.words u.d.n false := ⟨_, rfl⟩
  rw [← hR3] at k3 ⊢
  have K3 := Lib.hid k3
  clear k3 hR3
  have k4 := fun (g : Nat) (X : World) (hr : X.heap[g]? = some (.cells (srv v u) 77 (0, 0))) (hs : SpOk X v s) => fixedB_any g 2 v.b.A v.b.n v.b.c s.inputs X (srv_cell hr 2) (row_lt hr) hs.inputs (by omega)
  obtain ⟨R4, hR4⟩ : ∃ R, R = allFixed s.inputs := ⟨_, rfl⟩
  rw [← hR4] at k4 ⊢
  have K4 := Lib.hid k4
  clear k4 hR4
  have k5 := fun (g : Nat) (X : World) (hr : X.heap[g]? = some (.cells (srv v u) 77 (0, 0))) (hs : SpOk X v s) => fixedW_any g 6 v.d.A v.d.n v.d.c s.words X (srv_cell hr 6) (row_lt hr) hs.words (by omega)
  obtain ⟨R5, hR5⟩ : ∃ R, R = allFixed s.words := ⟨_, rfl⟩
  rw [← hR5] at k5 ⊢
  have K5 := Lib.hid k5
  clear k5 hR5
  have HS := Lib.hid hS
  clear hE hS hM ho hv hu h1 h2 h3 h4 g1 g2 g3 g4
  cases R0 <;> cases R1 <;> cases R2 <;> cases R3 <;> cases R4 <;> (
    go_enter Try.func14, Try.ntmps14
    go_wp2_with (first
      | (go_at_call 24; refine (join_any v u _).mono ?_; rintro e wt ⟨g, rfl, hrow, -, bt⟩; have hb := (((Below.refl _ w).new _).new _).call bt; clear bt)
      | (go_at_call_of 30 (Value.pointer (some ⟨g, 0, none⟩)); refine (K0.out g _ hrow (HS.out.to hb)).mono ?_; rintro e wt ⟨rfl, bt⟩; have hrow := bt.row (row_lt hrow) hrow; have hb := hb.call bt; clear bt)
      | (go_at_call_of 30 (Value.pointer (some ⟨g, 2, none⟩)); refine (K1.out g _ hrow (HS.out.to hb)).mono ?_; rintro e wt ⟨rfl, bt⟩; have hrow := bt.row (row_lt hrow) hrow; have hb := hb.call bt; clear bt)
      | (go_at_call_of 31 (Value.pointer (some ⟨g, 4, none⟩)); refine (K2.out g _ hrow (HS.out.to hb)).mono ?_; rintro e wt ⟨rfl, bt⟩; have hrow := bt.row (row_lt hrow) hrow; have hb := hb.call bt; clear bt)
      | (go_at_call_of 31 (Value.pointer (some ⟨g, 6, none⟩)); refine (K3.out g _ hrow (HS.out.to hb)).mono ?_; rintro e wt ⟨rfl, bt⟩; have hrow := bt.row (row_lt hrow) hrow; have hb := hb.call bt; clear bt)
      | (go_at_call_of 32 (Value.pointer (some ⟨g, 2, none⟩)); refine (K4.out g _ hrow (HS.out.to hb)).mono ?_; rintro e wt ⟨rfl, bt⟩; have hrow := bt.row (row_lt hrow) hrow; have hb := hb.call bt; clear bt)
      | (go_at_call_of 33 (Value.pointer (some ⟨g, 6, none⟩)); refine (K5.out g _ hrow (HS.out.to hb)).mono ?_; rintro e wt ⟨rfl, bt⟩; have hrow := bt.row (row_lt hrow) hrow; have hb := hb.call bt; clear bt)
      | fail)
    go_ret
    exact ⟨by first | rfl | simp, hb⟩)
end Go.Proofs.Ytiibopdnlmnkmaa.MoW
