/- The walks of slices.Clone, Index, Contains and reply.Echo. -/
import Derived.Lib.SliceRun
import Derived.Test.YtiibopdnlmnkmaaAG6
import Derived.Test.YtiibopdnlmnkmaaAG2
import Derived.Test.YtiibopdnlmnkmaaAG7
import Derived.Test.YtiibopdnlmnkmaaRepG
set_option linter.unusedVariables false
set_option linter.unusedSimpArgs false
namespace Go.Proofs.Ytiibopdnlmnkmaa.AskW
open Go.RowKit Go.Proofs.Ytiibopdnlmnkmaa Go.Proofs.Ytiibopdnlmnkmaa.Ask
theorem cloneB_any (A : Option Addr) (n c : Nat) (l : List Bool) (w : World) (hs : Sl w w.heap.size A n (bl l)) (hn : n ≤ 100000) :
    Calls Try.prog 46 #[.slice A n c] w fun e w' => ∃ A' c', e = .returned (.slice A' n c') ∧ Sl w' w'.heap.size A' n (bl l) ∧ n ≤ c' ∧ (∀ b o, A' = some (⟨b, o, none⟩ : Addr) → w.heap.size ≤ b) ∧ Below w.heap.size w w' := by
  have q1 : l.length = n := by simpa using hs.len
  have qT : ∀ (w : World) (a : Option Addr) (n c n' c' : Nat), (binOp .eql 25 (.slice a n c) (.slice none n' c')).run Try.prog w = .ok (.bool a.isNone) w := fun w a n c n' c' => Lib.run_eql_slice_nil w _ _ a n c n' c' Try.underlying25
  have S0 := hs.to ((Below.refl _ w).new (.cells #[] 4))
  rcases A with _ | ad
  · have h0 : n = 0 := by
      rcases Nat.eq_zero_or_pos n with h | h
      · exact h
      · obtain ⟨b, o, e, _⟩ := hs.2 h
        cases e
    subst h0
    have hl := List.eq_nil_of_length_eq_zero q1
    subst hl
    clear hs S0 q1
    go_enter Try.func46, Try.ntmps46
    go_wp2_with fail
    go_ret
    exact ⟨none, 0, rfl, Sl.empty _ _ _, Nat.le_refl _, (fun _ _ h => by cases h), Below.refl _ _⟩
  · clear hs q1
    go_enter Try.func46, Try.ntmps46
    go_wp2_with (at_builtin; refine wpList_app _root_.Go.Proofs.Ytiibopdnlmnkmaa.AskW.eb rfl (.tmp 5) (.tmp 6) rfl (Has.made0 (Below.refl w.heap.size w) _) rfl S0 rfl (bl_one _) (by omega) (by simp only [maxLen]; omega) ?_; intro v1 w1 H1 _ _; obtain ⟨A1, c1, rfl, hc1, S1, o1⟩ := H1.slice)
    go_ret
    rw [Nat.zero_add] at hc1 S1
    rw [List.nil_append] at S1
    exact ⟨A1, c1, by first | rfl | (rw [Nat.zero_add]; rfl), S1, hc1, fun b o h => o1 b (by rw [h]; rfl), H1.bel⟩
theorem cloneW_any (A : Option Addr) (n c : Nat) (l : List Nat) (w : World) (hs : Sl w w.heap.size A n (ws l)) (hn : n ≤ 100000) :
    Calls Try.prog 47 #[.slice A n c] w fun e w' => ∃ A' c', e = .returned (.slice A' n c') ∧ Sl w' w'.heap.size A' n (ws l) ∧ n ≤ c' ∧ (∀ b o, A' = some (⟨b, o, none⟩ : Addr) → w.heap.size ≤ b) ∧ Below w.heap.size w w' := by
  have q1 : l.length = n := by simpa using hs.len
  have qT : ∀ (w : World) (a : Option Addr) (n c n' c' : Nat), (binOp .eql 26 (.slice a n c) (.slice none n' c')).run Try.prog w = .ok (.bool a.isNone) w := fun w a n c n' c' => Lib.run_eql_slice_nil w _ _ a n c n' c' Try.underlying26
  have S0 := hs.to ((Below.refl _ w).new (.cells #[] 29))
  rcases A with _ | ad
  · have h0 : n = 0 := by
      rcases Nat.eq_zero_or_pos n with h | h
      · exact h
      · obtain ⟨b, o, e, _⟩ := hs.2 h
        cases e
    subst h0
    have hl := List.eq_nil_of_length_eq_zero q1
    subst hl
    clear hs S0 q1
    go_enter Try.func47, Try.ntmps47
    go_wp2_with fail
    go_ret
    exact ⟨none, 0, rfl, Sl.empty _ _ _, Nat.le_refl _, (fun _ _ h => by cases h), Below.refl _ _⟩
  · clear hs q1
    go_enter Try.func47, Try.ntmps47
    go_wp2_with (at_builtin; refine wpList_app _root_.Go.Proofs.Ytiibopdnlmnkmaa.AskW.u16 rfl (.tmp 5) (.tmp 6) rfl (Has.made0 (Below.refl w.heap.size w) _) rfl S0 rfl (ws_one _) (by omega) (by simp only [maxLen]; omega) ?_; intro v1 w1 H1 _ _; obtain ⟨A1, c1, rfl, hc1, S1, o1⟩ := H1.slice)
    go_ret
    rw [Nat.zero_add] at hc1 S1
    rw [List.nil_append] at S1
    exact ⟨A1, c1, by first | rfl | (rw [Nat.zero_add]; rfl), S1, hc1, fun b o h => o1 b (by rw [h]; rfl), H1.bel⟩
/-- An index of one that is on; below 0: there is none. -/
def RetIdx (l : List Bool) (w : World) (e : Ending) (w' : World) : Prop := ∃ i : Int, e = .returned (.int .i64 i) ∧ decide (0 ≤ i) = l.any id ∧ w = w'
theorem any_get {l : List Bool} {k : Nat} (h : l[k]?.getD false = true) : l.any id = true := by
  by_cases hk : k < l.length
  · rw [List.getElem?_eq_getElem hk] at h
    exact List.any_eq_true.2 ⟨_, List.getElem_mem hk, h⟩
  · rw [List.getElem?_eq_none (by omega)] at h; cases h
theorem index_any (A : Option Addr) (n c : Nat) (l : List Bool) (w : World) (hs : Sl w w.heap.size A n (bl l)) (hn : n ≤ 100000) :
    Calls Try.prog 58 #[.slice A n c, .bool true] w (RetIdx l w) := by
  have q1 : l.length = n := by simpa using hs.len
  have Q1 := Lib.hid q1
  clear q1
  go_enter Try.func58, Try.ntmps58
  go_wp2_with fail
  go_loop [8] (fun i => ∃ k : Nat, k ≤ n ∧ i = .int .i64 k ∧ (l.take k).any id = false) (fun i => n - (intOf i).toNat)
  case atStart => exact ⟨0, by omega, rfl, rfl⟩
  case round =>
    obtain ⟨k, hk, rfl, he⟩ := hrel
    by_cases hlt : k < n
    · obtain ⟨b, o, rfl, hbl, d1⟩ := hs.2 (by omega)
      have g1 := (d1 k hlt).trans (bl_get (by rw [Q1.out]; exact hlt))
      have HE := Lib.hid he
      have HA := Lib.hid (fun h => any_get (l := l) (k := k) h)
      have HS := Lib.hid (show (l.take (k + 1)).any id = ((l.take k).any id || l[k]?.getD false) from by rw [List.take_succ_eq_append_getElem (by rw [Q1.out]; exact hlt), List.any_append, List.getElem?_eq_getElem (by rw [Q1.out]; exact hlt)]; simp)
      obtain ⟨x, ex⟩ : ∃ x, x = l[k]?.getD false := ⟨_, rfl⟩
      rw [← ex] at g1 HA HS
      have z0 : (0 : Int) ≤ (k : Int) := by omega
      have z1 : (k : Int) < (n : Int) := by omega
      clear d1 ex he hs
      cases x
      · go_wp2_with fail
        go_round
        case rel => exact ⟨k + 1, by omega, by go_num, by rw [HS.out, HE.out]; rfl⟩
        case measure => simp [intOf]; omega
      · go_wp2_with fail
        go_ret
        exact ⟨(k : Int), rfl, by first | (rw [HA.out rfl]; exact decide_eq_true z0) | (rw [HA.out trivial]; exact decide_eq_true z0), rfl⟩
    · obtain rfl : k = n := by omega
      have HE := Lib.hid (show l.any id = false from by rw [← he, List.take_of_length_le (by rw [Q1.out]; omega)])
      clear he
      go_wp2_with fail
      go_ret
      exact ⟨-1, rfl, by rw [HE.out]; rfl, rfl⟩
theorem contains_any (A : Option Addr) (n c : Nat) (l : List Bool) (w : World) (hs : Sl w w.heap.size A n (bl l)) (hn : n ≤ 100000) :
    Calls Try.prog 36 #[.slice A n c, .bool true] w fun e w' => e = .returned (.bool (l.any id)) ∧ w = w' := by
  have K := Lib.hid (index_any A n c l w hs hn)
  clear hs
  go_enter Try.func36, Try.ntmps36
  go_wp2_with fail
  refine K.out.mono ?_
  rintro e w1 ⟨i, rfl, hi, rfl⟩
  have HI := Lib.hid hi
  clear hi
  go_wp2_with fail
  go_ret
  exact ⟨ret_bool HI.out, rfl⟩
/-- The echo of a request, if there is one. -/
def echoF (q : Req) : Rep × Bool :=
  if right q then
    if q.f = 5 then (⟨q.f, 0, q.bits, [], q.at', 0⟩, true)
    else if q.f = 6 then (⟨q.f, 0, [], q.words, q.at', 0⟩, true)
    else if q.f = 15 ∨ q.f = 16 then (⟨q.f, 0, [], [], q.at', q.many⟩, true)
    else (rep0, false)
  else (rep0, false)
def RetRepFlag (w : World) (r : Rep × Bool) (e : Ending) (w' : World) : Prop := ∃ Ab nb cb Aw nw cw, e = .returned (.tuple #[.agg #[.int .u8 (r.1.f : Nat), .int .u8 (r.1.x : Nat), .slice Ab nb cb, .slice Aw nw cw, .int .u16 (r.1.at' : Nat), .int .u16 (r.1.many : Nat)], .bool r.2]) ∧
  Sl w' w'.heap.size Ab nb (bl r.1.bits) ∧ Sl w' w'.heap.size Aw nw (ws r.1.words) ∧ nb ≤ cb ∧ nw ≤ cw ∧ (∀ b o, Ab = some (⟨b, o, none⟩ : Addr) → w.heap.size ≤ b) ∧ (∀ b o, Aw = some (⟨b, o, none⟩ : Addr) → w.heap.size ≤ b) ∧ Below w.heap.size w w'
theorem RetRepFlag.flat {w w' : World} (f x a m : Nat) (b : Bool) (h : Below w.heap.size w w') : RetRepFlag w (⟨f, x, [], [], a, m⟩, b) (.returned (.tuple #[.agg #[.int .u8 (f : Nat), .int .u8 (x : Nat), .slice none 0 0, .slice none 0 0, .int .u16 (a : Nat), .int .u16 (m : Nat)], .bool b])) w' :=
  ⟨none, 0, 0, none, 0, 0, rfl, Sl.empty _ _ _, Sl.empty _ _ _, Nat.le_refl _, Nat.le_refl _, (fun _ _ h => by cases h), (fun _ _ h => by cases h), h⟩
set_option maxRecDepth 100000 in
set_option maxHeartbeats 8000000 in
theorem echo_any (f a m t : Nat) (Aw : Option Addr) (nw cw : Nat) (Ab : Option Addr) (nb cb : Nat) (W : List Nat) (B : List Bool) (w : World)
    (hW : Sl w w.heap.size Aw nw (ws W)) (hB : Sl w w.heap.size Ab nb (bl B)) (hwf : Req.Wf ⟨f, a, m, t, W, B⟩) (kW : nw ≤ 100000) (kB : nb ≤ 100000) :
    Calls Try.prog 35 #[.agg #[.int .u8 f, .int .u16 a, .int .u16 m, .int .u16 t, .slice Aw nw cw, .slice Ab nb cb]] w (RetRepFlag w (echoF ⟨f, a, m, t, W, B⟩)) := by
  have qW : W.length = nw := by simpa using hW.len
  have qB : B.length = nb := by simpa using hB.len
  have KR0 := fun X => right_any f a m t Aw nw cw Ab nb cb W B qW qB hwf.many X
  have KC := Lib.hid (fun X (b : Below w.heap.size w X) => cloneB_any Ab nb cb B X (hB.to b) kB)
  have KD := Lib.hid (fun X (b : Below w.heap.size w X) => cloneW_any Aw nw cw W X (hW.to b) kW)
  obtain ⟨P, hP⟩ : ∃ P, P = echoF ⟨f, a, m, t, W, B⟩ := ⟨_, rfl⟩
  rw [← hP]
  obtain ⟨R, hR⟩ : ∃ R, R = right ⟨f, a, m, t, W, B⟩ := ⟨_, rfl⟩
  rw [← hR] at KR0
  have KR := Lib.hid KR0
  have HP0 : P = if R then (if f = 5 then (⟨f, 0, B, [], a, 0⟩, true) else if f = 6 then (⟨f, 0, [], W, a, 0⟩, true) else if f = 15 ∨ f = 16 then (⟨f, 0, [], [], a, m⟩, true) else (rep0, false)) else (rep0, false) := by
    rw [hP]; unfold echoF; rw [← hR]
  clear hP hR KR0 hwf hW hB qW qB
  cases R
  case false =>
    have HP := Lib.hid HP0
    clear HP0
    go_enter Try.func35, Try.ntmps35
    go_wp2_with fail
    refine (KR.out _).mono ?_
    rintro e w1 ⟨rfl, b1⟩
    have ra := b1.row (by simp; omega) (row_alloc (heap_alloc_new w (.cells #[.int .u8 f, .int .u16 a, .int .u16 m, .int .u16 t, .slice Aw nw cw, .slice Ab nb cb] 31)) (.cells #[.int .u8 0, .int .u8 0, .slice none 0 0, .slice none 0 0, .int .u16 0, .int .u16 0] 36))
    have rz := b1.row (by simp) (heap_alloc2_new w (.cells #[.int .u8 f, .int .u16 a, .int .u16 m, .int .u16 t, .slice Aw nw cw, .slice Ab nb cb] 31) (.cells #[.int .u8 0, .int .u8 0, .slice none 0 0, .slice none 0 0, .int .u16 0, .int .u16 0] 36))
    have hb := (((Below.refl _ w).new _).new _).call b1
    obtain ⟨c0, c1, c2, c3, c4, c5⟩ := row6 ra
    have lz := row_lt rz
    clear b1
    go_wp2_with (refine wpList_store_grown rfl 36 (.tmp 2) _ rfl (w.heap.size + 1) #[.int .u8 0, .int .u8 0, .slice none 0 0, .slice none 0 0, .int .u16 0, .int .u16 0] rfl rfl 36 _ rz (by kernel_rfl) rfl (by simp [Value.oneCell']) ?_; intro w9 h9 g9 s9)
    refine bodyPost_row_tmp rfl (w.heap.size + 1) 36 #[.int .u8 0, .int .u8 0, .slice none 0 0, .slice none 0 0, .int .u16 0, .int .u16 0] (0, 0) _ (.bool false) rfl h9 Try.underlying36 rfl (by kernel_rfl) rfl rfl ?_
    rw [HP.out]
    exact RetRepFlag.flat 0 0 0 0 false (hb.grown g9 hb.size (fun k hk => by injection hk with hk; omega))
  case true =>
    by_cases h5 : f = 5
    · have HP := Lib.hid (show P = (⟨f, 0, B, [], a, 0⟩, true) from by rw [HP0, if_pos rfl, if_pos h5])
      have T5 : ((f : Int) == 5) = true := by first | (rw [beq_eq_false_iff_ne]; omega) | (rw [beq_iff_eq]; omega)
      clear HP0 h5
      go_enter Try.func35, Try.ntmps35
      go_wp2_with fail
      refine (KR.out _).mono ?_
      rintro e w1 ⟨rfl, b1⟩
      have ra := b1.row (by simp; omega) (row_alloc (heap_alloc_new w (.cells #[.int .u8 f, .int .u16 a, .int .u16 m, .int .u16 t, .slice Aw nw cw, .slice Ab nb cb] 31)) (.cells #[.int .u8 0, .int .u8 0, .slice none 0 0, .slice none 0 0, .int .u16 0, .int .u16 0] 36))
      have rz := b1.row (by simp) (heap_alloc2_new w (.cells #[.int .u8 f, .int .u16 a, .int .u16 m, .int .u16 t, .slice Aw nw cw, .slice Ab nb cb] 31) (.cells #[.int .u8 0, .int .u8 0, .slice none 0 0, .slice none 0 0, .int .u16 0, .int .u16 0] 36))
      have hb := (((Below.refl _ w).new _).new _).call b1
      obtain ⟨c0, c1, c2, c3, c4, c5⟩ := row6 ra
      have lz := row_lt rz
      clear b1
      have HKP := Lib.hid (fun (X : World) (b : Below (w.heap.size + 1) w1 X) => (And.intro b (And.intro (row6 (b.row (Nat.lt_succ_self _) ra)).1 (And.intro (row6 (b.row (Nat.lt_succ_self _) ra)).2.1 (row6 (b.row (Nat.lt_succ_self _) ra)).2.2.2.2.2)) : Below (w.heap.size + 1) w1 X ∧ X.cell? ⟨w.heap.size, 0, none⟩ = some (.int .u8 f) ∧ X.cell? ⟨w.heap.size, 1, none⟩ = some (.int .u16 a) ∧ X.cell? ⟨w.heap.size, 5, none⟩ = some (.slice Ab nb cb)))
      have R0 : Rt w w1 (w.heap.size + 1) #[.int .u8 0, .int .u8 0, .slice none 0 0, .slice none 0 0, .int .u16 0, .int .u16 0] := ⟨hb, rz, Nat.le_succ _⟩
      have hbd : Below (w.heap.size + 1) w1 w1.drew := (Below.refl _ _).drew
      go_wp2_with fail
      go_region_held3 (fun X => Below (w.heap.size + 1) w1 X ∧ X.cell? ⟨w.heap.size, 0, none⟩ = some (.int .u8 f) ∧ X.cell? ⟨w.heap.size, 1, none⟩ = some (.int .u16 a) ∧ X.cell? ⟨w.heap.size, 5, none⟩ = some (.slice Ab nb cb))
        (exact HKP.out _ (by repeat (first | with_reducible exact hbd | refine Below.setCell ?_ (Nat.le_refl (w.heap.size + 1)) _)))
        (first
          | (go_at_call 46; refine (KC.out _ hb.drew).mono ?_; rintro e w2 ⟨Ac, cc, rfl, SC, hcc, oC, bC⟩; have hbd := hbd.trans (bC.mono (by show w.heap.size + 1 ≤ w1.heap.size; omega)); have R2 := R0.drew.call bC; obtain ⟨d0, d1, d2, d3, d4, d5⟩ := row6 R2.ra; obtain ⟨e0, e1, e2, e3, e4, e5⟩ := free6 R2.ra; clear R0)
          | fail)
      go_wp2_with fail
      refine bodyPost_row_tmp rfl (w.heap.size + 1) 36 #[.int .u8 (f : Nat), .int .u8 0, .slice Ac nb cc, .slice none 0 0, .int .u16 (a : Nat), .int .u16 0] (0, 0) _ (.bool true) rfl ?hg Try.underlying36 rfl (by kernel_rfl) rfl rfl ?hR
      case hg =>
        apply Rt.eq (w := w)
        · repeat (first | with_reducible assumption | with_reducible apply Rt.set)
        · rfl
      case hR =>
        rw [HP.out]
        have oC1 : ∀ b o, Ac = some (⟨b, o, none⟩ : Addr) → w1.heap.size ≤ b := oC
        have hk0 : w.heap.size ≤ w.heap.size + 1 := Nat.le_succ _
        have hbR := R2.bel
        exact ⟨Ac, nb, cc, none, 0, 0, rfl, by repeat (first | with_reducible exact SC | refine Sl.setOther ?_ (fun b o h => by have := oC1 b o h; omega)), Sl.empty _ _ _, hcc, Nat.le_refl _, (fun b o h => by have := oC1 b o h; omega), (fun _ _ h => by cases h), by repeat (first | with_reducible assumption | refine Below.setCell ?_ hk0 _)⟩
    by_cases h6 : f = 6
    · have HP := Lib.hid (show P = (⟨f, 0, [], W, a, 0⟩, true) from by rw [HP0, if_pos rfl, if_neg h5, if_pos h6])
      have T5 : ((f : Int) == 5) = false := by first | (rw [beq_eq_false_iff_ne]; omega) | (rw [beq_iff_eq]; omega)
      have T6 : ((f : Int) == 6) = true := by first | (rw [beq_eq_false_iff_ne]; omega) | (rw [beq_iff_eq]; omega)
      clear HP0 h5 h6
      go_enter Try.func35, Try.ntmps35
      go_wp2_with fail
      refine (KR.out _).mono ?_
      rintro e w1 ⟨rfl, b1⟩
      have ra := b1.row (by simp; omega) (row_alloc (heap_alloc_new w (.cells #[.int .u8 f, .int .u16 a, .int .u16 m, .int .u16 t, .slice Aw nw cw, .slice Ab nb cb] 31)) (.cells #[.int .u8 0, .int .u8 0, .slice none 0 0, .slice none 0 0, .int .u16 0, .int .u16 0] 36))
      have rz := b1.row (by simp) (heap_alloc2_new w (.cells #[.int .u8 f, .int .u16 a, .int .u16 m, .int .u16 t, .slice Aw nw cw, .slice Ab nb cb] 31) (.cells #[.int .u8 0, .int .u8 0, .slice none 0 0, .slice none 0 0, .int .u16 0, .int .u16 0] 36))
      have hb := (((Below.refl _ w).new _).new _).call b1
      obtain ⟨c0, c1, c2, c3, c4, c5⟩ := row6 ra
      have lz := row_lt rz
      clear b1
      have HKP := Lib.hid (fun (X : World) (b : Below (w.heap.size + 1) w1 X) => (And.intro b (And.intro (row6 (b.row (Nat.lt_succ_self _) ra)).1 (And.intro (row6 (b.row (Nat.lt_succ_self _) ra)).2.1 (row6 (b.row (Nat.lt_succ_self _) ra)).2.2.2.2.1)) : Below (w.heap.size + 1) w1 X ∧ X.cell? ⟨w.heap.size, 0, none⟩ = some (.int .u8 f) ∧ X.cell? ⟨w.heap.size, 1, none⟩ = some (.int .u16 a) ∧ X.cell? ⟨w.heap.size, 4, none⟩ = some (.slice Aw nw cw)))
      have R0 : Rt w w1 (w.heap.size + 1) #[.int .u8 0, .int .u8 0, .slice none 0 0, .slice none 0 0, .int .u16 0, .int .u16 0] := ⟨hb, rz, Nat.le_succ _⟩
      have hbd : Below (w.heap.size + 1) w1 w1.drew := (Below.refl _ _).drew
      go_wp2_with fail
      go_region_held3 (fun X => Below (w.heap.size + 1) w1 X ∧ X.cell? ⟨w.heap.size, 0, none⟩ = some (.int .u8 f) ∧ X.cell? ⟨w.heap.size, 1, none⟩ = some (.int .u16 a) ∧ X.cell? ⟨w.heap.size, 4, none⟩ = some (.slice Aw nw cw))
        (exact HKP.out _ (by repeat (first | with_reducible exact hbd | refine Below.setCell ?_ (Nat.le_refl (w.heap.size + 1)) _)))
        (first
          | (go_at_call 47; refine (KD.out _ hb.drew).mono ?_; rintro e w2 ⟨Ac, cc, rfl, SC, hcc, oC, bC⟩; have hbd := hbd.trans (bC.mono (by show w.heap.size + 1 ≤ w1.heap.size; omega)); have R2 := R0.drew.call bC; obtain ⟨d0, d1, d2, d3, d4, d5⟩ := row6 R2.ra; obtain ⟨e0, e1, e2, e3, e4, e5⟩ := free6 R2.ra; clear R0)
          | fail)
      go_wp2_with fail
      refine bodyPost_row_tmp rfl (w.heap.size + 1) 36 #[.int .u8 (f : Nat), .int .u8 0, .slice none 0 0, .slice Ac nw cc, .int .u16 (a : Nat), .int .u16 0] (0, 0) _ (.bool true) rfl ?hg Try.underlying36 rfl (by kernel_rfl) rfl rfl ?hR
      case hg =>
        apply Rt.eq (w := w)
        · repeat (first | with_reducible assumption | with_reducible apply Rt.set)
        · rfl
      case hR =>
        rw [HP.out]
        have oC1 : ∀ b o, Ac = some (⟨b, o, none⟩ : Addr) → w1.heap.size ≤ b := oC
        have hk0 : w.heap.size ≤ w.heap.size + 1 := Nat.le_succ _
        have hbR := R2.bel
        exact ⟨none, 0, 0, Ac, nw, cc, rfl, Sl.empty _ _ _, by repeat (first | with_reducible exact SC | refine Sl.setOther ?_ (fun b o h => by have := oC1 b o h; omega)), Nat.le_refl _, hcc, (fun _ _ h => by cases h), (fun b o h => by have := oC1 b o h; omega), by repeat (first | with_reducible assumption | refine Below.setCell ?_ hk0 _)⟩
    by_cases h15 : f = 15
    · have HP := Lib.hid (show P = (⟨f, 0, [], [], a, m⟩, true) from by rw [HP0, if_pos rfl, if_neg h5, if_neg h6, if_pos (Or.inl h15)])
      have T5 : ((f : Int) == 5) = false := by first | (rw [beq_eq_false_iff_ne]; omega) | (rw [beq_iff_eq]; omega)
      have T6 : ((f : Int) == 6) = false := by first | (rw [beq_eq_false_iff_ne]; omega) | (rw [beq_iff_eq]; omega)
      have T15 : ((f : Int) == 15) = true := by first | (rw [beq_eq_false_iff_ne]; omega) | (rw [beq_iff_eq]; omega)
      have T16 : ((f : Int) == 16) = false := by first | (rw [beq_eq_false_iff_ne]; omega) | (rw [beq_iff_eq]; omega)
      clear HP0 h5 h6 h15
      go_enter Try.func35, Try.ntmps35
      go_wp2_with fail
      refine (KR.out _).mono ?_
      rintro e w1 ⟨rfl, b1⟩
      have ra := b1.row (by simp; omega) (row_alloc (heap_alloc_new w (.cells #[.int .u8 f, .int .u16 a, .int .u16 m, .int .u16 t, .slice Aw nw cw, .slice Ab nb cb] 31)) (.cells #[.int .u8 0, .int .u8 0, .slice none 0 0, .slice none 0 0, .int .u16 0, .int .u16 0] 36))
      have rz := b1.row (by simp) (heap_alloc2_new w (.cells #[.int .u8 f, .int .u16 a, .int .u16 m, .int .u16 t, .slice Aw nw cw, .slice Ab nb cb] 31) (.cells #[.int .u8 0, .int .u8 0, .slice none 0 0, .slice none 0 0, .int .u16 0, .int .u16 0] 36))
      have hb := (((Below.refl _ w).new _).new _).call b1
      obtain ⟨c0, c1, c2, c3, c4, c5⟩ := row6 ra
      have lz := row_lt rz
      clear b1
      go_wp2_with (refine wpList_store_grown rfl 36 (.tmp 2) _ rfl (w.heap.size + 1) #[.int .u8 (f : Nat), .int .u8 0, .slice none 0 0, .slice none 0 0, .int .u16 (a : Nat), .int .u16 (m : Nat)] rfl rfl 36 _ rz (by kernel_rfl) rfl (by simp [Value.oneCell']) ?_; intro w9 h9 g9 s9)
      refine bodyPost_row_tmp rfl (w.heap.size + 1) 36 #[.int .u8 (f : Nat), .int .u8 0, .slice none 0 0, .slice none 0 0, .int .u16 (a : Nat), .int .u16 (m : Nat)] (0, 0) _ (.bool true) rfl h9 Try.underlying36 rfl (by kernel_rfl) rfl rfl ?_
      rw [HP.out]
      exact RetRepFlag.flat f 0 a m true (hb.grown g9 hb.size (fun k hk => by injection hk with hk; omega))
    by_cases h16 : f = 16
    · have HP := Lib.hid (show P = (⟨f, 0, [], [], a, m⟩, true) from by rw [HP0, if_pos rfl, if_neg h5, if_neg h6, if_pos (Or.inr h16)])
      have T5 : ((f : Int) == 5) = false := by first | (rw [beq_eq_false_iff_ne]; omega) | (rw [beq_iff_eq]; omega)
      have T6 : ((f : Int) == 6) = false := by first | (rw [beq_eq_false_iff_ne]; omega) | (rw [beq_iff_eq]; omega)
      have T15 : ((f : Int) == 15) = false := by first | (rw [beq_eq_false_iff_ne]; omega) | (rw [beq_iff_eq]; omega)
      have T16 : ((f : Int) == 16) = true := by first | (rw [beq_eq_false_iff_ne]; omega) | (rw [beq_iff_eq]; omega)
      clear HP0 h5 h6 h15 h16
      go_enter Try.func35, Try.ntmps35
      go_wp2_with fail
      refine (KR.out _).mono ?_
      rintro e w1 ⟨rfl, b1⟩
      have ra := b1.row (by simp; omega) (row_alloc (heap_alloc_new w (.cells #[.int .u8 f, .int .u16 a, .int .u16 m, .int .u16 t, .slice Aw nw cw, .slice Ab nb cb] 31)) (.cells #[.int .u8 0, .int .u8 0, .slice none 0 0, .slice none 0 0, .int .u16 0, .int .u16 0] 36))
      have rz := b1.row (by simp) (heap_alloc2_new w (.cells #[.int .u8 f, .int .u16 a, .int .u16 m, .int .u16 t, .slice Aw nw cw, .slice Ab nb cb] 31) (.cells #[.int .u8 0, .int .u8 0, .slice none 0 0, .slice none 0 0, .int .u16 0, .int .u16 0] 36))
      have hb := (((Below.refl _ w).new _).new _).call b1
      obtain ⟨c0, c1, c2, c3, c4, c5⟩ := row6 ra
      have lz := row_lt rz
      clear b1
      go_wp2_with (refine wpList_store_grown rfl 36 (.tmp 2) _ rfl (w.heap.size + 1) #[.int .u8 (f : Nat), .int .u8 0, .slice none 0 0, .slice none 0 0, .int .u16 (a : Nat), .int .u16 (m : Nat)] rfl rfl 36 _ rz (by kernel_rfl) rfl (by simp [Value.oneCell']) ?_; intro w9 h9 g9 s9)
      refine bodyPost_row_tmp rfl (w.heap.size + 1) 36 #[.int .u8 (f : Nat), .int .u8 0, .slice none 0 0, .slice none 0 0, .int .u16 (a : Nat), .int .u16 (m : Nat)] (0, 0) _ (.bool true) rfl h9 Try.underlying36 rfl (by kernel_rfl) rfl rfl ?_
      rw [HP.out]
      exact RetRepFlag.flat f 0 a m true (hb.grown g9 hb.size (fun k hk => by injection hk with hk; omega))
    have HP := Lib.hid (show P = (rep0, false) from by rw [HP0, if_pos rfl, if_neg h5, if_neg h6, if_neg (by omega)])
    have T5 : ((f : Int) == 5) = false := by first | (rw [beq_eq_false_iff_ne]; omega) | (rw [beq_iff_eq]; omega)
    have T6 : ((f : Int) == 6) = false := by first | (rw [beq_eq_false_iff_ne]; omega) | (rw [beq_iff_eq]; omega)
    have T15 : ((f : Int) == 15) = false := by first | (rw [beq_eq_false_iff_ne]; omega) | (rw [beq_iff_eq]; omega)
    have T16 : ((f : Int) == 16) = false := by first | (rw [beq_eq_false_iff_ne]; omega) | (rw [beq_iff_eq]; omega)
    clear HP0 h5 h6 h15 h16
    go_enter Try.func35, Try.ntmps35
    go_wp2_with fail
    refine (KR.out _).mono ?_
    rintro e w1 ⟨rfl, b1⟩
    have ra := b1.row (by simp; omega) (row_alloc (heap_alloc_new w (.cells #[.int .u8 f, .int .u16 a, .int .u16 m, .int .u16 t, .slice Aw nw cw, .slice Ab nb cb] 31)) (.cells #[.int .u8 0, .int .u8 0, .slice none 0 0, .slice none 0 0, .int .u16 0, .int .u16 0] 36))
    have rz := b1.row (by simp) (heap_alloc2_new w (.cells #[.int .u8 f, .int .u16 a, .int .u16 m, .int .u16 t, .slice Aw nw cw, .slice Ab nb cb] 31) (.cells #[.int .u8 0, .int .u8 0, .slice none 0 0, .slice none 0 0, .int .u16 0, .int .u16 0] 36))
    have hb := (((Below.refl _ w).new _).new _).call b1
    obtain ⟨c0, c1, c2, c3, c4, c5⟩ := row6 ra
    have lz := row_lt rz
    clear b1
    go_wp2_with (refine wpList_store_grown rfl 36 (.tmp 2) _ rfl (w.heap.size + 1) #[.int .u8 0, .int .u8 0, .slice none 0 0, .slice none 0 0, .int .u16 0, .int .u16 0] rfl rfl 36 _ rz (by kernel_rfl) rfl (by simp [Value.oneCell']) ?_; intro w9 h9 g9 s9)
    refine bodyPost_row_tmp rfl (w.heap.size + 1) 36 #[.int .u8 0, .int .u8 0, .slice none 0 0, .slice none 0 0, .int .u16 0, .int .u16 0] (0, 0) _ (.bool false) rfl h9 Try.underlying36 rfl (by kernel_rfl) rfl rfl ?_
    rw [HP.out]
    exact RetRepFlag.flat 0 0 0 0 false (hb.grown g9 hb.size (fun k hk => by injection hk with hk; omega))
end Go.Proofs.Ytiibopdnlmnkmaa.AskW
