/- Merged: AskA AskB AskC AskD AskE AskE2 AskF AskK. -/
import Derived.Test.YtiibopdnlmnkmaaChecked
import Derived.Test.YtiibopdnlmnkmaaBase
import Derived.Laws.BitsAllLaws
import Derived.WalkLawsBesides
import Derived.RegionTactic
import Derived.ChangeAlike
import Derived.Deep.RegionHeld3
import Derived.Deep.QuietTactic
import Derived.BigQuiet
/- The walks of layer 2's leaves: fits, counted, level, the fields' right. -/
namespace Go.Proofs.Ytiibopdnlmnkmaa.AskW
open Go.RowKit Go.Proofs.Ytiibopdnlmnkmaa Go.Proofs.Ytiibopdnlmnkmaa.Ask
theorem ret_bool {a b : Bool} (h : a = b) : Ending.returned (.bool a) = .returned (.bool b) := by rw [h]
theorem fits_any (l n m : Nat) (hm : m < 65536) (w : World) :
    Calls Try.prog 65 #[.int .u8 l, .int .i64 n, .int .u16 m] w fun e w' => e = .returned (.bool (fits l n m)) ∧ w = w' := by
  have HF := Lib.hid (show fits l n m = if l = 1 then n == 1 else if l = 2 then n == m else if l = 3 then decide (1 ≤ n ∧ n ≤ 121) else n == 0 from rfl)
  have hmw : IntKind.i64.wrap (m : Int) = m := by rw [IntKind.wrap_i64]; omega
  have e1 : ((l : Int) == 1) = decide (l = 1) := by rw [Bool.eq_iff_iff]; simp; omega
  have e2 : ((l : Int) == 2) = decide (l = 2) := by rw [Bool.eq_iff_iff]; simp; omega
  have e3 : ((l : Int) == 3) = decide (l = 3) := by rw [Bool.eq_iff_iff]; simp; omega
  by_cases h1 : l = 1
  · subst h1
    go_enter Try.func65, Try.ntmps65
    go_wp2
    go_ret
    refine ⟨ret_bool ?_, rfl⟩
    rw [HF.out, Bool.eq_iff_iff]; simp; omega
  by_cases h2 : l = 2
  · subst h2
    go_enter Try.func65, Try.ntmps65
    go_wp2
    go_ret
    refine ⟨ret_bool ?_, rfl⟩
    rw [HF.out, Bool.eq_iff_iff]; simp; omega
  by_cases h3 : l = 3
  · subst h3
    by_cases hn : 1 ≤ (n : Int)
    · go_enter Try.func65, Try.ntmps65
      go_wp2
      go_ret
      refine ⟨ret_bool ?_, rfl⟩
      rw [HF.out, Bool.eq_iff_iff]; simp; omega
    · go_enter Try.func65, Try.ntmps65
      go_wp2
      go_ret
      refine ⟨ret_bool ?_, rfl⟩
      rw [HF.out, Bool.eq_iff_iff]; simp; omega
  · have f1 : ((l : Int) == 1) = false := by rw [e1]; simp [h1]
    have f2 : ((l : Int) == 2) = false := by rw [e2]; simp [h2]
    have f3 : ((l : Int) == 3) = false := by rw [e3]; simp [h3]
    have H := Lib.hid (And.intro h1 (And.intro h2 h3))
    clear e1 e2 e3 h1 h2 h3
    go_enter Try.func65, Try.ntmps65
    go_wp2
    go_ret
    refine ⟨ret_bool ?_, rfl⟩
    rw [HF.out, if_neg H.out.1, if_neg H.out.2.1, if_neg H.out.2.2, Bool.eq_iff_iff]; simp
theorem level_any (b : Bool) (w : World) :
    Calls Try.prog 67 #[.bool b] w fun e w' => e = .returned (.int .u16 (if b then 65280 else 0 : Nat)) ∧ w = w' := by
  cases b <;>
  · go_enter Try.func67, Try.ntmps67
    go_wp2
    go_ret
    exact ⟨rfl, rfl⟩
theorem counted_any (a : Nat) (t : Bool) (b c : Nat) (w : World) :
    Calls Try.prog 61 #[.agg #[.int .i64 a, .bool t, .int .u8 b, .int .u8 c]] w fun e w' => e = .returned (.bool (decide (2 ≤ b) || decide (2 ≤ c))) ∧ Below w.heap.size w w' := by
  by_cases hb : (2 : Int) ≤ b
  · have HF := Lib.hid (show true = (decide (2 ≤ b) || decide (2 ≤ c)) from by rw [decide_eq_true (show 2 ≤ b by omega)]; rfl)
    go_enter Try.func61, Try.ntmps61
    go_wp2
    go_ret
    exact ⟨ret_bool HF.out, (Below.refl _ _).new _⟩
  · have HF := Lib.hid (show decide ((2 : Int) ≤ c) = (decide (2 ≤ b) || decide (2 ≤ c)) from by rw [decide_eq_false (show ¬ 2 ≤ b by omega), Bool.false_or, decide_eq_decide]; omega)
    go_enter Try.func61, Try.ntmps61
    go_wp2
    go_ret
    exact ⟨ret_bool HF.out, (Below.refl _ _).new _⟩
end Go.Proofs.Ytiibopdnlmnkmaa.AskW
/- The walks of layer 2's leaves: fields.right. -/
namespace Go.Proofs.Ytiibopdnlmnkmaa.AskW
open Go.RowKit Go.Proofs.Ytiibopdnlmnkmaa Go.Proofs.Ytiibopdnlmnkmaa.Ask
set_option maxHeartbeats 4000000 in
theorem fright_any (fm : Nat) (ft : Bool) (fb fw : Nat) (f a m t : Nat) (Aw : Option Addr) (nw cw : Nat) (Ab : Option Addr) (nb cb : Nat) (hm : m < 65536) (w : World) :
    Calls Try.prog 44 #[.agg #[.int .i64 fm, .bool ft, .int .u8 fb, .int .u8 fw], .agg #[.int .u8 f, .int .u16 a, .int .u16 m, .int .u16 t, .slice Aw nw cw, .slice Ab nb cb]] w
      fun e w' => e = .returned (.bool (!(decide (fm < m) || (m == 0 && decide (0 < fm))) && ((ft || t == 0) && fits fb nb m && fits fw nw m))) ∧ Below w.heap.size w w' := by
  have hmw : IntKind.i64.wrap (m : Int) = m := by rw [IntKind.wrap_i64]; omega
  have CB : ∀ W, _ := fun W => fits_any fb nb m hm W
  have CW : ∀ W, _ := fun W => fits_any fw nw m hm W
  clear hm
  obtain ⟨D, hD⟩ : ∃ D, D = fits fb nb m := ⟨_, rfl⟩
  obtain ⟨E, hE⟩ : ∃ E, E = fits fw nw m := ⟨_, rfl⟩
  rw [← hD] at CB
  rw [← hE] at CW
  have H0 : (decide (fm < m)) = decide ((fm : Int) < m) := by rw [decide_eq_decide]; omega
  have H1 : ((m == 0) : Bool) = ((m : Int) == 0) := by rw [Bool.eq_iff_iff]; simp
  have H2 : (decide (0 < fm)) = decide ((0 : Int) < fm) := by rw [decide_eq_decide]; omega
  have H3 : ((t == 0) : Bool) = ((t : Int) == 0) := by rw [Bool.eq_iff_iff]; simp
  rw [← hD, ← hE, H0, H1, H2, H3]
  have CBH := Lib.hid CB
  have CWH := Lib.hid CW
  clear hD hE H0 H1 H2 H3 CB CW
  obtain ⟨X, hX⟩ : ∃ X, ((m : Int) == 0) = X := ⟨_, rfl⟩
  obtain ⟨T, hT⟩ : ∃ T, ((t : Int) == 0) = T := ⟨_, rfl⟩
  rw [hX, hT]
  by_cases c1 : (fm : Int) < m
  · rw [decide_eq_true c1]
    go_enter Try.func44, Try.ntmps44
    go_wp2_with fail
    go_ret
    exact ⟨rfl, ((Below.refl _ _).new _).new _⟩
  rw [decide_eq_false c1]
  by_cases c2 : (0 : Int) < fm
  · rw [decide_eq_true c2]
    cases X
    · cases ft <;> cases T <;> cases D <;> (
        go_enter Try.func44, Try.ntmps44
        go_wp2_with (first | (go_at_call_of 65 (Value.int .u8 (fb : Int)); refine (CBH.out _).mono ?_; rintro e w1 ⟨rfl, rfl⟩) | (go_at_call_of 65 (Value.int .u8 (fw : Int)); refine (CWH.out _).mono ?_; rintro e w1 ⟨rfl, rfl⟩))
        go_ret
        exact ⟨rfl, ((Below.refl _ _).new _).new _⟩)
    · go_enter Try.func44, Try.ntmps44
      go_wp2_with fail
      go_ret
      exact ⟨rfl, ((Below.refl _ _).new _).new _⟩
  · rw [decide_eq_false c2]
    cases X <;> cases ft <;> cases T <;> cases D <;> (
      go_enter Try.func44, Try.ntmps44
      go_wp2_with (first | (go_at_call_of 65 (Value.int .u8 (fb : Int)); refine (CBH.out _).mono ?_; rintro e w1 ⟨rfl, rfl⟩) | (go_at_call_of 65 (Value.int .u8 (fw : Int)); refine (CWH.out _).mono ?_; rintro e w1 ⟨rfl, rfl⟩))
      go_ret
      exact ⟨rfl, ((Below.refl _ _).new _).new _⟩)
end Go.Proofs.Ytiibopdnlmnkmaa.AskW
/- The walk of ask.find. -/
namespace Go.Proofs.Ytiibopdnlmnkmaa.AskW
open Go.RowKit Go.Proofs.Ytiibopdnlmnkmaa Go.Proofs.Ytiibopdnlmnkmaa.Ask
def fldOf (f : Nat) : Fld := (fld f).getD ⟨0, false, 0, 0⟩
def fv (m : Nat) (t : Bool) (b x : Nat) : Value := .agg #[.int .i64 m, .bool t, .int .u8 b, .int .u8 x]
def tab : Array MapEntry := #[⟨.int .u8 1, fv 2000 false 0 0, 0⟩, ⟨.int .u8 2, fv 2000 false 0 0, 1⟩, ⟨.int .u8 3, fv 125 false 0 0, 2⟩, ⟨.int .u8 4, fv 125 false 0 0, 3⟩, ⟨.int .u8 5, fv 0 false 1 0, 4⟩, ⟨.int .u8 6, fv 0 false 0 1, 5⟩, ⟨.int .u8 15, fv 1968 false 2 0, 6⟩, ⟨.int .u8 16, fv 123 false 0 2, 7⟩, ⟨.int .u8 23, fv 125 true 0 3, 8⟩]
theorem tab_find (f : Nat) : ∃ r, Instr.findNow (.int .u8) (.int .u8 f) tab.toList 0 = some r ∧ (r.map (·.2)).getD (fv 0 false 0 0) = .agg #[.int .i64 (fldOf f).many, .bool (fldOf f).to, .int .u8 (fldOf f).bits, .int .u8 (fldOf f).words] ∧ r.isSome = (fld f).isSome := by
  by_cases h1 : f = 1
  · subst h1; exact ⟨_, rfl, rfl, rfl⟩
  by_cases h2 : f = 2
  · subst h2; exact ⟨_, rfl, rfl, rfl⟩
  by_cases h3 : f = 3
  · subst h3; exact ⟨_, rfl, rfl, rfl⟩
  by_cases h4 : f = 4
  · subst h4; exact ⟨_, rfl, rfl, rfl⟩
  by_cases h5 : f = 5
  · subst h5; exact ⟨_, rfl, rfl, rfl⟩
  by_cases h6 : f = 6
  · subst h6; exact ⟨_, rfl, rfl, rfl⟩
  by_cases h7 : f = 15
  · subst h7; exact ⟨_, rfl, rfl, rfl⟩
  by_cases h8 : f = 16
  · subst h8; exact ⟨_, rfl, rfl, rfl⟩
  by_cases h9 : f = 23
  · subst h9; exact ⟨_, rfl, rfl, rfl⟩
  have hn : fld f = none := by simp [fld, h1, h2, h3, h4, h5, h6, h7, h8, h9]
  have hb : ∀ c : Nat, f ≠ c → ((f : Int) == (c : Int)) = false := fun c h => by rw [beq_eq_false_iff_ne]; omega
  have b1 : ((f : Int) == 1) = false := hb 1 h1
  have b2 : ((f : Int) == 2) = false := hb 2 h2
  have b3 : ((f : Int) == 3) = false := hb 3 h3
  have b4 : ((f : Int) == 4) = false := hb 4 h4
  have b5 : ((f : Int) == 5) = false := hb 5 h5
  have b6 : ((f : Int) == 6) = false := hb 6 h6
  have b7 : ((f : Int) == 15) = false := hb 15 h7
  have b8 : ((f : Int) == 16) = false := hb 16 h8
  have b9 : ((f : Int) == 23) = false := hb 23 h9
  refine ⟨none, ?_, ?_, ?_⟩
  · simp only [tab, Instr.findNow, Instr.sameNow, if_true]
    simp only [b1, b2, b3, b4, b5, b6, b7, b8, b9]
  · simp [fldOf, hn, fv]
  · simp [hn]
theorem map_at2 (w : World) (o1 o : Obj) : ((w.alloc o1).alloc o).heap[w.heap.size + 1]? = some o := by simpa using heap_alloc_new (w.alloc o1) o
theorem zero_fld (w : World) : (zeroValue 91).run Try.prog w = .ok (fv 0 false 0 0) w := by kernel_rfl
set_option maxHeartbeats 4000000 in
theorem find_any (f : Nat) (w : World) :
    Calls Try.prog 42 #[.int .u8 f] w
      fun e w' => e = .returned (.tuple #[.agg #[.int .i64 (fldOf f).many, .bool (fldOf f).to, .int .u8 (fldOf f).bits, .int .u8 (fldOf f).words], .bool (fld f).isSome]) ∧ Below w.heap.size w w' := by
  obtain ⟨r, hr1, hr2, hr3⟩ := tab_find f
  have HR := Lib.hid (And.intro hr1 (And.intro hr2 hr3))
  clear hr1 hr2 hr3
  obtain ⟨D, hD⟩ : ∃ D, D = fldOf f := ⟨_, rfl⟩
  obtain ⟨O, hO⟩ : ∃ O, O = (fld f).isSome := ⟨_, rfl⟩
  rw [← hD, ← hO] at HR ⊢
  clear hD hO
  have hmm := @run_makeMap Try.prog
  have h1 := map_at2 w (.cells #[.int .i64 0, .bool false, .int .u8 0, .int .u8 0] 91) (.map #[] 0)
  have hB : Below (w.heap.size + 1) ((w.alloc (.cells #[.int .i64 0, .bool false, .int .u8 0, .int .u8 0] 91)).alloc (.map #[] 0)) ((w.alloc (.cells #[.int .i64 0, .bool false, .int .u8 0, .int .u8 0] 91)).alloc (.map #[] 0)) := Below.refl _ _
  go_enter Try.func42, Try.ntmps42
  go_wp2_with (first
    | (refine wpList_insert_new rfl (.tmp 7) _ _ rfl Try.underlying117 Try.underlying5 rfl h1 _ _ rfl rfl rfl ?_; intro w1 h2 g1; have hB := hB.ins h1 g1; have h1 := h2; clear h2 g1)
    | (refine wpList_lookup_now rfl (.tmp 19) (.tmp 20) rfl Try.underlying117 Try.underlying5 rfl h1 _ rfl HR.out.1 (zero_fld _) HR.out.2.1 HR.out.2.2 ?_; have hrow := hB.row (Nat.lt_succ_self _) (row_alloc (heap_alloc_new w _) _); have hbel := hB.mono (Nat.le_succ _); clear hB)
    | (refine wpList_store_row rfl 91 (.tmp 2) _ rfl w.heap.size #[.int .i64 D.many, .bool D.to, .int .u8 D.bits, .int .u8 D.words] rfl rfl 91 _ (row_alloc hrow _) (by kernel_rfl) rfl (by simp [Value.oneCell']) ?_))
  refine bodyPost_row_tmp rfl w.heap.size 91 #[.int .i64 D.many, .bool D.to, .int .u8 D.bits, .int .u8 D.words] (0, 0) _ (.bool O) rfl (setRow_heap _ _ _ _ _ _ (row_alloc hrow _)) Try.underlying91 rfl (by kernel_rfl) rfl rfl ⟨rfl, ?_⟩
  have h0 : Below w.heap.size w w1 := (((Below.refl _ _).new _).alloc (by simp) _).trans hbel
  exact below_setRow (h0.alloc h0.size _) (Nat.le_refl _) _
end Go.Proofs.Ytiibopdnlmnkmaa.AskW
/- The walks of slices.Equal over words. -/
namespace Go.Proofs.Ytiibopdnlmnkmaa.AskW
open Go.RowKit Go.Proofs.Ytiibopdnlmnkmaa Go.Proofs.Ytiibopdnlmnkmaa.Ask
theorem equalW_any (A1 A2 : Option Addr) (n1 c1 n2 c2 : Nat) (l r : List Nat) (w : World) (h1 : Sl w w.heap.size A1 n1 (ws l)) (h2 : Sl w w.heap.size A2 n2 (ws r)) (hn : n1 ≤ 9223372036854775807) (hn2 : n2 ≤ 9223372036854775807) :
    Calls Try.prog 38 #[.slice A1 n1 c1, .slice A2 n2 c2] w fun e w' => e = .returned (.bool (l == r)) ∧ Below w.heap.size w w' := by
  have q1 : l.length = n1 := by simpa using h1.len
  have q2 : r.length = n2 := by simpa using h2.len
  by_cases hne : n1 = n2
  · subst hne
    have Q1 := Lib.hid q1
    have Q2 := Lib.hid q2
    clear q1 q2 hn2
    go_enter Try.func38, Try.ntmps38
    go_wp2_with fail
    go_loopw [13] (fun i wr => ∃ k : Nat, k ≤ n1 ∧ i = .int .i64 k ∧ l.take k = r.take k ∧ Below w.heap.size w wr) (fun i _ => n1 - (intOf i).toNat)
    case atStart => exact ⟨0, by omega, rfl, by simp, Below.refl _ _⟩
    case round =>
      obtain ⟨k, hk, rfl, he, hb⟩ := hrel
      have HE := Lib.hid he
      clear he
      by_cases hlt : k < n1
      · have s1 := h1.below hb
        have s2 := h2.below hb
        obtain ⟨b1, o1, rfl, _, d1⟩ := s1.2 (by omega)
        obtain ⟨b2, o2, rfl, _, d2⟩ := s2.2 (by omega)
        have g1 := (d1 k hlt).trans (ws_get (by rw [Q1.out]; exact hlt))
        have g2 := (d2 k hlt).trans (ws_get (by rw [Q2.out]; exact hlt))
        have HT := Lib.hid (take_eq_snoc 0 (l := l) (r := r) (k := k) (by rw [Q1.out]; exact hlt) (by rw [Q2.out]; exact hlt))
        have HNE := Lib.hid (ne_of_at (k := k) 0 (l := l) (r := r))
        obtain ⟨x, ex⟩ : ∃ x, x = l[k]?.getD 0 := ⟨_, rfl⟩
        obtain ⟨y, ey⟩ : ∃ y, y = r[k]?.getD 0 := ⟨_, rfl⟩
        rw [← ex, ← ey] at HT HNE
        rw [← ex] at g1
        rw [← ey] at g2
        have z0 : (0 : Int) ≤ (k : Int) := by omega
        have z1 : (k : Int) < (n1 : Int) := by omega
        clear d1 d2 s1 s2 h1 h2 ex ey
        by_cases hxy : x = y
        · have hT : ((x : Int) != (y : Int)) = false := by rw [hxy]; simp
          have HX := Lib.hid hxy
          clear hxy
          go_wp2_with fail
          go_quiet (fail)
          go_wp2_with fail
          go_roundw
          case rel => exact ⟨k + 1, by omega, by go_num, HT.out.2 ⟨HE.out, HX.out⟩, hb.drewN _⟩
          case measure => simp [intOf]; omega
        · have hT : ((x : Int) != (y : Int)) = true := by rw [bne_iff_ne]; omega
          have HX := Lib.hid hxy
          clear hxy
          go_wp2_with fail
          go_quiet (fail)
          go_wp2_with fail
          go_ret
          exact ⟨ret_bool (HNE.out HX.out).symm, hb.drewN _⟩
      · obtain rfl : k = n1 := by omega
        go_wp2_with fail
        go_ret
        exact ⟨ret_bool (eq_of_take Q1.out Q2.out HE.out).symm, hb⟩
  · have hT : ((n1 : Int) != (n2 : Int)) = true := by rw [bne_iff_ne]; omega
    have HF := Lib.hid (ne_of_len (l := l) (r := r) (by omega))
    clear q1 q2 hne hn hn2
    go_enter Try.func38, Try.ntmps38
    go_wp2_with fail
    go_ret
    exact ⟨ret_bool HF.out.symm, Below.refl _ _⟩
end Go.Proofs.Ytiibopdnlmnkmaa.AskW
/- The walks of slices.Equal over bits. -/
namespace Go.Proofs.Ytiibopdnlmnkmaa.AskW
open Go.RowKit Go.Proofs.Ytiibopdnlmnkmaa Go.Proofs.Ytiibopdnlmnkmaa.Ask
theorem equalB_any (A1 A2 : Option Addr) (n1 c1 n2 c2 : Nat) (l r : List Bool) (w : World) (h1 : Sl w w.heap.size A1 n1 (bl l)) (h2 : Sl w w.heap.size A2 n2 (bl r)) (hn : n1 ≤ 9223372036854775807) (hn2 : n2 ≤ 9223372036854775807) :
    Calls Try.prog 37 #[.slice A1 n1 c1, .slice A2 n2 c2] w fun e w' => e = .returned (.bool (l == r)) ∧ Below w.heap.size w w' := by
  have q1 : l.length = n1 := by simpa using h1.len
  have q2 : r.length = n2 := by simpa using h2.len
  by_cases hne : n1 = n2
  · subst hne
    have Q1 := Lib.hid q1
    have Q2 := Lib.hid q2
    clear q1 q2 hn2
    go_enter Try.func37, Try.ntmps37
    go_wp2_with fail
    go_loopw [13] (fun i wr => ∃ k : Nat, k ≤ n1 ∧ i = .int .i64 k ∧ l.take k = r.take k ∧ Below w.heap.size w wr) (fun i _ => n1 - (intOf i).toNat)
    case atStart => exact ⟨0, by omega, rfl, by simp, Below.refl _ _⟩
    case round =>
      obtain ⟨k, hk, rfl, he, hb⟩ := hrel
      have HE := Lib.hid he
      clear he
      by_cases hlt : k < n1
      · have s1 := h1.below hb
        have s2 := h2.below hb
        obtain ⟨b1, o1, rfl, _, d1⟩ := s1.2 (by omega)
        obtain ⟨b2, o2, rfl, _, d2⟩ := s2.2 (by omega)
        have g1 := (d1 k hlt).trans (bl_get (by rw [Q1.out]; exact hlt))
        have g2 := (d2 k hlt).trans (bl_get (by rw [Q2.out]; exact hlt))
        have HT := Lib.hid (take_eq_snoc false (l := l) (r := r) (k := k) (by rw [Q1.out]; exact hlt) (by rw [Q2.out]; exact hlt))
        have HNE := Lib.hid (ne_of_at (k := k) false (l := l) (r := r))
        obtain ⟨x, ex⟩ : ∃ x, x = l[k]?.getD false := ⟨_, rfl⟩
        obtain ⟨y, ey⟩ : ∃ y, y = r[k]?.getD false := ⟨_, rfl⟩
        rw [← ex, ← ey] at HT HNE
        rw [← ex] at g1
        rw [← ey] at g2
        have z0 : (0 : Int) ≤ (k : Int) := by omega
        have z1 : (k : Int) < (n1 : Int) := by omega
        clear d1 d2 s1 s2 h1 h2 ex ey
        by_cases hxy : x = y
        · subst hxy
          have HX := Lib.hid (rfl : x = x)
          cases x <;> (
            go_wp2_with fail
            go_quiet (fail)
            go_wp2_with fail
            go_roundw
            case rel => exact ⟨k + 1, by omega, by go_num, HT.out.2 ⟨HE.out, HX.out⟩, hb.drewN _⟩
            case measure => simp [intOf]; omega)
        · obtain rfl : y = !x := by cases x <;> cases y <;> simp_all
          have HF := Lib.hid (HNE.out hxy)
          clear hxy HNE HT
          cases x <;> (
            go_wp2_with fail
            go_quiet (fail)
            go_wp2_with fail
            go_ret
            exact ⟨ret_bool HF.out.symm, hb.drewN _⟩)
      · obtain rfl : k = n1 := by omega
        go_wp2_with fail
        go_ret
        exact ⟨ret_bool (eq_of_take Q1.out Q2.out HE.out).symm, hb⟩
  · have hT : ((n1 : Int) != (n2 : Int)) = true := by rw [bne_iff_ne]; omega
    have HF := Lib.hid (ne_of_len (l := l) (r := r) (by omega))
    clear q1 q2 hne hn hn2
    go_enter Try.func37, Try.ntmps37
    go_wp2_with fail
    go_ret
    exact ⟨ret_bool HF.out.symm, Below.refl _ _⟩
end Go.Proofs.Ytiibopdnlmnkmaa.AskW
/- The walks of saucierlow.Bits. -/
namespace Go.Proofs.Ytiibopdnlmnkmaa.AskW
open Go.RowKit Go.Proofs.Ytiibopdnlmnkmaa Go.Proofs.Ytiibopdnlmnkmaa.Ask
theorem lowBits_any (A1 A2 : Option Addr) (n1 c1 n2 c2 : Nat) (l r : List Bool) (w : World) (h1 : Sl w w.heap.size A1 n1 (bl l)) (h2 : Sl w w.heap.size A2 n2 (bl r)) (hn : n1 ≤ 9223372036854775807) (hn2 : n2 ≤ 9223372036854775807) :
    Calls Try.prog 16 #[.slice A1 n1 c1, .slice A2 n2 c2] w fun e w' => e = .returned (.bool (l == r)) ∧ Below w.heap.size w w' := by
  have q1 : l.length = n1 := by simpa using h1.len
  have q2 : r.length = n2 := by simpa using h2.len
  by_cases hne : n1 = n2
  · subst hne
    have Q1 := Lib.hid q1
    have Q2 := Lib.hid q2
    clear q1 q2 hn2
    go_enter Try.func16, Try.ntmps16
    go_wp2_with fail
    go_loopw [13] (fun i wr => ∃ k : Nat, k ≤ n1 ∧ i = .int .i64 k ∧ l.take k = r.take k ∧ Below w.heap.size w wr) (fun i _ => n1 - (intOf i).toNat)
    case atStart => exact ⟨0, by omega, rfl, by simp, Below.refl _ _⟩
    case round =>
      obtain ⟨k, hk, rfl, he, hb⟩ := hrel
      have HE := Lib.hid he
      clear he
      by_cases hlt : k < n1
      · have s1 := h1.below hb
        have s2 := h2.below hb
        obtain ⟨b1, o1, rfl, _, d1⟩ := s1.2 (by omega)
        obtain ⟨b2, o2, rfl, _, d2⟩ := s2.2 (by omega)
        have g1 := (d1 k hlt).trans (bl_get (by rw [Q1.out]; exact hlt))
        have g2 := (d2 k hlt).trans (bl_get (by rw [Q2.out]; exact hlt))
        have HT := Lib.hid (take_eq_snoc false (l := l) (r := r) (k := k) (by rw [Q1.out]; exact hlt) (by rw [Q2.out]; exact hlt))
        have HNE := Lib.hid (ne_of_at (k := k) false (l := l) (r := r))
        obtain ⟨x, ex⟩ : ∃ x, x = l[k]?.getD false := ⟨_, rfl⟩
        obtain ⟨y, ey⟩ : ∃ y, y = r[k]?.getD false := ⟨_, rfl⟩
        rw [← ex, ← ey] at HT HNE
        rw [← ex] at g1
        rw [← ey] at g2
        have z0 : (0 : Int) ≤ (k : Int) := by omega
        have z1 : (k : Int) < (n1 : Int) := by omega
        clear d1 d2 s1 s2 h1 h2 ex ey
        by_cases hxy : x = y
        · subst hxy
          have HX := Lib.hid (rfl : x = x)
          cases x <;> (
            go_wp2_with fail
            go_quiet (fail)
            go_wp2_with fail
            go_roundw
            case rel => exact ⟨k + 1, by omega, by go_num, HT.out.2 ⟨HE.out, HX.out⟩, hb.drewN _⟩
            case measure => simp [intOf]; omega)
        · obtain rfl : y = !x := by cases x <;> cases y <;> simp_all
          have HF := Lib.hid (HNE.out hxy)
          clear hxy HNE HT
          cases x <;> (
            go_wp2_with fail
            go_quiet (fail)
            go_wp2_with fail
            go_ret
            exact ⟨ret_bool HF.out.symm, hb.drewN _⟩)
      · obtain rfl : k = n1 := by omega
        go_wp2_with fail
        go_ret
        exact ⟨ret_bool (eq_of_take Q1.out Q2.out HE.out).symm, hb⟩
  · have hT : ((n1 : Int) != (n2 : Int)) = true := by rw [bne_iff_ne]; omega
    have HF := Lib.hid (ne_of_len (l := l) (r := r) (by omega))
    clear q1 q2 hne hn hn2
    go_enter Try.func16, Try.ntmps16
    go_wp2_with fail
    go_ret
    exact ⟨ret_bool HF.out.symm, Below.refl _ _⟩
end Go.Proofs.Ytiibopdnlmnkmaa.AskW
/- The walks of bytes.Equal and ask.put. -/
namespace Go.Proofs.Ytiibopdnlmnkmaa.AskW
open Go.RowKit Go.Proofs.Ytiibopdnlmnkmaa Go.Proofs.Ytiibopdnlmnkmaa.Ask
theorem u8 : Elem Try.prog 51 5 1 := Elem.mk' (z := .int .u8 0) Try.underlying51 (by kernel_rfl) rfl
theorem u16 : Elem Try.prog 26 29 2 := Elem.mk' (z := .int .u16 0) Try.underlying26 (by kernel_rfl) rfl
theorem bytesEqual_any (A A2 : Option Addr) (n cap n2 cap2 B : Nat) (l r : List Nat) (w : World) (hs : Sl w B A n (bs l)) (hl : Bytes l) (hs2 : Sl w B A2 n2 (bs r)) (hr : Bytes r) :
    Calls Try.prog 41 #[.slice A n cap, .slice A2 n2 cap2] w fun e w' => e = .returned (.bool (l == r)) ∧ w = w' := by
  have H1 := run_string (P := Try.prog) w B 51 9 5 Try.underlying51 Try.underlying5 Try.underlying9 A n cap l hs
  have H2 := run_string (P := Try.prog) w B 51 9 5 Try.underlying51 Try.underlying5 Try.underlying9 A2 n2 cap2 r hs2
  have HE := Lib.hid (strB_eq l r hl hr)
  clear hs hs2
  go_enter Try.func41, Try.ntmps41
  go_wp2
  go_ret
  exact ⟨by rw [← HE.out]; rfl, rfl⟩
/-- Numbers of two bytes, the upper one first. -/
def two (n : Nat) : List Nat := [n / 256, n % 256]
def twos (l : List Nat) : List Nat := l.flatMap two
theorem twos_snoc {l : List Nat} {k : Nat} (h : k < l.length) : twos (l.take (k + 1)) = twos (l.take k) ++ two (l[k]?.getD 0) := by
  rw [take_snoc h]; simp [twos]
theorem twos_len (l : List Nat) : (twos l).length = 2 * l.length := by
  induction l with
  | nil => rfl
  | cons x l ih => simp [twos, two] at ih ⊢; omega
theorem two_bs (x : Nat) : [Value.int .u8 ((x / 256 : Nat) : Int), Value.int .u8 ((x % 256 : Nat) : Int)] = bs (two x) := rfl
/-- put: v is a row of the caller's own, made behind w0; the numbers lie in another block. -/
theorem askPut_any (w0 : World) (v : Value) (n : Nat) (xs : List Nat) (A : Option Addr) (m c : Nat) (l : List Nat) (w : World) (H : Has w0 w 5 v n (bs xs)) (hs : Sl w w.heap.size A m (ws l)) (hw : ∀ x ∈ l, x < 65536)
    (hap : ∀ b o, 0 < m → A = some ⟨b, o, none⟩ → v.ownBlock ≠ some b) (hn : n + 2 * m ≤ 1000000) :
    Calls Try.prog 66 #[v, .slice A m c] w fun e w' => ∃ v', e = .returned v' ∧ Has w0 w' 5 v' (n + 2 * m) (bs (xs ++ twos l)) := by
  have q1 : l.length = m := by simpa using hs.len
  have Q1 := Lib.hid q1
  have HW := Lib.hid hw
  clear q1 hw
  go_enter Try.func66, Try.ntmps66
  go_wp2_with fail
  go_loopw [0, 9] (fun x i wr => ∃ k : Nat, k ≤ m ∧ i = .int .i64 k ∧ Has w0 wr 5 x (n + 2 * k) (bs (xs ++ twos (l.take k))) ∧ Sl wr wr.heap.size A m (ws l) ∧ (∀ b o, 0 < m → A = some ⟨b, o, none⟩ → x.ownBlock ≠ some b)) (fun _ i _ => m - (intOf i).toNat)
  case atStart => exact ⟨0, by omega, rfl, by simpa [twos] using H, hs, hap⟩
  case round =>
    obtain ⟨k, hk, rfl, HX, hsk, hak⟩ := hrel
    by_cases hlt : k < m
    · obtain ⟨b, o, rfl, hbl, d1⟩ := hsk.2 (by omega)
      have g1 := (d1 k hlt).trans (ws_get (by rw [Q1.out]; exact hlt))
      have HT := Lib.hid (twos_snoc (l := l) (k := k) (by rw [Q1.out]; exact hlt))
      have hx : l[k]?.getD 0 < 65536 := by
        rw [List.getElem?_eq_getElem (by rw [Q1.out]; exact hlt)]; exact HW.out _ (List.getElem_mem _)
      obtain ⟨x, ex⟩ : ∃ x, x = l[k]?.getD 0 := ⟨_, rfl⟩
      rw [← ex] at HT g1 hx
      have z0 : (0 : Int) ≤ (k : Int) := by omega
      have z1 : (k : Int) < (m : Int) := by omega
      have hi : IntKind.u8.wrap ((x : Int) / 256) = ((x / 256 : Nat) : Int) := by rw [IntKind.wrap_u8]; omega
      have lo : IntKind.u8.wrap (x : Int) = ((x % 256 : Nat) : Int) := by rw [IntKind.wrap_u8]; omega
      have HS := Lib.hid hsk
      have HA := Lib.hid (hak b o (by omega) rfl)
      clear d1 ex hsk hak hap hs H
      go_wp2_with (first | (at_builtin; refine wpList_app u8 rfl (.tmp 13) (.tmp 19) rfl (HX.alloc _) rfl (Sl.new2 _ _ _ _) rfl (one2 _ _ _) (by omega) (by simp only [maxLen]; omega) ?_; intro v3 w3 H3 g3 o3))
      go_roundw
      case rel =>
        refine ⟨k + 1, by omega, by go_num, ?_, ?_, ?_⟩
        · have e : xs ++ twos (l.take (k + 1)) = xs ++ twos (l.take k) ++ two x := by rw [HT.out, List.append_assoc]
          rw [e, ← bs_append _ (two x), ← two_bs, show n + 2 * (k + 1) = n + 2 * k + 2 by omega]
          exact H3
        · refine (HS.out.to ((Below.refl _ _).new _)).grown g3 (fun b' o' h => ?_)
          injection h with h
          injection h with h _
          rw [← h]; exact HA.out
        · intro b' o' _ h
          injection h with h
          injection h with h _
          rw [← h]
          rcases o3 with o3 | o3
          · rw [o3]; exact HA.out
          · rw [o3]; intro e
            injection e with e
            simp at e
            omega
      case measure => simp [intOf]; omega
    · obtain rfl : k = m := by omega
      go_wp2_with fail
      go_ret
      refine ⟨_, rfl, ?_⟩
      rw [List.take_of_length_le (by rw [Q1.out]; omega)] at HX
      exact HX
end Go.Proofs.Ytiibopdnlmnkmaa.AskW
/- The walk of ask.Same. -/
namespace Go.Proofs.Ytiibopdnlmnkmaa.AskW
open Go.RowKit Go.Proofs.Ytiibopdnlmnkmaa Go.Proofs.Ytiibopdnlmnkmaa.Ask
theorem nat_beq (a b : Nat) : ((a == b) : Bool) = ((a : Int) == (b : Int)) := by rw [Bool.eq_iff_iff]; simp; omega
end Go.Proofs.Ytiibopdnlmnkmaa.AskW
