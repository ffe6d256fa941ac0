/- The walk of ask.find. -/
import Derived.Test.YtpajpcaninjhfaaAskA
import Derived.Test.YtpajpcaninjhfaaMapN
import Derived.Test.YtpajpcaninjhfaaRow
namespace Go.Proofs.Ytpajpcaninjhfaa.AskW
open Go.RowKit Go.Proofs.Ytpajpcaninjhfaa Go.Proofs.Ytpajpcaninjhfaa.Ask
def fldOf (f : Nat) : Fld := (fld f).getD ⟨0, false, 0, 0⟩
def fv (m : Nat) (t : Bool) (b x : Nat) : Value := .agg #[.int .i64 m, .bool t, .int .u8 b, .int .u8 x]
def tab : Array MapEntry := #[⟨.int .u8 1, fv 2000 false 0 0, 0⟩, ⟨.int .u8 2, fv 2000 false 0 0, 1⟩, ⟨.int .u8 3, fv 125 false 0 0, 2⟩, ⟨.int .u8 4, fv 125 false 0 0, 3⟩, ⟨.int .u8 5, fv 0 false 1 0, 4⟩, ⟨.int .u8 6, fv 0 false 0 1, 5⟩, ⟨.int .u8 15, fv 1968 false 2 0, 6⟩, ⟨.int .u8 16, fv 123 false 0 2, 7⟩, ⟨.int .u8 23, fv 125 true 0 3, 8⟩]
theorem tab_find (f : Nat) : ∃ r, Instr.findNow (.int .u8) (.int .u8 f) tab.toList 0 = some r ∧ (r.map (·.2)).getD (fv 0 false 0 0) = .agg #[.int .i64 (fldOf f).many, .bool (fldOf f).to, .int .u8 (fldOf f).bits, .int .u8 (fldOf f).words] ∧ r.isSome = (fld f).isSome := by
  by_cases h1 : f = 1
  · subst h1; exact ⟨_, rfl, rfl, rfl⟩
  by_cases h2 : f = 2
  · subst h2; exact ⟨_, rfl, rfl, rfl⟩
  by_cases h3 : f = 3
  · subst h3; exact ⟨_, rfl, rfl, rfl⟩
  by_cases h4 : f = 4
  · subst h4; exact ⟨_, rfl, rfl, rfl⟩
  by_cases h5 : f = 5
  · subst h5; exact ⟨_, rfl, rfl, rfl⟩
  by_cases h6 : f = 6
  · subst h6; exact ⟨_, rfl, rfl, rfl⟩
  by_cases h7 : f = 15
  · subst h7; exact ⟨_, rfl, rfl, rfl⟩
  by_cases h8 : f = 16
  · subst h8; exact ⟨_, rfl, rfl, rfl⟩
  by_cases h9 : f = 23
  · subst h9; exact ⟨_, rfl, rfl, rfl⟩
  have hn : fld f = none := by simp [fld, h1, h2, h3, h4, h5, h6, h7, h8, h9]
  have hb : ∀ c : Nat, f ≠ c → ((f : Int) == (c : Int)) = false := fun c h => by rw [beq_eq_false_iff_ne]; omega
  have b1 : ((f : Int) == 1) = false := hb 1 h1
  have b2 : ((f : Int) == 2) = false := hb 2 h2
  have b3 : ((f : Int) == 3) = false := hb 3 h3
  have b4 : ((f : Int) == 4) = false := hb 4 h4
  have b5 : ((f : Int) == 5) = false := hb 5 h5
  have b6 : ((f : Int) == 6) = false := hb 6 h6
  have b7 : ((f : Int) == 15) = false := hb 15 h7
  have b8 : ((f : Int) == 16) = false := hb 16 h8
  have b9 : ((f : Int) == 23) = false := hb 23 h9
  refine ⟨none, ?_, ?_, ?_⟩
  · simp only [tab, Instr.findNow, Instr.sameNow, if_true]
    simp only [b1, b2, b3, b4, b5, b6, b7, b8, b9]
  · simp [fldOf, hn, fv]
  · simp [hn]
theorem map_at2 (w : World) (o1 o : Obj) : ((w.alloc o1).alloc o).heap[w.heap.size + 1]? = some o := by simpa using heap_alloc_new (w.alloc o1) o
theorem zero_fld (w : World) : (zeroValue 55).run Try.prog w = .ok (fv 0 false 0 0) w := by kernel_rfl
set_option maxHeartbeats 4000000 in
theorem find_any (f : Nat) (w : World) :
    Calls Try.prog 29 #[.int .u8 f] w
      fun e w' => e = .returned (.tuple #[.agg #[.int .i64 (fldOf f).many, .bool (fldOf f).to, .int .u8 (fldOf f).bits, .int .u8 (fldOf f).words], .bool (fld f).isSome]) ∧ Below w.heap.size w w' := by
  obtain ⟨r, hr1, hr2, hr3⟩ := tab_find f
  have HR := Lib.hid (And.intro hr1 (And.intro hr2 hr3))
  clear hr1 hr2 hr3
  obtain ⟨D, hD⟩ : ∃ D, D = fldOf f := ⟨_, rfl⟩
  obtain ⟨O, hO⟩ : ∃ O, O = (fld f).isSome := ⟨_, rfl⟩
  rw [← hD, ← hO] at HR ⊢
  clear hD hO
  have hmm := @run_makeMap Try.prog
  have h1 := map_at2 w (.cells #[.int .i64 0, .bool false, .int .u8 0, .int .u8 0] 55) (.map #[] 0)
  have hB : Below (w.heap.size + 1) ((w.alloc (.cells #[.int .i64 0, .bool false, .int .u8 0, .int .u8 0] 55)).alloc (.map #[] 0)) ((w.alloc (.cells #[.int .i64 0, .bool false, .int .u8 0, .int .u8 0] 55)).alloc (.map #[] 0)) := Below.refl _ _
  go_enter Try.func29, Try.ntmps29
  go_wp2_with (first
    | (refine wpList_insert_new rfl (.tmp 7) _ _ rfl Try.underlying64 Try.underlying5 rfl h1 _ _ rfl rfl rfl ?_; intro w1 h2 g1; have hB := hB.ins h1 g1; have h1 := h2; clear h2 g1)
    | (refine wpList_lookup_now rfl (.tmp 19) (.tmp 20) rfl Try.underlying64 Try.underlying5 rfl h1 _ rfl HR.out.1 (zero_fld _) HR.out.2.1 HR.out.2.2 ?_; have hrow := hB.row (Nat.lt_succ_self _) (row_alloc (heap_alloc_new w _) _); have hbel := hB.mono (Nat.le_succ _); clear hB)
    | (refine wpList_store_row rfl 55 (.tmp 2) _ rfl w.heap.size #[.int .i64 D.many, .bool D.to, .int .u8 D.bits, .int .u8 D.words] rfl rfl 55 _ (row_alloc hrow _) (by kernel_rfl) rfl (by simp [Value.oneCell']) ?_))
  refine bodyPost_row_tmp rfl w.heap.size 55 #[.int .i64 D.many, .bool D.to, .int .u8 D.bits, .int .u8 D.words] (0, 0) _ (.bool O) rfl (setRow_heap _ _ _ _ _ _ (row_alloc hrow _)) Try.underlying55 rfl (by kernel_rfl) rfl rfl ⟨rfl, ?_⟩
  have h0 : Below w.heap.size w w1 := (((Below.refl _ _).new _).alloc (by simp) _).trans hbel
  exact below_setRow (h0.alloc h0.size _) (Nat.le_refl _) _
end Go.Proofs.Ytpajpcaninjhfaa.AskW
