/- Merged: AskW9 AskW10. -/
import Derived.Test.YtiibopdnlmnkmaaAG8
import Derived.Deep.RegionHeld3
/- The walk of saucierref02.Parse: where one bit is written. -/
set_option linter.unusedVariables false
set_option linter.unusedSimpArgs false
namespace Go.Proofs.Ytiibopdnlmnkmaa.AskW
open Go.RowKit Go.Proofs.Ytiibopdnlmnkmaa Go.Proofs.Ytiibopdnlmnkmaa.Ask
theorem Pt_a (w : World) (d f a : Nat) : Pt w (((w.alloc (.cells #[.int .u8 0, .int .u16 0, .int .u16 0, .int .u16 0, .slice none 0 0, .slice none 0 0] 31)).drewN d).alloc (.cells #[.int .u8 (f : Nat), .int .u16 (a : Nat), .int .u16 0, .int .u16 0, .slice none 0 0, .slice none 0 0] 31)) (w.heap.size + 1) #[.int .u8 (f : Nat), .int .u16 (a : Nat), .int .u16 0, .int .u16 0, .slice none 0 0, .slice none 0 0] :=
  ⟨((((Below.refl _ _).new _).drewN _).new _), row_alloc (w := (w.alloc _).drewN d) (heap_alloc_new w _) _, by simpa using heap_alloc_new ((w.alloc (.cells #[.int .u8 0, .int .u16 0, .int .u16 0, .int .u16 0, .slice none 0 0, .slice none 0 0] 31)).drewN d) (.cells #[.int .u8 (f : Nat), .int .u16 (a : Nat), .int .u16 0, .int .u16 0, .slice none 0 0, .slice none 0 0] 31), Nat.lt_succ_self _⟩
theorem Pt_b (w : World) (d f a : Nat) : Pt w (((((((((w.alloc (.cells #[.int .u8 0, .int .u16 0, .int .u16 0, .int .u16 0, .slice none 0 0, .slice none 0 0] 31)).alloc (.cells #[.int .u8 0, .int .u16 0, .int .u16 0, .int .u16 0, .slice none 0 0, .slice none 0 0] 31)).drewN d).setCell ⟨w.heap.size + 1, 0, none⟩ (.int .u8 (f : Nat))).setCell ⟨w.heap.size + 1, 1, none⟩ (.int .u16 (a : Nat))).setCell ⟨w.heap.size + 1, 2, none⟩ (.int .u16 0)).setCell ⟨w.heap.size + 1, 3, none⟩ (.int .u16 0)).setCell ⟨w.heap.size + 1, 4, none⟩ (.slice none 0 0)).setCell ⟨w.heap.size + 1, 5, none⟩ (.slice none 0 0)) (w.heap.size + 1) #[.int .u8 (f : Nat), .int .u16 (a : Nat), .int .u16 0, .int .u16 0, .slice none 0 0, .slice none 0 0] := by
  have h0 : Pt w (((w.alloc (.cells #[.int .u8 0, .int .u16 0, .int .u16 0, .int .u16 0, .slice none 0 0, .slice none 0 0] 31)).alloc (.cells #[.int .u8 0, .int .u16 0, .int .u16 0, .int .u16 0, .slice none 0 0, .slice none 0 0] 31)).drewN d) (w.heap.size + 1) #[.int .u8 0, .int .u16 0, .int .u16 0, .int .u16 0, .slice none 0 0, .slice none 0 0] :=
    ⟨((((Below.refl _ _).new _).new _).drewN _), row_alloc (heap_alloc_new w _) _, heap_alloc2_new w _ _, Nat.lt_succ_self _⟩
  exact (((((h0.set 0 (.int .u8 (f : Nat))).set 1 (.int .u16 (a : Nat))).set 2 (.int .u16 0)).set 3 (.int .u16 0)).set 4 (.slice none 0 0)).set 5 (.slice none 0 0)
theorem right_words {r : Req} (h : right r = true) : r.words.length ≤ 123 := by
  cases shape_of h with
  | ask m h hf hm hb => rw [h]; simp
  | bit x h hb => rw [h]; simp
  | word x h hb => rw [h]; simp
  | bits h hm hb => rw [h]; simp
  | words h hm hb => exact hm.2
  | swap h hm hw hb => omega
theorem Pt.drew {w W : World} {k : Nat} {cs : Array Value} (S : Pt w W k cs) : Pt w W.drew k cs := ⟨S.bel.drew, S.rz, S.ra, S.hk⟩
end Go.Proofs.Ytiibopdnlmnkmaa.AskW
/- The walk of saucierref02.Parse: where one word is written, or what is read. -/
set_option linter.unusedVariables false
set_option linter.unusedSimpArgs false
namespace Go.Proofs.Ytiibopdnlmnkmaa.AskW
open Go.RowKit Go.Proofs.Ytiibopdnlmnkmaa Go.Proofs.Ytiibopdnlmnkmaa.Ask
end Go.Proofs.Ytiibopdnlmnkmaa.AskW
