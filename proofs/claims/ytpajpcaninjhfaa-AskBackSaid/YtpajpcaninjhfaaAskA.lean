/- The walks of layer 2's leaves: fits, counted, level, the fields' right. -/
import Derived.Test.YtpajpcaninjhfaaChecked
import Derived.Test.YtpajpcaninjhfaaAskMath
import Derived.Test.YtpajpcaninjhfaaMem
import Derived.Laws.BitsAllLaws
namespace Go.Proofs.Ytpajpcaninjhfaa.AskW
open Go.RowKit Go.Proofs.Ytpajpcaninjhfaa Go.Proofs.Ytpajpcaninjhfaa.Ask
theorem ret_bool {a b : Bool} (h : a = b) : Ending.returned (.bool a) = .returned (.bool b) := by rw [h]
theorem fits_any (l n m : Nat) (hm : m < 65536) (w : World) :
    Calls Try.prog 39 #[.int .u8 l, .int .i64 n, .int .u16 m] w fun e w' => e = .returned (.bool (fits l n m)) ∧ w = w' := by
  have HF := Lib.hid (show fits l n m = if l = 1 then n == 1 else if l = 2 then n == m else if l = 3 then decide (1 ≤ n ∧ n ≤ 121) else n == 0 from rfl)
  have hmw : IntKind.i64.wrap (m : Int) = m := by rw [IntKind.wrap_i64]; omega
  have e1 : ((l : Int) == 1) = decide (l = 1) := by rw [Bool.eq_iff_iff]; simp; omega
  have e2 : ((l : Int) == 2) = decide (l = 2) := by rw [Bool.eq_iff_iff]; simp; omega
  have e3 : ((l : Int) == 3) = decide (l = 3) := by rw [Bool.eq_iff_iff]; simp; omega
  by_cases h1 : l = 1
  · subst h1
    go_enter Try.func39, Try.ntmps39
    go_wp2
    go_ret
    refine ⟨ret_bool ?_, rfl⟩
    rw [HF.out, Bool.eq_iff_iff]; simp; omega
  by_cases h2 : l = 2
  · subst h2
    go_enter Try.func39, Try.ntmps39
    go_wp2
    go_ret
    refine ⟨ret_bool ?_, rfl⟩
    rw [HF.out, Bool.eq_iff_iff]; simp; omega
  by_cases h3 : l = 3
  · subst h3
    by_cases hn : 1 ≤ (n : Int)
    · go_enter Try.func39, Try.ntmps39
      go_wp2
      go_ret
      refine ⟨ret_bool ?_, rfl⟩
      rw [HF.out, Bool.eq_iff_iff]; simp; omega
    · go_enter Try.func39, Try.ntmps39
      go_wp2
      go_ret
      refine ⟨ret_bool ?_, rfl⟩
      rw [HF.out, Bool.eq_iff_iff]; simp; omega
  · have f1 : ((l : Int) == 1) = false := by rw [e1]; simp [h1]
    have f2 : ((l : Int) == 2) = false := by rw [e2]; simp [h2]
    have f3 : ((l : Int) == 3) = false := by rw [e3]; simp [h3]
    have H := Lib.hid (And.intro h1 (And.intro h2 h3))
    clear e1 e2 e3 h1 h2 h3
    go_enter Try.func39, Try.ntmps39
    go_wp2
    go_ret
    refine ⟨ret_bool ?_, rfl⟩
    rw [HF.out, if_neg H.out.1, if_neg H.out.2.1, if_neg H.out.2.2, Bool.eq_iff_iff]; simp
theorem level_any (b : Bool) (w : World) :
    Calls Try.prog 41 #[.bool b] w fun e w' => e = .returned (.int .u16 (if b then 65280 else 0 : Nat)) ∧ w = w' := by
  cases b <;>
  · go_enter Try.func41, Try.ntmps41
    go_wp2
    go_ret
    exact ⟨rfl, rfl⟩
theorem counted_any (a : Nat) (t : Bool) (b c : Nat) (w : World) :
    Calls Try.prog 42 #[.agg #[.int .i64 a, .bool t, .int .u8 b, .int .u8 c]] w fun e w' => e = .returned (.bool (decide (2 ≤ b) || decide (2 ≤ c))) ∧ Below w.heap.size w w' := by
  by_cases hb : (2 : Int) ≤ b
  · have HF := Lib.hid (show true = (decide (2 ≤ b) || decide (2 ≤ c)) from by rw [decide_eq_true (show 2 ≤ b by omega)]; rfl)
    go_enter Try.func42, Try.ntmps42
    go_wp2
    go_ret
    exact ⟨ret_bool HF.out, (Below.refl _ _).new _⟩
  · have HF := Lib.hid (show decide ((2 : Int) ≤ c) = (decide (2 ≤ b) || decide (2 ≤ c)) from by rw [decide_eq_false (show ¬ 2 ≤ b by omega), Bool.false_or, decide_eq_decide]; omega)
    go_enter Try.func42, Try.ntmps42
    go_wp2
    go_ret
    exact ⟨ret_bool HF.out, (Below.refl _ _).new _⟩
end Go.Proofs.Ytpajpcaninjhfaa.AskW
