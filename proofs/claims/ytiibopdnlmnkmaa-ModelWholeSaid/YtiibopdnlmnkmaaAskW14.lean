/- saucierref02.Parse and Look as one contract each. -/
import Derived.Test.YtiibopdnlmnkmaaAG9
import Derived.Test.YtiibopdnlmnkmaaAskW11
import Derived.Test.YtiibopdnlmnkmaaAG10
set_option linter.unusedVariables false
set_option linter.unusedSimpArgs false
namespace Go.Proofs.Ytiibopdnlmnkmaa.AskW
open Go.RowKit Go.Proofs.Ytiibopdnlmnkmaa Go.Proofs.Ytiibopdnlmnkmaa.Ask
theorem look_wrong {xs : List Nat} (h : (lookF xs).2 ≠ 0) : lookF xs = if xs.length = 0 then (bare 0, 1) else if (fld (xs[0]?.getD 0)).isSome then (bare (xs[0]?.getD 0), 3) else (bare (xs[0]?.getD 0), 1) := by
  unfold lookF at h ⊢
  by_cases h0 : xs.length = 0
  · rw [if_pos h0, if_pos h0]
  rw [if_neg h0] at h ⊢
  rw [if_neg h0]
  by_cases h1 : (fld (xs[0]?.getD 0)).isSome = false
  · rw [if_pos h1, if_neg (by rw [h1]; decide)]
  rw [if_neg h1] at h ⊢
  have h1' : (fld (xs[0]?.getD 0)).isSome = true := by
    cases hh : (fld (xs[0]?.getD 0)).isSome
    · exact absurd hh h1
    · rfl
  by_cases h2 : 253 < xs.length
  · rw [if_pos h2, if_pos h1']
  rw [if_neg h2] at h ⊢
  by_cases h3 : (right (rd xs) && bytes (rd xs) == xs) = true
  · rw [if_pos h3] at h; exact absurd rfl h
  · rw [if_neg h3, if_pos h1']
theorem fld_lo {f : Nat} (h : 1 ≤ f ∧ f ≤ 6) : (fld f).isSome = true := by
  obtain h | h | h | h | h | h : f = 1 ∨ f = 2 ∨ f = 3 ∨ f = 4 ∨ f = 5 ∨ f = 6 := by omega
  all_goals (subst h; rfl)
end Go.Proofs.Ytiibopdnlmnkmaa.AskW
