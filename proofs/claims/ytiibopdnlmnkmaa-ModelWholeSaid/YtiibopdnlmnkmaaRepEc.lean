/- What an echo, a wrong reply and another reply are to a request: plain facts. -/
import Derived.Test.YtiibopdnlmnkmaaRepRT
import Derived.Test.YtiibopdnlmnkmaaRepK
set_option linter.unusedVariables false
set_option linter.unusedSimpArgs false
namespace Go.Proofs.Ytiibopdnlmnkmaa.AskW
open Go.RowKit Go.Proofs.Ytiibopdnlmnkmaa Go.Proofs.Ytiibopdnlmnkmaa.Ask
theorem fits_not {q : Req} (h : right q = false) (r : Rep) : fitsF q r = false := by unfold fitsF; rw [h]; rfl
theorem echo_not {q : Req} (h : right q = false) : echoF q = (rep0, false) := by unfold echoF; rw [if_neg (by rw [h]; decide)]
theorem rright_wrong (f x : Nat) (h : f < 128) : rright ⟨f, x, [], [], 0, 0⟩ = decide (1 ≤ x ∧ x ≤ 4) := by
  by_cases hx : x = 0
  · subst hx
    unfold rright
    cases hk : kdOf ⟨f, 0, [], [], 0, 0⟩ with
    | none => rfl
    | some k =>
      unfold kdOf at hk
      rw [if_neg (by simp)] at hk
      rcases kdBy_cases hk with ⟨rfl, _⟩ | ⟨_, ⟨rfl, _⟩ | ⟨rfl, _⟩ | ⟨rfl, _⟩ | ⟨rfl, _⟩ | ⟨rfl, _⟩ | ⟨rfl, _⟩⟩ <;> simp [Kd.right]
  · unfold rright kdOf
    rw [if_pos hx]
    simp [Kd.right, h]
theorem right_fld {q : Req} (h : right q = true) : q.f = 1 ∨ q.f = 2 ∨ q.f = 3 ∨ q.f = 4 ∨ q.f = 5 ∨ q.f = 6 ∨ q.f = 15 ∨ q.f = 16 ∨ q.f = 23 := fld_cases (right_some h)
theorem fits_wrong {q : Req} (h : right q = true) (x : Nat) : fitsF q ⟨q.f % 128, x, [], [], 0, 0⟩ = decide (1 ≤ x ∧ x ≤ 4) := by
  have hf := right_fld h
  have e : q.f % 128 = q.f := by omega
  unfold fitsF
  rw [h, e, rright_wrong _ x (by omega)]
  by_cases hx : 1 ≤ x ∧ x ≤ 4
  · have : (x != 0) = true := by rw [bne_iff_ne]; omega
    simp [hx, this]
  · simp [hx]
theorem fits_other {q : Req} (h : right q = true) (x : Nat) : fitsF q ⟨(q.f + 1) % 256 % 128, x, [], [], 0, 0⟩ = false := by
  have hf := right_fld h
  have e : (q.f == (q.f + 1) % 256 % 128) = false := by rw [beq_eq_false_iff_ne]; omega
  unfold fitsF
  dsimp only
  rw [e, Bool.false_and, Bool.and_false, Bool.and_false]
theorem echo_is {q : Req} (h : right q = true) : (echoF q).2 = decide (q.f = 5 ∨ q.f = 6 ∨ q.f = 15 ∨ q.f = 16) := by
  unfold echoF
  rw [if_pos h]
  by_cases h5 : q.f = 5
  · simp [h5]
  by_cases h6 : q.f = 6
  · simp [h6]
  by_cases h15 : q.f = 15 ∨ q.f = 16
  · simp [h5, h6, h15]
  · simp [h5, h6, h15]
theorem repSame_iff (r e : Rep) : repSameF r e = true ↔ r = e := by
  obtain ⟨f, x, B, W, a, m⟩ := r
  obtain ⟨f2, x2, B2, W2, a2, m2⟩ := e
  unfold repSameF
  simp only [Bool.and_eq_true, beq_iff_eq, Rep.mk.injEq]
  constructor
  · rintro ⟨⟨⟨⟨⟨e1, e2⟩, e3⟩, e4⟩, e5⟩, e6⟩
    exact ⟨e1, e2, e5, e6, e3, e4⟩
  · rintro ⟨e1, e2, e5, e6, e3, e4⟩
    exact ⟨⟨⟨⟨⟨e1, e2⟩, e3⟩, e4⟩, e5⟩, e6⟩
theorem echo_right {q : Req} (h : right q = true) (hi : (echoF q).2 = true) : rright (echoF q).1 = true ∧ (echoF q).1.f = q.f ∧ (echoF q).1.at' = q.at' ∧ (echoF q).1.x = 0 := by
  cases shape_of h with
  | ask m e hf hm hb =>
    rw [echo_is h, decide_eq_true_iff] at hi
    omega
  | bit x e hb =>
    have E : echoF q = (⟨5, 0, [x], [], q.at', 0⟩, true) := by unfold echoF; rw [if_pos h, if_pos (by rw [e])]; rw [e]
    rw [E]
    exact ⟨by simp [rright, kdOf, kdBy, Kd.right], by rw [e], rfl, rfl⟩
  | word x e hb =>
    have E : echoF q = (⟨6, 0, [], [x], q.at', 0⟩, true) := by unfold echoF; rw [if_pos h, if_neg (by rw [e]; simp), if_pos (by rw [e])]; rw [e]
    rw [E]
    exact ⟨by simp [rright, kdOf, kdBy, Kd.right], by rw [e], rfl, rfl⟩
  | bits e hm hb =>
    have E : echoF q = (⟨15, 0, [], [], q.at', q.bits.length⟩, true) := by unfold echoF; rw [if_pos h, if_neg (by rw [e]; simp), if_neg (by rw [e]; simp), if_pos (by rw [e]; simp)]; rw [e]
    rw [E]
    exact ⟨by simp [rright, kdOf, kdBy, Kd.right]; omega, by rw [e], rfl, rfl⟩
  | words e hm hb =>
    have E : echoF q = (⟨16, 0, [], [], q.at', q.words.length⟩, true) := by unfold echoF; rw [if_pos h, if_neg (by rw [e]; simp), if_neg (by rw [e]; simp), if_pos (by rw [e]; simp)]; rw [e]
    rw [E]
    exact ⟨by simp [rright, kdOf, kdBy, Kd.right]; omega, by rw [e], rfl, rfl⟩
  | swap e hm hw hb =>
    rw [echo_is h, decide_eq_true_iff] at hi
    rw [e] at hi
    simp at hi
theorem fits_same {q : Req} (h : right q = true) (hi : (echoF q).2 = true) (r : Rep) (hx : r.x = 0) : fitsF q r = repSameF (echoF q).1 r := by
  obtain ⟨h1, h2, h3, h4⟩ := echo_right h hi
  rw [Bool.eq_iff_iff, repSame_iff]
  unfold fitsF
  rw [h, hi, hx]
  simp only [Bool.true_and, Bool.and_eq_true, bne_self_eq_false, Bool.false_or, if_pos, repSame_iff, beq_iff_eq]
  constructor
  · rintro ⟨_, _, e⟩; exact e.symm
  · intro e; rw [← e]; exact ⟨h1, h2.symm, rfl⟩
theorem fits_echo {q : Req} (h : right q = true) (hi : (echoF q).2 = true) : fitsF q (echoF q).1 = true := by
  rw [fits_same h hi _ (echo_right h hi).2.2.2]
  exact (repSame_iff _ _).2 rfl
end Go.Proofs.Ytiibopdnlmnkmaa.AskW
