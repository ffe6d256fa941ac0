/- The walk of saucierref03.Fits. -/
import Derived.Test.YtjfhfgchglaoiaaRepW8
import Derived.Test.YtjfhfgchglaoiaaRepW2
import Derived.Test.YtjfhfgchglaoiaaRepW1
import Derived.Test.YtjfhfgchglaoiaaRepEc
set_option linter.unusedVariables false
set_option linter.unusedSimpArgs false
namespace Go.Proofs.Ytjfhfgchglaoiaa.AskW
open Go.RowKit Go.Proofs.Ytjfhfgchglaoiaa Go.Proofs.Ytjfhfgchglaoiaa.Ask
theorem any_none {B : List Bool} {m : Nat} (h : ∀ j, m ≤ j → j < B.length → B[j]?.getD false = false) : (B.drop m).any id = false := by
  rw [List.any_eq_false]
  intro x hx
  obtain ⟨i, hi, e⟩ := List.mem_iff_getElem.1 hx
  rw [List.getElem_drop] at e
  rw [List.length_drop] at hi
  have := h (m + i) (by omega) (by omega)
  rw [List.getElem?_eq_getElem (by omega)] at this
  simp at this
  rw [← e]
  simp [this]
theorem any_some {B : List Bool} {m k : Nat} (h1 : m ≤ k) (h2 : B[k]?.getD false = true) : (B.drop m).any id = true := by
  refine any_get (k := k - m) ?_
  rw [List.getElem?_drop, show m + (k - m) = k by omega]
  exact h2
theorem repSameF_comm (r e : Rep) : repSameF r e = repSameF e r := by
  rw [Bool.eq_iff_iff, repSame_iff, repSame_iff]
  exact ⟨fun h => h.symm, fun h => h.symm⟩
theorem fits_words {q : Req} {r : Rep} (h1 : right q = true) (h2 : rright r = true) (h3 : q.f = r.f) (h4 : r.x = 0) (h5 : (echoF q).2 = false) (h6 : 2 < q.f) : fitsF q r = (r.words.length == q.many) := by
  have hf := right_fld h1
  have hn := echo_is h1
  rw [h5] at hn
  have hn := of_decide_eq_false hn.symm
  obtain ⟨f, x, B, W, a, m⟩ := r
  dsimp only at h3 h4 ⊢
  subst h4
  have hw : 0 < W.length := by
    have hf2 : f = 3 ∨ f = 4 ∨ f = 23 := by omega
    rcases hf2 with rfl | rfl | rfl <;> simp [rright, kdOf, kdBy, Kd.right] at h2 <;> omega
  unfold fitsF
  rw [h1, h2, h5, h3]
  simp [hw]
theorem fits_bits {q : Req} {r : Rep} (h1 : right q = true) (h2 : rright r = true) (h3 : q.f = r.f) (h4 : r.x = 0) (h6 : ¬ 2 < q.f) : fitsF q r = (decide (q.many ≤ r.bits.length) && decide (r.bits.length < q.many + 8) && !((r.bits.drop q.many).any id)) ∧ r.bits.length ≤ 2000 ∧ (echoF q).2 = false := by
  have hf := right_fld h1
  have hn : (echoF q).2 = false := by rw [echo_is h1, decide_eq_false_iff_not]; omega
  obtain ⟨f, x, B, W, a, m⟩ := r
  dsimp only at h3 h4 ⊢
  subst h4
  have hw : W = [] ∧ B.length % 8 = 0 ∧ B.length ≤ 2000 := by
    have hf2 : f = 1 ∨ f = 2 := by omega
    rcases hf2 with rfl | rfl <;> simp [rright, kdOf, kdBy, Kd.right] at h2 <;> exact ⟨h2.2.2.2.2.2, h2.2.2.1, h2.2.1⟩
  refine ⟨?_, hw.2.2, hn⟩
  have e : (B.length == (q.many + 7) / 8 * 8) = (decide (q.many ≤ B.length) && decide (B.length < q.many + 8)) := by
    rw [Bool.eq_iff_iff]; simp; omega
  unfold fitsF
  rw [h1, h2, hn, h3, hw.1]
  simp [← e]
theorem fits_f {q : Req} {r : Rep} (h : q.f ≠ r.f) : fitsF q r = false := by
  unfold fitsF
  rw [show (q.f == r.f) = false by rw [beq_eq_false_iff_ne]; exact h, Bool.false_and, Bool.and_false, Bool.and_false]
theorem fits_x {q : Req} {r : Rep} (h1 : right q = true) (h2 : rright r = true) (h3 : q.f = r.f) (h4 : r.x ≠ 0) : fitsF q r = true := by
  unfold fitsF
  rw [h1, h2, h3]
  simp [h4]
theorem fits_is {q : Req} {r : Rep} (h1 : right q = true) (h2 : rright r = true) (h3 : q.f = r.f) (h4 : r.x = 0) (h5 : (echoF q).2 = true) : fitsF q r = repSameF (echoF q).1 r := by
  unfold fitsF
  rw [h1, h2, h3, h4, h5, repSameF_comm]
  simp
theorem fits_r {q : Req} {r : Rep} (h2 : rright r = false) : fitsF q r = false := by
  unfold fitsF
  rw [h2, Bool.false_and, Bool.and_false]
end Go.Proofs.Ytjfhfgchglaoiaa.AskW
