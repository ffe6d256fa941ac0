/- No first part of a right reply's bytes, and nothing more, is one. -/
import Derived.Test.YtcinnjihghpngaaRepRT
set_option linter.unusedVariables false
set_option linter.unusedSimpArgs false
namespace Go.Proofs.Ytcinnjihghpngaa.AskW
open Go.RowKit Go.Proofs.Ytcinnjihghpngaa Go.Proofs.Ytcinnjihghpngaa.Ask
/-- How many bytes a reply of a kind has, by its second byte. -/
def Kd.long (k : Kd) (y : Nat) : Nat := match k with | .exc => 2 | .bitsR => 2 + y | .wordsR => 2 + y | _ => 5
theorem kd_long {r : Rep} {k : Kd} (h : k.right r = true) : (k.bytes r).length = k.long ((k.bytes r)[1]?.getD 0) := by
  obtain ⟨f, x, B, W, a, m⟩ := r
  cases k
  · rfl
  · simp [Kd.right] at h
    obtain ⟨h1, h2, h3, _⟩ := h
    simp [Kd.bytes, Kd.long, pack_length]; omega
  · simp [Kd.right] at h
    obtain ⟨h1, h2, _⟩ := h
    simp [Kd.bytes, Kd.long, twos_len]; omega
  all_goals simp [Kd.bytes, Kd.long, two]
theorem rlong {r : Rep} (h : rright r = true) : ∃ k, kdBy ((rbytes r)[0]?.getD 0) = some k ∧ (rbytes r).length = k.long ((rbytes r)[1]?.getD 0) := by
  obtain ⟨k, hk, hr, hb⟩ := rright_kd h
  rw [hb]
  exact ⟨k, (kd_back hk hr).1, kd_long hr⟩
theorem no_rprefix {r s : Rep} (hr : rright r = true) (hs : rright s = true) {k : Nat} (h : rbytes s = (rbytes r).take k) : (rbytes r).length ≤ k := by
  obtain ⟨k1, e1, l1⟩ := rlong hr
  obtain ⟨k2, e2, l2⟩ := rlong hs
  have hl := (rbytes_len hs).1
  have hk : 2 ≤ k := by rw [h, List.length_take] at hl; omega
  have g0 : (rbytes s)[0]? = (rbytes r)[0]? := by rw [h, List.getElem?_take, if_pos (by omega)]
  have g1 : (rbytes s)[1]? = (rbytes r)[1]? := by rw [h, List.getElem?_take, if_pos (by omega)]
  rw [g0, e1] at e2
  injection e2 with e2
  rw [g1, ← e2, ← l1, h, List.length_take] at l2
  omega
theorem rparse_prefix {r : Rep} (hr : rright r = true) {k : Nat} (hk : k < (rbytes r).length) : rparse ((rbytes r).take k) = (rep0, 13) := by
  rcases rparse_cases ((rbytes r).take k) with ⟨s, hs, hb, _⟩ | h
  · have := no_rprefix hr hs hb; omega
  · exact h
theorem rparse_more {r : Rep} (hr : rright r = true) {l : List Nat} (hl : l ≠ []) : rparse (rbytes r ++ l) = (rep0, 13) := by
  rcases rparse_cases (rbytes r ++ l) with ⟨s, hs, hb, _⟩ | h
  · have h1 : rbytes r = (rbytes s).take (rbytes r).length := by rw [hb]; simp
    have h2 := no_rprefix hs hr h1
    rw [hb, List.length_append] at h2
    exact absurd (List.eq_nil_of_length_eq_zero (by omega)) hl
  · exact h
end Go.Proofs.Ytcinnjihghpngaa.AskW
