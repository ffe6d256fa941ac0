/- The walk of ReplyReads. -/
import Derived.Test.YtcinnjihghpngaaRepL
set_option linter.unusedVariables false
set_option linter.unusedSimpArgs false
namespace Go.Proofs.Ytcinnjihghpngaa.AskW
open Go.RowKit Go.Proofs.Ytcinnjihghpngaa Go.Proofs.Ytcinnjihghpngaa.Ask
theorem wfq (f m : Nat) (W : List Nat) (hf : f < 256) (hm : m < 65536) (hW : ∀ x ∈ W, x < 65536) : Req.Wf ⟨f, 0, m, 0, W, []⟩ := ⟨hf, (by show 0 < 65536; decide), hm, (by show 0 < 65536; decide), hW⟩
theorem fits_bits (F m : Nat) (hF : F = 1 ∨ F = 2) (l : List Bool) : fitsF ⟨F, 0, m, 0, [], []⟩ ⟨F, 0, l, [], 0, 0⟩ = (decide (1 ≤ m) && (decide (m ≤ 2000) && (l.length == (m + 7) / 8 * 8 && !((l.drop m).any id)))) := by
  obtain ⟨Q, hQ⟩ : ∃ Q, Q = (l.drop m).any id := ⟨_, rfl⟩
  obtain ⟨n, hn⟩ : ∃ n, n = l.length := ⟨_, rfl⟩
  rw [Bool.eq_iff_iff]
  rcases hF with rfl | rfl
  all_goals
    simp only [fitsF, echoF, rright, kdOf, kdBy, Kd.right, ← hQ, ← hn]
    simp [right, fld, Fld.right, fits, ← hQ, ← hn]
    cases Q <;> simp <;> omega
theorem fits_words (F m : Nat) (hF : F = 3 ∨ F = 4) (l : List Nat) : fitsF ⟨F, 0, m, 0, [], []⟩ ⟨F, 0, [], l, 0, 0⟩ = (l.length == m && (decide (1 ≤ m) && decide (m ≤ 125))) := by
  obtain ⟨n, hn⟩ : ∃ n, n = l.length := ⟨_, rfl⟩
  rw [Bool.eq_iff_iff]
  rcases hF with rfl | rfl
  all_goals
    simp only [fitsF, echoF, rright, kdOf, kdBy, Kd.right, ← hn]
    simp [right, fld, Fld.right, fits, ← hn]
    by_cases h0 : 0 < n <;> simp [h0] <;> omega
theorem fits_swap (m : Nat) (l : List Nat) : fitsF ⟨23, 0, m, 0, [7], []⟩ ⟨23, 0, [], l, 0, 0⟩ = (l.length == m && (decide (1 ≤ m) && decide (m ≤ 125))) := by
  obtain ⟨n, hn⟩ : ∃ n, n = l.length := ⟨_, rfl⟩
  rw [Bool.eq_iff_iff]
  simp only [fitsF, echoF, rright, kdOf, kdBy, Kd.right, ← hn]
  simp [right, fld, Fld.right, fits, ← hn]
  by_cases h0 : 0 < n <;> simp [h0] <;> omega
end Go.Proofs.Ytcinnjihghpngaa.AskW
