/- What is said of a right reply is read as it; unlike ones have unlike bytes. -/
import Derived.Test.YtiibopdnlmnkmaaRepMath
import Derived.Test.YtiibopdnlmnkmaaAG6
set_option linter.unusedVariables false
set_option linter.unusedSimpArgs false
namespace Go.Proofs.Ytiibopdnlmnkmaa.AskW
open Go.RowKit Go.Proofs.Ytiibopdnlmnkmaa Go.Proofs.Ytiibopdnlmnkmaa.Ask
theorem kdBy_cases {f : Nat} {k : Kd} (h : kdBy f = some k) : (k = .exc ∧ 128 ≤ f) ∨ (f < 128 ∧ ((k = .bitsR ∧ (f = 1 ∨ f = 2)) ∨ (k = .wordsR ∧ (f = 3 ∨ f = 4 ∨ f = 23)) ∨ (k = .bitW ∧ f = 5) ∨ (k = .wordW ∧ f = 6) ∨ (k = .manyW 1968 ∧ f = 15) ∨ (k = .manyW 123 ∧ f = 16))) := by
  unfold kdBy at h
  by_cases h0 : 128 ≤ f
  · rw [if_pos h0] at h; injection h with h; exact Or.inl ⟨h.symm, h0⟩
  rw [if_neg h0] at h
  refine Or.inr ⟨by omega, ?_⟩
  by_cases h1 : f = 1 ∨ f = 2
  · rw [if_pos h1] at h; injection h with h; exact Or.inl ⟨h.symm, h1⟩
  rw [if_neg h1] at h
  by_cases h2 : f = 3 ∨ f = 4 ∨ f = 23
  · rw [if_pos h2] at h; injection h with h; exact Or.inr (Or.inl ⟨h.symm, h2⟩)
  rw [if_neg h2] at h
  by_cases h3 : f = 5
  · rw [if_pos h3] at h; injection h with h; exact Or.inr (Or.inr (Or.inl ⟨h.symm, h3⟩))
  rw [if_neg h3] at h
  by_cases h4 : f = 6
  · rw [if_pos h4] at h; injection h with h; exact Or.inr (Or.inr (Or.inr (Or.inl ⟨h.symm, h4⟩)))
  rw [if_neg h4] at h
  by_cases h5 : f = 15
  · rw [if_pos h5] at h; injection h with h; exact Or.inr (Or.inr (Or.inr (Or.inr (Or.inl ⟨h.symm, h5⟩))))
  rw [if_neg h5] at h
  by_cases h6 : f = 16
  · rw [if_pos h6] at h; injection h with h; exact Or.inr (Or.inr (Or.inr (Or.inr (Or.inr ⟨h.symm, h6⟩))))
  rw [if_neg h6] at h
  cases h
theorem unpack_pack8 (l : List Bool) (h : l.length % 8 = 0) : unpack (pack l) = l := by
  have e := unpack_pack l
  rwa [List.take_of_length_le (by rw [unpack_length, pack_length]; omega)] at e
/-- A right reply of a kind: its bytes begin so, are read as it, and are so many. -/
theorem kd_back {r : Rep} {k : Kd} (hk : kdOf r = some k) (h : k.right r = true) : kdBy ((k.bytes r)[0]?.getD 0) = some k ∧ k.read (k.bytes r) = r ∧ 2 ≤ (k.bytes r).length ∧ (k.bytes r).length ≤ 253 := by
  obtain ⟨f, x, B, W, a, m⟩ := r
  unfold kdOf at hk
  dsimp only at hk
  by_cases hx : x ≠ 0
  · rw [if_pos hx] at hk
    injection hk with hk
    subst hk
    simp [Kd.right] at h
    obtain ⟨h1, h2, h3, h4, h5, h6, h7⟩ := h
    subst h4 h5 h6 h7
    refine ⟨?_, ?_, by simp [Kd.bytes], by simp [Kd.bytes]⟩
    · have e : 128 ≤ (f + 128) % 256 := by omega
      simp [Kd.bytes, kdBy, e]
    · simp [Kd.bytes, Kd.read]; omega
  · rw [if_neg hx] at hk
    have hx0 : x = 0 := by omega
    subst hx0
    rcases kdBy_cases hk with ⟨rfl, hf⟩ | ⟨hf, hc⟩
    · simp [Kd.right] at h
    rcases hc with ⟨rfl, _⟩ | ⟨rfl, _⟩ | ⟨rfl, _⟩ | ⟨rfl, _⟩ | ⟨rfl, _⟩ | ⟨rfl, _⟩
    · simp [Kd.right] at h
      obtain ⟨h1, h2, h3, h4, h5, h6⟩ := h
      subst h4 h5 h6
      refine ⟨by simpa [Kd.bytes] using hk, ?_, by simp [Kd.bytes, pack_length], by simp [Kd.bytes, pack_length]; omega⟩
      simp [Kd.bytes, Kd.read, unpack_pack8 B h3]
    · simp [Kd.right] at h
      obtain ⟨h1, h2, h4, h5, h6⟩ := h
      subst h4 h5 h6
      refine ⟨by simpa [Kd.bytes] using hk, ?_, by simp [Kd.bytes, twos_len], by simp [Kd.bytes, twos_len]; omega⟩
      simp [Kd.bytes, Kd.read, pairs_twos]
    · simp [Kd.right] at h
      obtain ⟨h1, h5, h6⟩ := h
      subst h5 h6
      match B, h1 with
      | [z], _ =>
        refine ⟨by simpa [Kd.bytes] using hk, ?_, by simp [Kd.bytes, two], by simp [Kd.bytes, two]⟩
        cases z <;> simp [Kd.bytes, Kd.read, two, atF, num, dm]
    · simp [Kd.right] at h
      obtain ⟨h1, h5, h6⟩ := h
      subst h5 h6
      match W, h1 with
      | [z], _ =>
        refine ⟨by simpa [Kd.bytes] using hk, ?_, by simp [Kd.bytes, two], by simp [Kd.bytes, two]⟩
        simp [Kd.bytes, Kd.read, two, atF, num, dm]
    all_goals
      simp [Kd.right] at h
      obtain ⟨h1, h2, h5, h6⟩ := h
      subst h5 h6
      refine ⟨by simpa [Kd.bytes] using hk, ?_, by simp [Kd.bytes, two], by simp [Kd.bytes, two]⟩
      simp [Kd.bytes, Kd.read, two, atF, num, dm]
theorem rright_kd {r : Rep} (h : rright r = true) : ∃ k, kdOf r = some k ∧ k.right r = true ∧ rbytes r = k.bytes r := by
  unfold rright at h
  cases hk : kdOf r with
  | none => rw [hk] at h; cases h
  | some k => rw [hk] at h; exact ⟨k, rfl, h, by unfold rbytes; rw [hk]⟩
theorem rparse_bytes {r : Rep} (h : rright r = true) : rparse (rbytes r) = (r, 0) := by
  obtain ⟨k, hk, hr, hb⟩ := rright_kd h
  obtain ⟨h1, h2, h3, h4⟩ := kd_back hk hr
  rw [hb]
  unfold rparse
  rw [if_neg (by omega), h1]
  dsimp only
  rw [h2, hr]
  simp
theorem rbytes_len {r : Rep} (h : rright r = true) : 2 ≤ (rbytes r).length ∧ (rbytes r).length ≤ 253 := by
  obtain ⟨k, hk, hr, hb⟩ := rright_kd h
  rw [hb]; exact (kd_back hk hr).2.2
theorem rparse_cases (xs : List Nat) : (∃ r, rright r = true ∧ rbytes r = xs ∧ rparse xs = (r, 0)) ∨ rparse xs = (rep0, 13) := by
  unfold rparse
  by_cases h0 : xs.length = 0 ∨ 253 < xs.length
  · rw [if_pos h0]; exact Or.inr rfl
  rw [if_neg h0]
  cases hk : kdBy (xs[0]?.getD 0) with
  | none => exact Or.inr rfl
  | some k =>
    dsimp only
    by_cases hc : (k.right (k.read xs) && k.bytes (k.read xs) == xs) = true
    · rw [if_pos hc]
      rw [Bool.and_eq_true, beq_iff_eq] at hc
      have ho : kdOf (k.read xs) = some k := by
        rcases kdBy_cases hk with ⟨rfl, _⟩ | ⟨hf, hcc⟩
        · have hr := hc.1
          simp only [Kd.right, Bool.and_eq_true, decide_eq_true_iff] at hr
          have h1 := hr.2.1
          unfold kdOf
          rw [if_pos (by omega)]
        · unfold kdOf
          have e0 : (k.read xs).x = 0 ∧ (k.read xs).f = xs[0]?.getD 0 := by
            rcases hcc with ⟨rfl, _⟩ | ⟨rfl, _⟩ | ⟨rfl, _⟩ | ⟨rfl, _⟩ | ⟨rfl, _⟩ | ⟨rfl, _⟩ <;> exact ⟨rfl, rfl⟩
          rw [if_neg (by rw [e0.1]; simp), e0.2]; exact hk
      refine Or.inl ⟨k.read xs, ?_, ?_, rfl⟩
      · unfold rright; rw [ho]; exact hc.1
      · unfold rbytes; rw [ho]; exact hc.2
    · rw [if_neg hc]; exact Or.inr rfl
theorem rbytes_inj {r s : Rep} (hr : rright r = true) (hs : rright s = true) (h : rbytes r = rbytes s) : r = s := by
  have e := rparse_bytes hr
  rw [h, rparse_bytes hs] at e
  injection e with e _
  exact e.symm
end Go.Proofs.Ytiibopdnlmnkmaa.AskW
