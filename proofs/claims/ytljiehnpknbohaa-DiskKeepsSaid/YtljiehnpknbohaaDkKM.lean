/- What a deed keeps of a disk (layer 9; plain). -/
import Derived.Test.YtljiehnpknbohaaDkMath
set_option linter.unusedVariables false
namespace Go.Proofs.Ytljiehnpknbohaa.Dk
open Go.RowKit Go.Proofs.Ytljiehnpknbohaa
structure Kept (d f : D) (q : Deed) (x : Int) (j : Nat) : Prop where
  fok : f.Ok
  keep : ¬ (j = 2 ∧ x = 0) → d.safe ≤ f.safe ∧ f.b.take (min d.safe f.b.length) = d.b.take d.safe
  k0 : j = 0 → f.b.take (min d.b.length f.b.length) = d.b ∧ q.b.take (min (f.b.length - d.b.length) q.b.length) = f.b.drop d.b.length ∧ d.b.length ≤ f.b.length ∧ (x = 0 → f.b.length = d.b.length + q.b.length) ∧ (x ≠ 0 → 0 < q.b.length → f.b.length < d.b.length + q.b.length) ∧ f.b.length ≤ d.b.length + q.b.length
  k4 : j = 4 → x = 0 ∧ d.b.take (min f.b.length d.b.length) = f.b ∧ f.safe = f.b.length ∧ f.off = false
  k2 : j = 2 → x = 0 → (f.b.length : Int) = q.n ∧ d.b.take (min f.b.length d.b.length) = f.b
  same : j ≠ 0 → j ≠ 4 → ¬ (j = 2 ∧ x = 0) → f.b = d.b
theorem append_kept (d : D) (xs : List Nat) : ∃ k, k ≤ xs.length ∧ (append d xs).1.b = d.b ++ xs.take k ∧ (append d xs).1.safe = d.safe ∧ ((append d xs).2 = 0 → k = xs.length) ∧ ((append d xs).2 ≠ 0 → 0 < xs.length → k < xs.length) := by
  unfold append
  split
  · exact ⟨0, Nat.zero_le _, by simp, rfl, fun h => absurd h (by decide : ¬ (6 : Int) = 0), fun _ h => h⟩
  · split
    · exact ⟨0, Nat.zero_le _, by simp, rfl, fun h => absurd h (by decide : ¬ (5 : Int) = 0), fun _ h => h⟩
    · split
      · rename_i h
        exact ⟨d.left.toNat, by omega, rfl, rfl, fun h => absurd h (by decide : ¬ (6 : Int) = 0), fun _ _ => by omega⟩
      · exact ⟨xs.length, Nat.le_refl _, rfl, rfl, fun _ => rfl, fun h => absurd rfl h⟩
theorem sync_kept {d : D} (h : d.Ok) : (sync d).1.b = d.b ∧ d.safe ≤ (sync d).1.safe := by
  have := h.safe
  unfold sync
  split
  · exact ⟨rfl, Nat.le_refl _⟩
  · split
    · exact ⟨rfl, Nat.le_refl _⟩
    · exact ⟨rfl, this⟩
theorem cut_kept (d : D) (n : Int) : ((cut d n).2 = 0 → (cut d n).1.b = d.b.take n.toNat ∧ 0 ≤ n ∧ n ≤ d.b.length) ∧ ((cut d n).2 ≠ 0 → (cut d n).1.b = d.b ∧ (cut d n).1.safe = d.safe) := by
  unfold cut
  split
  · exact ⟨fun h => absurd h (by decide : ¬ (6 : Int) = 0), fun _ => ⟨rfl, rfl⟩⟩
  · split
    · exact ⟨fun h => absurd h (by decide : ¬ (2 : Int) = 0), fun _ => ⟨rfl, rfl⟩⟩
    · split
      · exact ⟨fun h => absurd h (by decide : ¬ (6 : Int) = 0), fun _ => ⟨rfl, rfl⟩⟩
      · exact ⟨fun _ => ⟨rfl, by omega, by omega⟩, fun h => absurd rfl h⟩
theorem take_pre {d : D} (h : d.Ok) (ys : List Nat) : (d.b ++ ys).take (min d.safe (d.b ++ ys).length) = d.b.take d.safe := by
  have := h.safe
  rw [List.length_append, Nat.min_eq_left (by omega), List.take_append_of_le_length this]
theorem take_own {d : D} (h : d.Ok) : d.b.take (min d.safe d.b.length) = d.b.take d.safe := by rw [Nat.min_eq_left h.safe]
theorem act_kept {d : D} (h : d.Ok) {q : Deed} (ho : q.Ok) {j : Nat} (hj : j = q.what % 5) : Kept d (act d q).1 q (act d q).2 j := by
  have hf := act_ok h ho
  have hs := h.safe
  have hlt : q.what % 5 < 5 := Nat.mod_lt _ (by omega)
  rw [← hj] at hlt
  have he : act d q = if j = 0 then append d q.b else if j = 1 then sync d else if j = 2 then cut d q.n else if j = 3 then (sparks d q.n, 0) else (crash d q.n, 0) := by rw [hj]; rfl
  clear hj
  rcases show j = 0 ∨ j = 1 ∨ j = 2 ∨ j = 3 ∨ j = 4 from by omega with rfl | rfl | rfl | rfl | rfl
  · rw [if_pos rfl] at he
    rw [he] at hf ⊢
    obtain ⟨k, h1, h2, h3, h4, h5⟩ := append_kept d q.b
    have hl : (append d q.b).1.b.length = d.b.length + k := by rw [h2, List.length_append, List.length_take]; omega
    refine ⟨hf, fun _ => ⟨by omega, ?_⟩, fun _ => ⟨?_, ?_, by omega, fun hx => by rw [hl, h4 hx], fun hx hp => by have := h5 hx hp; omega, by omega⟩, fun hh => by omega, fun hh => by omega, fun hh => absurd rfl hh⟩
    · rw [h2]; exact take_pre h _
    · rw [hl, Nat.min_eq_left (by omega), h2, List.take_left']
      rfl
    · rw [hl, h2, List.drop_left' rfl]
      congr 1
      omega
  · rw [if_neg (by decide), if_pos rfl] at he
    rw [he] at hf ⊢
    obtain ⟨h1, h2⟩ := sync_kept h
    exact ⟨hf, fun _ => ⟨h2, by rw [h1]; exact take_own h⟩, fun hh => by omega, fun hh => by omega, fun hh => by omega, fun _ _ _ => h1⟩
  · rw [if_neg (by decide), if_neg (by decide), if_pos rfl] at he
    rw [he] at hf ⊢
    obtain ⟨h1, h2⟩ := cut_kept d q.n
    refine ⟨hf, fun hn => ?_, fun hh => by omega, fun hh => by omega, fun _ hx => ?_, fun _ _ hn => (h2 (fun hx => hn ⟨rfl, hx⟩)).1⟩
    · obtain ⟨e1, e2⟩ := h2 (fun hx => hn ⟨rfl, hx⟩)
      rw [e1, e2]
      exact ⟨Nat.le_refl _, take_own h⟩
    · obtain ⟨e1, e2, e3⟩ := h1 hx
      have hl : (cut d q.n).1.b.length = q.n.toNat := by rw [e1, List.length_take]; omega
      refine ⟨by omega, ?_⟩
      rw [hl, Nat.min_eq_left (by omega), e1]
  · rw [if_neg (by decide), if_neg (by decide), if_neg (by decide), if_pos rfl] at he
    rw [he] at hf ⊢
    exact ⟨hf, fun _ => ⟨Nat.le_refl _, take_own h⟩, fun hh => by omega, fun hh => by omega, fun hh => by omega, fun _ _ _ => rfl⟩
  · rw [if_neg (by decide), if_neg (by decide), if_neg (by decide), if_neg (by decide)] at he
    rw [he] at hf ⊢
    obtain ⟨h1, h2⟩ := keepN_le h q.n
    have hl : (crash d q.n).b.length = keepN d q.n := by show (d.b.take (keepN d q.n)).length = _; rw [List.length_take]; omega
    refine ⟨hf, fun _ => ⟨h2, ?_⟩, fun hh => by omega, fun _ => ⟨rfl, ?_, hl.symm, rfl⟩, fun hh => by omega, fun _ hh => absurd rfl hh⟩
    · show ((crash d q.n).b).take (min d.safe (crash d q.n).b.length) = _
      rw [hl, Nat.min_eq_left h2]
      show (d.b.take (keepN d q.n)).take d.safe = _
      rw [List.take_take, Nat.min_eq_left h2]
    · show d.b.take (min (crash d q.n).b.length d.b.length) = _
      rw [hl, Nat.min_eq_left h1]
      rfl
end Go.Proofs.Ytljiehnpknbohaa.Dk
