/- The walk of ReplyOne. -/
import Derived.Test.YtiibopdnlmnkmaaAG6
import Derived.Test.YtiibopdnlmnkmaaRepRT
import Derived.Test.YtiibopdnlmnkmaaRepL
import Derived.Deep.RegionHeld3
set_option linter.unusedVariables false
set_option linter.unusedSimpArgs false
namespace Go.Proofs.Ytiibopdnlmnkmaa.AskW
open Go.RowKit Go.Proofs.Ytiibopdnlmnkmaa Go.Proofs.Ytiibopdnlmnkmaa.Ask
theorem keep12r {X w' : World} {g1 g2 : Nat} {t1 t2 : TypeId} {u0 u1 u2 u3 u4 u5 v0 v1 v2 v3 v4 v5 : Value} (b : Below X.heap.size X w') (r1 : X.heap[g1]? = some (.cells #[u0, u1, u2, u3, u4, u5] t1 (0, 0))) (r2 : X.heap[g2]? = some (.cells #[v0, v1, v2, v3, v4, v5] t2 (0, 0))) :
    Below X.heap.size X w' ∧ w'.cell? ⟨g1, 0, none⟩ = some u0 ∧ w'.cell? ⟨g1, 1, none⟩ = some u1 ∧ w'.cell? ⟨g1, 2, none⟩ = some u2 ∧ w'.cell? ⟨g1, 3, none⟩ = some u3 ∧ w'.cell? ⟨g1, 4, none⟩ = some u4 ∧ w'.cell? ⟨g1, 5, none⟩ = some u5 ∧
      w'.cell? ⟨g2, 0, none⟩ = some v0 ∧ w'.cell? ⟨g2, 1, none⟩ = some v1 ∧ w'.cell? ⟨g2, 2, none⟩ = some v2 ∧ w'.cell? ⟨g2, 3, none⟩ = some v3 ∧ w'.cell? ⟨g2, 4, none⟩ = some v4 ∧ w'.cell? ⟨g2, 5, none⟩ = some v5 := by
  obtain ⟨h0, h1, h2, h3, h4, h5⟩ := row6 (b.row (row_lt r1) r1)
  obtain ⟨k0, k1, k2, k3, k4, k5⟩ := row6 (b.row (row_lt r2) r2)
  exact ⟨b, h0, h1, h2, h3, h4, h5, k0, k1, k2, k3, k4, k5⟩
theorem rep_beq (f x a m f2 x2 a2 m2 : Nat) (W W2 : List Nat) (B B2 : List Bool) (h1 : rright ⟨f, x, B, W, a, m⟩ = true) (h2 : rright ⟨f2, x2, B2, W2, a2, m2⟩ = true) :
    (rbytes ⟨f, x, B, W, a, m⟩ == rbytes ⟨f2, x2, B2, W2, a2, m2⟩) = (f == f2 && x == x2 && a == a2 && m == m2 && B == B2 && W == W2) := by
  rw [Bool.eq_iff_iff]
  simp only [beq_iff_eq, Bool.and_eq_true]
  constructor
  · intro h
    have := rbytes_inj h1 h2 h
    simp only [Rep.mk.injEq] at this
    obtain ⟨e1, e2, e3, e4, e5, e6⟩ := this
    exact ⟨⟨⟨⟨⟨e1, e2⟩, e5⟩, e6⟩, e3⟩, e4⟩
  · rintro ⟨⟨⟨⟨⟨rfl, rfl⟩, rfl⟩, rfl⟩, rfl⟩, rfl⟩
    rfl
theorem rbytesE_cases (r : Rep) : (rright r = true ∧ rbytesE r = (rbytes r, 0)) ∨ (rright r = false ∧ rbytesE r = ([], 13)) := by
  unfold rbytesE
  cases h : rright r
  · exact Or.inr ⟨rfl, rfl⟩
  · exact Or.inl ⟨rfl, rfl⟩
theorem rbytesE_lt (r : Rep) (h : r.Wf) : Bytes (rbytesE r).1 := by
  rcases rbytesE_cases r with ⟨hr, e⟩ | ⟨_, e⟩ <;> rw [e]
  · obtain ⟨k, _, _, hb⟩ := rright_kd hr
    rw [hb]; exact kbytes_lt k r h
  · exact Bytes.nil
theorem rparse_wf {xs : List Nat} (h : Bytes xs) : (rparse xs).1.Wf := by
  have h0 : rep0.Wf := ⟨by decide, by decide, (fun y hy => by cases hy), by decide, by decide⟩
  unfold rparse
  by_cases h1 : xs.length = 0 ∨ 253 < xs.length
  · rw [if_pos h1]; exact h0
  rw [if_neg h1]
  cases hk : kdBy (xs[0]?.getD 0) with
  | none => exact h0
  | some k =>
    dsimp only
    split
    · exact read_wf k h
    · exact h0
theorem rright_small {r : Rep} (h : rright r = true) : r.bits.length ≤ 2000 ∧ r.words.length ≤ 125 := by
  obtain ⟨k, _, hr, _⟩ := rright_kd h
  obtain ⟨f, x, B, W, a, m⟩ := r
  exact rwf_small hr
end Go.Proofs.Ytiibopdnlmnkmaa.AskW
