/- Words and bits as lists in memory. No program in sight. -/
import Derived.Test.YtpajpcaninjhfaaMem
import Derived.Laws.BitsAllLaws
namespace Go.Proofs.Ytpajpcaninjhfaa
open Go.RowKit
theorem w64 {n : Nat} (h : n ≤ 9223372036854775807) : IntKind.i64.wrap (n : Int) = n := by rw [IntKind.wrap_i64]; omega
/-- Words. -/
def ws (l : List Nat) : List Value := l.map fun c => .int .u16 (c : Nat)
@[simp] theorem ws_length (l : List Nat) : (ws l).length = l.length := by simp [ws]
theorem ws_get {l : List Nat} {j : Nat} (h : j < l.length) : (ws l)[j]? = some (.int .u16 ((l[j]?.getD 0 : Nat) : Int)) := by simp [ws, h]
theorem ws_take (l : List Nat) (k : Nat) : (ws l).take k = ws (l.take k) := by simp [ws]
theorem ws_drop (l : List Nat) (k : Nat) : (ws l).drop k = ws (l.drop k) := by simp [ws]
theorem ws_append (l r : List Nat) : ws l ++ ws r = ws (l ++ r) := by simp [ws]
theorem ws_one (l : List Nat) : ∀ u ∈ ws l, u.oneCell' = true := by
  intro u hu
  simp [ws] at hu
  obtain ⟨_, _, rfl⟩ := hu
  rfl
/-- Bits. -/
def bl (l : List Bool) : List Value := l.map Value.bool
@[simp] theorem bl_length (l : List Bool) : (bl l).length = l.length := by simp [bl]
theorem bl_get {l : List Bool} {j : Nat} (h : j < l.length) : (bl l)[j]? = some (.bool (l[j]?.getD false)) := by simp [bl, h]
theorem bl_take (l : List Bool) (k : Nat) : (bl l).take k = bl (l.take k) := by simp [bl]
theorem bl_drop (l : List Bool) (k : Nat) : (bl l).drop k = bl (l.drop k) := by simp [bl]
theorem bl_append (l r : List Bool) : bl l ++ bl r = bl (l ++ r) := by simp [bl]
theorem bl_one (l : List Bool) : ∀ u ∈ bl l, u.oneCell' = true := by
  intro u hu
  simp [bl] at hu
  rcases hu with ⟨_, rfl⟩ | ⟨_, rfl⟩ <;> rfl
/-- Rows that are the same up to k, and one further. -/
theorem take_eq_snoc {α : Type} [DecidableEq α] (d : α) {l r : List α} {k : Nat} (hl : k < l.length) (hr : k < r.length) : l.take (k + 1) = r.take (k + 1) ↔ l.take k = r.take k ∧ l[k]?.getD d = r[k]?.getD d := by
  rw [List.take_succ_eq_append_getElem hl, List.take_succ_eq_append_getElem hr, List.getElem?_eq_getElem hl, List.getElem?_eq_getElem hr]
  constructor
  · intro h
    have := List.append_inj h (by simp; omega)
    exact ⟨this.1, by simpa using this.2⟩
  · rintro ⟨h1, h2⟩
    rw [h1]
    simp at h2
    rw [h2]
theorem ne_of_at {α : Type} [DecidableEq α] (d : α) {l r : List α} {k : Nat} (h : l[k]?.getD d ≠ r[k]?.getD d) : (l == r) = false := by
  rw [beq_eq_false_iff_ne]; rintro rfl; exact h rfl
theorem ne_of_len {α : Type} [DecidableEq α] {l r : List α} (h : l.length ≠ r.length) : (l == r) = false := by
  rw [beq_eq_false_iff_ne]; rintro rfl; exact h rfl
theorem eq_of_take {α : Type} [DecidableEq α] {l r : List α} {n : Nat} (hl : l.length = n) (hr : r.length = n) (h : l.take n = r.take n) : (l == r) = true := by
  rw [List.take_of_length_le (by omega), List.take_of_length_le (by omega)] at h
  simpa using h
end Go.Proofs.Ytpajpcaninjhfaa
