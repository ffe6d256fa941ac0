/- A row of N cells that is filled from its beginning. No program in sight. -/
import Derived.Test.YtiibopdnlmnkmaaBase
namespace Go.Proofs.Ytiibopdnlmnkmaa
open Go.RowKit
/-- N cells, of which the first k are what f says, the others z. -/
def fillTo (z : Value) (f : Nat → Value) (N k : Nat) : Array Value := ((List.range N).map fun j => if j < k then f j else z).toArray
theorem fillTo_size (z : Value) (f : Nat → Value) (N k : Nat) : (fillTo z f N k).size = N := by simp [fillTo]
theorem fillTo_zero (z : Value) (f : Nat → Value) (N : Nat) : fillTo z f N 0 = Array.replicate N z := by
  apply Array.ext
  · simp [fillTo]
  · intro i h1 h2
    simp [fillTo]
theorem fillTo_get (z : Value) (f : Nat → Value) (N k i : Nat) (h : i < N) : (fillTo z f N k)[i]? = some (if i < k then f i else z) := by simp [fillTo, h]
theorem fillTo_set (z : Value) (f : Nat → Value) (N k : Nat) : (fillTo z f N k).setIfInBounds k (f k) = fillTo z f N (k + 1) := by
  apply Array.ext_getElem?
  intro i
  rw [Array.getElem?_setIfInBounds, fillTo_size]
  by_cases hi : i < N
  · rw [fillTo_get z f N _ i hi, fillTo_get z f N _ i hi]
    by_cases hk : k = i
    · subst hk
      rw [if_pos rfl, if_pos hi, if_pos (by omega)]
    · rw [if_neg hk]
      by_cases hlt : i < k
      · rw [if_pos hlt, if_pos (by omega)]
      · rw [if_neg hlt, if_neg (by omega)]
  · have e : ∀ m, (fillTo z f N m)[i]? = none := fun m => by
      rw [Array.getElem?_eq_none]; rw [fillTo_size]; omega
    rw [e, e]
    by_cases hk : k = i
    · rw [if_pos hk, if_neg (by omega)]
    · rw [if_neg hk]
theorem fillTo_full (z : Value) (f : Nat → Value) (N : Nat) : (fillTo z f N N).toList = (List.range N).map f := by
  simp only [fillTo]
  apply List.map_congr_left
  intro j hj
  rw [if_pos (List.mem_range.1 hj)]
theorem range_map_getD {α β : Type} (l : List α) (d : α) (g : α → β) : (List.range l.length).map (fun j => g (l[j]?.getD d)) = l.map g := by
  apply List.ext_getElem
  · simp
  · intro i h1 h2
    simp at h1 ⊢
    simp [h1]
end Go.Proofs.Ytiibopdnlmnkmaa
