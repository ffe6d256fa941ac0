/- The walks of layer 6's reference: PackBits. -/
import Derived.Test.YtegcnnbhgdafmaaDoorWdB
import Derived.Deep.AppendLies
set_option linter.unusedVariables false
set_option linter.unusedSimpArgs false
namespace Go.Proofs.YtegcnnbhgdafmaaDoor.WdW
open Go.RowKit Go.Proofs.YtegcnnbhgdafmaaDoor Go.Proofs.YtegcnnbhgdafmaaDoor.Wd Go.Proofs.YtegcnnbhgdafmaaDoor.Ask
theorem _root_.Go.Proofs.YtegcnnbhgdafmaaDoor.Has.cellAt {w0 w : World} {e : TypeId} {g n cap : Nat} {xs : List Value} {u : Value} (h : Has w0 w e (.slice (some ⟨g, 0, none⟩) n cap) n xs) {j : Nat} (hj : j < n) (hu : xs[j]? = some u) : w.cell? ⟨g, j, none⟩ = some u := by
  obtain ⟨A, c, ev, _, S, _⟩ := h.slice
  injection ev with e1 e2 e3
  subst e1
  obtain ⟨b, o, e, _, hc⟩ := S.2 (by omega)
  injection e with e
  injection e with e1 e2
  subst e1 e2
  have := hc j hj
  rw [Nat.zero_add] at this
  rw [this, hu]
theorem _root_.Go.Proofs.YtegcnnbhgdafmaaDoor.Has.freeAt {w0 w : World} {e : TypeId} {g n cap : Nat} {xs : List Value} (h : Has w0 w e (.slice (some ⟨g, 0, none⟩) n cap) n xs) (j : Nat) : w.frozen? ⟨g, j, none⟩ = false := by
  rcases h.own.2 with ⟨hv, _⟩ | ⟨g', cap', cur, hv, _, hg, _⟩
  · cases hv
  · injection hv with e1 e2 e3
    injection e1 with e1
    injection e1 with e1
    subst e1
    exact frozen_of_row w g j _ _ hg
theorem _root_.Go.Proofs.YtegcnnbhgdafmaaDoor.Has.setAt {w0 w : World} {e : TypeId} {g n cap : Nat} {xs : List Value} (h : Has w0 w e (.slice (some ⟨g, 0, none⟩) n cap) n xs) {j : Nat} (hj : j < n) (u : Value) : Has w0 (w.setCell ⟨g, j, none⟩ u) e (.slice (some ⟨g, 0, none⟩) n cap) n (xs.set j u) := by
  obtain ⟨⟨hl, hr⟩, hb⟩ := h
  rcases hr with ⟨hv, _⟩ | ⟨g', cap', cur, hv, hge, hg, hc, hm, hs, ht⟩
  · cases hv
  · injection hv with e1 e2 e3
    injection e1 with e1
    injection e1 with e1
    subst e1 e3
    refine ⟨⟨by rw [List.length_set]; exact hl, .inr ⟨g, cap, cur.setIfInBounds j u, rfl, hge, heap_setCell_same w g j _ _ _ hg, hc, hm, by rw [Array.size_setIfInBounds]; exact hs, ?_⟩⟩, hb.setCell hge _⟩
    rw [Array.toList_setIfInBounds, List.take_set, ht]
theorem packTo_list {l : List Bool} {k : Nat} (h : k ≤ l.length) : bs (pack (l.take k)) = (packTo l ((k + 7) / 8) k).toList := by
  simp only [packTo, bs, pack, List.length_take, List.map_map, Nat.min_eq_left h]
  rfl
theorem packTo_more {l : List Bool} {q k : Nat} (h : k ≤ 8 * q) : (packTo l q k).toList ++ [Value.int .u8 0] = (packTo l (q + 1) k).toList := by
  have e : octet (l.take k) q = 0 := by
    have z : ∀ j, bitN (l.take k) (8 * q + j) = 0 := fun j => bitN_take_ge (by omega)
    have z0 : bitN (l.take k) (8 * q) = 0 := z 0
    unfold octet
    rw [z0, z, z, z, z, z, z, z]
  simp only [packTo, List.range_succ, List.map_append, List.map_cons, List.map_nil, e]
  simp
theorem packTo_put {l : List Bool} {N k : Nat} (h : l[k]?.getD false = true) : (packTo l N k).toList.set (k / 8) (.int .u8 ((octet (l.take k) (k / 8) + 2 ^ (k % 8) : Nat) : Int)) = (packTo l N (k + 1)).toList := by
  have h2 := octet_take_eq (l := l) (q := k / 8) (m := k % 8) (by omega)
  rw [Nat.div_add_mod] at h2
  rw [← or_add h2.1, ← Array.toList_setIfInBounds, packTo_on h]
end Go.Proofs.YtegcnnbhgdafmaaDoor.WdW
