/- The sixth layer's arguments that came in: bytes, bits, registers. -/
import Derived.Test.YtegcnnbhgdafmaaDoorChecked
import Derived.Test.YtegcnnbhgdafmaaDoorBase
namespace Go.Proofs.YtegcnnbhgdafmaaDoor.WdW
open Go.RowKit Go.WideShapes Go.ChangeShapes Go.Joins Go.Proofs.YtegcnnbhgdafmaaDoor
section
variable {H : Type} {enc : TypeId × Value → H} {w : World} {base : Nat} {spare : Nat → Bool} {held : Bool} {r : Reach} {b0 : Nat} {v : Value} {d : DataW H} {p : List MemPlace}
set_option maxRecDepth 100000 in
theorem open_bytes (hv : Value.okWide Tryd.prog w r b0 23 v) (h : DataW.Trod enc Tryd.prog w base spare held 23 v d p) : ∃ A n c l, v = .slice A n c ∧ Sl w w.heap.size A n (bs l) ∧ Bytes l ∧ n ≤ c ∧ n ≤ 9223372036854775807 := by
  obtain ⟨a, len, cap, rfl⟩ := okWide_slice Tryd.underlying23 hv
  obtain ⟨fuel, hf⟩ := h
  obtain ⟨A, n, c, l, e, S, C, k, m⟩ := slice_in (fun c : Nat => Value.int .u8 (c : Nat)) (· < 256) Tryd.underlying23 (by kernel_rfl) (u8_el Tryd.underlying5) hf
  simp [Value.cells] at e
  obtain ⟨rfl, rfl, rfl⟩ := e
  exact ⟨_, _, _, l, rfl, S, C, k, m⟩
set_option maxRecDepth 100000 in
theorem open_words (hv : Value.okWide Tryd.prog w r b0 24 v) (h : DataW.Trod enc Tryd.prog w base spare held 24 v d p) : ∃ A n c l, v = .slice A n c ∧ Sl w w.heap.size A n (ws l) ∧ (∀ x ∈ l, x < 65536) ∧ n ≤ c ∧ n ≤ 9223372036854775807 := by
  obtain ⟨a, len, cap, rfl⟩ := okWide_slice Tryd.underlying24 hv
  obtain ⟨fuel, hf⟩ := h
  obtain ⟨A, n, c, l, e, S, C, k, m⟩ := slice_in (fun c : Nat => Value.int .u16 (c : Nat)) (· < 65536) Tryd.underlying24 (by kernel_rfl) (u16_el Tryd.underlying36) hf
  simp [Value.cells] at e
  obtain ⟨rfl, rfl, rfl⟩ := e
  exact ⟨_, _, _, l, rfl, S, C, k, m⟩
end
end Go.Proofs.YtegcnnbhgdafmaaDoor.WdW
