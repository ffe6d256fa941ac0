/- The sixth layer's arguments that came in: bytes, bits, registers. -/
import Derived.Test.YtljiehnpknbohaaChecked
import Derived.Test.YtljiehnpknbohaaBase
namespace Go.Proofs.Ytljiehnpknbohaa.WdW
open Go.RowKit Go.WideShapes Go.ChangeShapes Go.Joins Go.Proofs.Ytljiehnpknbohaa
section
variable {H : Type} {enc : TypeId × Value → H} {w : World} {base : Nat} {spare : Nat → Bool} {held : Bool} {r : Reach} {b0 : Nat} {v : Value} {d : DataW H} {p : List MemPlace}
set_option maxRecDepth 100000 in
theorem open_bytes (hv : Value.okWide Try.prog w r b0 30 v) (h : DataW.Trod enc Try.prog w base spare held 30 v d p) : ∃ A n c l, v = .slice A n c ∧ Sl w w.heap.size A n (bs l) ∧ Bytes l ∧ n ≤ c ∧ n ≤ 9223372036854775807 := by
  obtain ⟨a, len, cap, rfl⟩ := okWide_slice Try.underlying30 hv
  obtain ⟨fuel, hf⟩ := h
  obtain ⟨A, n, c, l, e, S, C, k, m⟩ := slice_in (fun c : Nat => Value.int .u8 (c : Nat)) (· < 256) Try.underlying30 (by kernel_rfl) (u8_el Try.underlying5) hf
  simp [Value.cells] at e
  obtain ⟨rfl, rfl, rfl⟩ := e
  exact ⟨_, _, _, l, rfl, S, C, k, m⟩
end
end Go.Proofs.Ytljiehnpknbohaa.WdW
