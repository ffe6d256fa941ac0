/- The third layer's arguments that came in: words, a reply. -/
import Derived.Test.YtjfhfgchglaoiaaAskArgs
import Derived.Test.YtjfhfgchglaoiaaRepMath
namespace Go.Proofs.Ytjfhfgchglaoiaa.AskW
open Go.RowKit Go.WideShapes Go.ChangeShapes Go.Joins Go.Proofs.Ytjfhfgchglaoiaa Go.Proofs.Ytjfhfgchglaoiaa.Ask
section
variable {H : Type} {enc : TypeId × Value → H} {w : World} {base : Nat} {spare : Nat → Bool} {held : Bool} {r : Reach} {b0 : Nat} {v : Value} {d : DataW H} {p : List MemPlace}
set_option maxRecDepth 100000 in
theorem open_words (hv : Value.okWide Try.prog w r b0 26 v) (h : DataW.Trod enc Try.prog w base spare held 26 v d p) : ∃ A n c l, v = .slice A n c ∧ Sl w w.heap.size A n (ws l) ∧ (∀ x ∈ l, x < 65536) ∧ n ≤ c ∧ n ≤ 9223372036854775807 := by
  obtain ⟨a, len, cap, rfl⟩ := okWide_slice Try.underlying26 hv
  obtain ⟨fuel, hf⟩ := h
  obtain ⟨A, n, c, l, e, S, C, k, m⟩ := slice_in (fun c : Nat => Value.int .u16 (c : Nat)) (· < 65536) Try.underlying26 (by kernel_rfl) (u16_el Try.underlying29) hf
  simp [Value.cells] at e
  obtain ⟨rfl, rfl, rfl⟩ := e
  exact ⟨_, _, _, l, rfl, S, C, k, m⟩
set_option maxRecDepth 100000 in
theorem open_reply (hv : Value.okWide Try.prog w r b0 36 v) (h : DataW.Trod enc Try.prog w base spare held 36 v d p) :
    ∃ f x Ab nb cb Aw nw cw a m B W, v = .agg #[.int .u8 (f : Nat), .int .u8 (x : Nat), .slice Ab nb cb, .slice Aw nw cw, .int .u16 (a : Nat), .int .u16 (m : Nat)] ∧ Sl w w.heap.size Ab nb (bl B) ∧ Sl w w.heap.size Aw nw (ws W) ∧ Rep.Wf ⟨f, x, B, W, a, m⟩ ∧ nb ≤ cb ∧ nw ≤ cw := by
  obtain ⟨v0, v1, v2, v3, v4, v5, y0, y1, y2, y3, y4, y5, n, rfl, h0, h1, h2, h3, h4, h5⟩ := open_agg6 Try.underlying36 (by kernel_rfl) (by kernel_rfl) hv h
  obtain ⟨f, hf, rfl⟩ := u8_el Try.underlying5 _ _ _ h0
  obtain ⟨x, hx, rfl⟩ := u8_el Try.underlying5 _ _ _ h1
  obtain ⟨Ab, nb, cb, B, eB, SB, _, kB, _⟩ := slice_in Value.bool (fun _ => True) Try.underlying25 (by kernel_rfl) (bool_el Try.underlying4) h2
  obtain ⟨Aw, nw, cw, W, eW, SW, CW, kW, _⟩ := slice_in (fun c : Nat => Value.int .u16 (c : Nat)) (· < 65536) Try.underlying26 (by kernel_rfl) (u16_el Try.underlying29) h3
  obtain ⟨a, ha, rfl⟩ := u16_el Try.underlying29 _ _ _ h4
  obtain ⟨m, hm, rfl⟩ := u16_el Try.underlying29 _ _ _ h5
  simp at eW eB
  subst eW eB
  exact ⟨f, x, Ab, nb, cb, Aw, nw, cw, a, m, B, W, rfl, SB, SW, ⟨hf, hx, CW, ha, hm⟩, kB, kW⟩
end
end Go.Proofs.Ytjfhfgchglaoiaa.AskW
