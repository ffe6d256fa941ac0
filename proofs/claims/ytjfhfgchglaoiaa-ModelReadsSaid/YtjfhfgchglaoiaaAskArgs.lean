/- The law's arguments that came in: bytes, bits, a request. -/
import Derived.Test.YtjfhfgchglaoiaaChecked
import Derived.Test.YtjfhfgchglaoiaaBase
namespace Go.Proofs.Ytjfhfgchglaoiaa.AskW
open Go.RowKit Go.WideShapes Go.ChangeShapes Go.Joins Go.Proofs.Ytjfhfgchglaoiaa Go.Proofs.Ytjfhfgchglaoiaa.Ask
section
variable {H : Type} {enc : TypeId × Value → H} {w : World} {base : Nat} {spare : Nat → Bool} {held : Bool} {r : Reach} {b0 : Nat} {v : Value} {d : DataW H} {p : List MemPlace}
set_option maxRecDepth 100000 in
theorem open_bytes (hv : Value.okWide Try.prog w r b0 51 v) (h : DataW.Trod enc Try.prog w base spare held 51 v d p) : ∃ A n c l, v = .slice A n c ∧ Sl w w.heap.size A n (bs l) ∧ Bytes l ∧ n ≤ c ∧ n ≤ 9223372036854775807 := by
  obtain ⟨a, len, cap, rfl⟩ := okWide_slice Try.underlying51 hv
  obtain ⟨fuel, hf⟩ := h
  obtain ⟨A, n, c, l, e, S, C, k, m⟩ := slice_in (fun c : Nat => Value.int .u8 (c : Nat)) (· < 256) Try.underlying51 (by kernel_rfl) (u8_el Try.underlying5) hf
  simp [Value.cells] at e
  obtain ⟨rfl, rfl, rfl⟩ := e
  exact ⟨_, _, _, l, rfl, S, C, k, m⟩
set_option maxRecDepth 100000 in
theorem open_bools (hv : Value.okWide Try.prog w r b0 25 v) (h : DataW.Trod enc Try.prog w base spare held 25 v d p) : ∃ A n c l, v = .slice A n c ∧ Sl w w.heap.size A n (bl l) ∧ n ≤ c ∧ n ≤ 9223372036854775807 := by
  obtain ⟨a, len, cap, rfl⟩ := okWide_slice Try.underlying25 hv
  obtain ⟨fuel, hf⟩ := h
  obtain ⟨A, n, c, l, e, S, _, k, m⟩ := slice_in Value.bool (fun _ => True) Try.underlying25 (by kernel_rfl) (bool_el Try.underlying4) hf
  simp [Value.cells] at e
  obtain ⟨rfl, rfl, rfl⟩ := e
  exact ⟨_, _, _, l, rfl, S, k, m⟩
set_option maxRecDepth 100000 in
theorem open_ask (hv : Value.okWide Try.prog w r b0 31 v) (h : DataW.Trod enc Try.prog w base spare held 31 v d p) :
    ∃ f a m t Aw nw cw Ab nb cb W B, v = .agg #[.int .u8 (f : Nat), .int .u16 (a : Nat), .int .u16 (m : Nat), .int .u16 (t : Nat), .slice Aw nw cw, .slice Ab nb cb] ∧ Sl w w.heap.size Aw nw (ws W) ∧ Sl w w.heap.size Ab nb (bl B) ∧ Req.Wf ⟨f, a, m, t, W, B⟩ ∧ nw ≤ cw ∧ nb ≤ cb := by
  obtain ⟨v0, v1, v2, v3, v4, v5, y0, y1, y2, y3, y4, y5, n, rfl, h0, h1, h2, h3, h4, h5⟩ := open_agg6 Try.underlying31 (by kernel_rfl) (by kernel_rfl) hv h
  obtain ⟨f, hf, rfl⟩ := u8_el Try.underlying5 _ _ _ h0
  obtain ⟨a, ha, rfl⟩ := u16_el Try.underlying29 _ _ _ h1
  obtain ⟨m, hm, rfl⟩ := u16_el Try.underlying29 _ _ _ h2
  obtain ⟨t, ht, rfl⟩ := u16_el Try.underlying29 _ _ _ h3
  obtain ⟨Aw, nw, cw, W, eW, SW, CW, kW, _⟩ := slice_in (fun c : Nat => Value.int .u16 (c : Nat)) (· < 65536) Try.underlying26 (by kernel_rfl) (u16_el Try.underlying29) h4
  obtain ⟨Ab, nb, cb, B, eB, SB, _, kB, _⟩ := slice_in Value.bool (fun _ => True) Try.underlying25 (by kernel_rfl) (bool_el Try.underlying4) h5
  simp at eW eB
  subst eW eB
  exact ⟨f, a, m, t, Aw, nw, cw, Ab, nb, cb, W, B, rfl, SW, SB, ⟨hf, ha, hm, ht, CW⟩, kW, kB⟩
end
end Go.Proofs.Ytjfhfgchglaoiaa.AskW
