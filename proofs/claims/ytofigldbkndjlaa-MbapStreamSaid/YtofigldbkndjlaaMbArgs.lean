/- The fifth layer's arguments that came in: bytes, a frame, a slice of frames. -/
import Derived.Test.YtofigldbkndjlaaChecked
import Derived.Test.YtofigldbkndjlaaBase
import Derived.Test.YtofigldbkndjlaaMbI
import Derived.Deep.Slices
namespace Go.Proofs.Ytofigldbkndjlaa.MbW
open Go.RowKit Go.WideShapes Go.ChangeShapes Go.Joins Go.Deep Go.Proofs.Ytofigldbkndjlaa Go.Proofs.Ytofigldbkndjlaa.Mb
section
variable {H : Type} {enc : TypeId × Value → H} {w : World} {base : Nat} {spare : Nat → Bool} {held : Bool} {r : Reach} {b0 : Nat} {v : Value} {d : DataW H} {p : List MemPlace}
set_option maxRecDepth 100000 in
theorem open_bytes (hv : Value.okWide Try.prog w r b0 23 v) (h : DataW.Trod enc Try.prog w base spare held 23 v d p) : ∃ A n c l, v = .slice A n c ∧ Sl w w.heap.size A n (bs l) ∧ Bytes l ∧ n ≤ c ∧ n ≤ 9223372036854775807 := by
  obtain ⟨a, len, cap, rfl⟩ := okWide_slice Try.underlying23 hv
  obtain ⟨fuel, hf⟩ := h
  obtain ⟨A, n, c, l, e, S, C, k, m⟩ := slice_in (fun c : Nat => Value.int .u8 (c : Nat)) (· < 256) Try.underlying23 (by kernel_rfl) (u8_el Try.underlying5) hf
  simp [Value.cells] at e
  obtain ⟨rfl, rfl, rfl⟩ := e
  exact ⟨_, _, _, l, rfl, S, C, k, m⟩
set_option maxRecDepth 100000 in
theorem open_mbap (hv : Value.okWide Try.prog w r b0 25 v) (h : DataW.Trod enc Try.prog w base spare held 25 v d p) :
    ∃ tx u C k c l, v = .agg #[.int .u16 (tx : Nat), .int .u8 (u : Nat), .slice C k c] ∧ Sl w w.heap.size C k (bs l) ∧ Fm.Ok ⟨tx, u, l⟩ ∧ k ≤ 9223372036854775807 := by
  obtain ⟨v0, v1, v2, y0, y1, y2, n, rfl, _, _, h0, h1, h2⟩ := open_agg3 Try.underlying25 (by kernel_rfl) (by kernel_rfl) hv h
  obtain ⟨tx, ht, rfl⟩ := u16_el Try.underlying22 _ _ _ h0
  obtain ⟨u, hu, rfl⟩ := u8_el Try.underlying5 _ _ _ h1
  obtain ⟨C, k, c, l, e, S, CC, _, kk⟩ := slice_in (fun c : Nat => Value.int .u8 (c : Nat)) (· < 256) Try.underlying23 (by kernel_rfl) (u8_el Try.underlying5) h2
  simp at e
  subst e
  exact ⟨tx, u, C, k, c, l, rfl, S, ⟨ht, hu, CC⟩, kk⟩
set_option maxRecDepth 100000 in
theorem el_fm {fuel : Nat} {cs : List Value} {y : DataW H × List MemPlace} (hl : cs.length = 3) (h : DataW.trod enc Try.prog w base spare held fuel 25 cs = some y) : ∃ z : Fv × Fm, cs = z.1.cells ∧ FvOk w w.heap.size z.1 z.2 ∧ z.2.Ok := by
  obtain ⟨y0, y1, y2, n, hx, _, h0, h1, h2⟩ := trod_struct3 Try.underlying25 h
  match cs, hl with
  | [c0, c1, c2], _ =>
    obtain ⟨tx, ht, rfl⟩ := u16_el Try.underlying22 _ _ _ (show DataW.trod enc Try.prog w base spare held n 22 [c0] = some y0 from h0)
    obtain ⟨u, hu, rfl⟩ := u8_el Try.underlying5 _ _ _ (show DataW.trod enc Try.prog w base spare held n 5 [c1] = some y1 from h1)
    obtain ⟨C, k, c, l, e, S, CC, _, kk⟩ := slice_in (fun c : Nat => Value.int .u8 (c : Nat)) (· < 256) Try.underlying23 (by kernel_rfl) (u8_el Try.underlying5) (show DataW.trod enc Try.prog w base spare held n 23 [c2] = some y2 from h2)
    simp at e
    subst e
    exact ⟨(⟨tx, u, C, k, c⟩, ⟨tx, u, l⟩), rfl, ⟨rfl, rfl, S⟩, ⟨ht, hu, CC⟩⟩
set_option maxRecDepth 100000 in
theorem open_mbaps (hv : Value.okWide Try.prog w r b0 35 v) (h : DataW.Trod enc Try.prog w base spare held 35 v d p) :
    ∃ A n c L, v = .slice A n c ∧ Fr w A n L (fun _ => True) ∧ Oks L ∧ n ≤ c ∧ n ≤ 9223372036854775807 := by
  obtain ⟨a0, len0, cap0, rfl⟩ := okWide_slice Try.underlying35 hv
  obtain ⟨fuel, hf⟩ := h
  rcases open_slice Try.underlying35 hf with ⟨e, _⟩ | ⟨a, len, cap, m, n, D, Pl, e, hb, hlc, hcm, hm, _, hel⟩
  · simp [Value.cells] at e
    obtain ⟨rfl, rfl, rfl⟩ := e
    exact ⟨none, 0, 0, [], rfl, Fr.nil _ _ _, (fun _ h => by cases h), Nat.le_refl _, by omega⟩
  · simp [Value.cells] at e
    obtain ⟨rfl, rfl, rfl⟩ := e
    have hc3 : Go.Program.cellsOf Try.prog 25 = 3 := by kernel_rfl
    rw [hc3] at hel
    have hlm : len0 ≤ m := by rw [hm]; split <;> omega
    have each : ∀ i, i < len0 → ∃ z : Fv × Fm, (∀ j, j < 3 → w.cell? ((a.add (i * 3)).add j) = z.1.cells[j]?) ∧ FvOk w w.heap.size z.1 z.2 ∧ z.2.Ok := by
      intro i hi
      obtain ⟨cs', hcs, ht⟩ := hel i (by omega)
      obtain ⟨_, hl3, hat⟩ := World.cells?_some hcs
      obtain ⟨z, rfl, h1, h2⟩ := el_fm hl3 ht
      exact ⟨z, fun j hj => hat j hj, h1, h2⟩
    obtain ⟨zs, hzl, hz⟩ := pick len0 each
    have hm' : cap0 ≤ 9223372036854775807 := by simpa [maxLen] using hcm
    refine ⟨some a, len0, cap0, zs.map (·.2), rfl, ⟨zs.map (·.1), by simpa using hzl, ⟨by rw [fcells_length, List.length_map, hzl], fun hpos => ?_⟩, ⟨by simp, fun i v mm hv hmm => ?_⟩, fun _ _ _ _ _ _ => trivial⟩, fun x hx => ?_, hlc, by omega⟩
    · obtain ⟨z, hzi, hcell, _⟩ := hz 0 (by omega)
      have h0 := hcell 0 (by omega)
      have hcc : w.cell? ((a.add (0 * 3)).add 0) = some (.int .u16 (z.1.tx : Nat)) := h0
      obtain ⟨b, o, spot⟩ := a
      have hspot : spot = none := by simpa [Addr.add] using World.cell?_spot hcc
      subst hspot
      have hadd1 : ∀ j, (⟨b, o, none⟩ : Addr).add j = ⟨b, o + j, none⟩ := fun j => by unfold Addr.add; split <;> simp_all
      have hadd : ∀ i j, ((⟨b, o, none⟩ : Addr).add i).add j = ⟨b, o + (i + j), none⟩ := fun i j => by rw [add_add, hadd1]
      rw [hadd] at hcc
      refine ⟨b, o, rfl, World.block_lt_of_cell? w _ hcc, fun j hj => ?_⟩
      obtain ⟨z2, hz2, hcell2, _⟩ := hz (j / 3) (by omega)
      have h1 := hcell2 (j % 3) (by omega)
      rw [hadd, show j / 3 * 3 + j % 3 = j by omega] at h1
      rw [h1, ← fcells_get (V := zs.map (·.1)) (i := j / 3) (v := z2.1) (by rw [List.getElem?_map, hz2]; rfl) (j % 3) (by omega)]
      congr 1
      omega
    · rw [List.getElem?_map] at hv hmm
      have hi : i < len0 := by
        rcases Nat.lt_or_ge i zs.length with h | h
        · omega
        · rw [List.getElem?_eq_none h] at hv; cases hv
      obtain ⟨z, hzi, _, h1, _⟩ := hz i hi
      rw [hzi] at hv hmm
      simp at hv hmm
      subst hv hmm
      exact h1
    · obtain ⟨z, hzm, rfl⟩ := List.mem_map.1 hx
      obtain ⟨i, hi, rfl⟩ := List.mem_iff_getElem.1 hzm
      obtain ⟨z, hzi, _, _, h2⟩ := hz i (by omega)
      rw [List.getElem?_eq_getElem hi] at hzi
      injection hzi with hzi
      rw [hzi]; exact h2
end
end Go.Proofs.Ytofigldbkndjlaa.MbW
