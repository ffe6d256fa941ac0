/- Arguments that came in: slices of one-cell elements, structs of six one-cell fields. No program in sight. -/
import Derived.Test.YtpajpcaninjhfaaElem
import Derived.Lib.SmallJoins
import Derived.ChangeSlices
import Derived.OpenShut
namespace Go.Proofs.Ytpajpcaninjhfaa
open Go.RowKit Go.WideShapes Go.ChangeShapes Go.Joins Go.Deep Go.WideElems Go.Maps
theorem pick {α : Type} {R : Nat → α → Prop} : ∀ n, (∀ i, i < n → ∃ a, R i a) → ∃ l : List α, l.length = n ∧ ∀ i, i < n → ∃ a, l[i]? = some a ∧ R i a
  | 0, _ => ⟨[], rfl, fun i h => absurd h (by omega)⟩
  | n + 1, h => by
    obtain ⟨l, hl, hr⟩ := pick n (fun i hi => h i (by omega))
    obtain ⟨a, ha⟩ := h n (by omega)
    refine ⟨l ++ [a], by simp [hl], fun i hi => ?_⟩
    by_cases he : i < n
    · obtain ⟨b, hb, hb2⟩ := hr i he
      exact ⟨b, by rw [List.getElem?_append_left (by omega)]; exact hb, hb2⟩
    · obtain rfl : i = n := by omega
      exact ⟨a, by rw [List.getElem?_append_right (by omega)]; simp [hl], ha⟩
section
variable {H : Type} {enc : TypeId × Value → H} {P : Program} {w : World} {base : Nat} {spare : Nat → Bool} {held : Bool}
theorem slice_in {α : Type} (f : α → Value) (C : α → Prop) {t e : TypeId} (ht : P.underlying t = some (.slice e)) (hc : P.cellsOf e = 1) (he : ∀ fuel v y, DataW.trod enc P w base spare held fuel e [v] = some y → ∃ a : α, C a ∧ v = f a)
    {fuel : Nat} {cs : List Value} {x : DataW H × List MemPlace} (h : DataW.trod enc P w base spare held fuel t cs = some x) :
    ∃ A n c, ∃ l : List α, cs = [.slice A n c] ∧ Sl w w.heap.size A n (l.map f) ∧ (∀ a ∈ l, C a) ∧ n ≤ c ∧ n ≤ 9223372036854775807 := by
  rcases DataW.trod_slice ht h with ⟨rfl, _⟩ | ⟨a, len, cap, elems, rest, n, _, rfl, rfl, hb, hl, hm, hlen, hel, hsp, hns⟩
  · exact ⟨none, 0, 0, [], rfl, Sl.empty _ _ _, (fun a h => by cases h), Nat.le_refl _, by omega⟩
  have each : ∀ i, i < len → ∃ z : α, C z ∧ w.cell? (a.add i) = some (f z) := by
    intro i hi
    have hE := hel i hi
    rw [hc, Nat.mul_one] at hE
    cases hy : elems[i]? with
    | none => rw [List.getElem?_eq_none_iff] at hy; omega
    | some y =>
      rw [hy, Option.bind_eq_some_iff] at hE
      obtain ⟨cs', hcs, hy'⟩ := hE
      obtain ⟨v, rfl, hv⟩ : ∃ v, cs' = [v] ∧ w.cell? (a.add i) = some v := by
        unfold World.cells? at hcs
        split at hcs
        · simp only [List.range_succ, List.range_zero, List.nil_append, List.mapM_cons, List.mapM_nil, show (a.add i).add 0 = a.add i by simp [Addr.add]] at hcs
          cases hcc : w.cell? (a.add i) with
          | none => simp [hcc] at hcs
          | some c => simp [hcc] at hcs; exact ⟨c, hcs.symm, rfl⟩
        · cases hcs
      obtain ⟨z, hz, rfl⟩ := he _ _ _ hy'
      exact ⟨z, hz, hv⟩
  obtain ⟨l, hll, hr⟩ := pick len each
  have hm' : cap ≤ 9223372036854775807 := by simpa [maxLen] using hm
  refine ⟨some a, len, cap, l, rfl, ⟨by simpa using hll, fun hn => ?_⟩, ?_, hl, by omega⟩
  · obtain ⟨z0, hz0, _, hcell⟩ := hr 0 (by omega)
    obtain ⟨b, o, spot⟩ := a
    have hspot : spot = none := by simpa [Addr.add] using World.cell?_spot hcell
    subst hspot
    have hadd : ∀ j, (⟨b, o, none⟩ : Addr).add j = ⟨b, o + j, none⟩ := fun j => by unfold Addr.add; split <;> simp_all
    have hbb := World.block_lt_of_cell? w _ hcell
    rw [hadd] at hbb
    refine ⟨b, o, rfl, hbb, fun j hj => ?_⟩
    obtain ⟨z, hz, _, hcj⟩ := hr j hj
    rw [← hadd, hcj, List.getElem?_map, hz]; rfl
  · intro z hz
    obtain ⟨i, hi, rfl⟩ := List.mem_iff_getElem.1 hz
    obtain ⟨a', ha', hC, _⟩ := hr i (by omega)
    rw [List.getElem?_eq_getElem hi] at ha'
    injection ha' with ha'
    rw [ha']; exact hC
theorem array6 {α : Type} {cs : Array α} (h : cs.size = 6) : ∃ c0 c1 c2 c3 c4 c5, cs = #[c0, c1, c2, c3, c4, c5] := by
  obtain ⟨l⟩ := cs
  match l, h with
  | [c0, c1, c2, c3, c4, c5], _ => exact ⟨c0, c1, c2, c3, c4, c5, rfl⟩
theorem trod_struct6 {t : TypeId} {f0 f1 f2 f3 f4 f5 : Field} {fuel : Nat} {cs : List Value} {x : DataW H × List MemPlace} (ht : P.underlying t = some (.struct #[f0, f1, f2, f3, f4, f5])) (h : DataW.trod enc P w base spare held fuel t cs = some x) :
    ∃ y0 y1 y2 y3 y4 y5 n, DataW.trod enc P w base spare held n f0.type ((cs.drop f0.offset).take (P.cellsOf f0.type)) = some y0 ∧
      DataW.trod enc P w base spare held n f1.type ((cs.drop f1.offset).take (P.cellsOf f1.type)) = some y1 ∧ DataW.trod enc P w base spare held n f2.type ((cs.drop f2.offset).take (P.cellsOf f2.type)) = some y2 ∧
      DataW.trod enc P w base spare held n f3.type ((cs.drop f3.offset).take (P.cellsOf f3.type)) = some y3 ∧ DataW.trod enc P w base spare held n f4.type ((cs.drop f4.offset).take (P.cellsOf f4.type)) = some y4 ∧
      DataW.trod enc P w base spare held n f5.type ((cs.drop f5.offset).take (P.cellsOf f5.type)) = some y5 := by
  obtain ⟨xs, n, _, rfl, hl, hlen, hf⟩ := DataW.trod_struct ht h
  match xs, hlen with
  | [y0, y1, y2, y3, y4, y5], _ => exact ⟨y0, y1, y2, y3, y4, y5, n, by simpa using hf 0 f0 rfl, by simpa using hf 1 f1 rfl, by simpa using hf 2 f2 rfl, by simpa using hf 3 f3 rfl, by simpa using hf 4 f4 rfl, by simpa using hf 5 f5 rfl⟩
theorem open_agg6 {r : Reach} {b0 : Nat} {t : TypeId} {f0 f1 f2 f3 f4 f5 : Field} {v : Value} {d : DataW H} {p : List MemPlace} (hs : P.underlying t = some (.struct #[f0, f1, f2, f3, f4, f5])) (hone : oneCellFields P #[f0, f1, f2, f3, f4, f5] = true) (hC : P.cellsOf t = 6)
    (hv : Value.okWide P w r b0 t v) (h : DataW.Trod enc P w base spare held t v d p) :
    ∃ (v0 v1 v2 v3 v4 v5 : Value) (y0 y1 y2 y3 y4 y5 : DataW H × List MemPlace) (n : Nat), v = .agg #[v0, v1, v2, v3, v4, v5] ∧
      DataW.trod enc P w base spare held n f0.type [v0] = some y0 ∧ DataW.trod enc P w base spare held n f1.type [v1] = some y1 ∧ DataW.trod enc P w base spare held n f2.type [v2] = some y2 ∧ DataW.trod enc P w base spare held n f3.type [v3] = some y3 ∧
      DataW.trod enc P w base spare held n f4.type [v4] = some y4 ∧ DataW.trod enc P w base spare held n f5.type [v5] = some y5 := by
  obtain ⟨cs, rfl, hsz⟩ := okWide_struct hs hv
  obtain ⟨c0, c1, c2, c3, c4, c5, rfl⟩ := array6 (hsz.trans hC)
  obtain ⟨fuel, hf⟩ := h
  obtain ⟨y0, y1, y2, y3, y4, y5, n, h0, h1, h2, h3, h4, h5⟩ := trod_struct6 hs hf
  obtain ⟨o0, k0⟩ := hone_of hone 0 f0 rfl
  obtain ⟨o1, k1⟩ := hone_of hone 1 f1 rfl
  obtain ⟨o2, k2⟩ := hone_of hone 2 f2 rfl
  obtain ⟨o3, k3⟩ := hone_of hone 3 f3 rfl
  obtain ⟨o4, k4⟩ := hone_of hone 4 f4 rfl
  obtain ⟨o5, k5⟩ := hone_of hone 5 f5 rfl
  exact ⟨c0, c1, c2, c3, c4, c5, y0, y1, y2, y3, y4, y5, n, rfl, by simpa [Value.cells, o0, k0] using h0, by simpa [Value.cells, o1, k1] using h1, by simpa [Value.cells, o2, k2] using h2, by simpa [Value.cells, o3, k3] using h3, by simpa [Value.cells, o4, k4] using h4, by simpa [Value.cells, o5, k5] using h5⟩
theorem int_el {e : TypeId} {k : IntKind} (he : P.underlying e = some (.int k)) (fuel : Nat) (v : Value) (y : DataW H × List MemPlace) (h : DataW.trod enc P w base spare held fuel e [v] = some y) : ∃ a : Int, v = .int k a ∧ (Lit.int k a).wf = true := by
  obtain ⟨n, hn, _, hw⟩ := DataW.trod_int he h
  simp at hn
  exact ⟨n, hn, hw⟩
theorem u8_el {e : TypeId} (he : P.underlying e = some (.int .u8)) (fuel : Nat) (v : Value) (y : DataW H × List MemPlace) (h : DataW.trod enc P w base spare held fuel e [v] = some y) : ∃ a : Nat, a < 256 ∧ v = .int .u8 (a : Nat) := by
  obtain ⟨n, rfl, hw⟩ := int_el he fuel v y h
  have := bounds_u8 hw
  exact ⟨n.toNat, by omega, by congr 1; omega⟩
theorem u16_el {e : TypeId} (he : P.underlying e = some (.int .u16)) (fuel : Nat) (v : Value) (y : DataW H × List MemPlace) (h : DataW.trod enc P w base spare held fuel e [v] = some y) : ∃ a : Nat, a < 65536 ∧ v = .int .u16 (a : Nat) := by
  obtain ⟨n, rfl, hw⟩ := int_el he fuel v y h
  have := bounds_u16 hw
  exact ⟨n.toNat, by omega, by congr 1; omega⟩
theorem bool_el {e : TypeId} (he : P.underlying e = some .bool) (fuel : Nat) (v : Value) (y : DataW H × List MemPlace) (h : DataW.trod enc P w base spare held fuel e [v] = some y) : ∃ a : Bool, True ∧ v = .bool a := by
  obtain ⟨b, hb, _⟩ := DataW.trod_bool he h
  simp at hb
  exact ⟨b, trivial, hb⟩
end
end Go.Proofs.Ytpajpcaninjhfaa
