/- What is done with disks, as it came in: a slice of structs, each with a slice of bytes. -/
import Derived.Test.YtljiehnpknbohaaChecked
import Derived.Test.YtljiehnpknbohaaDkMath
import Derived.Test.YtljiehnpknbohaaBase
import Derived.Deep.Slices
set_option linter.unusedVariables false
namespace Go.Proofs.Ytljiehnpknbohaa.DkW
open Go.RowKit Go.WideShapes Go.ChangeShapes Go.Joins Go.Deep Go.Proofs.Ytljiehnpknbohaa Go.Proofs.Ytljiehnpknbohaa.Dk
structure Ov where
  what : Nat
  A : Option Addr
  m : Nat
  c : Nat
  n : Int
def Ov.cells (v : Ov) : List Value := [.int .u8 (v.what : Nat), .slice v.A v.m v.c, .int .i64 v.n]
def ocells (V : List Ov) : List Value := V.flatMap Ov.cells
theorem ocells_cons (v : Ov) (V : List Ov) : ocells (v :: V) = v.cells ++ ocells V := by simp [ocells]
theorem ocells_append (V W : List Ov) : ocells (V ++ W) = ocells V ++ ocells W := by simp [ocells]
theorem ocells_length (V : List Ov) : (ocells V).length = V.length * 3 := by
  induction V with
  | nil => rfl
  | cons v V ih => rw [ocells_cons, List.length_append, ih, List.length_cons]; show 3 + _ = _; omega
theorem ocells_get {V : List Ov} {i : Nat} {v : Ov} (h : V[i]? = some v) (j : Nat) (hj : j < 3) : (ocells V)[i * 3 + j]? = v.cells[j]? := by
  induction V generalizing i with
  | nil => cases h
  | cons u V ih =>
    rw [ocells_cons]
    cases i with
    | zero =>
      have h : u = v := by simpa using h
      subst h
      rw [List.getElem?_append_left (by show _ < 3; omega)]
      congr 1
      omega
    | succ i =>
      have h : V[i]? = some v := by simpa using h
      rw [List.getElem?_append_right (by show 3 ≤ _; omega), ← ih h]
      congr 1
      show (i + 1) * 3 + j - 3 = _
      omega
/-- These cells are what is done. -/
structure OvOk (w : World) (B : Nat) (v : Ov) (o : Deed) : Prop where
  what : v.what = o.what
  n : v.n = o.n
  b : Sl w B v.A v.m (bs o.b)
  cap : v.m ≤ v.c
theorem OvOk.to {w w' : World} {v : Ov} {o : Deed} (h : OvOk w w.heap.size v o) (k : Below w.heap.size w w') : OvOk w' w'.heap.size v o := ⟨h.what, h.n, h.b.to k, h.cap⟩
def OvsOk (w : World) (B : Nat) (V : List Ov) (L : List Deed) : Prop := V.length = L.length ∧ ∀ (i : Nat) v o, V[i]? = some v → L[i]? = some o → OvOk w B v o
theorem OvsOk.to {w w' : World} {V : List Ov} {L : List Deed} (h : OvsOk w w.heap.size V L) (k : Below w.heap.size w w') : OvsOk w' w'.heap.size V L := ⟨h.1, fun i v o a b => (h.2 i v o a b).to k⟩
theorem OvsOk.take {w : World} {B : Nat} {V : List Ov} {L : List Deed} (h : OvsOk w B V L) (k : Nat) : OvsOk w B (V.take k) (L.take k) := by
  refine ⟨by rw [List.length_take, List.length_take, h.1], fun i v m hv hm => ?_⟩
  rw [List.getElem?_take] at hv hm
  split at hv
  · rename_i hi
    rw [if_pos hi] at hm
    exact h.2 i v m hv hm
  · cases hv
theorem OvsOk.at {w : World} {B : Nat} {V : List Ov} {L : List Deed} (h : OvsOk w B V L) {i : Nat} (hi : i < V.length) : ∃ v, V[i]? = some v ∧ OvOk w B v (L[i]?.getD op0) := by
  refine ⟨V[i], List.getElem?_eq_getElem hi, ?_⟩
  rw [List.getElem?_eq_getElem (by rw [← h.1]; exact hi)]
  exact h.2 i _ _ (List.getElem?_eq_getElem hi) (by rw [List.getElem?_eq_getElem (by rw [← h.1]; exact hi)]; rfl)
/-- A slice of what is done. -/
def Os (w : World) (A : Option Addr) (n : Nat) (L : List Deed) : Prop := ∃ V, V.length = n ∧ Sl w w.heap.size A (n * 3) (ocells V) ∧ OvsOk w w.heap.size V L
section
variable {w w' : World} {A : Option Addr} {n : Nat} {L : List Deed}
theorem Os.to (h : Os w A n L) (k : Below w.heap.size w w') : Os w' A n L := by
  obtain ⟨V, h1, h2, h3⟩ := h
  exact ⟨V, h1, h2.to k, h3.to k⟩
theorem Os.len (h : Os w A n L) : L.length = n := by
  obtain ⟨V, h1, _, h3⟩ := h
  rw [← h3.1, h1]
theorem Os.nil (w : World) (A : Option Addr) : Os w A 0 [] := ⟨[], rfl, Sl.empty _ _ _, rfl, fun i v o h => by cases h⟩
theorem Os.take (h : Os w A n L) {k : Nat} (hk : k ≤ n) : Os w A k (L.take k) := by
  obtain ⟨V, h1, h2, h3⟩ := h
  have e : (ocells V).take (k * 3) = ocells (V.take k) := by
    have hh := ocells_append (V.take k) (V.drop k)
    rw [List.take_append_drop] at hh
    rw [hh, List.take_left' (by rw [ocells_length, List.length_take]; congr 1; omega)]
  have h5 := h2.take (k := k * 3) (by omega)
  rw [e] at h5
  exact ⟨V.take k, by rw [List.length_take]; omega, h5, h3.take k⟩
/-- A place in it. -/
theorem Os.atc (h : Os w A n L) {i : Nat} (hi : i < n) :
    ∃ b o, A = some ⟨b, o, none⟩ ∧ b < w.heap.size ∧ ∃ C k c, w.cell? ⟨b, o + i * 3, none⟩ = some (.int .u8 ((L[i]?.getD op0).what : Nat)) ∧ w.cell? ⟨b, o + i * 3 + 1, none⟩ = some (.slice C k c) ∧
      w.cell? ⟨b, o + i * 3 + 2, none⟩ = some (.int .i64 (L[i]?.getD op0).n) ∧ Sl w w.heap.size C k (bs (L[i]?.getD op0).b) ∧ k ≤ c := by
  obtain ⟨V, h1, h2, h3⟩ := h
  obtain ⟨v, hv, hm⟩ := h3.at (i := i) (by omega)
  obtain ⟨b, o, rfl, hb, hc⟩ := h2.2 (by omega)
  refine ⟨b, o, rfl, hb, v.A, v.m, v.c, ?_, ?_, ?_, hm.b, hm.cap⟩
  · have := (hc (i * 3 + 0) (by omega)).trans (ocells_get hv 0 (by omega))
    rw [Nat.add_zero] at this
    rw [this, ← hm.what]; rfl
  · rw [Nat.add_assoc, (hc (i * 3 + 1) (by omega)).trans (ocells_get hv 1 (by omega))]; rfl
  · rw [Nat.add_assoc, (hc (i * 3 + 2) (by omega)).trans (ocells_get hv 2 (by omega)), ← hm.n]; rfl
theorem Os.at (h : Os w A n L) {i : Nat} (hi : i < n) :
    ∃ b o, A = some ⟨b, o, none⟩ ∧ b < w.heap.size ∧ ∃ C k c, w.cell? ⟨b, o + i * 3, none⟩ = some (.int .u8 ((L[i]?.getD op0).what : Nat)) ∧ w.cell? ⟨b, o + i * 3 + 1, none⟩ = some (.slice C k c) ∧
      w.cell? ⟨b, o + i * 3 + 2, none⟩ = some (.int .i64 (L[i]?.getD op0).n) ∧ Sl w w.heap.size C k (bs (L[i]?.getD op0).b) := by
  obtain ⟨b, o, h1, h2, C, k, c, h3, h4, h5, h6, _⟩ := h.atc hi
  exact ⟨b, o, h1, h2, C, k, c, h3, h4, h5, h6⟩
end
def Oks (L : List Deed) : Prop := ∀ o ∈ L, o.Ok
theorem Oks.at {L : List Deed} (h : Oks L) (i : Nat) : (L[i]?.getD op0).Ok := by
  by_cases hi : i < L.length
  · rw [List.getElem?_eq_getElem hi]; exact h _ (List.getElem_mem hi)
  · rw [List.getElem?_eq_none (by omega)]; exact op0_ok
section
variable {H : Type} {enc : TypeId × Value → H} {w : World} {base : Nat} {spare : Nat → Bool} {held : Bool} {r : Reach} {b0 : Nat} {v : Value} {d : DataW H} {p : List MemPlace}
theorem i64_el (ht : Try.prog.underlying 3 = some (.int .i64)) (fuel : Nat) (c : Value) (y : DataW H × List MemPlace) (h : DataW.trod enc Try.prog w base spare held fuel 3 [c] = some y) : ∃ z : Int, -9223372036854775808 ≤ z ∧ z ≤ 9223372036854775807 ∧ c = .int .i64 z := by
  obtain ⟨z, hc, _, hw⟩ := DataW.trod_int ht h
  simp at hc
  subst hc
  have := bounds_i64 hw
  exact ⟨z, this.1, this.2, rfl⟩
set_option maxRecDepth 100000 in
theorem el_op {fuel : Nat} {cs : List Value} {y : DataW H × List MemPlace} (hl : cs.length = 3) (h : DataW.trod enc Try.prog w base spare held fuel 35 cs = some y) : ∃ z : Ov × Deed, cs = z.1.cells ∧ OvOk w w.heap.size z.1 z.2 ∧ z.2.Ok := by
  obtain ⟨y0, y1, y2, n, hx, _, h0, h1, h2⟩ := trod_struct3 Try.underlying35 h
  match cs, hl with
  | [c0, c1, c2], _ =>
    obtain ⟨u, hu, rfl⟩ := u8_el Try.underlying5 _ _ _ (show DataW.trod enc Try.prog w base spare held n 5 [c0] = some y0 from h0)
    obtain ⟨C, k, c, l, e, S, CC, kc, kk⟩ := slice_in (fun c : Nat => Value.int .u8 (c : Nat)) (· < 256) Try.underlying30 (by kernel_rfl) (u8_el Try.underlying5) (show DataW.trod enc Try.prog w base spare held n 30 [c1] = some y1 from h1)
    obtain ⟨z, hz1, hz2, rfl⟩ := i64_el Try.underlying3 _ _ _ (show DataW.trod enc Try.prog w base spare held n 3 [c2] = some y2 from h2)
    simp at e
    subst e
    exact ⟨(⟨u, C, k, c, z⟩, ⟨u, l, z⟩), rfl, ⟨rfl, rfl, S, kc⟩, ⟨hu, CC, hz1, hz2⟩⟩
set_option maxRecDepth 100000 in
theorem open_ops (hv : Value.okWide Try.prog w r b0 22 v) (h : DataW.Trod enc Try.prog w base spare held 22 v d p) :
    ∃ A n c L, v = .slice A n c ∧ Os w A n L ∧ Oks L ∧ n ≤ c ∧ n ≤ 9223372036854775807 := by
  obtain ⟨a0, len0, cap0, rfl⟩ := okWide_slice Try.underlying22 hv
  obtain ⟨fuel, hf⟩ := h
  rcases open_slice Try.underlying22 hf with ⟨e, _⟩ | ⟨a, len, cap, m, n, D, Pl, e, hb, hlc, hcm, hm, _, hel⟩
  · simp [Value.cells] at e
    obtain ⟨rfl, rfl, rfl⟩ := e
    exact ⟨none, 0, 0, [], rfl, Os.nil _ _, (fun _ h => by cases h), Nat.le_refl _, by omega⟩
  · simp [Value.cells] at e
    obtain ⟨rfl, rfl, rfl⟩ := e
    have hc3 : Go.Program.cellsOf Try.prog 35 = 3 := by kernel_rfl
    rw [hc3] at hel
    have hlm : len0 ≤ m := by rw [hm]; split <;> omega
    have each : ∀ i, i < len0 → ∃ z : Ov × Deed, (∀ j, j < 3 → w.cell? ((a.add (i * 3)).add j) = z.1.cells[j]?) ∧ OvOk w w.heap.size z.1 z.2 ∧ z.2.Ok := by
      intro i hi
      obtain ⟨cs', hcs, ht⟩ := hel i (by omega)
      obtain ⟨_, hl3, hat⟩ := World.cells?_some hcs
      obtain ⟨z, rfl, h1, h2⟩ := el_op hl3 ht
      exact ⟨z, fun j hj => hat j hj, h1, h2⟩
    obtain ⟨zs, hzl, hz⟩ := pick len0 each
    have hm' : cap0 ≤ 9223372036854775807 := by simpa [maxLen] using hcm
    refine ⟨some a, len0, cap0, zs.map (·.2), rfl, ⟨zs.map (·.1), by simpa using hzl, ⟨by rw [ocells_length, List.length_map, hzl], fun hpos => ?_⟩, ⟨by simp, fun i v mm hv hmm => ?_⟩⟩, fun x hx => ?_, hlc, by omega⟩
    · obtain ⟨z, hzi, hcell, _⟩ := hz 0 (by omega)
      have h0 := hcell 0 (by omega)
      have hcc : w.cell? ((a.add (0 * 3)).add 0) = some (.int .u8 (z.1.what : Nat)) := h0
      obtain ⟨b, o, spot⟩ := a
      have hspot : spot = none := by simpa [Addr.add] using World.cell?_spot hcc
      subst hspot
      have hadd1 : ∀ j, (⟨b, o, none⟩ : Addr).add j = ⟨b, o + j, none⟩ := fun j => by unfold Addr.add; split <;> simp_all
      have hadd : ∀ i j, ((⟨b, o, none⟩ : Addr).add i).add j = ⟨b, o + (i + j), none⟩ := fun i j => by rw [add_add, hadd1]
      rw [hadd] at hcc
      refine ⟨b, o, rfl, World.block_lt_of_cell? w _ hcc, fun j hj => ?_⟩
      obtain ⟨z2, hz2, hcell2, _⟩ := hz (j / 3) (by omega)
      have h1 := hcell2 (j % 3) (by omega)
      rw [hadd, show j / 3 * 3 + j % 3 = j by omega] at h1
      rw [h1, ← ocells_get (V := zs.map (·.1)) (i := j / 3) (v := z2.1) (by rw [List.getElem?_map, hz2]; rfl) (j % 3) (by omega)]
      congr 1
      omega
    · rw [List.getElem?_map] at hv hmm
      have hi : i < len0 := by
        rcases Nat.lt_or_ge i zs.length with h | h
        · omega
        · rw [List.getElem?_eq_none h] at hv; cases hv
      obtain ⟨z, hzi, _, h1, _⟩ := hz i hi
      rw [hzi] at hv hmm
      simp at hv hmm
      subst hv hmm
      exact h1
    · obtain ⟨z, hzm, rfl⟩ := List.mem_map.1 hx
      obtain ⟨i, hi, rfl⟩ := List.mem_iff_getElem.1 hzm
      obtain ⟨z, hzi, _, _, h2⟩ := hz i (by omega)
      rw [List.getElem?_eq_getElem hi] at hzi
      injection hzi with hzi
      rw [hzi]; exact h2
set_option maxRecDepth 100000 in
theorem open_op (hv : Value.okWide Try.prog w r b0 35 v) (h : DataW.Trod enc Try.prog w base spare held 35 v d p) :
    ∃ u C k c l z, v = .agg #[.int .u8 (u : Nat), .slice C k c, .int .i64 z] ∧ Sl w w.heap.size C k (bs l) ∧ Deed.Ok ⟨u, l, z⟩ ∧ k ≤ 9223372036854775807 := by
  obtain ⟨v0, v1, v2, y0, y1, y2, n, rfl, _, _, h0, h1, h2⟩ := open_agg3 Try.underlying35 (by kernel_rfl) (by kernel_rfl) hv h
  obtain ⟨u, hu, rfl⟩ := u8_el Try.underlying5 _ _ _ h0
  obtain ⟨C, k, c, l, e, S, CC, _, kk⟩ := slice_in (fun c : Nat => Value.int .u8 (c : Nat)) (· < 256) Try.underlying30 (by kernel_rfl) (u8_el Try.underlying5) h1
  obtain ⟨z, hz1, hz2, rfl⟩ := i64_el Try.underlying3 _ _ _ h2
  simp at e
  subst e
  exact ⟨u, C, k, c, l, z, rfl, S, ⟨hu, CC, hz1, hz2⟩, kk⟩
end
end Go.Proofs.Ytljiehnpknbohaa.DkW
