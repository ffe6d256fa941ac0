/- The seventh layer's arguments that came in: a space, a memory. -/
import Derived.SizedLaws
import Derived.Test.YtjfhfgchglaoiaaChecked
import Derived.Test.YtjfhfgchglaoiaaRepArgs
import Derived.Test.YtjfhfgchglaoiaaMoD
import Derived.Deep.Slices
namespace Go.Proofs.Ytjfhfgchglaoiaa.AskW
open Go.RowKit Go.WideShapes Go.ChangeShapes Go.Joins Go.Deep Go.Proofs.Ytjfhfgchglaoiaa Go.Proofs.Ytjfhfgchglaoiaa.Ask Go.Proofs.Ytjfhfgchglaoiaa.Mo Go.Proofs.Ytjfhfgchglaoiaa.MoW
theorem of_reach {H : Type} {P : Program} {ts : List TypeId} {ds : List (DataW H)} (hz : (DataW.weightsEach P ts ds).all (· ≤ reachBytes) = true) {j : Nat} {t : TypeId} {d : DataW H} (ht : ts[j]? = some t) (hd : ds[j]? = some d) : ∀ k ∈ d.weights P t, k ≤ reachBytes := fun k hk => by
  have := List.all_eq_true.1 hz k (DataW.weights_mem_each ht hd k hk)
  simpa using this
section
variable {H : Type} {enc : TypeId × Value → H} {w : World} {base : Nat} {spare : Nat → Bool} {held : Bool} {r : Reach} {b0 : Nat} {v : Value} {d : DataW H} {p : List MemPlace}
theorem slice_reach {t e : TypeId} (ht : Try.prog.underlying t = some (.slice e)) (he : 1 ≤ Go.Program.bytesOf Try.prog e) {fuel : Nat} {A : Option Addr} {n c : Nat} {y : DataW H × List MemPlace} (h : DataW.trod enc Try.prog w base spare held fuel t [.slice A n c] = some y)
    (hz : ∀ k ∈ y.1.weights Try.prog t, k ≤ reachBytes) : n ≤ 140737488355328 := by
  rcases open_slice ht h with ⟨e1, _⟩ | ⟨a, len, cap, m, k, D, Pl, e1, _, _, _, _, rfl, _⟩
  · simp at e1
    omega
  · simp at e1
    obtain ⟨_, rfl, _⟩ := e1
    have h1 := hz ((((List.range n).map D).length + ((List.range (m - n)).map fun j => D (n + j)).length) * Go.Program.bytesOf Try.prog e) (by simp [DataW.weights, ht])
    have h2 := reachBytes_lt
    rw [List.length_map, List.length_range] at h1
    have h3 : n * 1 ≤ (n + ((List.range (m - n)).map fun j => D (n + j)).length) * Go.Program.bytesOf Try.prog e := Nat.mul_le_mul (by omega) he
    omega
set_option maxRecDepth 100000 in
theorem open_mem (hv : Value.okWide Try.prog w r b0 28 v) (h : DataW.Trod enc Try.prog w base spare held 28 v d p) (hz : ∀ k ∈ d.weights Try.prog 28, k ≤ reachBytes) :
    ∃ (y : Sp) (m : Mem), v = .agg #[.slice y.a.A y.a.n y.a.c, .slice y.b.A y.b.n y.b.c, .slice y.c.A y.c.n y.c.c, .slice y.d.A y.d.n y.d.c] ∧ MmOk w y m ∧ m.Wf ∧ (y.a.n ≤ 140737488355328 ∧ y.b.n ≤ 140737488355328 ∧ y.c.n ≤ 140737488355328 ∧ y.d.n ≤ 140737488355328) := by
  obtain ⟨v0, v1, v2, v3, y0, y1, y2, y3, n, rfl, rfl, _, h0, h1, h2, h3⟩ := open_agg4 Try.underlying28 (by kernel_rfl) (by kernel_rfl) hv h
  have z0 : ∀ k ∈ y0.1.weights Try.prog 25, k ≤ reachBytes := fun k hk => hz k (by simp [DataW.weights, DataW.weightsEach, Try.underlying28]; exact .inl hk)
  have z1 : ∀ k ∈ y1.1.weights Try.prog 25, k ≤ reachBytes := fun k hk => hz k (by simp [DataW.weights, DataW.weightsEach, Try.underlying28]; exact .inr (.inl hk))
  have z2 : ∀ k ∈ y2.1.weights Try.prog 26, k ≤ reachBytes := fun k hk => hz k (by simp [DataW.weights, DataW.weightsEach, Try.underlying28]; exact .inr (.inr (.inl hk)))
  have z3 : ∀ k ∈ y3.1.weights Try.prog 26, k ≤ reachBytes := fun k hk => hz k (by simp [DataW.weights, DataW.weightsEach, Try.underlying28]; exact .inr (.inr (.inr hk)))
  obtain ⟨A0, n0, c0, B0, e0, S0, _, k0, _⟩ := slice_in Value.bool (fun _ => True) Try.underlying25 (by kernel_rfl) (bool_el Try.underlying4) h0
  obtain ⟨A1, n1, c1, B1, e1, S1, _, k1, _⟩ := slice_in Value.bool (fun _ => True) Try.underlying25 (by kernel_rfl) (bool_el Try.underlying4) h1
  obtain ⟨A2, n2, c2, W2, e2, S2, C2, k2, _⟩ := slice_in (fun c : Nat => Value.int .u16 (c : Nat)) (· < 65536) Try.underlying26 (by kernel_rfl) (u16_el Try.underlying29) h2
  obtain ⟨A3, n3, c3, W3, e3, S3, C3, k3, _⟩ := slice_in (fun c : Nat => Value.int .u16 (c : Nat)) (· < 65536) Try.underlying26 (by kernel_rfl) (u16_el Try.underlying29) h3
  simp at e0 e1 e2 e3
  subst e0 e1 e2 e3
  exact ⟨⟨⟨A0, n0, c0⟩, ⟨A1, n1, c1⟩, ⟨A2, n2, c2⟩, ⟨A3, n3, c3⟩⟩, ⟨B0, B1, W2, W3⟩, rfl, ⟨S0, S1, S2, S3⟩, ⟨C2, C3⟩,
    slice_reach Try.underlying25 (of_decide_eq_true (by kernel_rfl)) h0 z0, slice_reach Try.underlying25 (of_decide_eq_true (by kernel_rfl)) h1 z1, slice_reach Try.underlying26 (of_decide_eq_true (by kernel_rfl)) h2 z2, slice_reach Try.underlying26 (of_decide_eq_true (by kernel_rfl)) h3 z3⟩
set_option maxRecDepth 100000 in
theorem el_area {fuel : Nat} {cs : List Value} {y : DataW H × List MemPlace} (hl : cs.length = 5) (h : DataW.trod enc Try.prog w base spare held fuel 49 cs = some y) : ∃ a : Area, cs = a.cells ∧ a.Ok := by
  obtain ⟨xs, n, _, rfl, _, hlen, hf⟩ := DataW.trod_struct Try.underlying49 h
  match cs, hl with
  | [c0, c1, c2, c3, c4], _ =>
    match xs, hlen with
    | [y0, y1, y2, y3, y4], _ =>
      have h0 := hf 0 _ rfl
      have h1 := hf 1 _ rfl
      have h2 := hf 2 _ rfl
      have h3 := hf 3 _ rfl
      have h4 := hf 4 _ rfl
      obtain ⟨x, rfl, w0⟩ := int_el Try.underlying3 _ _ _ (show DataW.trod enc Try.prog w base spare held n 3 [c0] = some y0 from h0)
      obtain ⟨z, rfl, w1⟩ := int_el Try.underlying3 _ _ _ (show DataW.trod enc Try.prog w base spare held n 3 [c1] = some y1 from h1)
      obtain ⟨b2, _, rfl⟩ := bool_el Try.underlying4 _ _ _ (show DataW.trod enc Try.prog w base spare held n 4 [c2] = some y2 from h2)
      obtain ⟨b3, _, rfl⟩ := bool_el Try.underlying4 _ _ _ (show DataW.trod enc Try.prog w base spare held n 4 [c3] = some y3 from h3)
      obtain ⟨b4, _, rfl⟩ := bool_el Try.underlying4 _ _ _ (show DataW.trod enc Try.prog w base spare held n 4 [c4] = some y4 from h4)
      have q0 := bounds_i64 w0
      have q1 := bounds_i64 w1
      exact ⟨⟨x, z, b2, b3, b4⟩, rfl, ⟨by show _ ≤ x; omega, by show x ≤ _; omega, by show _ ≤ z; omega, by show z ≤ _; omega⟩⟩
set_option maxRecDepth 100000 in
theorem areas_in {fuel : Nat} {cs : List Value} {y : DataW H × List MemPlace} (h : DataW.trod enc Try.prog w base spare held fuel 22 cs = some y) : ∃ A n c L, cs = [.slice A n c] ∧ Ar w A n L ∧ AOk L ∧ n ≤ c := by
  rcases open_slice Try.underlying22 h with ⟨e, _⟩ | ⟨a, len, cap, m, n, D, Pl, e, hb, hlc, hcm, hm, _, hel⟩
  · exact ⟨none, 0, 0, [], e, Ar.nil _ _, (fun _ h => by cases h), Nat.le_refl _⟩
  · have hc5 : Go.Program.cellsOf Try.prog 49 = 5 := by kernel_rfl
    rw [hc5] at hel
    have hlm : len ≤ m := by rw [hm]; split <;> omega
    have each : ∀ i, i < len → ∃ z : Area, (∀ j, j < 5 → w.cell? ((a.add (i * 5)).add j) = z.cells[j]?) ∧ z.Ok := by
      intro i hi
      obtain ⟨cs', hcs, ht⟩ := hel i (by omega)
      obtain ⟨_, hl5, hat⟩ := World.cells?_some hcs
      obtain ⟨z, rfl, h1⟩ := el_area hl5 ht
      exact ⟨z, fun j hj => hat j hj, h1⟩
    obtain ⟨zs, hzl, hz⟩ := pick len each
    refine ⟨some a, len, cap, zs, e, ⟨⟨by rw [acells_length, hzl], fun hpos => ?_⟩⟩, fun x hx => ?_, hlc⟩
    · obtain ⟨z, hzi, hcell, _⟩ := hz 0 (by omega)
      have h0 := hcell 0 (by omega)
      have hcc : w.cell? ((a.add (0 * 5)).add 0) = some (.int .i64 z.at') := h0
      obtain ⟨b, o, spot⟩ := a
      have hspot : spot = none := by simpa [Addr.add] using World.cell?_spot hcc
      subst hspot
      have hadd1 : ∀ j, (⟨b, o, none⟩ : Addr).add j = ⟨b, o + j, none⟩ := fun j => by unfold Addr.add; split <;> simp_all
      have hadd : ∀ i j, ((⟨b, o, none⟩ : Addr).add i).add j = ⟨b, o + (i + j), none⟩ := fun i j => by rw [add_add, hadd1]
      rw [hadd] at hcc
      refine ⟨b, o, rfl, World.block_lt_of_cell? w _ hcc, fun j hj => ?_⟩
      obtain ⟨z2, hz2, hcell2, _⟩ := hz (j / 5) (by omega)
      have h1 := hcell2 (j % 5) (by omega)
      rw [hadd, show j / 5 * 5 + j % 5 = j by omega] at h1
      rw [h1, ← acells_get hz2 (j % 5) (by omega)]
      congr 1
      omega
    · obtain ⟨i, hi, rfl⟩ := List.mem_iff_getElem.1 hx
      obtain ⟨z, hzi, _, h2⟩ := hz i (by omega)
      rw [List.getElem?_eq_getElem hi] at hzi
      injection hzi with hzi
      rw [hzi]; exact h2
set_option maxRecDepth 100000 in
theorem open_space (hv : Value.okWide Try.prog w r b0 24 v) (h : DataW.Trod enc Try.prog w base spare held 24 v d p) (hz : ∀ k ∈ d.weights Try.prog 24, k ≤ reachBytes) :
    ∃ (y : Sp) (s : Space), v = .agg #[.slice y.a.A y.a.n y.a.c, .slice y.b.A y.b.n y.b.c, .slice y.c.A y.c.n y.c.c, .slice y.d.A y.d.n y.d.c] ∧ SpOk w y s ∧ s.Ok ∧ (y.a.n ≤ 140737488355328 ∧ y.b.n ≤ 140737488355328 ∧ y.c.n ≤ 140737488355328 ∧ y.d.n ≤ 140737488355328) := by
  obtain ⟨v0, v1, v2, v3, y0, y1, y2, y3, n, rfl, rfl, _, h0, h1, h2, h3⟩ := open_agg4 Try.underlying24 (by kernel_rfl) (by kernel_rfl) hv h
  have z0 : ∀ k ∈ y0.1.weights Try.prog 22, k ≤ reachBytes := fun k hk => hz k (by simp [DataW.weights, DataW.weightsEach, Try.underlying24]; exact .inl hk)
  have z1 : ∀ k ∈ y1.1.weights Try.prog 22, k ≤ reachBytes := fun k hk => hz k (by simp [DataW.weights, DataW.weightsEach, Try.underlying24]; exact .inr (.inl hk))
  have z2 : ∀ k ∈ y2.1.weights Try.prog 22, k ≤ reachBytes := fun k hk => hz k (by simp [DataW.weights, DataW.weightsEach, Try.underlying24]; exact .inr (.inr (.inl hk)))
  have z3 : ∀ k ∈ y3.1.weights Try.prog 22, k ≤ reachBytes := fun k hk => hz k (by simp [DataW.weights, DataW.weightsEach, Try.underlying24]; exact .inr (.inr (.inr hk)))
  obtain ⟨A0, n0, c0, L0, e0, S0, C0, k0⟩ := areas_in h0
  obtain ⟨A1, n1, c1, L1, e1, S1, C1, k1⟩ := areas_in h1
  obtain ⟨A2, n2, c2, L2, e2, S2, C2, k2⟩ := areas_in h2
  obtain ⟨A3, n3, c3, L3, e3, S3, C3, k3⟩ := areas_in h3
  simp at e0 e1 e2 e3
  subst e0 e1 e2 e3
  exact ⟨⟨⟨A0, n0, c0⟩, ⟨A1, n1, c1⟩, ⟨A2, n2, c2⟩, ⟨A3, n3, c3⟩⟩, ⟨L0, L1, L2, L3⟩, rfl, ⟨S0, S1, S2, S3⟩, ⟨C0, C1, C2, C3⟩,
    slice_reach Try.underlying22 (of_decide_eq_true (by kernel_rfl)) h0 z0, slice_reach Try.underlying22 (of_decide_eq_true (by kernel_rfl)) h1 z1, slice_reach Try.underlying22 (of_decide_eq_true (by kernel_rfl)) h2 z2, slice_reach Try.underlying22 (of_decide_eq_true (by kernel_rfl)) h3 z3⟩
end
end Go.Proofs.Ytjfhfgchglaoiaa.AskW
