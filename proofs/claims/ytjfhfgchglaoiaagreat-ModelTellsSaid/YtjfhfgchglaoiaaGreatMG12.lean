/- Merged: RepO1 RepO4. -/
import Derived.Test.YtjfhfgchglaoiaaGreatAG6
import Derived.Test.YtjfhfgchglaoiaaGreatRepRT
import Derived.Test.YtjfhfgchglaoiaaGreatRepL
import Derived.Deep.RegionHeld3
import Derived.Test.YtjfhfgchglaoiaaGreatRepW7
import Derived.Test.YtjfhfgchglaoiaaGreatRepW9
import Derived.Deep.DeepCutAuto
/- The walk of ReplyOne. -/
set_option linter.unusedVariables false
set_option linter.unusedSimpArgs false
namespace Go.Proofs.YtjfhfgchglaoiaaGreat.AskW
open Go.RowKit Go.Proofs.YtjfhfgchglaoiaaGreat Go.Proofs.YtjfhfgchglaoiaaGreat.Ask
theorem keep12r {X w' : World} {g1 g2 : Nat} {t1 t2 : TypeId} {u0 u1 u2 u3 u4 u5 v0 v1 v2 v3 v4 v5 : Value} (b : Below X.heap.size X w') (r1 : X.heap[g1]? = some (.cells #[u0, u1, u2, u3, u4, u5] t1 (0, 0))) (r2 : X.heap[g2]? = some (.cells #[v0, v1, v2, v3, v4, v5] t2 (0, 0))) :
    Below X.heap.size X w' ∧ w'.cell? ⟨g1, 0, none⟩ = some u0 ∧ w'.cell? ⟨g1, 1, none⟩ = some u1 ∧ w'.cell? ⟨g1, 2, none⟩ = some u2 ∧ w'.cell? ⟨g1, 3, none⟩ = some u3 ∧ w'.cell? ⟨g1, 4, none⟩ = some u4 ∧ w'.cell? ⟨g1, 5, none⟩ = some u5 ∧
      w'.cell? ⟨g2, 0, none⟩ = some v0 ∧ w'.cell? ⟨g2, 1, none⟩ = some v1 ∧ w'.cell? ⟨g2, 2, none⟩ = some v2 ∧ w'.cell? ⟨g2, 3, none⟩ = some v3 ∧ w'.cell? ⟨g2, 4, none⟩ = some v4 ∧ w'.cell? ⟨g2, 5, none⟩ = some v5 := by
  obtain ⟨h0, h1, h2, h3, h4, h5⟩ := row6 (b.row (row_lt r1) r1)
  obtain ⟨k0, k1, k2, k3, k4, k5⟩ := row6 (b.row (row_lt r2) r2)
  exact ⟨b, h0, h1, h2, h3, h4, h5, k0, k1, k2, k3, k4, k5⟩
theorem rep_beq (f x a m f2 x2 a2 m2 : Nat) (W W2 : List Nat) (B B2 : List Bool) (h1 : rright ⟨f, x, B, W, a, m⟩ = true) (h2 : rright ⟨f2, x2, B2, W2, a2, m2⟩ = true) :
    (rbytes ⟨f, x, B, W, a, m⟩ == rbytes ⟨f2, x2, B2, W2, a2, m2⟩) = (f == f2 && x == x2 && a == a2 && m == m2 && B == B2 && W == W2) := by
  rw [Bool.eq_iff_iff]
  simp only [beq_iff_eq, Bool.and_eq_true]
  constructor
  · intro h
    have := rbytes_inj h1 h2 h
    simp only [Rep.mk.injEq] at this
    obtain ⟨e1, e2, e3, e4, e5, e6⟩ := this
    exact ⟨⟨⟨⟨⟨e1, e2⟩, e5⟩, e6⟩, e3⟩, e4⟩
  · rintro ⟨⟨⟨⟨⟨rfl, rfl⟩, rfl⟩, rfl⟩, rfl⟩, rfl⟩
    rfl
theorem rbytesE_cases (r : Rep) : (rright r = true ∧ rbytesE r = (rbytes r, 0)) ∨ (rright r = false ∧ rbytesE r = ([], 13)) := by
  unfold rbytesE
  cases h : rright r
  · exact Or.inr ⟨rfl, rfl⟩
  · exact Or.inl ⟨rfl, rfl⟩
theorem rbytesE_lt (r : Rep) (h : r.Wf) : Bytes (rbytesE r).1 := by
  rcases rbytesE_cases r with ⟨hr, e⟩ | ⟨_, e⟩ <;> rw [e]
  · obtain ⟨k, _, _, hb⟩ := rright_kd hr
    rw [hb]; exact kbytes_lt k r h
  · exact Bytes.nil
theorem rparse_wf {xs : List Nat} (h : Bytes xs) : (rparse xs).1.Wf := by
  have h0 : rep0.Wf := ⟨by decide, by decide, (fun y hy => by cases hy), by decide, by decide⟩
  unfold rparse
  by_cases h1 : xs.length = 0 ∨ 253 < xs.length
  · rw [if_pos h1]; exact h0
  rw [if_neg h1]
  cases hk : kdBy (xs[0]?.getD 0) with
  | none => exact h0
  | some k =>
    dsimp only
    split
    · exact read_wf k h
    · exact h0
theorem rright_small {r : Rep} (h : rright r = true) : r.bits.length ≤ 2000 ∧ r.words.length ≤ 125 := by
  obtain ⟨k, _, hr, _⟩ := rright_kd h
  obtain ⟨f, x, B, W, a, m⟩ := r
  exact rwf_small hr
end Go.Proofs.YtjfhfgchglaoiaaGreat.AskW
/- The walk of ReplyTells. -/
set_option linter.unusedVariables false
set_option linter.unusedSimpArgs false
namespace Go.Proofs.YtjfhfgchglaoiaaGreat.AskW
open Go.RowKit Go.Proofs.YtjfhfgchglaoiaaGreat Go.Proofs.YtjfhfgchglaoiaaGreat.Ask
theorem keepR4 {X w' : World} {g0 : Nat} {t0 : TypeId} {v00 v01 v02 v03 v04 v05 : Value} {g1 : Nat} {t1 : TypeId} {v10 v11 v12 v13 v14 v15 : Value} {g2 : Nat} {t2 : TypeId} {v20 v21 v22 v23 v24 v25 : Value} {g3 : Nat} {t3 : TypeId} {v30 v31 v32 v33 v34 v35 : Value} (b : Below X.heap.size X w') (r0 : X.heap[g0]? = some (.cells #[v00, v01, v02, v03, v04, v05] t0 (0, 0))) (r1 : X.heap[g1]? = some (.cells #[v10, v11, v12, v13, v14, v15] t1 (0, 0))) (r2 : X.heap[g2]? = some (.cells #[v20, v21, v22, v23, v24, v25] t2 (0, 0))) (r3 : X.heap[g3]? = some (.cells #[v30, v31, v32, v33, v34, v35] t3 (0, 0))) :
    Below X.heap.size X w' ∧ w'.cell? ⟨g0, 0, none⟩ = some v00 ∧ w'.cell? ⟨g0, 1, none⟩ = some v01 ∧ w'.cell? ⟨g0, 2, none⟩ = some v02 ∧ w'.cell? ⟨g0, 3, none⟩ = some v03 ∧ w'.cell? ⟨g0, 4, none⟩ = some v04 ∧ w'.cell? ⟨g0, 5, none⟩ = some v05 ∧ w'.cell? ⟨g1, 0, none⟩ = some v10 ∧ w'.cell? ⟨g1, 1, none⟩ = some v11 ∧ w'.cell? ⟨g1, 2, none⟩ = some v12 ∧ w'.cell? ⟨g1, 3, none⟩ = some v13 ∧ w'.cell? ⟨g1, 4, none⟩ = some v14 ∧ w'.cell? ⟨g1, 5, none⟩ = some v15 ∧ w'.cell? ⟨g2, 0, none⟩ = some v20 ∧ w'.cell? ⟨g2, 1, none⟩ = some v21 ∧ w'.cell? ⟨g2, 2, none⟩ = some v22 ∧ w'.cell? ⟨g2, 3, none⟩ = some v23 ∧ w'.cell? ⟨g2, 4, none⟩ = some v24 ∧ w'.cell? ⟨g2, 5, none⟩ = some v25 ∧ w'.cell? ⟨g3, 0, none⟩ = some v30 ∧ w'.cell? ⟨g3, 1, none⟩ = some v31 ∧ w'.cell? ⟨g3, 2, none⟩ = some v32 ∧ w'.cell? ⟨g3, 3, none⟩ = some v33 ∧ w'.cell? ⟨g3, 4, none⟩ = some v34 ∧ w'.cell? ⟨g3, 5, none⟩ = some v35 := by
  obtain ⟨h00, h01, h02, h03, h04, h05⟩ := row6 (b.row (row_lt r0) r0)
  obtain ⟨h10, h11, h12, h13, h14, h15⟩ := row6 (b.row (row_lt r1) r1)
  obtain ⟨h20, h21, h22, h23, h24, h25⟩ := row6 (b.row (row_lt r2) r2)
  obtain ⟨h30, h31, h32, h33, h34, h35⟩ := row6 (b.row (row_lt r3) r3)
  exact ⟨b, h00, h01, h02, h03, h04, h05, h10, h11, h12, h13, h14, h15, h20, h21, h22, h23, h24, h25, h30, h31, h32, h33, h34, h35⟩
theorem keepR5 {X w' : World} {g0 : Nat} {t0 : TypeId} {v00 v01 v02 v03 v04 v05 : Value} {g1 : Nat} {t1 : TypeId} {v10 v11 v12 v13 v14 v15 : Value} {g2 : Nat} {t2 : TypeId} {v20 v21 v22 v23 v24 v25 : Value} {g3 : Nat} {t3 : TypeId} {v30 v31 v32 v33 v34 v35 : Value} {g4 : Nat} {t4 : TypeId} {v40 v41 v42 v43 v44 v45 : Value} (b : Below X.heap.size X w') (r0 : X.heap[g0]? = some (.cells #[v00, v01, v02, v03, v04, v05] t0 (0, 0))) (r1 : X.heap[g1]? = some (.cells #[v10, v11, v12, v13, v14, v15] t1 (0, 0))) (r2 : X.heap[g2]? = some (.cells #[v20, v21, v22, v23, v24, v25] t2 (0, 0))) (r3 : X.heap[g3]? = some (.cells #[v30, v31, v32, v33, v34, v35] t3 (0, 0))) (r4 : X.heap[g4]? = some (.cells #[v40, v41, v42, v43, v44, v45] t4 (0, 0))) :
    Below X.heap.size X w' ∧ w'.cell? ⟨g0, 0, none⟩ = some v00 ∧ w'.cell? ⟨g0, 1, none⟩ = some v01 ∧ w'.cell? ⟨g0, 2, none⟩ = some v02 ∧ w'.cell? ⟨g0, 3, none⟩ = some v03 ∧ w'.cell? ⟨g0, 4, none⟩ = some v04 ∧ w'.cell? ⟨g0, 5, none⟩ = some v05 ∧ w'.cell? ⟨g1, 0, none⟩ = some v10 ∧ w'.cell? ⟨g1, 1, none⟩ = some v11 ∧ w'.cell? ⟨g1, 2, none⟩ = some v12 ∧ w'.cell? ⟨g1, 3, none⟩ = some v13 ∧ w'.cell? ⟨g1, 4, none⟩ = some v14 ∧ w'.cell? ⟨g1, 5, none⟩ = some v15 ∧ w'.cell? ⟨g2, 0, none⟩ = some v20 ∧ w'.cell? ⟨g2, 1, none⟩ = some v21 ∧ w'.cell? ⟨g2, 2, none⟩ = some v22 ∧ w'.cell? ⟨g2, 3, none⟩ = some v23 ∧ w'.cell? ⟨g2, 4, none⟩ = some v24 ∧ w'.cell? ⟨g2, 5, none⟩ = some v25 ∧ w'.cell? ⟨g3, 0, none⟩ = some v30 ∧ w'.cell? ⟨g3, 1, none⟩ = some v31 ∧ w'.cell? ⟨g3, 2, none⟩ = some v32 ∧ w'.cell? ⟨g3, 3, none⟩ = some v33 ∧ w'.cell? ⟨g3, 4, none⟩ = some v34 ∧ w'.cell? ⟨g3, 5, none⟩ = some v35 ∧ w'.cell? ⟨g4, 0, none⟩ = some v40 ∧ w'.cell? ⟨g4, 1, none⟩ = some v41 ∧ w'.cell? ⟨g4, 2, none⟩ = some v42 ∧ w'.cell? ⟨g4, 3, none⟩ = some v43 ∧ w'.cell? ⟨g4, 4, none⟩ = some v44 ∧ w'.cell? ⟨g4, 5, none⟩ = some v45 := by
  obtain ⟨h00, h01, h02, h03, h04, h05⟩ := row6 (b.row (row_lt r0) r0)
  obtain ⟨h10, h11, h12, h13, h14, h15⟩ := row6 (b.row (row_lt r1) r1)
  obtain ⟨h20, h21, h22, h23, h24, h25⟩ := row6 (b.row (row_lt r2) r2)
  obtain ⟨h30, h31, h32, h33, h34, h35⟩ := row6 (b.row (row_lt r3) r3)
  obtain ⟨h40, h41, h42, h43, h44, h45⟩ := row6 (b.row (row_lt r4) r4)
  exact ⟨b, h00, h01, h02, h03, h04, h05, h10, h11, h12, h13, h14, h15, h20, h21, h22, h23, h24, h25, h30, h31, h32, h33, h34, h35, h40, h41, h42, h43, h44, h45⟩
theorem ref3Same_self (f x a m : Nat) (Aw : Option Addr) (nw cw : Nat) (Ab : Option Addr) (nb cb : Nat) (Aw2 : Option Addr) (nw2 cw2 : Nat) (Ab2 : Option Addr) (nb2 cb2 : Nat) (W : List Nat) (B : List Bool) (w : World)
    (h1 : Sl w w.heap.size Aw nw (ws W)) (h2 : Sl w w.heap.size Ab nb (bl B)) (h3 : Sl w w.heap.size Aw2 nw2 (ws W)) (h4 : Sl w w.heap.size Ab2 nb2 (bl B)) (kW : W.length ≤ 1000000) (kB : B.length ≤ 1000000) :
    Calls Tryz.prog 18 #[.agg #[.int .u8 f, .int .u8 x, .slice Ab nb cb, .slice Aw nw cw, .int .u16 a, .int .u16 m], .agg #[.int .u8 f, .int .u8 x, .slice Ab2 nb2 cb2, .slice Aw2 nw2 cw2, .int .u16 a, .int .u16 m]] w
      fun e w' => e = .returned (.bool true) ∧ Below w.heap.size w w' := by
  have := ref3Same_any f x a m Aw nw cw Ab nb cb f x a m Aw2 nw2 cw2 Ab2 nb2 cb2 W W B B w h1 h2 h3 h4 (by have := h1.len; simp at this; omega) (by have := h2.len; simp at this; omega) (by have := h3.len; simp at this; omega) (by have := h4.len; simp at this; omega)
  simpa only [beq_self_eq_true, Bool.and_true] using this
theorem rparse_small2 (xs : List Nat) : (rparse xs).1.bits.length ≤ 2000 ∧ (rparse xs).1.words.length ≤ 2000 := by
  rcases rparse_cases xs with ⟨r, hr, _, hp⟩ | hp <;> rw [hp]
  · have := rright_small hr; dsimp only; omega
  · simp [rep0]
end Go.Proofs.YtjfhfgchglaoiaaGreat.AskW
