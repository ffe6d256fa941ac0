/- Merged: MoWK MoWL MoP. -/
import Derived.Test.YtiibopdnlmnkmaaMG8
import Derived.Test.YtiibopdnlmnkmaaMG6
import Derived.Test.YtiibopdnlmnkmaaRepI
import Derived.Test.YtiibopdnlmnkmaaMoN
/- The walk of model.Do. Written by gen_mowk.py. -/
set_option linter.unusedVariables false
set_option linter.unusedSimpArgs false
namespace Go.Proofs.Ytiibopdnlmnkmaa.MoW
open Go.RowKit Go.Proofs.Ytiibopdnlmnkmaa Go.Proofs.Ytiibopdnlmnkmaa.Mo Go.Proofs.Ytiibopdnlmnkmaa.Ask Go.Proofs.Ytiibopdnlmnkmaa.AskW
/-- What the program answers: a memory, and a reply. -/
def RetDoW (w : World) (r : Mem × Rep) (e : Ending) (w' : World) : Prop := ∃ (y : Sp) (Ab : Option Addr) (nb cb : Nat) (Aw : Option Addr) (nw cw : Nat), e = .returned (.tuple #[.agg #[.slice y.a.A y.a.n y.a.c, .slice y.b.A y.b.n y.b.c, .slice y.c.A y.c.n y.c.c, .slice y.d.A y.d.n y.d.c], .agg #[.int .u8 (r.2.f : Nat), .int .u8 (r.2.x : Nat), .slice Ab nb cb, .slice Aw nw cw, .int .u16 (r.2.at' : Nat), .int .u16 (r.2.many : Nat)]]) ∧
  MmOk w' y r.1 ∧ Sl w' w'.heap.size Ab nb (bl r.2.bits) ∧ Sl w' w'.heap.size Aw nw (ws r.2.words) ∧ nb ≤ cb ∧ nw ≤ cw ∧ Below w.heap.size w w'
theorem ds_init (v u : Sp) (f a m t : Nat) (Aw : Option Addr) (nw cw : Nat) (Ab : Option Addr) (nb cb : Nat) (w W5 : World) (hW5 : W5 = ((((w.alloc (.cells #[.slice v.a.A v.a.n v.a.c, .slice v.b.A v.b.n v.b.c, .slice v.c.A v.c.n v.c.c, .slice v.d.A v.d.n v.d.c] 24)).alloc (.cells #[.slice u.a.A u.a.n u.a.c, .slice u.b.A u.b.n u.b.c, .slice u.c.A u.c.n u.c.c, .slice u.d.A u.d.n u.d.c] 28)).alloc (.cells #[.int .u8 f, .int .u16 a, .int .u16 m, .int .u16 t, .slice Aw nw cw, .slice Ab nb cb] 31)).alloc (.cells #[.slice none 0 0, .slice none 0 0, .slice none 0 0, .slice none 0 0] 28)).alloc (.cells #[.int .u8 0, .int .u8 0, .slice none 0 0, .slice none 0 0, .int .u16 0, .int .u16 0] 36)) (sz5 : W5.heap.size = w.heap.size + 5) (B5 : Below w.heap.size w W5) :
    ∀ w1, Below W5.heap.size W5 w1 → Ds w (w1.alloc (.cells #[.slice none 0 0, .slice none 0 0, .slice none 0 0, .slice none 0 0] 28)) w1.heap.size #[.slice v.a.A v.a.n v.a.c, .slice v.b.A v.b.n v.b.c, .slice v.c.A v.c.n v.c.c, .slice v.d.A v.d.n v.d.c] #[.slice u.a.A u.a.n u.a.c, .slice u.b.A u.b.n u.b.c, .slice u.c.A u.c.n u.c.c, .slice u.d.A u.d.n u.d.c] #[.int .u8 f, .int .u16 a, .int .u16 m, .int .u16 t, .slice Aw nw cw, .slice Ab nb cb] #[.slice none 0 0, .slice none 0 0, .slice none 0 0, .slice none 0 0] := by
  intro w1 b
  have bs := b.size
  have e4 : (((w.alloc (.cells #[.slice v.a.A v.a.n v.a.c, .slice v.b.A v.b.n v.b.c, .slice v.c.A v.c.n v.c.c, .slice v.d.A v.d.n v.d.c] 24)).alloc (.cells #[.slice u.a.A u.a.n u.a.c, .slice u.b.A u.b.n u.b.c, .slice u.c.A u.c.n u.c.c, .slice u.d.A u.d.n u.d.c] 28)).alloc (.cells #[.int .u8 f, .int .u16 a, .int .u16 m, .int .u16 t, .slice Aw nw cw, .slice Ab nb cb] 31)).heap.size = w.heap.size + 1 + 1 + 1 := by simp
  have e3 : ((w.alloc (.cells #[.slice v.a.A v.a.n v.a.c, .slice v.b.A v.b.n v.b.c, .slice v.c.A v.c.n v.c.c, .slice v.d.A v.d.n v.d.c] 24)).alloc (.cells #[.slice u.a.A u.a.n u.a.c, .slice u.b.A u.b.n u.b.c, .slice u.c.A u.c.n u.c.c, .slice u.d.A u.d.n u.d.c] 28)).heap.size = w.heap.size + 1 + 1 := by simp
  have e5 : ((((w.alloc (.cells #[.slice v.a.A v.a.n v.a.c, .slice v.b.A v.b.n v.b.c, .slice v.c.A v.c.n v.c.c, .slice v.d.A v.d.n v.d.c] 24)).alloc (.cells #[.slice u.a.A u.a.n u.a.c, .slice u.b.A u.b.n u.b.c, .slice u.c.A u.c.n u.c.c, .slice u.d.A u.d.n u.d.c] 28)).alloc (.cells #[.int .u8 f, .int .u16 a, .int .u16 m, .int .u16 t, .slice Aw nw cw, .slice Ab nb cb] 31)).alloc (.cells #[.slice none 0 0, .slice none 0 0, .slice none 0 0, .slice none 0 0] 28)).heap.size = w.heap.size + 1 + 1 + 1 + 1 := by simp
  have k1 : W5.heap[w.heap.size]? = some (.cells #[.slice v.a.A v.a.n v.a.c, .slice v.b.A v.b.n v.b.c, .slice v.c.A v.c.n v.c.c, .slice v.d.A v.d.n v.d.c] 24 (0, 0)) := by rw [hW5]; exact row_alloc (row_alloc (row_alloc (row_alloc (heap_alloc_new w _) _) _) _) _
  have k2 : W5.heap[w.heap.size + 1]? = some (.cells #[.slice u.a.A u.a.n u.a.c, .slice u.b.A u.b.n u.b.c, .slice u.c.A u.c.n u.c.c, .slice u.d.A u.d.n u.d.c] 28 (0, 0)) := by rw [hW5]; exact row_alloc (row_alloc (row_alloc (heap_alloc2_new w _ _) _) _) _
  have k3 : W5.heap[w.heap.size + 1 + 1]? = some (.cells #[.int .u8 f, .int .u16 a, .int .u16 m, .int .u16 t, .slice Aw nw cw, .slice Ab nb cb] 31 (0, 0)) := by rw [hW5]; refine row_alloc (row_alloc ?_ _) _; rw [← e3]; exact heap_alloc_new _ _
  have k4 : W5.heap[w.heap.size + 1 + 1 + 1]? = some (.cells #[.slice none 0 0, .slice none 0 0, .slice none 0 0, .slice none 0 0] 28 (0, 0)) := by rw [hW5]; refine row_alloc ?_ _; rw [← e4]; exact heap_alloc_new _ _
  have k5 : W5.heap[w.heap.size + 1 + 1 + 1 + 1]? = some (.cells #[.int .u8 0, .int .u8 0, .slice none 0 0, .slice none 0 0, .int .u16 0, .int .u16 0] 36 (0, 0)) := by rw [hW5, ← e5]; exact heap_alloc_new _ _
  exact ⟨row_alloc (b.row (by omega) k1) _, row_alloc (b.row (by omega) k2) _, row_alloc (b.row (by omega) k3) _, row_alloc (b.row (by omega) k4) _, row_alloc (b.row (by omega) k5) _, heap_alloc_new w1 _, (B5.call b).new _, by omega⟩
theorem Ds.fin2 {w X : World} {g base : Nat} {S M R O : Array Value} (D : Ds w X g S M R O) (hz : base = w.heap.size + 5) (C E : Array Value) :
    Fin w X ((X.setRow (w.heap.size + 1 + 1 + 1) C).setRow (w.heap.size + 1 + 1 + 1 + 1) E) base C E := by
  have h1 := setRow_heap X (w.heap.size + 1 + 1 + 1) _ C _ _ D.p
  have g1 := grown_setRow1 X (w.heap.size + 1 + 1 + 1) C
  generalize X.setRow (w.heap.size + 1 + 1 + 1) C = Z at h1 g1 ⊢
  have h2 := setRow_heap Z (w.heap.size + 1 + 1 + 1 + 1) _ E _ _ (g1.row (k := w.heap.size + 1 + 1 + 1 + 1) (by omega) D.q)
  have g2 := grown_setRow1 Z (w.heap.size + 1 + 1 + 1 + 1) E
  generalize Z.setRow (w.heap.size + 1 + 1 + 1 + 1) E = Y at h2 g2 ⊢
  have bz : Below w.heap.size w Z := D.bel.grown g1 D.bel.size (fun j e => by injection e with e; omega)
  have by' : Below w.heap.size w Y := bz.grown g2 bz.size (fun j e => by injection e with e; omega)
  have hp : Y.heap[w.heap.size + 1 + 1 + 1]? = some (.cells C 28 (0, 0)) := g2.row (by omega) h1
  have sl : ∀ {A : Option Addr} {n : Nat} {xs : List Value}, Sl X X.heap.size A n xs → (∀ b o, A = some (⟨b, o, none⟩ : Addr) → base ≤ b) → Sl Y Y.heap.size A n xs := fun {A n xs} h hb =>
    (h.grown g1 (fun b o e e' => by have := hb b o e; injection e' with e'; omega)).grown g2 (fun b o e e' => by have := hb b o e; injection e' with e'; omega)
  refine ⟨hp, h2, by', sl, fun {e v n xs} h => ?_⟩
  have f1 : v.ownBlock ≠ some (w.heap.size + 1 + 1 + 1) := fun e => by have := (h.lt _ e).1; omega
  have f2 : v.ownBlock ≠ some (w.heap.size + 1 + 1 + 1 + 1) := fun e => by have := (h.lt _ e).1; omega
  exact (h.kept g1 (Or.inr f1)).kept g2 (Or.inr f2)
theorem keep7 {X : World} {g0 g1 g2 : Nat} {t0 t1 t2 : TypeId} {y0 y1 y2 y3 u0 u1 u2 u3 v0 v1 v2 v3 v4 v5 : Value} (r0 : X.heap[g0]? = some (.cells #[y0, y1, y2, y3] t0 (0, 0))) (r1 : X.heap[g1]? = some (.cells #[u0, u1, u2, u3] t1 (0, 0))) (r2 : X.heap[g2]? = some (.cells #[v0, v1, v2, v3, v4, v5] t2 (0, 0))) :
    X.cell? ⟨g0, 0, none⟩ = some y0 ∧ X.cell? ⟨g0, 1, none⟩ = some y1 ∧ X.cell? ⟨g0, 2, none⟩ = some y2 ∧ X.cell? ⟨g0, 3, none⟩ = some y3 ∧ X.cell? ⟨g1, 0, none⟩ = some u0 ∧ X.cell? ⟨g1, 1, none⟩ = some u1 ∧ X.cell? ⟨g1, 2, none⟩ = some u2 ∧ X.cell? ⟨g1, 3, none⟩ = some u3 ∧ X.cell? ⟨g2, 0, none⟩ = some v0 := by
  obtain ⟨y0, y1, y2, y3⟩ := row4 r0
  obtain ⟨h0, h1, h2, h3⟩ := row4 r1
  obtain ⟨k0, k1, k2, k3, k4, k5⟩ := row6 r2
  exact ⟨y0, y1, y2, y3, h0, h1, h2, h3, k0⟩
theorem keepDo {X : World} {g1 g2 : Nat} {t1 t2 : TypeId} {u0 u1 u2 u3 v0 v1 v2 v3 v4 v5 : Value} (r1 : X.heap[g1]? = some (.cells #[u0, u1, u2, u3] t1 (0, 0))) (r2 : X.heap[g2]? = some (.cells #[v0, v1, v2, v3, v4, v5] t2 (0, 0))) :
    X.cell? ⟨g1, 0, none⟩ = some u0 ∧ X.cell? ⟨g1, 1, none⟩ = some u1 ∧ X.cell? ⟨g1, 2, none⟩ = some u2 ∧ X.cell? ⟨g1, 3, none⟩ = some u3 ∧ X.cell? ⟨g2, 0, none⟩ = some v0 := by
  obtain ⟨h0, h1, h2, h3⟩ := row4 r1
  obtain ⟨k0, k1, k2, k3, k4, k5⟩ := row6 r2
  exact ⟨h0, h1, h2, h3, k0⟩
theorem keepDo2 {X : World} {g0 g1 g2 : Nat} {t0 t1 t2 : TypeId} {y0 y1 y2 y3 u0 u1 u2 u3 v0 v1 v2 v3 v4 v5 : Value} (r0 : X.heap[g0]? = some (.cells #[y0, y1, y2, y3] t0 (0, 0))) (r1 : X.heap[g1]? = some (.cells #[u0, u1, u2, u3] t1 (0, 0))) (r2 : X.heap[g2]? = some (.cells #[v0, v1, v2, v3, v4, v5] t2 (0, 0))) :
    X.cell? ⟨g0, 0, none⟩ = some y0 ∧ X.cell? ⟨g0, 1, none⟩ = some y1 ∧ X.cell? ⟨g0, 2, none⟩ = some y2 ∧ X.cell? ⟨g0, 3, none⟩ = some y3 ∧ X.cell? ⟨g1, 0, none⟩ = some u0 ∧ X.cell? ⟨g1, 1, none⟩ = some u1 ∧ X.cell? ⟨g1, 2, none⟩ = some u2 ∧ X.cell? ⟨g1, 3, none⟩ = some u3 ∧
      X.cell? ⟨g2, 0, none⟩ = some v0 ∧ X.cell? ⟨g2, 1, none⟩ = some v1 ∧ X.cell? ⟨g2, 2, none⟩ = some v2 ∧ X.cell? ⟨g2, 3, none⟩ = some v3 ∧ X.cell? ⟨g2, 4, none⟩ = some v4 ∧ X.cell? ⟨g2, 5, none⟩ = some v5 := by
  obtain ⟨y0, y1, y2, y3⟩ := row4 r0
  obtain ⟨h0, h1, h2, h3⟩ := row4 r1
  obtain ⟨k0, k1, k2, k3, k4, k5⟩ := row6 r2
  exact ⟨y0, y1, y2, y3, h0, h1, h2, h3, k0, k1, k2, k3, k4, k5⟩
set_option maxRecDepth 10000 in
set_option maxHeartbeats 4000000 in
theorem modDoN_any (v u : Sp) (s : Space) (M : Mem) (f a m t : Nat) (Aw : Option Addr) (nw cw : Nat) (Ab : Option Addr) (nb cb : Nat) (W : List Nat) (B : List Bool) (w : World) (hS : SpOk w v s) (hM : MmOk w u M) (ho : s.Ok) (hv : v.Small) (hu : u.Small)
    (hW : Sl w w.heap.size Aw nw (ws W)) (hB : Sl w w.heap.size Ab nb (bl B)) (hwf : Req.Wf ⟨f, a, m, t, W, B⟩) (kW : nw ≤ 100000) (kB : nb ≤ 100000) :
    Calls Try.prog 11 #[.agg #[.slice v.a.A v.a.n v.a.c, .slice v.b.A v.b.n v.b.c, .slice v.c.A v.c.n v.c.c, .slice v.d.A v.d.n v.d.c], .agg #[.slice u.a.A u.a.n u.a.c, .slice u.b.A u.b.n u.b.c, .slice u.c.A u.c.n u.c.c, .slice u.d.A u.d.n u.d.c], .agg #[.int .u8 f, .int .u16 a, .int .u16 m, .int .u16 t, .slice Aw nw cw, .slice Ab nb cb]] w (RetDo w (doM s M ⟨f, a, m, t, W, B⟩)) := by
  have qW : W.length = nw := by simpa using hW.len
  have qB : B.length = nb := by simpa using hB.len
  have hf := hwf.f
  have ha := hwf.at'
  have hm := hwf.many
  have ht := hwf.to
  simp only at hf ha hm ht
  obtain ⟨W5, hW5⟩ : ∃ W5, W5 = ((((w.alloc (.cells #[.slice v.a.A v.a.n v.a.c, .slice v.b.A v.b.n v.b.c, .slice v.c.A v.c.n v.c.c, .slice v.d.A v.d.n v.d.c] 24)).alloc (.cells #[.slice u.a.A u.a.n u.a.c, .slice u.b.A u.b.n u.b.c, .slice u.c.A u.c.n u.c.c, .slice u.d.A u.d.n u.d.c] 28)).alloc (.cells #[.int .u8 f, .int .u16 a, .int .u16 m, .int .u16 t, .slice Aw nw cw, .slice Ab nb cb] 31)).alloc (.cells #[.slice none 0 0, .slice none 0 0, .slice none 0 0, .slice none 0 0] 28)).alloc (.cells #[.int .u8 0, .int .u8 0, .slice none 0 0, .slice none 0 0, .int .u16 0, .int .u16 0] 36) := ⟨_, rfl⟩
  have sz5 : W5.heap.size = w.heap.size + 5 := by rw [hW5]; simp
  have B5 : Below w.heap.size w W5 := by rw [hW5]; exact (((((Below.refl _ w).new _).new _).new _).new _).new _
  have HW5 := Lib.hid hW5
  have DI := Lib.hid (ds_init v u f a m t Aw nw cw Ab nb cb w W5 hW5 sz5 B5)
  have KC := Lib.hid (clone_any u M W5 (hM.to B5) hu)
  have KK0 := fun X (b : Below w.heap.size w X) => modCheck_any v s f a m t Aw nw cw Ab nb cb W B X (hS.to b) ho hv (hW.to b) (hB.to b) hwf kW kB
  have KR0 := fun X (b : Below w.heap.size w X) => modRight_any v u s M X (hS.to b) (hM.to b) ho hv hu
  obtain ⟨la, lb, lc, ld⟩ := hM.lens
  have KU := Lib.hid (fun (y : Sp) (gs : Nat) (hc : checkM s ⟨f, a, m, t, W, B⟩ = 0) (hq : rightM s M = true) (hy : y.Small) (ea : M.coils.length = y.a.n) (eb : M.inputs.length = y.b.n) (ec : M.holding.length = y.c.n) (ed : M.words.length = y.d.n) => use_do v y s M f a m t Aw nw cw Ab nb cb W B W5 gs hc hq qW qB hy ea eb ec ed)
  have HLS := Lib.hid (show M.coils.length ≤ 100000 ∧ M.inputs.length ≤ 100000 ∧ M.holding.length ≤ 100000 ∧ M.words.length ≤ 100000 by rw [la, lb, lc, ld]; exact ⟨hu.a, hu.b, hu.c, hu.d⟩)
  obtain ⟨C, hC⟩ : ∃ C, C = checkM s ⟨f, a, m, t, W, B⟩ := ⟨_, rfl⟩
  obtain ⟨Q, hQ⟩ : ∃ Q, Q = rightM s M := ⟨_, rfl⟩
  rw [← hC] at KK0
  rw [← hQ] at KR0
  have KK := Lib.hid KK0
  have KR := Lib.hid KR0
  have hC9 : C ≤ 3 := by rw [hC]; unfold checkM; repeat' split
                         all_goals omega
  have hFM : faultM s M ⟨f, a, m, t, W, B⟩ = if C = 0 then (if Q then 0 else 4) else C := by unfold faultM; rw [← hC, ← hQ]
  have hDM : doM s M ⟨f, a, m, t, W, B⟩ = if faultM s M ⟨f, a, m, t, W, B⟩ = 0 then (wrote M ⟨f, a, m, t, W, B⟩, answer (wrote M ⟨f, a, m, t, W, B⟩) ⟨f, a, m, t, W, B⟩) else (M, exc f (faultM s M ⟨f, a, m, t, W, B⟩)) := rfl
  rw [hFM] at hDM
  obtain ⟨RR, hRR⟩ : ∃ RR, RR = doM s M ⟨f, a, m, t, W, B⟩ := ⟨_, rfl⟩
  rw [← hRR] at hDM ⊢
  have HC := Lib.hid hC
  have HQ := Lib.hid hQ
  have HW := Lib.hid hW
  have HB := Lib.hid hB
  have HWF := Lib.hid hwf
  have HS := Lib.hid hS
  clear hRR hFM KK0 KR0 hC hQ qW qB la lb lc ld hW hB hwf hM hS hu hv ho hW5
  by_cases hC0 : C = 0
  case neg =>
    have T0 : ((C : Int) == 0) = false := by rw [beq_eq_false_iff_ne]; omega
    have T1 : ((C : Int) != 0) = true := by rw [bne_iff_ne]; omega
    have HD := Lib.hid (show RR = (M, exc f C) from by rw [hDM]; simp only [if_neg hC0])
    clear hDM HC HQ KU
    go_enter Try.func11, Try.ntmps11
    go_wp2_with fail
    rw [← HW5.out]
    refine (KC.out).mono ?_
    rintro e w1 ⟨va, vb, vc, vd, rfl, I0⟩
    have D0 := DI.out w1 I0.a.bel
    obtain ⟨A1, n1, c1, A2, n2, c2, A3, n3, c3, A4, n4, c4, rfl, rfl, rfl, rfl, hn1, hn2, hn3, hn4⟩ := I0.ok
    have HN1 := Lib.hid hn1
    have HN2 := Lib.hid hn2
    have HN3 := Lib.hid hn3
    have HN4 := Lib.hid hn4
    have HI0 := Lib.hid I0
    clear I0 hn1 hn2 hn3 hn4
    go_wp2_with (first
      | (refine wpList_store_grown rfl 28 (.tmp 8) _ rfl w1.heap.size #[.slice A1 n1 c1, .slice A2 n2 c2, .slice A3 n3 c3, .slice A4 n4 c4] rfl rfl 28 _ (heap_alloc_new w1 _) (by kernel_rfl) rfl (by simp [Value.oneCell']) ?_; intro W6 h6 g6 s6; have I6 := Lib.hid ((HI0.out.to ((Below.refl _ _).new _)).grown g6 HI0.out.fresh HI0.out.a.bel.size); have D6 := D0.put g6 h6; clear h6 g6 s6 D0; obtain ⟨s0, s1, s2, s3⟩ := row4 D6.s; obtain ⟨m0, m1, m2, m3⟩ := row4 D6.m; obtain ⟨r0, r1, r2, r3, r4, r5⟩ := row6 D6.r)
      | fail)
    refine (KK.out W6 D6.bel).mono ?_
    rintro e w2 ⟨rfl, b2⟩
    have D2 := D6.call b2
    have I2 := Lib.hid (I6.out.to b2)
    clear b2 D6 I6 s0 s1 s2 s3 m0 m1 m2 m3 r0 r1 r2 r3 r4 r5
    go_wp2_with fail
    have D := D2.drew
    have I := Lib.hid (I2.out.drew)
    clear D2 I2
    have hgD := D.hg
    refine wp_region_held_drew (S := (fun w' => w'.cell? ⟨w1.heap.size, 0, none⟩ = some (.slice A1 n1 c1) ∧ w'.cell? ⟨w1.heap.size, 1, none⟩ = some (.slice A2 n2 c2) ∧ w'.cell? ⟨w1.heap.size, 2, none⟩ = some (.slice A3 n3 c3) ∧ w'.cell? ⟨w1.heap.size, 3, none⟩ = some (.slice A4 n4 c4) ∧ w'.cell? ⟨w.heap.size + 1 + 1, 0, none⟩ = some (.int .u8 f))) (by kernel_rfl) (keepDo D.o D.r) (fun hHeld => ?_)
    refine wpAnyH_take (i := 0) (v := ?_) (by simp only [List.getElem?_toArray, List.getElem?_cons_succ, List.getElem?_cons_zero]; rfl) (by kernel_rfl) (by kernel_rfl) (by kernel_rfl) (by exact fun _ _ _ h => h) (Or.inl ⟨by kernel_rfl, ?_⟩) (by assumption) ?_
    rotate_left
    · intro w hSw
      (try dsimp only at hSw)
      go_simp
      try with_reducible rfl
    simp only [Act.put, List.setIfInBounds_toArray, List.set_cons_zero, List.set_cons_succ]
    refine wpAnyH_take (i := 1) (v := ?_) (by simp only [List.getElem?_toArray, List.getElem?_cons_succ, List.getElem?_cons_zero]; rfl) (by kernel_rfl) (by kernel_rfl) (by kernel_rfl) (by exact fun _ _ _ h => h) (Or.inl ⟨by kernel_rfl, ?_⟩) (by assumption) ?_
    rotate_left
    · intro w hSw
      (try dsimp only at hSw)
      go_simp
      try with_reducible rfl
    simp only [Act.put, List.setIfInBounds_toArray, List.set_cons_zero, List.set_cons_succ]
    refine wpAnyH_take (i := 2) (v := ?_) (by simp only [List.getElem?_toArray, List.getElem?_cons_succ, List.getElem?_cons_zero]; rfl) (by kernel_rfl) (by kernel_rfl) (by kernel_rfl) (by exact fun _ _ _ h => h) (Or.inl ⟨by kernel_rfl, ?_⟩) (by assumption) ?_
    rotate_left
    · intro w hSw
      (try dsimp only at hSw)
      go_simp
      try with_reducible rfl
    simp only [Act.put, List.setIfInBounds_toArray, List.set_cons_zero, List.set_cons_succ]
    refine wpAnyH_take (i := 3) (v := ?_) (by simp only [List.getElem?_toArray, List.getElem?_cons_succ, List.getElem?_cons_zero]; rfl) (by kernel_rfl) (by kernel_rfl) (by kernel_rfl) (by exact fun _ _ _ h => h) (Or.inl ⟨by kernel_rfl, ?_⟩) (by assumption) ?_
    rotate_left
    · intro w hSw
      (try dsimp only at hSw)
      go_simp
      try with_reducible rfl
    simp only [Act.put, List.setIfInBounds_toArray, List.set_cons_zero, List.set_cons_succ]
    refine wpAnyH_ready (rs := [4]) (by kernel_rfl) (by simp) ?_
    refine AllReadyH.cons (by simp only [List.getElem?_toArray, List.getElem?_cons_succ, List.getElem?_cons_zero]; rfl) (fun K hK => ?_) AllReadyH.nil
    rw [if_pos (by kernel_rfl)]
    go_simp
    go_at_call 22
    refine (wrong2_any f C hf _).mono ?_
    rintro e w4 ⟨Ab4, nb4, cb4, Aw4, nw4, cw4, rfl, SB4, SW4, kb4, kw4, fb4, fw4, b4⟩
    dsimp only at SB4 SW4 ⊢
    have D := D.call b4
    have hb5 := I.out.a.bel.size
    have I := Lib.hid (I.out.to b4)
    have SB4 := Lib.hid SB4
    have SW4 := Lib.hid SW4
    clear b4
    go_wp2_with fail
    refine hK.out _ _ ?_ (fun hHeld => ?_)
    · exact keepDo D.o D.r
    clear hK K
    try simp only [Act.put, List.setIfInBounds_toArray, List.set_cons_zero, List.set_cons_succ]
    refine wpAnyH_ready (rs := [5]) (by kernel_rfl) (by simp) ?_
    refine AllReadyH.cons (by simp only [List.getElem?_toArray, List.getElem?_cons_succ, List.getElem?_cons_zero]; rfl) (fun K hK => ?_) AllReadyH.nil
    rw [if_pos (by kernel_rfl)]
    refine wp_store_row 28 (.tmp 6) (.tmp 18) rfl (w.heap.size + 1 + 1 + 1) #[.slice A1 n1 c1, .slice A2 n2 c2, .slice A3 n3 c3, .slice A4 n4 c4] rfl rfl 28 _ D.p (by kernel_rfl) rfl (by simp [Value.oneCell']) ?_
    refine hK.out _ _ ?_ (fun hHeld => ?_)
    · exact keepDo ((grown_setRow1 _ _ _).row (by omega) D.o) ((grown_setRow1 _ _ _).row (by omega) D.r)
    clear hK K
    try simp only [Act.put, List.setIfInBounds_toArray, List.set_cons_zero, List.set_cons_succ]
    refine wpAnyH_ready (rs := [6]) (by kernel_rfl) (by simp) ?_
    refine AllReadyH.cons (by simp only [List.getElem?_toArray, List.getElem?_cons_succ, List.getElem?_cons_zero]; rfl) (fun K hK => ?_) AllReadyH.nil
    rw [if_pos (by kernel_rfl)]
    refine wp_store_row 36 (.tmp 7) (.tmp 22) rfl (w.heap.size + 1 + 1 + 1 + 1) #[.int .u8 ((f % 128 : Nat) : Int), .int .u8 C, .slice Ab4 nb4 cb4, .slice Aw4 nw4 cw4, .int .u16 0, .int .u16 0] rfl rfl 36 _ ((grown_setRow1 _ _ _).row (by omega) D.q) (by kernel_rfl) rfl (by simp [Value.oneCell']) ?_
    refine hK.out _ _ ?_ (fun hHeld => ?_)
    · exact keepDo ((grown_setRow1 _ _ _).row (by omega) ((grown_setRow1 _ _ _).row (by omega) D.o)) ((grown_setRow1 _ _ _).row (by omega) ((grown_setRow1 _ _ _).row (by omega) D.r))
    clear hK K
    try simp only [Act.put, List.setIfInBounds_toArray, List.set_cons_zero, List.set_cons_succ]
    refine wpAnyH_done (by kernel_rfl) ?_ _
    have F := D.fin2 sz5 #[.slice A1 n1 c1, .slice A2 n2 c2, .slice A3 n3 c3, .slice A4 n4 c4] #[.int .u8 ((f % 128 : Nat) : Int), .int .u8 C, .slice Ab4 nb4 cb4, .slice Aw4 nw4 cw4, .int .u16 0, .int .u16 0]
    go_wp2_with fail
    refine bodyPost_rows rfl _ _ 28 36 #[.slice A1 n1 c1, .slice A2 n2 c2, .slice A3 n3 c3, .slice A4 n4 c4] #[.int .u8 ((f % 128 : Nat) : Int), .int .u8 C, .slice Ab4 nb4 cb4, .slice Aw4 nw4 cw4, .int .u16 0, .int .u16 0] (0, 0) (0, 0) _ _ rfl F.p Try.underlying28 rfl (by kernel_rfl) rfl F.q Try.underlying36 rfl (by kernel_rfl) rfl ?_
    rw [HD.out]
    exact ⟨⟨⟨A1, n1, c1⟩, ⟨A2, n2, c2⟩, ⟨A3, n3, c3⟩, ⟨A4, n4, c4⟩⟩, Ab4, nb4, cb4, Aw4, nw4, cw4, rfl, ⟨Sl.of_own (F.own I.out.a.own'), Sl.of_own (F.own I.out.b.own'), Sl.of_own (F.own I.out.c.own'), Sl.of_own (F.own I.out.d.own')⟩, F.sl SB4.out (fun b o e => Nat.le_trans hb5 (fb4 b o e)), F.sl SW4.out (fun b o e => Nat.le_trans hb5 (fw4 b o e)), kb4, kw4, F.bel, (New.of I.out.a).mono (by omega), (New.of I.out.b).mono (by omega), (New.of I.out.c).mono (by omega), (New.of I.out.d).mono (by omega), fun b o e => by have := fb4 b o e; omega, fun b o e => by have := fw4 b o e; omega⟩
  case pos =>
    subst hC0
    cases Q
    case false =>
      have HD := Lib.hid (show RR = (M, exc f 4) from by rw [hDM]; rfl)
      clear hDM HC HQ KU
      go_enter Try.func11, Try.ntmps11
      go_wp2_with fail
      rw [← HW5.out]
      refine (KC.out).mono ?_
      rintro e w1 ⟨va, vb, vc, vd, rfl, I0⟩
      have D0 := DI.out w1 I0.a.bel
      obtain ⟨A1, n1, c1, A2, n2, c2, A3, n3, c3, A4, n4, c4, rfl, rfl, rfl, rfl, hn1, hn2, hn3, hn4⟩ := I0.ok
      have HN1 := Lib.hid hn1
      have HN2 := Lib.hid hn2
      have HN3 := Lib.hid hn3
      have HN4 := Lib.hid hn4
      have HI0 := Lib.hid I0
      clear I0 hn1 hn2 hn3 hn4
      go_wp2_with (first
        | (refine wpList_store_grown rfl 28 (.tmp 8) _ rfl w1.heap.size #[.slice A1 n1 c1, .slice A2 n2 c2, .slice A3 n3 c3, .slice A4 n4 c4] rfl rfl 28 _ (heap_alloc_new w1 _) (by kernel_rfl) rfl (by simp [Value.oneCell']) ?_; intro W6 h6 g6 s6; have I6 := Lib.hid ((HI0.out.to ((Below.refl _ _).new _)).grown g6 HI0.out.fresh HI0.out.a.bel.size); have D6 := D0.put g6 h6; clear h6 g6 s6 D0; obtain ⟨s0, s1, s2, s3⟩ := row4 D6.s; obtain ⟨m0, m1, m2, m3⟩ := row4 D6.m; obtain ⟨r0, r1, r2, r3, r4, r5⟩ := row6 D6.r)
        | fail)
      refine (KK.out W6 D6.bel).mono ?_
      rintro e w2 ⟨rfl, b2⟩
      have D2 := D6.call b2
      have I2 := Lib.hid (I6.out.to b2)
      clear b2 D6 I6 s0 s1 s2 s3 m0 m1 m2 m3 r0 r1 r2 r3 r4 r5
      obtain ⟨s0, s1, s2, s3⟩ := row4 D2.s
      obtain ⟨m0, m1, m2, m3⟩ := row4 D2.m
      go_wp2_with fail
      refine (KR.out w2 D2.bel).mono ?_
      rintro e w3 ⟨rfl, b3⟩
      have D3 := D2.call b3
      have I3 := Lib.hid (I2.out.to b3)
      clear b3 D2 I2 s0 s1 s2 s3 m0 m1 m2 m3
      go_wp2_with fail
      have D := D3.drew
      have I := Lib.hid (I3.out.drew)
      clear D3 I3
      have hgD := D.hg
      refine wp_region_held_drew (S := (fun w' => w'.cell? ⟨w1.heap.size, 0, none⟩ = some (.slice A1 n1 c1) ∧ w'.cell? ⟨w1.heap.size, 1, none⟩ = some (.slice A2 n2 c2) ∧ w'.cell? ⟨w1.heap.size, 2, none⟩ = some (.slice A3 n3 c3) ∧ w'.cell? ⟨w1.heap.size, 3, none⟩ = some (.slice A4 n4 c4) ∧ w'.cell? ⟨w.heap.size + 1 + 1, 0, none⟩ = some (.int .u8 f))) (by kernel_rfl) (keepDo D.o D.r) (fun hHeld => ?_)
      refine wpAnyH_take (i := 0) (v := ?_) (by simp only [List.getElem?_toArray, List.getElem?_cons_succ, List.getElem?_cons_zero]; rfl) (by kernel_rfl) (by kernel_rfl) (by kernel_rfl) (by exact fun _ _ _ h => h) (Or.inl ⟨by kernel_rfl, ?_⟩) (by assumption) ?_
      rotate_left
      · intro w hSw
        (try dsimp only at hSw)
        go_simp
        try with_reducible rfl
      simp only [Act.put, List.setIfInBounds_toArray, List.set_cons_zero, List.set_cons_succ]
      refine wpAnyH_take (i := 1) (v := ?_) (by simp only [List.getElem?_toArray, List.getElem?_cons_succ, List.getElem?_cons_zero]; rfl) (by kernel_rfl) (by kernel_rfl) (by kernel_rfl) (by exact fun _ _ _ h => h) (Or.inl ⟨by kernel_rfl, ?_⟩) (by assumption) ?_
      rotate_left
      · intro w hSw
        (try dsimp only at hSw)
        go_simp
        try with_reducible rfl
      simp only [Act.put, List.setIfInBounds_toArray, List.set_cons_zero, List.set_cons_succ]
      refine wpAnyH_take (i := 2) (v := ?_) (by simp only [List.getElem?_toArray, List.getElem?_cons_succ, List.getElem?_cons_zero]; rfl) (by kernel_rfl) (by kernel_rfl) (by kernel_rfl) (by exact fun _ _ _ h => h) (Or.inl ⟨by kernel_rfl, ?_⟩) (by assumption) ?_
      rotate_left
      · intro w hSw
        (try dsimp only at hSw)
        go_simp
        try with_reducible rfl
      simp only [Act.put, List.setIfInBounds_toArray, List.set_cons_zero, List.set_cons_succ]
      refine wpAnyH_ready (rs := [3]) (by kernel_rfl) (by simp) ?_
      refine AllReadyH.cons (by simp only [List.getElem?_toArray, List.getElem?_cons_succ, List.getElem?_cons_zero]; rfl) (fun K hK => ?_) AllReadyH.nil
      rw [if_pos (by kernel_rfl)]
      go_simp
      go_at_call 22
      refine (wrong2_any f 4 hf _).mono ?_
      rintro e w4 ⟨Ab4, nb4, cb4, Aw4, nw4, cw4, rfl, SB4, SW4, kb4, kw4, fb4, fw4, b4⟩
      dsimp only at SB4 SW4 ⊢
      have D := D.call b4
      have hb5 := I.out.a.bel.size
      have I := Lib.hid (I.out.to b4)
      have SB4 := Lib.hid SB4
      have SW4 := Lib.hid SW4
      clear b4
      go_wp2_with fail
      refine hK.out _ _ ?_ (fun hHeld => ?_)
      · exact keepDo D.o D.r
      clear hK K
      try simp only [Act.put, List.setIfInBounds_toArray, List.set_cons_zero, List.set_cons_succ]
      refine wpAnyH_ready (rs := [4]) (by kernel_rfl) (by simp) ?_
      refine AllReadyH.cons (by simp only [List.getElem?_toArray, List.getElem?_cons_succ, List.getElem?_cons_zero]; rfl) (fun K hK => ?_) AllReadyH.nil
      rw [if_pos (by kernel_rfl)]
      refine wp_store_row 28 (.tmp 6) (.tmp 27) rfl (w.heap.size + 1 + 1 + 1) #[.slice A1 n1 c1, .slice A2 n2 c2, .slice A3 n3 c3, .slice A4 n4 c4] rfl rfl 28 _ D.p (by kernel_rfl) rfl (by simp [Value.oneCell']) ?_
      refine hK.out _ _ ?_ (fun hHeld => ?_)
      · exact keepDo ((grown_setRow1 _ _ _).row (by omega) D.o) ((grown_setRow1 _ _ _).row (by omega) D.r)
      clear hK K
      try simp only [Act.put, List.setIfInBounds_toArray, List.set_cons_zero, List.set_cons_succ]
      refine wpAnyH_ready (rs := [5]) (by kernel_rfl) (by simp) ?_
      refine AllReadyH.cons (by simp only [List.getElem?_toArray, List.getElem?_cons_succ, List.getElem?_cons_zero]; rfl) (fun K hK => ?_) AllReadyH.nil
      rw [if_pos (by kernel_rfl)]
      refine wp_store_row 36 (.tmp 7) (.tmp 30) rfl (w.heap.size + 1 + 1 + 1 + 1) #[.int .u8 ((f % 128 : Nat) : Int), .int .u8 4, .slice Ab4 nb4 cb4, .slice Aw4 nw4 cw4, .int .u16 0, .int .u16 0] rfl rfl 36 _ ((grown_setRow1 _ _ _).row (by omega) D.q) (by kernel_rfl) rfl (by simp [Value.oneCell']) ?_
      refine hK.out _ _ ?_ (fun hHeld => ?_)
      · exact keepDo ((grown_setRow1 _ _ _).row (by omega) ((grown_setRow1 _ _ _).row (by omega) D.o)) ((grown_setRow1 _ _ _).row (by omega) ((grown_setRow1 _ _ _).row (by omega) D.r))
      clear hK K
      try simp only [Act.put, List.setIfInBounds_toArray, List.set_cons_zero, List.set_cons_succ]
      refine wpAnyH_done (by kernel_rfl) ?_ _
      have F := D.fin2 sz5 #[.slice A1 n1 c1, .slice A2 n2 c2, .slice A3 n3 c3, .slice A4 n4 c4] #[.int .u8 ((f % 128 : Nat) : Int), .int .u8 4, .slice Ab4 nb4 cb4, .slice Aw4 nw4 cw4, .int .u16 0, .int .u16 0]
      go_wp2_with fail
      refine bodyPost_rows rfl _ _ 28 36 #[.slice A1 n1 c1, .slice A2 n2 c2, .slice A3 n3 c3, .slice A4 n4 c4] #[.int .u8 ((f % 128 : Nat) : Int), .int .u8 4, .slice Ab4 nb4 cb4, .slice Aw4 nw4 cw4, .int .u16 0, .int .u16 0] (0, 0) (0, 0) _ _ rfl F.p Try.underlying28 rfl (by kernel_rfl) rfl F.q Try.underlying36 rfl (by kernel_rfl) rfl ?_
      rw [HD.out]
      exact ⟨⟨⟨A1, n1, c1⟩, ⟨A2, n2, c2⟩, ⟨A3, n3, c3⟩, ⟨A4, n4, c4⟩⟩, Ab4, nb4, cb4, Aw4, nw4, cw4, rfl, ⟨Sl.of_own (F.own I.out.a.own'), Sl.of_own (F.own I.out.b.own'), Sl.of_own (F.own I.out.c.own'), Sl.of_own (F.own I.out.d.own')⟩, F.sl SB4.out (fun b o e => Nat.le_trans hb5 (fb4 b o e)), F.sl SW4.out (fun b o e => Nat.le_trans hb5 (fw4 b o e)), kb4, kw4, F.bel, (New.of I.out.a).mono (by omega), (New.of I.out.b).mono (by omega), (New.of I.out.c).mono (by omega), (New.of I.out.d).mono (by omega), fun b o e => by have := fb4 b o e; omega, fun b o e => by have := fw4 b o e; omega⟩
    case true =>
      obtain ⟨AN, hAN⟩ : ∃ AN, AN = answer (wrote M ⟨f, a, m, t, W, B⟩) ⟨f, a, m, t, W, B⟩ := ⟨_, rfl⟩
      have HD := Lib.hid (show RR = (wrote M ⟨f, a, m, t, W, B⟩, AN) from by rw [hDM, hAN]; rfl)
      have HAN := Lib.hid hAN
      clear hDM hAN
      go_enter Try.func11, Try.ntmps11
      go_wp2_with fail
      rw [← HW5.out]
      refine (KC.out).mono ?_
      rintro e w1 ⟨va, vb, vc, vd, rfl, I0⟩
      have D0 := DI.out w1 I0.a.bel
      obtain ⟨A1, n1, c1, A2, n2, c2, A3, n3, c3, A4, n4, c4, rfl, rfl, rfl, rfl, hn1, hn2, hn3, hn4⟩ := I0.ok
      have HN1 := Lib.hid hn1
      have HN2 := Lib.hid hn2
      have HN3 := Lib.hid hn3
      have HN4 := Lib.hid hn4
      have HI0 := Lib.hid I0
      clear I0 hn1 hn2 hn3 hn4
      go_wp2_with (first
        | (refine wpList_store_grown rfl 28 (.tmp 8) _ rfl w1.heap.size #[.slice A1 n1 c1, .slice A2 n2 c2, .slice A3 n3 c3, .slice A4 n4 c4] rfl rfl 28 _ (heap_alloc_new w1 _) (by kernel_rfl) rfl (by simp [Value.oneCell']) ?_; intro W6 h6 g6 s6; have I6 := Lib.hid ((HI0.out.to ((Below.refl _ _).new _)).grown g6 HI0.out.fresh HI0.out.a.bel.size); have D6 := D0.put g6 h6; clear h6 g6 s6 D0; obtain ⟨s0, s1, s2, s3⟩ := row4 D6.s; obtain ⟨m0, m1, m2, m3⟩ := row4 D6.m; obtain ⟨r0, r1, r2, r3, r4, r5⟩ := row6 D6.r)
        | fail)
      refine (KK.out W6 D6.bel).mono ?_
      rintro e w2 ⟨rfl, b2⟩
      have D2 := D6.call b2
      have I2 := Lib.hid (I6.out.to b2)
      clear b2 D6 I6 s0 s1 s2 s3 m0 m1 m2 m3 r0 r1 r2 r3 r4 r5
      obtain ⟨s0, s1, s2, s3⟩ := row4 D2.s
      obtain ⟨m0, m1, m2, m3⟩ := row4 D2.m
      go_wp2_with fail
      refine (KR.out w2 D2.bel).mono ?_
      rintro e w3 ⟨rfl, b3⟩
      have D3 := D2.call b3
      have I3 := Lib.hid (I2.out.to b3)
      clear b3 D2 I2 s0 s1 s2 s3 m0 m1 m2 m3
      obtain ⟨s0, s1, s2, s3⟩ := row4 D3.s
      go_upto_region 7 with fail
      have KD := Lib.hid (fun gs => KU.out ⟨⟨A1, n1, c1⟩, ⟨A2, n2, c2⟩, ⟨A3, n3, c3⟩, ⟨A4, n4, c4⟩⟩ gs HC.out.symm HQ.out.symm ⟨by show n1 ≤ 100000; rw [HN1.out]; exact HLS.out.1, by show n2 ≤ 100000; rw [HN2.out]; exact HLS.out.2.1, by show n3 ≤ 100000; rw [HN3.out]; exact HLS.out.2.2.1, by show n4 ≤ 100000; rw [HN4.out]; exact HLS.out.2.2.2⟩ HN1.out.symm HN2.out.symm HN3.out.symm HN4.out.symm)
      go_cut [10] from 31 to 36 (fun s10 wx => ∃ k gs x0 x1 x2 x3 og V U, s10 = .pointer (some ⟨k, 0, none⟩) ∧ w3.heap.size ≤ k ∧ wx.heap[k]? = some (.cells #[.pointer x0, .pointer x1, .pointer x2, .pointer x3] 65 (0, 0)) ∧ wx.heap[gs]? = some (.cells (srv v ⟨⟨A1, n1, c1⟩, ⟨A2, n2, c2⟩, ⟨A3, n3, c3⟩, ⟨A4, n4, c4⟩⟩) 77 (0, 0)) ∧ w3.heap.size ≤ gs ∧ UseDo v ⟨⟨A1, n1, c1⟩, ⟨A2, n2, c2⟩, ⟨A3, n3, c3⟩, ⟨A4, n4, c4⟩⟩ M f a m t Aw nw cw Ab nb cb W B gs W5 x0 x1 x2 x3 og V U ∧ Below w3.heap.size w3 wx)
      case first =>
        have D := D3.drew
        have hbd := (Below.refl w3.heap.size w3).drew
        have hgD := D.hg
        have hs3 := row_lt D3.q
        have hs4 := row_lt D3.o
        clear s0 s1 s2 s3
        refine wp_region_held_drew (S := (fun w' => w'.cell? ⟨w.heap.size, 0, none⟩ = some (.slice v.a.A v.a.n v.a.c) ∧ w'.cell? ⟨w.heap.size, 1, none⟩ = some (.slice v.b.A v.b.n v.b.c) ∧ w'.cell? ⟨w.heap.size, 2, none⟩ = some (.slice v.c.A v.c.n v.c.c) ∧ w'.cell? ⟨w.heap.size, 3, none⟩ = some (.slice v.d.A v.d.n v.d.c) ∧ w'.cell? ⟨w1.heap.size, 0, none⟩ = some (.slice A1 n1 c1) ∧ w'.cell? ⟨w1.heap.size, 1, none⟩ = some (.slice A2 n2 c2) ∧ w'.cell? ⟨w1.heap.size, 2, none⟩ = some (.slice A3 n3 c3) ∧ w'.cell? ⟨w1.heap.size, 3, none⟩ = some (.slice A4 n4 c4) ∧ w'.cell? ⟨w.heap.size + 1 + 1, 0, none⟩ = some (.int .u8 f))) (by kernel_rfl) (keep7 D.s D.o D.r) (fun hHeld => ?_)
        refine wpAnyH_take (i := 0) (v := ?_) (by simp only [List.getElem?_toArray, List.getElem?_cons_succ, List.getElem?_cons_zero]; rfl) (by kernel_rfl) (by kernel_rfl) (by kernel_rfl) (by exact fun _ _ _ h => h) (Or.inl ⟨by kernel_rfl, ?_⟩) (by assumption) ?_
        rotate_left
        · intro w hSw
          (try dsimp only at hSw)
          go_simp
          try with_reducible rfl
        simp only [Act.put, List.setIfInBounds_toArray, List.set_cons_zero, List.set_cons_succ]
        refine wpAnyH_take (i := 1) (v := ?_) (by simp only [List.getElem?_toArray, List.getElem?_cons_succ, List.getElem?_cons_zero]; rfl) (by kernel_rfl) (by kernel_rfl) (by kernel_rfl) (by exact fun _ _ _ h => h) (Or.inl ⟨by kernel_rfl, ?_⟩) (by assumption) ?_
        rotate_left
        · intro w hSw
          (try dsimp only at hSw)
          go_simp
          try with_reducible rfl
        simp only [Act.put, List.setIfInBounds_toArray, List.set_cons_zero, List.set_cons_succ]
        refine wpAnyH_take (i := 3) (v := ?_) (by simp only [List.getElem?_toArray, List.getElem?_cons_succ, List.getElem?_cons_zero]; rfl) (by kernel_rfl) (by kernel_rfl) (by kernel_rfl) (by exact fun _ _ _ h => h) (Or.inl ⟨by kernel_rfl, ?_⟩) (by assumption) ?_
        rotate_left
        · intro w hSw
          (try dsimp only at hSw)
          go_simp
          try with_reducible rfl
        simp only [Act.put, List.setIfInBounds_toArray, List.set_cons_zero, List.set_cons_succ]
        refine wpAnyH_take (i := 4) (v := ?_) (by simp only [List.getElem?_toArray, List.getElem?_cons_succ, List.getElem?_cons_zero]; rfl) (by kernel_rfl) (by kernel_rfl) (by kernel_rfl) (by exact fun _ _ _ h => h) (Or.inl ⟨by kernel_rfl, ?_⟩) (by assumption) ?_
        rotate_left
        · intro w hSw
          (try dsimp only at hSw)
          go_simp
          try with_reducible rfl
        simp only [Act.put, List.setIfInBounds_toArray, List.set_cons_zero, List.set_cons_succ]
        refine wpAnyH_ready (rs := [2, 6]) (by kernel_rfl) (by simp) ?_
        refine AllReadyH.cons (by simp only [List.getElem?_toArray, List.getElem?_cons_succ, List.getElem?_cons_zero]; rfl) (fun K hK => ?_) ?_
        · rw [if_pos (by kernel_rfl)]
          go_simp
          go_at_call 24
          refine (join_any v ⟨⟨A1, n1, c1⟩, ⟨A2, n2, c2⟩, ⟨A3, n3, c3⟩, ⟨A4, n4, c4⟩⟩ _).mono ?_
          rintro e wj ⟨gs, rfl, hrow, hgs, bt⟩
          have hgs := Nat.le_trans hbd.size hgs
          have hbd := hbd.call bt
          have D := D.call bt
          clear bt
          go_wp2_with fail
          refine hK.out _ _ ?_ (fun hHeld => ?_)
          · exact keep7 D.s D.o D.r
          clear hK K
          try simp only [Act.put, List.setIfInBounds_toArray, List.set_cons_zero, List.set_cons_succ]
          refine wpAnyH_ready (rs := [5, 6]) (by kernel_rfl) (by simp) ?_
          refine AllReadyH.cons (by simp only [List.getElem?_toArray, List.getElem?_cons_succ, List.getElem?_cons_zero]; rfl) (fun K hK => ?_) ?_
          · rw [if_pos (by kernel_rfl)]
            go_simp
            go_at_call 25
            refine (usedBy_any gs f _ _ hrow).mono ?_
            obtain ⟨x0, x1, x2, x3, og, V, U, hud⟩ := KD.out gs
            rw [hud.uses]
            rintro e wu ⟨rfl, bt⟩
            have hrow := bt.row (row_lt hrow) hrow
            have hbd := hbd.call bt
            have D := D.call bt
            clear bt
            go_wp2_with fail
            refine hK.out _ _ ?_ (fun hHeld => ?_)
            · exact keep7 D.s D.o D.r
            clear hK K
            try simp only [Act.put, List.setIfInBounds_toArray, List.set_cons_zero, List.set_cons_succ]
            refine wpAnyH_ready (rs := [6]) (by kernel_rfl) (by simp) ?_
            refine AllReadyH.cons (by simp only [List.getElem?_toArray, List.getElem?_cons_succ, List.getElem?_cons_zero]; rfl) (fun K hK => ?_) AllReadyH.nil
            rw [if_pos (by kernel_rfl)]
            go_simp
            obtain ⟨k, ek⟩ : ∃ k, k = (wu).heap.size := ⟨_, rfl⟩
            have hk : ((wu).alloc (.cells #[.pointer none, .pointer none, .pointer none, .pointer none] 65)).heap[k]? = some (.cells #[.pointer none, .pointer none, .pointer none, .pointer none] 65 (0, 0)) := by rw [ek]; exact heap_alloc_new (wu) _
            have hkge : w3.heap.size ≤ k := by rw [ek]; exact hbd.size
            have hkgs : gs < k := by rw [ek]; exact row_lt hrow
            have hbd := hbd.new (.cells #[.pointer none, .pointer none, .pointer none, .pointer none] 65)
            have D := D.call ((Below.refl _ (wu)).new (.cells #[.pointer none, .pointer none, .pointer none, .pointer none] 65))
            have hrow := row_alloc hrow (.cells #[.pointer none, .pointer none, .pointer none, .pointer none] 65)
            rw [← ek]
            clear ek
            refine hK.out _ _ ?_ (fun hHeld => ?_)
            · exact keep7 D.s D.o D.r
            clear hK K
            try simp only [Act.put, List.setIfInBounds_toArray, List.set_cons_zero, List.set_cons_succ]
            refine wpAnyH_ready (rs := [7]) (by kernel_rfl) (by simp) ?_
            refine AllReadyH.cons (by simp only [List.getElem?_toArray, List.getElem?_cons_succ, List.getElem?_cons_zero]; rfl) (fun K hK => ?_) AllReadyH.nil
            rw [if_pos (by kernel_rfl)]
            refine wp_store_row 65 (.tmp 10) (.tmp 36) rfl (k) #[.pointer x0, .pointer x1, .pointer x2, .pointer x3] rfl rfl 65 _ hk (by kernel_rfl) rfl (by simp [Value.oneCell']) ?_
            refine hK.out _ _ ?_ (fun hHeld => ?_)
            · exact keep7 ((grown_setRow1 _ _ _).row (by omega) D.s) ((grown_setRow1 _ _ _).row (by omega) D.o) ((grown_setRow1 _ _ _).row (by omega) D.r)
            clear hK K
            try simp only [Act.put, List.setIfInBounds_toArray, List.set_cons_zero, List.set_cons_succ]
            refine wpAnyH_done (by kernel_rfl) ?_ _
            go_wp2_with fail
            go_meet
            exact ⟨k, gs, x0, x1, x2, x3, og, V, U, rfl, hkge, setRow_heap _ _ _ _ _ _ hk, (grown_setRow1 _ _ _).row (by omega) hrow, hgs, hud, hbd.grown (grown_setRow1 _ _ _) hbd.size (fun j e => by injection e with e; omega)⟩
          refine AllReadyH.cons (by simp only [List.getElem?_toArray, List.getElem?_cons_succ, List.getElem?_cons_zero]; rfl) (fun K hK => ?_) AllReadyH.nil
          rw [if_pos (by kernel_rfl)]
          go_simp
          obtain ⟨k, ek⟩ : ∃ k, k = (wj).heap.size := ⟨_, rfl⟩
          have hk : ((wj).alloc (.cells #[.pointer none, .pointer none, .pointer none, .pointer none] 65)).heap[k]? = some (.cells #[.pointer none, .pointer none, .pointer none, .pointer none] 65 (0, 0)) := by rw [ek]; exact heap_alloc_new (wj) _
          have hkge : w3.heap.size ≤ k := by rw [ek]; exact hbd.size
          have hkgs : gs < k := by rw [ek]; exact row_lt hrow
          have hbd := hbd.new (.cells #[.pointer none, .pointer none, .pointer none, .pointer none] 65)
          have D := D.call ((Below.refl _ (wj)).new (.cells #[.pointer none, .pointer none, .pointer none, .pointer none] 65))
          have hrow := row_alloc hrow (.cells #[.pointer none, .pointer none, .pointer none, .pointer none] 65)
          rw [← ek]
          clear ek
          refine hK.out _ _ ?_ (fun hHeld => ?_)
          · exact keep7 D.s D.o D.r
          clear hK K
          try simp only [Act.put, List.setIfInBounds_toArray, List.set_cons_zero, List.set_cons_succ]
          refine wpAnyH_ready (rs := [5]) (by kernel_rfl) (by simp) ?_
          refine AllReadyH.cons (by simp only [List.getElem?_toArray, List.getElem?_cons_succ, List.getElem?_cons_zero]; rfl) (fun K hK => ?_) AllReadyH.nil
          rw [if_pos (by kernel_rfl)]
          go_simp
          go_at_call 25
          refine (usedBy_any gs f _ _ hrow).mono ?_
          obtain ⟨x0, x1, x2, x3, og, V, U, hud⟩ := KD.out gs
          rw [hud.uses]
          rintro e wu ⟨rfl, bt⟩
          have hrow := bt.row (row_lt hrow) hrow
          have hbd := hbd.call bt
          have D := D.call bt
          have hk := bt.row (row_lt hk) hk
          clear bt
          go_wp2_with fail
          refine hK.out _ _ ?_ (fun hHeld => ?_)
          · exact keep7 D.s D.o D.r
          clear hK K
          try simp only [Act.put, List.setIfInBounds_toArray, List.set_cons_zero, List.set_cons_succ]
          refine wpAnyH_ready (rs := [7]) (by kernel_rfl) (by simp) ?_
          refine AllReadyH.cons (by simp only [List.getElem?_toArray, List.getElem?_cons_succ, List.getElem?_cons_zero]; rfl) (fun K hK => ?_) AllReadyH.nil
          rw [if_pos (by kernel_rfl)]
          refine wp_store_row 65 (.tmp 10) (.tmp 36) rfl (k) #[.pointer x0, .pointer x1, .pointer x2, .pointer x3] rfl rfl 65 _ hk (by kernel_rfl) rfl (by simp [Value.oneCell']) ?_
          refine hK.out _ _ ?_ (fun hHeld => ?_)
          · exact keep7 ((grown_setRow1 _ _ _).row (by omega) D.s) ((grown_setRow1 _ _ _).row (by omega) D.o) ((grown_setRow1 _ _ _).row (by omega) D.r)
          clear hK K
          try simp only [Act.put, List.setIfInBounds_toArray, List.set_cons_zero, List.set_cons_succ]
          refine wpAnyH_done (by kernel_rfl) ?_ _
          go_wp2_with fail
          go_meet
          exact ⟨k, gs, x0, x1, x2, x3, og, V, U, rfl, hkge, setRow_heap _ _ _ _ _ _ hk, (grown_setRow1 _ _ _).row (by omega) hrow, hgs, hud, hbd.grown (grown_setRow1 _ _ _) hbd.size (fun j e => by injection e with e; omega)⟩
        refine AllReadyH.cons (by simp only [List.getElem?_toArray, List.getElem?_cons_succ, List.getElem?_cons_zero]; rfl) (fun K hK => ?_) AllReadyH.nil
        rw [if_pos (by kernel_rfl)]
        go_simp
        obtain ⟨k, ek⟩ : ∃ k, k = (w3).heap.size := ⟨_, rfl⟩
        have hk : ((w3.drew).alloc (.cells #[.pointer none, .pointer none, .pointer none, .pointer none] 65)).heap[k]? = some (.cells #[.pointer none, .pointer none, .pointer none, .pointer none] 65 (0, 0)) := by rw [ek]; exact heap_alloc_new (w3.drew) _
        have hkge : w3.heap.size ≤ k := by rw [ek]; exact hbd.size
        have hbd := hbd.new (.cells #[.pointer none, .pointer none, .pointer none, .pointer none] 65)
        have D := D.call ((Below.refl _ (w3.drew)).new (.cells #[.pointer none, .pointer none, .pointer none, .pointer none] 65))
        rw [← ek]
        clear ek
        refine hK.out _ _ ?_ (fun hHeld => ?_)
        · exact keep7 D.s D.o D.r
        clear hK K
        try simp only [Act.put, List.setIfInBounds_toArray, List.set_cons_zero, List.set_cons_succ]
        refine wpAnyH_ready (rs := [2]) (by kernel_rfl) (by simp) ?_
        refine AllReadyH.cons (by simp only [List.getElem?_toArray, List.getElem?_cons_succ, List.getElem?_cons_zero]; rfl) (fun K hK => ?_) AllReadyH.nil
        rw [if_pos (by kernel_rfl)]
        go_simp
        go_at_call 24
        refine (join_any v ⟨⟨A1, n1, c1⟩, ⟨A2, n2, c2⟩, ⟨A3, n3, c3⟩, ⟨A4, n4, c4⟩⟩ _).mono ?_
        rintro e wj ⟨gs, rfl, hrow, hgs, bt⟩
        have hgs0 := hgs
        have hk0 := hk
        have hgs := Nat.le_trans hbd.size hgs
        have hbd := hbd.call bt
        have D := D.call bt
        have hk := bt.row (row_lt hk) hk
        have hkgs : k < gs := Nat.lt_of_lt_of_le (row_lt hk0) hgs0
        clear bt
        go_wp2_with fail
        refine hK.out _ _ ?_ (fun hHeld => ?_)
        · exact keep7 D.s D.o D.r
        clear hK K
        try simp only [Act.put, List.setIfInBounds_toArray, List.set_cons_zero, List.set_cons_succ]
        refine wpAnyH_ready (rs := [5]) (by kernel_rfl) (by simp) ?_
        refine AllReadyH.cons (by simp only [List.getElem?_toArray, List.getElem?_cons_succ, List.getElem?_cons_zero]; rfl) (fun K hK => ?_) AllReadyH.nil
        rw [if_pos (by kernel_rfl)]
        go_simp
        go_at_call 25
        refine (usedBy_any gs f _ _ hrow).mono ?_
        obtain ⟨x0, x1, x2, x3, og, V, U, hud⟩ := KD.out gs
        rw [hud.uses]
        rintro e wu ⟨rfl, bt⟩
        have hrow := bt.row (row_lt hrow) hrow
        have hbd := hbd.call bt
        have D := D.call bt
        have hk := bt.row (row_lt hk) hk
        clear bt
        go_wp2_with fail
        refine hK.out _ _ ?_ (fun hHeld => ?_)
        · exact keep7 D.s D.o D.r
        clear hK K
        try simp only [Act.put, List.setIfInBounds_toArray, List.set_cons_zero, List.set_cons_succ]
        refine wpAnyH_ready (rs := [7]) (by kernel_rfl) (by simp) ?_
        refine AllReadyH.cons (by simp only [List.getElem?_toArray, List.getElem?_cons_succ, List.getElem?_cons_zero]; rfl) (fun K hK => ?_) AllReadyH.nil
        rw [if_pos (by kernel_rfl)]
        refine wp_store_row 65 (.tmp 10) (.tmp 36) rfl (k) #[.pointer x0, .pointer x1, .pointer x2, .pointer x3] rfl rfl 65 _ hk (by kernel_rfl) rfl (by simp [Value.oneCell']) ?_
        refine hK.out _ _ ?_ (fun hHeld => ?_)
        · exact keep7 ((grown_setRow1 _ _ _).row (by omega) D.s) ((grown_setRow1 _ _ _).row (by omega) D.o) ((grown_setRow1 _ _ _).row (by omega) D.r)
        clear hK K
        try simp only [Act.put, List.setIfInBounds_toArray, List.set_cons_zero, List.set_cons_succ]
        refine wpAnyH_done (by kernel_rfl) ?_ _
        go_wp2_with fail
        go_meet
        exact ⟨k, gs, x0, x1, x2, x3, og, V, U, rfl, hkge, setRow_heap _ _ _ _ _ _ hk, (grown_setRow1 _ _ _).row (by omega) hrow, hgs, hud, hbd.grown (grown_setRow1 _ _ _) hbd.size (fun j e => by injection e with e; omega)⟩
      case rest =>
        obtain ⟨k, gs, x0, x1, x2, x3, og, V, U, rfl, hkge, hk, hrow, hgs, hud, hbd⟩ := hcut
        have hlt : ∀ j, og = some j → W5.heap.size ≤ j ∧ j < w1.heap.size := fun j e => by
          rcases hud.hog j e with h | h
          · exact ⟨(HI0.out.a.own.lt j h).1, HI0.out.a.lt h⟩
          · exact ⟨(HI0.out.c.own.lt j h).1, HI0.out.c.lt h⟩
        have hs3 := row_lt D3.o
        have D4 := D3.call hbd
        have I4 := Lib.hid (I3.out.to hbd)
        have hkx := row_lt hk
        have HK := Lib.hid hk
        have HROW := Lib.hid hrow
        have HUD := Lib.hid hud
        have HLT := Lib.hid hlt
        obtain ⟨y0, y1, y2, y3⟩ := row4 hk
        obtain ⟨r0, r1, r2, r3, r4, r5⟩ := row6 D4.r
        clear hud hlt hk hrow s0 s1 s2 s3 D3 I3 hbd
        go_wp2_with fail
        refine (useWrite_any x0 x1 x2 x3 f a m t Aw nw cw Ab nb cb W B _ ha ht og (fun j e => by have := (HLT.out j e).2; omega)
          (fun X => Below w.heap.size w X ∧ X.heap[gs]? = some (.cells (srv v ⟨⟨A1, n1, c1⟩, ⟨A2, n2, c2⟩, ⟨A3, n3, c3⟩, ⟨A4, n4, c4⟩⟩) 77 (0, 0)) ∧ MmIs W5 X (.slice A1 n1 c1) (.slice A2 n2 c2) (.slice A3 n3 c3) (.slice A4 n4 c4) M)
          (fun X => Below w.heap.size w X ∧ X.heap[gs]? = some (.cells (srv v ⟨⟨A1, n1, c1⟩, ⟨A2, n2, c2⟩, ⟨A3, n3, c3⟩, ⟨A4, n4, c4⟩⟩) 77 (0, 0)) ∧ MmIs W5 X (.slice A1 n1 c1) (.slice A2 n2 c2) (.slice A3 n3 c3) (.slice A4 n4 c4) ⟨over M.coils (place ⟨f, a, m, t, W, B⟩) B, M.inputs, M.holding, M.words⟩)
          (fun X => Below w.heap.size w X ∧ X.heap[gs]? = some (.cells (srv v ⟨⟨A1, n1, c1⟩, ⟨A2, n2, c2⟩, ⟨A3, n3, c3⟩, ⟨A4, n4, c4⟩⟩) 77 (0, 0)) ∧ MmIs W5 X (.slice A1 n1 c1) (.slice A2 n2 c2) (.slice A3 n3 c3) (.slice A4 n4 c4) (wrote M ⟨f, a, m, t, W, B⟩))
          (fun X Y b h => ⟨h.1.call b, b.row (row_lt h.2.1) h.2.1, h.2.2.to b⟩) (fun X Y b h => ⟨h.1.call b, b.row (row_lt h.2.1) h.2.1, h.2.2.to b⟩) ⟨D4.bel, HROW.out, I4.out⟩
          (fun X _ h => (HUD.out.k1 X h.2.1 h.2.2 (HB.out.to h.1)).mono fun e w' q => ⟨q.1, q.2.1, h.1.grown q.2.1 h.1.size (fun j e => by have := (HLT.out j e).1; omega), (q.2.1.block gs (row_lt h.2.1) (fun e => by have := (HLT.out gs e.symm).2; omega)).trans h.2.1, q.2.2⟩)
          (fun X _ h => (HUD.out.k3 X h.2.1 h.2.2 (HW.out.to h.1)).mono fun e w' q => ⟨q.1, q.2.1, h.1.grown q.2.1 h.1.size (fun j e => by have := (HLT.out j e).1; omega), (q.2.1.block gs (row_lt h.2.1) (fun e => by have := (HLT.out gs e.symm).2; omega)).trans h.2.1, q.2.2⟩)).mono ?_
        rintro e w5 ⟨rfl, gr, hb5w, hrow5, I5⟩
        have D5 := (D4.grown gr (fun j e => by have := HLT.out j e; omega)).drew
        have hk5 := (gr.block k (row_lt HK.out) (fun e => by have := (HLT.out k e.symm).2; omega)).trans HK.out
        have I5 := Lib.hid I5.drew
        have hb5w := Lib.hid hb5w.drew
        have hrow5 := Lib.hid hrow5
        clear gr D4 I4 y0 y1 y2 y3 r0 r1 r2 r3 r4 r5
        go_wp2_with fail
        have hgD := D5.hg
        have hs5 := row_lt D5.o
        refine wp_region_held_drew (S := (fun w' => w'.cell? ⟨w1.heap.size, 0, none⟩ = some (.slice A1 n1 c1) ∧ w'.cell? ⟨w1.heap.size, 1, none⟩ = some (.slice A2 n2 c2) ∧ w'.cell? ⟨w1.heap.size, 2, none⟩ = some (.slice A3 n3 c3) ∧ w'.cell? ⟨w1.heap.size, 3, none⟩ = some (.slice A4 n4 c4) ∧ w'.cell? ⟨k, 0, none⟩ = some (.pointer x0) ∧ w'.cell? ⟨k, 1, none⟩ = some (.pointer x1) ∧ w'.cell? ⟨k, 2, none⟩ = some (.pointer x2) ∧ w'.cell? ⟨k, 3, none⟩ = some (.pointer x3) ∧ w'.cell? ⟨w.heap.size + 1 + 1, 0, none⟩ = some (.int .u8 f) ∧ w'.cell? ⟨w.heap.size + 1 + 1, 1, none⟩ = some (.int .u16 a) ∧ w'.cell? ⟨w.heap.size + 1 + 1, 2, none⟩ = some (.int .u16 m) ∧ w'.cell? ⟨w.heap.size + 1 + 1, 3, none⟩ = some (.int .u16 t) ∧ w'.cell? ⟨w.heap.size + 1 + 1, 4, none⟩ = some (.slice Aw nw cw) ∧ w'.cell? ⟨w.heap.size + 1 + 1, 5, none⟩ = some (.slice Ab nb cb))) (by kernel_rfl) (keepDo2 D5.o hk5 D5.r) (fun hHeld => ?_)
        refine wpAnyH_take (i := 0) (v := ?_) (by simp only [List.getElem?_toArray, List.getElem?_cons_succ, List.getElem?_cons_zero]; rfl) (by kernel_rfl) (by kernel_rfl) (by kernel_rfl) (by exact fun _ _ _ h => h) (Or.inl ⟨by kernel_rfl, ?_⟩) (by assumption) ?_
        rotate_left
        · intro w hSw
          (try dsimp only at hSw)
          go_simp
          try with_reducible rfl
        simp only [Act.put, List.setIfInBounds_toArray, List.set_cons_zero, List.set_cons_succ]
        refine wpAnyH_take (i := 1) (v := ?_) (by simp only [List.getElem?_toArray, List.getElem?_cons_succ, List.getElem?_cons_zero]; rfl) (by kernel_rfl) (by kernel_rfl) (by kernel_rfl) (by exact fun _ _ _ h => h) (Or.inl ⟨by kernel_rfl, ?_⟩) (by assumption) ?_
        rotate_left
        · intro w hSw
          (try dsimp only at hSw)
          go_simp
          try with_reducible rfl
        simp only [Act.put, List.setIfInBounds_toArray, List.set_cons_zero, List.set_cons_succ]
        refine wpAnyH_take (i := 2) (v := ?_) (by simp only [List.getElem?_toArray, List.getElem?_cons_succ, List.getElem?_cons_zero]; rfl) (by kernel_rfl) (by kernel_rfl) (by kernel_rfl) (by exact fun _ _ _ h => h) (Or.inl ⟨by kernel_rfl, ?_⟩) (by assumption) ?_
        rotate_left
        · intro w hSw
          (try dsimp only at hSw)
          go_simp
          try with_reducible rfl
        simp only [Act.put, List.setIfInBounds_toArray, List.set_cons_zero, List.set_cons_succ]
        refine wpAnyH_ready (rs := [3]) (by kernel_rfl) (by simp) ?_
        refine AllReadyH.cons (by simp only [List.getElem?_toArray, List.getElem?_cons_succ, List.getElem?_cons_zero]; rfl) (fun K hK => ?_) AllReadyH.nil
        rw [if_pos (by kernel_rfl)]
        go_simp
        go_at_call 27
        refine (useAnswer_any x0 x1 x2 x3 f a m t Aw nw cw Ab nb cb W B _ (HW.out.to hb5w.out) (HB.out.to hb5w.out) HWF.out kW kB V U (fun _ X b => HUD.out.k0 X (b.row (row_lt hrow5.out) hrow5.out) (I5.out.to b)) (fun _ X b => HUD.out.k2 X (b.row (row_lt hrow5.out) hrow5.out) (I5.out.to b))).mono ?_
        rw [HUD.out.ans, ← HAN.out]
        rintro e w6 ⟨Ab6, nb6, cb6, Aw6, nw6, cw6, rfl, SB6, SW6, kb6, kw6, fb6, fw6, b6⟩
        have hb5 := I5.out.a.bel.size
        have D6 := D5.call b6
        have hk6 := b6.row (row_lt hk5) hk5
        have I6 := Lib.hid (I5.out.to b6)
        have SB6 := Lib.hid SB6
        have SW6 := Lib.hid SW6
        clear b6
        go_wp2_with fail
        refine hK.out _ _ ?_ (fun hHeld => ?_)
        · exact keepDo2 D6.o hk6 D6.r
        clear hK K
        try simp only [Act.put, List.setIfInBounds_toArray, List.set_cons_zero, List.set_cons_succ]
        refine wpAnyH_ready (rs := [4]) (by kernel_rfl) (by simp) ?_
        refine AllReadyH.cons (by simp only [List.getElem?_toArray, List.getElem?_cons_succ, List.getElem?_cons_zero]; rfl) (fun K hK => ?_) AllReadyH.nil
        rw [if_pos (by kernel_rfl)]
        refine wp_store_row 28 (.tmp 6) (.tmp 40) rfl (w.heap.size + 1 + 1 + 1) #[.slice A1 n1 c1, .slice A2 n2 c2, .slice A3 n3 c3, .slice A4 n4 c4] rfl rfl 28 _ D6.p (by kernel_rfl) rfl (by simp [Value.oneCell']) ?_
        refine hK.out _ _ ?_ (fun hHeld => ?_)
        · exact keepDo2 ((grown_setRow1 _ _ _).row (by omega) D6.o) ((grown_setRow1 _ _ _).row (by omega) hk6) ((grown_setRow1 _ _ _).row (by omega) D6.r)
        clear hK K
        try simp only [Act.put, List.setIfInBounds_toArray, List.set_cons_zero, List.set_cons_succ]
        refine wpAnyH_ready (rs := [5]) (by kernel_rfl) (by simp) ?_
        refine AllReadyH.cons (by simp only [List.getElem?_toArray, List.getElem?_cons_succ, List.getElem?_cons_zero]; rfl) (fun K hK => ?_) AllReadyH.nil
        rw [if_pos (by kernel_rfl)]
        refine wp_store_row 36 (.tmp 7) (.tmp 43) rfl (w.heap.size + 1 + 1 + 1 + 1) #[.int .u8 (AN.f : Nat), .int .u8 (AN.x : Nat), .slice Ab6 nb6 cb6, .slice Aw6 nw6 cw6, .int .u16 (AN.at' : Nat), .int .u16 (AN.many : Nat)] rfl rfl 36 _ ((grown_setRow1 _ _ _).row (by omega) D6.q) (by kernel_rfl) rfl (by simp [Value.oneCell']) ?_
        refine hK.out _ _ ?_ (fun hHeld => ?_)
        · exact keepDo2 ((grown_setRow1 _ _ _).row (by omega) ((grown_setRow1 _ _ _).row (by omega) D6.o)) ((grown_setRow1 _ _ _).row (by omega) ((grown_setRow1 _ _ _).row (by omega) hk6)) ((grown_setRow1 _ _ _).row (by omega) ((grown_setRow1 _ _ _).row (by omega) D6.r))
        clear hK K
        try simp only [Act.put, List.setIfInBounds_toArray, List.set_cons_zero, List.set_cons_succ]
        refine wpAnyH_done (by kernel_rfl) ?_ _
        have F := D6.fin2 sz5 #[.slice A1 n1 c1, .slice A2 n2 c2, .slice A3 n3 c3, .slice A4 n4 c4] #[.int .u8 (AN.f : Nat), .int .u8 (AN.x : Nat), .slice Ab6 nb6 cb6, .slice Aw6 nw6 cw6, .int .u16 (AN.at' : Nat), .int .u16 (AN.many : Nat)]
        go_wp2_with fail
        refine bodyPost_rows rfl _ _ 28 36 #[.slice A1 n1 c1, .slice A2 n2 c2, .slice A3 n3 c3, .slice A4 n4 c4] #[.int .u8 (AN.f : Nat), .int .u8 (AN.x : Nat), .slice Ab6 nb6 cb6, .slice Aw6 nw6 cw6, .int .u16 (AN.at' : Nat), .int .u16 (AN.many : Nat)] (0, 0) (0, 0) _ _ rfl F.p Try.underlying28 rfl (by kernel_rfl) rfl F.q Try.underlying36 rfl (by kernel_rfl) rfl ?_
        rw [HD.out]
        exact ⟨⟨⟨A1, n1, c1⟩, ⟨A2, n2, c2⟩, ⟨A3, n3, c3⟩, ⟨A4, n4, c4⟩⟩, Ab6, nb6, cb6, Aw6, nw6, cw6, rfl, ⟨Sl.of_own (F.own I6.out.a.own'), Sl.of_own (F.own I6.out.b.own'), Sl.of_own (F.own I6.out.c.own'), Sl.of_own (F.own I6.out.d.own')⟩, F.sl SB6.out (fun b o e => Nat.le_trans hb5 (fb6 b o e)), F.sl SW6.out (fun b o e => Nat.le_trans hb5 (fw6 b o e)), kb6, kw6, F.bel, (New.of I6.out.a).mono (by omega), (New.of I6.out.b).mono (by omega), (New.of I6.out.c).mono (by omega), (New.of I6.out.d).mono (by omega), fun b o e => by have := fb6 b o e; omega, fun b o e => by have := fw6 b o e; omega⟩
theorem modDo_any (v u : Sp) (s : Space) (M : Mem) (f a m t : Nat) (Aw : Option Addr) (nw cw : Nat) (Ab : Option Addr) (nb cb : Nat) (W : List Nat) (B : List Bool) (w : World) (hS : SpOk w v s) (hM : MmOk w u M) (ho : s.Ok) (hv : v.Small) (hu : u.Small)
    (hW : Sl w w.heap.size Aw nw (ws W)) (hB : Sl w w.heap.size Ab nb (bl B)) (hwf : Req.Wf ⟨f, a, m, t, W, B⟩) (kW : nw ≤ 100000) (kB : nb ≤ 100000) :
    Calls Try.prog 11 #[.agg #[.slice v.a.A v.a.n v.a.c, .slice v.b.A v.b.n v.b.c, .slice v.c.A v.c.n v.c.c, .slice v.d.A v.d.n v.d.c], .agg #[.slice u.a.A u.a.n u.a.c, .slice u.b.A u.b.n u.b.c, .slice u.c.A u.c.n u.c.c, .slice u.d.A u.d.n u.d.c], .agg #[.int .u8 f, .int .u16 a, .int .u16 m, .int .u16 t, .slice Aw nw cw, .slice Ab nb cb]] w (RetDoW w (doM s M ⟨f, a, m, t, W, B⟩)) :=
  (modDoN_any v u s M f a m t Aw nw cw Ab nb cb W B w hS hM ho hv hu hW hB hwf kW kB).mono fun e w' h => by
    obtain ⟨y, Ab', nb', cb', Aw', nw', cw', h1, h2, h3, h4, h5, h6, h7, _⟩ := h
    exact ⟨y, Ab', nb', cb', Aw', nw', cw', h1, h2, h3, h4, h5, h6, h7⟩
end Go.Proofs.Ytiibopdnlmnkmaa.MoW
/- The walks of model.written and model.Serve. Written by gen_mowl.py. -/
set_option linter.unusedVariables false
set_option linter.unusedSimpArgs false
namespace Go.Proofs.Ytiibopdnlmnkmaa.MoW
open Go.RowKit Go.Proofs.Ytiibopdnlmnkmaa Go.Proofs.Ytiibopdnlmnkmaa.Mo Go.Proofs.Ytiibopdnlmnkmaa.Ask Go.Proofs.Ytiibopdnlmnkmaa.AskW
theorem owns_mono {w : World} {b b' : Nat} {e : TypeId} {k : Nat} {v : Value} {n : Nat} {xs : List Value} (h : w.ownsRow b e k v n xs) (hb : b' ≤ b) : w.ownsRow b' e k v n xs := by
  refine ⟨h.1, ?_⟩
  rcases h.2 with h1 | ⟨g, cap, cur, h1, h2, h3⟩
  · exact .inl h1
  · exact .inr ⟨g, cap, cur, h1, Nat.le_trans hb h2, h3⟩
set_option maxHeartbeats 4000000 in
theorem written_any (f x : Nat) (Ab : Option Addr) (nb cb : Nat) (Aw : Option Addr) (nw cw : Nat) (a m : Nat) (B : List Bool) (W : List Nat) (w : World) (hB : Sl w w.heap.size Ab nb (bl B)) (hW : Sl w w.heap.size Aw nw (ws W)) (hwf : Rep.Wf ⟨f, x, B, W, a, m⟩) (kB : nb ≤ 1000000) (kW : nw ≤ 1000000) :
    Calls Try.prog 39 #[.agg #[.int .u8 f, .int .u8 x, .slice Ab nb cb, .slice Aw nw cw, .int .u16 a, .int .u16 m]] w fun e w' => ∃ A c, e = .returned (.slice A (rbytesE ⟨f, x, B, W, a, m⟩).1.length c) ∧ Has w w' 5 (.slice A (rbytesE ⟨f, x, B, W, a, m⟩).1.length c) (rbytesE ⟨f, x, B, W, a, m⟩).1.length (bs (rbytesE ⟨f, x, B, W, a, m⟩).1) := by
  have K := Lib.hid (fun X (b : Below w.heap.size w X) => repBytes_any f x Ab nb cb Aw nw cw a m B W X (hB.to b) (hW.to b) hwf kB kW)
  obtain ⟨E, hE⟩ : ∃ E, E = rbytesE ⟨f, x, B, W, a, m⟩ := ⟨_, rfl⟩
  rw [← hE] at K ⊢
  clear hE hB hW hwf
  go_enter Try.func39, Try.ntmps39
  go_wp2_with fail
  refine (K.out _ ((Below.refl _ w).new _)).mono ?_
  rintro e w1 ⟨v, rfl, H⟩
  obtain ⟨A, c, rfl, -, -, -⟩ := H.slice
  have H := Lib.hid H
  go_wp2_with fail
  go_ret
  exact ⟨A, c, rfl, owns_mono H.out.own (by simp), ((Below.refl _ w).new _).call H.out.bel⟩
theorem pad8_le (l : List Bool) : (pad8 l).length ≤ l.length + 8 := by rw [pad8_length]; omega
/-- What is answered is no longer than a machine has. -/
theorem do_small7 {s : Space} {M : Mem} {r : Req} (hl : M.coils.length ≤ 100000 ∧ M.inputs.length ≤ 100000 ∧ M.holding.length ≤ 100000 ∧ M.words.length ≤ 100000) (hw : r.words.length ≤ 1000) (hb : r.bits.length ≤ 3000) : (doM s M r).2.bits.length ≤ 1000000 ∧ (doM s M r).2.words.length ≤ 1000000 := by
  have sl : ∀ {α : Type} (l : List α) (k n : Nat), (slab l k n).length ≤ l.length := fun l k n => by unfold slab; rw [List.length_take, List.length_drop]; omega
  have ov : ∀ {α : Type} (l : List α) (k : Nat) (v : List α), (over l k v).length ≤ l.length + v.length := fun l k v => by unfold over; rw [List.length_append, List.length_append, List.length_take, List.length_drop]; omega
  have he : (echoF r).1.bits.length ≤ 3000 ∧ (echoF r).1.words.length ≤ 1000 := by
    unfold echoF
    repeat' split
    all_goals first | exact ⟨hb, Nat.zero_le _⟩ | exact ⟨Nat.zero_le _, hw⟩ | exact ⟨Nat.zero_le _, Nat.zero_le _⟩
  unfold doM
  split
  · unfold answer
    have c1 := ov M.coils (place r) r.bits
    have c2 := ov M.holding (place r) r.words
    have p1 := pad8_le (slab (wrote M r).coils r.at' r.many)
    have p2 := pad8_le (slab (wrote M r).inputs r.at' r.many)
    have q1 := sl (wrote M r).coils r.at' r.many
    have q2 := sl (wrote M r).inputs r.at' r.many
    have q3 := sl (wrote M r).holding r.at' r.many
    have q4 := sl (wrote M r).words r.at' r.many
    have e1 : (wrote M r).coils.length ≤ 103000 := by show (over _ _ _).length ≤ _; omega
    have e2 : (wrote M r).inputs.length ≤ 100000 := hl.2.1
    have e3 : (wrote M r).holding.length ≤ 101000 := by show (over _ _ _).length ≤ _; omega
    have e4 : (wrote M r).words.length ≤ 100000 := hl.2.2.2
    dsimp only
    repeat' split
    all_goals first
      | exact ⟨by omega, by omega⟩
      | exact ⟨by show (pad8 _).length ≤ _; omega, Nat.zero_le _⟩
      | exact ⟨Nat.zero_le _, by show (slab _ _ _).length ≤ _; omega⟩
  · exact ⟨Nat.zero_le _, Nat.zero_le _⟩
set_option maxRecDepth 10000 in
set_option maxHeartbeats 4000000 in
theorem modServe_any (v u : Sp) (s : Space) (M : Mem) (A : Option Addr) (n c : Nat) (xs : List Nat) (w : World) (hS : SpOk w v s) (hM : MmOk w u M) (ho : s.Ok) (hm : M.Wf) (hv : v.Small) (hu : u.Small)
    (hs : Sl w w.heap.size A n (bs xs)) (hx : Bytes xs) (hn2 : n ≤ 300) (hc : n ≤ c) :
    Calls Try.prog 19 #[.agg #[.slice v.a.A v.a.n v.a.c, .slice v.b.A v.b.n v.b.c, .slice v.c.A v.c.n v.c.c, .slice v.d.A v.d.n v.d.c], .agg #[.slice u.a.A u.a.n u.a.c, .slice u.b.A u.b.n u.b.c, .slice u.c.A u.c.n u.c.c, .slice u.d.A u.d.n u.d.c], .slice A n c] w (RetSv w (serveM s M xs)) := by
  have KL0 := fun X (b : Below w.heap.size w X) => look_any A n c xs X (hs.to b) hx hn2 hc
  obtain ⟨hq, hqw, hqb, hx8⟩ := look_wf hx
  have hSV : serveM s M xs = if (lookF xs).2 = 0 then ((doM s M (lookF xs).1).1, (rbytesE (doM s M (lookF xs).1).2).1) else (M, (rbytesE (exc (lookF xs).1.f (lookF xs).2)).1) := rfl
  have hdw := (do_wf (s := s) hm hq).2
  rw [hSV]
  clear hSV
  obtain ⟨⟨⟨f, a, m, t, W, B⟩, x⟩, eL⟩ : ∃ L, L = lookF xs := ⟨_, rfl⟩
  rw [← eL] at KL0 hq hqw hqb hx8 hdw ⊢
  dsimp only at hq hqw hqb hx8 hdw ⊢
  have KL := Lib.hid KL0
  clear eL KL0
  have hf8 : f < 256 := hq.f
  by_cases h0 : x = 0
  case neg =>
    rw [if_neg h0]
    have T0 : ((x : Int) != 0) = true := by rw [bne_iff_ne]; omega
    have KB := Lib.hid (fun X Ab nb cb Aw nw cw SB SW kB kW => written_any (f % 128) x Ab nb cb Aw nw cw 0 0 [] [] X SB SW (exc_wf f x hx8) kB kW)
    have KC := Lib.hid (fun X (b : Below w.heap.size w X) => clone_any u M X (hM.to b) hu)
    obtain ⟨R, hR⟩ : ∃ R, R = rbytesE (exc f x) := ⟨_, rfl⟩
    have hR' : rbytesE ⟨f % 128, x, [], [], 0, 0⟩ = R := hR.symm
    rw [← hR]
    rw [hR'] at KB
    clear hR hR' hdw h0 hq hs hx hM hS hu hv
    go_enter Try.func19, Try.ntmps19
    go_wp2_with fail
    refine (KL.out _ ((((Below.refl _ w).new _).new _).new _)).mono ?_
    rintro e w1 ⟨Aw, nw, cw, Ab, nb, cb, rfl, SW, SB, kw, kb, fw, fb, b1⟩
    have B1 := B3.first b1
    clear b1 SW SB fw fb kw kb
    go_wp2_with (first
      | (refine wpList_store_grown rfl 31 (.tmp 8) _ rfl w1.heap.size #[.int .u8 (f : Nat), .int .u16 (a : Nat), .int .u16 (m : Nat), .int .u16 (t : Nat), .slice Aw nw cw, .slice Ab nb cb] rfl rfl 31 _ (heap_alloc_new w1 _) (by kernel_rfl) rfl (by simp [Value.oneCell']) ?_; intro W2 h2 g2 s2; have B2 := B1.made g2; have l1 := B1.lt; clear g2 s2 B1)
      | fail)
    have B2 := B2.call (Below.refl _ W2).drew
    have h2 : W2.drew.heap[w1.heap.size]? = _ := h2
    have l2 := B2.lt
    have h2lt := row_lt h2
    refine wp_region_held_drew (S := (fun w' => w'.cell? ⟨w.heap.size + 1, 0, none⟩ = some (.slice u.a.A u.a.n u.a.c) ∧ w'.cell? ⟨w.heap.size + 1, 1, none⟩ = some (.slice u.b.A u.b.n u.b.c) ∧ w'.cell? ⟨w.heap.size + 1, 2, none⟩ = some (.slice u.c.A u.c.n u.c.c) ∧ w'.cell? ⟨w.heap.size + 1, 3, none⟩ = some (.slice u.d.A u.d.n u.d.c) ∧ w'.cell? ⟨w1.heap.size, 0, none⟩ = some (.int .u8 (f : Nat)))) (by kernel_rfl) (keepDo B2.m h2) (fun hHeld => ?_)
    refine wpAnyH_take (i := 0) (v := ?_) (by simp only [List.getElem?_toArray, List.getElem?_cons_succ, List.getElem?_cons_zero]; rfl) (by kernel_rfl) (by kernel_rfl) (by kernel_rfl) (by exact fun _ _ _ h => h) (Or.inl ⟨by kernel_rfl, ?_⟩) (by assumption) ?_
    rotate_left
    · intro w hSw
      (try dsimp only at hSw)
      go_simp
      try with_reducible rfl
    simp only [Act.put, List.setIfInBounds_toArray, List.set_cons_zero, List.set_cons_succ]
    refine wpAnyH_take (i := 2) (v := ?_) (by simp only [List.getElem?_toArray, List.getElem?_cons_succ, List.getElem?_cons_zero]; rfl) (by kernel_rfl) (by kernel_rfl) (by kernel_rfl) (by exact fun _ _ _ h => h) (Or.inl ⟨by kernel_rfl, ?_⟩) (by assumption) ?_
    rotate_left
    · intro w hSw
      (try dsimp only at hSw)
      go_simp
      try with_reducible rfl
    simp only [Act.put, List.setIfInBounds_toArray, List.set_cons_zero, List.set_cons_succ]
    refine wpAnyH_take (i := 3) (v := ?_) (by simp only [List.getElem?_toArray, List.getElem?_cons_succ, List.getElem?_cons_zero]; rfl) (by kernel_rfl) (by kernel_rfl) (by kernel_rfl) (by exact fun _ _ _ h => h) (Or.inl ⟨by kernel_rfl, ?_⟩) (by assumption) ?_
    rotate_left
    · intro w hSw
      (try dsimp only at hSw)
      go_simp
      try with_reducible rfl
    simp only [Act.put, List.setIfInBounds_toArray, List.set_cons_zero, List.set_cons_succ]
    refine wpAnyH_take (i := 4) (v := ?_) (by simp only [List.getElem?_toArray, List.getElem?_cons_succ, List.getElem?_cons_zero]; rfl) (by kernel_rfl) (by kernel_rfl) (by kernel_rfl) (by exact fun _ _ _ h => h) (Or.inl ⟨by kernel_rfl, ?_⟩) (by assumption) ?_
    rotate_left
    · intro w hSw
      (try dsimp only at hSw)
      go_simp
      try with_reducible rfl
    simp only [Act.put, List.setIfInBounds_toArray, List.set_cons_zero, List.set_cons_succ]
    refine wpAnyH_ready (rs := [1]) (by kernel_rfl) (by simp) ?_
    refine AllReadyH.cons (by simp only [List.getElem?_toArray, List.getElem?_cons_succ, List.getElem?_cons_zero]; rfl) (fun K hK => ?_) AllReadyH.nil
    rw [if_pos (by kernel_rfl)]
    go_simp
    go_at_call 23
    refine (KC.out _ B2.bel).mono ?_
    rintro e w3 ⟨va, vb, vc, vd, rfl, I⟩
    obtain ⟨A1, n1, c1, A2, n2, c2, A3, n3, c3, A4, n4, c4, rfl, rfl, rfl, rfl, -, -, -, -⟩ := I.ok
    have B2 := B2.call I.a.bel
    have h2 := I.a.bel.row (row_lt h2) h2
    have hi := I.a.bel.size
    have I := Lib.hid I
    go_wp2_with fail
    refine hK.out _ _ ?_ (fun hHeld => ?_)
    · exact keepDo B2.m h2
    clear hK K
    try simp only [Act.put, List.setIfInBounds_toArray, List.set_cons_zero, List.set_cons_succ]
    refine wpAnyH_ready (rs := [5]) (by kernel_rfl) (by simp) ?_
    refine AllReadyH.cons (by simp only [List.getElem?_toArray, List.getElem?_cons_succ, List.getElem?_cons_zero]; rfl) (fun K hK => ?_) AllReadyH.nil
    rw [if_pos (by kernel_rfl)]
    go_simp
    go_at_call 22
    refine (wrong2_any f x hf8 _).mono ?_
    rintro e w4 ⟨Ab4, nb4, cb4, Aw4, nw4, cw4, rfl, SB4, SW4, kb4, kw4, fb4, fw4, b4⟩
    dsimp only at SB4 SW4 ⊢
    have B2 := B2.call b4
    have h2 := b4.row (row_lt h2) h2
    have I := Lib.hid (I.out.to b4)
    have hi4 := b4.size
    have SB4 := Lib.hid SB4
    have SW4 := Lib.hid SW4
    clear b4
    go_wp2_with fail
    refine hK.out _ _ ?_ (fun hHeld => ?_)
    · exact keepDo B2.m h2
    clear hK K
    try simp only [Act.put, List.setIfInBounds_toArray, List.set_cons_zero, List.set_cons_succ]
    refine wpAnyH_ready (rs := [6]) (by kernel_rfl) (by simp) ?_
    refine AllReadyH.cons (by simp only [List.getElem?_toArray, List.getElem?_cons_succ, List.getElem?_cons_zero]; rfl) (fun K hK => ?_) AllReadyH.nil
    rw [if_pos (by kernel_rfl)]
    go_simp
    go_at_call 39
    refine (KB.out _ Ab4 nb4 cb4 Aw4 nw4 cw4 SB4.out SW4.out (by have h := SB4.out.len; simp at h; omega) (by have h := SW4.out.len; simp at h; omega)).mono ?_
    rintro e w5 ⟨A5, c5, rfl, H5⟩
    have B2 := B2.call H5.bel
    have h2 := H5.bel.row (row_lt h2) h2
    have I := Lib.hid (I.out.to H5.bel)
    have H5 := Lib.hid H5
    go_wp2_with fail
    refine hK.out _ _ ?_ (fun hHeld => ?_)
    · exact keepDo B2.m h2
    clear hK K
    try simp only [Act.put, List.setIfInBounds_toArray, List.set_cons_zero, List.set_cons_succ]
    refine wpAnyH_ready (rs := [7]) (by kernel_rfl) (by simp) ?_
    refine AllReadyH.cons (by simp only [List.getElem?_toArray, List.getElem?_cons_succ, List.getElem?_cons_zero]; rfl) (fun K hK => ?_) AllReadyH.nil
    rw [if_pos (by kernel_rfl)]
    refine wp_store_row 28 (.tmp 6) (.tmp 20) rfl (w.heap.size + 1 + 1) #[.slice A1 n1 c1, .slice A2 n2 c2, .slice A3 n3 c3, .slice A4 n4 c4] rfl rfl 28 _ B2.r (by kernel_rfl) rfl (by simp [Value.oneCell']) ?_
    refine hK.out _ _ ?_ (fun hHeld => ?_)
    · exact keepDo ((grown_setRow1 _ _ _).row (by omega) B2.m) ((grown_setRow1 _ _ _).row (by omega) h2)
    clear hK K
    try simp only [Act.put, List.setIfInBounds_toArray, List.set_cons_zero, List.set_cons_succ]
    refine wpAnyH_take (i := 8) (v := ?_) (by simp only [List.getElem?_toArray, List.getElem?_cons_succ, List.getElem?_cons_zero]; rfl) (by kernel_rfl) (by kernel_rfl) (by kernel_rfl) (by exact fun _ _ _ h => h) (Or.inl ⟨by kernel_rfl, ?_⟩) (by assumption) ?_
    rotate_left
    · intro w hSw
      (try dsimp only at hSw)
      go_simp
      try with_reducible rfl
    simp only [Act.put, List.setIfInBounds_toArray, List.set_cons_zero, List.set_cons_succ]
    refine wpAnyH_done (by kernel_rfl) ?_ _
    have h9 := setRow_heap w5 (w.heap.size + 1 + 1) _ #[.slice A1 n1 c1, .slice A2 n2 c2, .slice A3 n3 c3, .slice A4 n4 c4] _ _ B2.r
    have g9 := grown_setRow1 w5 (w.heap.size + 1 + 1) #[.slice A1 n1 c1, .slice A2 n2 c2, .slice A3 n3 c3, .slice A4 n4 c4]
    have H9 := Lib.hid h9
    have G9 := Lib.hid g9
    clear h9 g9
    go_wp2_with fail
    refine bodyPost_row_tmp rfl (w.heap.size + 1 + 1) 28 #[.slice A1 n1 c1, .slice A2 n2 c2, .slice A3 n3 c3, .slice A4 n4 c4] (0, 0) _ (.slice A5 R.1.length c5) rfl H9.out Try.underlying28 rfl (by kernel_rfl) rfl rfl ?_
    have k1 : ∀ {e : TypeId} {z : Value} {nn : Nat} {ys : List Value}, w5.ownsRow (W2.drew).heap.size e 1 z nn ys → (w5.setRow (w.heap.size + 1 + 1) #[.slice A1 n1 c1, .slice A2 n2 c2, .slice A3 n3 c3, .slice A4 n4 c4]).ownsRow (W2.drew).heap.size e 1 z nn ys := fun {e z nn ys} h => h.kept G9.out (Or.inr (fun e => by have := (h.lt _ e).1; omega))
    have o5 := H5.out.own.kept G9.out (Or.inr (fun e => by have := (H5.out.own.lt _ e).1; omega))
    exact ⟨⟨⟨A1, n1, c1⟩, ⟨A2, n2, c2⟩, ⟨A3, n3, c3⟩, ⟨A4, n4, c4⟩⟩, A5, R.1.length, c5, rfl, ⟨Sl.of_own (k1 I.out.a.own'), Sl.of_own (k1 I.out.b.own'), Sl.of_own (k1 I.out.c.own'), Sl.of_own (k1 I.out.d.own')⟩, Sl.of_own o5, H5.out.cap, B2.bel.grown G9.out B2.bel.size (fun j e => by injection e with e; omega)⟩
  case pos =>
    rw [if_pos h0]
    subst h0
    have KD := Lib.hid (fun X (b : Below w.heap.size w X) Aw nw cw Ab nb cb (SW : Sl X X.heap.size Aw nw (ws W)) (SB : Sl X X.heap.size Ab nb (bl B)) => modDoN_any v u s M f a m t Aw nw cw Ab nb cb W B X (hS.to b) (hM.to b) ho hv hu SW SB hq (by have h := SW.len; rw [ws_length] at h; omega) (by have h := SB.len; rw [bl_length] at h; omega))
    have hdl := do_small7 (s := s) (M := M) (r := ⟨f, a, m, t, W, B⟩) ⟨hM.lens.1 ▸ hu.a, hM.lens.2.1 ▸ hu.b, hM.lens.2.2.1 ▸ hu.c, hM.lens.2.2.2 ▸ hu.d⟩ hqw hqb
    obtain ⟨⟨M2, ⟨pf, px, pB, pW, pa, pm⟩⟩, eD⟩ : ∃ D, D = doM s M ⟨f, a, m, t, W, B⟩ := ⟨_, rfl⟩
    rw [← eD] at KD hdw hdl ⊢
    dsimp only at hdw hdl ⊢
    have KB := Lib.hid (fun X A6 n6 c6 A7 n7 c7 (S6 : Sl X X.heap.size A6 n6 (bl pB)) (S7 : Sl X X.heap.size A7 n7 (ws pW)) => written_any pf px A6 n6 c6 A7 n7 c7 pa pm pB pW X S6 S7 hdw (by have h := S6.len; rw [bl_length] at h; omega) (by have h := S7.len; rw [ws_length] at h; omega))
    obtain ⟨R, hR⟩ : ∃ R, R = rbytesE ⟨pf, px, pB, pW, pa, pm⟩ := ⟨_, rfl⟩
    rw [← hR] at KB ⊢
    clear hR eD hdw hq hs hx hM hS hu hv hdl
    go_enter Try.func19, Try.ntmps19
    go_wp2_with fail
    refine (KL.out _ ((((Below.refl _ w).new _).new _).new _)).mono ?_
    rintro e w1 ⟨Aw, nw, cw, Ab, nb, cb, rfl, SW, SB, kw, kb, fw, fb, b1⟩
    have B1 := B3.first b1
    have HSW := Lib.hid SW
    have HSB := Lib.hid SB
    clear b1 fw fb kw kb SW SB
    go_wp2_with (first
      | (refine wpList_store_grown rfl 31 (.tmp 8) _ rfl w1.heap.size #[.int .u8 (f : Nat), .int .u16 (a : Nat), .int .u16 (m : Nat), .int .u16 (t : Nat), .slice Aw nw cw, .slice Ab nb cb] rfl rfl 31 _ (heap_alloc_new w1 _) (by kernel_rfl) rfl (by simp [Value.oneCell']) ?_; intro W2 h2 g2 s2; have B2 := B1.made g2; have SW2 := Lib.hid (HSW.out.grownNew g2); have SB2 := Lib.hid (HSB.out.grownNew g2); obtain ⟨q0, q1, q2, q3, q4, q5⟩ := row6 h2; obtain ⟨s0, s1, s2', s3⟩ := row4 B2.s; obtain ⟨m0, m1, m2, m3⟩ := row4 B2.m; clear g2 s2 B1)
      | fail)
    refine (KD.out W2 B2.bel Aw nw cw Ab nb cb SW2.out SB2.out).mono ?_
    rintro e w3 ⟨y, A6, n6, c6, A7, n7, c7, rfl, YM, S6, S7, k6, k7, b3, n1, n2, n3, n4, n5, n5'⟩
    have B4 := B2.call b3
    have l2 := B2.lt
    have HYM := Lib.hid YM
    have HS6 := Lib.hid S6
    have HS7 := Lib.hid S7
    have hb3 := b3.size
    clear b3 B2 h2 q0 q1 q2 q3 q4 q5 s0 s1 s2' s3 m0 m1 m2 m3 SW2 SB2 YM S6 S7
    go_wp2_with (first
      | (refine wpList_store_grown rfl 28 (.tmp 10) _ rfl w3.heap.size #[.slice y.a.A y.a.n y.a.c, .slice y.b.A y.b.n y.b.c, .slice y.c.A y.c.n y.c.c, .slice y.d.A y.d.n y.d.c] rfl rfl 28 _ (row_alloc (heap_alloc_new w3 _) _) (by kernel_rfl) rfl (by simp [Value.oneCell']) ?_; intro W4 h4 g4 s4)
      | (refine wpList_store_grown rfl 36 (.tmp 11) _ rfl (w3.heap.size + 1) #[.int .u8 (pf : Nat), .int .u8 (px : Nat), .slice A6 n6 c6, .slice A7 n7 c7, .int .u16 (pa : Nat), .int .u16 (pm : Nat)] rfl rfl 36 _ (g4.row (by omega) (heap_alloc2_new w3 _ _)) (by kernel_rfl) rfl (by simp [Value.oneCell']) ?_; intro W5 h5 g5 s5; have x0 := g5.row (k := w3.heap.size) (by omega) h4; have C5 : Below w3.heap.size w3 W5 := ((((Below.refl w3.heap.size w3).new _).new _).grown g4 (by simp; omega) (fun j e => by injection e with e; omega)).grown g5 (by rw [s4]; simp; omega) (fun j e => by injection e with e; omega); clear g4 g5 s4 s5 h4)
      | fail)
    have B6 := (B4.call C5).call (Below.refl _ W5).drew
    have C5 : Below w3.heap.size w3 W5.drew := C5.drew
    have x0 : W5.drew.heap[w3.heap.size]? = _ := x0
    have h5 : W5.drew.heap[w3.heap.size + 1]? = _ := h5
    have l4 := B4.lt
    have hs5 := C5.size
    clear B4
    refine wp_region_held_drew (S := (fun w' => w'.cell? ⟨w3.heap.size, 0, none⟩ = some (.slice y.a.A y.a.n y.a.c) ∧ w'.cell? ⟨w3.heap.size, 1, none⟩ = some (.slice y.b.A y.b.n y.b.c) ∧ w'.cell? ⟨w3.heap.size, 2, none⟩ = some (.slice y.c.A y.c.n y.c.c) ∧ w'.cell? ⟨w3.heap.size, 3, none⟩ = some (.slice y.d.A y.d.n y.d.c) ∧ w'.cell? ⟨w3.heap.size + 1, 0, none⟩ = some (.int .u8 (pf : Nat)) ∧ w'.cell? ⟨w3.heap.size + 1, 1, none⟩ = some (.int .u8 (px : Nat)) ∧ w'.cell? ⟨w3.heap.size + 1, 2, none⟩ = some (.slice A6 n6 c6) ∧ w'.cell? ⟨w3.heap.size + 1, 3, none⟩ = some (.slice A7 n7 c7) ∧ w'.cell? ⟨w3.heap.size + 1, 4, none⟩ = some (.int .u16 (pa : Nat)) ∧ w'.cell? ⟨w3.heap.size + 1, 5, none⟩ = some (.int .u16 (pm : Nat)))) (by kernel_rfl) (keep46c x0 h5) (fun hHeld => ?_)
    refine wpAnyH_take (i := 0) (v := ?_) (by simp only [List.getElem?_toArray, List.getElem?_cons_succ, List.getElem?_cons_zero]; rfl) (by kernel_rfl) (by kernel_rfl) (by kernel_rfl) (by exact fun _ _ _ h => h) (Or.inl ⟨by kernel_rfl, ?_⟩) (by assumption) ?_
    rotate_left
    · intro w hSw
      (try dsimp only at hSw)
      go_simp
      try with_reducible rfl
    simp only [Act.put, List.setIfInBounds_toArray, List.set_cons_zero, List.set_cons_succ]
    refine wpAnyH_take (i := 1) (v := ?_) (by simp only [List.getElem?_toArray, List.getElem?_cons_succ, List.getElem?_cons_zero]; rfl) (by kernel_rfl) (by kernel_rfl) (by kernel_rfl) (by exact fun _ _ _ h => h) (Or.inl ⟨by kernel_rfl, ?_⟩) (by assumption) ?_
    rotate_left
    · intro w hSw
      (try dsimp only at hSw)
      go_simp
      try with_reducible rfl
    simp only [Act.put, List.setIfInBounds_toArray, List.set_cons_zero, List.set_cons_succ]
    refine wpAnyH_ready (rs := [2]) (by kernel_rfl) (by simp) ?_
    refine AllReadyH.cons (by simp only [List.getElem?_toArray, List.getElem?_cons_succ, List.getElem?_cons_zero]; rfl) (fun K hK => ?_) AllReadyH.nil
    rw [if_pos (by kernel_rfl)]
    go_simp
    go_at_call 39
    refine (KB.out _ _ _ _ _ _ _ (HS6.out.to C5) (HS7.out.to C5)).mono ?_
    rintro e w6 ⟨A5, c5, rfl, H5⟩
    have B6 := B6.call H5.bel
    have x0 := H5.bel.row (row_lt x0) x0
    have h5 := H5.bel.row (row_lt h5) h5
    have C6 := C5.call H5.bel
    have H5 := Lib.hid H5
    go_wp2_with fail
    refine hK.out _ _ ?_ (fun hHeld => ?_)
    · exact keep46c x0 h5
    clear hK K
    try simp only [Act.put, List.setIfInBounds_toArray, List.set_cons_zero, List.set_cons_succ]
    refine wpAnyH_ready (rs := [3]) (by kernel_rfl) (by simp) ?_
    refine AllReadyH.cons (by simp only [List.getElem?_toArray, List.getElem?_cons_succ, List.getElem?_cons_zero]; rfl) (fun K hK => ?_) AllReadyH.nil
    rw [if_pos (by kernel_rfl)]
    refine wp_store_row 28 (.tmp 6) (.tmp 33) rfl (w.heap.size + 1 + 1) #[.slice y.a.A y.a.n y.a.c, .slice y.b.A y.b.n y.b.c, .slice y.c.A y.c.n y.c.c, .slice y.d.A y.d.n y.d.c] rfl rfl 28 _ B6.r (by kernel_rfl) rfl (by simp [Value.oneCell']) ?_
    refine hK.out _ _ ?_ (fun hHeld => ?_)
    · exact keep46c ((grown_setRow1 _ _ _).row (by omega) x0) ((grown_setRow1 _ _ _).row (by omega) h5)
    clear hK K
    try simp only [Act.put, List.setIfInBounds_toArray, List.set_cons_zero, List.set_cons_succ]
    refine wpAnyH_take (i := 4) (v := ?_) (by simp only [List.getElem?_toArray, List.getElem?_cons_succ, List.getElem?_cons_zero]; rfl) (by kernel_rfl) (by kernel_rfl) (by kernel_rfl) (by exact fun _ _ _ h => h) (Or.inl ⟨by kernel_rfl, ?_⟩) (by assumption) ?_
    rotate_left
    · intro w hSw
      (try dsimp only at hSw)
      go_simp
      try with_reducible rfl
    simp only [Act.put, List.setIfInBounds_toArray, List.set_cons_zero, List.set_cons_succ]
    refine wpAnyH_done (by kernel_rfl) ?_ _
    have h9 := setRow_heap w6 (w.heap.size + 1 + 1) _ #[.slice y.a.A y.a.n y.a.c, .slice y.b.A y.b.n y.b.c, .slice y.c.A y.c.n y.c.c, .slice y.d.A y.d.n y.d.c] _ _ B6.r
    have g9 := grown_setRow1 w6 (w.heap.size + 1 + 1) #[.slice y.a.A y.a.n y.a.c, .slice y.b.A y.b.n y.b.c, .slice y.c.A y.c.n y.c.c, .slice y.d.A y.d.n y.d.c]
    have H9 := Lib.hid h9
    have G9 := Lib.hid g9
    clear h9 g9
    go_wp2_with fail
    refine bodyPost_row_tmp rfl (w.heap.size + 1 + 1) 28 #[.slice y.a.A y.a.n y.a.c, .slice y.b.A y.b.n y.b.c, .slice y.c.A y.c.n y.c.c, .slice y.d.A y.d.n y.d.c] (0, 0) _ (.slice A5 R.1.length c5) rfl H9.out Try.underlying28 rfl (by kernel_rfl) rfl rfl ?_
    have o5 := H5.out.own.kept G9.out (Or.inr (fun e => by have := (H5.out.own.lt _ e).1; omega))
    exact ⟨y, A5, R.1.length, c5, rfl, (HYM.out.to C6).grown G9.out (new_ne n1 l2) (new_ne n2 l2) (new_ne n3 l2) (new_ne n4 l2), Sl.of_own o5, H5.out.cap, B6.bel.grown G9.out B6.bel.size (fun j e => by injection e with e; omega)⟩
end Go.Proofs.Ytiibopdnlmnkmaa.MoW
/- The contracts of model, walked: MoWA to MoWL. -/
