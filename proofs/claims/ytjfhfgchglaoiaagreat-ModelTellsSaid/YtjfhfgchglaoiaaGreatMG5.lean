/- Merged: MoG MoH MoI. -/
import Derived.Test.YtjfhfgchglaoiaaGreatMG4
import Derived.Deep.RegionLaw
/- The walk of saucierref07.Do: what is written alone. -/
set_option linter.unusedVariables false
set_option linter.unusedSimpArgs false
namespace Go.Proofs.YtjfhfgchglaoiaaGreat.MoW
open Go.RowKit Go.Proofs.YtjfhfgchglaoiaaGreat Go.Proofs.YtjfhfgchglaoiaaGreat.Mo Go.Proofs.YtjfhfgchglaoiaaGreat.Ask Go.Proofs.YtjfhfgchglaoiaaGreat.AskW
set_option maxRecDepth 10000 in
set_option maxHeartbeats 4000000 in
theorem refDoE_any (v u : Sp) (s : Space) (M : Mem) (f a m t : Nat) (Aw : Option Addr) (nw cw : Nat) (Ab : Option Addr) (nb cb : Nat) (W : List Nat) (B : List Bool) (w : World) (hS : SpOk w v s) (hM : MmOk w u M) (ho : s.Ok) (hv : v.Small) (hu : u.Small)
    (hW : Sl w w.heap.size Aw nw (ws W)) (hB : Sl w w.heap.size Ab nb (bl B)) (hwf : Req.Wf ⟨f, a, m, t, W, B⟩) (kW : nw ≤ 100000) (kB : nb ≤ 100000) (hc0 : checkM s ⟨f, a, m, t, W, B⟩ = 0) (hq0 : rightM s M = true) (hcl : f = 5 ∨ f = 6 ∨ f = 15 ∨ f = 16) :
    Calls Tryz.prog 15 #[.agg #[.slice v.a.A v.a.n v.a.c, .slice v.b.A v.b.n v.b.c, .slice v.c.A v.c.n v.c.c, .slice v.d.A v.d.n v.d.c], .agg #[.slice u.a.A u.a.n u.a.c, .slice u.b.A u.b.n u.b.c, .slice u.c.A u.c.n u.c.c, .slice u.d.A u.d.n u.d.c], .agg #[.int .u8 f, .int .u16 a, .int .u16 m, .int .u16 t, .slice Aw nw cw, .slice Ab nb cb]] w (RetDo w (doM s M ⟨f, a, m, t, W, B⟩)) := by
  have qW : W.length = nw := by simpa using hW.len
  have qB : B.length = nb := by simpa using hB.len
  have hf := hwf.f
  have ha := hwf.at'
  have hm := hwf.many
  have ht := hwf.to
  simp only at hf ha hm ht
  obtain ⟨W5, hW5⟩ : ∃ W5, W5 = ((((w.alloc (.cells #[.slice v.a.A v.a.n v.a.c, .slice v.b.A v.b.n v.b.c, .slice v.c.A v.c.n v.c.c, .slice v.d.A v.d.n v.d.c] 24)).alloc (.cells #[.slice u.a.A u.a.n u.a.c, .slice u.b.A u.b.n u.b.c, .slice u.c.A u.c.n u.c.c, .slice u.d.A u.d.n u.d.c] 28)).alloc (.cells #[.int .u8 f, .int .u16 a, .int .u16 m, .int .u16 t, .slice Aw nw cw, .slice Ab nb cb] 31)).alloc (.cells #[.slice none 0 0, .slice none 0 0, .slice none 0 0, .slice none 0 0] 28)).alloc (.cells #[.int .u8 0, .int .u8 0, .slice none 0 0, .slice none 0 0, .int .u16 0, .int .u16 0] 40) := ⟨_, rfl⟩
  have sz5 : W5.heap.size = w.heap.size + 5 := by rw [hW5]; simp
  have B5 : Below w.heap.size w W5 := by rw [hW5]; exact (((((Below.refl _ w).new _).new _).new _).new _).new _
  have HW5 := Lib.hid hW5
  have DI := Lib.hid (show ∀ w1, Below W5.heap.size W5 w1 → Ds w (w1.alloc (.cells #[.slice none 0 0, .slice none 0 0, .slice none 0 0, .slice none 0 0] 28)) w1.heap.size #[.slice v.a.A v.a.n v.a.c, .slice v.b.A v.b.n v.b.c, .slice v.c.A v.c.n v.c.c, .slice v.d.A v.d.n v.d.c] #[.slice u.a.A u.a.n u.a.c, .slice u.b.A u.b.n u.b.c, .slice u.c.A u.c.n u.c.c, .slice u.d.A u.d.n u.d.c] #[.int .u8 f, .int .u16 a, .int .u16 m, .int .u16 t, .slice Aw nw cw, .slice Ab nb cb] #[.slice none 0 0, .slice none 0 0, .slice none 0 0, .slice none 0 0] from by
    intro w1 b
    have bs := b.size
    have e4 : (((w.alloc (.cells #[.slice v.a.A v.a.n v.a.c, .slice v.b.A v.b.n v.b.c, .slice v.c.A v.c.n v.c.c, .slice v.d.A v.d.n v.d.c] 24)).alloc (.cells #[.slice u.a.A u.a.n u.a.c, .slice u.b.A u.b.n u.b.c, .slice u.c.A u.c.n u.c.c, .slice u.d.A u.d.n u.d.c] 28)).alloc (.cells #[.int .u8 f, .int .u16 a, .int .u16 m, .int .u16 t, .slice Aw nw cw, .slice Ab nb cb] 31)).heap.size = w.heap.size + 1 + 1 + 1 := by simp
    have e3 : ((w.alloc (.cells #[.slice v.a.A v.a.n v.a.c, .slice v.b.A v.b.n v.b.c, .slice v.c.A v.c.n v.c.c, .slice v.d.A v.d.n v.d.c] 24)).alloc (.cells #[.slice u.a.A u.a.n u.a.c, .slice u.b.A u.b.n u.b.c, .slice u.c.A u.c.n u.c.c, .slice u.d.A u.d.n u.d.c] 28)).heap.size = w.heap.size + 1 + 1 := by simp
    have e5 : ((((w.alloc (.cells #[.slice v.a.A v.a.n v.a.c, .slice v.b.A v.b.n v.b.c, .slice v.c.A v.c.n v.c.c, .slice v.d.A v.d.n v.d.c] 24)).alloc (.cells #[.slice u.a.A u.a.n u.a.c, .slice u.b.A u.b.n u.b.c, .slice u.c.A u.c.n u.c.c, .slice u.d.A u.d.n u.d.c] 28)).alloc (.cells #[.int .u8 f, .int .u16 a, .int .u16 m, .int .u16 t, .slice Aw nw cw, .slice Ab nb cb] 31)).alloc (.cells #[.slice none 0 0, .slice none 0 0, .slice none 0 0, .slice none 0 0] 28)).heap.size = w.heap.size + 1 + 1 + 1 + 1 := by simp
    have k1 : W5.heap[w.heap.size]? = some (.cells #[.slice v.a.A v.a.n v.a.c, .slice v.b.A v.b.n v.b.c, .slice v.c.A v.c.n v.c.c, .slice v.d.A v.d.n v.d.c] 24 (0, 0)) := by rw [hW5]; exact row_alloc (row_alloc (row_alloc (row_alloc (heap_alloc_new w _) _) _) _) _
    have k2 : W5.heap[w.heap.size + 1]? = some (.cells #[.slice u.a.A u.a.n u.a.c, .slice u.b.A u.b.n u.b.c, .slice u.c.A u.c.n u.c.c, .slice u.d.A u.d.n u.d.c] 28 (0, 0)) := by rw [hW5]; exact row_alloc (row_alloc (row_alloc (heap_alloc2_new w _ _) _) _) _
    have k3 : W5.heap[w.heap.size + 1 + 1]? = some (.cells #[.int .u8 f, .int .u16 a, .int .u16 m, .int .u16 t, .slice Aw nw cw, .slice Ab nb cb] 31 (0, 0)) := by rw [hW5]; refine row_alloc (row_alloc ?_ _) _; rw [← e3]; exact heap_alloc_new _ _
    have k4 : W5.heap[w.heap.size + 1 + 1 + 1]? = some (.cells #[.slice none 0 0, .slice none 0 0, .slice none 0 0, .slice none 0 0] 28 (0, 0)) := by rw [hW5]; refine row_alloc ?_ _; rw [← e4]; exact heap_alloc_new _ _
    have k5 : W5.heap[w.heap.size + 1 + 1 + 1 + 1]? = some (.cells #[.int .u8 0, .int .u8 0, .slice none 0 0, .slice none 0 0, .int .u16 0, .int .u16 0] 40 (0, 0)) := by rw [hW5, ← e5]; exact heap_alloc_new _ _
    exact ⟨row_alloc (b.row (by omega) k1) _, row_alloc (b.row (by omega) k2) _, row_alloc (b.row (by omega) k3) _, row_alloc (b.row (by omega) k4) _, row_alloc (b.row (by omega) k5) _, heap_alloc_new w1 _, (B5.call b).new _, by omega⟩)
  have KC := Lib.hid (refCopy_any u M W5 (hM.to B5) hu)
  have KK0 := fun X (b : Below w.heap.size w X) => refCheck_any v s f a m t Aw nw cw Ab nb cb W B X (hS.to b) ho hv qW qB hwf kW kB
  have KR0 := fun X (b : Below w.heap.size w X) => refRight7_any v u s M X (hS.to b) (hM.to b) ho hv hu
  obtain ⟨C, hC⟩ : ∃ C, C = checkM s ⟨f, a, m, t, W, B⟩ := ⟨_, rfl⟩
  obtain ⟨Q, hQ⟩ : ∃ Q, Q = rightM s M := ⟨_, rfl⟩
  rw [← hC] at KK0
  rw [← hQ] at KR0
  have KK := Lib.hid KK0
  have KR := Lib.hid KR0
  have hC9 : C ≤ 3 := by rw [hC]; unfold checkM; repeat' split
                         all_goals omega
  have hFM : faultM s M ⟨f, a, m, t, W, B⟩ = if C = 0 then (if Q then 0 else 4) else C := by unfold faultM; rw [← hC, ← hQ]
  have hDM : doM s M ⟨f, a, m, t, W, B⟩ = if faultM s M ⟨f, a, m, t, W, B⟩ = 0 then (wrote M ⟨f, a, m, t, W, B⟩, answer (wrote M ⟨f, a, m, t, W, B⟩) ⟨f, a, m, t, W, B⟩) else (M, exc f (faultM s M ⟨f, a, m, t, W, B⟩)) := rfl
  rw [hFM] at hDM 
  obtain ⟨RR, hRR⟩ : ∃ RR, RR = doM s M ⟨f, a, m, t, W, B⟩ := ⟨_, rfl⟩
  rw [← hRR] at hDM ⊢
  have HC := Lib.hid hC
  have HQ := Lib.hid hQ
  have hFM' : faultM s M ⟨f, a, m, t, W, B⟩ = if checkM s ⟨f, a, m, t, W, B⟩ = 0 then (if rightM s M then 0 else 4) else checkM s ⟨f, a, m, t, W, B⟩ := rfl
  clear hRR hFM KK0 KR0 hC hQ
  have HS := Lib.hid hS
  have hsp := span_ok hc0 hq0
  have hC0 : C = 0 := by rw [HC.out, hc0]
  have hQ0 : Q = true := by rw [HQ.out, hq0]
  subst hC0 hQ0
  have HD := Lib.hid (show RR = (wrote M ⟨f, a, m, t, W, B⟩, answer (wrote M ⟨f, a, m, t, W, B⟩) ⟨f, a, m, t, W, B⟩) from by rw [hDM]; rfl)
  clear hDM hFM' HC HQ hM hS hu hv ho
  have QW := Lib.hid qW
  have QB := Lib.hid qB
  have HB := Lib.hid hB
  have HW := Lib.hid hW
  have HWF := Lib.hid hwf
  clear qW qB hB hW hwf
  have hpl : place ⟨f, a, m, t, W, B⟩ = a := by unfold place; rw [if_neg (by show ¬ f = 23; omega)]
  rw [hpl] at hsp
  have HPL := Lib.hid hpl
  have HSP := Lib.hid hsp
  have T23 : ((f : Int) == 23) = false := by rw [beq_eq_false_iff_ne]; omega
  have HINB := Lib.hid (show 0 < nb → a + nb ≤ M.coils.length from fun h => by
    rcases hsp.1 with h1 | h1
    · have h1 : B = [] := h1
      have := QB.out; rw [h1] at this; simp at this; omega
    · rw [← QB.out]; exact h1)
  have HINW := Lib.hid (show 0 < nw → a + nw ≤ M.holding.length from fun h => by
    rcases hsp.2.1 with h1 | h1
    · have h1 : W = [] := h1
      have := QW.out; rw [h1] at this; simp at this; omega
    · rw [← QW.out]; exact h1)
  have HWR := Lib.hid (show wrote M ⟨f, a, m, t, W, B⟩ = ⟨over M.coils a B, M.inputs, over M.holding a W, M.words⟩ from by unfold wrote; rw [HPL.out])
  have hE2 : (echoF ⟨f, a, m, t, W, B⟩).2 = true := by rw [echo_is (check_ok hc0).1, decide_eq_true_iff]; exact hcl
  have KE0 := fun X (b : Below w.heap.size w X) => ref3Echo_any f a m t Aw nw cw Ab nb cb W B X (HW.out.to b) (HB.out.to b) HWF.out
  have hAN : ∀ N, answer N ⟨f, a, m, t, W, B⟩ = (echoF ⟨f, a, m, t, W, B⟩).1 := fun N => by unfold answer; rw [if_pos hE2]
  obtain ⟨⟨⟨ef, ex, eB, eW, ea, em⟩, eF⟩, hEE⟩ : ∃ E, E = echoF ⟨f, a, m, t, W, B⟩ := ⟨_, rfl⟩
  rw [← hEE] at KE0 hE2 hAN
  dsimp only at hE2 hAN
  subst hE2
  have KE := Lib.hid KE0
  have HAN := Lib.hid (hAN (wrote M ⟨f, a, m, t, W, B⟩))
  clear hsp hpl hcl hEE hAN KE0
  go_enter Tryz.func15, Tryz.ntmps15
  go_wp2_with fail
  rw [← HW5.out]
  refine (KC.out).mono ?_
  rintro e w1 ⟨va, vb, vc, vd, rfl, I0⟩
  have D0 := DI.out w1 I0.a.bel
  obtain ⟨A1, n1, c1, A2, n2, c2, A3, n3, c3, A4, n4, c4, rfl, rfl, rfl, rfl, hn1, hn2, hn3, hn4⟩ := I0.ok
  have HN1 := Lib.hid hn1
  have HN2 := Lib.hid hn2
  have HN3 := Lib.hid hn3
  have HN4 := Lib.hid hn4
  have HI0 := Lib.hid I0
  clear I0 hn1 hn2 hn3 hn4
  go_wp2_with (first
    | (refine wpList_store_grown rfl 28 (.tmp 8) _ rfl w1.heap.size #[.slice A1 n1 c1, .slice A2 n2 c2, .slice A3 n3 c3, .slice A4 n4 c4] rfl rfl 28 _ (heap_alloc_new w1 _) (by kernel_rfl) rfl (by simp [Value.oneCell']) ?_; intro W6 h6 g6 s6; have I6 := Lib.hid ((HI0.out.to ((Below.refl _ _).new _)).grown g6 HI0.out.fresh HI0.out.a.bel.size); have HOff := Lib.hid HI0.out.fresh; have D6 := D0.put g6 h6; clear h6 g6 s6 D0; obtain ⟨s0, s1, s2, s3⟩ := row4 D6.s; obtain ⟨m0, m1, m2, m3⟩ := row4 D6.m; obtain ⟨r0, r1, r2, r3, r4, r5⟩ := row6 D6.r)
    | fail)
  refine (KK.out W6 D6.bel).mono ?_
  rintro e w2 ⟨rfl, b2⟩
  have D2 := D6.call b2
  have I2 := Lib.hid (I6.out.to b2)
  clear b2 D6 I6
  clear s0 s1 s2 s3 m0 m1 m2 m3 r0 r1 r2 r3 r4 r5
  obtain ⟨s0, s1, s2, s3⟩ := row4 D2.s
  obtain ⟨m0, m1, m2, m3⟩ := row4 D2.m
  obtain ⟨r0, r1, r2, r3, r4, r5⟩ := row6 D2.r
  obtain ⟨o0, o1, o2, o3⟩ := row4 D2.o
  obtain ⟨p0, p1, p2, p3⟩ := row4 D2.p
  obtain ⟨pf0, pf1, pf2, pf3⟩ := free4 D2.p
  obtain ⟨q0, q1, q2, q3, q4, q5⟩ := row6 D2.q
  obtain ⟨qf0, qf1, qf2, qf3, qf4, qf5⟩ := free6 D2.q
  have hrm : Int.tmod (f : Int) 128 = ((f % 128 : Nat) : Int) := by rw [Int.tmod_eq_emod_of_nonneg (by omega)]; omega
  have hrw : IntKind.u8.wrap ((f % 128 : Nat) : Int) = ((f % 128 : Nat) : Int) := by rw [IntKind.wrap_u8]; omega
  go_wp2_with fail
  refine (KR.out w2 D2.bel).mono ?_
  rintro e w3 ⟨rfl, b3⟩
  have D3 := D2.call b3
  have I3 := Lib.hid (I2.out.to b3)
  clear b3 D2 I2
  clear s0 s1 s2 s3 m0 m1 m2 m3 r0 r1 r2 r3 r4 r5
  clear o0 o1 o2 o3 p0 p1 p2 p3 pf0 pf1 pf2 pf3 q0 q1 q2 q3 q4 q5 qf0 qf1 qf2 qf3 qf4 qf5
  obtain ⟨s0, s1, s2, s3⟩ := row4 D3.s
  obtain ⟨m0, m1, m2, m3⟩ := row4 D3.m
  obtain ⟨r0, r1, r2, r3, r4, r5⟩ := row6 D3.r
  obtain ⟨o0, o1, o2, o3⟩ := row4 D3.o
  obtain ⟨p0, p1, p2, p3⟩ := row4 D3.p
  obtain ⟨pf0, pf1, pf2, pf3⟩ := free4 D3.p
  obtain ⟨q0, q1, q2, q3, q4, q5⟩ := row6 D3.q
  obtain ⟨qf0, qf1, qf2, qf3, qf4, qf5⟩ := free6 D3.q
  go_wp2_with fail
  go_loopw [11] (fun iv wr => ∃ i : Nat, i ≤ nb ∧ iv = .int .i64 i ∧ Ds w wr w1.heap.size #[.slice v.a.A v.a.n v.a.c, .slice v.b.A v.b.n v.b.c, .slice v.c.A v.c.n v.c.c, .slice v.d.A v.d.n v.d.c] #[.slice u.a.A u.a.n u.a.c, .slice u.b.A u.b.n u.b.c, .slice u.c.A u.c.n u.c.c, .slice u.d.A u.d.n u.d.c] #[.int .u8 f, .int .u16 a, .int .u16 m, .int .u16 t, .slice Aw nw cw, .slice Ab nb cb] #[.slice A1 n1 c1, .slice A2 n2 c2, .slice A3 n3 c3, .slice A4 n4 c4] ∧ MmIs W5 wr (.slice A1 n1 c1) (.slice A2 n2 c2) (.slice A3 n3 c3) (.slice A4 n4 c4) ⟨over M.coils a (B.take i), M.inputs, M.holding, M.words⟩) (fun iv _ => nb - (intOf iv).toNat)
  case atStart => exact ⟨0, by omega, rfl, D3, by rw [List.take_zero, over_nil]; exact I3.out⟩
  case round =>
    obtain ⟨i, hi, rfl, D, I⟩ := hrel
    have HI := Lib.hid I
    obtain ⟨o0, o1, o2, o3⟩ := row4 D.o
    obtain ⟨r0, r1, r2, r3, r4, r5⟩ := row6 D.r
    by_cases hlt : (i : Int) < (nb : Int)
    · have hin : a + nb ≤ M.coils.length := HINB.out (by omega)
      have HOL := Lib.hid (show (over M.coils a (B.take i)).length = M.coils.length from over_length (.inr (by have := QB.out; simp only [List.length_take]; omega)))
      obtain ⟨b, o, eB, hbl, d1⟩ := (HB.out.to D.bel).2 (by omega)
      subst eB
      have g1 := (d1 i (by omega)).trans (bl_get (by rw [QB.out]; omega))
      obtain ⟨gA, cur, eA, hgr, gc, gf, hg5, hgl, hct, hcm⟩ := I.a.cellAt (i := a + i) (by show _ < (over M.coils a (B.take i)).length; rw [HOL.out]; omega)
      subst eA
      have gx := gc.trans (bl_get (l := over M.coils a (B.take i)) (j := a + i) (by rw [HOL.out]; omega))
      have HSN := Lib.hid (over_snoc (l := M.coils) (k := a) (j := i) (v := B) (x := B[i]?.getD false) (by rw [QB.out]; omega) (by rw [List.getElem?_eq_getElem (by rw [QB.out]; omega)]; rfl))
      have HPT := Lib.hid (fun x => I.putA (i := a + i) (by show _ < (over M.coils a (B.take i)).length; rw [HOL.out]; omega) x)
      have HDG := Lib.hid (fun x => (D.grown (grown_setCell wr gA (a + i) x) (fun j e => by injection e with e; subst e; exact ⟨by omega, fun e => HOff.out.a (by rw [← e]; rfl)⟩)).drew)
      have hJn : a + i < n1 := by have := HN1.out; omega
      have wJ : IntKind.i64.wrap ((a : Int) + (i : Int)) = ((a + i : Nat) : Int) := by rw [IntKind.wrap_i64]; omega
      obtain ⟨J, eJ⟩ : ∃ J, J = a + i := ⟨_, rfl⟩
      rw [← eJ] at gx gf HSN HPT HDG hJn wJ
      obtain ⟨x, ex⟩ : ∃ x, x = B[i]?.getD false := ⟨_, rfl⟩
      rw [← ex] at g1 HSN
      obtain ⟨z, ez⟩ : ∃ z, z = (over M.coils a (B.take i))[J]?.getD false := ⟨_, rfl⟩
      rw [← ez] at gx
      have z0 : (0 : Int) ≤ (i : Int) := by omega
      have z1 : (0 : Int) ≤ (J : Int) := by omega
      have z2 : (J : Int) < (n1 : Int) := by omega
      clear d1 gc hgr hct hcm I eJ ex ez hin D
      go_wp2_with fail
      go_region
      all_goals (
        go_wp2_with fail
        go_roundw
        case rel =>
          refine ⟨i + 1, by omega, by go_num, HDG.out _, ?_⟩
          have h := HPT.out x
          rw [HSN.out] at h
          exact h.drew
        case measure => simp [intOf]; omega)
    · obtain rfl : nb = i := by omega
      rw [List.take_of_length_le (by rw [QB.out]; exact Nat.le_refl _)] at I
      have I4 := Lib.hid I
      clear I HI
      go_wp2_with fail
      go_loopw [12] (fun iv wr => ∃ i : Nat, i ≤ nw ∧ iv = .int .i64 i ∧ Ds w wr w1.heap.size #[.slice v.a.A v.a.n v.a.c, .slice v.b.A v.b.n v.b.c, .slice v.c.A v.c.n v.c.c, .slice v.d.A v.d.n v.d.c] #[.slice u.a.A u.a.n u.a.c, .slice u.b.A u.b.n u.b.c, .slice u.c.A u.c.n u.c.c, .slice u.d.A u.d.n u.d.c] #[.int .u8 f, .int .u16 a, .int .u16 m, .int .u16 t, .slice Aw nw cw, .slice Ab nb cb] #[.slice A1 n1 c1, .slice A2 n2 c2, .slice A3 n3 c3, .slice A4 n4 c4] ∧ MmIs W5 wr (.slice A1 n1 c1) (.slice A2 n2 c2) (.slice A3 n3 c3) (.slice A4 n4 c4) ⟨over M.coils a B, M.inputs, over M.holding a (W.take i), M.words⟩) (fun iv _ => nw - (intOf iv).toNat)
      case atStart => exact ⟨0, by omega, rfl, D, by rw [List.take_zero, over_nil]; exact I4.out⟩
      case round =>
        obtain ⟨i, hi, rfl, D, I⟩ := hrel
        have HI := Lib.hid I
        obtain ⟨o0, o1, o2, o3⟩ := row4 D.o
        obtain ⟨r0, r1, r2, r3, r4, r5⟩ := row6 D.r
        by_cases hlt : (i : Int) < (nw : Int)
        · have hin : a + nw ≤ M.holding.length := HINW.out (by omega)
          have HOL := Lib.hid (show (over M.holding a (W.take i)).length = M.holding.length from over_length (.inr (by have := QW.out; simp only [List.length_take]; omega)))
          obtain ⟨b, o, eB, hbl, d1⟩ := (HW.out.to D.bel).2 (by omega)
          subst eB
          have g1 := (d1 i (by omega)).trans (ws_get (by rw [QW.out]; omega))
          obtain ⟨gA, cur, eA, hgr, gc, gf, hg5, hgl, hct, hcm⟩ := I.c.cellAt (i := a + i) (by show _ < (over M.holding a (W.take i)).length; rw [HOL.out]; omega)
          subst eA
          have gx := gc.trans (ws_get (l := over M.holding a (W.take i)) (j := a + i) (by rw [HOL.out]; omega))
          have HSN := Lib.hid (over_snoc (l := M.holding) (k := a) (j := i) (v := W) (x := W[i]?.getD 0) (by rw [QW.out]; omega) (by rw [List.getElem?_eq_getElem (by rw [QW.out]; omega)]; rfl))
          have HPT := Lib.hid (fun x => I.putC (i := a + i) (by show _ < (over M.holding a (W.take i)).length; rw [HOL.out]; omega) x)
          have HDG := Lib.hid (fun x => (D.grown (grown_setCell wr gA (a + i) x) (fun j e => by injection e with e; subst e; exact ⟨by omega, fun e => HOff.out.c (by rw [← e]; rfl)⟩)).drew)
          have hJn : a + i < n3 := by have := HN3.out; omega
          have wJ : IntKind.i64.wrap ((a : Int) + (i : Int)) = ((a + i : Nat) : Int) := by rw [IntKind.wrap_i64]; omega
          obtain ⟨J, eJ⟩ : ∃ J, J = a + i := ⟨_, rfl⟩
          rw [← eJ] at gx gf HSN HPT HDG hJn wJ
          obtain ⟨x, ex⟩ : ∃ x, x = W[i]?.getD 0 := ⟨_, rfl⟩
          rw [← ex] at g1 HSN
          obtain ⟨z, ez⟩ : ∃ z, z = (over M.holding a (W.take i))[J]?.getD 0 := ⟨_, rfl⟩
          rw [← ez] at gx
          have z0 : (0 : Int) ≤ (i : Int) := by omega
          have z1 : (0 : Int) ≤ (J : Int) := by omega
          have z2 : (J : Int) < (n3 : Int) := by omega
          clear d1 gc hgr hct hcm I eJ ex ez hin D
          go_wp2_with fail
          go_region
          all_goals (
            go_wp2_with fail
            go_roundw
            case rel =>
              refine ⟨i + 1, by omega, by go_num, HDG.out _, ?_⟩
              have h := HPT.out x
              rw [HSN.out] at h
              exact h.drew
            case measure => simp [intOf]; omega)
        · obtain rfl : nw = i := by omega
          rw [List.take_of_length_le (by rw [QW.out]; exact Nat.le_refl _)] at I
          have I5 := Lib.hid I
          clear I HI
          go_wp2_with fail
          refine (KE.out wr D.bel).mono ?_
          rintro e w7 h7
          obtain ⟨Ab7, nb7, cb7, Aw7, nw7, cw7, rfl, SB7, SW7, kb7, kw7, fb7, fw7, b7⟩ := h7.out
          have D7 := D.call b7
          have I7 := Lib.hid (I5.out.to b7)
          have hbs := D.bel.size
          have hb5 : W5.heap.size ≤ wr.heap.size := I5.out.a.bel.size
          have fb := Lib.hid fb7
          have fw := Lib.hid fw7
          have SB := Lib.hid SB7
          have SW := Lib.hid SW7
          have hq7 := row_lt D7.q
          have n71 : w7.heap.size ≠ w.heap.size + 1 + 1 + 1 := by omega
          have n72 : w.heap.size + 1 + 1 + 1 ≠ w7.heap.size := by omega
          have n73 : w7.heap.size ≠ w.heap.size + 1 + 1 + 1 + 1 := by omega
          have n74 : w.heap.size + 1 + 1 + 1 + 1 ≠ w7.heap.size := by omega
          clear h7 b7 I5 D fb7 fw7 SB7 SW7 o0 o1 o2 o3 r0 r1 r2 r3 r4 r5
          go_wp2_with (first
            | (refine wpList_store_grown rfl 40 (.tmp 13) _ rfl w7.heap.size #[.int .u8 (ef : Nat), .int .u8 (ex : Nat), .slice Ab7 nb7 cb7, .slice Aw7 nw7 cw7, .int .u16 (ea : Nat), .int .u16 (em : Nat)] rfl rfl 40 _ (heap_alloc_new w7 _) (by kernel_rfl) rfl (by simp [Value.oneCell']) ?_; intro W8 h8 g8 s8; have D8 := D7.made g8; have I8 := Lib.hid (I7.out.made g8); have SB8 := Lib.hid (SB.out.grownNew g8); have SW8 := Lib.hid (SW.out.grownNew g8); obtain ⟨x0, x1, x2, x3, x4, x5⟩ := row6 h8; clear g8 s8 D7; obtain ⟨o0, o1, o2, o3⟩ := row4 D8.o; obtain ⟨r0, r1, r2, r3, r4, r5⟩ := row6 D8.r; obtain ⟨p0, p1, p2, p3⟩ := row4 D8.p; obtain ⟨pf0, pf1, pf2, pf3⟩ := free4 D8.p; obtain ⟨q0, q1, q2, q3, q4, q5⟩ := row6 D8.q; obtain ⟨qf0, qf1, qf2, qf3, qf4, qf5⟩ := free6 D8.q)
            | fail)
          go_region
          all_goals (
            go_wp2_with fail
            have F := D8.fin sz5 (.slice A1 n1 c1) (.slice A2 n2 c2) (.slice A3 n3 c3) (.slice A4 n4 c4) (.int .u8 (ef : Nat)) (.int .u8 (ex : Nat)) (.slice Ab7 nb7 cb7) (.slice Aw7 nw7 cw7) (.int .u16 (ea : Nat)) (.int .u16 (em : Nat))
            refine bodyPost_rows rfl _ _ 28 40 #[.slice A1 n1 c1, .slice A2 n2 c2, .slice A3 n3 c3, .slice A4 n4 c4] #[.int .u8 (ef : Nat), .int .u8 (ex : Nat), .slice Ab7 nb7 cb7, .slice Aw7 nw7 cw7, .int .u16 (ea : Nat), .int .u16 (em : Nat)] (0, 0) (0, 0) _ _ rfl F.p Tryz.underlying28 rfl (by kernel_rfl) rfl F.q Tryz.underlying40 rfl (by kernel_rfl) rfl ?_
            rw [HD.out, HAN.out, HWR.out]
            exact ⟨⟨⟨A1, n1, c1⟩, ⟨A2, n2, c2⟩, ⟨A3, n3, c3⟩, ⟨A4, n4, c4⟩⟩, Ab7, nb7, cb7, Aw7, nw7, cw7, rfl, ⟨Sl.of_own (F.own I8.out.a.own'), Sl.of_own (F.own I8.out.b.own'), Sl.of_own (F.own I8.out.c.own'), Sl.of_own (F.own I8.out.d.own')⟩, F.sl SB8.out (fun b o e => Nat.le_trans hb5 (fb.out b o e)), F.sl SW8.out (fun b o e => Nat.le_trans hb5 (fw.out b o e)), kb7, kw7, F.bel, (New.of I8.out.a).mono (by omega), (New.of I8.out.b).mono (by omega), (New.of I8.out.c).mono (by omega), (New.of I8.out.d).mono (by omega), fun b o e => Nat.le_trans hbs (fb.out b o e), fun b o e => Nat.le_trans hbs (fw.out b o e)⟩)
end Go.Proofs.YtjfhfgchglaoiaaGreat.MoW
/- The walk of saucierref07.Do: function 1. -/
set_option linter.unusedVariables false
set_option linter.unusedSimpArgs false
namespace Go.Proofs.YtjfhfgchglaoiaaGreat.MoW
open Go.RowKit Go.Proofs.YtjfhfgchglaoiaaGreat Go.Proofs.YtjfhfgchglaoiaaGreat.Mo Go.Proofs.YtjfhfgchglaoiaaGreat.Ask Go.Proofs.YtjfhfgchglaoiaaGreat.AskW
set_option maxRecDepth 10000 in
set_option maxHeartbeats 4000000 in
theorem refDo1_any (v u : Sp) (s : Space) (M : Mem) (f a m t : Nat) (Aw : Option Addr) (nw cw : Nat) (Ab : Option Addr) (nb cb : Nat) (W : List Nat) (B : List Bool) (w : World) (hS : SpOk w v s) (hM : MmOk w u M) (ho : s.Ok) (hv : v.Small) (hu : u.Small)
    (hW : Sl w w.heap.size Aw nw (ws W)) (hB : Sl w w.heap.size Ab nb (bl B)) (hwf : Req.Wf ⟨f, a, m, t, W, B⟩) (kW : nw ≤ 100000) (kB : nb ≤ 100000) (hc0 : checkM s ⟨f, a, m, t, W, B⟩ = 0) (hq0 : rightM s M = true) (hcl : f = 1) :
    Calls Tryz.prog 15 #[.agg #[.slice v.a.A v.a.n v.a.c, .slice v.b.A v.b.n v.b.c, .slice v.c.A v.c.n v.c.c, .slice v.d.A v.d.n v.d.c], .agg #[.slice u.a.A u.a.n u.a.c, .slice u.b.A u.b.n u.b.c, .slice u.c.A u.c.n u.c.c, .slice u.d.A u.d.n u.d.c], .agg #[.int .u8 f, .int .u16 a, .int .u16 m, .int .u16 t, .slice Aw nw cw, .slice Ab nb cb]] w (RetDo w (doM s M ⟨f, a, m, t, W, B⟩)) := by
  have qW : W.length = nw := by simpa using hW.len
  have qB : B.length = nb := by simpa using hB.len
  have hf := hwf.f
  have ha := hwf.at'
  have hm := hwf.many
  have ht := hwf.to
  simp only at hf ha hm ht
  obtain ⟨W5, hW5⟩ : ∃ W5, W5 = ((((w.alloc (.cells #[.slice v.a.A v.a.n v.a.c, .slice v.b.A v.b.n v.b.c, .slice v.c.A v.c.n v.c.c, .slice v.d.A v.d.n v.d.c] 24)).alloc (.cells #[.slice u.a.A u.a.n u.a.c, .slice u.b.A u.b.n u.b.c, .slice u.c.A u.c.n u.c.c, .slice u.d.A u.d.n u.d.c] 28)).alloc (.cells #[.int .u8 f, .int .u16 a, .int .u16 m, .int .u16 t, .slice Aw nw cw, .slice Ab nb cb] 31)).alloc (.cells #[.slice none 0 0, .slice none 0 0, .slice none 0 0, .slice none 0 0] 28)).alloc (.cells #[.int .u8 0, .int .u8 0, .slice none 0 0, .slice none 0 0, .int .u16 0, .int .u16 0] 40) := ⟨_, rfl⟩
  have sz5 : W5.heap.size = w.heap.size + 5 := by rw [hW5]; simp
  have B5 : Below w.heap.size w W5 := by rw [hW5]; exact (((((Below.refl _ w).new _).new _).new _).new _).new _
  have HW5 := Lib.hid hW5
  have DI := Lib.hid (show ∀ w1, Below W5.heap.size W5 w1 → Ds w (w1.alloc (.cells #[.slice none 0 0, .slice none 0 0, .slice none 0 0, .slice none 0 0] 28)) w1.heap.size #[.slice v.a.A v.a.n v.a.c, .slice v.b.A v.b.n v.b.c, .slice v.c.A v.c.n v.c.c, .slice v.d.A v.d.n v.d.c] #[.slice u.a.A u.a.n u.a.c, .slice u.b.A u.b.n u.b.c, .slice u.c.A u.c.n u.c.c, .slice u.d.A u.d.n u.d.c] #[.int .u8 f, .int .u16 a, .int .u16 m, .int .u16 t, .slice Aw nw cw, .slice Ab nb cb] #[.slice none 0 0, .slice none 0 0, .slice none 0 0, .slice none 0 0] from by
    intro w1 b
    have bs := b.size
    have e4 : (((w.alloc (.cells #[.slice v.a.A v.a.n v.a.c, .slice v.b.A v.b.n v.b.c, .slice v.c.A v.c.n v.c.c, .slice v.d.A v.d.n v.d.c] 24)).alloc (.cells #[.slice u.a.A u.a.n u.a.c, .slice u.b.A u.b.n u.b.c, .slice u.c.A u.c.n u.c.c, .slice u.d.A u.d.n u.d.c] 28)).alloc (.cells #[.int .u8 f, .int .u16 a, .int .u16 m, .int .u16 t, .slice Aw nw cw, .slice Ab nb cb] 31)).heap.size = w.heap.size + 1 + 1 + 1 := by simp
    have e3 : ((w.alloc (.cells #[.slice v.a.A v.a.n v.a.c, .slice v.b.A v.b.n v.b.c, .slice v.c.A v.c.n v.c.c, .slice v.d.A v.d.n v.d.c] 24)).alloc (.cells #[.slice u.a.A u.a.n u.a.c, .slice u.b.A u.b.n u.b.c, .slice u.c.A u.c.n u.c.c, .slice u.d.A u.d.n u.d.c] 28)).heap.size = w.heap.size + 1 + 1 := by simp
    have e5 : ((((w.alloc (.cells #[.slice v.a.A v.a.n v.a.c, .slice v.b.A v.b.n v.b.c, .slice v.c.A v.c.n v.c.c, .slice v.d.A v.d.n v.d.c] 24)).alloc (.cells #[.slice u.a.A u.a.n u.a.c, .slice u.b.A u.b.n u.b.c, .slice u.c.A u.c.n u.c.c, .slice u.d.A u.d.n u.d.c] 28)).alloc (.cells #[.int .u8 f, .int .u16 a, .int .u16 m, .int .u16 t, .slice Aw nw cw, .slice Ab nb cb] 31)).alloc (.cells #[.slice none 0 0, .slice none 0 0, .slice none 0 0, .slice none 0 0] 28)).heap.size = w.heap.size + 1 + 1 + 1 + 1 := by simp
    have k1 : W5.heap[w.heap.size]? = some (.cells #[.slice v.a.A v.a.n v.a.c, .slice v.b.A v.b.n v.b.c, .slice v.c.A v.c.n v.c.c, .slice v.d.A v.d.n v.d.c] 24 (0, 0)) := by rw [hW5]; exact row_alloc (row_alloc (row_alloc (row_alloc (heap_alloc_new w _) _) _) _) _
    have k2 : W5.heap[w.heap.size + 1]? = some (.cells #[.slice u.a.A u.a.n u.a.c, .slice u.b.A u.b.n u.b.c, .slice u.c.A u.c.n u.c.c, .slice u.d.A u.d.n u.d.c] 28 (0, 0)) := by rw [hW5]; exact row_alloc (row_alloc (row_alloc (heap_alloc2_new w _ _) _) _) _
    have k3 : W5.heap[w.heap.size + 1 + 1]? = some (.cells #[.int .u8 f, .int .u16 a, .int .u16 m, .int .u16 t, .slice Aw nw cw, .slice Ab nb cb] 31 (0, 0)) := by rw [hW5]; refine row_alloc (row_alloc ?_ _) _; rw [← e3]; exact heap_alloc_new _ _
    have k4 : W5.heap[w.heap.size + 1 + 1 + 1]? = some (.cells #[.slice none 0 0, .slice none 0 0, .slice none 0 0, .slice none 0 0] 28 (0, 0)) := by rw [hW5]; refine row_alloc ?_ _; rw [← e4]; exact heap_alloc_new _ _
    have k5 : W5.heap[w.heap.size + 1 + 1 + 1 + 1]? = some (.cells #[.int .u8 0, .int .u8 0, .slice none 0 0, .slice none 0 0, .int .u16 0, .int .u16 0] 40 (0, 0)) := by rw [hW5, ← e5]; exact heap_alloc_new _ _
    exact ⟨row_alloc (b.row (by omega) k1) _, row_alloc (b.row (by omega) k2) _, row_alloc (b.row (by omega) k3) _, row_alloc (b.row (by omega) k4) _, row_alloc (b.row (by omega) k5) _, heap_alloc_new w1 _, (B5.call b).new _, by omega⟩)
  have KC := Lib.hid (refCopy_any u M W5 (hM.to B5) hu)
  have KK0 := fun X (b : Below w.heap.size w X) => refCheck_any v s f a m t Aw nw cw Ab nb cb W B X (hS.to b) ho hv qW qB hwf kW kB
  have KR0 := fun X (b : Below w.heap.size w X) => refRight7_any v u s M X (hS.to b) (hM.to b) ho hv hu
  obtain ⟨C, hC⟩ : ∃ C, C = checkM s ⟨f, a, m, t, W, B⟩ := ⟨_, rfl⟩
  obtain ⟨Q, hQ⟩ : ∃ Q, Q = rightM s M := ⟨_, rfl⟩
  rw [← hC] at KK0
  rw [← hQ] at KR0
  have KK := Lib.hid KK0
  have KR := Lib.hid KR0
  have hC9 : C ≤ 3 := by rw [hC]; unfold checkM; repeat' split
                         all_goals omega
  have hFM : faultM s M ⟨f, a, m, t, W, B⟩ = if C = 0 then (if Q then 0 else 4) else C := by unfold faultM; rw [← hC, ← hQ]
  have hDM : doM s M ⟨f, a, m, t, W, B⟩ = if faultM s M ⟨f, a, m, t, W, B⟩ = 0 then (wrote M ⟨f, a, m, t, W, B⟩, answer (wrote M ⟨f, a, m, t, W, B⟩) ⟨f, a, m, t, W, B⟩) else (M, exc f (faultM s M ⟨f, a, m, t, W, B⟩)) := rfl
  rw [hFM] at hDM 
  obtain ⟨RR, hRR⟩ : ∃ RR, RR = doM s M ⟨f, a, m, t, W, B⟩ := ⟨_, rfl⟩
  rw [← hRR] at hDM ⊢
  have HC := Lib.hid hC
  have HQ := Lib.hid hQ
  have hFM' : faultM s M ⟨f, a, m, t, W, B⟩ = if checkM s ⟨f, a, m, t, W, B⟩ = 0 then (if rightM s M then 0 else 4) else checkM s ⟨f, a, m, t, W, B⟩ := rfl
  clear hRR hFM KK0 KR0 hC hQ
  have HS := Lib.hid hS
  have hsp := span_ok hc0 hq0
  have hC0 : C = 0 := by rw [HC.out, hc0]
  have hQ0 : Q = true := by rw [HQ.out, hq0]
  subst hC0 hQ0
  have HD := Lib.hid (show RR = (wrote M ⟨f, a, m, t, W, B⟩, answer (wrote M ⟨f, a, m, t, W, B⟩) ⟨f, a, m, t, W, B⟩) from by rw [hDM]; rfl)
  clear hDM hFM' HC HQ hM hS hu hv ho
  have QW := Lib.hid qW
  have QB := Lib.hid qB
  have HB := Lib.hid hB
  have HW := Lib.hid hW
  have HWF := Lib.hid hwf
  clear qW qB hB hW hwf
  have hpl : place ⟨f, a, m, t, W, B⟩ = a := by unfold place; subst hcl; rfl
  rw [hpl] at hsp
  have HPL := Lib.hid hpl
  have T1 : ((f : Int) == 1) = true := by rw [hcl]; rfl
  have T2 : ((f : Int) == 2) = false := by rw [hcl]; rfl
  have T4 : ((f : Int) == 4) = false := by rw [hcl]; rfl
  have T23 : ((f : Int) == 23) = false := by rw [hcl]; rfl
  have HINB := Lib.hid (show 0 < nb → a + nb ≤ M.coils.length from fun h => by
    rcases hsp.1 with h1 | h1
    · have h1 : B = [] := h1
      have := QB.out; rw [h1] at this; simp at this; omega
    · rw [← QB.out]; exact h1)
  have HINW := Lib.hid (show 0 < nw → a + nw ≤ M.holding.length from fun h => by
    rcases hsp.2.1 with h1 | h1
    · have h1 : W = [] := h1
      have := QW.out; rw [h1] at this; simp at this; omega
    · rw [← QW.out]; exact h1)
  have hsr := (hsp.2.2.1 hcl).2.2
  have hm1 := hsr.1
  have hm2 := hsr.2.1
  obtain ⟨N, hN⟩ : ∃ N : Mem, N = ⟨over M.coils a B, M.inputs, over M.holding a W, M.words⟩ := ⟨_, rfl⟩
  have hlc : (over M.coils a B).length = M.coils.length := over_length hsp.1
  have hlh : (over M.holding a W).length = M.holding.length := over_length hsp.2.1
  have HLF := Lib.hid (show N.coils.length = M.coils.length from by (rw [hN]) <;> first | rfl | exact hlc | exact hlh)
  have HIN := Lib.hid (show a + m ≤ N.coils.length from by rw [HLF.out]; exact hsr.2.2)
  have HNM := Lib.hid hN
  have HWR := Lib.hid (show wrote M ⟨f, a, m, t, W, B⟩ = N from by unfold wrote; rw [HPL.out, hN])
  have hE2 : (echoF ⟨f, a, m, t, W, B⟩).2 = false := by rw [echo_is (check_ok hc0).1, decide_eq_false_iff_not]; show ¬ (f = 5 ∨ f = 6 ∨ f = 15 ∨ f = 16); omega
  have HAN := Lib.hid (show answer N ⟨f, a, m, t, W, B⟩ = ⟨f, 0, pad8 (slab N.coils a m), [], 0, 0⟩ from by unfold answer; rw [hE2]; subst hcl; rfl)
  have KE0 := fun X (b : Below w.heap.size w X) => ref3Echo_any f a m t Aw nw cw Ab nb cb W B X (HW.out.to b) (HB.out.to b) HWF.out
  obtain ⟨⟨⟨ef, ex, eB, eW, ea, em⟩, eF⟩, hEE⟩ : ∃ E, E = echoF ⟨f, a, m, t, W, B⟩ := ⟨_, rfl⟩
  rw [← hEE] at KE0 hE2
  dsimp only at hE2
  subst hE2
  have KE := Lib.hid KE0
  have wam : IntKind.i64.wrap ((a : Int) + (m : Int)) = ((a + m : Nat) : Int) := by rw [IntKind.wrap_i64]; omega
  have wa0 := w64 (show a ≤ 9223372036854775807 by omega)
  have wm0 := w64 (show m ≤ 9223372036854775807 by omega)
  obtain ⟨PD, ePD⟩ : ∃ PD, PD = (m + 7) / 8 * 8 - m := ⟨_, rfl⟩
  have HPD := Lib.hid (show PD = (m + 7) / 8 * 8 - m ∧ m ≤ 2000 from ⟨ePD, by have h : m ≤ _ := hsr.2.1; omega⟩)
  have HP8 := Lib.hid (show pad8 (slab N.coils a m) = slab N.coils a m ++ List.replicate PD false from by unfold pad8; rw [slab_length HIN.out, ePD])
  clear hsp hpl hcl hEE KE0 hN hlc hlh hsr ePD
  go_enter Tryz.func15, Tryz.ntmps15
  go_wp2_with fail
  rw [← HW5.out]
  refine (KC.out).mono ?_
  rintro e w1 ⟨va, vb, vc, vd, rfl, I0⟩
  have D0 := DI.out w1 I0.a.bel
  obtain ⟨A1, n1, c1, A2, n2, c2, A3, n3, c3, A4, n4, c4, rfl, rfl, rfl, rfl, hn1, hn2, hn3, hn4⟩ := I0.ok
  have HN1 := Lib.hid hn1
  have HN2 := Lib.hid hn2
  have HN3 := Lib.hid hn3
  have HN4 := Lib.hid hn4
  have HI0 := Lib.hid I0
  clear I0 hn1 hn2 hn3 hn4
  go_wp2_with (first
    | (refine wpList_store_grown rfl 28 (.tmp 8) _ rfl w1.heap.size #[.slice A1 n1 c1, .slice A2 n2 c2, .slice A3 n3 c3, .slice A4 n4 c4] rfl rfl 28 _ (heap_alloc_new w1 _) (by kernel_rfl) rfl (by simp [Value.oneCell']) ?_; intro W6 h6 g6 s6; have I6 := Lib.hid ((HI0.out.to ((Below.refl _ _).new _)).grown g6 HI0.out.fresh HI0.out.a.bel.size); have HOff := Lib.hid HI0.out.fresh; have D6 := D0.put g6 h6; clear h6 g6 s6 D0; obtain ⟨s0, s1, s2, s3⟩ := row4 D6.s; obtain ⟨m0, m1, m2, m3⟩ := row4 D6.m; obtain ⟨r0, r1, r2, r3, r4, r5⟩ := row6 D6.r)
    | fail)
  refine (KK.out W6 D6.bel).mono ?_
  rintro e w2 ⟨rfl, b2⟩
  have D2 := D6.call b2
  have I2 := Lib.hid (I6.out.to b2)
  clear b2 D6 I6
  clear s0 s1 s2 s3 m0 m1 m2 m3 r0 r1 r2 r3 r4 r5
  obtain ⟨s0, s1, s2, s3⟩ := row4 D2.s
  obtain ⟨m0, m1, m2, m3⟩ := row4 D2.m
  obtain ⟨r0, r1, r2, r3, r4, r5⟩ := row6 D2.r
  obtain ⟨o0, o1, o2, o3⟩ := row4 D2.o
  obtain ⟨p0, p1, p2, p3⟩ := row4 D2.p
  obtain ⟨pf0, pf1, pf2, pf3⟩ := free4 D2.p
  obtain ⟨q0, q1, q2, q3, q4, q5⟩ := row6 D2.q
  obtain ⟨qf0, qf1, qf2, qf3, qf4, qf5⟩ := free6 D2.q
  have hrm : Int.tmod (f : Int) 128 = ((f % 128 : Nat) : Int) := by rw [Int.tmod_eq_emod_of_nonneg (by omega)]; omega
  have hrw : IntKind.u8.wrap ((f % 128 : Nat) : Int) = ((f % 128 : Nat) : Int) := by rw [IntKind.wrap_u8]; omega
  go_wp2_with fail
  refine (KR.out w2 D2.bel).mono ?_
  rintro e w3 ⟨rfl, b3⟩
  have D3 := D2.call b3
  have I3 := Lib.hid (I2.out.to b3)
  clear b3 D2 I2
  clear s0 s1 s2 s3 m0 m1 m2 m3 r0 r1 r2 r3 r4 r5
  clear o0 o1 o2 o3 p0 p1 p2 p3 pf0 pf1 pf2 pf3 q0 q1 q2 q3 q4 q5 qf0 qf1 qf2 qf3 qf4 qf5
  obtain ⟨s0, s1, s2, s3⟩ := row4 D3.s
  obtain ⟨m0, m1, m2, m3⟩ := row4 D3.m
  obtain ⟨r0, r1, r2, r3, r4, r5⟩ := row6 D3.r
  obtain ⟨o0, o1, o2, o3⟩ := row4 D3.o
  obtain ⟨p0, p1, p2, p3⟩ := row4 D3.p
  obtain ⟨pf0, pf1, pf2, pf3⟩ := free4 D3.p
  obtain ⟨q0, q1, q2, q3, q4, q5⟩ := row6 D3.q
  obtain ⟨qf0, qf1, qf2, qf3, qf4, qf5⟩ := free6 D3.q
  go_wp2_with fail
  go_loopw [11] (fun iv wr => ∃ i : Nat, i ≤ nb ∧ iv = .int .i64 i ∧ Ds w wr w1.heap.size #[.slice v.a.A v.a.n v.a.c, .slice v.b.A v.b.n v.b.c, .slice v.c.A v.c.n v.c.c, .slice v.d.A v.d.n v.d.c] #[.slice u.a.A u.a.n u.a.c, .slice u.b.A u.b.n u.b.c, .slice u.c.A u.c.n u.c.c, .slice u.d.A u.d.n u.d.c] #[.int .u8 f, .int .u16 a, .int .u16 m, .int .u16 t, .slice Aw nw cw, .slice Ab nb cb] #[.slice A1 n1 c1, .slice A2 n2 c2, .slice A3 n3 c3, .slice A4 n4 c4] ∧ MmIs W5 wr (.slice A1 n1 c1) (.slice A2 n2 c2) (.slice A3 n3 c3) (.slice A4 n4 c4) ⟨over M.coils a (B.take i), M.inputs, M.holding, M.words⟩) (fun iv _ => nb - (intOf iv).toNat)
  case atStart => exact ⟨0, by omega, rfl, D3, by rw [List.take_zero, over_nil]; exact I3.out⟩
  case round =>
    obtain ⟨i, hi, rfl, D, I⟩ := hrel
    have HI := Lib.hid I
    obtain ⟨o0, o1, o2, o3⟩ := row4 D.o
    obtain ⟨r0, r1, r2, r3, r4, r5⟩ := row6 D.r
    by_cases hlt : (i : Int) < (nb : Int)
    · have hin : a + nb ≤ M.coils.length := HINB.out (by omega)
      have HOL := Lib.hid (show (over M.coils a (B.take i)).length = M.coils.length from over_length (.inr (by have := QB.out; simp only [List.length_take]; omega)))
      obtain ⟨b, o, eB, hbl, d1⟩ := (HB.out.to D.bel).2 (by omega)
      subst eB
      have g1 := (d1 i (by omega)).trans (bl_get (by rw [QB.out]; omega))
      obtain ⟨gA, cur, eA, hgr, gc, gf, hg5, hgl, hct, hcm⟩ := I.a.cellAt (i := a + i) (by show _ < (over M.coils a (B.take i)).length; rw [HOL.out]; omega)
      subst eA
      have gx := gc.trans (bl_get (l := over M.coils a (B.take i)) (j := a + i) (by rw [HOL.out]; omega))
      have HSN := Lib.hid (over_snoc (l := M.coils) (k := a) (j := i) (v := B) (x := B[i]?.getD false) (by rw [QB.out]; omega) (by rw [List.getElem?_eq_getElem (by rw [QB.out]; omega)]; rfl))
      have HPT := Lib.hid (fun x => I.putA (i := a + i) (by show _ < (over M.coils a (B.take i)).length; rw [HOL.out]; omega) x)
      have HDG := Lib.hid (fun x => (D.grown (grown_setCell wr gA (a + i) x) (fun j e => by injection e with e; subst e; exact ⟨by omega, fun e => HOff.out.a (by rw [← e]; rfl)⟩)).drew)
      have hJn : a + i < n1 := by have := HN1.out; omega
      have wJ : IntKind.i64.wrap ((a : Int) + (i : Int)) = ((a + i : Nat) : Int) := by rw [IntKind.wrap_i64]; omega
      obtain ⟨J, eJ⟩ : ∃ J, J = a + i := ⟨_, rfl⟩
      rw [← eJ] at gx gf HSN HPT HDG hJn wJ
      obtain ⟨x, ex⟩ : ∃ x, x = B[i]?.getD false := ⟨_, rfl⟩
      rw [← ex] at g1 HSN
      obtain ⟨z, ez⟩ : ∃ z, z = (over M.coils a (B.take i))[J]?.getD false := ⟨_, rfl⟩
      rw [← ez] at gx
      have z0 : (0 : Int) ≤ (i : Int) := by omega
      have z1 : (0 : Int) ≤ (J : Int) := by omega
      have z2 : (J : Int) < (n1 : Int) := by omega
      clear d1 gc hgr hct hcm I eJ ex ez hin D
      go_wp2_with fail
      go_region
      all_goals (
        go_wp2_with fail
        go_roundw
        case rel =>
          refine ⟨i + 1, by omega, by go_num, HDG.out _, ?_⟩
          have h := HPT.out x
          rw [HSN.out] at h
          exact h.drew
        case measure => simp [intOf]; omega)
    · obtain rfl : nb = i := by omega
      rw [List.take_of_length_le (by rw [QB.out]; exact Nat.le_refl _)] at I
      have I4 := Lib.hid I
      clear I HI
      go_wp2_with fail
      go_loopw [12] (fun iv wr => ∃ i : Nat, i ≤ nw ∧ iv = .int .i64 i ∧ Ds w wr w1.heap.size #[.slice v.a.A v.a.n v.a.c, .slice v.b.A v.b.n v.b.c, .slice v.c.A v.c.n v.c.c, .slice v.d.A v.d.n v.d.c] #[.slice u.a.A u.a.n u.a.c, .slice u.b.A u.b.n u.b.c, .slice u.c.A u.c.n u.c.c, .slice u.d.A u.d.n u.d.c] #[.int .u8 f, .int .u16 a, .int .u16 m, .int .u16 t, .slice Aw nw cw, .slice Ab nb cb] #[.slice A1 n1 c1, .slice A2 n2 c2, .slice A3 n3 c3, .slice A4 n4 c4] ∧ MmIs W5 wr (.slice A1 n1 c1) (.slice A2 n2 c2) (.slice A3 n3 c3) (.slice A4 n4 c4) ⟨over M.coils a B, M.inputs, over M.holding a (W.take i), M.words⟩) (fun iv _ => nw - (intOf iv).toNat)
      case atStart => exact ⟨0, by omega, rfl, D, by rw [List.take_zero, over_nil]; exact I4.out⟩
      case round =>
        obtain ⟨i, hi, rfl, D, I⟩ := hrel
        have HI := Lib.hid I
        obtain ⟨o0, o1, o2, o3⟩ := row4 D.o
        obtain ⟨r0, r1, r2, r3, r4, r5⟩ := row6 D.r
        by_cases hlt : (i : Int) < (nw : Int)
        · have hin : a + nw ≤ M.holding.length := HINW.out (by omega)
          have HOL := Lib.hid (show (over M.holding a (W.take i)).length = M.holding.length from over_length (.inr (by have := QW.out; simp only [List.length_take]; omega)))
          obtain ⟨b, o, eB, hbl, d1⟩ := (HW.out.to D.bel).2 (by omega)
          subst eB
          have g1 := (d1 i (by omega)).trans (ws_get (by rw [QW.out]; omega))
          obtain ⟨gA, cur, eA, hgr, gc, gf, hg5, hgl, hct, hcm⟩ := I.c.cellAt (i := a + i) (by show _ < (over M.holding a (W.take i)).length; rw [HOL.out]; omega)
          subst eA
          have gx := gc.trans (ws_get (l := over M.holding a (W.take i)) (j := a + i) (by rw [HOL.out]; omega))
          have HSN := Lib.hid (over_snoc (l := M.holding) (k := a) (j := i) (v := W) (x := W[i]?.getD 0) (by rw [QW.out]; omega) (by rw [List.getElem?_eq_getElem (by rw [QW.out]; omega)]; rfl))
          have HPT := Lib.hid (fun x => I.putC (i := a + i) (by show _ < (over M.holding a (W.take i)).length; rw [HOL.out]; omega) x)
          have HDG := Lib.hid (fun x => (D.grown (grown_setCell wr gA (a + i) x) (fun j e => by injection e with e; subst e; exact ⟨by omega, fun e => HOff.out.c (by rw [← e]; rfl)⟩)).drew)
          have hJn : a + i < n3 := by have := HN3.out; omega
          have wJ : IntKind.i64.wrap ((a : Int) + (i : Int)) = ((a + i : Nat) : Int) := by rw [IntKind.wrap_i64]; omega
          obtain ⟨J, eJ⟩ : ∃ J, J = a + i := ⟨_, rfl⟩
          rw [← eJ] at gx gf HSN HPT HDG hJn wJ
          obtain ⟨x, ex⟩ : ∃ x, x = W[i]?.getD 0 := ⟨_, rfl⟩
          rw [← ex] at g1 HSN
          obtain ⟨z, ez⟩ : ∃ z, z = (over M.holding a (W.take i))[J]?.getD 0 := ⟨_, rfl⟩
          rw [← ez] at gx
          have z0 : (0 : Int) ≤ (i : Int) := by omega
          have z1 : (0 : Int) ≤ (J : Int) := by omega
          have z2 : (J : Int) < (n3 : Int) := by omega
          clear d1 gc hgr hct hcm I eJ ex ez hin D
          go_wp2_with fail
          go_region
          all_goals (
            go_wp2_with fail
            go_roundw
            case rel =>
              refine ⟨i + 1, by omega, by go_num, HDG.out _, ?_⟩
              have h := HPT.out x
              rw [HSN.out] at h
              exact h.drew
            case measure => simp [intOf]; omega)
        · obtain rfl : nw = i := by omega
          rw [List.take_of_length_le (by rw [QW.out]; exact Nat.le_refl _)] at I
          have I5 := Lib.hid I
          clear I HI
          go_wp2_with fail
          refine (KE.out wr D.bel).mono ?_
          rintro e w7 h7
          obtain ⟨Ab7, nb7, cb7, Aw7, nw7, cw7, rfl, SB7, SW7, kb7, kw7, fb7, fw7, b7⟩ := h7.out
          have D7 := D.call b7
          have I7 := Lib.hid (I5.out.to b7)
          have hbs := D.bel.size
          have hb5 : W5.heap.size ≤ wr.heap.size := I5.out.a.bel.size
          have fb := Lib.hid fb7
          have fw := Lib.hid fw7
          have SB := Lib.hid SB7
          have SW := Lib.hid SW7
          have hq7 := row_lt D7.q
          have n71 : w7.heap.size ≠ w.heap.size + 1 + 1 + 1 := by omega
          have n72 : w.heap.size + 1 + 1 + 1 ≠ w7.heap.size := by omega
          have n73 : w7.heap.size ≠ w.heap.size + 1 + 1 + 1 + 1 := by omega
          have n74 : w.heap.size + 1 + 1 + 1 + 1 ≠ w7.heap.size := by omega
          clear h7 b7 I5 D fb7 fw7 SB7 SW7 o0 o1 o2 o3 r0 r1 r2 r3 r4 r5
          go_wp2_with (first
            | (refine wpList_store_grown rfl 40 (.tmp 13) _ rfl w7.heap.size #[.int .u8 (ef : Nat), .int .u8 (ex : Nat), .slice Ab7 nb7 cb7, .slice Aw7 nw7 cw7, .int .u16 (ea : Nat), .int .u16 (em : Nat)] rfl rfl 40 _ (heap_alloc_new w7 _) (by kernel_rfl) rfl (by simp [Value.oneCell']) ?_; intro W8 h8 g8 s8; have D8 := D7.made g8; have I8 := Lib.hid (I7.out.made g8); have SB8 := Lib.hid (SB.out.grownNew g8); have SW8 := Lib.hid (SW.out.grownNew g8); obtain ⟨x0, x1, x2, x3, x4, x5⟩ := row6 h8; clear g8 s8 D7; obtain ⟨o0, o1, o2, o3⟩ := row4 D8.o; obtain ⟨r0, r1, r2, r3, r4, r5⟩ := row6 D8.r; obtain ⟨p0, p1, p2, p3⟩ := row4 D8.p; obtain ⟨pf0, pf1, pf2, pf3⟩ := free4 D8.p; obtain ⟨q0, q1, q2, q3, q4, q5⟩ := row6 D8.q; obtain ⟨qf0, qf1, qf2, qf3, qf4, qf5⟩ := free6 D8.q)
            | (refine wpList_store_grown rfl 40 (.tmp 15) _ rfl W8.heap.size #[.int .u8 (f : Nat), .int .u8 0, .slice none 0 0, .slice none 0 0, .int .u16 0, .int .u16 0] rfl rfl 40 _ (heap_alloc_new W8 _) (by kernel_rfl) rfl (by simp [Value.oneCell']) ?_; intro W9 h9 g9 s9; have D9 := D8.made g9; have I9 := Lib.hid (I8.out.made g9); have HOF8 := Lib.hid (I8.out.off (Nat.le_refl _)); have h19 := row_lt D8.o; have h18 := D8.hg; have HOFF := Lib.hid (fun b (hb : W9.heap.size ≤ b) => I9.out.off hb); have hs98 : W9.heap.size = W8.heap.size + 1 := (by rw [s9]; simp); have HSZ := Lib.hid (show w.heap.size + 5 ≤ w1.heap.size ∧ w1.heap.size < W8.heap.size ∧ W9.heap.size = W8.heap.size + 1 ∧ W5.heap.size = w.heap.size + 5 from ⟨h18, h19, hs98, sz5⟩); clear h18 h19 g9 s9 D8 I8 o0 o1 o2 o3 r0 r1 r2 r3 r4 r5 p0 p1 p2 p3 pf0 pf1 pf2 pf3 q0 q1 q2 q3 q4 q5 qf0 qf1 qf2 qf3 qf4 qf5; obtain ⟨r0, r1, r2, r3, r4, r5⟩ := row6 D9.r)
            | fail)
          have HNN := Lib.hid (show n1 = N.coils.length from by rw [HN1.out, HLF.out])
          have HSZ0 := HSZ.out
          have h98 : W9.heap.size = W8.heap.size + 1 := HSZ0.2.2.1
          have I9 := Lib.hid (show MmIs W5 W9 (.slice A1 n1 c1) (.slice A2 n2 c2) (.slice A3 n3 c3) (.slice A4 n4 c4) N from by rw [HNM.out]; exact I9.out)
          go_loopw [16] (fun iv wr => ∃ (j : Nat) (zv : Value), j ≤ m ∧ iv = .int .i64 ((a + j : Nat) : Int) ∧ Ds w wr w1.heap.size #[.slice v.a.A v.a.n v.a.c, .slice v.b.A v.b.n v.b.c, .slice v.c.A v.c.n v.c.c, .slice v.d.A v.d.n v.d.c] #[.slice u.a.A u.a.n u.a.c, .slice u.b.A u.b.n u.b.c, .slice u.c.A u.c.n u.c.c, .slice u.d.A u.d.n u.d.c] #[.int .u8 f, .int .u16 a, .int .u16 m, .int .u16 t, .slice Aw nw cw, .slice Ab nb cb] #[.slice A1 n1 c1, .slice A2 n2 c2, .slice A3 n3 c3, .slice A4 n4 c4] ∧ MmIs W5 wr (.slice A1 n1 c1) (.slice A2 n2 c2) (.slice A3 n3 c3) (.slice A4 n4 c4) N ∧ Has W5 wr 4 zv j (bl (slab N.coils a j)) ∧ (∀ b, zv.ownBlock = some b → W9.heap.size ≤ b) ∧ wr.heap[W8.heap.size]? = some (.cells #[.int .u8 (f : Nat), .int .u8 0, zv, .slice none 0 0, .int .u16 0, .int .u16 0] 40 (0, 0)) ∧ W9.heap.size ≤ wr.heap.size) (fun iv _ => a + m - (intOf iv).toNat)
          case atStart => exact ⟨0, .slice none 0 0, by omega, rfl, D9, I9.out, by simpa [slab, bl] using Has.nil_ I9.out.a.bel 4, fun b h => by simp [Value.ownBlock] at h, h9, Nat.le_refl _⟩
          case round =>
            obtain ⟨j, zv, hj, rfl, D, I, H, hv, hk, h99⟩ := hrel
            obtain ⟨o0, o1, o2, o3⟩ := row4 D.o
            obtain ⟨r0, r1, r2, r3, r4, r5⟩ := row6 D.r
            have waj : IntKind.i64.wrap (((a + j : Nat) : Int) + 1) = ((a + (j + 1) : Nat) : Int) := by rw [IntKind.wrap_i64]; omega
            by_cases hlt : ((a + j : Nat) : Int) < ((a + m : Nat) : Int)
            · have hjm : j < m := by omega
              obtain ⟨gA, cur, eA, hgr, gc, gf, hg5, hgl, hct, hcm⟩ := I.a.cellAt (i := a + j) (by have := HIN.out; omega)
              subst eA
              have gx := gc.trans (bl_get (l := N.coils) (j := a + j) (by have := HIN.out; omega))
              have HSN := Lib.hid (slab_snoc (l := N.coils) (k := a) (n := j) (x := N.coils[a + j]?.getD false) (by rw [List.getElem?_eq_getElem (by have := HIN.out; omega)]; rfl))
              have hJn : a + j < n1 := by have := HNN.out; have := HIN.out; omega
              obtain ⟨J, eJ⟩ : ∃ J, J = a + j := ⟨_, rfl⟩
              rw [← eJ] at gx gf HSN hJn waj hlt ⊢
              obtain ⟨x, ex⟩ : ∃ x, x = N.coils[J]?.getD false := ⟨_, rfl⟩
              rw [← ex] at gx HSN
              have z1 : (0 : Int) ≤ (J : Int) := by omega
              have z2 : (J : Int) < (n1 : Int) := by omega
              have HI := Lib.hid I
              have HD' := Lib.hid D
              obtain ⟨k0, k1, k2, k3, k4, k5⟩ := row6 hk
              obtain ⟨kf0, kf1, kf2, kf3, kf4, kf5⟩ := free6 hk
              have slt : W8.heap.size < wr.heap.size := by omega
              have slt2 := row_lt D.o
              have sne3 : ¬ wr.heap.size = W8.heap.size := by omega
              have sne4 : ¬ W8.heap.size = wr.heap.size := by omega
              have HEJ := Lib.hid eJ
              clear gc hgr hct hcm I eJ ex D
              go_wp2_with fail
              go_region_law (first
                | (refine step_app eb rfl (.tmp 123) (.tmp 129) rfl (H.drew.alloc _) rfl (Sl.new1 _ _ _) rfl (by simp [Value.oneCell']) (by omega) (by simp only [maxLen]; omega) ?_; intro v4 w4 H5 g4 o4; obtain ⟨A5, cc5, rfl, hc5, -, -⟩ := H5.slice; have hk4 := grown_kept g4 hv (row_alloc hk _) (by omega); obtain ⟨k0, k1, k2, k3, k4, k5⟩ := row6 hk4; obtain ⟨kf0, kf1, kf2, kf3, kf4, kf5⟩ := free6 hk4)
                | fail)
              all_goals (
                have hv4 : ∀ b, (Value.slice A5 (j + 1) cc5).ownBlock = some b → W9.heap.size ≤ b := fun b hb => by
                  rcases o4 with o4 | o4
                  · exact hv b (by rw [← o4]; exact hb)
                  · rw [o4] at hb; injection hb with hb; simp at hb; omega
                have D4 := ((HD'.out.drew.call ((Below.refl _ _).new _)).grown g4 (fun b hb => ⟨by have := hv b hb; have := HSZ.out; omega, by have := hv b hb; have := HSZ.out; omega⟩)).grown (grown_setCell w4 W8.heap.size 2 (.slice A5 (j + 1) cc5)) (fun b hb => by injection hb with hb; have := HSZ.out; omega)
                have I4' := ((HI.out.drew.to ((Below.refl _ _).new _)).app g4 (fun b hb => ⟨by have := hv b hb; have := HSZ.out; omega, HOFF.out b (hv b hb)⟩)).grown (grown_setCell w4 W8.heap.size 2 (.slice A5 (j + 1) cc5)) HOF8.out (by have := HSZ.out; omega)
                have hk5 := heap_setCell_same w4 W8.heap.size 2 _ _ (.slice A5 (j + 1) cc5) hk4
                have hs4 := g4.size
                go_wp2_with fail
                go_roundw
                case rel =>
                  refine ⟨j + 1, .slice A5 (j + 1) cc5, by omega, by go_num, D4, I4', ?_, hv4, hk5, by simp [World.setCell] at hs4 ⊢; omega⟩
                  rw [HSN.out, ← bl_append]
                  exact H5.other (grown_setCell w4 W8.heap.size 2 _) (by have := HSZ.out; omega) (fun e => by have := hv4 _ e; omega)
                case measure => simp [intOf]; have := HEJ.out; omega)
            · obtain rfl : m = j := by omega
              go_wp2_with fail
              clear o0 o1 o2 o3 r0 r1 r2 r3 r4 r5
              go_loopw [157] (fun _ w4 => ∃ (i : Nat) (zv : Value), i ≤ PD ∧ Ds w w4 w1.heap.size #[.slice v.a.A v.a.n v.a.c, .slice v.b.A v.b.n v.b.c, .slice v.c.A v.c.n v.c.c, .slice v.d.A v.d.n v.d.c] #[.slice u.a.A u.a.n u.a.c, .slice u.b.A u.b.n u.b.c, .slice u.c.A u.c.n u.c.c, .slice u.d.A u.d.n u.d.c] #[.int .u8 f, .int .u16 a, .int .u16 m, .int .u16 t, .slice Aw nw cw, .slice Ab nb cb] #[.slice A1 n1 c1, .slice A2 n2 c2, .slice A3 n3 c3, .slice A4 n4 c4] ∧ MmIs W5 w4 (.slice A1 n1 c1) (.slice A2 n2 c2) (.slice A3 n3 c3) (.slice A4 n4 c4) N ∧ Has W5 w4 4 zv (m + i) (bl (slab N.coils a m ++ List.replicate i false)) ∧ (∀ b, zv.ownBlock = some b → W9.heap.size ≤ b) ∧ w4.heap[W8.heap.size]? = some (.cells #[.int .u8 (f : Nat), .int .u8 0, zv, .slice none 0 0, .int .u16 0, .int .u16 0] 40 (0, 0)) ∧ W9.heap.size ≤ w4.heap.size) (fun _ w4 => m + 8 - bitsAt w4 W8.heap.size)
              case atStart => exact ⟨0, zv, by omega, D, I, by simpa using H, hv, hk, h99⟩
              case round =>
                clear hk hv H D I h99
                clear zv
                obtain ⟨i, zv, hi, D, I, H, hv, hk, h99⟩ := hrel
                obtain ⟨A6, cc6, rfl, hc6, S6, -⟩ := H.slice
                obtain ⟨k0, k1, k2, k3, k4, k5⟩ := row6 hk
                obtain ⟨kf0, kf1, kf2, kf3, kf4, kf5⟩ := free6 hk
                have hmod : Int.tmod ((m + i : Nat) : Int) 8 = (((m + i) % 8 : Nat) : Int) := by rw [Int.tmod_eq_emod_of_nonneg (by omega)]; omega
                by_cases hlt : i < PD
                · have hne : ((((m + i) % 8 : Nat) : Int) != 0) = true := by rw [bne_iff_ne]; have := HPD.out; omega
                  have HRP := Lib.hid (show List.replicate (i + 1) false = List.replicate i false ++ [false] from by rw [List.replicate_succ'])
                  have HMI := Lib.hid (show m + i + 1 = m + (i + 1) by omega)
                  have hmi : m + i ≤ 4000 := by have := HPD.out; omega
                  have HLT := Lib.hid hlt
                  have HBA := Lib.hid (bitsAt_row hk)
                  obtain ⟨L, eL⟩ : ∃ L, L = m + i := ⟨_, rfl⟩
                  rw [← eL] at hmod hne H hk k2 HMI hmi S6 hc6 hv HBA
                  have HEL := Lib.hid eL
                  obtain ⟨r8, er8⟩ : ∃ r8, r8 = L % 8 := ⟨_, rfl⟩
                  rw [← er8] at hmod hne
                  clear hlt eL er8
                  go_wp2_with (at_builtin; refine wpList_app eb rfl (.tmp 162) (.tmp 163) rfl (H.alloc _) rfl (Sl.new1 _ _ _) rfl (by simp [Value.oneCell']) (by omega) (by simp only [maxLen]; omega) ?_; intro v4 w4 H5 g4 o4; obtain ⟨A5, cc5, rfl, hc5, -, -⟩ := H5.slice; have hk4 := grown_kept g4 hv (row_alloc hk _) (by omega); obtain ⟨k0, k1, k2, k3, k4, k5⟩ := row6 hk4; obtain ⟨kf0, kf1, kf2, kf3, kf4, kf5⟩ := free6 hk4)
                  have hv4 : ∀ b, (Value.slice A5 (L + 1) cc5).ownBlock = some b → W9.heap.size ≤ b := fun b hb => by
                    rcases o4 with o4 | o4
                    · exact hv b (by rw [← o4]; exact hb)
                    · rw [o4] at hb; injection hb with hb; simp at hb; omega
                  have D4 := ((D.call ((Below.refl _ _).new _)).grown g4 (fun b hb => ⟨by have := hv b hb; have := HSZ.out; omega, by have := hv b hb; have := HSZ.out; omega⟩)).grown (grown_setCell w4 W8.heap.size 2 (.slice A5 (L + 1) cc5)) (fun b hb => by injection hb with hb; have := HSZ.out; omega)
                  have I4' := ((I.to ((Below.refl _ _).new _)).app g4 (fun b hb => ⟨by have := hv b hb; have := HSZ.out; omega, HOFF.out b (hv b hb)⟩)).grown (grown_setCell w4 W8.heap.size 2 (.slice A5 (L + 1) cc5)) HOF8.out (by have := HSZ.out; omega)
                  have hk5 := heap_setCell_same w4 W8.heap.size 2 _ _ (.slice A5 (L + 1) cc5) hk4
                  have hs4 := g4.size
                  go_roundw
                  case rel =>
                    refine ⟨i + 1, .slice A5 (L + 1) cc5, by have := HLT.out; omega, D4, I4', ?_, hv4, hk5, by simp [World.setCell] at hs4 ⊢; omega⟩
                    rw [HRP.out, ← List.append_assoc, ← bl_append, ← HMI.out]
                    exact H5.other (grown_setCell w4 W8.heap.size 2 _) (by have := HSZ.out; omega) (fun e => by have := hv4 _ e; omega)
                  case measure =>
                    rw [bitsAt_row hk5, HBA.out]
                    have h1 := HEL.out
                    have h2 := HPD.out
                    have h3 := HLT.out
                    omega
                · obtain rfl : PD = i := by omega
                  have hne : ((((m + PD) % 8 : Nat) : Int) != 0) = false := by rw [bne_eq_false_iff_eq]; have := HPD.out; omega
                  obtain ⟨o0, o1, o2, o3⟩ := row4 D.o
                  obtain ⟨k0, k1, k2, k3, k4, k5⟩ := row6 hk
                  obtain ⟨p0, p1, p2, p3⟩ := row4 D.p
                  obtain ⟨pf0, pf1, pf2, pf3⟩ := free4 D.p
                  obtain ⟨q0, q1, q2, q3, q4, q5⟩ := row6 D.q
                  obtain ⟨qf0, qf1, qf2, qf3, qf4, qf5⟩ := free6 D.q
                  have n71 : W8.heap.size ≠ w.heap.size + 1 + 1 + 1 := by have := HSZ.out; omega
                  have n72 : w.heap.size + 1 + 1 + 1 ≠ W8.heap.size := by have := HSZ.out; omega
                  have n73 : W8.heap.size ≠ w.heap.size + 1 + 1 + 1 + 1 := by have := HSZ.out; omega
                  have n74 : w.heap.size + 1 + 1 + 1 + 1 ≠ W8.heap.size := by have := HSZ.out; omega
                  go_wp2_with fail
                  go_region
                  all_goals (
                    go_wp2_with fail
                    have F := D.fin HSZ.out.2.2.2 (.slice A1 n1 c1) (.slice A2 n2 c2) (.slice A3 n3 c3) (.slice A4 n4 c4) (.int .u8 (f : Nat)) (.int .u8 0) (.slice A6 (m + PD) cc6) (.slice none 0 0) (.int .u16 0) (.int .u16 0)
                    refine bodyPost_rows rfl _ _ 28 40 #[.slice A1 n1 c1, .slice A2 n2 c2, .slice A3 n3 c3, .slice A4 n4 c4] #[.int .u8 (f : Nat), .int .u8 0, .slice A6 (m + PD) cc6, .slice none 0 0, .int .u16 0, .int .u16 0] (0, 0) (0, 0) _ _ rfl F.p Tryz.underlying28 rfl (by kernel_rfl) rfl F.q Tryz.underlying40 rfl (by kernel_rfl) rfl ?_
                    rw [HD.out, HWR.out, HAN.out, HP8.out]
                    exact ⟨⟨⟨A1, n1, c1⟩, ⟨A2, n2, c2⟩, ⟨A3, n3, c3⟩, ⟨A4, n4, c4⟩⟩, A6, m + PD, cc6, none, 0, 0, rfl, ⟨Sl.of_own (F.own I.a.own'), Sl.of_own (F.own I.b.own'), Sl.of_own (F.own I.c.own'), Sl.of_own (F.own I.d.own')⟩, F.sl S6 (fun b o e => by have := hv b (by rw [e]; rfl); have := HSZ.out; omega), Sl.empty _ _ _, hc6, Nat.le_refl _, F.bel, (New.of I.a).mono (by have := HSZ.out; omega), (New.of I.b).mono (by have := HSZ.out; omega), (New.of I.c).mono (by have := HSZ.out; omega), (New.of I.d).mono (by have := HSZ.out; omega), (fun b o e => by have := hv b (by rw [e]; rfl); have := HSZ.out; omega), New.none _⟩)
end Go.Proofs.YtjfhfgchglaoiaaGreat.MoW
/- The walk of saucierref07.Do: function 2. -/
set_option linter.unusedVariables false
set_option linter.unusedSimpArgs false
namespace Go.Proofs.YtjfhfgchglaoiaaGreat.MoW
open Go.RowKit Go.Proofs.YtjfhfgchglaoiaaGreat Go.Proofs.YtjfhfgchglaoiaaGreat.Mo Go.Proofs.YtjfhfgchglaoiaaGreat.Ask Go.Proofs.YtjfhfgchglaoiaaGreat.AskW
set_option maxRecDepth 10000 in
set_option maxHeartbeats 4000000 in
theorem refDo2_any (v u : Sp) (s : Space) (M : Mem) (f a m t : Nat) (Aw : Option Addr) (nw cw : Nat) (Ab : Option Addr) (nb cb : Nat) (W : List Nat) (B : List Bool) (w : World) (hS : SpOk w v s) (hM : MmOk w u M) (ho : s.Ok) (hv : v.Small) (hu : u.Small)
    (hW : Sl w w.heap.size Aw nw (ws W)) (hB : Sl w w.heap.size Ab nb (bl B)) (hwf : Req.Wf ⟨f, a, m, t, W, B⟩) (kW : nw ≤ 100000) (kB : nb ≤ 100000) (hc0 : checkM s ⟨f, a, m, t, W, B⟩ = 0) (hq0 : rightM s M = true) (hcl : f = 2) :
    Calls Tryz.prog 15 #[.agg #[.slice v.a.A v.a.n v.a.c, .slice v.b.A v.b.n v.b.c, .slice v.c.A v.c.n v.c.c, .slice v.d.A v.d.n v.d.c], .agg #[.slice u.a.A u.a.n u.a.c, .slice u.b.A u.b.n u.b.c, .slice u.c.A u.c.n u.c.c, .slice u.d.A u.d.n u.d.c], .agg #[.int .u8 f, .int .u16 a, .int .u16 m, .int .u16 t, .slice Aw nw cw, .slice Ab nb cb]] w (RetDo w (doM s M ⟨f, a, m, t, W, B⟩)) := by
  have qW : W.length = nw := by simpa using hW.len
  have qB : B.length = nb := by simpa using hB.len
  have hf := hwf.f
  have ha := hwf.at'
  have hm := hwf.many
  have ht := hwf.to
  simp only at hf ha hm ht
  obtain ⟨W5, hW5⟩ : ∃ W5, W5 = ((((w.alloc (.cells #[.slice v.a.A v.a.n v.a.c, .slice v.b.A v.b.n v.b.c, .slice v.c.A v.c.n v.c.c, .slice v.d.A v.d.n v.d.c] 24)).alloc (.cells #[.slice u.a.A u.a.n u.a.c, .slice u.b.A u.b.n u.b.c, .slice u.c.A u.c.n u.c.c, .slice u.d.A u.d.n u.d.c] 28)).alloc (.cells #[.int .u8 f, .int .u16 a, .int .u16 m, .int .u16 t, .slice Aw nw cw, .slice Ab nb cb] 31)).alloc (.cells #[.slice none 0 0, .slice none 0 0, .slice none 0 0, .slice none 0 0] 28)).alloc (.cells #[.int .u8 0, .int .u8 0, .slice none 0 0, .slice none 0 0, .int .u16 0, .int .u16 0] 40) := ⟨_, rfl⟩
  have sz5 : W5.heap.size = w.heap.size + 5 := by rw [hW5]; simp
  have B5 : Below w.heap.size w W5 := by rw [hW5]; exact (((((Below.refl _ w).new _).new _).new _).new _).new _
  have HW5 := Lib.hid hW5
  have DI := Lib.hid (show ∀ w1, Below W5.heap.size W5 w1 → Ds w (w1.alloc (.cells #[.slice none 0 0, .slice none 0 0, .slice none 0 0, .slice none 0 0] 28)) w1.heap.size #[.slice v.a.A v.a.n v.a.c, .slice v.b.A v.b.n v.b.c, .slice v.c.A v.c.n v.c.c, .slice v.d.A v.d.n v.d.c] #[.slice u.a.A u.a.n u.a.c, .slice u.b.A u.b.n u.b.c, .slice u.c.A u.c.n u.c.c, .slice u.d.A u.d.n u.d.c] #[.int .u8 f, .int .u16 a, .int .u16 m, .int .u16 t, .slice Aw nw cw, .slice Ab nb cb] #[.slice none 0 0, .slice none 0 0, .slice none 0 0, .slice none 0 0] from by
    intro w1 b
    have bs := b.size
    have e4 : (((w.alloc (.cells #[.slice v.a.A v.a.n v.a.c, .slice v.b.A v.b.n v.b.c, .slice v.c.A v.c.n v.c.c, .slice v.d.A v.d.n v.d.c] 24)).alloc (.cells #[.slice u.a.A u.a.n u.a.c, .slice u.b.A u.b.n u.b.c, .slice u.c.A u.c.n u.c.c, .slice u.d.A u.d.n u.d.c] 28)).alloc (.cells #[.int .u8 f, .int .u16 a, .int .u16 m, .int .u16 t, .slice Aw nw cw, .slice Ab nb cb] 31)).heap.size = w.heap.size + 1 + 1 + 1 := by simp
    have e3 : ((w.alloc (.cells #[.slice v.a.A v.a.n v.a.c, .slice v.b.A v.b.n v.b.c, .slice v.c.A v.c.n v.c.c, .slice v.d.A v.d.n v.d.c] 24)).alloc (.cells #[.slice u.a.A u.a.n u.a.c, .slice u.b.A u.b.n u.b.c, .slice u.c.A u.c.n u.c.c, .slice u.d.A u.d.n u.d.c] 28)).heap.size = w.heap.size + 1 + 1 := by simp
    have e5 : ((((w.alloc (.cells #[.slice v.a.A v.a.n v.a.c, .slice v.b.A v.b.n v.b.c, .slice v.c.A v.c.n v.c.c, .slice v.d.A v.d.n v.d.c] 24)).alloc (.cells #[.slice u.a.A u.a.n u.a.c, .slice u.b.A u.b.n u.b.c, .slice u.c.A u.c.n u.c.c, .slice u.d.A u.d.n u.d.c] 28)).alloc (.cells #[.int .u8 f, .int .u16 a, .int .u16 m, .int .u16 t, .slice Aw nw cw, .slice Ab nb cb] 31)).alloc (.cells #[.slice none 0 0, .slice none 0 0, .slice none 0 0, .slice none 0 0] 28)).heap.size = w.heap.size + 1 + 1 + 1 + 1 := by simp
    have k1 : W5.heap[w.heap.size]? = some (.cells #[.slice v.a.A v.a.n v.a.c, .slice v.b.A v.b.n v.b.c, .slice v.c.A v.c.n v.c.c, .slice v.d.A v.d.n v.d.c] 24 (0, 0)) := by rw [hW5]; exact row_alloc (row_alloc (row_alloc (row_alloc (heap_alloc_new w _) _) _) _) _
    have k2 : W5.heap[w.heap.size + 1]? = some (.cells #[.slice u.a.A u.a.n u.a.c, .slice u.b.A u.b.n u.b.c, .slice u.c.A u.c.n u.c.c, .slice u.d.A u.d.n u.d.c] 28 (0, 0)) := by rw [hW5]; exact row_alloc (row_alloc (row_alloc (heap_alloc2_new w _ _) _) _) _
    have k3 : W5.heap[w.heap.size + 1 + 1]? = some (.cells #[.int .u8 f, .int .u16 a, .int .u16 m, .int .u16 t, .slice Aw nw cw, .slice Ab nb cb] 31 (0, 0)) := by rw [hW5]; refine row_alloc (row_alloc ?_ _) _; rw [← e3]; exact heap_alloc_new _ _
    have k4 : W5.heap[w.heap.size + 1 + 1 + 1]? = some (.cells #[.slice none 0 0, .slice none 0 0, .slice none 0 0, .slice none 0 0] 28 (0, 0)) := by rw [hW5]; refine row_alloc ?_ _; rw [← e4]; exact heap_alloc_new _ _
    have k5 : W5.heap[w.heap.size + 1 + 1 + 1 + 1]? = some (.cells #[.int .u8 0, .int .u8 0, .slice none 0 0, .slice none 0 0, .int .u16 0, .int .u16 0] 40 (0, 0)) := by rw [hW5, ← e5]; exact heap_alloc_new _ _
    exact ⟨row_alloc (b.row (by omega) k1) _, row_alloc (b.row (by omega) k2) _, row_alloc (b.row (by omega) k3) _, row_alloc (b.row (by omega) k4) _, row_alloc (b.row (by omega) k5) _, heap_alloc_new w1 _, (B5.call b).new _, by omega⟩)
  have KC := Lib.hid (refCopy_any u M W5 (hM.to B5) hu)
  have KK0 := fun X (b : Below w.heap.size w X) => refCheck_any v s f a m t Aw nw cw Ab nb cb W B X (hS.to b) ho hv qW qB hwf kW kB
  have KR0 := fun X (b : Below w.heap.size w X) => refRight7_any v u s M X (hS.to b) (hM.to b) ho hv hu
  obtain ⟨C, hC⟩ : ∃ C, C = checkM s ⟨f, a, m, t, W, B⟩ := ⟨_, rfl⟩
  obtain ⟨Q, hQ⟩ : ∃ Q, Q = rightM s M := ⟨_, rfl⟩
  rw [← hC] at KK0
  rw [← hQ] at KR0
  have KK := Lib.hid KK0
  have KR := Lib.hid KR0
  have hC9 : C ≤ 3 := by rw [hC]; unfold checkM; repeat' split
                         all_goals omega
  have hFM : faultM s M ⟨f, a, m, t, W, B⟩ = if C = 0 then (if Q then 0 else 4) else C := by unfold faultM; rw [← hC, ← hQ]
  have hDM : doM s M ⟨f, a, m, t, W, B⟩ = if faultM s M ⟨f, a, m, t, W, B⟩ = 0 then (wrote M ⟨f, a, m, t, W, B⟩, answer (wrote M ⟨f, a, m, t, W, B⟩) ⟨f, a, m, t, W, B⟩) else (M, exc f (faultM s M ⟨f, a, m, t, W, B⟩)) := rfl
  rw [hFM] at hDM 
  obtain ⟨RR, hRR⟩ : ∃ RR, RR = doM s M ⟨f, a, m, t, W, B⟩ := ⟨_, rfl⟩
  rw [← hRR] at hDM ⊢
  have HC := Lib.hid hC
  have HQ := Lib.hid hQ
  have hFM' : faultM s M ⟨f, a, m, t, W, B⟩ = if checkM s ⟨f, a, m, t, W, B⟩ = 0 then (if rightM s M then 0 else 4) else checkM s ⟨f, a, m, t, W, B⟩ := rfl
  clear hRR hFM KK0 KR0 hC hQ
  have HS := Lib.hid hS
  have hsp := span_ok hc0 hq0
  have hC0 : C = 0 := by rw [HC.out, hc0]
  have hQ0 : Q = true := by rw [HQ.out, hq0]
  subst hC0 hQ0
  have HD := Lib.hid (show RR = (wrote M ⟨f, a, m, t, W, B⟩, answer (wrote M ⟨f, a, m, t, W, B⟩) ⟨f, a, m, t, W, B⟩) from by rw [hDM]; rfl)
  clear hDM hFM' HC HQ hM hS hu hv ho
  have QW := Lib.hid qW
  have QB := Lib.hid qB
  have HB := Lib.hid hB
  have HW := Lib.hid hW
  have HWF := Lib.hid hwf
  clear qW qB hB hW hwf
  have hpl : place ⟨f, a, m, t, W, B⟩ = a := by unfold place; subst hcl; rfl
  rw [hpl] at hsp
  have HPL := Lib.hid hpl
  have T1 : ((f : Int) == 1) = false := by rw [hcl]; rfl
  have T2 : ((f : Int) == 2) = true := by rw [hcl]; rfl
  have T4 : ((f : Int) == 4) = false := by rw [hcl]; rfl
  have T23 : ((f : Int) == 23) = false := by rw [hcl]; rfl
  have HINB := Lib.hid (show 0 < nb → a + nb ≤ M.coils.length from fun h => by
    rcases hsp.1 with h1 | h1
    · have h1 : B = [] := h1
      have := QB.out; rw [h1] at this; simp at this; omega
    · rw [← QB.out]; exact h1)
  have HINW := Lib.hid (show 0 < nw → a + nw ≤ M.holding.length from fun h => by
    rcases hsp.2.1 with h1 | h1
    · have h1 : W = [] := h1
      have := QW.out; rw [h1] at this; simp at this; omega
    · rw [← QW.out]; exact h1)
  have hsr := (hsp.2.2.2.1 hcl).2.2
  have hm1 := hsr.1
  have hm2 := hsr.2.1
  obtain ⟨N, hN⟩ : ∃ N : Mem, N = ⟨over M.coils a B, M.inputs, over M.holding a W, M.words⟩ := ⟨_, rfl⟩
  have hlc : (over M.coils a B).length = M.coils.length := over_length hsp.1
  have hlh : (over M.holding a W).length = M.holding.length := over_length hsp.2.1
  have HLF := Lib.hid (show N.inputs.length = M.inputs.length from by (rw [hN]) <;> first | rfl | exact hlc | exact hlh)
  have HIN := Lib.hid (show a + m ≤ N.inputs.length from by rw [HLF.out]; exact hsr.2.2)
  have HNM := Lib.hid hN
  have HWR := Lib.hid (show wrote M ⟨f, a, m, t, W, B⟩ = N from by unfold wrote; rw [HPL.out, hN])
  have hE2 : (echoF ⟨f, a, m, t, W, B⟩).2 = false := by rw [echo_is (check_ok hc0).1, decide_eq_false_iff_not]; show ¬ (f = 5 ∨ f = 6 ∨ f = 15 ∨ f = 16); omega
  have HAN := Lib.hid (show answer N ⟨f, a, m, t, W, B⟩ = ⟨f, 0, pad8 (slab N.inputs a m), [], 0, 0⟩ from by unfold answer; rw [hE2]; subst hcl; rfl)
  have KE0 := fun X (b : Below w.heap.size w X) => ref3Echo_any f a m t Aw nw cw Ab nb cb W B X (HW.out.to b) (HB.out.to b) HWF.out
  obtain ⟨⟨⟨ef, ex, eB, eW, ea, em⟩, eF⟩, hEE⟩ : ∃ E, E = echoF ⟨f, a, m, t, W, B⟩ := ⟨_, rfl⟩
  rw [← hEE] at KE0 hE2
  dsimp only at hE2
  subst hE2
  have KE := Lib.hid KE0
  have wam : IntKind.i64.wrap ((a : Int) + (m : Int)) = ((a + m : Nat) : Int) := by rw [IntKind.wrap_i64]; omega
  have wa0 := w64 (show a ≤ 9223372036854775807 by omega)
  have wm0 := w64 (show m ≤ 9223372036854775807 by omega)
  obtain ⟨PD, ePD⟩ : ∃ PD, PD = (m + 7) / 8 * 8 - m := ⟨_, rfl⟩
  have HPD := Lib.hid (show PD = (m + 7) / 8 * 8 - m ∧ m ≤ 2000 from ⟨ePD, by have h : m ≤ _ := hsr.2.1; omega⟩)
  have HP8 := Lib.hid (show pad8 (slab N.inputs a m) = slab N.inputs a m ++ List.replicate PD false from by unfold pad8; rw [slab_length HIN.out, ePD])
  clear hsp hpl hcl hEE KE0 hN hlc hlh hsr ePD
  go_enter Tryz.func15, Tryz.ntmps15
  go_wp2_with fail
  rw [← HW5.out]
  refine (KC.out).mono ?_
  rintro e w1 ⟨va, vb, vc, vd, rfl, I0⟩
  have D0 := DI.out w1 I0.a.bel
  obtain ⟨A1, n1, c1, A2, n2, c2, A3, n3, c3, A4, n4, c4, rfl, rfl, rfl, rfl, hn1, hn2, hn3, hn4⟩ := I0.ok
  have HN1 := Lib.hid hn1
  have HN2 := Lib.hid hn2
  have HN3 := Lib.hid hn3
  have HN4 := Lib.hid hn4
  have HI0 := Lib.hid I0
  clear I0 hn1 hn2 hn3 hn4
  go_wp2_with (first
    | (refine wpList_store_grown rfl 28 (.tmp 8) _ rfl w1.heap.size #[.slice A1 n1 c1, .slice A2 n2 c2, .slice A3 n3 c3, .slice A4 n4 c4] rfl rfl 28 _ (heap_alloc_new w1 _) (by kernel_rfl) rfl (by simp [Value.oneCell']) ?_; intro W6 h6 g6 s6; have I6 := Lib.hid ((HI0.out.to ((Below.refl _ _).new _)).grown g6 HI0.out.fresh HI0.out.a.bel.size); have HOff := Lib.hid HI0.out.fresh; have D6 := D0.put g6 h6; clear h6 g6 s6 D0; obtain ⟨s0, s1, s2, s3⟩ := row4 D6.s; obtain ⟨m0, m1, m2, m3⟩ := row4 D6.m; obtain ⟨r0, r1, r2, r3, r4, r5⟩ := row6 D6.r)
    | fail)
  refine (KK.out W6 D6.bel).mono ?_
  rintro e w2 ⟨rfl, b2⟩
  have D2 := D6.call b2
  have I2 := Lib.hid (I6.out.to b2)
  clear b2 D6 I6
  clear s0 s1 s2 s3 m0 m1 m2 m3 r0 r1 r2 r3 r4 r5
  obtain ⟨s0, s1, s2, s3⟩ := row4 D2.s
  obtain ⟨m0, m1, m2, m3⟩ := row4 D2.m
  obtain ⟨r0, r1, r2, r3, r4, r5⟩ := row6 D2.r
  obtain ⟨o0, o1, o2, o3⟩ := row4 D2.o
  obtain ⟨p0, p1, p2, p3⟩ := row4 D2.p
  obtain ⟨pf0, pf1, pf2, pf3⟩ := free4 D2.p
  obtain ⟨q0, q1, q2, q3, q4, q5⟩ := row6 D2.q
  obtain ⟨qf0, qf1, qf2, qf3, qf4, qf5⟩ := free6 D2.q
  have hrm : Int.tmod (f : Int) 128 = ((f % 128 : Nat) : Int) := by rw [Int.tmod_eq_emod_of_nonneg (by omega)]; omega
  have hrw : IntKind.u8.wrap ((f % 128 : Nat) : Int) = ((f % 128 : Nat) : Int) := by rw [IntKind.wrap_u8]; omega
  go_wp2_with fail
  refine (KR.out w2 D2.bel).mono ?_
  rintro e w3 ⟨rfl, b3⟩
  have D3 := D2.call b3
  have I3 := Lib.hid (I2.out.to b3)
  clear b3 D2 I2
  clear s0 s1 s2 s3 m0 m1 m2 m3 r0 r1 r2 r3 r4 r5
  clear o0 o1 o2 o3 p0 p1 p2 p3 pf0 pf1 pf2 pf3 q0 q1 q2 q3 q4 q5 qf0 qf1 qf2 qf3 qf4 qf5
  obtain ⟨s0, s1, s2, s3⟩ := row4 D3.s
  obtain ⟨m0, m1, m2, m3⟩ := row4 D3.m
  obtain ⟨r0, r1, r2, r3, r4, r5⟩ := row6 D3.r
  obtain ⟨o0, o1, o2, o3⟩ := row4 D3.o
  obtain ⟨p0, p1, p2, p3⟩ := row4 D3.p
  obtain ⟨pf0, pf1, pf2, pf3⟩ := free4 D3.p
  obtain ⟨q0, q1, q2, q3, q4, q5⟩ := row6 D3.q
  obtain ⟨qf0, qf1, qf2, qf3, qf4, qf5⟩ := free6 D3.q
  go_wp2_with fail
  go_loopw [11] (fun iv wr => ∃ i : Nat, i ≤ nb ∧ iv = .int .i64 i ∧ Ds w wr w1.heap.size #[.slice v.a.A v.a.n v.a.c, .slice v.b.A v.b.n v.b.c, .slice v.c.A v.c.n v.c.c, .slice v.d.A v.d.n v.d.c] #[.slice u.a.A u.a.n u.a.c, .slice u.b.A u.b.n u.b.c, .slice u.c.A u.c.n u.c.c, .slice u.d.A u.d.n u.d.c] #[.int .u8 f, .int .u16 a, .int .u16 m, .int .u16 t, .slice Aw nw cw, .slice Ab nb cb] #[.slice A1 n1 c1, .slice A2 n2 c2, .slice A3 n3 c3, .slice A4 n4 c4] ∧ MmIs W5 wr (.slice A1 n1 c1) (.slice A2 n2 c2) (.slice A3 n3 c3) (.slice A4 n4 c4) ⟨over M.coils a (B.take i), M.inputs, M.holding, M.words⟩) (fun iv _ => nb - (intOf iv).toNat)
  case atStart => exact ⟨0, by omega, rfl, D3, by rw [List.take_zero, over_nil]; exact I3.out⟩
  case round =>
    obtain ⟨i, hi, rfl, D, I⟩ := hrel
    have HI := Lib.hid I
    obtain ⟨o0, o1, o2, o3⟩ := row4 D.o
    obtain ⟨r0, r1, r2, r3, r4, r5⟩ := row6 D.r
    by_cases hlt : (i : Int) < (nb : Int)
    · have hin : a + nb ≤ M.coils.length := HINB.out (by omega)
      have HOL := Lib.hid (show (over M.coils a (B.take i)).length = M.coils.length from over_length (.inr (by have := QB.out; simp only [List.length_take]; omega)))
      obtain ⟨b, o, eB, hbl, d1⟩ := (HB.out.to D.bel).2 (by omega)
      subst eB
      have g1 := (d1 i (by omega)).trans (bl_get (by rw [QB.out]; omega))
      obtain ⟨gA, cur, eA, hgr, gc, gf, hg5, hgl, hct, hcm⟩ := I.a.cellAt (i := a + i) (by show _ < (over M.coils a (B.take i)).length; rw [HOL.out]; omega)
      subst eA
      have gx := gc.trans (bl_get (l := over M.coils a (B.take i)) (j := a + i) (by rw [HOL.out]; omega))
      have HSN := Lib.hid (over_snoc (l := M.coils) (k := a) (j := i) (v := B) (x := B[i]?.getD false) (by rw [QB.out]; omega) (by rw [List.getElem?_eq_getElem (by rw [QB.out]; omega)]; rfl))
      have HPT := Lib.hid (fun x => I.putA (i := a + i) (by show _ < (over M.coils a (B.take i)).length; rw [HOL.out]; omega) x)
      have HDG := Lib.hid (fun x => (D.grown (grown_setCell wr gA (a + i) x) (fun j e => by injection e with e; subst e; exact ⟨by omega, fun e => HOff.out.a (by rw [← e]; rfl)⟩)).drew)
      have hJn : a + i < n1 := by have := HN1.out; omega
      have wJ : IntKind.i64.wrap ((a : Int) + (i : Int)) = ((a + i : Nat) : Int) := by rw [IntKind.wrap_i64]; omega
      obtain ⟨J, eJ⟩ : ∃ J, J = a + i := ⟨_, rfl⟩
      rw [← eJ] at gx gf HSN HPT HDG hJn wJ
      obtain ⟨x, ex⟩ : ∃ x, x = B[i]?.getD false := ⟨_, rfl⟩
      rw [← ex] at g1 HSN
      obtain ⟨z, ez⟩ : ∃ z, z = (over M.coils a (B.take i))[J]?.getD false := ⟨_, rfl⟩
      rw [← ez] at gx
      have z0 : (0 : Int) ≤ (i : Int) := by omega
      have z1 : (0 : Int) ≤ (J : Int) := by omega
      have z2 : (J : Int) < (n1 : Int) := by omega
      clear d1 gc hgr hct hcm I eJ ex ez hin D
      go_wp2_with fail
      go_region
      all_goals (
        go_wp2_with fail
        go_roundw
        case rel =>
          refine ⟨i + 1, by omega, by go_num, HDG.out _, ?_⟩
          have h := HPT.out x
          rw [HSN.out] at h
          exact h.drew
        case measure => simp [intOf]; omega)
    · obtain rfl : nb = i := by omega
      rw [List.take_of_length_le (by rw [QB.out]; exact Nat.le_refl _)] at I
      have I4 := Lib.hid I
      clear I HI
      go_wp2_with fail
      go_loopw [12] (fun iv wr => ∃ i : Nat, i ≤ nw ∧ iv = .int .i64 i ∧ Ds w wr w1.heap.size #[.slice v.a.A v.a.n v.a.c, .slice v.b.A v.b.n v.b.c, .slice v.c.A v.c.n v.c.c, .slice v.d.A v.d.n v.d.c] #[.slice u.a.A u.a.n u.a.c, .slice u.b.A u.b.n u.b.c, .slice u.c.A u.c.n u.c.c, .slice u.d.A u.d.n u.d.c] #[.int .u8 f, .int .u16 a, .int .u16 m, .int .u16 t, .slice Aw nw cw, .slice Ab nb cb] #[.slice A1 n1 c1, .slice A2 n2 c2, .slice A3 n3 c3, .slice A4 n4 c4] ∧ MmIs W5 wr (.slice A1 n1 c1) (.slice A2 n2 c2) (.slice A3 n3 c3) (.slice A4 n4 c4) ⟨over M.coils a B, M.inputs, over M.holding a (W.take i), M.words⟩) (fun iv _ => nw - (intOf iv).toNat)
      case atStart => exact ⟨0, by omega, rfl, D, by rw [List.take_zero, over_nil]; exact I4.out⟩
      case round =>
        obtain ⟨i, hi, rfl, D, I⟩ := hrel
        have HI := Lib.hid I
        obtain ⟨o0, o1, o2, o3⟩ := row4 D.o
        obtain ⟨r0, r1, r2, r3, r4, r5⟩ := row6 D.r
        by_cases hlt : (i : Int) < (nw : Int)
        · have hin : a + nw ≤ M.holding.length := HINW.out (by omega)
          have HOL := Lib.hid (show (over M.holding a (W.take i)).length = M.holding.length from over_length (.inr (by have := QW.out; simp only [List.length_take]; omega)))
          obtain ⟨b, o, eB, hbl, d1⟩ := (HW.out.to D.bel).2 (by omega)
          subst eB
          have g1 := (d1 i (by omega)).trans (ws_get (by rw [QW.out]; omega))
          obtain ⟨gA, cur, eA, hgr, gc, gf, hg5, hgl, hct, hcm⟩ := I.c.cellAt (i := a + i) (by show _ < (over M.holding a (W.take i)).length; rw [HOL.out]; omega)
          subst eA
          have gx := gc.trans (ws_get (l := over M.holding a (W.take i)) (j := a + i) (by rw [HOL.out]; omega))
          have HSN := Lib.hid (over_snoc (l := M.holding) (k := a) (j := i) (v := W) (x := W[i]?.getD 0) (by rw [QW.out]; omega) (by rw [List.getElem?_eq_getElem (by rw [QW.out]; omega)]; rfl))
          have HPT := Lib.hid (fun x => I.putC (i := a + i) (by show _ < (over M.holding a (W.take i)).length; rw [HOL.out]; omega) x)
          have HDG := Lib.hid (fun x => (D.grown (grown_setCell wr gA (a + i) x) (fun j e => by injection e with e; subst e; exact ⟨by omega, fun e => HOff.out.c (by rw [← e]; rfl)⟩)).drew)
          have hJn : a + i < n3 := by have := HN3.out; omega
          have wJ : IntKind.i64.wrap ((a : Int) + (i : Int)) = ((a + i : Nat) : Int) := by rw [IntKind.wrap_i64]; omega
          obtain ⟨J, eJ⟩ : ∃ J, J = a + i := ⟨_, rfl⟩
          rw [← eJ] at gx gf HSN HPT HDG hJn wJ
          obtain ⟨x, ex⟩ : ∃ x, x = W[i]?.getD 0 := ⟨_, rfl⟩
          rw [← ex] at g1 HSN
          obtain ⟨z, ez⟩ : ∃ z, z = (over M.holding a (W.take i))[J]?.getD 0 := ⟨_, rfl⟩
          rw [← ez] at gx
          have z0 : (0 : Int) ≤ (i : Int) := by omega
          have z1 : (0 : Int) ≤ (J : Int) := by omega
          have z2 : (J : Int) < (n3 : Int) := by omega
          clear d1 gc hgr hct hcm I eJ ex ez hin D
          go_wp2_with fail
          go_region
          all_goals (
            go_wp2_with fail
            go_roundw
            case rel =>
              refine ⟨i + 1, by omega, by go_num, HDG.out _, ?_⟩
              have h := HPT.out x
              rw [HSN.out] at h
              exact h.drew
            case measure => simp [intOf]; omega)
        · obtain rfl : nw = i := by omega
          rw [List.take_of_length_le (by rw [QW.out]; exact Nat.le_refl _)] at I
          have I5 := Lib.hid I
          clear I HI
          go_wp2_with fail
          refine (KE.out wr D.bel).mono ?_
          rintro e w7 h7
          obtain ⟨Ab7, nb7, cb7, Aw7, nw7, cw7, rfl, SB7, SW7, kb7, kw7, fb7, fw7, b7⟩ := h7.out
          have D7 := D.call b7
          have I7 := Lib.hid (I5.out.to b7)
          have hbs := D.bel.size
          have hb5 : W5.heap.size ≤ wr.heap.size := I5.out.a.bel.size
          have fb := Lib.hid fb7
          have fw := Lib.hid fw7
          have SB := Lib.hid SB7
          have SW := Lib.hid SW7
          have hq7 := row_lt D7.q
          have n71 : w7.heap.size ≠ w.heap.size + 1 + 1 + 1 := by omega
          have n72 : w.heap.size + 1 + 1 + 1 ≠ w7.heap.size := by omega
          have n73 : w7.heap.size ≠ w.heap.size + 1 + 1 + 1 + 1 := by omega
          have n74 : w.heap.size + 1 + 1 + 1 + 1 ≠ w7.heap.size := by omega
          clear h7 b7 I5 D fb7 fw7 SB7 SW7 o0 o1 o2 o3 r0 r1 r2 r3 r4 r5
          go_wp2_with (first
            | (refine wpList_store_grown rfl 40 (.tmp 13) _ rfl w7.heap.size #[.int .u8 (ef : Nat), .int .u8 (ex : Nat), .slice Ab7 nb7 cb7, .slice Aw7 nw7 cw7, .int .u16 (ea : Nat), .int .u16 (em : Nat)] rfl rfl 40 _ (heap_alloc_new w7 _) (by kernel_rfl) rfl (by simp [Value.oneCell']) ?_; intro W8 h8 g8 s8; have D8 := D7.made g8; have I8 := Lib.hid (I7.out.made g8); have SB8 := Lib.hid (SB.out.grownNew g8); have SW8 := Lib.hid (SW.out.grownNew g8); obtain ⟨x0, x1, x2, x3, x4, x5⟩ := row6 h8; clear g8 s8 D7; obtain ⟨o0, o1, o2, o3⟩ := row4 D8.o; obtain ⟨r0, r1, r2, r3, r4, r5⟩ := row6 D8.r; obtain ⟨p0, p1, p2, p3⟩ := row4 D8.p; obtain ⟨pf0, pf1, pf2, pf3⟩ := free4 D8.p; obtain ⟨q0, q1, q2, q3, q4, q5⟩ := row6 D8.q; obtain ⟨qf0, qf1, qf2, qf3, qf4, qf5⟩ := free6 D8.q)
            | (refine wpList_store_grown rfl 40 (.tmp 15) _ rfl W8.heap.size #[.int .u8 (f : Nat), .int .u8 0, .slice none 0 0, .slice none 0 0, .int .u16 0, .int .u16 0] rfl rfl 40 _ (heap_alloc_new W8 _) (by kernel_rfl) rfl (by simp [Value.oneCell']) ?_; intro W9 h9 g9 s9; have D9 := D8.made g9; have I9 := Lib.hid (I8.out.made g9); have HOF8 := Lib.hid (I8.out.off (Nat.le_refl _)); have h19 := row_lt D8.o; have h18 := D8.hg; have HOFF := Lib.hid (fun b (hb : W9.heap.size ≤ b) => I9.out.off hb); have hs98 : W9.heap.size = W8.heap.size + 1 := (by rw [s9]; simp); have HSZ := Lib.hid (show w.heap.size + 5 ≤ w1.heap.size ∧ w1.heap.size < W8.heap.size ∧ W9.heap.size = W8.heap.size + 1 ∧ W5.heap.size = w.heap.size + 5 from ⟨h18, h19, hs98, sz5⟩); clear h18 h19 g9 s9 D8 I8 o0 o1 o2 o3 r0 r1 r2 r3 r4 r5 p0 p1 p2 p3 pf0 pf1 pf2 pf3 q0 q1 q2 q3 q4 q5 qf0 qf1 qf2 qf3 qf4 qf5; obtain ⟨r0, r1, r2, r3, r4, r5⟩ := row6 D9.r)
            | fail)
          have HNN := Lib.hid (show n2 = N.inputs.length from by rw [HN2.out, HLF.out])
          have HSZ0 := HSZ.out
          have h98 : W9.heap.size = W8.heap.size + 1 := HSZ0.2.2.1
          have I9 := Lib.hid (show MmIs W5 W9 (.slice A1 n1 c1) (.slice A2 n2 c2) (.slice A3 n3 c3) (.slice A4 n4 c4) N from by rw [HNM.out]; exact I9.out)
          go_loopw [16] (fun iv wr => ∃ (j : Nat) (zv : Value), j ≤ m ∧ iv = .int .i64 ((a + j : Nat) : Int) ∧ Ds w wr w1.heap.size #[.slice v.a.A v.a.n v.a.c, .slice v.b.A v.b.n v.b.c, .slice v.c.A v.c.n v.c.c, .slice v.d.A v.d.n v.d.c] #[.slice u.a.A u.a.n u.a.c, .slice u.b.A u.b.n u.b.c, .slice u.c.A u.c.n u.c.c, .slice u.d.A u.d.n u.d.c] #[.int .u8 f, .int .u16 a, .int .u16 m, .int .u16 t, .slice Aw nw cw, .slice Ab nb cb] #[.slice A1 n1 c1, .slice A2 n2 c2, .slice A3 n3 c3, .slice A4 n4 c4] ∧ MmIs W5 wr (.slice A1 n1 c1) (.slice A2 n2 c2) (.slice A3 n3 c3) (.slice A4 n4 c4) N ∧ Has W5 wr 4 zv j (bl (slab N.inputs a j)) ∧ (∀ b, zv.ownBlock = some b → W9.heap.size ≤ b) ∧ wr.heap[W8.heap.size]? = some (.cells #[.int .u8 (f : Nat), .int .u8 0, zv, .slice none 0 0, .int .u16 0, .int .u16 0] 40 (0, 0)) ∧ W9.heap.size ≤ wr.heap.size) (fun iv _ => a + m - (intOf iv).toNat)
          case atStart => exact ⟨0, .slice none 0 0, by omega, rfl, D9, I9.out, by simpa [slab, bl] using Has.nil_ I9.out.a.bel 4, fun b h => by simp [Value.ownBlock] at h, h9, Nat.le_refl _⟩
          case round =>
            obtain ⟨j, zv, hj, rfl, D, I, H, hv, hk, h99⟩ := hrel
            obtain ⟨o0, o1, o2, o3⟩ := row4 D.o
            obtain ⟨r0, r1, r2, r3, r4, r5⟩ := row6 D.r
            have waj : IntKind.i64.wrap (((a + j : Nat) : Int) + 1) = ((a + (j + 1) : Nat) : Int) := by rw [IntKind.wrap_i64]; omega
            by_cases hlt : ((a + j : Nat) : Int) < ((a + m : Nat) : Int)
            · have hjm : j < m := by omega
              obtain ⟨gA, cur, eA, hgr, gc, gf, hg5, hgl, hct, hcm⟩ := I.b.cellAt (i := a + j) (by have := HIN.out; omega)
              subst eA
              have gx := gc.trans (bl_get (l := N.inputs) (j := a + j) (by have := HIN.out; omega))
              have HSN := Lib.hid (slab_snoc (l := N.inputs) (k := a) (n := j) (x := N.inputs[a + j]?.getD false) (by rw [List.getElem?_eq_getElem (by have := HIN.out; omega)]; rfl))
              have hJn : a + j < n2 := by have := HNN.out; have := HIN.out; omega
              obtain ⟨J, eJ⟩ : ∃ J, J = a + j := ⟨_, rfl⟩
              rw [← eJ] at gx gf HSN hJn waj hlt ⊢
              obtain ⟨x, ex⟩ : ∃ x, x = N.inputs[J]?.getD false := ⟨_, rfl⟩
              rw [← ex] at gx HSN
              have z1 : (0 : Int) ≤ (J : Int) := by omega
              have z2 : (J : Int) < (n2 : Int) := by omega
              have HI := Lib.hid I
              have HD' := Lib.hid D
              obtain ⟨k0, k1, k2, k3, k4, k5⟩ := row6 hk
              obtain ⟨kf0, kf1, kf2, kf3, kf4, kf5⟩ := free6 hk
              have slt : W8.heap.size < wr.heap.size := by omega
              have slt2 := row_lt D.o
              have sne3 : ¬ wr.heap.size = W8.heap.size := by omega
              have sne4 : ¬ W8.heap.size = wr.heap.size := by omega
              have HEJ := Lib.hid eJ
              clear gc hgr hct hcm I eJ ex D
              go_wp2_with fail
              go_region_law (first
                | (refine step_app eb rfl (.tmp 135) (.tmp 141) rfl (H.drew.alloc _) rfl (Sl.new1 _ _ _) rfl (by simp [Value.oneCell']) (by omega) (by simp only [maxLen]; omega) ?_; intro v4 w4 H5 g4 o4; obtain ⟨A5, cc5, rfl, hc5, -, -⟩ := H5.slice; have hk4 := grown_kept g4 hv (row_alloc hk _) (by omega); obtain ⟨k0, k1, k2, k3, k4, k5⟩ := row6 hk4; obtain ⟨kf0, kf1, kf2, kf3, kf4, kf5⟩ := free6 hk4)
                | fail)
              all_goals (
                have hv4 : ∀ b, (Value.slice A5 (j + 1) cc5).ownBlock = some b → W9.heap.size ≤ b := fun b hb => by
                  rcases o4 with o4 | o4
                  · exact hv b (by rw [← o4]; exact hb)
                  · rw [o4] at hb; injection hb with hb; simp at hb; omega
                have D4 := ((HD'.out.drew.call ((Below.refl _ _).new _)).grown g4 (fun b hb => ⟨by have := hv b hb; have := HSZ.out; omega, by have := hv b hb; have := HSZ.out; omega⟩)).grown (grown_setCell w4 W8.heap.size 2 (.slice A5 (j + 1) cc5)) (fun b hb => by injection hb with hb; have := HSZ.out; omega)
                have I4' := ((HI.out.drew.to ((Below.refl _ _).new _)).app g4 (fun b hb => ⟨by have := hv b hb; have := HSZ.out; omega, HOFF.out b (hv b hb)⟩)).grown (grown_setCell w4 W8.heap.size 2 (.slice A5 (j + 1) cc5)) HOF8.out (by have := HSZ.out; omega)
                have hk5 := heap_setCell_same w4 W8.heap.size 2 _ _ (.slice A5 (j + 1) cc5) hk4
                have hs4 := g4.size
                go_wp2_with fail
                go_roundw
                case rel =>
                  refine ⟨j + 1, .slice A5 (j + 1) cc5, by omega, by go_num, D4, I4', ?_, hv4, hk5, by simp [World.setCell] at hs4 ⊢; omega⟩
                  rw [HSN.out, ← bl_append]
                  exact H5.other (grown_setCell w4 W8.heap.size 2 _) (by have := HSZ.out; omega) (fun e => by have := hv4 _ e; omega)
                case measure => simp [intOf]; have := HEJ.out; omega)
            · obtain rfl : m = j := by omega
              go_wp2_with fail
              clear o0 o1 o2 o3 r0 r1 r2 r3 r4 r5
              go_loopw [157] (fun _ w4 => ∃ (i : Nat) (zv : Value), i ≤ PD ∧ Ds w w4 w1.heap.size #[.slice v.a.A v.a.n v.a.c, .slice v.b.A v.b.n v.b.c, .slice v.c.A v.c.n v.c.c, .slice v.d.A v.d.n v.d.c] #[.slice u.a.A u.a.n u.a.c, .slice u.b.A u.b.n u.b.c, .slice u.c.A u.c.n u.c.c, .slice u.d.A u.d.n u.d.c] #[.int .u8 f, .int .u16 a, .int .u16 m, .int .u16 t, .slice Aw nw cw, .slice Ab nb cb] #[.slice A1 n1 c1, .slice A2 n2 c2, .slice A3 n3 c3, .slice A4 n4 c4] ∧ MmIs W5 w4 (.slice A1 n1 c1) (.slice A2 n2 c2) (.slice A3 n3 c3) (.slice A4 n4 c4) N ∧ Has W5 w4 4 zv (m + i) (bl (slab N.inputs a m ++ List.replicate i false)) ∧ (∀ b, zv.ownBlock = some b → W9.heap.size ≤ b) ∧ w4.heap[W8.heap.size]? = some (.cells #[.int .u8 (f : Nat), .int .u8 0, zv, .slice none 0 0, .int .u16 0, .int .u16 0] 40 (0, 0)) ∧ W9.heap.size ≤ w4.heap.size) (fun _ w4 => m + 8 - bitsAt w4 W8.heap.size)
              case atStart => exact ⟨0, zv, by omega, D, I, by simpa using H, hv, hk, h99⟩
              case round =>
                clear hk hv H D I h99
                clear zv
                obtain ⟨i, zv, hi, D, I, H, hv, hk, h99⟩ := hrel
                obtain ⟨A6, cc6, rfl, hc6, S6, -⟩ := H.slice
                obtain ⟨k0, k1, k2, k3, k4, k5⟩ := row6 hk
                obtain ⟨kf0, kf1, kf2, kf3, kf4, kf5⟩ := free6 hk
                have hmod : Int.tmod ((m + i : Nat) : Int) 8 = (((m + i) % 8 : Nat) : Int) := by rw [Int.tmod_eq_emod_of_nonneg (by omega)]; omega
                by_cases hlt : i < PD
                · have hne : ((((m + i) % 8 : Nat) : Int) != 0) = true := by rw [bne_iff_ne]; have := HPD.out; omega
                  have HRP := Lib.hid (show List.replicate (i + 1) false = List.replicate i false ++ [false] from by rw [List.replicate_succ'])
                  have HMI := Lib.hid (show m + i + 1 = m + (i + 1) by omega)
                  have hmi : m + i ≤ 4000 := by have := HPD.out; omega
                  have HLT := Lib.hid hlt
                  have HBA := Lib.hid (bitsAt_row hk)
                  obtain ⟨L, eL⟩ : ∃ L, L = m + i := ⟨_, rfl⟩
                  rw [← eL] at hmod hne H hk k2 HMI hmi S6 hc6 hv HBA
                  have HEL := Lib.hid eL
                  obtain ⟨r8, er8⟩ : ∃ r8, r8 = L % 8 := ⟨_, rfl⟩
                  rw [← er8] at hmod hne
                  clear hlt eL er8
                  go_wp2_with (at_builtin; refine wpList_app eb rfl (.tmp 162) (.tmp 163) rfl (H.alloc _) rfl (Sl.new1 _ _ _) rfl (by simp [Value.oneCell']) (by omega) (by simp only [maxLen]; omega) ?_; intro v4 w4 H5 g4 o4; obtain ⟨A5, cc5, rfl, hc5, -, -⟩ := H5.slice; have hk4 := grown_kept g4 hv (row_alloc hk _) (by omega); obtain ⟨k0, k1, k2, k3, k4, k5⟩ := row6 hk4; obtain ⟨kf0, kf1, kf2, kf3, kf4, kf5⟩ := free6 hk4)
                  have hv4 : ∀ b, (Value.slice A5 (L + 1) cc5).ownBlock = some b → W9.heap.size ≤ b := fun b hb => by
                    rcases o4 with o4 | o4
                    · exact hv b (by rw [← o4]; exact hb)
                    · rw [o4] at hb; injection hb with hb; simp at hb; omega
                  have D4 := ((D.call ((Below.refl _ _).new _)).grown g4 (fun b hb => ⟨by have := hv b hb; have := HSZ.out; omega, by have := hv b hb; have := HSZ.out; omega⟩)).grown (grown_setCell w4 W8.heap.size 2 (.slice A5 (L + 1) cc5)) (fun b hb => by injection hb with hb; have := HSZ.out; omega)
                  have I4' := ((I.to ((Below.refl _ _).new _)).app g4 (fun b hb => ⟨by have := hv b hb; have := HSZ.out; omega, HOFF.out b (hv b hb)⟩)).grown (grown_setCell w4 W8.heap.size 2 (.slice A5 (L + 1) cc5)) HOF8.out (by have := HSZ.out; omega)
                  have hk5 := heap_setCell_same w4 W8.heap.size 2 _ _ (.slice A5 (L + 1) cc5) hk4
                  have hs4 := g4.size
                  go_roundw
                  case rel =>
                    refine ⟨i + 1, .slice A5 (L + 1) cc5, by have := HLT.out; omega, D4, I4', ?_, hv4, hk5, by simp [World.setCell] at hs4 ⊢; omega⟩
                    rw [HRP.out, ← List.append_assoc, ← bl_append, ← HMI.out]
                    exact H5.other (grown_setCell w4 W8.heap.size 2 _) (by have := HSZ.out; omega) (fun e => by have := hv4 _ e; omega)
                  case measure =>
                    rw [bitsAt_row hk5, HBA.out]
                    have h1 := HEL.out
                    have h2 := HPD.out
                    have h3 := HLT.out
                    omega
                · obtain rfl : PD = i := by omega
                  have hne : ((((m + PD) % 8 : Nat) : Int) != 0) = false := by rw [bne_eq_false_iff_eq]; have := HPD.out; omega
                  obtain ⟨o0, o1, o2, o3⟩ := row4 D.o
                  obtain ⟨k0, k1, k2, k3, k4, k5⟩ := row6 hk
                  obtain ⟨p0, p1, p2, p3⟩ := row4 D.p
                  obtain ⟨pf0, pf1, pf2, pf3⟩ := free4 D.p
                  obtain ⟨q0, q1, q2, q3, q4, q5⟩ := row6 D.q
                  obtain ⟨qf0, qf1, qf2, qf3, qf4, qf5⟩ := free6 D.q
                  have n71 : W8.heap.size ≠ w.heap.size + 1 + 1 + 1 := by have := HSZ.out; omega
                  have n72 : w.heap.size + 1 + 1 + 1 ≠ W8.heap.size := by have := HSZ.out; omega
                  have n73 : W8.heap.size ≠ w.heap.size + 1 + 1 + 1 + 1 := by have := HSZ.out; omega
                  have n74 : w.heap.size + 1 + 1 + 1 + 1 ≠ W8.heap.size := by have := HSZ.out; omega
                  go_wp2_with fail
                  go_region
                  all_goals (
                    go_wp2_with fail
                    have F := D.fin HSZ.out.2.2.2 (.slice A1 n1 c1) (.slice A2 n2 c2) (.slice A3 n3 c3) (.slice A4 n4 c4) (.int .u8 (f : Nat)) (.int .u8 0) (.slice A6 (m + PD) cc6) (.slice none 0 0) (.int .u16 0) (.int .u16 0)
                    refine bodyPost_rows rfl _ _ 28 40 #[.slice A1 n1 c1, .slice A2 n2 c2, .slice A3 n3 c3, .slice A4 n4 c4] #[.int .u8 (f : Nat), .int .u8 0, .slice A6 (m + PD) cc6, .slice none 0 0, .int .u16 0, .int .u16 0] (0, 0) (0, 0) _ _ rfl F.p Tryz.underlying28 rfl (by kernel_rfl) rfl F.q Tryz.underlying40 rfl (by kernel_rfl) rfl ?_
                    rw [HD.out, HWR.out, HAN.out, HP8.out]
                    exact ⟨⟨⟨A1, n1, c1⟩, ⟨A2, n2, c2⟩, ⟨A3, n3, c3⟩, ⟨A4, n4, c4⟩⟩, A6, m + PD, cc6, none, 0, 0, rfl, ⟨Sl.of_own (F.own I.a.own'), Sl.of_own (F.own I.b.own'), Sl.of_own (F.own I.c.own'), Sl.of_own (F.own I.d.own')⟩, F.sl S6 (fun b o e => by have := hv b (by rw [e]; rfl); have := HSZ.out; omega), Sl.empty _ _ _, hc6, Nat.le_refl _, F.bel, (New.of I.a).mono (by have := HSZ.out; omega), (New.of I.b).mono (by have := HSZ.out; omega), (New.of I.c).mono (by have := HSZ.out; omega), (New.of I.d).mono (by have := HSZ.out; omega), (fun b o e => by have := hv b (by rw [e]; rfl); have := HSZ.out; omega), New.none _⟩)
end Go.Proofs.YtjfhfgchglaoiaaGreat.MoW
