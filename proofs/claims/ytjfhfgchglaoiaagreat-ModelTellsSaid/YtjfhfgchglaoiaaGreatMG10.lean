/- Merged: MoS MoT MoU. -/
import Derived.Test.YtjfhfgchglaoiaaGreatMoQ
import Derived.Test.YtjfhfgchglaoiaaGreatMG3
import Derived.Test.YtjfhfgchglaoiaaGreatRepI
import Derived.Test.YtjfhfgchglaoiaaGreatMG12
/- The walk of ModelSwap. -/
set_option linter.unusedVariables false
set_option linter.unusedSimpArgs false
namespace Go.Proofs.YtjfhfgchglaoiaaGreat.MoW
open Go.RowKit Go.Proofs.YtjfhfgchglaoiaaGreat Go.Proofs.YtjfhfgchglaoiaaGreat.Mo Go.Proofs.YtjfhfgchglaoiaaGreat.Ask Go.Proofs.YtjfhfgchglaoiaaGreat.AskW
theorem light_small {v u : Sp} (h : lightF v u = true) : v.Small ∧ u.Small ∧ u.a.n ≤ 300 ∧ u.b.n ≤ 300 ∧ u.c.n ≤ 300 ∧ u.d.n ≤ 300 := by
  unfold lightF at h
  simp only [Bool.and_eq_true, decide_eq_true_iff] at h
  exact ⟨⟨by omega, by omega, by omega, by omega⟩, ⟨by omega, by omega, by omega, by omega⟩, h.2.1, h.2.2.1, h.2.2.2.1, h.2.2.2.2⟩
theorem do_small {s : Space} {m N : Mem} {r : Req} {p : Rep} {u : Sp} {w : World} (e : (N, p) = doM s m r) (su : u.Small) (h : MmOk w u m) : N.coils.length ≤ 100000 ∧ N.inputs.length ≤ 100000 ∧ N.holding.length ≤ 100000 ∧ N.words.length ≤ 100000 := by
  have e2 : N = (doM s m r).1 := by rw [← e]
  have hl := do_len s m r
  have h4 := h.lens
  rw [e2, hl.1, hl.2.1, hl.2.2.1, hl.2.2.2, h4.1, h4.2.1, h4.2.2.1, h4.2.2.2]
  exact ⟨su.a, su.b, su.c, su.d⟩
theorem small_of {y : Sp} {N : Mem} {w : World} (h : MmOk w y N) (l : N.coils.length ≤ 100000 ∧ N.inputs.length ≤ 100000 ∧ N.holding.length ≤ 100000 ∧ N.words.length ≤ 100000) : y.Small := by
  have h4 := h.lens
  rw [h4.1, h4.2.1, h4.2.2.1, h4.2.2.2] at l
  exact ⟨l.1, l.2.1, l.2.2.1, l.2.2.2⟩
end Go.Proofs.YtjfhfgchglaoiaaGreat.MoW
/- The walk of ModelServes. -/
set_option linter.unusedVariables false
set_option linter.unusedSimpArgs false
namespace Go.Proofs.YtjfhfgchglaoiaaGreat.MoW
open Go.RowKit Go.Proofs.YtjfhfgchglaoiaaGreat Go.Proofs.YtjfhfgchglaoiaaGreat.Mo Go.Proofs.YtjfhfgchglaoiaaGreat.Ask Go.Proofs.YtjfhfgchglaoiaaGreat.AskW
theorem below_one {X Y : World} {o : Obj} (g : (X.alloc o).grownBy Y (some X.heap.size)) : Below X.heap.size X Y :=
  ((Below.refl X.heap.size X).new o).grown g (by simp) (fun j e => by injection e with e; omega)
theorem rep_same_true {pf px pa pm f2 x2 a2 m2 : Nat} {pB B2 : List Bool} {pW W2 : List Nat} (h : (⟨pf, px, pB, pW, pa, pm⟩ : Rep) = ⟨f2, x2, B2, W2, a2, m2⟩) : (pf == f2 && px == x2 && pa == a2 && pm == m2 && pB == B2 && pW == W2) = true := by
  injection h with h1 h2 h3 h4 h5 h6
  subst h1 h2 h3 h4 h5 h6
  simp
theorem Sl.nil_to {w w' : World} {B B' n : Nat} {A : Option Addr} (h : Sl w B A n []) : Sl w' B' A n [] := by
  have e : n = 0 := by have := h.len; simpa using this.symm
  subst e
  exact Sl.empty _ _ _
end Go.Proofs.YtjfhfgchglaoiaaGreat.MoW
/- The walk of ModelTells. -/
set_option linter.unusedVariables false
set_option linter.unusedSimpArgs false
namespace Go.Proofs.YtjfhfgchglaoiaaGreat.MoW
open Go.RowKit Go.Proofs.YtjfhfgchglaoiaaGreat Go.Proofs.YtjfhfgchglaoiaaGreat.Mo Go.Proofs.YtjfhfgchglaoiaaGreat.Ask Go.Proofs.YtjfhfgchglaoiaaGreat.AskW
theorem four_boxes {w X : World} {a b c d : Obj} (h : Below ((((w.alloc a).alloc b).alloc c).alloc d).heap.size ((((w.alloc a).alloc b).alloc c).alloc d) X) :
    X.heap[w.heap.size]? = some a ∧ X.heap[w.heap.size + 1]? = some b ∧ X.heap[w.heap.size + 1 + 1]? = some c ∧ X.heap[w.heap.size + 1 + 1 + 1]? = some d ∧ Below w.heap.size w X := by
  have e : ((((w.alloc a).alloc b).alloc c).alloc d).heap.size = w.heap.size + 1 + 1 + 1 + 1 := by simp
  have r1 := row_alloc (row_alloc (row_alloc (heap_alloc_new w a) b) c) d
  have r2 := row_alloc (row_alloc (heap_alloc2_new w a b) c) d
  have r3 := row_alloc (row_third w a b c) d
  have r4 : ((((w.alloc a).alloc b).alloc c).alloc d).heap[w.heap.size + 1 + 1 + 1]? = some d := by
    rw [show w.heap.size + 1 + 1 + 1 = (((w.alloc a).alloc b).alloc c).heap.size from by simp]
    exact heap_alloc_new _ _
  exact ⟨h.row (by omega) r1, h.row (by omega) r2, h.row (by omega) r3, h.row (by omega) r4, (((((Below.refl _ w).new _).new _).new _).new _).call h⟩
theorem MmIs.mm {w0 w : World} {va vb vc vd : Value} {M : Mem} (h : MmIs w0 w va vb vc vd M) : ∃ y : Sp, va = .slice y.a.A y.a.n y.a.c ∧ vb = .slice y.b.A y.b.n y.b.c ∧ vc = .slice y.c.A y.c.n y.c.c ∧ vd = .slice y.d.A y.d.n y.d.c ∧ MmOk w y M := by
  obtain ⟨A1, c1, e1, _, S1, _⟩ := h.a.slice
  obtain ⟨A2, c2, e2, _, S2, _⟩ := h.b.slice
  obtain ⟨A3, c3, e3, _, S3, _⟩ := h.c.slice
  obtain ⟨A4, c4, e4, _, S4, _⟩ := h.d.slice
  exact ⟨⟨⟨A1, _, c1⟩, ⟨A2, _, c2⟩, ⟨A3, _, c3⟩, ⟨A4, _, c4⟩⟩, e1, e2, e3, e4, ⟨S1, S2, S3, S4⟩⟩
set_option maxRecDepth 10000 in
set_option maxHeartbeats 16000000 in
theorem modelTells_any (v u o : Sp) (s : Space) (M O : Mem) (f a m t : Nat) (Aw : Option Addr) (nw cw : Nat) (Ab : Option Addr) (nb cb : Nat) (W : List Nat) (B : List Bool) (A : Option Addr) (k c : Nat) (xs : List Nat) (w : World) (hS : SpOk w v s) (hM : MmOk w u M) (hO : MmOk w o O) (ho : s.Ok) (hm : M.Wf)
    (hv : v.a.n ≤ 140737488355328 ∧ v.b.n ≤ 140737488355328 ∧ v.c.n ≤ 140737488355328 ∧ v.d.n ≤ 140737488355328) (hW : Sl w w.heap.size Aw nw (ws W)) (hB : Sl w w.heap.size Ab nb (bl B)) (hwf : Req.Wf ⟨f, a, m, t, W, B⟩) (hs : Sl w w.heap.size A k (bs xs)) (hx : Bytes xs) (hc : k ≤ c) :
    Calls Tryz.prog 3 #[.agg #[.slice v.a.A v.a.n v.a.c, .slice v.b.A v.b.n v.b.c, .slice v.c.A v.c.n v.c.c, .slice v.d.A v.d.n v.d.c], .agg #[.slice u.a.A u.a.n u.a.c, .slice u.b.A u.b.n u.b.c, .slice u.c.A u.c.n u.c.c, .slice u.d.A u.d.n u.d.c], .agg #[.slice o.a.A o.a.n o.a.c, .slice o.b.A o.b.n o.b.c, .slice o.c.A o.c.n o.c.c, .slice o.d.A o.d.n o.d.c], .agg #[.int .u8 (f : Nat), .int .u16 (a : Nat), .int .u16 (m : Nat), .int .u16 (t : Nat), .slice Aw nw cw, .slice Ab nb cb], .slice A k c] w fun e w' => e = .returned (.bool true) ∧ Below w.heap.size w w' := by
  cases hL : lightF v u
  case false =>
    go_enter Tryz.func3, Tryz.ntmps3
    go_wp2_with fail
    refine (light_any v u _ hv).mono ?_
    rintro e w1 ⟨rfl, b1⟩
    obtain ⟨X1, X2, X3, X4, bw⟩ := four_boxes b1
    have HS := Lib.hid (hS.to bw)
    have HM := Lib.hid (hM.to bw)
    have HO := Lib.hid (hO.to bw)
    have HW := Lib.hid (hW.to bw)
    have HB := Lib.hid (hB.to bw)
    have HA := Lib.hid (hs.to bw)
    have Bs := Lib.hid X1
    have Bm := Lib.hid X2
    have Bo := Lib.hid X3
    have Bq := Lib.hid X4
    clear b1 X1 X2 X3 X4 hS hM hO hW hB hs
    rw [hL]
    obtain ⟨Bs_0, Bs_1, Bs_2, Bs_3⟩ := row4 Bs.out
    obtain ⟨Bm_0, Bm_1, Bm_2, Bm_3⟩ := row4 Bm.out
    obtain ⟨Bo_0, Bo_1, Bo_2, Bo_3⟩ := row4 Bo.out
    obtain ⟨Bq_0, Bq_1, Bq_2, Bq_3, Bq_4, Bq_5⟩ := row6 Bq.out
    go_wp2_with (go_at_call 6; refine (awake7_any _).mono ?_; rintro e wa ⟨rfl, ba⟩)
    go_ret
    exact ⟨rfl, bw.call ba⟩
  case true =>
    obtain ⟨sv, su, l1, l2, l3, l4⟩ := light_small hL
    cases hL2 : lightF v o
    case false =>
      go_enter Tryz.func3, Tryz.ntmps3
      go_wp2_with fail
      refine (light_any v u _ hv).mono ?_
      rintro e w1 ⟨rfl, b1⟩
      obtain ⟨X1, X2, X3, X4, bw⟩ := four_boxes b1
      have HS := Lib.hid (hS.to bw)
      have HM := Lib.hid (hM.to bw)
      have HO := Lib.hid (hO.to bw)
      have HW := Lib.hid (hW.to bw)
      have HB := Lib.hid (hB.to bw)
      have HA := Lib.hid (hs.to bw)
      have Bs := Lib.hid X1
      have Bm := Lib.hid X2
      have Bo := Lib.hid X3
      have Bq := Lib.hid X4
      clear b1 X1 X2 X3 X4 hS hM hO hW hB hs
      rw [hL]
      obtain ⟨Bs_0, Bs_1, Bs_2, Bs_3⟩ := row4 Bs.out
      obtain ⟨Bm_0, Bm_1, Bm_2, Bm_3⟩ := row4 Bm.out
      obtain ⟨Bo_0, Bo_1, Bo_2, Bo_3⟩ := row4 Bo.out
      obtain ⟨Bq_0, Bq_1, Bq_2, Bq_3, Bq_4, Bq_5⟩ := row6 Bq.out
      go_wp2_with fail
      refine (light_any v o _ hv).mono ?_
      rw [hL2]
      rintro e w2 ⟨rfl, b2⟩
      clear Bs_0 Bs_1 Bs_2 Bs_3 Bm_0 Bm_1 Bm_2 Bm_3 Bo_0 Bo_1 Bo_2 Bo_3 Bq_0 Bq_1 Bq_2 Bq_3 Bq_4 Bq_5
      have HS := Lib.hid (HS.out.to b2)
      have HM := Lib.hid (HM.out.to b2)
      have HO := Lib.hid (HO.out.to b2)
      have HW := Lib.hid (HW.out.to b2)
      have HB := Lib.hid (HB.out.to b2)
      have HA := Lib.hid (HA.out.to b2)
      have Bs := Lib.hid (b2.row (row_lt Bs.out) Bs.out)
      have Bm := Lib.hid (b2.row (row_lt Bm.out) Bm.out)
      have Bo := Lib.hid (b2.row (row_lt Bo.out) Bo.out)
      have Bq := Lib.hid (b2.row (row_lt Bq.out) Bq.out)
      have bw := bw.call b2
      clear b2
      obtain ⟨Bs_0, Bs_1, Bs_2, Bs_3⟩ := row4 Bs.out
      obtain ⟨Bm_0, Bm_1, Bm_2, Bm_3⟩ := row4 Bm.out
      obtain ⟨Bo_0, Bo_1, Bo_2, Bo_3⟩ := row4 Bo.out
      obtain ⟨Bq_0, Bq_1, Bq_2, Bq_3, Bq_4, Bq_5⟩ := row6 Bq.out
      go_wp2_with (go_at_call 6; refine (awake7_any _).mono ?_; rintro e wa ⟨rfl, ba⟩)
      go_ret
      exact ⟨rfl, bw.call ba⟩
    case true =>
      obtain ⟨-, so, m1, m2, m3, m4⟩ := light_small hL2
      cases hL3 : (decide (nw ≤ 200) && decide (nb ≤ 2100))
      case false =>
        go_enter Tryz.func3, Tryz.ntmps3
        go_wp2_with fail
        refine (light_any v u _ hv).mono ?_
        rintro e w1 ⟨rfl, b1⟩
        obtain ⟨X1, X2, X3, X4, bw⟩ := four_boxes b1
        have HS := Lib.hid (hS.to bw)
        have HM := Lib.hid (hM.to bw)
        have HO := Lib.hid (hO.to bw)
        have HW := Lib.hid (hW.to bw)
        have HB := Lib.hid (hB.to bw)
        have HA := Lib.hid (hs.to bw)
        have Bs := Lib.hid X1
        have Bm := Lib.hid X2
        have Bo := Lib.hid X3
        have Bq := Lib.hid X4
        clear b1 X1 X2 X3 X4 hS hM hO hW hB hs
        rw [hL]
        obtain ⟨Bs_0, Bs_1, Bs_2, Bs_3⟩ := row4 Bs.out
        obtain ⟨Bm_0, Bm_1, Bm_2, Bm_3⟩ := row4 Bm.out
        obtain ⟨Bo_0, Bo_1, Bo_2, Bo_3⟩ := row4 Bo.out
        obtain ⟨Bq_0, Bq_1, Bq_2, Bq_3, Bq_4, Bq_5⟩ := row6 Bq.out
        go_wp2_with fail
        refine (light_any v o _ hv).mono ?_
        rw [hL2]
        rintro e w2 ⟨rfl, b2⟩
        clear Bs_0 Bs_1 Bs_2 Bs_3 Bm_0 Bm_1 Bm_2 Bm_3 Bo_0 Bo_1 Bo_2 Bo_3 Bq_0 Bq_1 Bq_2 Bq_3 Bq_4 Bq_5
        have HS := Lib.hid (HS.out.to b2)
        have HM := Lib.hid (HM.out.to b2)
        have HO := Lib.hid (HO.out.to b2)
        have HW := Lib.hid (HW.out.to b2)
        have HB := Lib.hid (HB.out.to b2)
        have HA := Lib.hid (HA.out.to b2)
        have Bs := Lib.hid (b2.row (row_lt Bs.out) Bs.out)
        have Bm := Lib.hid (b2.row (row_lt Bm.out) Bm.out)
        have Bo := Lib.hid (b2.row (row_lt Bo.out) Bo.out)
        have Bq := Lib.hid (b2.row (row_lt Bq.out) Bq.out)
        have bw := bw.call b2
        clear b2
        obtain ⟨Bs_0, Bs_1, Bs_2, Bs_3⟩ := row4 Bs.out
        obtain ⟨Bm_0, Bm_1, Bm_2, Bm_3⟩ := row4 Bm.out
        obtain ⟨Bo_0, Bo_1, Bo_2, Bo_3⟩ := row4 Bo.out
        obtain ⟨Bq_0, Bq_1, Bq_2, Bq_3, Bq_4, Bq_5⟩ := row6 Bq.out
        go_wp2_with fail
        refine (few_any Aw Ab nw cw nb cb _).mono ?_
        rw [hL3]
        rintro e w3 ⟨rfl, rfl⟩
        go_wp2_with (go_at_call 6; refine (awake7_any _).mono ?_; rintro e wa ⟨rfl, ba⟩)
        go_ret
        exact ⟨rfl, bw.call ba⟩
      case true =>
        by_cases h1 : (300 : Int) < (k : Int)
        · skip
          go_enter Tryz.func3, Tryz.ntmps3
          go_wp2_with fail
          refine (light_any v u _ hv).mono ?_
          rintro e w1 ⟨rfl, b1⟩
          obtain ⟨X1, X2, X3, X4, bw⟩ := four_boxes b1
          have HS := Lib.hid (hS.to bw)
          have HM := Lib.hid (hM.to bw)
          have HO := Lib.hid (hO.to bw)
          have HW := Lib.hid (hW.to bw)
          have HB := Lib.hid (hB.to bw)
          have HA := Lib.hid (hs.to bw)
          have Bs := Lib.hid X1
          have Bm := Lib.hid X2
          have Bo := Lib.hid X3
          have Bq := Lib.hid X4
          clear b1 X1 X2 X3 X4 hS hM hO hW hB hs
          rw [hL]
          obtain ⟨Bs_0, Bs_1, Bs_2, Bs_3⟩ := row4 Bs.out
          obtain ⟨Bm_0, Bm_1, Bm_2, Bm_3⟩ := row4 Bm.out
          obtain ⟨Bo_0, Bo_1, Bo_2, Bo_3⟩ := row4 Bo.out
          obtain ⟨Bq_0, Bq_1, Bq_2, Bq_3, Bq_4, Bq_5⟩ := row6 Bq.out
          go_wp2_with fail
          refine (light_any v o _ hv).mono ?_
          rw [hL2]
          rintro e w2 ⟨rfl, b2⟩
          clear Bs_0 Bs_1 Bs_2 Bs_3 Bm_0 Bm_1 Bm_2 Bm_3 Bo_0 Bo_1 Bo_2 Bo_3 Bq_0 Bq_1 Bq_2 Bq_3 Bq_4 Bq_5
          have HS := Lib.hid (HS.out.to b2)
          have HM := Lib.hid (HM.out.to b2)
          have HO := Lib.hid (HO.out.to b2)
          have HW := Lib.hid (HW.out.to b2)
          have HB := Lib.hid (HB.out.to b2)
          have HA := Lib.hid (HA.out.to b2)
          have Bs := Lib.hid (b2.row (row_lt Bs.out) Bs.out)
          have Bm := Lib.hid (b2.row (row_lt Bm.out) Bm.out)
          have Bo := Lib.hid (b2.row (row_lt Bo.out) Bo.out)
          have Bq := Lib.hid (b2.row (row_lt Bq.out) Bq.out)
          have bw := bw.call b2
          clear b2
          obtain ⟨Bs_0, Bs_1, Bs_2, Bs_3⟩ := row4 Bs.out
          obtain ⟨Bm_0, Bm_1, Bm_2, Bm_3⟩ := row4 Bm.out
          obtain ⟨Bo_0, Bo_1, Bo_2, Bo_3⟩ := row4 Bo.out
          obtain ⟨Bq_0, Bq_1, Bq_2, Bq_3, Bq_4, Bq_5⟩ := row6 Bq.out
          go_wp2_with fail
          refine (few_any Aw Ab nw cw nb cb _).mono ?_
          rw [hL3]
          rintro e w3 ⟨rfl, rfl⟩
          go_wp2_with (go_at_call 6; refine (awake7_any _).mono ?_; rintro e wa ⟨rfl, ba⟩)
          go_ret
          exact ⟨rfl, bw.call ba⟩
        have T1 : decide ((300 : Int) < (k : Int)) = false := decide_eq_false h1
        have hk3 : k ≤ 300 := by omega
        have hnw : nw ≤ 200 ∧ nb ≤ 2100 := by simpa only [Bool.and_eq_true, decide_eq_true_iff] using hL3
        obtain ⟨RB, eRB⟩ : ∃ R, R = rightM s M := ⟨_, rfl⟩
        obtain ⟨SB, eSB⟩ : ∃ R, R = sameM M O := ⟨_, rfl⟩
        obtain ⟨CK, eCK⟩ : ∃ R, R = checkM s ⟨f, a, m, t, W, B⟩ := ⟨_, rfl⟩
        have HRB := Lib.hid eRB
        have HSB := Lib.hid eSB
        have HCK := Lib.hid eCK
        have TB : (RB != RB) = false := by simp
        have TS' : (SB != SB) = false := by simp
        have TC : ((CK : Int) != (CK : Int)) = false := by simp
        have hpr := rright_small (do_rright s M ⟨f, a, m, t, W, B⟩)
        obtain ⟨⟨M1, ⟨f1, x1, B1, W1, a1, m1'⟩⟩, e1⟩ : ∃ D, D = doM s M ⟨f, a, m, t, W, B⟩ := ⟨_, rfl⟩
        rw [← e1] at hpr
        dsimp only at hpr
        have HE1 := Lib.hid e1
        have hNl : ∀ r : Req, (doM s M r).1.coils.length ≤ 100000 ∧ (doM s M r).1.inputs.length ≤ 100000 ∧ (doM s M r).1.holding.length ≤ 100000 ∧ (doM s M r).1.words.length ≤ 100000 := fun r => by
          have hl := do_len s M r
          have h4 := hM.lens
          rw [hl.1, hl.2.1, hl.2.2.1, hl.2.2.2, h4.1, h4.2.1, h4.2.2.1, h4.2.2.2]
          exact ⟨su.a, su.b, su.c, su.d⟩
        have hMl : M.coils.length ≤ 100000 ∧ M.inputs.length ≤ 100000 ∧ M.holding.length ≤ 100000 ∧ M.words.length ≤ 100000 := by
          have h4 := hM.lens
          rw [h4.1, h4.2.1, h4.2.2.1, h4.2.2.2]
          exact ⟨su.a, su.b, su.c, su.d⟩
        have hM1 : M1.coils.length ≤ 100000 ∧ M1.inputs.length ≤ 100000 ∧ M1.holding.length ≤ 100000 ∧ M1.words.length ≤ 100000 := by
          have h := hNl ⟨f, a, m, t, W, B⟩; rw [← e1] at h; exact h
        obtain ⟨p, hp, hP1, hP2, hP3, hP4⟩ := serve_says s M xs
        obtain ⟨hq, hqw, hqb, hx8⟩ := look_wf hx
        have hpw : p.Wf := by
          by_cases h : (lookF xs).2 = 0
          · rw [(hP4 h).1]; exact (do_wf hm hq).2
          · rw [(hP3 h).1]; exact exc_wf _ _ hx8
        have hLb : Bytes (serveM s M xs).2 := by
          rw [hP1]; have h := rbytesE_lt p hpw; unfold rbytesE at h; rw [if_pos hp] at h; exact h
        have hNs : (serveM s M xs).1.coils.length ≤ 100000 ∧ (serveM s M xs).1.inputs.length ≤ 100000 ∧ (serveM s M xs).1.holding.length ≤ 100000 ∧ (serveM s M xs).1.words.length ≤ 100000 := by
          by_cases h : (lookF xs).2 = 0
          · rw [(hP4 h).2]; exact hNl _
          · rw [(hP3 h).2]; exact hMl
        obtain ⟨⟨N, L⟩, eV⟩ : ∃ V, V = serveM s M xs := ⟨_, rfl⟩
        rw [← eV] at hLb hNs
        dsimp only at hLb hNs
        have HEV := Lib.hid eV
        have HX := Lib.hid hx
        have HWF := Lib.hid hwf
        clear eRB eSB eCK e1 hNl hq hqw hqb hx8 hpw hp hP1 hP2 hP3 hP4 eV hx hwf
        go_enter Tryz.func3, Tryz.ntmps3
        go_wp2_with fail
        refine (light_any v u _ hv).mono ?_
        rintro e w1 ⟨rfl, b1⟩
        obtain ⟨X1, X2, X3, X4, bw⟩ := four_boxes b1
        have HS := Lib.hid (hS.to bw)
        have HM := Lib.hid (hM.to bw)
        have HO := Lib.hid (hO.to bw)
        have HW := Lib.hid (hW.to bw)
        have HB := Lib.hid (hB.to bw)
        have HA := Lib.hid (hs.to bw)
        have Bs := Lib.hid X1
        have Bm := Lib.hid X2
        have Bo := Lib.hid X3
        have Bq := Lib.hid X4
        clear b1 X1 X2 X3 X4 hS hM hO hW hB hs
        rw [hL]
        obtain ⟨Bs_0, Bs_1, Bs_2, Bs_3⟩ := row4 Bs.out
        obtain ⟨Bm_0, Bm_1, Bm_2, Bm_3⟩ := row4 Bm.out
        obtain ⟨Bo_0, Bo_1, Bo_2, Bo_3⟩ := row4 Bo.out
        obtain ⟨Bq_0, Bq_1, Bq_2, Bq_3, Bq_4, Bq_5⟩ := row6 Bq.out
        go_wp2_with fail
        refine (light_any v o _ hv).mono ?_
        rw [hL2]
        rintro e w2 ⟨rfl, b2⟩
        clear Bs_0 Bs_1 Bs_2 Bs_3 Bm_0 Bm_1 Bm_2 Bm_3 Bo_0 Bo_1 Bo_2 Bo_3 Bq_0 Bq_1 Bq_2 Bq_3 Bq_4 Bq_5
        have HS := Lib.hid (HS.out.to b2)
        have HM := Lib.hid (HM.out.to b2)
        have HO := Lib.hid (HO.out.to b2)
        have HW := Lib.hid (HW.out.to b2)
        have HB := Lib.hid (HB.out.to b2)
        have HA := Lib.hid (HA.out.to b2)
        have Bs := Lib.hid (b2.row (row_lt Bs.out) Bs.out)
        have Bm := Lib.hid (b2.row (row_lt Bm.out) Bm.out)
        have Bo := Lib.hid (b2.row (row_lt Bo.out) Bo.out)
        have Bq := Lib.hid (b2.row (row_lt Bq.out) Bq.out)
        have bw := bw.call b2
        clear b2
        obtain ⟨Bs_0, Bs_1, Bs_2, Bs_3⟩ := row4 Bs.out
        obtain ⟨Bm_0, Bm_1, Bm_2, Bm_3⟩ := row4 Bm.out
        obtain ⟨Bo_0, Bo_1, Bo_2, Bo_3⟩ := row4 Bo.out
        obtain ⟨Bq_0, Bq_1, Bq_2, Bq_3, Bq_4, Bq_5⟩ := row6 Bq.out
        go_wp2_with fail
        refine (few_any Aw Ab nw cw nb cb _).mono ?_
        rw [hL3]
        rintro e w3 ⟨rfl, rfl⟩
        go_wp2_with fail
        refine (refCopy_any u M _ HM.out su).mono ?_
        rintro e w4 ⟨va, vb, vc, vd, rfl, I⟩
        obtain ⟨yc, rfl, rfl, rfl, rfl, YC⟩ := MmIs.mm I
        have bI := I.a.bel
        clear Bs_0 Bs_1 Bs_2 Bs_3 Bm_0 Bm_1 Bm_2 Bm_3 Bo_0 Bo_1 Bo_2 Bo_3 Bq_0 Bq_1 Bq_2 Bq_3 Bq_4 Bq_5
        have HS := Lib.hid (HS.out.to bI)
        have HM := Lib.hid (HM.out.to bI)
        have HO := Lib.hid (HO.out.to bI)
        have HW := Lib.hid (HW.out.to bI)
        have HB := Lib.hid (HB.out.to bI)
        have HA := Lib.hid (HA.out.to bI)
        have Bs := Lib.hid (bI.row (row_lt Bs.out) Bs.out)
        have Bm := Lib.hid (bI.row (row_lt Bm.out) Bm.out)
        have Bo := Lib.hid (bI.row (row_lt Bo.out) Bo.out)
        have Bq := Lib.hid (bI.row (row_lt Bq.out) Bq.out)
        have bw := bw.call bI
        have HC := Lib.hid YC
        clear bI I YC
        go_wp2_with (first
          | (refine wpList_store_grown rfl 28 (.tmp 11) _ rfl w4.heap.size #[.slice yc.a.A yc.a.n yc.a.c, .slice yc.b.A yc.b.n yc.b.c, .slice yc.c.A yc.c.n yc.c.c, .slice yc.d.A yc.d.n yc.d.c] rfl rfl 28 _ (heap_alloc_new w4 _) (by kernel_rfl) rfl (by simp [Value.oneCell']) ?_; intro Wc hc gc sc; have Bc := Lib.hid hc; have Cc := below_one gc; clear hc gc sc; have HS := Lib.hid (HS.out.to Cc); have HM := Lib.hid (HM.out.to Cc); have HO := Lib.hid (HO.out.to Cc); have HW := Lib.hid (HW.out.to Cc); have HB := Lib.hid (HB.out.to Cc); have HA := Lib.hid (HA.out.to Cc); have HC := Lib.hid (HC.out.to Cc); have Bs := Lib.hid (Cc.row (row_lt Bs.out) Bs.out); have Bm := Lib.hid (Cc.row (row_lt Bm.out) Bm.out); have Bo := Lib.hid (Cc.row (row_lt Bo.out) Bo.out); have Bq := Lib.hid (Cc.row (row_lt Bq.out) Bq.out); have bw := bw.call Cc; clear Cc; obtain ⟨Bs_0, Bs_1, Bs_2, Bs_3⟩ := row4 Bs.out; obtain ⟨Bm_0, Bm_1, Bm_2, Bm_3⟩ := row4 Bm.out; obtain ⟨Bo_0, Bo_1, Bo_2, Bo_3⟩ := row4 Bo.out; obtain ⟨Bq_0, Bq_1, Bq_2, Bq_3, Bq_4, Bq_5⟩ := row6 Bq.out)
          | fail)
        have HKP := Lib.hid (fun (w' : World) (b : Below Wc.heap.size Wc w') => (⟨b, (row4 (b.row (row_lt Bs.out) Bs.out)).1, (row4 (b.row (row_lt Bs.out) Bs.out)).2.1, (row4 (b.row (row_lt Bs.out) Bs.out)).2.2.1, (row4 (b.row (row_lt Bs.out) Bs.out)).2.2.2, (row4 (b.row (row_lt Bm.out) Bm.out)).1, (row4 (b.row (row_lt Bm.out) Bm.out)).2.1, (row4 (b.row (row_lt Bm.out) Bm.out)).2.2.1, (row4 (b.row (row_lt Bm.out) Bm.out)).2.2.2, (row4 (b.row (row_lt Bo.out) Bo.out)).1, (row4 (b.row (row_lt Bo.out) Bo.out)).2.1, (row4 (b.row (row_lt Bo.out) Bo.out)).2.2.1, (row4 (b.row (row_lt Bo.out) Bo.out)).2.2.2, (row6 (b.row (row_lt Bq.out) Bq.out)).1, (row6 (b.row (row_lt Bq.out) Bq.out)).2.1, (row6 (b.row (row_lt Bq.out) Bq.out)).2.2.1, (row6 (b.row (row_lt Bq.out) Bq.out)).2.2.2.1, (row6 (b.row (row_lt Bq.out) Bq.out)).2.2.2.2.1, (row6 (b.row (row_lt Bq.out) Bq.out)).2.2.2.2.2⟩ : Below Wc.heap.size Wc w' ∧ w'.cell? ⟨w.heap.size, 0, none⟩ = some (.slice v.a.A v.a.n v.a.c) ∧ w'.cell? ⟨w.heap.size, 1, none⟩ = some (.slice v.b.A v.b.n v.b.c) ∧ w'.cell? ⟨w.heap.size, 2, none⟩ = some (.slice v.c.A v.c.n v.c.c) ∧ w'.cell? ⟨w.heap.size, 3, none⟩ = some (.slice v.d.A v.d.n v.d.c) ∧ w'.cell? ⟨w.heap.size + 1, 0, none⟩ = some (.slice u.a.A u.a.n u.a.c) ∧ w'.cell? ⟨w.heap.size + 1, 1, none⟩ = some (.slice u.b.A u.b.n u.b.c) ∧ w'.cell? ⟨w.heap.size + 1, 2, none⟩ = some (.slice u.c.A u.c.n u.c.c) ∧ w'.cell? ⟨w.heap.size + 1, 3, none⟩ = some (.slice u.d.A u.d.n u.d.c) ∧ w'.cell? ⟨w.heap.size + 1 + 1, 0, none⟩ = some (.slice o.a.A o.a.n o.a.c) ∧ w'.cell? ⟨w.heap.size + 1 + 1, 1, none⟩ = some (.slice o.b.A o.b.n o.b.c) ∧ w'.cell? ⟨w.heap.size + 1 + 1, 2, none⟩ = some (.slice o.c.A o.c.n o.c.c) ∧ w'.cell? ⟨w.heap.size + 1 + 1, 3, none⟩ = some (.slice o.d.A o.d.n o.d.c) ∧ w'.cell? ⟨w.heap.size + 1 + 1 + 1, 0, none⟩ = some (.int .u8 (f : Nat)) ∧ w'.cell? ⟨w.heap.size + 1 + 1 + 1, 1, none⟩ = some (.int .u16 (a : Nat)) ∧ w'.cell? ⟨w.heap.size + 1 + 1 + 1, 2, none⟩ = some (.int .u16 (m : Nat)) ∧ w'.cell? ⟨w.heap.size + 1 + 1 + 1, 3, none⟩ = some (.int .u16 (t : Nat)) ∧ w'.cell? ⟨w.heap.size + 1 + 1 + 1, 4, none⟩ = some (.slice Aw nw cw) ∧ w'.cell? ⟨w.heap.size + 1 + 1 + 1, 5, none⟩ = some (.slice Ab nb cb)))
        have qW : W.length = nw := by have h := HW.out.len; rw [ws_length] at h; exact h
        have qB : B.length = nb := by have h := HB.out.len; rw [bl_length] at h; exact h
        have K1 := Lib.hid (fun Y (b : Below Wc.heap.size Wc Y) => modRight_any v u s M Y (HS.out.to b) (HM.out.to b) ho sv su)
        have K2 := Lib.hid (fun Y (b : Below Wc.heap.size Wc Y) => refRight7_any v u s M Y (HS.out.to b) (HM.out.to b) ho sv su)
        have K3 := Lib.hid (fun Y (b : Below Wc.heap.size Wc Y) => modSame_any u o M O Y (HM.out.to b) (HO.out.to b) su so)
        have K4 := Lib.hid (fun Y (b : Below Wc.heap.size Wc Y) => lawSame7_any u o M O Y (HM.out.to b) (HO.out.to b) su so)
        have K5 := Lib.hid (fun Y (b : Below Wc.heap.size Wc Y) => modCheck_any v s f a m t Aw nw cw Ab nb cb W B Y (HS.out.to b) ho sv (HW.out.to b) (HB.out.to b) HWF.out (by omega) (by omega))
        have K6 := Lib.hid (fun Y (b : Below Wc.heap.size Wc Y) => refCheck_any v s f a m t Aw nw cw Ab nb cb W B Y (HS.out.to b) ho sv qW qB HWF.out (by omega) (by omega))
        rw [← HRB.out] at K1 K2
        rw [← HSB.out] at K3 K4
        rw [← HCK.out] at K5 K6
        clear qW qB
        dsimp only [Act.put]
        go_cut [70] (fun z wx => z = .bool false ∧ Below Wc.heap.size Wc wx)
        case first =>
          go_region_held3 (fun w' => Below Wc.heap.size Wc w' ∧ w'.cell? ⟨w.heap.size, 0, none⟩ = some (.slice v.a.A v.a.n v.a.c) ∧ w'.cell? ⟨w.heap.size, 1, none⟩ = some (.slice v.b.A v.b.n v.b.c) ∧ w'.cell? ⟨w.heap.size, 2, none⟩ = some (.slice v.c.A v.c.n v.c.c) ∧ w'.cell? ⟨w.heap.size, 3, none⟩ = some (.slice v.d.A v.d.n v.d.c) ∧ w'.cell? ⟨w.heap.size + 1, 0, none⟩ = some (.slice u.a.A u.a.n u.a.c) ∧ w'.cell? ⟨w.heap.size + 1, 1, none⟩ = some (.slice u.b.A u.b.n u.b.c) ∧ w'.cell? ⟨w.heap.size + 1, 2, none⟩ = some (.slice u.c.A u.c.n u.c.c) ∧ w'.cell? ⟨w.heap.size + 1, 3, none⟩ = some (.slice u.d.A u.d.n u.d.c) ∧ w'.cell? ⟨w.heap.size + 1 + 1, 0, none⟩ = some (.slice o.a.A o.a.n o.a.c) ∧ w'.cell? ⟨w.heap.size + 1 + 1, 1, none⟩ = some (.slice o.b.A o.b.n o.b.c) ∧ w'.cell? ⟨w.heap.size + 1 + 1, 2, none⟩ = some (.slice o.c.A o.c.n o.c.c) ∧ w'.cell? ⟨w.heap.size + 1 + 1, 3, none⟩ = some (.slice o.d.A o.d.n o.d.c) ∧ w'.cell? ⟨w.heap.size + 1 + 1 + 1, 0, none⟩ = some (.int .u8 (f : Nat)) ∧ w'.cell? ⟨w.heap.size + 1 + 1 + 1, 1, none⟩ = some (.int .u16 (a : Nat)) ∧ w'.cell? ⟨w.heap.size + 1 + 1 + 1, 2, none⟩ = some (.int .u16 (m : Nat)) ∧ w'.cell? ⟨w.heap.size + 1 + 1 + 1, 3, none⟩ = some (.int .u16 (t : Nat)) ∧ w'.cell? ⟨w.heap.size + 1 + 1 + 1, 4, none⟩ = some (.slice Aw nw cw) ∧ w'.cell? ⟨w.heap.size + 1 + 1 + 1, 5, none⟩ = some (.slice Ab nb cb))
            (first | exact HKP.out _ hbd | exact HKP.out _ (Below.refl _ _) | exact HKP.out _ (Below.refl _ _).drew)
            (first
              | (go_at_call 8; refine (K1.out _ (by first | exact hbd | exact (Below.refl _ _).drew)).mono ?_; rintro e ws ⟨rfl, bs⟩; have hbd := Below.call (a := Wc) (by first | assumption | exact (Below.refl _ _).drew) bs)
              | (go_at_call 9; refine (K2.out _ (by first | exact hbd | exact (Below.refl _ _).drew)).mono ?_; rintro e ws ⟨rfl, bs⟩; have hbd := Below.call (a := Wc) (by first | assumption | exact (Below.refl _ _).drew) bs)
              | (go_at_call 10; refine (K3.out _ (by first | exact hbd | exact (Below.refl _ _).drew)).mono ?_; rintro e ws ⟨rfl, bs⟩; have hbd := Below.call (a := Wc) (by first | assumption | exact (Below.refl _ _).drew) bs)
              | (go_at_call 11; refine (K4.out _ (by first | exact hbd | exact (Below.refl _ _).drew)).mono ?_; rintro e ws ⟨rfl, bs⟩; have hbd := Below.call (a := Wc) (by first | assumption | exact (Below.refl _ _).drew) bs)
              | (go_at_call 12; refine (K5.out _ (by first | exact hbd | exact (Below.refl _ _).drew)).mono ?_; rintro e ws ⟨rfl, bs⟩; have hbd := Below.call (a := Wc) (by first | assumption | exact (Below.refl _ _).drew) bs)
              | (go_at_call 13; refine (K6.out _ (by first | exact hbd | exact (Below.refl _ _).drew)).mono ?_; rintro e ws ⟨rfl, bs⟩; have hbd := Below.call (a := Wc) (by first | assumption | exact (Below.refl _ _).drew) bs))
          go_wp2_with fail
          go_meet
          exact ⟨rfl, hbd⟩
        case rest =>
          obtain ⟨rfl, hbd⟩ := hcut
          clear K1 K2 K3 K4 K5 K6 HKP
          clear Bs_0 Bs_1 Bs_2 Bs_3 Bm_0 Bm_1 Bm_2 Bm_3 Bo_0 Bo_1 Bo_2 Bo_3 Bq_0 Bq_1 Bq_2 Bq_3 Bq_4 Bq_5
          have HS := Lib.hid (HS.out.to hbd)
          have HM := Lib.hid (HM.out.to hbd)
          have HO := Lib.hid (HO.out.to hbd)
          have HW := Lib.hid (HW.out.to hbd)
          have HB := Lib.hid (HB.out.to hbd)
          have HA := Lib.hid (HA.out.to hbd)
          have HC := Lib.hid (HC.out.to hbd)
          have Bs := Lib.hid (hbd.row (row_lt Bs.out) Bs.out)
          have Bm := Lib.hid (hbd.row (row_lt Bm.out) Bm.out)
          have Bo := Lib.hid (hbd.row (row_lt Bo.out) Bo.out)
          have Bq := Lib.hid (hbd.row (row_lt Bq.out) Bq.out)
          have Bc := Lib.hid (hbd.row (row_lt Bc.out) Bc.out)
          have bw := bw.call hbd
          clear hbd
          obtain ⟨Bs_0, Bs_1, Bs_2, Bs_3⟩ := row4 Bs.out
          obtain ⟨Bm_0, Bm_1, Bm_2, Bm_3⟩ := row4 Bm.out
          obtain ⟨Bq_0, Bq_1, Bq_2, Bq_3, Bq_4, Bq_5⟩ := row6 Bq.out
          go_wp2_with fail
          refine (modDo_any v u s M f a m t Aw nw cw Ab nb cb W B _ HS.out HM.out ho sv su HW.out HB.out HWF.out (by omega) (by omega)).mono ?_
          rw [← HE1.out]
          rintro e w5 ⟨yp, A6p, n6p, c6p, A7p, n7p, c7p, rfl, YMp, S6p, S7p, k6p, k7p, bp⟩
          clear Bs_0 Bs_1 Bs_2 Bs_3 Bm_0 Bm_1 Bm_2 Bm_3 Bq_0 Bq_1 Bq_2 Bq_3 Bq_4 Bq_5
          have HS := Lib.hid (HS.out.to bp)
          have HM := Lib.hid (HM.out.to bp)
          have HO := Lib.hid (HO.out.to bp)
          have HW := Lib.hid (HW.out.to bp)
          have HB := Lib.hid (HB.out.to bp)
          have HA := Lib.hid (HA.out.to bp)
          have HC := Lib.hid (HC.out.to bp)
          have Bs := Lib.hid (bp.row (row_lt Bs.out) Bs.out)
          have Bm := Lib.hid (bp.row (row_lt Bm.out) Bm.out)
          have Bo := Lib.hid (bp.row (row_lt Bo.out) Bo.out)
          have Bq := Lib.hid (bp.row (row_lt Bq.out) Bq.out)
          have Bc := Lib.hid (bp.row (row_lt Bc.out) Bc.out)
          have bw := bw.call bp
          have HYp := Lib.hid YMp
          have HBp := Lib.hid S6p
          have HWp := Lib.hid S7p
          clear YMp S6p S7p
          clear bp
          go_wp2_with (first
            | (refine wpList_store_grown rfl 28 (.tmp 12) _ rfl w5.heap.size #[.slice yp.a.A yp.a.n yp.a.c, .slice yp.b.A yp.b.n yp.b.c, .slice yp.c.A yp.c.n yp.c.c, .slice yp.d.A yp.d.n yp.d.c] rfl rfl 28 _ (row_alloc (heap_alloc_new w5 _) _) (by kernel_rfl) rfl (by simp [Value.oneCell']) ?_; intro Wpa hpa gpa spa)
            | (refine wpList_store_grown rfl 40 (.tmp 13) _ rfl (w5.heap.size + 1) #[.int .u8 (f1 : Nat), .int .u8 (x1 : Nat), .slice A6p n6p c6p, .slice A7p n7p c7p, .int .u16 (a1 : Nat), .int .u16 (m1' : Nat)] rfl rfl 40 _ (gpa.row (by omega) (heap_alloc2_new w5 _ _)) (by kernel_rfl) rfl (by simp [Value.oneCell']) ?_; intro Wp hpb gpb spb; have Bmp := Lib.hid (gpb.row (k := w5.heap.size) (by omega) hpa); have Brp := Lib.hid hpb; have Cp := below_two gpa gpb spa; clear gpa gpb spa spb hpa hpb; have HS := Lib.hid (HS.out.to Cp); have HM := Lib.hid (HM.out.to Cp); have HO := Lib.hid (HO.out.to Cp); have HW := Lib.hid (HW.out.to Cp); have HB := Lib.hid (HB.out.to Cp); have HA := Lib.hid (HA.out.to Cp); have HC := Lib.hid (HC.out.to Cp); have HYp := Lib.hid (HYp.out.to Cp); have HBp := Lib.hid (HBp.out.to Cp); have HWp := Lib.hid (HWp.out.to Cp); have Bs := Lib.hid (Cp.row (row_lt Bs.out) Bs.out); have Bm := Lib.hid (Cp.row (row_lt Bm.out) Bm.out); have Bo := Lib.hid (Cp.row (row_lt Bo.out) Bo.out); have Bq := Lib.hid (Cp.row (row_lt Bq.out) Bq.out); have Bc := Lib.hid (Cp.row (row_lt Bc.out) Bc.out); have bw := bw.call Cp; clear Cp; obtain ⟨Bs_0, Bs_1, Bs_2, Bs_3⟩ := row4 Bs.out; obtain ⟨Bm_0, Bm_1, Bm_2, Bm_3⟩ := row4 Bm.out; obtain ⟨Bq_0, Bq_1, Bq_2, Bq_3, Bq_4, Bq_5⟩ := row6 Bq.out)
            | fail)
          refine (refDo_any v u s M f a m t Aw nw cw Ab nb cb W B _ HS.out HM.out ho sv su HW.out HB.out HWF.out (by omega) (by omega)).mono ?_
          rw [← HE1.out]
          rintro e w6 ⟨yq, A6q, n6q, c6q, A7q, n7q, c7q, rfl, YMq, S6q, S7q, k6q, k7q, bq, -⟩
          clear Bs_0 Bs_1 Bs_2 Bs_3 Bm_0 Bm_1 Bm_2 Bm_3 Bq_0 Bq_1 Bq_2 Bq_3 Bq_4 Bq_5
          have HS := Lib.hid (HS.out.to bq)
          have HM := Lib.hid (HM.out.to bq)
          have HO := Lib.hid (HO.out.to bq)
          have HW := Lib.hid (HW.out.to bq)
          have HB := Lib.hid (HB.out.to bq)
          have HA := Lib.hid (HA.out.to bq)
          have HC := Lib.hid (HC.out.to bq)
          have HYp := Lib.hid (HYp.out.to bq)
          have HBp := Lib.hid (HBp.out.to bq)
          have HWp := Lib.hid (HWp.out.to bq)
          have Bs := Lib.hid (bq.row (row_lt Bs.out) Bs.out)
          have Bm := Lib.hid (bq.row (row_lt Bm.out) Bm.out)
          have Bo := Lib.hid (bq.row (row_lt Bo.out) Bo.out)
          have Bq := Lib.hid (bq.row (row_lt Bq.out) Bq.out)
          have Bc := Lib.hid (bq.row (row_lt Bc.out) Bc.out)
          have Bmp := Lib.hid (bq.row (row_lt Bmp.out) Bmp.out)
          have Brp := Lib.hid (bq.row (row_lt Brp.out) Brp.out)
          have bw := bw.call bq
          have HYq := Lib.hid YMq
          have HBq := Lib.hid S6q
          have HWq := Lib.hid S7q
          clear YMq S6q S7q
          clear bq
          go_wp2_with (first
            | (refine wpList_store_grown rfl 28 (.tmp 14) _ rfl w6.heap.size #[.slice yq.a.A yq.a.n yq.a.c, .slice yq.b.A yq.b.n yq.b.c, .slice yq.c.A yq.c.n yq.c.c, .slice yq.d.A yq.d.n yq.d.c] rfl rfl 28 _ (row_alloc (heap_alloc_new w6 _) _) (by kernel_rfl) rfl (by simp [Value.oneCell']) ?_; intro Wqa hqa gqa sqa)
            | (refine wpList_store_grown rfl 40 (.tmp 15) _ rfl (w6.heap.size + 1) #[.int .u8 (f1 : Nat), .int .u8 (x1 : Nat), .slice A6q n6q c6q, .slice A7q n7q c7q, .int .u16 (a1 : Nat), .int .u16 (m1' : Nat)] rfl rfl 40 _ (gqa.row (by omega) (heap_alloc2_new w6 _ _)) (by kernel_rfl) rfl (by simp [Value.oneCell']) ?_; intro Wq hqb gqb sqb; have Bmq := Lib.hid (gqb.row (k := w6.heap.size) (by omega) hqa); have Brq := Lib.hid hqb; have Cq := below_two gqa gqb sqa; clear gqa gqb sqa sqb hqa hqb; have HS := Lib.hid (HS.out.to Cq); have HM := Lib.hid (HM.out.to Cq); have HO := Lib.hid (HO.out.to Cq); have HW := Lib.hid (HW.out.to Cq); have HB := Lib.hid (HB.out.to Cq); have HA := Lib.hid (HA.out.to Cq); have HC := Lib.hid (HC.out.to Cq); have HYp := Lib.hid (HYp.out.to Cq); have HBp := Lib.hid (HBp.out.to Cq); have HWp := Lib.hid (HWp.out.to Cq); have HYq := Lib.hid (HYq.out.to Cq); have HBq := Lib.hid (HBq.out.to Cq); have HWq := Lib.hid (HWq.out.to Cq); have Bs := Lib.hid (Cq.row (row_lt Bs.out) Bs.out); have Bm := Lib.hid (Cq.row (row_lt Bm.out) Bm.out); have Bo := Lib.hid (Cq.row (row_lt Bo.out) Bo.out); have Bq := Lib.hid (Cq.row (row_lt Bq.out) Bq.out); have Bc := Lib.hid (Cq.row (row_lt Bc.out) Bc.out); have Bmp := Lib.hid (Cq.row (row_lt Bmp.out) Bmp.out); have Brp := Lib.hid (Cq.row (row_lt Brp.out) Brp.out); have bw := bw.call Cq; clear Cq; obtain ⟨Bs_0, Bs_1, Bs_2, Bs_3⟩ := row4 Bs.out; obtain ⟨Bm_0, Bm_1, Bm_2, Bm_3⟩ := row4 Bm.out)
            | fail)
          refine (modServe_any v u s M A k c xs _ HS.out HM.out ho hm sv su HA.out HX.out hk3 hc).mono ?_
          rw [← HEV.out]
          rintro e w7 ⟨y1, A5, n5, c5, rfl, YM, S5, k5, b7⟩
          clear Bs_0 Bs_1 Bs_2 Bs_3 Bm_0 Bm_1 Bm_2 Bm_3
          have HS := Lib.hid (HS.out.to b7)
          have HM := Lib.hid (HM.out.to b7)
          have HO := Lib.hid (HO.out.to b7)
          have HW := Lib.hid (HW.out.to b7)
          have HB := Lib.hid (HB.out.to b7)
          have HA := Lib.hid (HA.out.to b7)
          have HC := Lib.hid (HC.out.to b7)
          have HYp := Lib.hid (HYp.out.to b7)
          have HBp := Lib.hid (HBp.out.to b7)
          have HWp := Lib.hid (HWp.out.to b7)
          have HYq := Lib.hid (HYq.out.to b7)
          have HBq := Lib.hid (HBq.out.to b7)
          have HWq := Lib.hid (HWq.out.to b7)
          have Bs := Lib.hid (b7.row (row_lt Bs.out) Bs.out)
          have Bm := Lib.hid (b7.row (row_lt Bm.out) Bm.out)
          have Bo := Lib.hid (b7.row (row_lt Bo.out) Bo.out)
          have Bq := Lib.hid (b7.row (row_lt Bq.out) Bq.out)
          have Bc := Lib.hid (b7.row (row_lt Bc.out) Bc.out)
          have Bmp := Lib.hid (b7.row (row_lt Bmp.out) Bmp.out)
          have Brp := Lib.hid (b7.row (row_lt Brp.out) Brp.out)
          have Bmq := Lib.hid (b7.row (row_lt Bmq.out) Bmq.out)
          have Brq := Lib.hid (b7.row (row_lt Brq.out) Brq.out)
          have bw := bw.call b7
          have HY1 := Lib.hid YM
          have H5 := Lib.hid S5
          clear YM S5
          clear b7
          go_wp2_with (first
            | (refine wpList_store_grown rfl 28 (.tmp 16) _ rfl w7.heap.size #[.slice y1.a.A y1.a.n y1.a.c, .slice y1.b.A y1.b.n y1.b.c, .slice y1.c.A y1.c.n y1.c.c, .slice y1.d.A y1.d.n y1.d.c] rfl rfl 28 _ (heap_alloc_new w7 _) (by kernel_rfl) rfl (by simp [Value.oneCell']) ?_; intro Wd hd gd sd; have Bd := Lib.hid hd; have Cd := below_one gd; clear hd gd sd; have HS := Lib.hid (HS.out.to Cd); have HM := Lib.hid (HM.out.to Cd); have HO := Lib.hid (HO.out.to Cd); have HW := Lib.hid (HW.out.to Cd); have HB := Lib.hid (HB.out.to Cd); have HA := Lib.hid (HA.out.to Cd); have HC := Lib.hid (HC.out.to Cd); have HYp := Lib.hid (HYp.out.to Cd); have HBp := Lib.hid (HBp.out.to Cd); have HWp := Lib.hid (HWp.out.to Cd); have HYq := Lib.hid (HYq.out.to Cd); have HBq := Lib.hid (HBq.out.to Cd); have HWq := Lib.hid (HWq.out.to Cd); have HY1 := Lib.hid (HY1.out.to Cd); have H5 := Lib.hid (H5.out.to Cd); have Bs := Lib.hid (Cd.row (row_lt Bs.out) Bs.out); have Bm := Lib.hid (Cd.row (row_lt Bm.out) Bm.out); have Bo := Lib.hid (Cd.row (row_lt Bo.out) Bo.out); have Bq := Lib.hid (Cd.row (row_lt Bq.out) Bq.out); have Bc := Lib.hid (Cd.row (row_lt Bc.out) Bc.out); have Bmp := Lib.hid (Cd.row (row_lt Bmp.out) Bmp.out); have Brp := Lib.hid (Cd.row (row_lt Brp.out) Brp.out); have Bmq := Lib.hid (Cd.row (row_lt Bmq.out) Bmq.out); have Brq := Lib.hid (Cd.row (row_lt Brq.out) Brq.out); have bw := bw.call Cd; clear Cd; obtain ⟨Bs_0, Bs_1, Bs_2, Bs_3⟩ := row4 Bs.out; obtain ⟨Bm_0, Bm_1, Bm_2, Bm_3⟩ := row4 Bm.out)
            | fail)
          refine (refServe_any v u s M A k c xs _ HS.out HM.out ho hm sv su HA.out HX.out hk3 hc).mono ?_
          rw [← HEV.out]
          rintro e w8 ⟨y2, A6, n6, c6, rfl, YM, S6, k6, b8⟩
          clear Bs_0 Bs_1 Bs_2 Bs_3 Bm_0 Bm_1 Bm_2 Bm_3
          have HS := Lib.hid (HS.out.to b8)
          have HM := Lib.hid (HM.out.to b8)
          have HO := Lib.hid (HO.out.to b8)
          have HW := Lib.hid (HW.out.to b8)
          have HB := Lib.hid (HB.out.to b8)
          have HA := Lib.hid (HA.out.to b8)
          have HC := Lib.hid (HC.out.to b8)
          have HYp := Lib.hid (HYp.out.to b8)
          have HBp := Lib.hid (HBp.out.to b8)
          have HWp := Lib.hid (HWp.out.to b8)
          have HYq := Lib.hid (HYq.out.to b8)
          have HBq := Lib.hid (HBq.out.to b8)
          have HWq := Lib.hid (HWq.out.to b8)
          have HY1 := Lib.hid (HY1.out.to b8)
          have H5 := Lib.hid (H5.out.to b8)
          have Bs := Lib.hid (b8.row (row_lt Bs.out) Bs.out)
          have Bm := Lib.hid (b8.row (row_lt Bm.out) Bm.out)
          have Bo := Lib.hid (b8.row (row_lt Bo.out) Bo.out)
          have Bq := Lib.hid (b8.row (row_lt Bq.out) Bq.out)
          have Bc := Lib.hid (b8.row (row_lt Bc.out) Bc.out)
          have Bmp := Lib.hid (b8.row (row_lt Bmp.out) Bmp.out)
          have Brp := Lib.hid (b8.row (row_lt Brp.out) Brp.out)
          have Bmq := Lib.hid (b8.row (row_lt Bmq.out) Bmq.out)
          have Brq := Lib.hid (b8.row (row_lt Brq.out) Brq.out)
          have Bd := Lib.hid (b8.row (row_lt Bd.out) Bd.out)
          have bw := bw.call b8
          have HY2 := Lib.hid YM
          have H6 := Lib.hid S6
          clear YM S6
          clear b8
          go_wp2_with (first
            | (refine wpList_store_grown rfl 28 (.tmp 18) _ rfl w8.heap.size #[.slice y2.a.A y2.a.n y2.a.c, .slice y2.b.A y2.b.n y2.b.c, .slice y2.c.A y2.c.n y2.c.c, .slice y2.d.A y2.d.n y2.d.c] rfl rfl 28 _ (heap_alloc_new w8 _) (by kernel_rfl) rfl (by simp [Value.oneCell']) ?_; intro We he ge se; have Be := Lib.hid he; have Ce := below_one ge; clear he ge se; have HS := Lib.hid (HS.out.to Ce); have HM := Lib.hid (HM.out.to Ce); have HO := Lib.hid (HO.out.to Ce); have HW := Lib.hid (HW.out.to Ce); have HB := Lib.hid (HB.out.to Ce); have HA := Lib.hid (HA.out.to Ce); have HC := Lib.hid (HC.out.to Ce); have HYp := Lib.hid (HYp.out.to Ce); have HBp := Lib.hid (HBp.out.to Ce); have HWp := Lib.hid (HWp.out.to Ce); have HYq := Lib.hid (HYq.out.to Ce); have HBq := Lib.hid (HBq.out.to Ce); have HWq := Lib.hid (HWq.out.to Ce); have HY1 := Lib.hid (HY1.out.to Ce); have H5 := Lib.hid (H5.out.to Ce); have HY2 := Lib.hid (HY2.out.to Ce); have H6 := Lib.hid (H6.out.to Ce); have Bs := Lib.hid (Ce.row (row_lt Bs.out) Bs.out); have Bm := Lib.hid (Ce.row (row_lt Bm.out) Bm.out); have Bo := Lib.hid (Ce.row (row_lt Bo.out) Bo.out); have Bq := Lib.hid (Ce.row (row_lt Bq.out) Bq.out); have Bc := Lib.hid (Ce.row (row_lt Bc.out) Bc.out); have Bmp := Lib.hid (Ce.row (row_lt Bmp.out) Bmp.out); have Brp := Lib.hid (Ce.row (row_lt Brp.out) Brp.out); have Bmq := Lib.hid (Ce.row (row_lt Bmq.out) Bmq.out); have Brq := Lib.hid (Ce.row (row_lt Brq.out) Brq.out); have Bd := Lib.hid (Ce.row (row_lt Bd.out) Bd.out); have bw := bw.call Ce; clear Ce; obtain ⟨Bmp_0, Bmp_1, Bmp_2, Bmp_3⟩ := row4 Bmp.out; obtain ⟨Bmq_0, Bmq_1, Bmq_2, Bmq_3⟩ := row4 Bmq.out)
            | fail)
          have sp : yp.Small := small_of HYp.out hM1
          have sq : yq.Small := small_of HYq.out hM1
          have s1 : y1.Small := small_of HY1.out hNs
          have s2 : y2.Small := small_of HY2.out hNs
          have sc : yc.Small := small_of HC.out hMl
          refine (lawSame7_any yp yq M1 M1 _ HYp.out HYq.out sp sq).mono ?_
          rw [sameM_self]
          rintro e w9 ⟨rfl, b9⟩
          clear Bmp_0 Bmp_1 Bmp_2 Bmp_3 Bmq_0 Bmq_1 Bmq_2 Bmq_3
          have HS := Lib.hid (HS.out.to b9)
          have HM := Lib.hid (HM.out.to b9)
          have HO := Lib.hid (HO.out.to b9)
          have HW := Lib.hid (HW.out.to b9)
          have HB := Lib.hid (HB.out.to b9)
          have HA := Lib.hid (HA.out.to b9)
          have HC := Lib.hid (HC.out.to b9)
          have HYp := Lib.hid (HYp.out.to b9)
          have HBp := Lib.hid (HBp.out.to b9)
          have HWp := Lib.hid (HWp.out.to b9)
          have HYq := Lib.hid (HYq.out.to b9)
          have HBq := Lib.hid (HBq.out.to b9)
          have HWq := Lib.hid (HWq.out.to b9)
          have HY1 := Lib.hid (HY1.out.to b9)
          have H5 := Lib.hid (H5.out.to b9)
          have HY2 := Lib.hid (HY2.out.to b9)
          have H6 := Lib.hid (H6.out.to b9)
          have Bs := Lib.hid (b9.row (row_lt Bs.out) Bs.out)
          have Bm := Lib.hid (b9.row (row_lt Bm.out) Bm.out)
          have Bo := Lib.hid (b9.row (row_lt Bo.out) Bo.out)
          have Bq := Lib.hid (b9.row (row_lt Bq.out) Bq.out)
          have Bc := Lib.hid (b9.row (row_lt Bc.out) Bc.out)
          have Bmp := Lib.hid (b9.row (row_lt Bmp.out) Bmp.out)
          have Brp := Lib.hid (b9.row (row_lt Brp.out) Brp.out)
          have Bmq := Lib.hid (b9.row (row_lt Bmq.out) Bmq.out)
          have Brq := Lib.hid (b9.row (row_lt Brq.out) Brq.out)
          have Bd := Lib.hid (b9.row (row_lt Bd.out) Bd.out)
          have Be := Lib.hid (b9.row (row_lt Be.out) Be.out)
          have bw := bw.call b9
          clear b9
          obtain ⟨Brp_0, Brp_1, Brp_2, Brp_3, Brp_4, Brp_5⟩ := row6 Brp.out
          obtain ⟨Brq_0, Brq_1, Brq_2, Brq_3, Brq_4, Brq_5⟩ := row6 Brq.out
          go_wp2_with fail
          refine (ref3Same_self f1 x1 a1 m1' A7p n7p c7p A6p n6p c6p A7q n7q c7q A6q n6q c6q W1 B1 _ HWp.out HBp.out HWq.out HBq.out (by omega) (by omega)).mono ?_
          rintro e w10 ⟨rfl, b10⟩
          clear Brp_0 Brp_1 Brp_2 Brp_3 Brp_4 Brp_5 Brq_0 Brq_1 Brq_2 Brq_3 Brq_4 Brq_5
          have HS := Lib.hid (HS.out.to b10)
          have HM := Lib.hid (HM.out.to b10)
          have HO := Lib.hid (HO.out.to b10)
          have HW := Lib.hid (HW.out.to b10)
          have HB := Lib.hid (HB.out.to b10)
          have HA := Lib.hid (HA.out.to b10)
          have HC := Lib.hid (HC.out.to b10)
          have HYp := Lib.hid (HYp.out.to b10)
          have HBp := Lib.hid (HBp.out.to b10)
          have HWp := Lib.hid (HWp.out.to b10)
          have HYq := Lib.hid (HYq.out.to b10)
          have HBq := Lib.hid (HBq.out.to b10)
          have HWq := Lib.hid (HWq.out.to b10)
          have HY1 := Lib.hid (HY1.out.to b10)
          have H5 := Lib.hid (H5.out.to b10)
          have HY2 := Lib.hid (HY2.out.to b10)
          have H6 := Lib.hid (H6.out.to b10)
          have Bs := Lib.hid (b10.row (row_lt Bs.out) Bs.out)
          have Bm := Lib.hid (b10.row (row_lt Bm.out) Bm.out)
          have Bo := Lib.hid (b10.row (row_lt Bo.out) Bo.out)
          have Bq := Lib.hid (b10.row (row_lt Bq.out) Bq.out)
          have Bc := Lib.hid (b10.row (row_lt Bc.out) Bc.out)
          have Bmp := Lib.hid (b10.row (row_lt Bmp.out) Bmp.out)
          have Brp := Lib.hid (b10.row (row_lt Brp.out) Brp.out)
          have Bmq := Lib.hid (b10.row (row_lt Bmq.out) Bmq.out)
          have Brq := Lib.hid (b10.row (row_lt Brq.out) Brq.out)
          have Bd := Lib.hid (b10.row (row_lt Bd.out) Bd.out)
          have Be := Lib.hid (b10.row (row_lt Be.out) Be.out)
          have bw := bw.call b10
          clear b10
          obtain ⟨Bd_0, Bd_1, Bd_2, Bd_3⟩ := row4 Bd.out
          obtain ⟨Be_0, Be_1, Be_2, Be_3⟩ := row4 Be.out
          go_wp2_with fail
          refine (lawSame7_any y1 y2 N N _ HY1.out HY2.out s1 s2).mono ?_
          rw [sameM_self]
          rintro e w11 ⟨rfl, b11⟩
          clear Bd_0 Bd_1 Bd_2 Bd_3 Be_0 Be_1 Be_2 Be_3
          have HS := Lib.hid (HS.out.to b11)
          have HM := Lib.hid (HM.out.to b11)
          have HO := Lib.hid (HO.out.to b11)
          have HW := Lib.hid (HW.out.to b11)
          have HB := Lib.hid (HB.out.to b11)
          have HA := Lib.hid (HA.out.to b11)
          have HC := Lib.hid (HC.out.to b11)
          have HYp := Lib.hid (HYp.out.to b11)
          have HBp := Lib.hid (HBp.out.to b11)
          have HWp := Lib.hid (HWp.out.to b11)
          have HYq := Lib.hid (HYq.out.to b11)
          have HBq := Lib.hid (HBq.out.to b11)
          have HWq := Lib.hid (HWq.out.to b11)
          have HY1 := Lib.hid (HY1.out.to b11)
          have H5 := Lib.hid (H5.out.to b11)
          have HY2 := Lib.hid (HY2.out.to b11)
          have H6 := Lib.hid (H6.out.to b11)
          have Bs := Lib.hid (b11.row (row_lt Bs.out) Bs.out)
          have Bm := Lib.hid (b11.row (row_lt Bm.out) Bm.out)
          have Bo := Lib.hid (b11.row (row_lt Bo.out) Bo.out)
          have Bq := Lib.hid (b11.row (row_lt Bq.out) Bq.out)
          have Bc := Lib.hid (b11.row (row_lt Bc.out) Bc.out)
          have Bmp := Lib.hid (b11.row (row_lt Bmp.out) Bmp.out)
          have Brp := Lib.hid (b11.row (row_lt Brp.out) Brp.out)
          have Bmq := Lib.hid (b11.row (row_lt Bmq.out) Bmq.out)
          have Brq := Lib.hid (b11.row (row_lt Brq.out) Brq.out)
          have Bd := Lib.hid (b11.row (row_lt Bd.out) Bd.out)
          have Be := Lib.hid (b11.row (row_lt Be.out) Be.out)
          have bw := bw.call b11
          clear b11
          go_wp2_with fail
          refine (lowSame_any A5 A6 n5 c5 n6 c6 _ L L _ H5.out hLb H6.out hLb).mono ?_
          rw [beq_self_eq_true]
          rintro e w12 ⟨rfl, rfl⟩
          obtain ⟨Bm_0, Bm_1, Bm_2, Bm_3⟩ := row4 Bm.out
          obtain ⟨Bc_0, Bc_1, Bc_2, Bc_3⟩ := row4 Bc.out
          go_wp2_with fail
          refine (lawSame7_any u yc M M _ HM.out HC.out su sc).mono ?_
          rw [sameM_self]
          rintro e w12 ⟨rfl, b12⟩
          clear Bm_0 Bm_1 Bm_2 Bm_3 Bc_0 Bc_1 Bc_2 Bc_3
          have HS := Lib.hid (HS.out.to b12)
          have HM := Lib.hid (HM.out.to b12)
          have HO := Lib.hid (HO.out.to b12)
          have HW := Lib.hid (HW.out.to b12)
          have HB := Lib.hid (HB.out.to b12)
          have HA := Lib.hid (HA.out.to b12)
          have HC := Lib.hid (HC.out.to b12)
          have HYp := Lib.hid (HYp.out.to b12)
          have HBp := Lib.hid (HBp.out.to b12)
          have HWp := Lib.hid (HWp.out.to b12)
          have HYq := Lib.hid (HYq.out.to b12)
          have HBq := Lib.hid (HBq.out.to b12)
          have HWq := Lib.hid (HWq.out.to b12)
          have HY1 := Lib.hid (HY1.out.to b12)
          have H5 := Lib.hid (H5.out.to b12)
          have HY2 := Lib.hid (HY2.out.to b12)
          have H6 := Lib.hid (H6.out.to b12)
          have Bs := Lib.hid (b12.row (row_lt Bs.out) Bs.out)
          have Bm := Lib.hid (b12.row (row_lt Bm.out) Bm.out)
          have Bo := Lib.hid (b12.row (row_lt Bo.out) Bo.out)
          have Bq := Lib.hid (b12.row (row_lt Bq.out) Bq.out)
          have Bc := Lib.hid (b12.row (row_lt Bc.out) Bc.out)
          have Bmp := Lib.hid (b12.row (row_lt Bmp.out) Bmp.out)
          have Brp := Lib.hid (b12.row (row_lt Brp.out) Brp.out)
          have Bmq := Lib.hid (b12.row (row_lt Bmq.out) Bmq.out)
          have Brq := Lib.hid (b12.row (row_lt Brq.out) Brq.out)
          have Bd := Lib.hid (b12.row (row_lt Bd.out) Bd.out)
          have Be := Lib.hid (b12.row (row_lt Be.out) Be.out)
          have bw := bw.call b12
          clear b12
          go_wp2_with (go_at_call 6; refine (awake7_any _).mono ?_; rintro e wa ⟨rfl, ba⟩)
          go_ret
          exact ⟨rfl, bw.call ba⟩
end Go.Proofs.YtjfhfgchglaoiaaGreat.MoW
