/- The walk of ModelSwap. -/
import Derived.Test.YtiibopdnlmnkmaaMoQ
import Derived.Test.YtiibopdnlmnkmaaMG3
set_option linter.unusedVariables false
set_option linter.unusedSimpArgs false
namespace Go.Proofs.Ytiibopdnlmnkmaa.MoW
open Go.RowKit Go.Proofs.Ytiibopdnlmnkmaa Go.Proofs.Ytiibopdnlmnkmaa.Mo Go.Proofs.Ytiibopdnlmnkmaa.Ask Go.Proofs.Ytiibopdnlmnkmaa.AskW
theorem light_small {v u : Sp} (h : lightF v u = true) : v.Small ∧ u.Small ∧ u.a.n ≤ 300 ∧ u.b.n ≤ 300 ∧ u.c.n ≤ 300 ∧ u.d.n ≤ 300 := by
  unfold lightF at h
  simp only [Bool.and_eq_true, decide_eq_true_iff] at h
  exact ⟨⟨by omega, by omega, by omega, by omega⟩, ⟨by omega, by omega, by omega, by omega⟩, h.2.1, h.2.2.1, h.2.2.2.1, h.2.2.2.2⟩
theorem do_small {s : Space} {m N : Mem} {r : Req} {p : Rep} {u : Sp} {w : World} (e : (N, p) = doM s m r) (su : u.Small) (h : MmOk w u m) : N.coils.length ≤ 100000 ∧ N.inputs.length ≤ 100000 ∧ N.holding.length ≤ 100000 ∧ N.words.length ≤ 100000 := by
  have e2 : N = (doM s m r).1 := by rw [← e]
  have hl := do_len s m r
  have h4 := h.lens
  rw [e2, hl.1, hl.2.1, hl.2.2.1, hl.2.2.2, h4.1, h4.2.1, h4.2.2.1, h4.2.2.2]
  exact ⟨su.a, su.b, su.c, su.d⟩
theorem small_of {y : Sp} {N : Mem} {w : World} (h : MmOk w y N) (l : N.coils.length ≤ 100000 ∧ N.inputs.length ≤ 100000 ∧ N.holding.length ≤ 100000 ∧ N.words.length ≤ 100000) : y.Small := by
  have h4 := h.lens
  rw [h4.1, h4.2.1, h4.2.2.1, h4.2.2.2] at l
  exact ⟨l.1, l.2.1, l.2.2.1, l.2.2.2⟩
set_option maxRecDepth 10000 in
set_option maxHeartbeats 16000000 in
theorem modelSwap_any (v u : Sp) (s : Space) (M : Mem) (a n t : Nat) (A : Option Addr) (k c : Nat) (W : List Nat) (w : World) (hS : SpOk w v s) (hM : MmOk w u M) (ho : s.Ok) (hm : M.Wf)
    (hv : v.a.n ≤ 140737488355328 ∧ v.b.n ≤ 140737488355328 ∧ v.c.n ≤ 140737488355328 ∧ v.d.n ≤ 140737488355328) (ha : a < 65536) (hn : n < 65536) (ht : t < 65536) (hs : Sl w w.heap.size A k (ws W)) (hw : ∀ x ∈ W, x < 65536) :
    Calls Try.prog 5 #[.agg #[.slice v.a.A v.a.n v.a.c, .slice v.b.A v.b.n v.b.c, .slice v.c.A v.c.n v.c.c, .slice v.d.A v.d.n v.d.c], .agg #[.slice u.a.A u.a.n u.a.c, .slice u.b.A u.b.n u.b.c, .slice u.c.A u.c.n u.c.c, .slice u.d.A u.d.n u.d.c], .int .u16 (a : Nat), .int .u16 (n : Nat), .int .u16 (t : Nat), .slice A k c] w fun e w' => e = .returned (.bool true) ∧ Below w.heap.size w w' := by
  cases hL : lightF v u
  case false =>
    go_enter Try.func5, Try.ntmps5
    go_wp2_with fail
    refine (light_any v u _ hv).mono ?_
    rintro e w1 ⟨rfl, b1⟩
    have X1 := Bx.first b1
    have bw := X1.bel
    have HS := Lib.hid (hS.to bw)
    have HM := Lib.hid (hM.to bw)
    have HA := Lib.hid (hs.to bw)
    have Bs := Lib.hid X1.x
    have Bm := Lib.hid X1.y
    clear b1 X1 hS hM hs
    rw [hL]
    obtain ⟨Bs_0, Bs_1, Bs_2, Bs_3⟩ := row4 Bs.out
    obtain ⟨Bm_0, Bm_1, Bm_2, Bm_3⟩ := row4 Bm.out
    go_wp2_with (go_at_call 10; refine (awake7_any _).mono ?_; rintro e wa ⟨rfl, ba⟩)
    go_ret
    exact ⟨rfl, bw.call ba⟩
  case true =>
    obtain ⟨sv, su, l1, l2, l3, l4⟩ := light_small hL
    by_cases h0 : k = 0
    · have T0 : ((k : Int) == 0) = true := by rw [beq_iff_eq]; omega
      clear h0
      go_enter Try.func5, Try.ntmps5
      go_wp2_with fail
      refine (light_any v u _ hv).mono ?_
      rintro e w1 ⟨rfl, b1⟩
      have X1 := Bx.first b1
      have bw := X1.bel
      have HS := Lib.hid (hS.to bw)
      have HM := Lib.hid (hM.to bw)
      have HA := Lib.hid (hs.to bw)
      have Bs := Lib.hid X1.x
      have Bm := Lib.hid X1.y
      clear b1 X1 hS hM hs
      rw [hL]
      obtain ⟨Bs_0, Bs_1, Bs_2, Bs_3⟩ := row4 Bs.out
      obtain ⟨Bm_0, Bm_1, Bm_2, Bm_3⟩ := row4 Bm.out
      go_wp2_with (go_at_call 10; refine (awake7_any _).mono ?_; rintro e wa ⟨rfl, ba⟩)
      go_ret
      exact ⟨rfl, bw.call ba⟩
    have T0 : ((k : Int) == 0) = false := by rw [beq_eq_false_iff_ne]; omega
    by_cases h1 : (121 : Int) < (k : Int)
    · skip
      go_enter Try.func5, Try.ntmps5
      go_wp2_with fail
      refine (light_any v u _ hv).mono ?_
      rintro e w1 ⟨rfl, b1⟩
      have X1 := Bx.first b1
      have bw := X1.bel
      have HS := Lib.hid (hS.to bw)
      have HM := Lib.hid (hM.to bw)
      have HA := Lib.hid (hs.to bw)
      have Bs := Lib.hid X1.x
      have Bm := Lib.hid X1.y
      clear b1 X1 hS hM hs
      rw [hL]
      obtain ⟨Bs_0, Bs_1, Bs_2, Bs_3⟩ := row4 Bs.out
      obtain ⟨Bm_0, Bm_1, Bm_2, Bm_3⟩ := row4 Bm.out
      go_wp2_with (go_at_call 10; refine (awake7_any _).mono ?_; rintro e wa ⟨rfl, ba⟩)
      go_ret
      exact ⟨rfl, bw.call ba⟩
    have T1 : decide ((121 : Int) < (k : Int)) = false := decide_eq_false h1
    obtain ⟨Q, hQ⟩ : ∃ Q, Q = rightM s M := ⟨_, rfl⟩
    have HQ := Lib.hid hQ
    clear hQ
    cases Q
    case false =>
      go_enter Try.func5, Try.ntmps5
      go_wp2_with fail
      refine (light_any v u _ hv).mono ?_
      rintro e w1 ⟨rfl, b1⟩
      have X1 := Bx.first b1
      have bw := X1.bel
      have HS := Lib.hid (hS.to bw)
      have HM := Lib.hid (hM.to bw)
      have HA := Lib.hid (hs.to bw)
      have Bs := Lib.hid X1.x
      have Bm := Lib.hid X1.y
      clear b1 X1 hS hM hs
      rw [hL]
      obtain ⟨Bs_0, Bs_1, Bs_2, Bs_3⟩ := row4 Bs.out
      obtain ⟨Bm_0, Bm_1, Bm_2, Bm_3⟩ := row4 Bm.out
      go_wp2_with fail
      refine (modRight_any v u s M _ HS.out HM.out ho sv su).mono ?_
      rw [← HQ.out]
      rintro e w2 ⟨rfl, b2⟩
      clear Bs_0 Bs_1 Bs_2 Bs_3 Bm_0 Bm_1 Bm_2 Bm_3
      have HS := Lib.hid (HS.out.to b2)
      have HM := Lib.hid (HM.out.to b2)
      have HA := Lib.hid (HA.out.to b2)
      have Bs := Lib.hid (b2.row (row_lt Bs.out) Bs.out)
      have Bm := Lib.hid (b2.row (row_lt Bm.out) Bm.out)
      have bw := bw.call b2
      clear b2
      obtain ⟨Bs_0, Bs_1, Bs_2, Bs_3⟩ := row4 Bs.out
      obtain ⟨Bm_0, Bm_1, Bm_2, Bm_3⟩ := row4 Bm.out
      go_wp2_with (go_at_call 10; refine (awake7_any _).mono ?_; rintro e wa ⟨rfl, ba⟩)
      go_ret
      exact ⟨rfl, bw.call ba⟩
    case true =>
      have hWl : W.length = k := by simpa using hs.len
      have wk : IntKind.u16.wrap (k : Int) = (k : Int) := by rw [IntKind.wrap_u16]; omega
      have HSW := Lib.hid (swap_is (s := s) (m := M) (a := a) (n := n) (t := t) (W := W) HQ.out.symm (by omega) (by omega))
      rw [hWl] at HSW
      obtain ⟨⟨M1, ⟨f1, x1, B1, W1, a1, m1⟩⟩, e1⟩ : ∃ D, D = doM s M ⟨23, a, n, t, W, []⟩ := ⟨_, rfl⟩
      obtain ⟨⟨M2, ⟨f2, x2, B2, W2, a2, m2⟩⟩, e2⟩ : ∃ D, D = doM s M ⟨16, t, k, 0, W, []⟩ := ⟨_, rfl⟩
      rw [← e1, ← e2] at HSW
      dsimp only at HSW
      obtain ⟨⟨M3, ⟨f3, x3, B3, W3, a3, m3⟩⟩, e3⟩ : ∃ D, D = doM s M2 ⟨3, a, n, 0, [], []⟩ := ⟨_, rfl⟩
      rw [← e3] at HSW
      dsimp only at HSW
      have wf1 : Req.Wf ⟨23, a, n, t, W, []⟩ := ⟨by show 23 < 256; omega, ha, hn, ht, hw⟩
      have wf2 : Req.Wf ⟨16, t, k, 0, W, []⟩ := ⟨by show 16 < 256; omega, ht, by show k < 65536; omega, by show 0 < 65536; omega, hw⟩
      have wf3 : Req.Wf ⟨3, a, n, 0, [], []⟩ := ⟨by show 3 < 256; omega, ha, hn, by show 0 < 65536; omega, fun _ h => by cases h⟩
      have hM2 : M2.Wf := by have h := (do_wf (s := s) hm wf2).1; rw [← e2] at h; exact h
      have HE1 := Lib.hid e1
      have HE2 := Lib.hid e2
      have HE3 := Lib.hid e3
      have HWL := Lib.hid hWl
      clear e1 e2 e3 hWl
      by_cases c2 : x2 = 0
      case pos =>
        by_cases c3 : x3 = 0
        case pos =>
          have P2 : ((x2 : Int) != 0) = false := by rw [c2]; rfl
          have P3 : ((x3 : Int) != 0) = false := by rw [c3]; rfl
          have P30 : ((x3 : Int) == 0) = true := by rw [c3]; rfl
          have P32 : ((x3 : Int) == 2) = false := by rw [beq_eq_false_iff_ne]; omega
          have HG := Lib.hid (HSW.out.2 c2 c3)
          have P1 : ((x1 : Int) == 0) = true := by rw [HG.out.2.1]; rfl
          clear HSW c2 c3
          go_enter Try.func5, Try.ntmps5
          go_wp2_with fail
          refine (light_any v u _ hv).mono ?_
          rintro e w1 ⟨rfl, b1⟩
          have X1 := Bx.first b1
          have bw := X1.bel
          have HS := Lib.hid (hS.to bw)
          have HM := Lib.hid (hM.to bw)
          have HA := Lib.hid (hs.to bw)
          have Bs := Lib.hid X1.x
          have Bm := Lib.hid X1.y
          clear b1 X1 hS hM hs
          rw [hL]
          obtain ⟨Bs_0, Bs_1, Bs_2, Bs_3⟩ := row4 Bs.out
          obtain ⟨Bm_0, Bm_1, Bm_2, Bm_3⟩ := row4 Bm.out
          go_wp2_with fail
          refine (modRight_any v u s M _ HS.out HM.out ho sv su).mono ?_
          rw [← HQ.out]
          rintro e w2 ⟨rfl, b2⟩
          clear Bs_0 Bs_1 Bs_2 Bs_3 Bm_0 Bm_1 Bm_2 Bm_3
          have HS := Lib.hid (HS.out.to b2)
          have HM := Lib.hid (HM.out.to b2)
          have HA := Lib.hid (HA.out.to b2)
          have Bs := Lib.hid (b2.row (row_lt Bs.out) Bs.out)
          have Bm := Lib.hid (b2.row (row_lt Bm.out) Bm.out)
          have bw := bw.call b2
          clear b2
          obtain ⟨Bs_0, Bs_1, Bs_2, Bs_3⟩ := row4 Bs.out
          obtain ⟨Bm_0, Bm_1, Bm_2, Bm_3⟩ := row4 Bm.out
          go_wp2_with fail
          refine (modDo_any v u s M 23 a n t A k c none 0 0 W [] _ HS.out HM.out ho sv su HA.out (Sl.empty _ _ _) wf1 (by omega) (Nat.zero_le _)).mono ?_
          rw [← HE1.out]
          rintro e w3 ⟨yp, A6p, n6p, c6p, A7p, n7p, c7p, rfl, YMp, S6p, S7p, k6p, k7p, bp⟩
          clear Bs_0 Bs_1 Bs_2 Bs_3 Bm_0 Bm_1 Bm_2 Bm_3
          have HS := Lib.hid (HS.out.to bp)
          have HM := Lib.hid (HM.out.to bp)
          have HA := Lib.hid (HA.out.to bp)
          have Bs := Lib.hid (bp.row (row_lt Bs.out) Bs.out)
          have Bm := Lib.hid (bp.row (row_lt Bm.out) Bm.out)
          have bw := bw.call bp
          have HYp := Lib.hid YMp
          have HBp := Lib.hid S6p
          have HWp := Lib.hid S7p
          clear YMp S6p S7p
          clear bp
          go_wp2_with (first
            | (refine wpList_store_grown rfl 28 (.tmp 13) _ rfl w3.heap.size #[.slice yp.a.A yp.a.n yp.a.c, .slice yp.b.A yp.b.n yp.b.c, .slice yp.c.A yp.c.n yp.c.c, .slice yp.d.A yp.d.n yp.d.c] rfl rfl 28 _ (row_alloc (heap_alloc_new w3 _) _) (by kernel_rfl) rfl (by simp [Value.oneCell']) ?_; intro Wpa hpa gpa spa)
            | (refine wpList_store_grown rfl 36 (.tmp 14) _ rfl (w3.heap.size + 1) #[.int .u8 (f1 : Nat), .int .u8 (x1 : Nat), .slice A6p n6p c6p, .slice A7p n7p c7p, .int .u16 (a1 : Nat), .int .u16 (m1 : Nat)] rfl rfl 36 _ (gpa.row (by omega) (heap_alloc2_new w3 _ _)) (by kernel_rfl) rfl (by simp [Value.oneCell']) ?_; intro Wp hpb gpb spb; have Bmp := Lib.hid (gpb.row (k := w3.heap.size) (by omega) hpa); have Brp := Lib.hid hpb; have Cp := below_two gpa gpb spa; clear gpa gpb spa spb hpa hpb; have HS := Lib.hid (HS.out.to Cp); have HM := Lib.hid (HM.out.to Cp); have HA := Lib.hid (HA.out.to Cp); have HYp := Lib.hid (HYp.out.to Cp); have HBp := Lib.hid (HBp.out.to Cp); have HWp := Lib.hid (HWp.out.to Cp); have Bs := Lib.hid (Cp.row (row_lt Bs.out) Bs.out); have Bm := Lib.hid (Cp.row (row_lt Bm.out) Bm.out); have bw := bw.call Cp; clear Cp; obtain ⟨Bs_0, Bs_1, Bs_2, Bs_3⟩ := row4 Bs.out; obtain ⟨Bm_0, Bm_1, Bm_2, Bm_3⟩ := row4 Bm.out)
            | fail)
          refine (modDo_any v u s M 16 t k 0 A k c none 0 0 W [] _ HS.out HM.out ho sv su HA.out (Sl.empty _ _ _) wf2 (by omega) (Nat.zero_le _)).mono ?_
          rw [← HE2.out]
          rintro e w4 ⟨yq, A6q, n6q, c6q, A7q, n7q, c7q, rfl, YMq, S6q, S7q, k6q, k7q, bq⟩
          clear Bs_0 Bs_1 Bs_2 Bs_3 Bm_0 Bm_1 Bm_2 Bm_3
          have HS := Lib.hid (HS.out.to bq)
          have HM := Lib.hid (HM.out.to bq)
          have HA := Lib.hid (HA.out.to bq)
          have HYp := Lib.hid (HYp.out.to bq)
          have HBp := Lib.hid (HBp.out.to bq)
          have HWp := Lib.hid (HWp.out.to bq)
          have Bs := Lib.hid (bq.row (row_lt Bs.out) Bs.out)
          have Bm := Lib.hid (bq.row (row_lt Bm.out) Bm.out)
          have Bmp := Lib.hid (bq.row (row_lt Bmp.out) Bmp.out)
          have Brp := Lib.hid (bq.row (row_lt Brp.out) Brp.out)
          have bw := bw.call bq
          have HYq := Lib.hid YMq
          have HBq := Lib.hid S6q
          have HWq := Lib.hid S7q
          clear YMq S6q S7q
          clear bq
          go_wp2_with (first
            | (refine wpList_store_grown rfl 28 (.tmp 15) _ rfl w4.heap.size #[.slice yq.a.A yq.a.n yq.a.c, .slice yq.b.A yq.b.n yq.b.c, .slice yq.c.A yq.c.n yq.c.c, .slice yq.d.A yq.d.n yq.d.c] rfl rfl 28 _ (row_alloc (heap_alloc_new w4 _) _) (by kernel_rfl) rfl (by simp [Value.oneCell']) ?_; intro Wqa hqa gqa sqa)
            | (refine wpList_store_grown rfl 36 (.tmp 16) _ rfl (w4.heap.size + 1) #[.int .u8 (f2 : Nat), .int .u8 (x2 : Nat), .slice A6q n6q c6q, .slice A7q n7q c7q, .int .u16 (a2 : Nat), .int .u16 (m2 : Nat)] rfl rfl 36 _ (gqa.row (by omega) (heap_alloc2_new w4 _ _)) (by kernel_rfl) rfl (by simp [Value.oneCell']) ?_; intro Wq hqb gqb sqb; have Bmq := Lib.hid (gqb.row (k := w4.heap.size) (by omega) hqa); have Brq := Lib.hid hqb; have Cq := below_two gqa gqb sqa; clear gqa gqb sqa sqb hqa hqb; have HS := Lib.hid (HS.out.to Cq); have HM := Lib.hid (HM.out.to Cq); have HA := Lib.hid (HA.out.to Cq); have HYp := Lib.hid (HYp.out.to Cq); have HBp := Lib.hid (HBp.out.to Cq); have HWp := Lib.hid (HWp.out.to Cq); have HYq := Lib.hid (HYq.out.to Cq); have HBq := Lib.hid (HBq.out.to Cq); have HWq := Lib.hid (HWq.out.to Cq); have Bs := Lib.hid (Cq.row (row_lt Bs.out) Bs.out); have Bm := Lib.hid (Cq.row (row_lt Bm.out) Bm.out); have Bmp := Lib.hid (Cq.row (row_lt Bmp.out) Bmp.out); have Brp := Lib.hid (Cq.row (row_lt Brp.out) Brp.out); have bw := bw.call Cq; clear Cq; obtain ⟨Bs_0, Bs_1, Bs_2, Bs_3⟩ := row4 Bs.out; obtain ⟨Bmq_0, Bmq_1, Bmq_2, Bmq_3⟩ := row4 Bmq.out)
            | fail)
          have sq : yq.Small := small_of HYq.out (do_small HE2.out su HM.out)
          refine (modDo_any v yq s M2 3 a n 0 none 0 0 none 0 0 [] [] _ HS.out HYq.out ho sv sq (Sl.empty _ _ _) (Sl.empty _ _ _) wf3 (Nat.zero_le _) (Nat.zero_le _)).mono ?_
          rw [← HE3.out]
          rintro e w5 ⟨yr, A6r, n6r, c6r, A7r, n7r, c7r, rfl, YMr, S6r, S7r, k6r, k7r, br⟩
          clear Bs_0 Bs_1 Bs_2 Bs_3 Bmq_0 Bmq_1 Bmq_2 Bmq_3
          have HS := Lib.hid (HS.out.to br)
          have HM := Lib.hid (HM.out.to br)
          have HA := Lib.hid (HA.out.to br)
          have HYp := Lib.hid (HYp.out.to br)
          have HBp := Lib.hid (HBp.out.to br)
          have HWp := Lib.hid (HWp.out.to br)
          have HYq := Lib.hid (HYq.out.to br)
          have HBq := Lib.hid (HBq.out.to br)
          have HWq := Lib.hid (HWq.out.to br)
          have Bs := Lib.hid (br.row (row_lt Bs.out) Bs.out)
          have Bm := Lib.hid (br.row (row_lt Bm.out) Bm.out)
          have Bmp := Lib.hid (br.row (row_lt Bmp.out) Bmp.out)
          have Brp := Lib.hid (br.row (row_lt Brp.out) Brp.out)
          have Bmq := Lib.hid (br.row (row_lt Bmq.out) Bmq.out)
          have Brq := Lib.hid (br.row (row_lt Brq.out) Brq.out)
          have bw := bw.call br
          have HYr := Lib.hid YMr
          have HBr := Lib.hid S6r
          have HWr := Lib.hid S7r
          clear YMr S6r S7r
          clear br
          go_wp2_with (first
            | (refine wpList_store_grown rfl 28 (.tmp 17) _ rfl w5.heap.size #[.slice yr.a.A yr.a.n yr.a.c, .slice yr.b.A yr.b.n yr.b.c, .slice yr.c.A yr.c.n yr.c.c, .slice yr.d.A yr.d.n yr.d.c] rfl rfl 28 _ (row_alloc (heap_alloc_new w5 _) _) (by kernel_rfl) rfl (by simp [Value.oneCell']) ?_; intro Wra hra gra sra)
            | (refine wpList_store_grown rfl 36 (.tmp 18) _ rfl (w5.heap.size + 1) #[.int .u8 (f3 : Nat), .int .u8 (x3 : Nat), .slice A6r n6r c6r, .slice A7r n7r c7r, .int .u16 (a3 : Nat), .int .u16 (m3 : Nat)] rfl rfl 36 _ (gra.row (by omega) (heap_alloc2_new w5 _ _)) (by kernel_rfl) rfl (by simp [Value.oneCell']) ?_; intro Wr hrb grb srb; have Bmr := Lib.hid (grb.row (k := w5.heap.size) (by omega) hra); have Brr := Lib.hid hrb; have Cr := below_two gra grb sra; clear gra grb sra srb hra hrb; have HS := Lib.hid (HS.out.to Cr); have HM := Lib.hid (HM.out.to Cr); have HA := Lib.hid (HA.out.to Cr); have HYp := Lib.hid (HYp.out.to Cr); have HBp := Lib.hid (HBp.out.to Cr); have HWp := Lib.hid (HWp.out.to Cr); have HYq := Lib.hid (HYq.out.to Cr); have HBq := Lib.hid (HBq.out.to Cr); have HWq := Lib.hid (HWq.out.to Cr); have HYr := Lib.hid (HYr.out.to Cr); have HBr := Lib.hid (HBr.out.to Cr); have HWr := Lib.hid (HWr.out.to Cr); have Bs := Lib.hid (Cr.row (row_lt Bs.out) Bs.out); have Bm := Lib.hid (Cr.row (row_lt Bm.out) Bm.out); have Bmp := Lib.hid (Cr.row (row_lt Bmp.out) Bmp.out); have Brp := Lib.hid (Cr.row (row_lt Brp.out) Brp.out); have Bmq := Lib.hid (Cr.row (row_lt Bmq.out) Bmq.out); have Brq := Lib.hid (Cr.row (row_lt Brq.out) Brq.out); have bw := bw.call Cr; clear Cr; obtain ⟨Brq_0, Brq_1, Brq_2, Brq_3, Brq_4, Brq_5⟩ := row6 Brq.out; obtain ⟨Brr_0, Brr_1, Brr_2, Brr_3, Brr_4, Brr_5⟩ := row6 Brr.out; obtain ⟨Bmp_0, Bmp_1, Bmp_2, Bmp_3⟩ := row4 Bmp.out; obtain ⟨Bmr_0, Bmr_1, Bmr_2, Bmr_3⟩ := row4 Bmr.out)
            | fail)
          have sp : yp.Small := small_of HYp.out (do_small HE1.out su HM.out)
          have sr : yr.Small := small_of HYr.out (do_small HE3.out sq HYq.out)
          refine (lawSame7_any yp yr M1 M3 _ HYp.out HYr.out sp sr).mono ?_
          rw [HG.out.1, sameM_self]
          rintro e w6 ⟨rfl, b6⟩
          clear Brq_0 Brq_1 Brq_2 Brq_3 Brq_4 Brq_5 Brr_0 Brr_1 Brr_2 Brr_3 Brr_4 Brr_5 Bmp_0 Bmp_1 Bmp_2 Bmp_3 Bmr_0 Bmr_1 Bmr_2 Bmr_3
          have HS := Lib.hid (HS.out.to b6)
          have HM := Lib.hid (HM.out.to b6)
          have HA := Lib.hid (HA.out.to b6)
          have HYp := Lib.hid (HYp.out.to b6)
          have HBp := Lib.hid (HBp.out.to b6)
          have HWp := Lib.hid (HWp.out.to b6)
          have HYq := Lib.hid (HYq.out.to b6)
          have HBq := Lib.hid (HBq.out.to b6)
          have HWq := Lib.hid (HWq.out.to b6)
          have HYr := Lib.hid (HYr.out.to b6)
          have HBr := Lib.hid (HBr.out.to b6)
          have HWr := Lib.hid (HWr.out.to b6)
          have Bs := Lib.hid (b6.row (row_lt Bs.out) Bs.out)
          have Bm := Lib.hid (b6.row (row_lt Bm.out) Bm.out)
          have Bmp := Lib.hid (b6.row (row_lt Bmp.out) Bmp.out)
          have Brp := Lib.hid (b6.row (row_lt Brp.out) Brp.out)
          have Bmq := Lib.hid (b6.row (row_lt Bmq.out) Bmq.out)
          have Brq := Lib.hid (b6.row (row_lt Brq.out) Brq.out)
          have Bmr := Lib.hid (b6.row (row_lt Bmr.out) Bmr.out)
          have Brr := Lib.hid (b6.row (row_lt Brr.out) Brr.out)
          have bw := bw.call b6
          clear b6
          obtain ⟨Brp_0, Brp_1, Brp_2, Brp_3, Brp_4, Brp_5⟩ := row6 Brp.out
          obtain ⟨Brr_0, Brr_1, Brr_2, Brr_3, Brr_4, Brr_5⟩ := row6 Brr.out
          go_wp2_with fail
          refine (lowWords_any A7p A7r n7p c7p n7r c7r W1 W3 _ HWp.out HWr.out (by have h := HWp.out.len; rw [ws_length] at h; have h2 : W1.length ≤ W.length + n := do_words HE1.out; have h3 := HWL.out; omega) (by have h := HWr.out.len; rw [ws_length] at h; have h2 : W3.length ≤ 0 + n := do_words HE3.out; omega)).mono ?_
          rw [HG.out.2.2, beq_self_eq_true]
          rintro e w7 ⟨rfl, b7⟩
          clear Brp_0 Brp_1 Brp_2 Brp_3 Brp_4 Brp_5 Brr_0 Brr_1 Brr_2 Brr_3 Brr_4 Brr_5
          have HS := Lib.hid (HS.out.to b7)
          have HM := Lib.hid (HM.out.to b7)
          have HA := Lib.hid (HA.out.to b7)
          have HYp := Lib.hid (HYp.out.to b7)
          have HBp := Lib.hid (HBp.out.to b7)
          have HWp := Lib.hid (HWp.out.to b7)
          have HYq := Lib.hid (HYq.out.to b7)
          have HBq := Lib.hid (HBq.out.to b7)
          have HWq := Lib.hid (HWq.out.to b7)
          have HYr := Lib.hid (HYr.out.to b7)
          have HBr := Lib.hid (HBr.out.to b7)
          have HWr := Lib.hid (HWr.out.to b7)
          have Bs := Lib.hid (b7.row (row_lt Bs.out) Bs.out)
          have Bm := Lib.hid (b7.row (row_lt Bm.out) Bm.out)
          have Bmp := Lib.hid (b7.row (row_lt Bmp.out) Bmp.out)
          have Brp := Lib.hid (b7.row (row_lt Brp.out) Brp.out)
          have Bmq := Lib.hid (b7.row (row_lt Bmq.out) Bmq.out)
          have Brq := Lib.hid (b7.row (row_lt Brq.out) Brq.out)
          have Bmr := Lib.hid (b7.row (row_lt Bmr.out) Bmr.out)
          have Brr := Lib.hid (b7.row (row_lt Brr.out) Brr.out)
          have bw := bw.call b7
          clear b7
          go_wp2_with (go_at_call 10; refine (awake7_any _).mono ?_; rintro e wa ⟨rfl, ba⟩)
          go_ret
          exact ⟨rfl, bw.call ba⟩
        case neg =>
          by_cases c32 : x3 = 2
          case pos =>
            have c3 := c32
            clear c32
            have P2 : ((x2 : Int) != 0) = false := by rw [c2]; rfl
            have P3 : ((x3 : Int) != 0) = true := by rw [bne_iff_ne]; omega
            have P30 : ((x3 : Int) == 0) = false := by rw [beq_eq_false_iff_ne]; omega
            have P32 : ((x3 : Int) == 2) = true := by rw [c3]; rfl
            have HG := Lib.hid (HSW.out.1 (.inr (by omega)))
            have P1 : ((x1 : Int) == 2) = true := by rw [HG.out.2, if_pos (by omega)]; rfl
            clear HSW c2 c3
            go_enter Try.func5, Try.ntmps5
            go_wp2_with fail
            refine (light_any v u _ hv).mono ?_
            rintro e w1 ⟨rfl, b1⟩
            have X1 := Bx.first b1
            have bw := X1.bel
            have HS := Lib.hid (hS.to bw)
            have HM := Lib.hid (hM.to bw)
            have HA := Lib.hid (hs.to bw)
            have Bs := Lib.hid X1.x
            have Bm := Lib.hid X1.y
            clear b1 X1 hS hM hs
            rw [hL]
            obtain ⟨Bs_0, Bs_1, Bs_2, Bs_3⟩ := row4 Bs.out
            obtain ⟨Bm_0, Bm_1, Bm_2, Bm_3⟩ := row4 Bm.out
            go_wp2_with fail
            refine (modRight_any v u s M _ HS.out HM.out ho sv su).mono ?_
            rw [← HQ.out]
            rintro e w2 ⟨rfl, b2⟩
            clear Bs_0 Bs_1 Bs_2 Bs_3 Bm_0 Bm_1 Bm_2 Bm_3
            have HS := Lib.hid (HS.out.to b2)
            have HM := Lib.hid (HM.out.to b2)
            have HA := Lib.hid (HA.out.to b2)
            have Bs := Lib.hid (b2.row (row_lt Bs.out) Bs.out)
            have Bm := Lib.hid (b2.row (row_lt Bm.out) Bm.out)
            have bw := bw.call b2
            clear b2
            obtain ⟨Bs_0, Bs_1, Bs_2, Bs_3⟩ := row4 Bs.out
            obtain ⟨Bm_0, Bm_1, Bm_2, Bm_3⟩ := row4 Bm.out
            go_wp2_with fail
            refine (modDo_any v u s M 23 a n t A k c none 0 0 W [] _ HS.out HM.out ho sv su HA.out (Sl.empty _ _ _) wf1 (by omega) (Nat.zero_le _)).mono ?_
            rw [← HE1.out]
            rintro e w3 ⟨yp, A6p, n6p, c6p, A7p, n7p, c7p, rfl, YMp, S6p, S7p, k6p, k7p, bp⟩
            clear Bs_0 Bs_1 Bs_2 Bs_3 Bm_0 Bm_1 Bm_2 Bm_3
            have HS := Lib.hid (HS.out.to bp)
            have HM := Lib.hid (HM.out.to bp)
            have HA := Lib.hid (HA.out.to bp)
            have Bs := Lib.hid (bp.row (row_lt Bs.out) Bs.out)
            have Bm := Lib.hid (bp.row (row_lt Bm.out) Bm.out)
            have bw := bw.call bp
            have HYp := Lib.hid YMp
            have HBp := Lib.hid S6p
            have HWp := Lib.hid S7p
            clear YMp S6p S7p
            clear bp
            go_wp2_with (first
              | (refine wpList_store_grown rfl 28 (.tmp 13) _ rfl w3.heap.size #[.slice yp.a.A yp.a.n yp.a.c, .slice yp.b.A yp.b.n yp.b.c, .slice yp.c.A yp.c.n yp.c.c, .slice yp.d.A yp.d.n yp.d.c] rfl rfl 28 _ (row_alloc (heap_alloc_new w3 _) _) (by kernel_rfl) rfl (by simp [Value.oneCell']) ?_; intro Wpa hpa gpa spa)
              | (refine wpList_store_grown rfl 36 (.tmp 14) _ rfl (w3.heap.size + 1) #[.int .u8 (f1 : Nat), .int .u8 (x1 : Nat), .slice A6p n6p c6p, .slice A7p n7p c7p, .int .u16 (a1 : Nat), .int .u16 (m1 : Nat)] rfl rfl 36 _ (gpa.row (by omega) (heap_alloc2_new w3 _ _)) (by kernel_rfl) rfl (by simp [Value.oneCell']) ?_; intro Wp hpb gpb spb; have Bmp := Lib.hid (gpb.row (k := w3.heap.size) (by omega) hpa); have Brp := Lib.hid hpb; have Cp := below_two gpa gpb spa; clear gpa gpb spa spb hpa hpb; have HS := Lib.hid (HS.out.to Cp); have HM := Lib.hid (HM.out.to Cp); have HA := Lib.hid (HA.out.to Cp); have HYp := Lib.hid (HYp.out.to Cp); have HBp := Lib.hid (HBp.out.to Cp); have HWp := Lib.hid (HWp.out.to Cp); have Bs := Lib.hid (Cp.row (row_lt Bs.out) Bs.out); have Bm := Lib.hid (Cp.row (row_lt Bm.out) Bm.out); have bw := bw.call Cp; clear Cp; obtain ⟨Bs_0, Bs_1, Bs_2, Bs_3⟩ := row4 Bs.out; obtain ⟨Bm_0, Bm_1, Bm_2, Bm_3⟩ := row4 Bm.out)
              | fail)
            refine (modDo_any v u s M 16 t k 0 A k c none 0 0 W [] _ HS.out HM.out ho sv su HA.out (Sl.empty _ _ _) wf2 (by omega) (Nat.zero_le _)).mono ?_
            rw [← HE2.out]
            rintro e w4 ⟨yq, A6q, n6q, c6q, A7q, n7q, c7q, rfl, YMq, S6q, S7q, k6q, k7q, bq⟩
            clear Bs_0 Bs_1 Bs_2 Bs_3 Bm_0 Bm_1 Bm_2 Bm_3
            have HS := Lib.hid (HS.out.to bq)
            have HM := Lib.hid (HM.out.to bq)
            have HA := Lib.hid (HA.out.to bq)
            have HYp := Lib.hid (HYp.out.to bq)
            have HBp := Lib.hid (HBp.out.to bq)
            have HWp := Lib.hid (HWp.out.to bq)
            have Bs := Lib.hid (bq.row (row_lt Bs.out) Bs.out)
            have Bm := Lib.hid (bq.row (row_lt Bm.out) Bm.out)
            have Bmp := Lib.hid (bq.row (row_lt Bmp.out) Bmp.out)
            have Brp := Lib.hid (bq.row (row_lt Brp.out) Brp.out)
            have bw := bw.call bq
            have HYq := Lib.hid YMq
            have HBq := Lib.hid S6q
            have HWq := Lib.hid S7q
            clear YMq S6q S7q
            clear bq
            go_wp2_with (first
              | (refine wpList_store_grown rfl 28 (.tmp 15) _ rfl w4.heap.size #[.slice yq.a.A yq.a.n yq.a.c, .slice yq.b.A yq.b.n yq.b.c, .slice yq.c.A yq.c.n yq.c.c, .slice yq.d.A yq.d.n yq.d.c] rfl rfl 28 _ (row_alloc (heap_alloc_new w4 _) _) (by kernel_rfl) rfl (by simp [Value.oneCell']) ?_; intro Wqa hqa gqa sqa)
              | (refine wpList_store_grown rfl 36 (.tmp 16) _ rfl (w4.heap.size + 1) #[.int .u8 (f2 : Nat), .int .u8 (x2 : Nat), .slice A6q n6q c6q, .slice A7q n7q c7q, .int .u16 (a2 : Nat), .int .u16 (m2 : Nat)] rfl rfl 36 _ (gqa.row (by omega) (heap_alloc2_new w4 _ _)) (by kernel_rfl) rfl (by simp [Value.oneCell']) ?_; intro Wq hqb gqb sqb; have Bmq := Lib.hid (gqb.row (k := w4.heap.size) (by omega) hqa); have Brq := Lib.hid hqb; have Cq := below_two gqa gqb sqa; clear gqa gqb sqa sqb hqa hqb; have HS := Lib.hid (HS.out.to Cq); have HM := Lib.hid (HM.out.to Cq); have HA := Lib.hid (HA.out.to Cq); have HYp := Lib.hid (HYp.out.to Cq); have HBp := Lib.hid (HBp.out.to Cq); have HWp := Lib.hid (HWp.out.to Cq); have HYq := Lib.hid (HYq.out.to Cq); have HBq := Lib.hid (HBq.out.to Cq); have HWq := Lib.hid (HWq.out.to Cq); have Bs := Lib.hid (Cq.row (row_lt Bs.out) Bs.out); have Bm := Lib.hid (Cq.row (row_lt Bm.out) Bm.out); have Bmp := Lib.hid (Cq.row (row_lt Bmp.out) Bmp.out); have Brp := Lib.hid (Cq.row (row_lt Brp.out) Brp.out); have bw := bw.call Cq; clear Cq; obtain ⟨Bs_0, Bs_1, Bs_2, Bs_3⟩ := row4 Bs.out; obtain ⟨Bmq_0, Bmq_1, Bmq_2, Bmq_3⟩ := row4 Bmq.out)
              | fail)
            have sq : yq.Small := small_of HYq.out (do_small HE2.out su HM.out)
            refine (modDo_any v yq s M2 3 a n 0 none 0 0 none 0 0 [] [] _ HS.out HYq.out ho sv sq (Sl.empty _ _ _) (Sl.empty _ _ _) wf3 (Nat.zero_le _) (Nat.zero_le _)).mono ?_
            rw [← HE3.out]
            rintro e w5 ⟨yr, A6r, n6r, c6r, A7r, n7r, c7r, rfl, YMr, S6r, S7r, k6r, k7r, br⟩
            clear Bs_0 Bs_1 Bs_2 Bs_3 Bmq_0 Bmq_1 Bmq_2 Bmq_3
            have HS := Lib.hid (HS.out.to br)
            have HM := Lib.hid (HM.out.to br)
            have HA := Lib.hid (HA.out.to br)
            have HYp := Lib.hid (HYp.out.to br)
            have HBp := Lib.hid (HBp.out.to br)
            have HWp := Lib.hid (HWp.out.to br)
            have HYq := Lib.hid (HYq.out.to br)
            have HBq := Lib.hid (HBq.out.to br)
            have HWq := Lib.hid (HWq.out.to br)
            have Bs := Lib.hid (br.row (row_lt Bs.out) Bs.out)
            have Bm := Lib.hid (br.row (row_lt Bm.out) Bm.out)
            have Bmp := Lib.hid (br.row (row_lt Bmp.out) Bmp.out)
            have Brp := Lib.hid (br.row (row_lt Brp.out) Brp.out)
            have Bmq := Lib.hid (br.row (row_lt Bmq.out) Bmq.out)
            have Brq := Lib.hid (br.row (row_lt Brq.out) Brq.out)
            have bw := bw.call br
            have HYr := Lib.hid YMr
            have HBr := Lib.hid S6r
            have HWr := Lib.hid S7r
            clear YMr S6r S7r
            clear br
            go_wp2_with (first
              | (refine wpList_store_grown rfl 28 (.tmp 17) _ rfl w5.heap.size #[.slice yr.a.A yr.a.n yr.a.c, .slice yr.b.A yr.b.n yr.b.c, .slice yr.c.A yr.c.n yr.c.c, .slice yr.d.A yr.d.n yr.d.c] rfl rfl 28 _ (row_alloc (heap_alloc_new w5 _) _) (by kernel_rfl) rfl (by simp [Value.oneCell']) ?_; intro Wra hra gra sra)
              | (refine wpList_store_grown rfl 36 (.tmp 18) _ rfl (w5.heap.size + 1) #[.int .u8 (f3 : Nat), .int .u8 (x3 : Nat), .slice A6r n6r c6r, .slice A7r n7r c7r, .int .u16 (a3 : Nat), .int .u16 (m3 : Nat)] rfl rfl 36 _ (gra.row (by omega) (heap_alloc2_new w5 _ _)) (by kernel_rfl) rfl (by simp [Value.oneCell']) ?_; intro Wr hrb grb srb; have Bmr := Lib.hid (grb.row (k := w5.heap.size) (by omega) hra); have Brr := Lib.hid hrb; have Cr := below_two gra grb sra; clear gra grb sra srb hra hrb; have HS := Lib.hid (HS.out.to Cr); have HM := Lib.hid (HM.out.to Cr); have HA := Lib.hid (HA.out.to Cr); have HYp := Lib.hid (HYp.out.to Cr); have HBp := Lib.hid (HBp.out.to Cr); have HWp := Lib.hid (HWp.out.to Cr); have HYq := Lib.hid (HYq.out.to Cr); have HBq := Lib.hid (HBq.out.to Cr); have HWq := Lib.hid (HWq.out.to Cr); have HYr := Lib.hid (HYr.out.to Cr); have HBr := Lib.hid (HBr.out.to Cr); have HWr := Lib.hid (HWr.out.to Cr); have Bs := Lib.hid (Cr.row (row_lt Bs.out) Bs.out); have Bm := Lib.hid (Cr.row (row_lt Bm.out) Bm.out); have Bmp := Lib.hid (Cr.row (row_lt Bmp.out) Bmp.out); have Brp := Lib.hid (Cr.row (row_lt Brp.out) Brp.out); have Bmq := Lib.hid (Cr.row (row_lt Bmq.out) Bmq.out); have Brq := Lib.hid (Cr.row (row_lt Brq.out) Brq.out); have bw := bw.call Cr; clear Cr; obtain ⟨Brq_0, Brq_1, Brq_2, Brq_3, Brq_4, Brq_5⟩ := row6 Brq.out; obtain ⟨Brr_0, Brr_1, Brr_2, Brr_3, Brr_4, Brr_5⟩ := row6 Brr.out; obtain ⟨Bmp_0, Bmp_1, Bmp_2, Bmp_3⟩ := row4 Bmp.out; obtain ⟨Bm_0, Bm_1, Bm_2, Bm_3⟩ := row4 Bm.out)
              | fail)
            have sp : yp.Small := small_of HYp.out (do_small HE1.out su HM.out)
            refine (lawSame7_any yp u M1 M _ HYp.out HM.out sp su).mono ?_
            rw [HG.out.1, sameM_self]
            rintro e w6 ⟨rfl, b6⟩
            clear Brq_0 Brq_1 Brq_2 Brq_3 Brq_4 Brq_5 Brr_0 Brr_1 Brr_2 Brr_3 Brr_4 Brr_5 Bmp_0 Bmp_1 Bmp_2 Bmp_3 Bm_0 Bm_1 Bm_2 Bm_3
            have HS := Lib.hid (HS.out.to b6)
            have HM := Lib.hid (HM.out.to b6)
            have HA := Lib.hid (HA.out.to b6)
            have HYp := Lib.hid (HYp.out.to b6)
            have HBp := Lib.hid (HBp.out.to b6)
            have HWp := Lib.hid (HWp.out.to b6)
            have HYq := Lib.hid (HYq.out.to b6)
            have HBq := Lib.hid (HBq.out.to b6)
            have HWq := Lib.hid (HWq.out.to b6)
            have HYr := Lib.hid (HYr.out.to b6)
            have HBr := Lib.hid (HBr.out.to b6)
            have HWr := Lib.hid (HWr.out.to b6)
            have Bs := Lib.hid (b6.row (row_lt Bs.out) Bs.out)
            have Bm := Lib.hid (b6.row (row_lt Bm.out) Bm.out)
            have Bmp := Lib.hid (b6.row (row_lt Bmp.out) Bmp.out)
            have Brp := Lib.hid (b6.row (row_lt Brp.out) Brp.out)
            have Bmq := Lib.hid (b6.row (row_lt Bmq.out) Bmq.out)
            have Brq := Lib.hid (b6.row (row_lt Brq.out) Brq.out)
            have Bmr := Lib.hid (b6.row (row_lt Bmr.out) Bmr.out)
            have Brr := Lib.hid (b6.row (row_lt Brr.out) Brr.out)
            have bw := bw.call b6
            clear b6
            obtain ⟨Brp_0, Brp_1, Brp_2, Brp_3, Brp_4, Brp_5⟩ := row6 Brp.out
            obtain ⟨Brr_0, Brr_1, Brr_2, Brr_3, Brr_4, Brr_5⟩ := row6 Brr.out
            go_wp2_with (go_at_call 10; refine (awake7_any _).mono ?_; rintro e wa ⟨rfl, ba⟩)
            go_ret
            exact ⟨rfl, bw.call ba⟩
          case neg =>
            have P2 : ((x2 : Int) != 0) = false := by rw [c2]; rfl
            have P3 : ((x3 : Int) != 0) = true := by rw [bne_iff_ne]; omega
            have P30 : ((x3 : Int) == 0) = false := by rw [beq_eq_false_iff_ne]; omega
            have P32 : ((x3 : Int) == 2) = false := by rw [beq_eq_false_iff_ne]; omega
            have HG := Lib.hid (HSW.out.1 (.inr (by omega)))
            have P1 : ((x1 : Int) == (x3 : Int)) = true := by rw [HG.out.2, if_neg (by omega), beq_iff_eq]
            clear HSW c2 c3 c32
            go_enter Try.func5, Try.ntmps5
            go_wp2_with fail
            refine (light_any v u _ hv).mono ?_
            rintro e w1 ⟨rfl, b1⟩
            have X1 := Bx.first b1
            have bw := X1.bel
            have HS := Lib.hid (hS.to bw)
            have HM := Lib.hid (hM.to bw)
            have HA := Lib.hid (hs.to bw)
            have Bs := Lib.hid X1.x
            have Bm := Lib.hid X1.y
            clear b1 X1 hS hM hs
            rw [hL]
            obtain ⟨Bs_0, Bs_1, Bs_2, Bs_3⟩ := row4 Bs.out
            obtain ⟨Bm_0, Bm_1, Bm_2, Bm_3⟩ := row4 Bm.out
            go_wp2_with fail
            refine (modRight_any v u s M _ HS.out HM.out ho sv su).mono ?_
            rw [← HQ.out]
            rintro e w2 ⟨rfl, b2⟩
            clear Bs_0 Bs_1 Bs_2 Bs_3 Bm_0 Bm_1 Bm_2 Bm_3
            have HS := Lib.hid (HS.out.to b2)
            have HM := Lib.hid (HM.out.to b2)
            have HA := Lib.hid (HA.out.to b2)
            have Bs := Lib.hid (b2.row (row_lt Bs.out) Bs.out)
            have Bm := Lib.hid (b2.row (row_lt Bm.out) Bm.out)
            have bw := bw.call b2
            clear b2
            obtain ⟨Bs_0, Bs_1, Bs_2, Bs_3⟩ := row4 Bs.out
            obtain ⟨Bm_0, Bm_1, Bm_2, Bm_3⟩ := row4 Bm.out
            go_wp2_with fail
            refine (modDo_any v u s M 23 a n t A k c none 0 0 W [] _ HS.out HM.out ho sv su HA.out (Sl.empty _ _ _) wf1 (by omega) (Nat.zero_le _)).mono ?_
            rw [← HE1.out]
            rintro e w3 ⟨yp, A6p, n6p, c6p, A7p, n7p, c7p, rfl, YMp, S6p, S7p, k6p, k7p, bp⟩
            clear Bs_0 Bs_1 Bs_2 Bs_3 Bm_0 Bm_1 Bm_2 Bm_3
            have HS := Lib.hid (HS.out.to bp)
            have HM := Lib.hid (HM.out.to bp)
            have HA := Lib.hid (HA.out.to bp)
            have Bs := Lib.hid (bp.row (row_lt Bs.out) Bs.out)
            have Bm := Lib.hid (bp.row (row_lt Bm.out) Bm.out)
            have bw := bw.call bp
            have HYp := Lib.hid YMp
            have HBp := Lib.hid S6p
            have HWp := Lib.hid S7p
            clear YMp S6p S7p
            clear bp
            go_wp2_with (first
              | (refine wpList_store_grown rfl 28 (.tmp 13) _ rfl w3.heap.size #[.slice yp.a.A yp.a.n yp.a.c, .slice yp.b.A yp.b.n yp.b.c, .slice yp.c.A yp.c.n yp.c.c, .slice yp.d.A yp.d.n yp.d.c] rfl rfl 28 _ (row_alloc (heap_alloc_new w3 _) _) (by kernel_rfl) rfl (by simp [Value.oneCell']) ?_; intro Wpa hpa gpa spa)
              | (refine wpList_store_grown rfl 36 (.tmp 14) _ rfl (w3.heap.size + 1) #[.int .u8 (f1 : Nat), .int .u8 (x1 : Nat), .slice A6p n6p c6p, .slice A7p n7p c7p, .int .u16 (a1 : Nat), .int .u16 (m1 : Nat)] rfl rfl 36 _ (gpa.row (by omega) (heap_alloc2_new w3 _ _)) (by kernel_rfl) rfl (by simp [Value.oneCell']) ?_; intro Wp hpb gpb spb; have Bmp := Lib.hid (gpb.row (k := w3.heap.size) (by omega) hpa); have Brp := Lib.hid hpb; have Cp := below_two gpa gpb spa; clear gpa gpb spa spb hpa hpb; have HS := Lib.hid (HS.out.to Cp); have HM := Lib.hid (HM.out.to Cp); have HA := Lib.hid (HA.out.to Cp); have HYp := Lib.hid (HYp.out.to Cp); have HBp := Lib.hid (HBp.out.to Cp); have HWp := Lib.hid (HWp.out.to Cp); have Bs := Lib.hid (Cp.row (row_lt Bs.out) Bs.out); have Bm := Lib.hid (Cp.row (row_lt Bm.out) Bm.out); have bw := bw.call Cp; clear Cp; obtain ⟨Bs_0, Bs_1, Bs_2, Bs_3⟩ := row4 Bs.out; obtain ⟨Bm_0, Bm_1, Bm_2, Bm_3⟩ := row4 Bm.out)
              | fail)
            refine (modDo_any v u s M 16 t k 0 A k c none 0 0 W [] _ HS.out HM.out ho sv su HA.out (Sl.empty _ _ _) wf2 (by omega) (Nat.zero_le _)).mono ?_
            rw [← HE2.out]
            rintro e w4 ⟨yq, A6q, n6q, c6q, A7q, n7q, c7q, rfl, YMq, S6q, S7q, k6q, k7q, bq⟩
            clear Bs_0 Bs_1 Bs_2 Bs_3 Bm_0 Bm_1 Bm_2 Bm_3
            have HS := Lib.hid (HS.out.to bq)
            have HM := Lib.hid (HM.out.to bq)
            have HA := Lib.hid (HA.out.to bq)
            have HYp := Lib.hid (HYp.out.to bq)
            have HBp := Lib.hid (HBp.out.to bq)
            have HWp := Lib.hid (HWp.out.to bq)
            have Bs := Lib.hid (bq.row (row_lt Bs.out) Bs.out)
            have Bm := Lib.hid (bq.row (row_lt Bm.out) Bm.out)
            have Bmp := Lib.hid (bq.row (row_lt Bmp.out) Bmp.out)
            have Brp := Lib.hid (bq.row (row_lt Brp.out) Brp.out)
            have bw := bw.call bq
            have HYq := Lib.hid YMq
            have HBq := Lib.hid S6q
            have HWq := Lib.hid S7q
            clear YMq S6q S7q
            clear bq
            go_wp2_with (first
              | (refine wpList_store_grown rfl 28 (.tmp 15) _ rfl w4.heap.size #[.slice yq.a.A yq.a.n yq.a.c, .slice yq.b.A yq.b.n yq.b.c, .slice yq.c.A yq.c.n yq.c.c, .slice yq.d.A yq.d.n yq.d.c] rfl rfl 28 _ (row_alloc (heap_alloc_new w4 _) _) (by kernel_rfl) rfl (by simp [Value.oneCell']) ?_; intro Wqa hqa gqa sqa)
              | (refine wpList_store_grown rfl 36 (.tmp 16) _ rfl (w4.heap.size + 1) #[.int .u8 (f2 : Nat), .int .u8 (x2 : Nat), .slice A6q n6q c6q, .slice A7q n7q c7q, .int .u16 (a2 : Nat), .int .u16 (m2 : Nat)] rfl rfl 36 _ (gqa.row (by omega) (heap_alloc2_new w4 _ _)) (by kernel_rfl) rfl (by simp [Value.oneCell']) ?_; intro Wq hqb gqb sqb; have Bmq := Lib.hid (gqb.row (k := w4.heap.size) (by omega) hqa); have Brq := Lib.hid hqb; have Cq := below_two gqa gqb sqa; clear gqa gqb sqa sqb hqa hqb; have HS := Lib.hid (HS.out.to Cq); have HM := Lib.hid (HM.out.to Cq); have HA := Lib.hid (HA.out.to Cq); have HYp := Lib.hid (HYp.out.to Cq); have HBp := Lib.hid (HBp.out.to Cq); have HWp := Lib.hid (HWp.out.to Cq); have HYq := Lib.hid (HYq.out.to Cq); have HBq := Lib.hid (HBq.out.to Cq); have HWq := Lib.hid (HWq.out.to Cq); have Bs := Lib.hid (Cq.row (row_lt Bs.out) Bs.out); have Bm := Lib.hid (Cq.row (row_lt Bm.out) Bm.out); have Bmp := Lib.hid (Cq.row (row_lt Bmp.out) Bmp.out); have Brp := Lib.hid (Cq.row (row_lt Brp.out) Brp.out); have bw := bw.call Cq; clear Cq; obtain ⟨Bs_0, Bs_1, Bs_2, Bs_3⟩ := row4 Bs.out; obtain ⟨Bmq_0, Bmq_1, Bmq_2, Bmq_3⟩ := row4 Bmq.out)
              | fail)
            have sq : yq.Small := small_of HYq.out (do_small HE2.out su HM.out)
            refine (modDo_any v yq s M2 3 a n 0 none 0 0 none 0 0 [] [] _ HS.out HYq.out ho sv sq (Sl.empty _ _ _) (Sl.empty _ _ _) wf3 (Nat.zero_le _) (Nat.zero_le _)).mono ?_
            rw [← HE3.out]
            rintro e w5 ⟨yr, A6r, n6r, c6r, A7r, n7r, c7r, rfl, YMr, S6r, S7r, k6r, k7r, br⟩
            clear Bs_0 Bs_1 Bs_2 Bs_3 Bmq_0 Bmq_1 Bmq_2 Bmq_3
            have HS := Lib.hid (HS.out.to br)
            have HM := Lib.hid (HM.out.to br)
            have HA := Lib.hid (HA.out.to br)
            have HYp := Lib.hid (HYp.out.to br)
            have HBp := Lib.hid (HBp.out.to br)
            have HWp := Lib.hid (HWp.out.to br)
            have HYq := Lib.hid (HYq.out.to br)
            have HBq := Lib.hid (HBq.out.to br)
            have HWq := Lib.hid (HWq.out.to br)
            have Bs := Lib.hid (br.row (row_lt Bs.out) Bs.out)
            have Bm := Lib.hid (br.row (row_lt Bm.out) Bm.out)
            have Bmp := Lib.hid (br.row (row_lt Bmp.out) Bmp.out)
            have Brp := Lib.hid (br.row (row_lt Brp.out) Brp.out)
            have Bmq := Lib.hid (br.row (row_lt Bmq.out) Bmq.out)
            have Brq := Lib.hid (br.row (row_lt Brq.out) Brq.out)
            have bw := bw.call br
            have HYr := Lib.hid YMr
            have HBr := Lib.hid S6r
            have HWr := Lib.hid S7r
            clear YMr S6r S7r
            clear br
            go_wp2_with (first
              | (refine wpList_store_grown rfl 28 (.tmp 17) _ rfl w5.heap.size #[.slice yr.a.A yr.a.n yr.a.c, .slice yr.b.A yr.b.n yr.b.c, .slice yr.c.A yr.c.n yr.c.c, .slice yr.d.A yr.d.n yr.d.c] rfl rfl 28 _ (row_alloc (heap_alloc_new w5 _) _) (by kernel_rfl) rfl (by simp [Value.oneCell']) ?_; intro Wra hra gra sra)
              | (refine wpList_store_grown rfl 36 (.tmp 18) _ rfl (w5.heap.size + 1) #[.int .u8 (f3 : Nat), .int .u8 (x3 : Nat), .slice A6r n6r c6r, .slice A7r n7r c7r, .int .u16 (a3 : Nat), .int .u16 (m3 : Nat)] rfl rfl 36 _ (gra.row (by omega) (heap_alloc2_new w5 _ _)) (by kernel_rfl) rfl (by simp [Value.oneCell']) ?_; intro Wr hrb grb srb; have Bmr := Lib.hid (grb.row (k := w5.heap.size) (by omega) hra); have Brr := Lib.hid hrb; have Cr := below_two gra grb sra; clear gra grb sra srb hra hrb; have HS := Lib.hid (HS.out.to Cr); have HM := Lib.hid (HM.out.to Cr); have HA := Lib.hid (HA.out.to Cr); have HYp := Lib.hid (HYp.out.to Cr); have HBp := Lib.hid (HBp.out.to Cr); have HWp := Lib.hid (HWp.out.to Cr); have HYq := Lib.hid (HYq.out.to Cr); have HBq := Lib.hid (HBq.out.to Cr); have HWq := Lib.hid (HWq.out.to Cr); have HYr := Lib.hid (HYr.out.to Cr); have HBr := Lib.hid (HBr.out.to Cr); have HWr := Lib.hid (HWr.out.to Cr); have Bs := Lib.hid (Cr.row (row_lt Bs.out) Bs.out); have Bm := Lib.hid (Cr.row (row_lt Bm.out) Bm.out); have Bmp := Lib.hid (Cr.row (row_lt Bmp.out) Bmp.out); have Brp := Lib.hid (Cr.row (row_lt Brp.out) Brp.out); have Bmq := Lib.hid (Cr.row (row_lt Bmq.out) Bmq.out); have Brq := Lib.hid (Cr.row (row_lt Brq.out) Brq.out); have bw := bw.call Cr; clear Cr; obtain ⟨Brq_0, Brq_1, Brq_2, Brq_3, Brq_4, Brq_5⟩ := row6 Brq.out; obtain ⟨Brr_0, Brr_1, Brr_2, Brr_3, Brr_4, Brr_5⟩ := row6 Brr.out; obtain ⟨Bmp_0, Bmp_1, Bmp_2, Bmp_3⟩ := row4 Bmp.out; obtain ⟨Bm_0, Bm_1, Bm_2, Bm_3⟩ := row4 Bm.out)
              | fail)
            have sp : yp.Small := small_of HYp.out (do_small HE1.out su HM.out)
            refine (lawSame7_any yp u M1 M _ HYp.out HM.out sp su).mono ?_
            rw [HG.out.1, sameM_self]
            rintro e w6 ⟨rfl, b6⟩
            clear Brq_0 Brq_1 Brq_2 Brq_3 Brq_4 Brq_5 Brr_0 Brr_1 Brr_2 Brr_3 Brr_4 Brr_5 Bmp_0 Bmp_1 Bmp_2 Bmp_3 Bm_0 Bm_1 Bm_2 Bm_3
            have HS := Lib.hid (HS.out.to b6)
            have HM := Lib.hid (HM.out.to b6)
            have HA := Lib.hid (HA.out.to b6)
            have HYp := Lib.hid (HYp.out.to b6)
            have HBp := Lib.hid (HBp.out.to b6)
            have HWp := Lib.hid (HWp.out.to b6)
            have HYq := Lib.hid (HYq.out.to b6)
            have HBq := Lib.hid (HBq.out.to b6)
            have HWq := Lib.hid (HWq.out.to b6)
            have HYr := Lib.hid (HYr.out.to b6)
            have HBr := Lib.hid (HBr.out.to b6)
            have HWr := Lib.hid (HWr.out.to b6)
            have Bs := Lib.hid (b6.row (row_lt Bs.out) Bs.out)
            have Bm := Lib.hid (b6.row (row_lt Bm.out) Bm.out)
            have Bmp := Lib.hid (b6.row (row_lt Bmp.out) Bmp.out)
            have Brp := Lib.hid (b6.row (row_lt Brp.out) Brp.out)
            have Bmq := Lib.hid (b6.row (row_lt Bmq.out) Bmq.out)
            have Brq := Lib.hid (b6.row (row_lt Brq.out) Brq.out)
            have Bmr := Lib.hid (b6.row (row_lt Bmr.out) Bmr.out)
            have Brr := Lib.hid (b6.row (row_lt Brr.out) Brr.out)
            have bw := bw.call b6
            clear b6
            obtain ⟨Brp_0, Brp_1, Brp_2, Brp_3, Brp_4, Brp_5⟩ := row6 Brp.out
            obtain ⟨Brr_0, Brr_1, Brr_2, Brr_3, Brr_4, Brr_5⟩ := row6 Brr.out
            go_wp2_with (go_at_call 10; refine (awake7_any _).mono ?_; rintro e wa ⟨rfl, ba⟩)
            go_ret
            exact ⟨rfl, bw.call ba⟩
      case neg =>
        by_cases c3 : x3 = 0
        case pos =>
          have P2 : ((x2 : Int) != 0) = true := by rw [bne_iff_ne]; omega
          have P3 : ((x3 : Int) != 0) = false := by rw [c3]; rfl
          have P30 : ((x3 : Int) == 0) = true := by rw [c3]; rfl
          have P32 : ((x3 : Int) == 2) = false := by rw [beq_eq_false_iff_ne]; omega
          have HG := Lib.hid (HSW.out.1 (.inl c2))
          have P1 : ((x1 : Int) == 2) = true := by rw [HG.out.2, if_pos (by omega)]; rfl
          clear HSW c2 c3
          go_enter Try.func5, Try.ntmps5
          go_wp2_with fail
          refine (light_any v u _ hv).mono ?_
          rintro e w1 ⟨rfl, b1⟩
          have X1 := Bx.first b1
          have bw := X1.bel
          have HS := Lib.hid (hS.to bw)
          have HM := Lib.hid (hM.to bw)
          have HA := Lib.hid (hs.to bw)
          have Bs := Lib.hid X1.x
          have Bm := Lib.hid X1.y
          clear b1 X1 hS hM hs
          rw [hL]
          obtain ⟨Bs_0, Bs_1, Bs_2, Bs_3⟩ := row4 Bs.out
          obtain ⟨Bm_0, Bm_1, Bm_2, Bm_3⟩ := row4 Bm.out
          go_wp2_with fail
          refine (modRight_any v u s M _ HS.out HM.out ho sv su).mono ?_
          rw [← HQ.out]
          rintro e w2 ⟨rfl, b2⟩
          clear Bs_0 Bs_1 Bs_2 Bs_3 Bm_0 Bm_1 Bm_2 Bm_3
          have HS := Lib.hid (HS.out.to b2)
          have HM := Lib.hid (HM.out.to b2)
          have HA := Lib.hid (HA.out.to b2)
          have Bs := Lib.hid (b2.row (row_lt Bs.out) Bs.out)
          have Bm := Lib.hid (b2.row (row_lt Bm.out) Bm.out)
          have bw := bw.call b2
          clear b2
          obtain ⟨Bs_0, Bs_1, Bs_2, Bs_3⟩ := row4 Bs.out
          obtain ⟨Bm_0, Bm_1, Bm_2, Bm_3⟩ := row4 Bm.out
          go_wp2_with fail
          refine (modDo_any v u s M 23 a n t A k c none 0 0 W [] _ HS.out HM.out ho sv su HA.out (Sl.empty _ _ _) wf1 (by omega) (Nat.zero_le _)).mono ?_
          rw [← HE1.out]
          rintro e w3 ⟨yp, A6p, n6p, c6p, A7p, n7p, c7p, rfl, YMp, S6p, S7p, k6p, k7p, bp⟩
          clear Bs_0 Bs_1 Bs_2 Bs_3 Bm_0 Bm_1 Bm_2 Bm_3
          have HS := Lib.hid (HS.out.to bp)
          have HM := Lib.hid (HM.out.to bp)
          have HA := Lib.hid (HA.out.to bp)
          have Bs := Lib.hid (bp.row (row_lt Bs.out) Bs.out)
          have Bm := Lib.hid (bp.row (row_lt Bm.out) Bm.out)
          have bw := bw.call bp
          have HYp := Lib.hid YMp
          have HBp := Lib.hid S6p
          have HWp := Lib.hid S7p
          clear YMp S6p S7p
          clear bp
          go_wp2_with (first
            | (refine wpList_store_grown rfl 28 (.tmp 13) _ rfl w3.heap.size #[.slice yp.a.A yp.a.n yp.a.c, .slice yp.b.A yp.b.n yp.b.c, .slice yp.c.A yp.c.n yp.c.c, .slice yp.d.A yp.d.n yp.d.c] rfl rfl 28 _ (row_alloc (heap_alloc_new w3 _) _) (by kernel_rfl) rfl (by simp [Value.oneCell']) ?_; intro Wpa hpa gpa spa)
            | (refine wpList_store_grown rfl 36 (.tmp 14) _ rfl (w3.heap.size + 1) #[.int .u8 (f1 : Nat), .int .u8 (x1 : Nat), .slice A6p n6p c6p, .slice A7p n7p c7p, .int .u16 (a1 : Nat), .int .u16 (m1 : Nat)] rfl rfl 36 _ (gpa.row (by omega) (heap_alloc2_new w3 _ _)) (by kernel_rfl) rfl (by simp [Value.oneCell']) ?_; intro Wp hpb gpb spb; have Bmp := Lib.hid (gpb.row (k := w3.heap.size) (by omega) hpa); have Brp := Lib.hid hpb; have Cp := below_two gpa gpb spa; clear gpa gpb spa spb hpa hpb; have HS := Lib.hid (HS.out.to Cp); have HM := Lib.hid (HM.out.to Cp); have HA := Lib.hid (HA.out.to Cp); have HYp := Lib.hid (HYp.out.to Cp); have HBp := Lib.hid (HBp.out.to Cp); have HWp := Lib.hid (HWp.out.to Cp); have Bs := Lib.hid (Cp.row (row_lt Bs.out) Bs.out); have Bm := Lib.hid (Cp.row (row_lt Bm.out) Bm.out); have bw := bw.call Cp; clear Cp; obtain ⟨Bs_0, Bs_1, Bs_2, Bs_3⟩ := row4 Bs.out; obtain ⟨Bm_0, Bm_1, Bm_2, Bm_3⟩ := row4 Bm.out)
            | fail)
          refine (modDo_any v u s M 16 t k 0 A k c none 0 0 W [] _ HS.out HM.out ho sv su HA.out (Sl.empty _ _ _) wf2 (by omega) (Nat.zero_le _)).mono ?_
          rw [← HE2.out]
          rintro e w4 ⟨yq, A6q, n6q, c6q, A7q, n7q, c7q, rfl, YMq, S6q, S7q, k6q, k7q, bq⟩
          clear Bs_0 Bs_1 Bs_2 Bs_3 Bm_0 Bm_1 Bm_2 Bm_3
          have HS := Lib.hid (HS.out.to bq)
          have HM := Lib.hid (HM.out.to bq)
          have HA := Lib.hid (HA.out.to bq)
          have HYp := Lib.hid (HYp.out.to bq)
          have HBp := Lib.hid (HBp.out.to bq)
          have HWp := Lib.hid (HWp.out.to bq)
          have Bs := Lib.hid (bq.row (row_lt Bs.out) Bs.out)
          have Bm := Lib.hid (bq.row (row_lt Bm.out) Bm.out)
          have Bmp := Lib.hid (bq.row (row_lt Bmp.out) Bmp.out)
          have Brp := Lib.hid (bq.row (row_lt Brp.out) Brp.out)
          have bw := bw.call bq
          have HYq := Lib.hid YMq
          have HBq := Lib.hid S6q
          have HWq := Lib.hid S7q
          clear YMq S6q S7q
          clear bq
          go_wp2_with (first
            | (refine wpList_store_grown rfl 28 (.tmp 15) _ rfl w4.heap.size #[.slice yq.a.A yq.a.n yq.a.c, .slice yq.b.A yq.b.n yq.b.c, .slice yq.c.A yq.c.n yq.c.c, .slice yq.d.A yq.d.n yq.d.c] rfl rfl 28 _ (row_alloc (heap_alloc_new w4 _) _) (by kernel_rfl) rfl (by simp [Value.oneCell']) ?_; intro Wqa hqa gqa sqa)
            | (refine wpList_store_grown rfl 36 (.tmp 16) _ rfl (w4.heap.size + 1) #[.int .u8 (f2 : Nat), .int .u8 (x2 : Nat), .slice A6q n6q c6q, .slice A7q n7q c7q, .int .u16 (a2 : Nat), .int .u16 (m2 : Nat)] rfl rfl 36 _ (gqa.row (by omega) (heap_alloc2_new w4 _ _)) (by kernel_rfl) rfl (by simp [Value.oneCell']) ?_; intro Wq hqb gqb sqb; have Bmq := Lib.hid (gqb.row (k := w4.heap.size) (by omega) hqa); have Brq := Lib.hid hqb; have Cq := below_two gqa gqb sqa; clear gqa gqb sqa sqb hqa hqb; have HS := Lib.hid (HS.out.to Cq); have HM := Lib.hid (HM.out.to Cq); have HA := Lib.hid (HA.out.to Cq); have HYp := Lib.hid (HYp.out.to Cq); have HBp := Lib.hid (HBp.out.to Cq); have HWp := Lib.hid (HWp.out.to Cq); have HYq := Lib.hid (HYq.out.to Cq); have HBq := Lib.hid (HBq.out.to Cq); have HWq := Lib.hid (HWq.out.to Cq); have Bs := Lib.hid (Cq.row (row_lt Bs.out) Bs.out); have Bm := Lib.hid (Cq.row (row_lt Bm.out) Bm.out); have Bmp := Lib.hid (Cq.row (row_lt Bmp.out) Bmp.out); have Brp := Lib.hid (Cq.row (row_lt Brp.out) Brp.out); have bw := bw.call Cq; clear Cq; obtain ⟨Bs_0, Bs_1, Bs_2, Bs_3⟩ := row4 Bs.out; obtain ⟨Bmq_0, Bmq_1, Bmq_2, Bmq_3⟩ := row4 Bmq.out)
            | fail)
          have sq : yq.Small := small_of HYq.out (do_small HE2.out su HM.out)
          refine (modDo_any v yq s M2 3 a n 0 none 0 0 none 0 0 [] [] _ HS.out HYq.out ho sv sq (Sl.empty _ _ _) (Sl.empty _ _ _) wf3 (Nat.zero_le _) (Nat.zero_le _)).mono ?_
          rw [← HE3.out]
          rintro e w5 ⟨yr, A6r, n6r, c6r, A7r, n7r, c7r, rfl, YMr, S6r, S7r, k6r, k7r, br⟩
          clear Bs_0 Bs_1 Bs_2 Bs_3 Bmq_0 Bmq_1 Bmq_2 Bmq_3
          have HS := Lib.hid (HS.out.to br)
          have HM := Lib.hid (HM.out.to br)
          have HA := Lib.hid (HA.out.to br)
          have HYp := Lib.hid (HYp.out.to br)
          have HBp := Lib.hid (HBp.out.to br)
          have HWp := Lib.hid (HWp.out.to br)
          have HYq := Lib.hid (HYq.out.to br)
          have HBq := Lib.hid (HBq.out.to br)
          have HWq := Lib.hid (HWq.out.to br)
          have Bs := Lib.hid (br.row (row_lt Bs.out) Bs.out)
          have Bm := Lib.hid (br.row (row_lt Bm.out) Bm.out)
          have Bmp := Lib.hid (br.row (row_lt Bmp.out) Bmp.out)
          have Brp := Lib.hid (br.row (row_lt Brp.out) Brp.out)
          have Bmq := Lib.hid (br.row (row_lt Bmq.out) Bmq.out)
          have Brq := Lib.hid (br.row (row_lt Brq.out) Brq.out)
          have bw := bw.call br
          have HYr := Lib.hid YMr
          have HBr := Lib.hid S6r
          have HWr := Lib.hid S7r
          clear YMr S6r S7r
          clear br
          go_wp2_with (first
            | (refine wpList_store_grown rfl 28 (.tmp 17) _ rfl w5.heap.size #[.slice yr.a.A yr.a.n yr.a.c, .slice yr.b.A yr.b.n yr.b.c, .slice yr.c.A yr.c.n yr.c.c, .slice yr.d.A yr.d.n yr.d.c] rfl rfl 28 _ (row_alloc (heap_alloc_new w5 _) _) (by kernel_rfl) rfl (by simp [Value.oneCell']) ?_; intro Wra hra gra sra)
            | (refine wpList_store_grown rfl 36 (.tmp 18) _ rfl (w5.heap.size + 1) #[.int .u8 (f3 : Nat), .int .u8 (x3 : Nat), .slice A6r n6r c6r, .slice A7r n7r c7r, .int .u16 (a3 : Nat), .int .u16 (m3 : Nat)] rfl rfl 36 _ (gra.row (by omega) (heap_alloc2_new w5 _ _)) (by kernel_rfl) rfl (by simp [Value.oneCell']) ?_; intro Wr hrb grb srb; have Bmr := Lib.hid (grb.row (k := w5.heap.size) (by omega) hra); have Brr := Lib.hid hrb; have Cr := below_two gra grb sra; clear gra grb sra srb hra hrb; have HS := Lib.hid (HS.out.to Cr); have HM := Lib.hid (HM.out.to Cr); have HA := Lib.hid (HA.out.to Cr); have HYp := Lib.hid (HYp.out.to Cr); have HBp := Lib.hid (HBp.out.to Cr); have HWp := Lib.hid (HWp.out.to Cr); have HYq := Lib.hid (HYq.out.to Cr); have HBq := Lib.hid (HBq.out.to Cr); have HWq := Lib.hid (HWq.out.to Cr); have HYr := Lib.hid (HYr.out.to Cr); have HBr := Lib.hid (HBr.out.to Cr); have HWr := Lib.hid (HWr.out.to Cr); have Bs := Lib.hid (Cr.row (row_lt Bs.out) Bs.out); have Bm := Lib.hid (Cr.row (row_lt Bm.out) Bm.out); have Bmp := Lib.hid (Cr.row (row_lt Bmp.out) Bmp.out); have Brp := Lib.hid (Cr.row (row_lt Brp.out) Brp.out); have Bmq := Lib.hid (Cr.row (row_lt Bmq.out) Bmq.out); have Brq := Lib.hid (Cr.row (row_lt Brq.out) Brq.out); have bw := bw.call Cr; clear Cr; obtain ⟨Brq_0, Brq_1, Brq_2, Brq_3, Brq_4, Brq_5⟩ := row6 Brq.out; obtain ⟨Brr_0, Brr_1, Brr_2, Brr_3, Brr_4, Brr_5⟩ := row6 Brr.out; obtain ⟨Bmp_0, Bmp_1, Bmp_2, Bmp_3⟩ := row4 Bmp.out; obtain ⟨Bm_0, Bm_1, Bm_2, Bm_3⟩ := row4 Bm.out)
            | fail)
          have sp : yp.Small := small_of HYp.out (do_small HE1.out su HM.out)
          refine (lawSame7_any yp u M1 M _ HYp.out HM.out sp su).mono ?_
          rw [HG.out.1, sameM_self]
          rintro e w6 ⟨rfl, b6⟩
          clear Brq_0 Brq_1 Brq_2 Brq_3 Brq_4 Brq_5 Brr_0 Brr_1 Brr_2 Brr_3 Brr_4 Brr_5 Bmp_0 Bmp_1 Bmp_2 Bmp_3 Bm_0 Bm_1 Bm_2 Bm_3
          have HS := Lib.hid (HS.out.to b6)
          have HM := Lib.hid (HM.out.to b6)
          have HA := Lib.hid (HA.out.to b6)
          have HYp := Lib.hid (HYp.out.to b6)
          have HBp := Lib.hid (HBp.out.to b6)
          have HWp := Lib.hid (HWp.out.to b6)
          have HYq := Lib.hid (HYq.out.to b6)
          have HBq := Lib.hid (HBq.out.to b6)
          have HWq := Lib.hid (HWq.out.to b6)
          have HYr := Lib.hid (HYr.out.to b6)
          have HBr := Lib.hid (HBr.out.to b6)
          have HWr := Lib.hid (HWr.out.to b6)
          have Bs := Lib.hid (b6.row (row_lt Bs.out) Bs.out)
          have Bm := Lib.hid (b6.row (row_lt Bm.out) Bm.out)
          have Bmp := Lib.hid (b6.row (row_lt Bmp.out) Bmp.out)
          have Brp := Lib.hid (b6.row (row_lt Brp.out) Brp.out)
          have Bmq := Lib.hid (b6.row (row_lt Bmq.out) Bmq.out)
          have Brq := Lib.hid (b6.row (row_lt Brq.out) Brq.out)
          have Bmr := Lib.hid (b6.row (row_lt Bmr.out) Bmr.out)
          have Brr := Lib.hid (b6.row (row_lt Brr.out) Brr.out)
          have bw := bw.call b6
          clear b6
          obtain ⟨Brp_0, Brp_1, Brp_2, Brp_3, Brp_4, Brp_5⟩ := row6 Brp.out
          obtain ⟨Brr_0, Brr_1, Brr_2, Brr_3, Brr_4, Brr_5⟩ := row6 Brr.out
          go_wp2_with (go_at_call 10; refine (awake7_any _).mono ?_; rintro e wa ⟨rfl, ba⟩)
          go_ret
          exact ⟨rfl, bw.call ba⟩
        case neg =>
          by_cases c32 : x3 = 2
          case pos =>
            have c3 := c32
            clear c32
            have P2 : ((x2 : Int) != 0) = true := by rw [bne_iff_ne]; omega
            have P3 : ((x3 : Int) != 0) = true := by rw [bne_iff_ne]; omega
            have P30 : ((x3 : Int) == 0) = false := by rw [beq_eq_false_iff_ne]; omega
            have P32 : ((x3 : Int) == 2) = true := by rw [c3]; rfl
            have HG := Lib.hid (HSW.out.1 (.inl c2))
            have P1 : ((x1 : Int) == 2) = true := by rw [HG.out.2, if_pos (by omega)]; rfl
            clear HSW c2 c3
            go_enter Try.func5, Try.ntmps5
            go_wp2_with fail
            refine (light_any v u _ hv).mono ?_
            rintro e w1 ⟨rfl, b1⟩
            have X1 := Bx.first b1
            have bw := X1.bel
            have HS := Lib.hid (hS.to bw)
            have HM := Lib.hid (hM.to bw)
            have HA := Lib.hid (hs.to bw)
            have Bs := Lib.hid X1.x
            have Bm := Lib.hid X1.y
            clear b1 X1 hS hM hs
            rw [hL]
            obtain ⟨Bs_0, Bs_1, Bs_2, Bs_3⟩ := row4 Bs.out
            obtain ⟨Bm_0, Bm_1, Bm_2, Bm_3⟩ := row4 Bm.out
            go_wp2_with fail
            refine (modRight_any v u s M _ HS.out HM.out ho sv su).mono ?_
            rw [← HQ.out]
            rintro e w2 ⟨rfl, b2⟩
            clear Bs_0 Bs_1 Bs_2 Bs_3 Bm_0 Bm_1 Bm_2 Bm_3
            have HS := Lib.hid (HS.out.to b2)
            have HM := Lib.hid (HM.out.to b2)
            have HA := Lib.hid (HA.out.to b2)
            have Bs := Lib.hid (b2.row (row_lt Bs.out) Bs.out)
            have Bm := Lib.hid (b2.row (row_lt Bm.out) Bm.out)
            have bw := bw.call b2
            clear b2
            obtain ⟨Bs_0, Bs_1, Bs_2, Bs_3⟩ := row4 Bs.out
            obtain ⟨Bm_0, Bm_1, Bm_2, Bm_3⟩ := row4 Bm.out
            go_wp2_with fail
            refine (modDo_any v u s M 23 a n t A k c none 0 0 W [] _ HS.out HM.out ho sv su HA.out (Sl.empty _ _ _) wf1 (by omega) (Nat.zero_le _)).mono ?_
            rw [← HE1.out]
            rintro e w3 ⟨yp, A6p, n6p, c6p, A7p, n7p, c7p, rfl, YMp, S6p, S7p, k6p, k7p, bp⟩
            clear Bs_0 Bs_1 Bs_2 Bs_3 Bm_0 Bm_1 Bm_2 Bm_3
            have HS := Lib.hid (HS.out.to bp)
            have HM := Lib.hid (HM.out.to bp)
            have HA := Lib.hid (HA.out.to bp)
            have Bs := Lib.hid (bp.row (row_lt Bs.out) Bs.out)
            have Bm := Lib.hid (bp.row (row_lt Bm.out) Bm.out)
            have bw := bw.call bp
            have HYp := Lib.hid YMp
            have HBp := Lib.hid S6p
            have HWp := Lib.hid S7p
            clear YMp S6p S7p
            clear bp
            go_wp2_with (first
              | (refine wpList_store_grown rfl 28 (.tmp 13) _ rfl w3.heap.size #[.slice yp.a.A yp.a.n yp.a.c, .slice yp.b.A yp.b.n yp.b.c, .slice yp.c.A yp.c.n yp.c.c, .slice yp.d.A yp.d.n yp.d.c] rfl rfl 28 _ (row_alloc (heap_alloc_new w3 _) _) (by kernel_rfl) rfl (by simp [Value.oneCell']) ?_; intro Wpa hpa gpa spa)
              | (refine wpList_store_grown rfl 36 (.tmp 14) _ rfl (w3.heap.size + 1) #[.int .u8 (f1 : Nat), .int .u8 (x1 : Nat), .slice A6p n6p c6p, .slice A7p n7p c7p, .int .u16 (a1 : Nat), .int .u16 (m1 : Nat)] rfl rfl 36 _ (gpa.row (by omega) (heap_alloc2_new w3 _ _)) (by kernel_rfl) rfl (by simp [Value.oneCell']) ?_; intro Wp hpb gpb spb; have Bmp := Lib.hid (gpb.row (k := w3.heap.size) (by omega) hpa); have Brp := Lib.hid hpb; have Cp := below_two gpa gpb spa; clear gpa gpb spa spb hpa hpb; have HS := Lib.hid (HS.out.to Cp); have HM := Lib.hid (HM.out.to Cp); have HA := Lib.hid (HA.out.to Cp); have HYp := Lib.hid (HYp.out.to Cp); have HBp := Lib.hid (HBp.out.to Cp); have HWp := Lib.hid (HWp.out.to Cp); have Bs := Lib.hid (Cp.row (row_lt Bs.out) Bs.out); have Bm := Lib.hid (Cp.row (row_lt Bm.out) Bm.out); have bw := bw.call Cp; clear Cp; obtain ⟨Bs_0, Bs_1, Bs_2, Bs_3⟩ := row4 Bs.out; obtain ⟨Bm_0, Bm_1, Bm_2, Bm_3⟩ := row4 Bm.out)
              | fail)
            refine (modDo_any v u s M 16 t k 0 A k c none 0 0 W [] _ HS.out HM.out ho sv su HA.out (Sl.empty _ _ _) wf2 (by omega) (Nat.zero_le _)).mono ?_
            rw [← HE2.out]
            rintro e w4 ⟨yq, A6q, n6q, c6q, A7q, n7q, c7q, rfl, YMq, S6q, S7q, k6q, k7q, bq⟩
            clear Bs_0 Bs_1 Bs_2 Bs_3 Bm_0 Bm_1 Bm_2 Bm_3
            have HS := Lib.hid (HS.out.to bq)
            have HM := Lib.hid (HM.out.to bq)
            have HA := Lib.hid (HA.out.to bq)
            have HYp := Lib.hid (HYp.out.to bq)
            have HBp := Lib.hid (HBp.out.to bq)
            have HWp := Lib.hid (HWp.out.to bq)
            have Bs := Lib.hid (bq.row (row_lt Bs.out) Bs.out)
            have Bm := Lib.hid (bq.row (row_lt Bm.out) Bm.out)
            have Bmp := Lib.hid (bq.row (row_lt Bmp.out) Bmp.out)
            have Brp := Lib.hid (bq.row (row_lt Brp.out) Brp.out)
            have bw := bw.call bq
            have HYq := Lib.hid YMq
            have HBq := Lib.hid S6q
            have HWq := Lib.hid S7q
            clear YMq S6q S7q
            clear bq
            go_wp2_with (first
              | (refine wpList_store_grown rfl 28 (.tmp 15) _ rfl w4.heap.size #[.slice yq.a.A yq.a.n yq.a.c, .slice yq.b.A yq.b.n yq.b.c, .slice yq.c.A yq.c.n yq.c.c, .slice yq.d.A yq.d.n yq.d.c] rfl rfl 28 _ (row_alloc (heap_alloc_new w4 _) _) (by kernel_rfl) rfl (by simp [Value.oneCell']) ?_; intro Wqa hqa gqa sqa)
              | (refine wpList_store_grown rfl 36 (.tmp 16) _ rfl (w4.heap.size + 1) #[.int .u8 (f2 : Nat), .int .u8 (x2 : Nat), .slice A6q n6q c6q, .slice A7q n7q c7q, .int .u16 (a2 : Nat), .int .u16 (m2 : Nat)] rfl rfl 36 _ (gqa.row (by omega) (heap_alloc2_new w4 _ _)) (by kernel_rfl) rfl (by simp [Value.oneCell']) ?_; intro Wq hqb gqb sqb; have Bmq := Lib.hid (gqb.row (k := w4.heap.size) (by omega) hqa); have Brq := Lib.hid hqb; have Cq := below_two gqa gqb sqa; clear gqa gqb sqa sqb hqa hqb; have HS := Lib.hid (HS.out.to Cq); have HM := Lib.hid (HM.out.to Cq); have HA := Lib.hid (HA.out.to Cq); have HYp := Lib.hid (HYp.out.to Cq); have HBp := Lib.hid (HBp.out.to Cq); have HWp := Lib.hid (HWp.out.to Cq); have HYq := Lib.hid (HYq.out.to Cq); have HBq := Lib.hid (HBq.out.to Cq); have HWq := Lib.hid (HWq.out.to Cq); have Bs := Lib.hid (Cq.row (row_lt Bs.out) Bs.out); have Bm := Lib.hid (Cq.row (row_lt Bm.out) Bm.out); have Bmp := Lib.hid (Cq.row (row_lt Bmp.out) Bmp.out); have Brp := Lib.hid (Cq.row (row_lt Brp.out) Brp.out); have bw := bw.call Cq; clear Cq; obtain ⟨Bs_0, Bs_1, Bs_2, Bs_3⟩ := row4 Bs.out; obtain ⟨Bmq_0, Bmq_1, Bmq_2, Bmq_3⟩ := row4 Bmq.out)
              | fail)
            have sq : yq.Small := small_of HYq.out (do_small HE2.out su HM.out)
            refine (modDo_any v yq s M2 3 a n 0 none 0 0 none 0 0 [] [] _ HS.out HYq.out ho sv sq (Sl.empty _ _ _) (Sl.empty _ _ _) wf3 (Nat.zero_le _) (Nat.zero_le _)).mono ?_
            rw [← HE3.out]
            rintro e w5 ⟨yr, A6r, n6r, c6r, A7r, n7r, c7r, rfl, YMr, S6r, S7r, k6r, k7r, br⟩
            clear Bs_0 Bs_1 Bs_2 Bs_3 Bmq_0 Bmq_1 Bmq_2 Bmq_3
            have HS := Lib.hid (HS.out.to br)
            have HM := Lib.hid (HM.out.to br)
            have HA := Lib.hid (HA.out.to br)
            have HYp := Lib.hid (HYp.out.to br)
            have HBp := Lib.hid (HBp.out.to br)
            have HWp := Lib.hid (HWp.out.to br)
            have HYq := Lib.hid (HYq.out.to br)
            have HBq := Lib.hid (HBq.out.to br)
            have HWq := Lib.hid (HWq.out.to br)
            have Bs := Lib.hid (br.row (row_lt Bs.out) Bs.out)
            have Bm := Lib.hid (br.row (row_lt Bm.out) Bm.out)
            have Bmp := Lib.hid (br.row (row_lt Bmp.out) Bmp.out)
            have Brp := Lib.hid (br.row (row_lt Brp.out) Brp.out)
            have Bmq := Lib.hid (br.row (row_lt Bmq.out) Bmq.out)
            have Brq := Lib.hid (br.row (row_lt Brq.out) Brq.out)
            have bw := bw.call br
            have HYr := Lib.hid YMr
            have HBr := Lib.hid S6r
            have HWr := Lib.hid S7r
            clear YMr S6r S7r
            clear br
            go_wp2_with (first
              | (refine wpList_store_grown rfl 28 (.tmp 17) _ rfl w5.heap.size #[.slice yr.a.A yr.a.n yr.a.c, .slice yr.b.A yr.b.n yr.b.c, .slice yr.c.A yr.c.n yr.c.c, .slice yr.d.A yr.d.n yr.d.c] rfl rfl 28 _ (row_alloc (heap_alloc_new w5 _) _) (by kernel_rfl) rfl (by simp [Value.oneCell']) ?_; intro Wra hra gra sra)
              | (refine wpList_store_grown rfl 36 (.tmp 18) _ rfl (w5.heap.size + 1) #[.int .u8 (f3 : Nat), .int .u8 (x3 : Nat), .slice A6r n6r c6r, .slice A7r n7r c7r, .int .u16 (a3 : Nat), .int .u16 (m3 : Nat)] rfl rfl 36 _ (gra.row (by omega) (heap_alloc2_new w5 _ _)) (by kernel_rfl) rfl (by simp [Value.oneCell']) ?_; intro Wr hrb grb srb; have Bmr := Lib.hid (grb.row (k := w5.heap.size) (by omega) hra); have Brr := Lib.hid hrb; have Cr := below_two gra grb sra; clear gra grb sra srb hra hrb; have HS := Lib.hid (HS.out.to Cr); have HM := Lib.hid (HM.out.to Cr); have HA := Lib.hid (HA.out.to Cr); have HYp := Lib.hid (HYp.out.to Cr); have HBp := Lib.hid (HBp.out.to Cr); have HWp := Lib.hid (HWp.out.to Cr); have HYq := Lib.hid (HYq.out.to Cr); have HBq := Lib.hid (HBq.out.to Cr); have HWq := Lib.hid (HWq.out.to Cr); have HYr := Lib.hid (HYr.out.to Cr); have HBr := Lib.hid (HBr.out.to Cr); have HWr := Lib.hid (HWr.out.to Cr); have Bs := Lib.hid (Cr.row (row_lt Bs.out) Bs.out); have Bm := Lib.hid (Cr.row (row_lt Bm.out) Bm.out); have Bmp := Lib.hid (Cr.row (row_lt Bmp.out) Bmp.out); have Brp := Lib.hid (Cr.row (row_lt Brp.out) Brp.out); have Bmq := Lib.hid (Cr.row (row_lt Bmq.out) Bmq.out); have Brq := Lib.hid (Cr.row (row_lt Brq.out) Brq.out); have bw := bw.call Cr; clear Cr; obtain ⟨Brq_0, Brq_1, Brq_2, Brq_3, Brq_4, Brq_5⟩ := row6 Brq.out; obtain ⟨Brr_0, Brr_1, Brr_2, Brr_3, Brr_4, Brr_5⟩ := row6 Brr.out; obtain ⟨Bmp_0, Bmp_1, Bmp_2, Bmp_3⟩ := row4 Bmp.out; obtain ⟨Bm_0, Bm_1, Bm_2, Bm_3⟩ := row4 Bm.out)
              | fail)
            have sp : yp.Small := small_of HYp.out (do_small HE1.out su HM.out)
            refine (lawSame7_any yp u M1 M _ HYp.out HM.out sp su).mono ?_
            rw [HG.out.1, sameM_self]
            rintro e w6 ⟨rfl, b6⟩
            clear Brq_0 Brq_1 Brq_2 Brq_3 Brq_4 Brq_5 Brr_0 Brr_1 Brr_2 Brr_3 Brr_4 Brr_5 Bmp_0 Bmp_1 Bmp_2 Bmp_3 Bm_0 Bm_1 Bm_2 Bm_3
            have HS := Lib.hid (HS.out.to b6)
            have HM := Lib.hid (HM.out.to b6)
            have HA := Lib.hid (HA.out.to b6)
            have HYp := Lib.hid (HYp.out.to b6)
            have HBp := Lib.hid (HBp.out.to b6)
            have HWp := Lib.hid (HWp.out.to b6)
            have HYq := Lib.hid (HYq.out.to b6)
            have HBq := Lib.hid (HBq.out.to b6)
            have HWq := Lib.hid (HWq.out.to b6)
            have HYr := Lib.hid (HYr.out.to b6)
            have HBr := Lib.hid (HBr.out.to b6)
            have HWr := Lib.hid (HWr.out.to b6)
            have Bs := Lib.hid (b6.row (row_lt Bs.out) Bs.out)
            have Bm := Lib.hid (b6.row (row_lt Bm.out) Bm.out)
            have Bmp := Lib.hid (b6.row (row_lt Bmp.out) Bmp.out)
            have Brp := Lib.hid (b6.row (row_lt Brp.out) Brp.out)
            have Bmq := Lib.hid (b6.row (row_lt Bmq.out) Bmq.out)
            have Brq := Lib.hid (b6.row (row_lt Brq.out) Brq.out)
            have Bmr := Lib.hid (b6.row (row_lt Bmr.out) Bmr.out)
            have Brr := Lib.hid (b6.row (row_lt Brr.out) Brr.out)
            have bw := bw.call b6
            clear b6
            obtain ⟨Brp_0, Brp_1, Brp_2, Brp_3, Brp_4, Brp_5⟩ := row6 Brp.out
            obtain ⟨Brr_0, Brr_1, Brr_2, Brr_3, Brr_4, Brr_5⟩ := row6 Brr.out
            go_wp2_with (go_at_call 10; refine (awake7_any _).mono ?_; rintro e wa ⟨rfl, ba⟩)
            go_ret
            exact ⟨rfl, bw.call ba⟩
          case neg =>
            have P2 : ((x2 : Int) != 0) = true := by rw [bne_iff_ne]; omega
            have P3 : ((x3 : Int) != 0) = true := by rw [bne_iff_ne]; omega
            have P30 : ((x3 : Int) == 0) = false := by rw [beq_eq_false_iff_ne]; omega
            have P32 : ((x3 : Int) == 2) = false := by rw [beq_eq_false_iff_ne]; omega
            have HG := Lib.hid (HSW.out.1 (.inl c2))
            have P1 : ((x1 : Int) == (x3 : Int)) = true := by rw [HG.out.2, if_neg (by omega), beq_iff_eq]
            clear HSW c2 c3 c32
            go_enter Try.func5, Try.ntmps5
            go_wp2_with fail
            refine (light_any v u _ hv).mono ?_
            rintro e w1 ⟨rfl, b1⟩
            have X1 := Bx.first b1
            have bw := X1.bel
            have HS := Lib.hid (hS.to bw)
            have HM := Lib.hid (hM.to bw)
            have HA := Lib.hid (hs.to bw)
            have Bs := Lib.hid X1.x
            have Bm := Lib.hid X1.y
            clear b1 X1 hS hM hs
            rw [hL]
            obtain ⟨Bs_0, Bs_1, Bs_2, Bs_3⟩ := row4 Bs.out
            obtain ⟨Bm_0, Bm_1, Bm_2, Bm_3⟩ := row4 Bm.out
            go_wp2_with fail
            refine (modRight_any v u s M _ HS.out HM.out ho sv su).mono ?_
            rw [← HQ.out]
            rintro e w2 ⟨rfl, b2⟩
            clear Bs_0 Bs_1 Bs_2 Bs_3 Bm_0 Bm_1 Bm_2 Bm_3
            have HS := Lib.hid (HS.out.to b2)
            have HM := Lib.hid (HM.out.to b2)
            have HA := Lib.hid (HA.out.to b2)
            have Bs := Lib.hid (b2.row (row_lt Bs.out) Bs.out)
            have Bm := Lib.hid (b2.row (row_lt Bm.out) Bm.out)
            have bw := bw.call b2
            clear b2
            obtain ⟨Bs_0, Bs_1, Bs_2, Bs_3⟩ := row4 Bs.out
            obtain ⟨Bm_0, Bm_1, Bm_2, Bm_3⟩ := row4 Bm.out
            go_wp2_with fail
            refine (modDo_any v u s M 23 a n t A k c none 0 0 W [] _ HS.out HM.out ho sv su HA.out (Sl.empty _ _ _) wf1 (by omega) (Nat.zero_le _)).mono ?_
            rw [← HE1.out]
            rintro e w3 ⟨yp, A6p, n6p, c6p, A7p, n7p, c7p, rfl, YMp, S6p, S7p, k6p, k7p, bp⟩
            clear Bs_0 Bs_1 Bs_2 Bs_3 Bm_0 Bm_1 Bm_2 Bm_3
            have HS := Lib.hid (HS.out.to bp)
            have HM := Lib.hid (HM.out.to bp)
            have HA := Lib.hid (HA.out.to bp)
            have Bs := Lib.hid (bp.row (row_lt Bs.out) Bs.out)
            have Bm := Lib.hid (bp.row (row_lt Bm.out) Bm.out)
            have bw := bw.call bp
            have HYp := Lib.hid YMp
            have HBp := Lib.hid S6p
            have HWp := Lib.hid S7p
            clear YMp S6p S7p
            clear bp
            go_wp2_with (first
              | (refine wpList_store_grown rfl 28 (.tmp 13) _ rfl w3.heap.size #[.slice yp.a.A yp.a.n yp.a.c, .slice yp.b.A yp.b.n yp.b.c, .slice yp.c.A yp.c.n yp.c.c, .slice yp.d.A yp.d.n yp.d.c] rfl rfl 28 _ (row_alloc (heap_alloc_new w3 _) _) (by kernel_rfl) rfl (by simp [Value.oneCell']) ?_; intro Wpa hpa gpa spa)
              | (refine wpList_store_grown rfl 36 (.tmp 14) _ rfl (w3.heap.size + 1) #[.int .u8 (f1 : Nat), .int .u8 (x1 : Nat), .slice A6p n6p c6p, .slice A7p n7p c7p, .int .u16 (a1 : Nat), .int .u16 (m1 : Nat)] rfl rfl 36 _ (gpa.row (by omega) (heap_alloc2_new w3 _ _)) (by kernel_rfl) rfl (by simp [Value.oneCell']) ?_; intro Wp hpb gpb spb; have Bmp := Lib.hid (gpb.row (k := w3.heap.size) (by omega) hpa); have Brp := Lib.hid hpb; have Cp := below_two gpa gpb spa; clear gpa gpb spa spb hpa hpb; have HS := Lib.hid (HS.out.to Cp); have HM := Lib.hid (HM.out.to Cp); have HA := Lib.hid (HA.out.to Cp); have HYp := Lib.hid (HYp.out.to Cp); have HBp := Lib.hid (HBp.out.to Cp); have HWp := Lib.hid (HWp.out.to Cp); have Bs := Lib.hid (Cp.row (row_lt Bs.out) Bs.out); have Bm := Lib.hid (Cp.row (row_lt Bm.out) Bm.out); have bw := bw.call Cp; clear Cp; obtain ⟨Bs_0, Bs_1, Bs_2, Bs_3⟩ := row4 Bs.out; obtain ⟨Bm_0, Bm_1, Bm_2, Bm_3⟩ := row4 Bm.out)
              | fail)
            refine (modDo_any v u s M 16 t k 0 A k c none 0 0 W [] _ HS.out HM.out ho sv su HA.out (Sl.empty _ _ _) wf2 (by omega) (Nat.zero_le _)).mono ?_
            rw [← HE2.out]
            rintro e w4 ⟨yq, A6q, n6q, c6q, A7q, n7q, c7q, rfl, YMq, S6q, S7q, k6q, k7q, bq⟩
            clear Bs_0 Bs_1 Bs_2 Bs_3 Bm_0 Bm_1 Bm_2 Bm_3
            have HS := Lib.hid (HS.out.to bq)
            have HM := Lib.hid (HM.out.to bq)
            have HA := Lib.hid (HA.out.to bq)
            have HYp := Lib.hid (HYp.out.to bq)
            have HBp := Lib.hid (HBp.out.to bq)
            have HWp := Lib.hid (HWp.out.to bq)
            have Bs := Lib.hid (bq.row (row_lt Bs.out) Bs.out)
            have Bm := Lib.hid (bq.row (row_lt Bm.out) Bm.out)
            have Bmp := Lib.hid (bq.row (row_lt Bmp.out) Bmp.out)
            have Brp := Lib.hid (bq.row (row_lt Brp.out) Brp.out)
            have bw := bw.call bq
            have HYq := Lib.hid YMq
            have HBq := Lib.hid S6q
            have HWq := Lib.hid S7q
            clear YMq S6q S7q
            clear bq
            go_wp2_with (first
              | (refine wpList_store_grown rfl 28 (.tmp 15) _ rfl w4.heap.size #[.slice yq.a.A yq.a.n yq.a.c, .slice yq.b.A yq.b.n yq.b.c, .slice yq.c.A yq.c.n yq.c.c, .slice yq.d.A yq.d.n yq.d.c] rfl rfl 28 _ (row_alloc (heap_alloc_new w4 _) _) (by kernel_rfl) rfl (by simp [Value.oneCell']) ?_; intro Wqa hqa gqa sqa)
              | (refine wpList_store_grown rfl 36 (.tmp 16) _ rfl (w4.heap.size + 1) #[.int .u8 (f2 : Nat), .int .u8 (x2 : Nat), .slice A6q n6q c6q, .slice A7q n7q c7q, .int .u16 (a2 : Nat), .int .u16 (m2 : Nat)] rfl rfl 36 _ (gqa.row (by omega) (heap_alloc2_new w4 _ _)) (by kernel_rfl) rfl (by simp [Value.oneCell']) ?_; intro Wq hqb gqb sqb; have Bmq := Lib.hid (gqb.row (k := w4.heap.size) (by omega) hqa); have Brq := Lib.hid hqb; have Cq := below_two gqa gqb sqa; clear gqa gqb sqa sqb hqa hqb; have HS := Lib.hid (HS.out.to Cq); have HM := Lib.hid (HM.out.to Cq); have HA := Lib.hid (HA.out.to Cq); have HYp := Lib.hid (HYp.out.to Cq); have HBp := Lib.hid (HBp.out.to Cq); have HWp := Lib.hid (HWp.out.to Cq); have HYq := Lib.hid (HYq.out.to Cq); have HBq := Lib.hid (HBq.out.to Cq); have HWq := Lib.hid (HWq.out.to Cq); have Bs := Lib.hid (Cq.row (row_lt Bs.out) Bs.out); have Bm := Lib.hid (Cq.row (row_lt Bm.out) Bm.out); have Bmp := Lib.hid (Cq.row (row_lt Bmp.out) Bmp.out); have Brp := Lib.hid (Cq.row (row_lt Brp.out) Brp.out); have bw := bw.call Cq; clear Cq; obtain ⟨Bs_0, Bs_1, Bs_2, Bs_3⟩ := row4 Bs.out; obtain ⟨Bmq_0, Bmq_1, Bmq_2, Bmq_3⟩ := row4 Bmq.out)
              | fail)
            have sq : yq.Small := small_of HYq.out (do_small HE2.out su HM.out)
            refine (modDo_any v yq s M2 3 a n 0 none 0 0 none 0 0 [] [] _ HS.out HYq.out ho sv sq (Sl.empty _ _ _) (Sl.empty _ _ _) wf3 (Nat.zero_le _) (Nat.zero_le _)).mono ?_
            rw [← HE3.out]
            rintro e w5 ⟨yr, A6r, n6r, c6r, A7r, n7r, c7r, rfl, YMr, S6r, S7r, k6r, k7r, br⟩
            clear Bs_0 Bs_1 Bs_2 Bs_3 Bmq_0 Bmq_1 Bmq_2 Bmq_3
            have HS := Lib.hid (HS.out.to br)
            have HM := Lib.hid (HM.out.to br)
            have HA := Lib.hid (HA.out.to br)
            have HYp := Lib.hid (HYp.out.to br)
            have HBp := Lib.hid (HBp.out.to br)
            have HWp := Lib.hid (HWp.out.to br)
            have HYq := Lib.hid (HYq.out.to br)
            have HBq := Lib.hid (HBq.out.to br)
            have HWq := Lib.hid (HWq.out.to br)
            have Bs := Lib.hid (br.row (row_lt Bs.out) Bs.out)
            have Bm := Lib.hid (br.row (row_lt Bm.out) Bm.out)
            have Bmp := Lib.hid (br.row (row_lt Bmp.out) Bmp.out)
            have Brp := Lib.hid (br.row (row_lt Brp.out) Brp.out)
            have Bmq := Lib.hid (br.row (row_lt Bmq.out) Bmq.out)
            have Brq := Lib.hid (br.row (row_lt Brq.out) Brq.out)
            have bw := bw.call br
            have HYr := Lib.hid YMr
            have HBr := Lib.hid S6r
            have HWr := Lib.hid S7r
            clear YMr S6r S7r
            clear br
            go_wp2_with (first
              | (refine wpList_store_grown rfl 28 (.tmp 17) _ rfl w5.heap.size #[.slice yr.a.A yr.a.n yr.a.c, .slice yr.b.A yr.b.n yr.b.c, .slice yr.c.A yr.c.n yr.c.c, .slice yr.d.A yr.d.n yr.d.c] rfl rfl 28 _ (row_alloc (heap_alloc_new w5 _) _) (by kernel_rfl) rfl (by simp [Value.oneCell']) ?_; intro Wra hra gra sra)
              | (refine wpList_store_grown rfl 36 (.tmp 18) _ rfl (w5.heap.size + 1) #[.int .u8 (f3 : Nat), .int .u8 (x3 : Nat), .slice A6r n6r c6r, .slice A7r n7r c7r, .int .u16 (a3 : Nat), .int .u16 (m3 : Nat)] rfl rfl 36 _ (gra.row (by omega) (heap_alloc2_new w5 _ _)) (by kernel_rfl) rfl (by simp [Value.oneCell']) ?_; intro Wr hrb grb srb; have Bmr := Lib.hid (grb.row (k := w5.heap.size) (by omega) hra); have Brr := Lib.hid hrb; have Cr := below_two gra grb sra; clear gra grb sra srb hra hrb; have HS := Lib.hid (HS.out.to Cr); have HM := Lib.hid (HM.out.to Cr); have HA := Lib.hid (HA.out.to Cr); have HYp := Lib.hid (HYp.out.to Cr); have HBp := Lib.hid (HBp.out.to Cr); have HWp := Lib.hid (HWp.out.to Cr); have HYq := Lib.hid (HYq.out.to Cr); have HBq := Lib.hid (HBq.out.to Cr); have HWq := Lib.hid (HWq.out.to Cr); have HYr := Lib.hid (HYr.out.to Cr); have HBr := Lib.hid (HBr.out.to Cr); have HWr := Lib.hid (HWr.out.to Cr); have Bs := Lib.hid (Cr.row (row_lt Bs.out) Bs.out); have Bm := Lib.hid (Cr.row (row_lt Bm.out) Bm.out); have Bmp := Lib.hid (Cr.row (row_lt Bmp.out) Bmp.out); have Brp := Lib.hid (Cr.row (row_lt Brp.out) Brp.out); have Bmq := Lib.hid (Cr.row (row_lt Bmq.out) Bmq.out); have Brq := Lib.hid (Cr.row (row_lt Brq.out) Brq.out); have bw := bw.call Cr; clear Cr; obtain ⟨Brq_0, Brq_1, Brq_2, Brq_3, Brq_4, Brq_5⟩ := row6 Brq.out; obtain ⟨Brr_0, Brr_1, Brr_2, Brr_3, Brr_4, Brr_5⟩ := row6 Brr.out; obtain ⟨Bmp_0, Bmp_1, Bmp_2, Bmp_3⟩ := row4 Bmp.out; obtain ⟨Bm_0, Bm_1, Bm_2, Bm_3⟩ := row4 Bm.out)
              | fail)
            have sp : yp.Small := small_of HYp.out (do_small HE1.out su HM.out)
            refine (lawSame7_any yp u M1 M _ HYp.out HM.out sp su).mono ?_
            rw [HG.out.1, sameM_self]
            rintro e w6 ⟨rfl, b6⟩
            clear Brq_0 Brq_1 Brq_2 Brq_3 Brq_4 Brq_5 Brr_0 Brr_1 Brr_2 Brr_3 Brr_4 Brr_5 Bmp_0 Bmp_1 Bmp_2 Bmp_3 Bm_0 Bm_1 Bm_2 Bm_3
            have HS := Lib.hid (HS.out.to b6)
            have HM := Lib.hid (HM.out.to b6)
            have HA := Lib.hid (HA.out.to b6)
            have HYp := Lib.hid (HYp.out.to b6)
            have HBp := Lib.hid (HBp.out.to b6)
            have HWp := Lib.hid (HWp.out.to b6)
            have HYq := Lib.hid (HYq.out.to b6)
            have HBq := Lib.hid (HBq.out.to b6)
            have HWq := Lib.hid (HWq.out.to b6)
            have HYr := Lib.hid (HYr.out.to b6)
            have HBr := Lib.hid (HBr.out.to b6)
            have HWr := Lib.hid (HWr.out.to b6)
            have Bs := Lib.hid (b6.row (row_lt Bs.out) Bs.out)
            have Bm := Lib.hid (b6.row (row_lt Bm.out) Bm.out)
            have Bmp := Lib.hid (b6.row (row_lt Bmp.out) Bmp.out)
            have Brp := Lib.hid (b6.row (row_lt Brp.out) Brp.out)
            have Bmq := Lib.hid (b6.row (row_lt Bmq.out) Bmq.out)
            have Brq := Lib.hid (b6.row (row_lt Brq.out) Brq.out)
            have Bmr := Lib.hid (b6.row (row_lt Bmr.out) Bmr.out)
            have Brr := Lib.hid (b6.row (row_lt Brr.out) Brr.out)
            have bw := bw.call b6
            clear b6
            obtain ⟨Brp_0, Brp_1, Brp_2, Brp_3, Brp_4, Brp_5⟩ := row6 Brp.out
            obtain ⟨Brr_0, Brr_1, Brr_2, Brr_3, Brr_4, Brr_5⟩ := row6 Brr.out
            go_wp2_with (go_at_call 10; refine (awake7_any _).mono ?_; rintro e wa ⟨rfl, ba⟩)
            go_ret
            exact ⟨rfl, bw.call ba⟩
end Go.Proofs.Ytiibopdnlmnkmaa.MoW
