/- The walk of ModelReads. -/
import Derived.Test.YtjfhfgchglaoiaaMoT
import Derived.Test.YtjfhfgchglaoiaaMoV
set_option linter.unusedVariables false
set_option linter.unusedSimpArgs false
namespace Go.Proofs.Ytjfhfgchglaoiaa.MoW
open Go.RowKit Go.Proofs.Ytjfhfgchglaoiaa Go.Proofs.Ytjfhfgchglaoiaa.Mo Go.Proofs.Ytjfhfgchglaoiaa.Ask Go.Proofs.Ytjfhfgchglaoiaa.AskW
theorem three_boxes {w X : World} {a b c : Obj} (h : Below (((w.alloc a).alloc b).alloc c).heap.size (((w.alloc a).alloc b).alloc c) X) :
    X.heap[w.heap.size]? = some a ∧ X.heap[w.heap.size + 1]? = some b ∧ X.heap[w.heap.size + 1 + 1]? = some c ∧ Below w.heap.size w X := by
  have e : (((w.alloc a).alloc b).alloc c).heap.size = w.heap.size + 1 + 1 + 1 := by simp
  exact ⟨h.row (by omega) (row_alloc (row_alloc (heap_alloc_new w a) b) c), h.row (by omega) (row_alloc (heap_alloc2_new w a b) c), h.row (by omega) (row_third w a b c), ((((Below.refl _ w).new _).new _).new _).call h⟩
theorem qwf {f a n : Nat} (hf : f < 256) (ha : a < 65536) (hn : n < 65536) : Req.Wf ⟨f, a, n, 0, [], []⟩ := ⟨hf, ha, hn, by show (0 : Nat) < 65536; omega, (fun _ h => by cases h)⟩
set_option maxRecDepth 10000 in
set_option maxHeartbeats 16000000 in
theorem modelReads_any (v u : Sp) (s : Space) (M : Mem) (f a n : Nat) (w : World) (hS : SpOk w v s) (hM : MmOk w u M) (ho : s.Ok) (hm : M.Wf)
    (hv : v.a.n ≤ 140737488355328 ∧ v.b.n ≤ 140737488355328 ∧ v.c.n ≤ 140737488355328 ∧ v.d.n ≤ 140737488355328) (hf : f < 256) (ha : a < 65536) (hn : n < 65536) :
    Calls Try.prog 4 #[.agg #[.slice v.a.A v.a.n v.a.c, .slice v.b.A v.b.n v.b.c, .slice v.c.A v.c.n v.c.c, .slice v.d.A v.d.n v.d.c], .agg #[.slice u.a.A u.a.n u.a.c, .slice u.b.A u.b.n u.b.c, .slice u.c.A u.c.n u.c.c, .slice u.d.A u.d.n u.d.c], .int .u8 (f : Nat), .int .u16 (a : Nat), .int .u16 (n : Nat)] w fun e w' => e = .returned (.bool true) ∧ Below w.heap.size w w' := by
  obtain ⟨q, e0⟩ : ∃ q : Nat, q = 1 + f % 4 := ⟨_, rfl⟩
  have HQ := Lib.hid (show (1 + (f : Int) % 4) = (q : Int) from by omega)
  have hq4 : q = 1 ∨ q = 2 ∨ q = 3 ∨ q = 4 := by omega
  have HQ4 := Lib.hid hq4
  clear e0
  cases hL : lightF v u
  case false =>
    go_enter Try.func4, Try.ntmps4
    go_wp2_with fail
    rw [HQ.out]
    refine (light_any v u _ hv).mono ?_
    rintro e w1 ⟨rfl, b1⟩
    obtain ⟨X1, X2, X3, bw⟩ := three_boxes b1
    have HS := Lib.hid (hS.to bw)
    have HM := Lib.hid (hM.to bw)
    have Bs := Lib.hid X1
    have Bm := Lib.hid X2
    have Bq := Lib.hid X3
    clear b1 X1 X2 X3 hS hM
    rw [hL]
    go_wp2_with (go_at_call 10; refine (awake7_any _).mono ?_; rintro e wa ⟨rfl, ba⟩)
    go_ret
    exact ⟨rfl, bw.call ba⟩
  case true =>
    obtain ⟨sv, su, l1, l2, l3, l4⟩ := light_small hL
    have HWF := Lib.hid (qwf (f := q) (by omega) ha hn)
    have hMl : M.coils.length ≤ 100000 ∧ M.inputs.length ≤ 100000 ∧ M.holding.length ≤ 100000 ∧ M.words.length ≤ 100000 := by
      have h4 := hM.lens
      rw [h4.1, h4.2.1, h4.2.2.1, h4.2.2.2]
      exact ⟨su.a, su.b, su.c, su.d⟩
    have hpr := rright_small (do_rright s M ⟨q, a, n, 0, [], []⟩)
    obtain ⟨⟨M1, ⟨f1, x1, B1, W1, a1, m1⟩⟩, e1⟩ : ∃ D, D = doM s M ⟨q, a, n, 0, [], []⟩ := ⟨_, rfl⟩
    obtain rfl : M1 = M := by have h := congrArg Prod.fst e1; exact h.trans (reads_keep s M q a n)
    rw [← e1] at hpr
    dsimp only at hpr
    have HE1 := Lib.hid e1
    clear e1 hq4
    by_cases hx : x1 = 0
    case neg =>
      have P0 : ((x1 : Int) != 0) = true := by rw [bne_iff_ne]; omega
      go_enter Try.func4, Try.ntmps4
      go_wp2_with fail
      rw [HQ.out]
      refine (light_any v u _ hv).mono ?_
      rintro e w1 ⟨rfl, b1⟩
      obtain ⟨X1, X2, X3, bw⟩ := three_boxes b1
      have HS := Lib.hid (hS.to bw)
      have HM := Lib.hid (hM.to bw)
      have Bs := Lib.hid X1
      have Bm := Lib.hid X2
      have Bq := Lib.hid X3
      clear b1 X1 X2 X3 hS hM
      rw [hL]
      obtain ⟨Bs_0, Bs_1, Bs_2, Bs_3⟩ := row4 Bs.out
      obtain ⟨Bm_0, Bm_1, Bm_2, Bm_3⟩ := row4 Bm.out
      obtain ⟨Bq_0, Bq_1, Bq_2, Bq_3, Bq_4, Bq_5⟩ := row6 Bq.out
      go_wp2_with fail
      refine (modDo_any v u s M1 q a n 0 none 0 0 none 0 0 [] [] _ HS.out HM.out ho sv su (Sl.empty _ _ _) (Sl.empty _ _ _) HWF.out (by decide) (by decide)).mono ?_
      rw [← HE1.out]
      rintro e w2 ⟨yp, A6p, n6p, c6p, A7p, n7p, c7p, rfl, YMp, S6p, S7p, k6p, k7p, bp⟩
      clear Bs_0 Bs_1 Bs_2 Bs_3 Bm_0 Bm_1 Bm_2 Bm_3 Bq_0 Bq_1 Bq_2 Bq_3 Bq_4 Bq_5
      have HS := Lib.hid (HS.out.to bp)
      have HM := Lib.hid (HM.out.to bp)
      have Bs := Lib.hid (bp.row (row_lt Bs.out) Bs.out)
      have Bm := Lib.hid (bp.row (row_lt Bm.out) Bm.out)
      have Bq := Lib.hid (bp.row (row_lt Bq.out) Bq.out)
      have bw := bw.call bp
      have HYp := Lib.hid YMp
      have HBp := Lib.hid S6p
      have HWp := Lib.hid S7p
      clear YMp S6p S7p
      clear bp
      go_wp2_with (first
        | (refine wpList_store_grown rfl 28 (.tmp 12) _ rfl w2.heap.size #[.slice yp.a.A yp.a.n yp.a.c, .slice yp.b.A yp.b.n yp.b.c, .slice yp.c.A yp.c.n yp.c.c, .slice yp.d.A yp.d.n yp.d.c] rfl rfl 28 _ (row_alloc (heap_alloc_new w2 _) _) (by kernel_rfl) rfl (by simp [Value.oneCell']) ?_; intro Wpa hpa gpa spa)
        | (refine wpList_store_grown rfl 36 (.tmp 13) _ rfl (w2.heap.size + 1) #[.int .u8 (f1 : Nat), .int .u8 (x1 : Nat), .slice A6p n6p c6p, .slice A7p n7p c7p, .int .u16 (a1 : Nat), .int .u16 (m1 : Nat)] rfl rfl 36 _ (gpa.row (by omega) (heap_alloc2_new w2 _ _)) (by kernel_rfl) rfl (by simp [Value.oneCell']) ?_; intro Wp hpb gpb spb; have Bmp := Lib.hid (gpb.row (k := w2.heap.size) (by omega) hpa); have Brp := Lib.hid hpb; have Cp := below_two gpa gpb spa; clear gpa gpb spa spb hpa hpb; have HS := Lib.hid (HS.out.to Cp); have HM := Lib.hid (HM.out.to Cp); have HYp := Lib.hid (HYp.out.to Cp); have HBp := Lib.hid (HBp.out.to Cp); have HWp := Lib.hid (HWp.out.to Cp); have Bs := Lib.hid (Cp.row (row_lt Bs.out) Bs.out); have Bm := Lib.hid (Cp.row (row_lt Bm.out) Bm.out); have Bq := Lib.hid (Cp.row (row_lt Bq.out) Bq.out); have bw := bw.call Cp; clear Cp; obtain ⟨Bs_0, Bs_1, Bs_2, Bs_3⟩ := row4 Bs.out; obtain ⟨Bmp_0, Bmp_1, Bmp_2, Bmp_3⟩ := row4 Bmp.out; obtain ⟨Bq_0, Bq_1, Bq_2, Bq_3, Bq_4, Bq_5⟩ := row6 Bq.out)
        | fail)
      have sp : yp.Small := small_of HYp.out hMl
      refine (modDo_any v yp s M1 q a n 0 none 0 0 none 0 0 [] [] _ HS.out HYp.out ho sv sp (Sl.empty _ _ _) (Sl.empty _ _ _) HWF.out (by decide) (by decide)).mono ?_
      rw [← HE1.out]
      rintro e w3 ⟨yo, A6o, n6o, c6o, A7o, n7o, c7o, rfl, YMo, S6o, S7o, k6o, k7o, bo⟩
      clear Bs_0 Bs_1 Bs_2 Bs_3 Bmp_0 Bmp_1 Bmp_2 Bmp_3 Bq_0 Bq_1 Bq_2 Bq_3 Bq_4 Bq_5
      have HS := Lib.hid (HS.out.to bo)
      have HM := Lib.hid (HM.out.to bo)
      have HYp := Lib.hid (HYp.out.to bo)
      have HBp := Lib.hid (HBp.out.to bo)
      have HWp := Lib.hid (HWp.out.to bo)
      have Bs := Lib.hid (bo.row (row_lt Bs.out) Bs.out)
      have Bm := Lib.hid (bo.row (row_lt Bm.out) Bm.out)
      have Bq := Lib.hid (bo.row (row_lt Bq.out) Bq.out)
      have Bmp := Lib.hid (bo.row (row_lt Bmp.out) Bmp.out)
      have Brp := Lib.hid (bo.row (row_lt Brp.out) Brp.out)
      have bw := bw.call bo
      have HYo := Lib.hid YMo
      have HBo := Lib.hid S6o
      have HWo := Lib.hid S7o
      clear YMo S6o S7o
      clear bo
      go_wp2_with (first
        | (refine wpList_store_grown rfl 28 (.tmp 14) _ rfl w3.heap.size #[.slice yo.a.A yo.a.n yo.a.c, .slice yo.b.A yo.b.n yo.b.c, .slice yo.c.A yo.c.n yo.c.c, .slice yo.d.A yo.d.n yo.d.c] rfl rfl 28 _ (row_alloc (heap_alloc_new w3 _) _) (by kernel_rfl) rfl (by simp [Value.oneCell']) ?_; intro Woa hoa goa soa)
        | (refine wpList_store_grown rfl 36 (.tmp 15) _ rfl (w3.heap.size + 1) #[.int .u8 (f1 : Nat), .int .u8 (x1 : Nat), .slice A6o n6o c6o, .slice A7o n7o c7o, .int .u16 (a1 : Nat), .int .u16 (m1 : Nat)] rfl rfl 36 _ (goa.row (by omega) (heap_alloc2_new w3 _ _)) (by kernel_rfl) rfl (by simp [Value.oneCell']) ?_; intro Wo hob gob sob; have Bmo := Lib.hid (gob.row (k := w3.heap.size) (by omega) hoa); have Bro := Lib.hid hob; have Co := below_two goa gob soa; clear goa gob soa sob hoa hob; have HS := Lib.hid (HS.out.to Co); have HM := Lib.hid (HM.out.to Co); have HYp := Lib.hid (HYp.out.to Co); have HBp := Lib.hid (HBp.out.to Co); have HWp := Lib.hid (HWp.out.to Co); have HYo := Lib.hid (HYo.out.to Co); have HBo := Lib.hid (HBo.out.to Co); have HWo := Lib.hid (HWo.out.to Co); have Bs := Lib.hid (Co.row (row_lt Bs.out) Bs.out); have Bm := Lib.hid (Co.row (row_lt Bm.out) Bm.out); have Bq := Lib.hid (Co.row (row_lt Bq.out) Bq.out); have Bmp := Lib.hid (Co.row (row_lt Bmp.out) Bmp.out); have Brp := Lib.hid (Co.row (row_lt Brp.out) Brp.out); have bw := bw.call Co; clear Co; obtain ⟨Bmp_0, Bmp_1, Bmp_2, Bmp_3⟩ := row4 Bmp.out; obtain ⟨Bm_0, Bm_1, Bm_2, Bm_3⟩ := row4 Bm.out)
        | fail)
      have so : yo.Small := small_of HYo.out hMl
      refine (lawSame7_any yp u M1 M1 _ HYp.out HM.out sp su).mono ?_
      rw [sameM_self]
      rintro e w4 ⟨rfl, b4⟩
      clear Bmp_0 Bmp_1 Bmp_2 Bmp_3 Bm_0 Bm_1 Bm_2 Bm_3
      have HS := Lib.hid (HS.out.to b4)
      have HM := Lib.hid (HM.out.to b4)
      have HYp := Lib.hid (HYp.out.to b4)
      have HBp := Lib.hid (HBp.out.to b4)
      have HWp := Lib.hid (HWp.out.to b4)
      have HYo := Lib.hid (HYo.out.to b4)
      have HBo := Lib.hid (HBo.out.to b4)
      have HWo := Lib.hid (HWo.out.to b4)
      have Bs := Lib.hid (b4.row (row_lt Bs.out) Bs.out)
      have Bm := Lib.hid (b4.row (row_lt Bm.out) Bm.out)
      have Bq := Lib.hid (b4.row (row_lt Bq.out) Bq.out)
      have Bmp := Lib.hid (b4.row (row_lt Bmp.out) Bmp.out)
      have Brp := Lib.hid (b4.row (row_lt Brp.out) Brp.out)
      have Bmo := Lib.hid (b4.row (row_lt Bmo.out) Bmo.out)
      have Bro := Lib.hid (b4.row (row_lt Bro.out) Bro.out)
      have bw := bw.call b4
      clear b4
      obtain ⟨Bmo_0, Bmo_1, Bmo_2, Bmo_3⟩ := row4 Bmo.out
      obtain ⟨Bm_0, Bm_1, Bm_2, Bm_3⟩ := row4 Bm.out
      go_wp2_with fail
      refine (lawSame7_any yo u M1 M1 _ HYo.out HM.out so su).mono ?_
      rw [sameM_self]
      rintro e w5 ⟨rfl, b5⟩
      clear Bmo_0 Bmo_1 Bmo_2 Bmo_3 Bm_0 Bm_1 Bm_2 Bm_3
      have HS := Lib.hid (HS.out.to b5)
      have HM := Lib.hid (HM.out.to b5)
      have HYp := Lib.hid (HYp.out.to b5)
      have HBp := Lib.hid (HBp.out.to b5)
      have HWp := Lib.hid (HWp.out.to b5)
      have HYo := Lib.hid (HYo.out.to b5)
      have HBo := Lib.hid (HBo.out.to b5)
      have HWo := Lib.hid (HWo.out.to b5)
      have Bs := Lib.hid (b5.row (row_lt Bs.out) Bs.out)
      have Bm := Lib.hid (b5.row (row_lt Bm.out) Bm.out)
      have Bq := Lib.hid (b5.row (row_lt Bq.out) Bq.out)
      have Bmp := Lib.hid (b5.row (row_lt Bmp.out) Bmp.out)
      have Brp := Lib.hid (b5.row (row_lt Brp.out) Brp.out)
      have Bmo := Lib.hid (b5.row (row_lt Bmo.out) Bmo.out)
      have Bro := Lib.hid (b5.row (row_lt Bro.out) Bro.out)
      have bw := bw.call b5
      clear b5
      obtain ⟨Brp_0, Brp_1, Brp_2, Brp_3, Brp_4, Brp_5⟩ := row6 Brp.out
      obtain ⟨Bro_0, Bro_1, Bro_2, Bro_3, Bro_4, Bro_5⟩ := row6 Bro.out
      go_wp2_with fail
      have j0 : n7p ≤ 1000000 := by have h := HWp.out.len; rw [ws_length] at h; omega
      have j1 : n6p ≤ 1000000 := by have h := HBp.out.len; rw [bl_length] at h; omega
      have j2 : n7o ≤ 1000000 := by have h := HWo.out.len; rw [ws_length] at h; omega
      have j3 : n6o ≤ 1000000 := by have h := HBo.out.len; rw [bl_length] at h; omega
      have KS := repSame_any f1 x1 A6p n6p c6p A7p n7p c7p a1 m1 f1 x1 A6o n6o c6o A7o n7o c7o a1 m1 B1 B1 W1 W1 _ HWp.out HBp.out HWo.out HBo.out j0 j1 j2 j3
      rw [rep_same_true rfl] at KS
      clear j0 j1 j2 j3
      refine (KS).mono ?_
      rintro e w6 ⟨rfl, b6⟩
      clear Brp_0 Brp_1 Brp_2 Brp_3 Brp_4 Brp_5 Bro_0 Bro_1 Bro_2 Bro_3 Bro_4 Bro_5
      have HS := Lib.hid (HS.out.to b6)
      have HM := Lib.hid (HM.out.to b6)
      have HYp := Lib.hid (HYp.out.to b6)
      have HBp := Lib.hid (HBp.out.to b6)
      have HWp := Lib.hid (HWp.out.to b6)
      have HYo := Lib.hid (HYo.out.to b6)
      have HBo := Lib.hid (HBo.out.to b6)
      have HWo := Lib.hid (HWo.out.to b6)
      have Bs := Lib.hid (b6.row (row_lt Bs.out) Bs.out)
      have Bm := Lib.hid (b6.row (row_lt Bm.out) Bm.out)
      have Bq := Lib.hid (b6.row (row_lt Bq.out) Bq.out)
      have Bmp := Lib.hid (b6.row (row_lt Bmp.out) Bmp.out)
      have Brp := Lib.hid (b6.row (row_lt Brp.out) Brp.out)
      have Bmo := Lib.hid (b6.row (row_lt Bmo.out) Bmo.out)
      have Bro := Lib.hid (b6.row (row_lt Bro.out) Bro.out)
      have bw := bw.call b6
      clear b6
      clear KS
      obtain ⟨Brp_0, Brp_1, Brp_2, Brp_3, Brp_4, Brp_5⟩ := row6 Brp.out
      go_wp2_with (go_at_call 10; refine (awake7_any _).mono ?_; rintro e wa ⟨rfl, ba⟩)
      go_ret
      exact ⟨rfl, bw.call ba⟩
    case pos =>
      subst hx
      have P0 : (((0 : Nat) : Int) != 0) = false := rfl
      by_cases hn2 : n < 2
      case pos =>
        have P1 : decide ((n : Int) < 2) = true := decide_eq_true (by omega)
        go_enter Try.func4, Try.ntmps4
        go_wp2_with fail
        rw [HQ.out]
        refine (light_any v u _ hv).mono ?_
        rintro e w1 ⟨rfl, b1⟩
        obtain ⟨X1, X2, X3, bw⟩ := three_boxes b1
        have HS := Lib.hid (hS.to bw)
        have HM := Lib.hid (hM.to bw)
        have Bs := Lib.hid X1
        have Bm := Lib.hid X2
        have Bq := Lib.hid X3
        clear b1 X1 X2 X3 hS hM
        rw [hL]
        obtain ⟨Bs_0, Bs_1, Bs_2, Bs_3⟩ := row4 Bs.out
        obtain ⟨Bm_0, Bm_1, Bm_2, Bm_3⟩ := row4 Bm.out
        obtain ⟨Bq_0, Bq_1, Bq_2, Bq_3, Bq_4, Bq_5⟩ := row6 Bq.out
        go_wp2_with fail
        refine (modDo_any v u s M1 q a n 0 none 0 0 none 0 0 [] [] _ HS.out HM.out ho sv su (Sl.empty _ _ _) (Sl.empty _ _ _) HWF.out (by decide) (by decide)).mono ?_
        rw [← HE1.out]
        rintro e w2 ⟨yp, A6p, n6p, c6p, A7p, n7p, c7p, rfl, YMp, S6p, S7p, k6p, k7p, bp⟩
        clear Bs_0 Bs_1 Bs_2 Bs_3 Bm_0 Bm_1 Bm_2 Bm_3 Bq_0 Bq_1 Bq_2 Bq_3 Bq_4 Bq_5
        have HS := Lib.hid (HS.out.to bp)
        have HM := Lib.hid (HM.out.to bp)
        have Bs := Lib.hid (bp.row (row_lt Bs.out) Bs.out)
        have Bm := Lib.hid (bp.row (row_lt Bm.out) Bm.out)
        have Bq := Lib.hid (bp.row (row_lt Bq.out) Bq.out)
        have bw := bw.call bp
        have HYp := Lib.hid YMp
        have HBp := Lib.hid S6p
        have HWp := Lib.hid S7p
        clear YMp S6p S7p
        clear bp
        go_wp2_with (first
          | (refine wpList_store_grown rfl 28 (.tmp 12) _ rfl w2.heap.size #[.slice yp.a.A yp.a.n yp.a.c, .slice yp.b.A yp.b.n yp.b.c, .slice yp.c.A yp.c.n yp.c.c, .slice yp.d.A yp.d.n yp.d.c] rfl rfl 28 _ (row_alloc (heap_alloc_new w2 _) _) (by kernel_rfl) rfl (by simp [Value.oneCell']) ?_; intro Wpa hpa gpa spa)
          | (refine wpList_store_grown rfl 36 (.tmp 13) _ rfl (w2.heap.size + 1) #[.int .u8 (f1 : Nat), .int .u8 (0 : Nat), .slice A6p n6p c6p, .slice A7p n7p c7p, .int .u16 (a1 : Nat), .int .u16 (m1 : Nat)] rfl rfl 36 _ (gpa.row (by omega) (heap_alloc2_new w2 _ _)) (by kernel_rfl) rfl (by simp [Value.oneCell']) ?_; intro Wp hpb gpb spb; have Bmp := Lib.hid (gpb.row (k := w2.heap.size) (by omega) hpa); have Brp := Lib.hid hpb; have Cp := below_two gpa gpb spa; clear gpa gpb spa spb hpa hpb; have HS := Lib.hid (HS.out.to Cp); have HM := Lib.hid (HM.out.to Cp); have HYp := Lib.hid (HYp.out.to Cp); have HBp := Lib.hid (HBp.out.to Cp); have HWp := Lib.hid (HWp.out.to Cp); have Bs := Lib.hid (Cp.row (row_lt Bs.out) Bs.out); have Bm := Lib.hid (Cp.row (row_lt Bm.out) Bm.out); have Bq := Lib.hid (Cp.row (row_lt Bq.out) Bq.out); have bw := bw.call Cp; clear Cp; obtain ⟨Bs_0, Bs_1, Bs_2, Bs_3⟩ := row4 Bs.out; obtain ⟨Bmp_0, Bmp_1, Bmp_2, Bmp_3⟩ := row4 Bmp.out; obtain ⟨Bq_0, Bq_1, Bq_2, Bq_3, Bq_4, Bq_5⟩ := row6 Bq.out)
          | fail)
        have sp : yp.Small := small_of HYp.out hMl
        refine (modDo_any v yp s M1 q a n 0 none 0 0 none 0 0 [] [] _ HS.out HYp.out ho sv sp (Sl.empty _ _ _) (Sl.empty _ _ _) HWF.out (by decide) (by decide)).mono ?_
        rw [← HE1.out]
        rintro e w3 ⟨yo, A6o, n6o, c6o, A7o, n7o, c7o, rfl, YMo, S6o, S7o, k6o, k7o, bo⟩
        clear Bs_0 Bs_1 Bs_2 Bs_3 Bmp_0 Bmp_1 Bmp_2 Bmp_3 Bq_0 Bq_1 Bq_2 Bq_3 Bq_4 Bq_5
        have HS := Lib.hid (HS.out.to bo)
        have HM := Lib.hid (HM.out.to bo)
        have HYp := Lib.hid (HYp.out.to bo)
        have HBp := Lib.hid (HBp.out.to bo)
        have HWp := Lib.hid (HWp.out.to bo)
        have Bs := Lib.hid (bo.row (row_lt Bs.out) Bs.out)
        have Bm := Lib.hid (bo.row (row_lt Bm.out) Bm.out)
        have Bq := Lib.hid (bo.row (row_lt Bq.out) Bq.out)
        have Bmp := Lib.hid (bo.row (row_lt Bmp.out) Bmp.out)
        have Brp := Lib.hid (bo.row (row_lt Brp.out) Brp.out)
        have bw := bw.call bo
        have HYo := Lib.hid YMo
        have HBo := Lib.hid S6o
        have HWo := Lib.hid S7o
        clear YMo S6o S7o
        clear bo
        go_wp2_with (first
          | (refine wpList_store_grown rfl 28 (.tmp 14) _ rfl w3.heap.size #[.slice yo.a.A yo.a.n yo.a.c, .slice yo.b.A yo.b.n yo.b.c, .slice yo.c.A yo.c.n yo.c.c, .slice yo.d.A yo.d.n yo.d.c] rfl rfl 28 _ (row_alloc (heap_alloc_new w3 _) _) (by kernel_rfl) rfl (by simp [Value.oneCell']) ?_; intro Woa hoa goa soa)
          | (refine wpList_store_grown rfl 36 (.tmp 15) _ rfl (w3.heap.size + 1) #[.int .u8 (f1 : Nat), .int .u8 (0 : Nat), .slice A6o n6o c6o, .slice A7o n7o c7o, .int .u16 (a1 : Nat), .int .u16 (m1 : Nat)] rfl rfl 36 _ (goa.row (by omega) (heap_alloc2_new w3 _ _)) (by kernel_rfl) rfl (by simp [Value.oneCell']) ?_; intro Wo hob gob sob; have Bmo := Lib.hid (gob.row (k := w3.heap.size) (by omega) hoa); have Bro := Lib.hid hob; have Co := below_two goa gob soa; clear goa gob soa sob hoa hob; have HS := Lib.hid (HS.out.to Co); have HM := Lib.hid (HM.out.to Co); have HYp := Lib.hid (HYp.out.to Co); have HBp := Lib.hid (HBp.out.to Co); have HWp := Lib.hid (HWp.out.to Co); have HYo := Lib.hid (HYo.out.to Co); have HBo := Lib.hid (HBo.out.to Co); have HWo := Lib.hid (HWo.out.to Co); have Bs := Lib.hid (Co.row (row_lt Bs.out) Bs.out); have Bm := Lib.hid (Co.row (row_lt Bm.out) Bm.out); have Bq := Lib.hid (Co.row (row_lt Bq.out) Bq.out); have Bmp := Lib.hid (Co.row (row_lt Bmp.out) Bmp.out); have Brp := Lib.hid (Co.row (row_lt Brp.out) Brp.out); have bw := bw.call Co; clear Co; obtain ⟨Bmp_0, Bmp_1, Bmp_2, Bmp_3⟩ := row4 Bmp.out; obtain ⟨Bm_0, Bm_1, Bm_2, Bm_3⟩ := row4 Bm.out)
          | fail)
        have so : yo.Small := small_of HYo.out hMl
        refine (lawSame7_any yp u M1 M1 _ HYp.out HM.out sp su).mono ?_
        rw [sameM_self]
        rintro e w4 ⟨rfl, b4⟩
        clear Bmp_0 Bmp_1 Bmp_2 Bmp_3 Bm_0 Bm_1 Bm_2 Bm_3
        have HS := Lib.hid (HS.out.to b4)
        have HM := Lib.hid (HM.out.to b4)
        have HYp := Lib.hid (HYp.out.to b4)
        have HBp := Lib.hid (HBp.out.to b4)
        have HWp := Lib.hid (HWp.out.to b4)
        have HYo := Lib.hid (HYo.out.to b4)
        have HBo := Lib.hid (HBo.out.to b4)
        have HWo := Lib.hid (HWo.out.to b4)
        have Bs := Lib.hid (b4.row (row_lt Bs.out) Bs.out)
        have Bm := Lib.hid (b4.row (row_lt Bm.out) Bm.out)
        have Bq := Lib.hid (b4.row (row_lt Bq.out) Bq.out)
        have Bmp := Lib.hid (b4.row (row_lt Bmp.out) Bmp.out)
        have Brp := Lib.hid (b4.row (row_lt Brp.out) Brp.out)
        have Bmo := Lib.hid (b4.row (row_lt Bmo.out) Bmo.out)
        have Bro := Lib.hid (b4.row (row_lt Bro.out) Bro.out)
        have bw := bw.call b4
        clear b4
        obtain ⟨Bmo_0, Bmo_1, Bmo_2, Bmo_3⟩ := row4 Bmo.out
        obtain ⟨Bm_0, Bm_1, Bm_2, Bm_3⟩ := row4 Bm.out
        go_wp2_with fail
        refine (lawSame7_any yo u M1 M1 _ HYo.out HM.out so su).mono ?_
        rw [sameM_self]
        rintro e w5 ⟨rfl, b5⟩
        clear Bmo_0 Bmo_1 Bmo_2 Bmo_3 Bm_0 Bm_1 Bm_2 Bm_3
        have HS := Lib.hid (HS.out.to b5)
        have HM := Lib.hid (HM.out.to b5)
        have HYp := Lib.hid (HYp.out.to b5)
        have HBp := Lib.hid (HBp.out.to b5)
        have HWp := Lib.hid (HWp.out.to b5)
        have HYo := Lib.hid (HYo.out.to b5)
        have HBo := Lib.hid (HBo.out.to b5)
        have HWo := Lib.hid (HWo.out.to b5)
        have Bs := Lib.hid (b5.row (row_lt Bs.out) Bs.out)
        have Bm := Lib.hid (b5.row (row_lt Bm.out) Bm.out)
        have Bq := Lib.hid (b5.row (row_lt Bq.out) Bq.out)
        have Bmp := Lib.hid (b5.row (row_lt Bmp.out) Bmp.out)
        have Brp := Lib.hid (b5.row (row_lt Brp.out) Brp.out)
        have Bmo := Lib.hid (b5.row (row_lt Bmo.out) Bmo.out)
        have Bro := Lib.hid (b5.row (row_lt Bro.out) Bro.out)
        have bw := bw.call b5
        clear b5
        obtain ⟨Brp_0, Brp_1, Brp_2, Brp_3, Brp_4, Brp_5⟩ := row6 Brp.out
        obtain ⟨Bro_0, Bro_1, Bro_2, Bro_3, Bro_4, Bro_5⟩ := row6 Bro.out
        go_wp2_with fail
        have j0 : n7p ≤ 1000000 := by have h := HWp.out.len; rw [ws_length] at h; omega
        have j1 : n6p ≤ 1000000 := by have h := HBp.out.len; rw [bl_length] at h; omega
        have j2 : n7o ≤ 1000000 := by have h := HWo.out.len; rw [ws_length] at h; omega
        have j3 : n6o ≤ 1000000 := by have h := HBo.out.len; rw [bl_length] at h; omega
        have KS := repSame_any f1 0 A6p n6p c6p A7p n7p c7p a1 m1 f1 0 A6o n6o c6o A7o n7o c7o a1 m1 B1 B1 W1 W1 _ HWp.out HBp.out HWo.out HBo.out j0 j1 j2 j3
        rw [rep_same_true rfl] at KS
        clear j0 j1 j2 j3
        refine (KS).mono ?_
        rintro e w6 ⟨rfl, b6⟩
        clear Brp_0 Brp_1 Brp_2 Brp_3 Brp_4 Brp_5 Bro_0 Bro_1 Bro_2 Bro_3 Bro_4 Bro_5
        have HS := Lib.hid (HS.out.to b6)
        have HM := Lib.hid (HM.out.to b6)
        have HYp := Lib.hid (HYp.out.to b6)
        have HBp := Lib.hid (HBp.out.to b6)
        have HWp := Lib.hid (HWp.out.to b6)
        have HYo := Lib.hid (HYo.out.to b6)
        have HBo := Lib.hid (HBo.out.to b6)
        have HWo := Lib.hid (HWo.out.to b6)
        have Bs := Lib.hid (b6.row (row_lt Bs.out) Bs.out)
        have Bm := Lib.hid (b6.row (row_lt Bm.out) Bm.out)
        have Bq := Lib.hid (b6.row (row_lt Bq.out) Bq.out)
        have Bmp := Lib.hid (b6.row (row_lt Bmp.out) Bmp.out)
        have Brp := Lib.hid (b6.row (row_lt Brp.out) Brp.out)
        have Bmo := Lib.hid (b6.row (row_lt Bmo.out) Bmo.out)
        have Bro := Lib.hid (b6.row (row_lt Bro.out) Bro.out)
        have bw := bw.call b6
        clear b6
        clear KS
        obtain ⟨Brp_0, Brp_1, Brp_2, Brp_3, Brp_4, Brp_5⟩ := row6 Brp.out
        go_wp2_with (go_at_call 10; refine (awake7_any _).mono ?_; rintro e wa ⟨rfl, ba⟩)
        go_ret
        exact ⟨rfl, bw.call ba⟩
      case neg =>
        have P1 : decide ((n : Int) < 2) = false := decide_eq_false (by omega)
        have hh1 : 1 ≤ n / 2 ∧ n / 2 < n := by omega
        obtain ⟨z, ez⟩ : ∃ z, z = n / 2 := ⟨_, rfl⟩
        rw [← ez] at hh1
        have HZ := Lib.hid (show (n : Int) / 2 = (z : Int) from by omega)
        have H := halves (s := s) (m := M1) (k := z) HQ4.out (by rw [← HE1.out]) hh1.1 hh1.2
        dsimp only at H
        rw [← HE1.out] at H
        obtain ⟨⟨M3, ⟨f3, x3, BX, WX, a3, m3⟩⟩, e3⟩ : ∃ D, D = doM s M1 ⟨q, a, z, 0, [], []⟩ := ⟨_, rfl⟩
        obtain ⟨⟨M4, ⟨f4, x4, BY, WY, a4, m4⟩⟩, e4⟩ : ∃ D, D = doM s M1 ⟨q, a + z, n - z, 0, [], []⟩ := ⟨_, rfl⟩
        have em3 : M3 = M1 := by have h := congrArg Prod.fst e3; exact h.trans (reads_keep s M1 q a z)
        have em4 : M4 = M1 := by have h := congrArg Prod.fst e4; exact h.trans (reads_keep s M1 q (a + z) (n - z))
        have hpr3 := rright_small (do_rright s M1 ⟨q, a, z, 0, [], []⟩)
        have hpr4 := rright_small (do_rright s M1 ⟨q, a + z, n - z, 0, [], []⟩)
        rw [← e3] at H hpr3
        rw [← e4] at H hpr4
        dsimp only at H hpr3 hpr4
        obtain ⟨r1, r2, haz, hWW, hBB⟩ := H
        subst em3 r1 r2
        rw [em4] at e4
        have HE3 := Lib.hid e3
        have HE4 := Lib.hid e4
        have HWW := Lib.hid hWW
        have HBB := Lib.hid hBB
        have HAZ := Lib.hid (show (a : Int) + (z : Int) = ((a + z : Nat) : Int) from by omega)
        have HNZ := Lib.hid (show (n : Int) - (z : Int) = ((n - z : Nat) : Int) from by omega)
        have hzn : z ≤ n := by omega
        have hazn : a + z < 65536 := by omega
        have hzz1 : 1 ≤ z := hh1.1
        have hzz2 : z < n := hh1.2
        clear em4 e3 e4 ez hWW hBB haz hh1
        by_cases hq2 : 2 < q
        case pos =>
          have P2 : decide ((2 : Int) < (q : Int)) = true := decide_eq_true (by omega)
          go_enter Try.func4, Try.ntmps4
          go_wp2_with fail
          rw [HQ.out]
          refine (light_any v u _ hv).mono ?_
          rintro e w1 ⟨rfl, b1⟩
          obtain ⟨X1, X2, X3, bw⟩ := three_boxes b1
          have HS := Lib.hid (hS.to bw)
          have HM := Lib.hid (hM.to bw)
          have Bs := Lib.hid X1
          have Bm := Lib.hid X2
          have Bq := Lib.hid X3
          clear b1 X1 X2 X3 hS hM
          rw [hL]
          obtain ⟨Bs_0, Bs_1, Bs_2, Bs_3⟩ := row4 Bs.out
          obtain ⟨Bm_0, Bm_1, Bm_2, Bm_3⟩ := row4 Bm.out
          obtain ⟨Bq_0, Bq_1, Bq_2, Bq_3, Bq_4, Bq_5⟩ := row6 Bq.out
          go_wp2_with fail
          refine (modDo_any v u s M3 q a n 0 none 0 0 none 0 0 [] [] _ HS.out HM.out ho sv su (Sl.empty _ _ _) (Sl.empty _ _ _) HWF.out (by decide) (by decide)).mono ?_
          rw [← HE1.out]
          rintro e w2 ⟨yp, A6p, n6p, c6p, A7p, n7p, c7p, rfl, YMp, S6p, S7p, k6p, k7p, bp⟩
          clear Bs_0 Bs_1 Bs_2 Bs_3 Bm_0 Bm_1 Bm_2 Bm_3 Bq_0 Bq_1 Bq_2 Bq_3 Bq_4 Bq_5
          have HS := Lib.hid (HS.out.to bp)
          have HM := Lib.hid (HM.out.to bp)
          have Bs := Lib.hid (bp.row (row_lt Bs.out) Bs.out)
          have Bm := Lib.hid (bp.row (row_lt Bm.out) Bm.out)
          have Bq := Lib.hid (bp.row (row_lt Bq.out) Bq.out)
          have bw := bw.call bp
          have HYp := Lib.hid YMp
          have HBp := Lib.hid S6p
          have HWp := Lib.hid S7p
          clear YMp S6p S7p
          clear bp
          go_wp2_with (first
            | (refine wpList_store_grown rfl 28 (.tmp 12) _ rfl w2.heap.size #[.slice yp.a.A yp.a.n yp.a.c, .slice yp.b.A yp.b.n yp.b.c, .slice yp.c.A yp.c.n yp.c.c, .slice yp.d.A yp.d.n yp.d.c] rfl rfl 28 _ (row_alloc (heap_alloc_new w2 _) _) (by kernel_rfl) rfl (by simp [Value.oneCell']) ?_; intro Wpa hpa gpa spa)
            | (refine wpList_store_grown rfl 36 (.tmp 13) _ rfl (w2.heap.size + 1) #[.int .u8 (f1 : Nat), .int .u8 (0 : Nat), .slice A6p n6p c6p, .slice A7p n7p c7p, .int .u16 (a1 : Nat), .int .u16 (m1 : Nat)] rfl rfl 36 _ (gpa.row (by omega) (heap_alloc2_new w2 _ _)) (by kernel_rfl) rfl (by simp [Value.oneCell']) ?_; intro Wp hpb gpb spb; have Bmp := Lib.hid (gpb.row (k := w2.heap.size) (by omega) hpa); have Brp := Lib.hid hpb; have Cp := below_two gpa gpb spa; clear gpa gpb spa spb hpa hpb; have HS := Lib.hid (HS.out.to Cp); have HM := Lib.hid (HM.out.to Cp); have HYp := Lib.hid (HYp.out.to Cp); have HBp := Lib.hid (HBp.out.to Cp); have HWp := Lib.hid (HWp.out.to Cp); have Bs := Lib.hid (Cp.row (row_lt Bs.out) Bs.out); have Bm := Lib.hid (Cp.row (row_lt Bm.out) Bm.out); have Bq := Lib.hid (Cp.row (row_lt Bq.out) Bq.out); have bw := bw.call Cp; clear Cp; obtain ⟨Bs_0, Bs_1, Bs_2, Bs_3⟩ := row4 Bs.out; obtain ⟨Bmp_0, Bmp_1, Bmp_2, Bmp_3⟩ := row4 Bmp.out; obtain ⟨Bq_0, Bq_1, Bq_2, Bq_3, Bq_4, Bq_5⟩ := row6 Bq.out)
            | fail)
          have sp : yp.Small := small_of HYp.out hMl
          refine (modDo_any v yp s M3 q a n 0 none 0 0 none 0 0 [] [] _ HS.out HYp.out ho sv sp (Sl.empty _ _ _) (Sl.empty _ _ _) HWF.out (by decide) (by decide)).mono ?_
          rw [← HE1.out]
          rintro e w3 ⟨yo, A6o, n6o, c6o, A7o, n7o, c7o, rfl, YMo, S6o, S7o, k6o, k7o, bo⟩
          clear Bs_0 Bs_1 Bs_2 Bs_3 Bmp_0 Bmp_1 Bmp_2 Bmp_3 Bq_0 Bq_1 Bq_2 Bq_3 Bq_4 Bq_5
          have HS := Lib.hid (HS.out.to bo)
          have HM := Lib.hid (HM.out.to bo)
          have HYp := Lib.hid (HYp.out.to bo)
          have HBp := Lib.hid (HBp.out.to bo)
          have HWp := Lib.hid (HWp.out.to bo)
          have Bs := Lib.hid (bo.row (row_lt Bs.out) Bs.out)
          have Bm := Lib.hid (bo.row (row_lt Bm.out) Bm.out)
          have Bq := Lib.hid (bo.row (row_lt Bq.out) Bq.out)
          have Bmp := Lib.hid (bo.row (row_lt Bmp.out) Bmp.out)
          have Brp := Lib.hid (bo.row (row_lt Brp.out) Brp.out)
          have bw := bw.call bo
          have HYo := Lib.hid YMo
          have HBo := Lib.hid S6o
          have HWo := Lib.hid S7o
          clear YMo S6o S7o
          clear bo
          go_wp2_with (first
            | (refine wpList_store_grown rfl 28 (.tmp 14) _ rfl w3.heap.size #[.slice yo.a.A yo.a.n yo.a.c, .slice yo.b.A yo.b.n yo.b.c, .slice yo.c.A yo.c.n yo.c.c, .slice yo.d.A yo.d.n yo.d.c] rfl rfl 28 _ (row_alloc (heap_alloc_new w3 _) _) (by kernel_rfl) rfl (by simp [Value.oneCell']) ?_; intro Woa hoa goa soa)
            | (refine wpList_store_grown rfl 36 (.tmp 15) _ rfl (w3.heap.size + 1) #[.int .u8 (f1 : Nat), .int .u8 (0 : Nat), .slice A6o n6o c6o, .slice A7o n7o c7o, .int .u16 (a1 : Nat), .int .u16 (m1 : Nat)] rfl rfl 36 _ (goa.row (by omega) (heap_alloc2_new w3 _ _)) (by kernel_rfl) rfl (by simp [Value.oneCell']) ?_; intro Wo hob gob sob; have Bmo := Lib.hid (gob.row (k := w3.heap.size) (by omega) hoa); have Bro := Lib.hid hob; have Co := below_two goa gob soa; clear goa gob soa sob hoa hob; have HS := Lib.hid (HS.out.to Co); have HM := Lib.hid (HM.out.to Co); have HYp := Lib.hid (HYp.out.to Co); have HBp := Lib.hid (HBp.out.to Co); have HWp := Lib.hid (HWp.out.to Co); have HYo := Lib.hid (HYo.out.to Co); have HBo := Lib.hid (HBo.out.to Co); have HWo := Lib.hid (HWo.out.to Co); have Bs := Lib.hid (Co.row (row_lt Bs.out) Bs.out); have Bm := Lib.hid (Co.row (row_lt Bm.out) Bm.out); have Bq := Lib.hid (Co.row (row_lt Bq.out) Bq.out); have Bmp := Lib.hid (Co.row (row_lt Bmp.out) Bmp.out); have Brp := Lib.hid (Co.row (row_lt Brp.out) Brp.out); have bw := bw.call Co; clear Co; obtain ⟨Bmp_0, Bmp_1, Bmp_2, Bmp_3⟩ := row4 Bmp.out; obtain ⟨Bm_0, Bm_1, Bm_2, Bm_3⟩ := row4 Bm.out)
            | fail)
          have so : yo.Small := small_of HYo.out hMl
          refine (lawSame7_any yp u M3 M3 _ HYp.out HM.out sp su).mono ?_
          rw [sameM_self]
          rintro e w4 ⟨rfl, b4⟩
          clear Bmp_0 Bmp_1 Bmp_2 Bmp_3 Bm_0 Bm_1 Bm_2 Bm_3
          have HS := Lib.hid (HS.out.to b4)
          have HM := Lib.hid (HM.out.to b4)
          have HYp := Lib.hid (HYp.out.to b4)
          have HBp := Lib.hid (HBp.out.to b4)
          have HWp := Lib.hid (HWp.out.to b4)
          have HYo := Lib.hid (HYo.out.to b4)
          have HBo := Lib.hid (HBo.out.to b4)
          have HWo := Lib.hid (HWo.out.to b4)
          have Bs := Lib.hid (b4.row (row_lt Bs.out) Bs.out)
          have Bm := Lib.hid (b4.row (row_lt Bm.out) Bm.out)
          have Bq := Lib.hid (b4.row (row_lt Bq.out) Bq.out)
          have Bmp := Lib.hid (b4.row (row_lt Bmp.out) Bmp.out)
          have Brp := Lib.hid (b4.row (row_lt Brp.out) Brp.out)
          have Bmo := Lib.hid (b4.row (row_lt Bmo.out) Bmo.out)
          have Bro := Lib.hid (b4.row (row_lt Bro.out) Bro.out)
          have bw := bw.call b4
          clear b4
          obtain ⟨Bmo_0, Bmo_1, Bmo_2, Bmo_3⟩ := row4 Bmo.out
          obtain ⟨Bm_0, Bm_1, Bm_2, Bm_3⟩ := row4 Bm.out
          go_wp2_with fail
          refine (lawSame7_any yo u M3 M3 _ HYo.out HM.out so su).mono ?_
          rw [sameM_self]
          rintro e w5 ⟨rfl, b5⟩
          clear Bmo_0 Bmo_1 Bmo_2 Bmo_3 Bm_0 Bm_1 Bm_2 Bm_3
          have HS := Lib.hid (HS.out.to b5)
          have HM := Lib.hid (HM.out.to b5)
          have HYp := Lib.hid (HYp.out.to b5)
          have HBp := Lib.hid (HBp.out.to b5)
          have HWp := Lib.hid (HWp.out.to b5)
          have HYo := Lib.hid (HYo.out.to b5)
          have HBo := Lib.hid (HBo.out.to b5)
          have HWo := Lib.hid (HWo.out.to b5)
          have Bs := Lib.hid (b5.row (row_lt Bs.out) Bs.out)
          have Bm := Lib.hid (b5.row (row_lt Bm.out) Bm.out)
          have Bq := Lib.hid (b5.row (row_lt Bq.out) Bq.out)
          have Bmp := Lib.hid (b5.row (row_lt Bmp.out) Bmp.out)
          have Brp := Lib.hid (b5.row (row_lt Brp.out) Brp.out)
          have Bmo := Lib.hid (b5.row (row_lt Bmo.out) Bmo.out)
          have Bro := Lib.hid (b5.row (row_lt Bro.out) Bro.out)
          have bw := bw.call b5
          clear b5
          obtain ⟨Brp_0, Brp_1, Brp_2, Brp_3, Brp_4, Brp_5⟩ := row6 Brp.out
          obtain ⟨Bro_0, Bro_1, Bro_2, Bro_3, Bro_4, Bro_5⟩ := row6 Bro.out
          go_wp2_with fail
          have j0 : n7p ≤ 1000000 := by have h := HWp.out.len; rw [ws_length] at h; omega
          have j1 : n6p ≤ 1000000 := by have h := HBp.out.len; rw [bl_length] at h; omega
          have j2 : n7o ≤ 1000000 := by have h := HWo.out.len; rw [ws_length] at h; omega
          have j3 : n6o ≤ 1000000 := by have h := HBo.out.len; rw [bl_length] at h; omega
          have KS := repSame_any f1 0 A6p n6p c6p A7p n7p c7p a1 m1 f1 0 A6o n6o c6o A7o n7o c7o a1 m1 B1 B1 W1 W1 _ HWp.out HBp.out HWo.out HBo.out j0 j1 j2 j3
          rw [rep_same_true rfl] at KS
          clear j0 j1 j2 j3
          refine (KS).mono ?_
          rintro e w6 ⟨rfl, b6⟩
          clear Brp_0 Brp_1 Brp_2 Brp_3 Brp_4 Brp_5 Bro_0 Bro_1 Bro_2 Bro_3 Bro_4 Bro_5
          have HS := Lib.hid (HS.out.to b6)
          have HM := Lib.hid (HM.out.to b6)
          have HYp := Lib.hid (HYp.out.to b6)
          have HBp := Lib.hid (HBp.out.to b6)
          have HWp := Lib.hid (HWp.out.to b6)
          have HYo := Lib.hid (HYo.out.to b6)
          have HBo := Lib.hid (HBo.out.to b6)
          have HWo := Lib.hid (HWo.out.to b6)
          have Bs := Lib.hid (b6.row (row_lt Bs.out) Bs.out)
          have Bm := Lib.hid (b6.row (row_lt Bm.out) Bm.out)
          have Bq := Lib.hid (b6.row (row_lt Bq.out) Bq.out)
          have Bmp := Lib.hid (b6.row (row_lt Bmp.out) Bmp.out)
          have Brp := Lib.hid (b6.row (row_lt Brp.out) Brp.out)
          have Bmo := Lib.hid (b6.row (row_lt Bmo.out) Bmo.out)
          have Bro := Lib.hid (b6.row (row_lt Bro.out) Bro.out)
          have bw := bw.call b6
          clear b6
          clear KS
          obtain ⟨Brp_0, Brp_1, Brp_2, Brp_3, Brp_4, Brp_5⟩ := row6 Brp.out
          obtain ⟨Bs_0, Bs_1, Bs_2, Bs_3⟩ := row4 Bs.out
          obtain ⟨Bm_0, Bm_1, Bm_2, Bm_3⟩ := row4 Bm.out
          obtain ⟨Bq_0, Bq_1, Bq_2, Bq_3, Bq_4, Bq_5⟩ := row6 Bq.out
          go_wp2_with fail
          rw [HZ.out]
          refine (modDo_any v u s M3 q a z 0 none 0 0 none 0 0 [] [] _ HS.out HM.out ho sv su (Sl.empty _ _ _) (Sl.empty _ _ _) (qwf (by have := HQ4.out; omega) (by omega) (by omega)) (by decide) (by decide)).mono ?_
          rw [← HE3.out]
          rintro e w7 ⟨yx, A6x, n6x, c6x, A7x, n7x, c7x, rfl, YMx, S6x, S7x, k6x, k7x, bx⟩
          clear Brp_0 Brp_1 Brp_2 Brp_3 Brp_4 Brp_5 Bs_0 Bs_1 Bs_2 Bs_3 Bm_0 Bm_1 Bm_2 Bm_3 Bq_0 Bq_1 Bq_2 Bq_3 Bq_4 Bq_5
          have HS := Lib.hid (HS.out.to bx)
          have HM := Lib.hid (HM.out.to bx)
          have HYp := Lib.hid (HYp.out.to bx)
          have HBp := Lib.hid (HBp.out.to bx)
          have HWp := Lib.hid (HWp.out.to bx)
          have HYo := Lib.hid (HYo.out.to bx)
          have HBo := Lib.hid (HBo.out.to bx)
          have HWo := Lib.hid (HWo.out.to bx)
          have Bs := Lib.hid (bx.row (row_lt Bs.out) Bs.out)
          have Bm := Lib.hid (bx.row (row_lt Bm.out) Bm.out)
          have Bq := Lib.hid (bx.row (row_lt Bq.out) Bq.out)
          have Bmp := Lib.hid (bx.row (row_lt Bmp.out) Bmp.out)
          have Brp := Lib.hid (bx.row (row_lt Brp.out) Brp.out)
          have Bmo := Lib.hid (bx.row (row_lt Bmo.out) Bmo.out)
          have Bro := Lib.hid (bx.row (row_lt Bro.out) Bro.out)
          have bw := bw.call bx
          have HYx := Lib.hid YMx
          have HBx := Lib.hid S6x
          have HWx := Lib.hid S7x
          clear YMx S6x S7x
          clear bx
          go_wp2_with (first
            | (refine wpList_store_grown rfl 28 (.tmp 17) _ rfl w7.heap.size #[.slice yx.a.A yx.a.n yx.a.c, .slice yx.b.A yx.b.n yx.b.c, .slice yx.c.A yx.c.n yx.c.c, .slice yx.d.A yx.d.n yx.d.c] rfl rfl 28 _ (row_alloc (heap_alloc_new w7 _) _) (by kernel_rfl) rfl (by simp [Value.oneCell']) ?_; intro Wxa hxa gxa sxa)
            | (refine wpList_store_grown rfl 36 (.tmp 18) _ rfl (w7.heap.size + 1) #[.int .u8 (f3 : Nat), .int .u8 0, .slice A6x n6x c6x, .slice A7x n7x c7x, .int .u16 (a3 : Nat), .int .u16 (m3 : Nat)] rfl rfl 36 _ (gxa.row (by omega) (heap_alloc2_new w7 _ _)) (by kernel_rfl) rfl (by simp [Value.oneCell']) ?_; intro Wx hxb gxb sxb; have Bmx := Lib.hid (gxb.row (k := w7.heap.size) (by omega) hxa); have Brx := Lib.hid hxb; have Cx := below_two gxa gxb sxa; clear gxa gxb sxa sxb hxa hxb; have HS := Lib.hid (HS.out.to Cx); have HM := Lib.hid (HM.out.to Cx); have HYp := Lib.hid (HYp.out.to Cx); have HBp := Lib.hid (HBp.out.to Cx); have HWp := Lib.hid (HWp.out.to Cx); have HYo := Lib.hid (HYo.out.to Cx); have HBo := Lib.hid (HBo.out.to Cx); have HWo := Lib.hid (HWo.out.to Cx); have HYx := Lib.hid (HYx.out.to Cx); have HBx := Lib.hid (HBx.out.to Cx); have HWx := Lib.hid (HWx.out.to Cx); have Bs := Lib.hid (Cx.row (row_lt Bs.out) Bs.out); have Bm := Lib.hid (Cx.row (row_lt Bm.out) Bm.out); have Bq := Lib.hid (Cx.row (row_lt Bq.out) Bq.out); have Bmp := Lib.hid (Cx.row (row_lt Bmp.out) Bmp.out); have Brp := Lib.hid (Cx.row (row_lt Brp.out) Brp.out); have Bmo := Lib.hid (Cx.row (row_lt Bmo.out) Bmo.out); have Bro := Lib.hid (Cx.row (row_lt Bro.out) Bro.out); have bw := bw.call Cx; clear Cx; obtain ⟨Bs_0, Bs_1, Bs_2, Bs_3⟩ := row4 Bs.out; obtain ⟨Bm_0, Bm_1, Bm_2, Bm_3⟩ := row4 Bm.out; obtain ⟨Bq_0, Bq_1, Bq_2, Bq_3, Bq_4, Bq_5⟩ := row6 Bq.out)
            | fail)
          rw [HAZ.out, HNZ.out]
          refine (modDo_any v u s M3 q (a + z) (n - z) 0 none 0 0 none 0 0 [] [] _ HS.out HM.out ho sv su (Sl.empty _ _ _) (Sl.empty _ _ _) (qwf (by have := HQ4.out; omega) (by omega) (by omega)) (by decide) (by decide)).mono ?_
          rw [← HE4.out]
          rintro e w8 ⟨yt, A6t, n6t, c6t, A7t, n7t, c7t, rfl, YMt, S6t, S7t, k6t, k7t, bt⟩
          clear Bs_0 Bs_1 Bs_2 Bs_3 Bm_0 Bm_1 Bm_2 Bm_3 Bq_0 Bq_1 Bq_2 Bq_3 Bq_4 Bq_5
          have HS := Lib.hid (HS.out.to bt)
          have HM := Lib.hid (HM.out.to bt)
          have HYp := Lib.hid (HYp.out.to bt)
          have HBp := Lib.hid (HBp.out.to bt)
          have HWp := Lib.hid (HWp.out.to bt)
          have HYo := Lib.hid (HYo.out.to bt)
          have HBo := Lib.hid (HBo.out.to bt)
          have HWo := Lib.hid (HWo.out.to bt)
          have HYx := Lib.hid (HYx.out.to bt)
          have HBx := Lib.hid (HBx.out.to bt)
          have HWx := Lib.hid (HWx.out.to bt)
          have Bs := Lib.hid (bt.row (row_lt Bs.out) Bs.out)
          have Bm := Lib.hid (bt.row (row_lt Bm.out) Bm.out)
          have Bq := Lib.hid (bt.row (row_lt Bq.out) Bq.out)
          have Bmp := Lib.hid (bt.row (row_lt Bmp.out) Bmp.out)
          have Brp := Lib.hid (bt.row (row_lt Brp.out) Brp.out)
          have Bmo := Lib.hid (bt.row (row_lt Bmo.out) Bmo.out)
          have Bro := Lib.hid (bt.row (row_lt Bro.out) Bro.out)
          have Bmx := Lib.hid (bt.row (row_lt Bmx.out) Bmx.out)
          have Brx := Lib.hid (bt.row (row_lt Brx.out) Brx.out)
          have bw := bw.call bt
          have HYt := Lib.hid YMt
          have HBt := Lib.hid S6t
          have HWt := Lib.hid S7t
          clear YMt S6t S7t
          clear bt
          go_wp2_with (first
            | (refine wpList_store_grown rfl 28 (.tmp 19) _ rfl w8.heap.size #[.slice yt.a.A yt.a.n yt.a.c, .slice yt.b.A yt.b.n yt.b.c, .slice yt.c.A yt.c.n yt.c.c, .slice yt.d.A yt.d.n yt.d.c] rfl rfl 28 _ (row_alloc (heap_alloc_new w8 _) _) (by kernel_rfl) rfl (by simp [Value.oneCell']) ?_; intro Wta hta gta sta)
            | (refine wpList_store_grown rfl 36 (.tmp 20) _ rfl (w8.heap.size + 1) #[.int .u8 (f4 : Nat), .int .u8 0, .slice A6t n6t c6t, .slice A7t n7t c7t, .int .u16 (a4 : Nat), .int .u16 (m4 : Nat)] rfl rfl 36 _ (gta.row (by omega) (heap_alloc2_new w8 _ _)) (by kernel_rfl) rfl (by simp [Value.oneCell']) ?_; intro Wt htb gtb stb; have Bmt := Lib.hid (gtb.row (k := w8.heap.size) (by omega) hta); have Brt := Lib.hid htb; have Ct := below_two gta gtb sta; clear gta gtb sta stb hta htb; have HS := Lib.hid (HS.out.to Ct); have HM := Lib.hid (HM.out.to Ct); have HYp := Lib.hid (HYp.out.to Ct); have HBp := Lib.hid (HBp.out.to Ct); have HWp := Lib.hid (HWp.out.to Ct); have HYo := Lib.hid (HYo.out.to Ct); have HBo := Lib.hid (HBo.out.to Ct); have HWo := Lib.hid (HWo.out.to Ct); have HYx := Lib.hid (HYx.out.to Ct); have HBx := Lib.hid (HBx.out.to Ct); have HWx := Lib.hid (HWx.out.to Ct); have HYt := Lib.hid (HYt.out.to Ct); have HBt := Lib.hid (HBt.out.to Ct); have HWt := Lib.hid (HWt.out.to Ct); have Bs := Lib.hid (Ct.row (row_lt Bs.out) Bs.out); have Bm := Lib.hid (Ct.row (row_lt Bm.out) Bm.out); have Bq := Lib.hid (Ct.row (row_lt Bq.out) Bq.out); have Bmp := Lib.hid (Ct.row (row_lt Bmp.out) Bmp.out); have Brp := Lib.hid (Ct.row (row_lt Brp.out) Brp.out); have Bmo := Lib.hid (Ct.row (row_lt Bmo.out) Bmo.out); have Bro := Lib.hid (Ct.row (row_lt Bro.out) Bro.out); have Bmx := Lib.hid (Ct.row (row_lt Bmx.out) Bmx.out); have Brx := Lib.hid (Ct.row (row_lt Brx.out) Brx.out); have bw := bw.call Ct; clear Ct; obtain ⟨Brx_0, Brx_1, Brx_2, Brx_3, Brx_4, Brx_5⟩ := row6 Brx.out; obtain ⟨Brt_0, Brt_1, Brt_2, Brt_3, Brt_4, Brt_5⟩ := row6 Brt.out; obtain ⟨Brp_0, Brp_1, Brp_2, Brp_3, Brp_4, Brp_5⟩ := row6 Brp.out; obtain ⟨Bq_0, Bq_1, Bq_2, Bq_3, Bq_4, Bq_5⟩ := row6 Bq.out)
            | fail)
          clear Brx_0 Brx_1 Brx_2 Brx_3 Brx_4 Brx_5 Brt_0 Brt_1 Brt_2 Brt_3 Brt_4 Brt_5 Brp_0 Brp_1 Brp_2 Brp_3 Brp_4 Brp_5 Bq_0 Bq_1 Bq_2 Bq_3 Bq_4 Bq_5
          have HKP := Lib.hid (fun (w' : World) (b : Below Wt.heap.size Wt w') => (⟨b, (row6 (b.row (row_lt Brx.out) Brx.out)).2.2.2.1, (row6 (b.row (row_lt Brt.out) Brt.out)).2.2.2.1, (row6 (b.row (row_lt Brp.out) Brp.out)).2.2.2.1⟩ : Below Wt.heap.size Wt w' ∧ w'.cell? ⟨w7.heap.size + 1, 3, none⟩ = some (.slice A7x n7x c7x) ∧ w'.cell? ⟨w8.heap.size + 1, 3, none⟩ = some (.slice A7t n7t c7t) ∧ w'.cell? ⟨w2.heap.size + 1, 3, none⟩ = some (.slice A7p n7p c7p)))
          have hW2 := HWW.out hq2
          have HW2 := Lib.hid hW2
          clear hW2
          have j0 : n7x ≤ 1000 := by have h := HWx.out.len; rw [ws_length] at h; omega
          have j1 : n7t ≤ 1000 := by have h := HWt.out.len; rw [ws_length] at h; omega
          have j2 : n7p ≤ 1000 := by have h := HWp.out.len; rw [ws_length] at h; omega
          clear hpr hpr3 hpr4
          have hbd := (Below.refl Wt.heap.size Wt).drew
          refine wp_region_held_drew (S := (fun w' => w'.cell? ⟨w7.heap.size + 1, 3, none⟩ = some (.slice A7x n7x c7x) ∧ w'.cell? ⟨w8.heap.size + 1, 3, none⟩ = some (.slice A7t n7t c7t) ∧ w'.cell? ⟨w2.heap.size + 1, 3, none⟩ = some (.slice A7p n7p c7p))) (by kernel_rfl) ((HKP.out _ hbd).2) (fun hHeld => ?_)
          refine wpAnyH_take (i := 1) (v := ?_) (by simp only [List.getElem?_toArray, List.getElem?_cons_succ, List.getElem?_cons_zero]; rfl) (by kernel_rfl) (by kernel_rfl) (by kernel_rfl) (by exact fun _ _ _ h => h) (Or.inl ⟨by kernel_rfl, ?_⟩) (by assumption) ?_
          rotate_left
          · intro w hSw
            (try dsimp only at hSw)
            go_simp
            try with_reducible rfl
          simp only [Act.put, List.setIfInBounds_toArray, List.set_cons_zero, List.set_cons_succ]
          refine wpAnyH_take (i := 2) (v := ?_) (by simp only [List.getElem?_toArray, List.getElem?_cons_succ, List.getElem?_cons_zero]; rfl) (by kernel_rfl) (by kernel_rfl) (by kernel_rfl) (by exact fun _ _ _ h => h) (Or.inl ⟨by kernel_rfl, ?_⟩) (by assumption) ?_
          rotate_left
          · intro w hSw
            (try dsimp only at hSw)
            go_simp
            try with_reducible rfl
          simp only [Act.put, List.setIfInBounds_toArray, List.set_cons_zero, List.set_cons_succ]
          refine wpAnyH_take (i := 4) (v := ?_) (by simp only [List.getElem?_toArray, List.getElem?_cons_succ, List.getElem?_cons_zero]; rfl) (by kernel_rfl) (by kernel_rfl) (by kernel_rfl) (by exact fun _ _ _ h => h) (Or.inl ⟨by kernel_rfl, ?_⟩) (by assumption) ?_
          rotate_left
          · intro w hSw
            (try dsimp only at hSw)
            go_simp
            try with_reducible rfl
          simp only [Act.put, List.setIfInBounds_toArray, List.set_cons_zero, List.set_cons_succ]
          refine wpAnyH_take (i := 5) (v := ?_) (by simp only [List.getElem?_toArray, List.getElem?_cons_succ, List.getElem?_cons_zero]; rfl) (by kernel_rfl) (by kernel_rfl) (by kernel_rfl) (by exact fun _ _ _ h => h) (Or.inl ⟨by kernel_rfl, ?_⟩) (by assumption) ?_
          rotate_left
          · intro w hSw
            (try dsimp only at hSw)
            go_simp
            try with_reducible rfl
          simp only [Act.put, List.setIfInBounds_toArray, List.set_cons_zero, List.set_cons_succ]
          refine wpAnyH_take (i := 7) (v := ?_) (by simp only [List.getElem?_toArray, List.getElem?_cons_succ, List.getElem?_cons_zero]; rfl) (by kernel_rfl) (by kernel_rfl) (by kernel_rfl) (by exact fun _ _ _ h => h) (Or.inl ⟨by kernel_rfl, ?_⟩) (by assumption) ?_
          rotate_left
          · intro w hSw
            (try dsimp only at hSw)
            go_simp
            try with_reducible rfl
          simp only [Act.put, List.setIfInBounds_toArray, List.set_cons_zero, List.set_cons_succ]
          refine wpAnyH_take (i := 8) (v := ?_) (by simp only [List.getElem?_toArray, List.getElem?_cons_succ, List.getElem?_cons_zero]; rfl) (by kernel_rfl) (by kernel_rfl) (by kernel_rfl) (by exact fun _ _ _ h => h) (Or.inl ⟨by kernel_rfl, ?_⟩) (by assumption) ?_
          rotate_left
          · intro w hSw
            (try dsimp only at hSw)
            go_simp
            try with_reducible rfl
          simp only [Act.put, List.setIfInBounds_toArray, List.set_cons_zero, List.set_cons_succ]
          refine wpAnyH_ready (rs := [0]) (by kernel_rfl) (by simp) ?_
          refine AllReadyH.cons (by simp only [List.getElem?_toArray, List.getElem?_cons_succ, List.getElem?_cons_zero]; rfl) (fun K hK => ?_) AllReadyH.nil
          rw [if_pos (by kernel_rfl)]
          go_simp
          have hbd := hbd.new (.cells #[] 29)
          refine hK.out _ _ ?_ (fun hHeld => ?_)
          · exact (HKP.out _ hbd).2
          clear hK K
          try simp only [Act.put, List.setIfInBounds_toArray, List.set_cons_zero, List.set_cons_succ]
          refine wpAnyH_ready (rs := [3]) (by kernel_rfl) (by simp) ?_
          refine AllReadyH.cons (by simp only [List.getElem?_toArray, List.getElem?_cons_succ, List.getElem?_cons_zero]; rfl) (fun K hK => ?_) AllReadyH.nil
          refine step_app ew rfl (.tmp 109) (.tmp 111) rfl (Has.made0 (w0 := Wt) (Below.refl _ _).drew _) rfl (HWx.out.to (((Below.refl _ _).drew).new _)) rfl (ws_one _) (by omega) (by simp only [maxLen]; omega) ?_
          intro v4 w4 H4 _ _
          have hbd := H4.bel
          refine hK.out _ _ ?_ (fun hHeld => ?_)
          · exact (HKP.out _ hbd).2
          clear hK K
          try simp only [Act.put, List.setIfInBounds_toArray, List.set_cons_zero, List.set_cons_succ]
          refine wpAnyH_ready (rs := [6]) (by kernel_rfl) (by simp) ?_
          refine AllReadyH.cons (by simp only [List.getElem?_toArray, List.getElem?_cons_succ, List.getElem?_cons_zero]; rfl) (fun K hK => ?_) AllReadyH.nil
          refine step_app ew rfl (.tmp 112) (.tmp 114) rfl H4 rfl (HWt.out.to H4.bel) rfl (ws_one _) (by omega) (by simp only [maxLen]; omega) ?_
          intro v5 w5 H5 _ _
          have hbd := H5.bel
          obtain ⟨A5, c5, rfl, -, S5, -⟩ := H5.slice
          rw [List.nil_append, ws_append, Nat.zero_add] at S5
          have S5 := Lib.hid S5
          refine hK.out _ _ ?_ (fun hHeld => ?_)
          · exact (HKP.out _ hbd).2
          clear hK K
          try simp only [Act.put, List.setIfInBounds_toArray, List.set_cons_zero, List.set_cons_succ]
          refine wpAnyH_ready (rs := [9]) (by kernel_rfl) (by simp) ?_
          refine AllReadyH.cons (by simp only [List.getElem?_toArray, List.getElem?_cons_succ, List.getElem?_cons_zero]; rfl) (fun K hK => ?_) AllReadyH.nil
          rw [if_pos (by kernel_rfl)]
          go_simp
          go_at_call 17
          refine (lowWords_any A5 A7p _ c5 n7p c7p (WX ++ WY) W1 _ S5.out (HWp.out.to hbd) (by omega) (by omega)).mono ?_
          rw [HW2.out, beq_self_eq_true]
          rintro e ws ⟨rfl, bs⟩
          have hbd := hbd.call bs
          go_wp2_with fail
          refine hK.out _ _ ?_ (fun hHeld => ?_)
          · exact (HKP.out _ hbd).2
          clear hK K
          try simp only [Act.put, List.setIfInBounds_toArray, List.set_cons_zero, List.set_cons_succ]
          refine wpAnyH_take (i := 10) (v := ?_) (by simp only [List.getElem?_toArray, List.getElem?_cons_succ, List.getElem?_cons_zero]; rfl) (by kernel_rfl) (by kernel_rfl) (by kernel_rfl) (by exact fun _ _ _ h => h) (Or.inl ⟨by kernel_rfl, ?_⟩) (by assumption) ?_
          rotate_left
          · intro w hSw
            (try dsimp only at hSw)
            go_simp
            try with_reducible rfl
          simp only [Act.put, List.setIfInBounds_toArray, List.set_cons_zero, List.set_cons_succ]
          refine wpAnyH_ready (rs := [11]) (by kernel_rfl) (by simp) ?_
          refine AllReadyH.cons (by simp only [List.getElem?_toArray, List.getElem?_cons_succ, List.getElem?_cons_zero]; rfl) (fun K hK => ?_) AllReadyH.nil
          rw [if_pos (by kernel_rfl)]
          go_simp
          go_at_call 10
          refine (awake7_any _).mono ?_
          rintro e wa ⟨rfl, ba⟩
          have hbd := hbd.call ba
          go_wp2_with fail
          refine hK.out _ _ ?_ (fun hHeld => ?_)
          · exact (HKP.out _ hbd).2
          clear hK K
          try simp only [Act.put, List.setIfInBounds_toArray, List.set_cons_zero, List.set_cons_succ]
          refine wpAnyH_take (i := 12) (v := ?_) (by simp only [List.getElem?_toArray, List.getElem?_cons_succ, List.getElem?_cons_zero]; rfl) (by kernel_rfl) (by kernel_rfl) (by kernel_rfl) (by exact fun _ _ _ h => h) (Or.inl ⟨by kernel_rfl, ?_⟩) (by assumption) ?_
          rotate_left
          · intro w hSw
            (try dsimp only at hSw)
            go_simp
            try with_reducible rfl
          simp only [Act.put, List.setIfInBounds_toArray, List.set_cons_zero, List.set_cons_succ]
          refine wpAnyH_take (i := 13) (v := ?_) (by simp only [List.getElem?_toArray, List.getElem?_cons_succ, List.getElem?_cons_zero]; rfl) (by kernel_rfl) (by kernel_rfl) (by kernel_rfl) (by exact fun _ _ _ h => h) (Or.inl ⟨by kernel_rfl, ?_⟩) (by assumption) ?_
          rotate_left
          · intro w hSw
            (try dsimp only at hSw)
            go_simp
            try with_reducible rfl
          simp only [Act.put, List.setIfInBounds_toArray, List.set_cons_zero, List.set_cons_succ]
          refine wpAnyH_done (by kernel_rfl) ?_ _
          go_wp2_with fail
          go_ret
          exact ⟨rfl, bw.call hbd⟩
        case neg =>
          have P2 : decide ((2 : Int) < (q : Int)) = false := decide_eq_false (by omega)
          go_enter Try.func4, Try.ntmps4
          go_wp2_with fail
          rw [HQ.out]
          refine (light_any v u _ hv).mono ?_
          rintro e w1 ⟨rfl, b1⟩
          obtain ⟨X1, X2, X3, bw⟩ := three_boxes b1
          have HS := Lib.hid (hS.to bw)
          have HM := Lib.hid (hM.to bw)
          have Bs := Lib.hid X1
          have Bm := Lib.hid X2
          have Bq := Lib.hid X3
          clear b1 X1 X2 X3 hS hM
          rw [hL]
          obtain ⟨Bs_0, Bs_1, Bs_2, Bs_3⟩ := row4 Bs.out
          obtain ⟨Bm_0, Bm_1, Bm_2, Bm_3⟩ := row4 Bm.out
          obtain ⟨Bq_0, Bq_1, Bq_2, Bq_3, Bq_4, Bq_5⟩ := row6 Bq.out
          go_wp2_with fail
          refine (modDo_any v u s M3 q a n 0 none 0 0 none 0 0 [] [] _ HS.out HM.out ho sv su (Sl.empty _ _ _) (Sl.empty _ _ _) HWF.out (by decide) (by decide)).mono ?_
          rw [← HE1.out]
          rintro e w2 ⟨yp, A6p, n6p, c6p, A7p, n7p, c7p, rfl, YMp, S6p, S7p, k6p, k7p, bp⟩
          clear Bs_0 Bs_1 Bs_2 Bs_3 Bm_0 Bm_1 Bm_2 Bm_3 Bq_0 Bq_1 Bq_2 Bq_3 Bq_4 Bq_5
          have HS := Lib.hid (HS.out.to bp)
          have HM := Lib.hid (HM.out.to bp)
          have Bs := Lib.hid (bp.row (row_lt Bs.out) Bs.out)
          have Bm := Lib.hid (bp.row (row_lt Bm.out) Bm.out)
          have Bq := Lib.hid (bp.row (row_lt Bq.out) Bq.out)
          have bw := bw.call bp
          have HYp := Lib.hid YMp
          have HBp := Lib.hid S6p
          have HWp := Lib.hid S7p
          clear YMp S6p S7p
          clear bp
          go_wp2_with (first
            | (refine wpList_store_grown rfl 28 (.tmp 12) _ rfl w2.heap.size #[.slice yp.a.A yp.a.n yp.a.c, .slice yp.b.A yp.b.n yp.b.c, .slice yp.c.A yp.c.n yp.c.c, .slice yp.d.A yp.d.n yp.d.c] rfl rfl 28 _ (row_alloc (heap_alloc_new w2 _) _) (by kernel_rfl) rfl (by simp [Value.oneCell']) ?_; intro Wpa hpa gpa spa)
            | (refine wpList_store_grown rfl 36 (.tmp 13) _ rfl (w2.heap.size + 1) #[.int .u8 (f1 : Nat), .int .u8 (0 : Nat), .slice A6p n6p c6p, .slice A7p n7p c7p, .int .u16 (a1 : Nat), .int .u16 (m1 : Nat)] rfl rfl 36 _ (gpa.row (by omega) (heap_alloc2_new w2 _ _)) (by kernel_rfl) rfl (by simp [Value.oneCell']) ?_; intro Wp hpb gpb spb; have Bmp := Lib.hid (gpb.row (k := w2.heap.size) (by omega) hpa); have Brp := Lib.hid hpb; have Cp := below_two gpa gpb spa; clear gpa gpb spa spb hpa hpb; have HS := Lib.hid (HS.out.to Cp); have HM := Lib.hid (HM.out.to Cp); have HYp := Lib.hid (HYp.out.to Cp); have HBp := Lib.hid (HBp.out.to Cp); have HWp := Lib.hid (HWp.out.to Cp); have Bs := Lib.hid (Cp.row (row_lt Bs.out) Bs.out); have Bm := Lib.hid (Cp.row (row_lt Bm.out) Bm.out); have Bq := Lib.hid (Cp.row (row_lt Bq.out) Bq.out); have bw := bw.call Cp; clear Cp; obtain ⟨Bs_0, Bs_1, Bs_2, Bs_3⟩ := row4 Bs.out; obtain ⟨Bmp_0, Bmp_1, Bmp_2, Bmp_3⟩ := row4 Bmp.out; obtain ⟨Bq_0, Bq_1, Bq_2, Bq_3, Bq_4, Bq_5⟩ := row6 Bq.out)
            | fail)
          have sp : yp.Small := small_of HYp.out hMl
          refine (modDo_any v yp s M3 q a n 0 none 0 0 none 0 0 [] [] _ HS.out HYp.out ho sv sp (Sl.empty _ _ _) (Sl.empty _ _ _) HWF.out (by decide) (by decide)).mono ?_
          rw [← HE1.out]
          rintro e w3 ⟨yo, A6o, n6o, c6o, A7o, n7o, c7o, rfl, YMo, S6o, S7o, k6o, k7o, bo⟩
          clear Bs_0 Bs_1 Bs_2 Bs_3 Bmp_0 Bmp_1 Bmp_2 Bmp_3 Bq_0 Bq_1 Bq_2 Bq_3 Bq_4 Bq_5
          have HS := Lib.hid (HS.out.to bo)
          have HM := Lib.hid (HM.out.to bo)
          have HYp := Lib.hid (HYp.out.to bo)
          have HBp := Lib.hid (HBp.out.to bo)
          have HWp := Lib.hid (HWp.out.to bo)
          have Bs := Lib.hid (bo.row (row_lt Bs.out) Bs.out)
          have Bm := Lib.hid (bo.row (row_lt Bm.out) Bm.out)
          have Bq := Lib.hid (bo.row (row_lt Bq.out) Bq.out)
          have Bmp := Lib.hid (bo.row (row_lt Bmp.out) Bmp.out)
          have Brp := Lib.hid (bo.row (row_lt Brp.out) Brp.out)
          have bw := bw.call bo
          have HYo := Lib.hid YMo
          have HBo := Lib.hid S6o
          have HWo := Lib.hid S7o
          clear YMo S6o S7o
          clear bo
          go_wp2_with (first
            | (refine wpList_store_grown rfl 28 (.tmp 14) _ rfl w3.heap.size #[.slice yo.a.A yo.a.n yo.a.c, .slice yo.b.A yo.b.n yo.b.c, .slice yo.c.A yo.c.n yo.c.c, .slice yo.d.A yo.d.n yo.d.c] rfl rfl 28 _ (row_alloc (heap_alloc_new w3 _) _) (by kernel_rfl) rfl (by simp [Value.oneCell']) ?_; intro Woa hoa goa soa)
            | (refine wpList_store_grown rfl 36 (.tmp 15) _ rfl (w3.heap.size + 1) #[.int .u8 (f1 : Nat), .int .u8 (0 : Nat), .slice A6o n6o c6o, .slice A7o n7o c7o, .int .u16 (a1 : Nat), .int .u16 (m1 : Nat)] rfl rfl 36 _ (goa.row (by omega) (heap_alloc2_new w3 _ _)) (by kernel_rfl) rfl (by simp [Value.oneCell']) ?_; intro Wo hob gob sob; have Bmo := Lib.hid (gob.row (k := w3.heap.size) (by omega) hoa); have Bro := Lib.hid hob; have Co := below_two goa gob soa; clear goa gob soa sob hoa hob; have HS := Lib.hid (HS.out.to Co); have HM := Lib.hid (HM.out.to Co); have HYp := Lib.hid (HYp.out.to Co); have HBp := Lib.hid (HBp.out.to Co); have HWp := Lib.hid (HWp.out.to Co); have HYo := Lib.hid (HYo.out.to Co); have HBo := Lib.hid (HBo.out.to Co); have HWo := Lib.hid (HWo.out.to Co); have Bs := Lib.hid (Co.row (row_lt Bs.out) Bs.out); have Bm := Lib.hid (Co.row (row_lt Bm.out) Bm.out); have Bq := Lib.hid (Co.row (row_lt Bq.out) Bq.out); have Bmp := Lib.hid (Co.row (row_lt Bmp.out) Bmp.out); have Brp := Lib.hid (Co.row (row_lt Brp.out) Brp.out); have bw := bw.call Co; clear Co; obtain ⟨Bmp_0, Bmp_1, Bmp_2, Bmp_3⟩ := row4 Bmp.out; obtain ⟨Bm_0, Bm_1, Bm_2, Bm_3⟩ := row4 Bm.out)
            | fail)
          have so : yo.Small := small_of HYo.out hMl
          refine (lawSame7_any yp u M3 M3 _ HYp.out HM.out sp su).mono ?_
          rw [sameM_self]
          rintro e w4 ⟨rfl, b4⟩
          clear Bmp_0 Bmp_1 Bmp_2 Bmp_3 Bm_0 Bm_1 Bm_2 Bm_3
          have HS := Lib.hid (HS.out.to b4)
          have HM := Lib.hid (HM.out.to b4)
          have HYp := Lib.hid (HYp.out.to b4)
          have HBp := Lib.hid (HBp.out.to b4)
          have HWp := Lib.hid (HWp.out.to b4)
          have HYo := Lib.hid (HYo.out.to b4)
          have HBo := Lib.hid (HBo.out.to b4)
          have HWo := Lib.hid (HWo.out.to b4)
          have Bs := Lib.hid (b4.row (row_lt Bs.out) Bs.out)
          have Bm := Lib.hid (b4.row (row_lt Bm.out) Bm.out)
          have Bq := Lib.hid (b4.row (row_lt Bq.out) Bq.out)
          have Bmp := Lib.hid (b4.row (row_lt Bmp.out) Bmp.out)
          have Brp := Lib.hid (b4.row (row_lt Brp.out) Brp.out)
          have Bmo := Lib.hid (b4.row (row_lt Bmo.out) Bmo.out)
          have Bro := Lib.hid (b4.row (row_lt Bro.out) Bro.out)
          have bw := bw.call b4
          clear b4
          obtain ⟨Bmo_0, Bmo_1, Bmo_2, Bmo_3⟩ := row4 Bmo.out
          obtain ⟨Bm_0, Bm_1, Bm_2, Bm_3⟩ := row4 Bm.out
          go_wp2_with fail
          refine (lawSame7_any yo u M3 M3 _ HYo.out HM.out so su).mono ?_
          rw [sameM_self]
          rintro e w5 ⟨rfl, b5⟩
          clear Bmo_0 Bmo_1 Bmo_2 Bmo_3 Bm_0 Bm_1 Bm_2 Bm_3
          have HS := Lib.hid (HS.out.to b5)
          have HM := Lib.hid (HM.out.to b5)
          have HYp := Lib.hid (HYp.out.to b5)
          have HBp := Lib.hid (HBp.out.to b5)
          have HWp := Lib.hid (HWp.out.to b5)
          have HYo := Lib.hid (HYo.out.to b5)
          have HBo := Lib.hid (HBo.out.to b5)
          have HWo := Lib.hid (HWo.out.to b5)
          have Bs := Lib.hid (b5.row (row_lt Bs.out) Bs.out)
          have Bm := Lib.hid (b5.row (row_lt Bm.out) Bm.out)
          have Bq := Lib.hid (b5.row (row_lt Bq.out) Bq.out)
          have Bmp := Lib.hid (b5.row (row_lt Bmp.out) Bmp.out)
          have Brp := Lib.hid (b5.row (row_lt Brp.out) Brp.out)
          have Bmo := Lib.hid (b5.row (row_lt Bmo.out) Bmo.out)
          have Bro := Lib.hid (b5.row (row_lt Bro.out) Bro.out)
          have bw := bw.call b5
          clear b5
          obtain ⟨Brp_0, Brp_1, Brp_2, Brp_3, Brp_4, Brp_5⟩ := row6 Brp.out
          obtain ⟨Bro_0, Bro_1, Bro_2, Bro_3, Bro_4, Bro_5⟩ := row6 Bro.out
          go_wp2_with fail
          have j0 : n7p ≤ 1000000 := by have h := HWp.out.len; rw [ws_length] at h; omega
          have j1 : n6p ≤ 1000000 := by have h := HBp.out.len; rw [bl_length] at h; omega
          have j2 : n7o ≤ 1000000 := by have h := HWo.out.len; rw [ws_length] at h; omega
          have j3 : n6o ≤ 1000000 := by have h := HBo.out.len; rw [bl_length] at h; omega
          have KS := repSame_any f1 0 A6p n6p c6p A7p n7p c7p a1 m1 f1 0 A6o n6o c6o A7o n7o c7o a1 m1 B1 B1 W1 W1 _ HWp.out HBp.out HWo.out HBo.out j0 j1 j2 j3
          rw [rep_same_true rfl] at KS
          clear j0 j1 j2 j3
          refine (KS).mono ?_
          rintro e w6 ⟨rfl, b6⟩
          clear Brp_0 Brp_1 Brp_2 Brp_3 Brp_4 Brp_5 Bro_0 Bro_1 Bro_2 Bro_3 Bro_4 Bro_5
          have HS := Lib.hid (HS.out.to b6)
          have HM := Lib.hid (HM.out.to b6)
          have HYp := Lib.hid (HYp.out.to b6)
          have HBp := Lib.hid (HBp.out.to b6)
          have HWp := Lib.hid (HWp.out.to b6)
          have HYo := Lib.hid (HYo.out.to b6)
          have HBo := Lib.hid (HBo.out.to b6)
          have HWo := Lib.hid (HWo.out.to b6)
          have Bs := Lib.hid (b6.row (row_lt Bs.out) Bs.out)
          have Bm := Lib.hid (b6.row (row_lt Bm.out) Bm.out)
          have Bq := Lib.hid (b6.row (row_lt Bq.out) Bq.out)
          have Bmp := Lib.hid (b6.row (row_lt Bmp.out) Bmp.out)
          have Brp := Lib.hid (b6.row (row_lt Brp.out) Brp.out)
          have Bmo := Lib.hid (b6.row (row_lt Bmo.out) Bmo.out)
          have Bro := Lib.hid (b6.row (row_lt Bro.out) Bro.out)
          have bw := bw.call b6
          clear b6
          clear KS
          obtain ⟨Brp_0, Brp_1, Brp_2, Brp_3, Brp_4, Brp_5⟩ := row6 Brp.out
          obtain ⟨Bs_0, Bs_1, Bs_2, Bs_3⟩ := row4 Bs.out
          obtain ⟨Bm_0, Bm_1, Bm_2, Bm_3⟩ := row4 Bm.out
          obtain ⟨Bq_0, Bq_1, Bq_2, Bq_3, Bq_4, Bq_5⟩ := row6 Bq.out
          go_wp2_with fail
          rw [HZ.out]
          refine (modDo_any v u s M3 q a z 0 none 0 0 none 0 0 [] [] _ HS.out HM.out ho sv su (Sl.empty _ _ _) (Sl.empty _ _ _) (qwf (by have := HQ4.out; omega) (by omega) (by omega)) (by decide) (by decide)).mono ?_
          rw [← HE3.out]
          rintro e w7 ⟨yx, A6x, n6x, c6x, A7x, n7x, c7x, rfl, YMx, S6x, S7x, k6x, k7x, bx⟩
          clear Brp_0 Brp_1 Brp_2 Brp_3 Brp_4 Brp_5 Bs_0 Bs_1 Bs_2 Bs_3 Bm_0 Bm_1 Bm_2 Bm_3 Bq_0 Bq_1 Bq_2 Bq_3 Bq_4 Bq_5
          have HS := Lib.hid (HS.out.to bx)
          have HM := Lib.hid (HM.out.to bx)
          have HYp := Lib.hid (HYp.out.to bx)
          have HBp := Lib.hid (HBp.out.to bx)
          have HWp := Lib.hid (HWp.out.to bx)
          have HYo := Lib.hid (HYo.out.to bx)
          have HBo := Lib.hid (HBo.out.to bx)
          have HWo := Lib.hid (HWo.out.to bx)
          have Bs := Lib.hid (bx.row (row_lt Bs.out) Bs.out)
          have Bm := Lib.hid (bx.row (row_lt Bm.out) Bm.out)
          have Bq := Lib.hid (bx.row (row_lt Bq.out) Bq.out)
          have Bmp := Lib.hid (bx.row (row_lt Bmp.out) Bmp.out)
          have Brp := Lib.hid (bx.row (row_lt Brp.out) Brp.out)
          have Bmo := Lib.hid (bx.row (row_lt Bmo.out) Bmo.out)
          have Bro := Lib.hid (bx.row (row_lt Bro.out) Bro.out)
          have bw := bw.call bx
          have HYx := Lib.hid YMx
          have HBx := Lib.hid S6x
          have HWx := Lib.hid S7x
          clear YMx S6x S7x
          clear bx
          go_wp2_with (first
            | (refine wpList_store_grown rfl 28 (.tmp 17) _ rfl w7.heap.size #[.slice yx.a.A yx.a.n yx.a.c, .slice yx.b.A yx.b.n yx.b.c, .slice yx.c.A yx.c.n yx.c.c, .slice yx.d.A yx.d.n yx.d.c] rfl rfl 28 _ (row_alloc (heap_alloc_new w7 _) _) (by kernel_rfl) rfl (by simp [Value.oneCell']) ?_; intro Wxa hxa gxa sxa)
            | (refine wpList_store_grown rfl 36 (.tmp 18) _ rfl (w7.heap.size + 1) #[.int .u8 (f3 : Nat), .int .u8 0, .slice A6x n6x c6x, .slice A7x n7x c7x, .int .u16 (a3 : Nat), .int .u16 (m3 : Nat)] rfl rfl 36 _ (gxa.row (by omega) (heap_alloc2_new w7 _ _)) (by kernel_rfl) rfl (by simp [Value.oneCell']) ?_; intro Wx hxb gxb sxb; have Bmx := Lib.hid (gxb.row (k := w7.heap.size) (by omega) hxa); have Brx := Lib.hid hxb; have Cx := below_two gxa gxb sxa; clear gxa gxb sxa sxb hxa hxb; have HS := Lib.hid (HS.out.to Cx); have HM := Lib.hid (HM.out.to Cx); have HYp := Lib.hid (HYp.out.to Cx); have HBp := Lib.hid (HBp.out.to Cx); have HWp := Lib.hid (HWp.out.to Cx); have HYo := Lib.hid (HYo.out.to Cx); have HBo := Lib.hid (HBo.out.to Cx); have HWo := Lib.hid (HWo.out.to Cx); have HYx := Lib.hid (HYx.out.to Cx); have HBx := Lib.hid (HBx.out.to Cx); have HWx := Lib.hid (HWx.out.to Cx); have Bs := Lib.hid (Cx.row (row_lt Bs.out) Bs.out); have Bm := Lib.hid (Cx.row (row_lt Bm.out) Bm.out); have Bq := Lib.hid (Cx.row (row_lt Bq.out) Bq.out); have Bmp := Lib.hid (Cx.row (row_lt Bmp.out) Bmp.out); have Brp := Lib.hid (Cx.row (row_lt Brp.out) Brp.out); have Bmo := Lib.hid (Cx.row (row_lt Bmo.out) Bmo.out); have Bro := Lib.hid (Cx.row (row_lt Bro.out) Bro.out); have bw := bw.call Cx; clear Cx; obtain ⟨Bs_0, Bs_1, Bs_2, Bs_3⟩ := row4 Bs.out; obtain ⟨Bm_0, Bm_1, Bm_2, Bm_3⟩ := row4 Bm.out; obtain ⟨Bq_0, Bq_1, Bq_2, Bq_3, Bq_4, Bq_5⟩ := row6 Bq.out)
            | fail)
          rw [HAZ.out, HNZ.out]
          refine (modDo_any v u s M3 q (a + z) (n - z) 0 none 0 0 none 0 0 [] [] _ HS.out HM.out ho sv su (Sl.empty _ _ _) (Sl.empty _ _ _) (qwf (by have := HQ4.out; omega) (by omega) (by omega)) (by decide) (by decide)).mono ?_
          rw [← HE4.out]
          rintro e w8 ⟨yt, A6t, n6t, c6t, A7t, n7t, c7t, rfl, YMt, S6t, S7t, k6t, k7t, bt⟩
          clear Bs_0 Bs_1 Bs_2 Bs_3 Bm_0 Bm_1 Bm_2 Bm_3 Bq_0 Bq_1 Bq_2 Bq_3 Bq_4 Bq_5
          have HS := Lib.hid (HS.out.to bt)
          have HM := Lib.hid (HM.out.to bt)
          have HYp := Lib.hid (HYp.out.to bt)
          have HBp := Lib.hid (HBp.out.to bt)
          have HWp := Lib.hid (HWp.out.to bt)
          have HYo := Lib.hid (HYo.out.to bt)
          have HBo := Lib.hid (HBo.out.to bt)
          have HWo := Lib.hid (HWo.out.to bt)
          have HYx := Lib.hid (HYx.out.to bt)
          have HBx := Lib.hid (HBx.out.to bt)
          have HWx := Lib.hid (HWx.out.to bt)
          have Bs := Lib.hid (bt.row (row_lt Bs.out) Bs.out)
          have Bm := Lib.hid (bt.row (row_lt Bm.out) Bm.out)
          have Bq := Lib.hid (bt.row (row_lt Bq.out) Bq.out)
          have Bmp := Lib.hid (bt.row (row_lt Bmp.out) Bmp.out)
          have Brp := Lib.hid (bt.row (row_lt Brp.out) Brp.out)
          have Bmo := Lib.hid (bt.row (row_lt Bmo.out) Bmo.out)
          have Bro := Lib.hid (bt.row (row_lt Bro.out) Bro.out)
          have Bmx := Lib.hid (bt.row (row_lt Bmx.out) Bmx.out)
          have Brx := Lib.hid (bt.row (row_lt Brx.out) Brx.out)
          have bw := bw.call bt
          have HYt := Lib.hid YMt
          have HBt := Lib.hid S6t
          have HWt := Lib.hid S7t
          clear YMt S6t S7t
          clear bt
          go_wp2_with (first
            | (refine wpList_store_grown rfl 28 (.tmp 19) _ rfl w8.heap.size #[.slice yt.a.A yt.a.n yt.a.c, .slice yt.b.A yt.b.n yt.b.c, .slice yt.c.A yt.c.n yt.c.c, .slice yt.d.A yt.d.n yt.d.c] rfl rfl 28 _ (row_alloc (heap_alloc_new w8 _) _) (by kernel_rfl) rfl (by simp [Value.oneCell']) ?_; intro Wta hta gta sta)
            | (refine wpList_store_grown rfl 36 (.tmp 20) _ rfl (w8.heap.size + 1) #[.int .u8 (f4 : Nat), .int .u8 0, .slice A6t n6t c6t, .slice A7t n7t c7t, .int .u16 (a4 : Nat), .int .u16 (m4 : Nat)] rfl rfl 36 _ (gta.row (by omega) (heap_alloc2_new w8 _ _)) (by kernel_rfl) rfl (by simp [Value.oneCell']) ?_; intro Wt htb gtb stb; have Bmt := Lib.hid (gtb.row (k := w8.heap.size) (by omega) hta); have Brt := Lib.hid htb; have Ct := below_two gta gtb sta; clear gta gtb sta stb hta htb; have HS := Lib.hid (HS.out.to Ct); have HM := Lib.hid (HM.out.to Ct); have HYp := Lib.hid (HYp.out.to Ct); have HBp := Lib.hid (HBp.out.to Ct); have HWp := Lib.hid (HWp.out.to Ct); have HYo := Lib.hid (HYo.out.to Ct); have HBo := Lib.hid (HBo.out.to Ct); have HWo := Lib.hid (HWo.out.to Ct); have HYx := Lib.hid (HYx.out.to Ct); have HBx := Lib.hid (HBx.out.to Ct); have HWx := Lib.hid (HWx.out.to Ct); have HYt := Lib.hid (HYt.out.to Ct); have HBt := Lib.hid (HBt.out.to Ct); have HWt := Lib.hid (HWt.out.to Ct); have Bs := Lib.hid (Ct.row (row_lt Bs.out) Bs.out); have Bm := Lib.hid (Ct.row (row_lt Bm.out) Bm.out); have Bq := Lib.hid (Ct.row (row_lt Bq.out) Bq.out); have Bmp := Lib.hid (Ct.row (row_lt Bmp.out) Bmp.out); have Brp := Lib.hid (Ct.row (row_lt Brp.out) Brp.out); have Bmo := Lib.hid (Ct.row (row_lt Bmo.out) Bmo.out); have Bro := Lib.hid (Ct.row (row_lt Bro.out) Bro.out); have Bmx := Lib.hid (Ct.row (row_lt Bmx.out) Bmx.out); have Brx := Lib.hid (Ct.row (row_lt Brx.out) Brx.out); have bw := bw.call Ct; clear Ct; obtain ⟨Brx_0, Brx_1, Brx_2, Brx_3, Brx_4, Brx_5⟩ := row6 Brx.out; obtain ⟨Brt_0, Brt_1, Brt_2, Brt_3, Brt_4, Brt_5⟩ := row6 Brt.out; obtain ⟨Brp_0, Brp_1, Brp_2, Brp_3, Brp_4, Brp_5⟩ := row6 Brp.out; obtain ⟨Bq_0, Bq_1, Bq_2, Bq_3, Bq_4, Bq_5⟩ := row6 Bq.out)
            | fail)
          all_goals (
            obtain ⟨hb1, hb2, hb3, hb4⟩ := HBB.out (by omega)
            have HB4 := Lib.hid hb4
            clear hb4
            have i0 : z ≤ n6x := by have h := HBx.out.len; rw [bl_length] at h; omega
            have i1 : n - z ≤ n6t := by have h := HBt.out.len; rw [bl_length] at h; omega
            have i2 : n ≤ n6p := by have h := HBp.out.len; rw [bl_length] at h; omega
            have j0 : n6x ≤ 3000 := by have h := HBx.out.len; rw [bl_length] at h; omega
            have j1 : n6t ≤ 3000 := by have h := HBt.out.len; rw [bl_length] at h; omega
            have j2 : n6p ≤ 3000 := by have h := HBp.out.len; rw [bl_length] at h; omega
            clear hpr hpr3 hpr4 hb1 hb2 hb3
            try (exfalso; omega))
          have wz : IntKind.i64.wrap (z : Int) = z := by rw [IntKind.wrap_i64]; omega
          have wn : IntKind.i64.wrap (n : Int) = n := by rw [IntKind.wrap_i64]; omega
          have wnz : IntKind.u16.wrap ((n : Int) - (z : Int)) = (n : Int) - (z : Int) := by rw [IntKind.wrap_u16]; omega
          obtain ⟨bx, ox, ex, _, _⟩ := HBx.out.2 (by omega)
          obtain ⟨bt, ot, et, _, _⟩ := HBt.out.2 (by omega)
          obtain ⟨bp, op, ep, _, _⟩ := HBp.out.2 (by omega)
          subst ex et ep
          have HKP := Lib.hid (fun (w' : World) (b : Below Wt.heap.size Wt w') => (⟨b, (row6 (b.row (row_lt Brx.out) Brx.out)).2.2.1, (row6 (b.row (row_lt Brt.out) Brt.out)).2.2.1, (row6 (b.row (row_lt Brp.out) Brp.out)).2.2.1⟩ : Below Wt.heap.size Wt w' ∧ w'.cell? ⟨w7.heap.size + 1, 2, none⟩ = some (.slice (some ⟨bx, ox, none⟩) n6x c6x) ∧ w'.cell? ⟨w8.heap.size + 1, 2, none⟩ = some (.slice (some ⟨bt, ot, none⟩) n6t c6t) ∧ w'.cell? ⟨w2.heap.size + 1, 2, none⟩ = some (.slice (some ⟨bp, op, none⟩) n6p c6p)))
          have hbd := (Below.refl Wt.heap.size Wt).drew
          have hz1 : (0 : Int) ≤ (z : Int) := by omega
          have hz2 : (z : Int) ≤ (c6x : Int) := by omega
          have hz3 : (0 : Int) ≤ (n : Int) - (z : Int) := by omega
          have hz4 : (n : Int) - (z : Int) ≤ (c6t : Int) := by omega
          have hz5 : (0 : Int) ≤ (n : Int) := by omega
          have hz6 : (n : Int) ≤ (c6p : Int) := by omega
          have hz7 : ((n : Int) - (z : Int)).toNat = n - z := by omega
          have nx : ¬ (c6x = 0) := by omega
          have nt : ¬ (c6t = 0) := by omega
          have np : ¬ (c6p = 0) := by omega
          refine wp_region_held_drew (S := (fun w' => w'.cell? ⟨w7.heap.size + 1, 2, none⟩ = some (.slice (some ⟨bx, ox, none⟩) n6x c6x) ∧ w'.cell? ⟨w8.heap.size + 1, 2, none⟩ = some (.slice (some ⟨bt, ot, none⟩) n6t c6t) ∧ w'.cell? ⟨w2.heap.size + 1, 2, none⟩ = some (.slice (some ⟨bp, op, none⟩) n6p c6p))) (by kernel_rfl) ((HKP.out _ hbd).2) (fun hHeld => ?_)
          refine wpAnyH_take (i := 1) (v := ?_) (by simp only [List.getElem?_toArray, List.getElem?_cons_succ, List.getElem?_cons_zero]; rfl) (by kernel_rfl) (by kernel_rfl) (by kernel_rfl) (by exact fun _ _ _ h => h) (Or.inl ⟨by kernel_rfl, ?_⟩) (by assumption) ?_
          rotate_left
          · intro w hSw
            (try dsimp only at hSw)
            go_simp
            try with_reducible rfl
          simp only [Act.put, List.setIfInBounds_toArray, List.set_cons_zero, List.set_cons_succ]
          refine wpAnyH_take (i := 2) (v := ?_) (by simp only [List.getElem?_toArray, List.getElem?_cons_succ, List.getElem?_cons_zero]; rfl) (by kernel_rfl) (by kernel_rfl) (by kernel_rfl) (by exact fun _ _ _ h => h) (Or.inl ⟨by kernel_rfl, ?_⟩) (by assumption) ?_
          rotate_left
          · intro w hSw
            (try dsimp only at hSw)
            go_simp
            try with_reducible rfl
          simp only [Act.put, List.setIfInBounds_toArray, List.set_cons_zero, List.set_cons_succ]
          refine wpAnyH_take (i := 3) (v := ?_) (by simp only [List.getElem?_toArray, List.getElem?_cons_succ, List.getElem?_cons_zero]; rfl) (by kernel_rfl) (by kernel_rfl) (by kernel_rfl) (by exact fun _ _ _ h => h) (Or.inl ⟨by kernel_rfl, ?_⟩) (by assumption) ?_
          rotate_left
          · intro w hSw
            (try dsimp only at hSw)
            go_simp
            try with_reducible rfl
          simp only [Act.put, List.setIfInBounds_toArray, List.set_cons_zero, List.set_cons_succ]
          refine wpAnyH_take (i := 4) (v := ?_) (by simp only [List.getElem?_toArray, List.getElem?_cons_succ, List.getElem?_cons_zero]; rfl) (by kernel_rfl) (by kernel_rfl) (by kernel_rfl) (by exact fun _ _ _ h => h) (Or.inl ⟨by kernel_rfl, ?_⟩) (by assumption) ?_
          rotate_left
          · intro w hSw
            (try dsimp only at hSw)
            go_simp
            try with_reducible rfl
          simp only [Act.put, List.setIfInBounds_toArray, List.set_cons_zero, List.set_cons_succ]
          refine wpAnyH_take (i := 6) (v := ?_) (by simp only [List.getElem?_toArray, List.getElem?_cons_succ, List.getElem?_cons_zero]; rfl) (by kernel_rfl) (by kernel_rfl) (by kernel_rfl) (by exact fun _ _ _ h => h) (Or.inl ⟨by kernel_rfl, ?_⟩) (by assumption) ?_
          rotate_left
          · intro w hSw
            (try dsimp only at hSw)
            go_simp
            try with_reducible rfl
          simp only [Act.put, List.setIfInBounds_toArray, List.set_cons_zero, List.set_cons_succ]
          refine wpAnyH_take (i := 7) (v := ?_) (by simp only [List.getElem?_toArray, List.getElem?_cons_succ, List.getElem?_cons_zero]; rfl) (by kernel_rfl) (by kernel_rfl) (by kernel_rfl) (by exact fun _ _ _ h => h) (Or.inl ⟨by kernel_rfl, ?_⟩) (by assumption) ?_
          rotate_left
          · intro w hSw
            (try dsimp only at hSw)
            go_simp
            try with_reducible rfl
          simp only [Act.put, List.setIfInBounds_toArray, List.set_cons_zero, List.set_cons_succ]
          refine wpAnyH_take (i := 8) (v := ?_) (by simp only [List.getElem?_toArray, List.getElem?_cons_succ, List.getElem?_cons_zero]; rfl) (by kernel_rfl) (by kernel_rfl) (by kernel_rfl) (by exact fun _ _ _ h => h) (Or.inl ⟨by kernel_rfl, ?_⟩) (by assumption) ?_
          rotate_left
          · intro w hSw
            (try dsimp only at hSw)
            go_simp
            try with_reducible rfl
          simp only [Act.put, List.setIfInBounds_toArray, List.set_cons_zero, List.set_cons_succ]
          refine wpAnyH_take (i := 9) (v := ?_) (by simp only [List.getElem?_toArray, List.getElem?_cons_succ, List.getElem?_cons_zero]; rfl) (by kernel_rfl) (by kernel_rfl) (by kernel_rfl) (by exact fun _ _ _ h => h) (Or.inl ⟨by kernel_rfl, ?_⟩) (by assumption) ?_
          rotate_left
          · intro w hSw
            (try dsimp only at hSw)
            go_simp
            try with_reducible rfl
          simp only [Act.put, List.setIfInBounds_toArray, List.set_cons_zero, List.set_cons_succ]
          refine wpAnyH_take (i := 10) (v := ?_) (by simp only [List.getElem?_toArray, List.getElem?_cons_succ, List.getElem?_cons_zero]; rfl) (by kernel_rfl) (by kernel_rfl) (by kernel_rfl) (by exact fun _ _ _ h => h) (Or.inl ⟨by kernel_rfl, ?_⟩) (by assumption) ?_
          rotate_left
          · intro w hSw
            (try dsimp only at hSw)
            go_simp
            try with_reducible rfl
          simp only [Act.put, List.setIfInBounds_toArray, List.set_cons_zero, List.set_cons_succ]
          refine wpAnyH_take (i := 11) (v := ?_) (by simp only [List.getElem?_toArray, List.getElem?_cons_succ, List.getElem?_cons_zero]; rfl) (by kernel_rfl) (by kernel_rfl) (by kernel_rfl) (by exact fun _ _ _ h => h) (Or.inl ⟨by kernel_rfl, ?_⟩) (by assumption) ?_
          rotate_left
          · intro w hSw
            (try dsimp only at hSw)
            go_simp
            try with_reducible rfl
          simp only [Act.put, List.setIfInBounds_toArray, List.set_cons_zero, List.set_cons_succ]
          refine wpAnyH_take (i := 13) (v := ?_) (by simp only [List.getElem?_toArray, List.getElem?_cons_succ, List.getElem?_cons_zero]; rfl) (by kernel_rfl) (by kernel_rfl) (by kernel_rfl) (by exact fun _ _ _ h => h) (Or.inl ⟨by kernel_rfl, ?_⟩) (by assumption) ?_
          rotate_left
          · intro w hSw
            (try dsimp only at hSw)
            go_simp
            try with_reducible rfl
          simp only [Act.put, List.setIfInBounds_toArray, List.set_cons_zero, List.set_cons_succ]
          refine wpAnyH_take (i := 14) (v := ?_) (by simp only [List.getElem?_toArray, List.getElem?_cons_succ, List.getElem?_cons_zero]; rfl) (by kernel_rfl) (by kernel_rfl) (by kernel_rfl) (by exact fun _ _ _ h => h) (Or.inl ⟨by kernel_rfl, ?_⟩) (by assumption) ?_
          rotate_left
          · intro w hSw
            (try dsimp only at hSw)
            go_simp
            try with_reducible rfl
          simp only [Act.put, List.setIfInBounds_toArray, List.set_cons_zero, List.set_cons_succ]
          refine wpAnyH_take (i := 15) (v := ?_) (by simp only [List.getElem?_toArray, List.getElem?_cons_succ, List.getElem?_cons_zero]; rfl) (by kernel_rfl) (by kernel_rfl) (by kernel_rfl) (by exact fun _ _ _ h => h) (Or.inl ⟨by kernel_rfl, ?_⟩) (by assumption) ?_
          rotate_left
          · intro w hSw
            (try dsimp only at hSw)
            go_simp
            try with_reducible rfl
          simp only [Act.put, List.setIfInBounds_toArray, List.set_cons_zero, List.set_cons_succ]
          refine wpAnyH_take (i := 16) (v := ?_) (by simp only [List.getElem?_toArray, List.getElem?_cons_succ, List.getElem?_cons_zero]; rfl) (by kernel_rfl) (by kernel_rfl) (by kernel_rfl) (by exact fun _ _ _ h => h) (Or.inl ⟨by kernel_rfl, ?_⟩) (by assumption) ?_
          rotate_left
          · intro w hSw
            (try dsimp only at hSw)
            go_simp
            try with_reducible rfl
          simp only [Act.put, List.setIfInBounds_toArray, List.set_cons_zero, List.set_cons_succ]
          refine wpAnyH_ready (rs := [0]) (by kernel_rfl) (by simp) ?_
          refine AllReadyH.cons (by simp only [List.getElem?_toArray, List.getElem?_cons_succ, List.getElem?_cons_zero]; rfl) (fun K hK => ?_) AllReadyH.nil
          rw [if_pos (by kernel_rfl)]
          go_simp
          have hbd := hbd.new (.cells #[] 4)
          refine hK.out _ _ ?_ (fun hHeld => ?_)
          · exact (HKP.out _ hbd).2
          clear hK K
          try simp only [Act.put, List.setIfInBounds_toArray, List.set_cons_zero, List.set_cons_succ]
          refine wpAnyH_ready (rs := [5]) (by kernel_rfl) (by simp) ?_
          refine AllReadyH.cons (by simp only [List.getElem?_toArray, List.getElem?_cons_succ, List.getElem?_cons_zero]; rfl) (fun K hK => ?_) AllReadyH.nil
          refine step_app eb rfl (.tmp 146) (.tmp 150) rfl (Has.made0 (w0 := Wt) (Below.refl _ _).drew _) rfl ((HBx.out.take i0).to (((Below.refl _ _).drew).new _)) rfl (by rw [bl_take]; exact bl_one _) (by omega) (by simp only [maxLen]; omega) ?_
          intro v4 w4 H4 _ _
          have hbd := H4.bel
          refine hK.out _ _ ?_ (fun hHeld => ?_)
          · exact (HKP.out _ hbd).2
          clear hK K
          try simp only [Act.put, List.setIfInBounds_toArray, List.set_cons_zero, List.set_cons_succ]
          refine wpAnyH_ready (rs := [12]) (by kernel_rfl) (by simp) ?_
          refine AllReadyH.cons (by simp only [List.getElem?_toArray, List.getElem?_cons_succ, List.getElem?_cons_zero]; rfl) (fun K hK => ?_) AllReadyH.nil
          refine step_app eb rfl (.tmp 151) (.tmp 157) rfl H4 rfl ((HBt.out.take i1).to H4.bel) rfl (by rw [bl_take]; exact bl_one _) (by omega) (by simp only [maxLen]; omega) ?_
          intro v5 w5 H5 _ _
          have hbd := H5.bel
          rw [show 0 + z + (n - z) = n by omega] at H5
          obtain ⟨A5, c5, rfl, -, S5, -⟩ := H5.slice
          rw [List.nil_append, bl_take, bl_take, bl_append, HB4.out] at S5
          have S5 := Lib.hid S5
          refine hK.out _ _ ?_ (fun hHeld => ?_)
          · exact (HKP.out _ hbd).2
          clear hK K
          try simp only [Act.put, List.setIfInBounds_toArray, List.set_cons_zero, List.set_cons_succ]
          refine wpAnyH_ready (rs := [17]) (by kernel_rfl) (by simp) ?_
          refine AllReadyH.cons (by simp only [List.getElem?_toArray, List.getElem?_cons_succ, List.getElem?_cons_zero]; rfl) (fun K hK => ?_) AllReadyH.nil
          rw [if_pos (by kernel_rfl)]
          go_simp
          go_at_call 16
          refine (lowBits_any A5 (some ⟨bp, op, none⟩) _ c5 n c6p (B1.take n) (B1.take n) _ S5.out (by rw [← bl_take]; exact (HBp.out.take i2).to hbd) (by omega) (by omega)).mono ?_
          rw [beq_self_eq_true]
          rintro e ws ⟨rfl, bs⟩
          have hbd := hbd.call bs
          go_wp2_with fail
          refine hK.out _ _ ?_ (fun hHeld => ?_)
          · exact (HKP.out _ hbd).2
          clear hK K
          try simp only [Act.put, List.setIfInBounds_toArray, List.set_cons_zero, List.set_cons_succ]
          refine wpAnyH_take (i := 18) (v := ?_) (by simp only [List.getElem?_toArray, List.getElem?_cons_succ, List.getElem?_cons_zero]; rfl) (by kernel_rfl) (by kernel_rfl) (by kernel_rfl) (by exact fun _ _ _ h => h) (Or.inl ⟨by kernel_rfl, ?_⟩) (by assumption) ?_
          rotate_left
          · intro w hSw
            (try dsimp only at hSw)
            go_simp
            try with_reducible rfl
          simp only [Act.put, List.setIfInBounds_toArray, List.set_cons_zero, List.set_cons_succ]
          refine wpAnyH_ready (rs := [19]) (by kernel_rfl) (by simp) ?_
          refine AllReadyH.cons (by simp only [List.getElem?_toArray, List.getElem?_cons_succ, List.getElem?_cons_zero]; rfl) (fun K hK => ?_) AllReadyH.nil
          rw [if_pos (by kernel_rfl)]
          go_simp
          go_at_call 10
          refine (awake7_any _).mono ?_
          rintro e wa ⟨rfl, ba⟩
          have hbd := hbd.call ba
          go_wp2_with fail
          refine hK.out _ _ ?_ (fun hHeld => ?_)
          · exact (HKP.out _ hbd).2
          clear hK K
          try simp only [Act.put, List.setIfInBounds_toArray, List.set_cons_zero, List.set_cons_succ]
          refine wpAnyH_take (i := 20) (v := ?_) (by simp only [List.getElem?_toArray, List.getElem?_cons_succ, List.getElem?_cons_zero]; rfl) (by kernel_rfl) (by kernel_rfl) (by kernel_rfl) (by exact fun _ _ _ h => h) (Or.inl ⟨by kernel_rfl, ?_⟩) (by assumption) ?_
          rotate_left
          · intro w hSw
            (try dsimp only at hSw)
            go_simp
            try with_reducible rfl
          simp only [Act.put, List.setIfInBounds_toArray, List.set_cons_zero, List.set_cons_succ]
          refine wpAnyH_take (i := 21) (v := ?_) (by simp only [List.getElem?_toArray, List.getElem?_cons_succ, List.getElem?_cons_zero]; rfl) (by kernel_rfl) (by kernel_rfl) (by kernel_rfl) (by exact fun _ _ _ h => h) (Or.inl ⟨by kernel_rfl, ?_⟩) (by assumption) ?_
          rotate_left
          · intro w hSw
            (try dsimp only at hSw)
            go_simp
            try with_reducible rfl
          simp only [Act.put, List.setIfInBounds_toArray, List.set_cons_zero, List.set_cons_succ]
          refine wpAnyH_done (by kernel_rfl) ?_ _
          go_wp2_with fail
          go_ret
          exact ⟨rfl, bw.call hbd⟩
end Go.Proofs.Ytjfhfgchglaoiaa.MoW
