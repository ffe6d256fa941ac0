/- The walk of ModelServes. -/
import Derived.Test.YtiibopdnlmnkmaaMoS
import Derived.Test.YtiibopdnlmnkmaaRepI
import Derived.Test.YtiibopdnlmnkmaaRepO1
set_option linter.unusedVariables false
set_option linter.unusedSimpArgs false
namespace Go.Proofs.Ytiibopdnlmnkmaa.MoW
open Go.RowKit Go.Proofs.Ytiibopdnlmnkmaa Go.Proofs.Ytiibopdnlmnkmaa.Mo Go.Proofs.Ytiibopdnlmnkmaa.Ask Go.Proofs.Ytiibopdnlmnkmaa.AskW
theorem below_one {X Y : World} {o : Obj} (g : (X.alloc o).grownBy Y (some X.heap.size)) : Below X.heap.size X Y :=
  ((Below.refl X.heap.size X).new o).grown g (by simp) (fun j e => by injection e with e; omega)
theorem rep_same_true {pf px pa pm f2 x2 a2 m2 : Nat} {pB B2 : List Bool} {pW W2 : List Nat} (h : (⟨pf, px, pB, pW, pa, pm⟩ : Rep) = ⟨f2, x2, B2, W2, a2, m2⟩) : (pf == f2 && px == x2 && pa == a2 && pm == m2 && pB == B2 && pW == W2) = true := by
  injection h with h1 h2 h3 h4 h5 h6
  subst h1 h2 h3 h4 h5 h6
  simp
theorem Sl.nil_to {w w' : World} {B B' n : Nat} {A : Option Addr} (h : Sl w B A n []) : Sl w' B' A n [] := by
  have e : n = 0 := by have := h.len; simpa using this.symm
  subst e
  exact Sl.empty _ _ _
set_option maxRecDepth 10000 in
set_option maxHeartbeats 16000000 in
theorem modelServes_any (v u : Sp) (s : Space) (M : Mem) (A : Option Addr) (k c : Nat) (xs : List Nat) (w : World) (hS : SpOk w v s) (hM : MmOk w u M) (ho : s.Ok) (hm : M.Wf)
    (hv : v.a.n ≤ 140737488355328 ∧ v.b.n ≤ 140737488355328 ∧ v.c.n ≤ 140737488355328 ∧ v.d.n ≤ 140737488355328) (hs : Sl w w.heap.size A k (bs xs)) (hx : Bytes xs) (hc : k ≤ c) :
    Calls Try.prog 7 #[.agg #[.slice v.a.A v.a.n v.a.c, .slice v.b.A v.b.n v.b.c, .slice v.c.A v.c.n v.c.c, .slice v.d.A v.d.n v.d.c], .agg #[.slice u.a.A u.a.n u.a.c, .slice u.b.A u.b.n u.b.c, .slice u.c.A u.c.n u.c.c, .slice u.d.A u.d.n u.d.c], .slice A k c] w fun e w' => e = .returned (.bool true) ∧ Below w.heap.size w w' := by
  cases hL : lightF v u
  case false =>
    go_enter Try.func7, Try.ntmps7
    go_wp2_with fail
    refine (light_any v u _ hv).mono ?_
    rintro e w1 ⟨rfl, b1⟩
    have X1 := Bx.first b1
    have bw := X1.bel
    have HS := Lib.hid (hS.to bw)
    have HM := Lib.hid (hM.to bw)
    have HA := Lib.hid (hs.to bw)
    have Bs := Lib.hid X1.x
    have Bm := Lib.hid X1.y
    clear b1 X1 hS hM hs
    rw [hL]
    obtain ⟨Bs_0, Bs_1, Bs_2, Bs_3⟩ := row4 Bs.out
    obtain ⟨Bm_0, Bm_1, Bm_2, Bm_3⟩ := row4 Bm.out
    go_wp2_with (go_at_call 10; refine (awake7_any _).mono ?_; rintro e wa ⟨rfl, ba⟩)
    go_ret
    exact ⟨rfl, bw.call ba⟩
  case true =>
    obtain ⟨sv, su, l1, l2, l3, l4⟩ := light_small hL
    by_cases h1 : (300 : Int) < (k : Int)
    · skip
      go_enter Try.func7, Try.ntmps7
      go_wp2_with fail
      refine (light_any v u _ hv).mono ?_
      rintro e w1 ⟨rfl, b1⟩
      have X1 := Bx.first b1
      have bw := X1.bel
      have HS := Lib.hid (hS.to bw)
      have HM := Lib.hid (hM.to bw)
      have HA := Lib.hid (hs.to bw)
      have Bs := Lib.hid X1.x
      have Bm := Lib.hid X1.y
      clear b1 X1 hS hM hs
      rw [hL]
      obtain ⟨Bs_0, Bs_1, Bs_2, Bs_3⟩ := row4 Bs.out
      obtain ⟨Bm_0, Bm_1, Bm_2, Bm_3⟩ := row4 Bm.out
      go_wp2_with (go_at_call 10; refine (awake7_any _).mono ?_; rintro e wa ⟨rfl, ba⟩)
      go_ret
      exact ⟨rfl, bw.call ba⟩
    have T1 : decide ((300 : Int) < (k : Int)) = false := decide_eq_false h1
    have hk3 : k ≤ 300 := by omega
    obtain ⟨p, hp, hL1, hL2, hL3, hL4⟩ := serve_says s M xs
    obtain ⟨hq, hqw, hqb, hx8⟩ := look_wf hx
    have hpw : p.Wf := by
      by_cases h : (lookF xs).2 = 0
      · rw [(hL4 h).1]; exact (do_wf hm hq).2
      · rw [(hL3 h).1]; exact exc_wf _ _ hx8
    have hLb : Bytes (serveM s M xs).2 := by
      rw [hL1]; have h := rbytesE_lt p hpw; unfold rbytesE at h; rw [if_pos hp] at h; exact h
    have hLl : (serveM s M xs).2.length ≤ 253 := by rw [hL1]; exact (rbytes_len hp).2
    obtain ⟨⟨N, L⟩, eV⟩ : ∃ V, V = serveM s M xs := ⟨_, rfl⟩
    rw [← eV] at hL1 hL2 hL3 hL4 hLb hLl
    dsimp only at hL1 hL2 hL3 hL4 hLb hLl
    obtain ⟨⟨⟨f, a, m, t, W, B⟩, x⟩, eK⟩ : ∃ K, K = lookF xs := ⟨_, rfl⟩
    rw [← eK] at hL3 hL4 hq hqw hqb hx8
    dsimp only at hL3 hL4 hq hqw hqb hx8
    have hpl : p.bits.length ≤ 2000 ∧ p.words.length ≤ 125 := rright_small hp
    obtain ⟨pf, px, pB, pW, pa, pm⟩ := p
    dsimp only at hpl
    have HEV := Lib.hid eV
    have HEK := Lib.hid eK
    have HPP := Lib.hid hL2
    have HX := Lib.hid hx
    have hNl : N.coils.length ≤ 100000 ∧ N.inputs.length ≤ 100000 ∧ N.holding.length ≤ 100000 ∧ N.words.length ≤ 100000 := by
      have h4 := hM.lens
      have h5 : N.coils.length = M.coils.length ∧ N.inputs.length = M.inputs.length ∧ N.holding.length = M.holding.length ∧ N.words.length = M.words.length := by
        by_cases h : x = 0
        · rw [(hL4 h).2]; exact do_len _ _ _
        · rw [(hL3 h).2]; exact ⟨rfl, rfl, rfl, rfl⟩
      rw [h5.1, h5.2.1, h5.2.2.1, h5.2.2.2, h4.1, h4.2.1, h4.2.2.1, h4.2.2.2]
      exact ⟨su.a, su.b, su.c, su.d⟩
    clear eV eK hL2 hL1 hx
    by_cases h0 : x = 0
    case pos =>
      obtain ⟨hP, hN⟩ := hL4 h0
      subst h0
      have P0 : (((0 : Nat) : Int) != 0) = false := rfl
      obtain ⟨⟨M2, ⟨f2, x2, B2, W2, a2, m2⟩⟩, e2⟩ : ∃ D, D = doM s M ⟨f, a, m, t, W, B⟩ := ⟨_, rfl⟩
      rw [← e2] at hP hN
      dsimp only at hP hN
      have HE2 := Lib.hid e2
      have HN := Lib.hid hN
      have HP := Lib.hid hP
      clear hL3 hL4 hP hN e2
      go_enter Try.func7, Try.ntmps7
      go_wp2_with fail
      refine (light_any v u _ hv).mono ?_
      rintro e w1 ⟨rfl, b1⟩
      have X1 := Bx.first b1
      have bw := X1.bel
      have HS := Lib.hid (hS.to bw)
      have HM := Lib.hid (hM.to bw)
      have HA := Lib.hid (hs.to bw)
      have Bs := Lib.hid X1.x
      have Bm := Lib.hid X1.y
      clear b1 X1 hS hM hs
      rw [hL]
      obtain ⟨Bs_0, Bs_1, Bs_2, Bs_3⟩ := row4 Bs.out
      obtain ⟨Bm_0, Bm_1, Bm_2, Bm_3⟩ := row4 Bm.out
      go_wp2_with fail
      refine (modServe_any v u s M A k c xs _ HS.out HM.out ho hm sv su HA.out HX.out hk3 hc).mono ?_
      rw [← HEV.out]
      rintro e w2 ⟨y, A5, n5, c5, rfl, YM, S5, k5, b2⟩
      clear Bs_0 Bs_1 Bs_2 Bs_3 Bm_0 Bm_1 Bm_2 Bm_3
      have HS := Lib.hid (HS.out.to b2)
      have HM := Lib.hid (HM.out.to b2)
      have HA := Lib.hid (HA.out.to b2)
      have Bs := Lib.hid (b2.row (row_lt Bs.out) Bs.out)
      have Bm := Lib.hid (b2.row (row_lt Bm.out) Bm.out)
      have bw := bw.call b2
      have HY := Lib.hid YM
      have H5 := Lib.hid S5
      clear YM S5
      clear b2
      go_wp2_with (first
        | (refine wpList_store_grown rfl 28 (.tmp 7) _ rfl w2.heap.size #[.slice y.a.A y.a.n y.a.c, .slice y.b.A y.b.n y.b.c, .slice y.c.A y.c.n y.c.c, .slice y.d.A y.d.n y.d.c] rfl rfl 28 _ (heap_alloc_new w2 _) (by kernel_rfl) rfl (by simp [Value.oneCell']) ?_; intro Wn hn gn sn; have Bn := Lib.hid hn; have Cn := below_one gn; clear hn gn sn; have HS := Lib.hid (HS.out.to Cn); have HM := Lib.hid (HM.out.to Cn); have HA := Lib.hid (HA.out.to Cn); have HY := Lib.hid (HY.out.to Cn); have H5 := Lib.hid (H5.out.to Cn); have Bs := Lib.hid (Cn.row (row_lt Bs.out) Bs.out); have Bm := Lib.hid (Cn.row (row_lt Bm.out) Bm.out); have bw := bw.call Cn; clear Cn; obtain ⟨Bs_0, Bs_1, Bs_2, Bs_3⟩ := row4 Bs.out)
        | fail)
      have h55 : n5 ≤ 300 := by have h := H5.out.len; rw [bs_length] at h; have h2 : n5 = L.length := h.symm; omega
      refine (repParse_any A5 n5 c5 L _ H5.out hLb h55 k5).mono ?_
      rw [HPP.out]
      rintro e w3 ⟨Ab, nb, cb, Aw, nw, cw, rfl, SB, SW, kb, kw, ob, ow, b3⟩
      clear Bs_0 Bs_1 Bs_2 Bs_3
      have HS := Lib.hid (HS.out.to b3)
      have HM := Lib.hid (HM.out.to b3)
      have HA := Lib.hid (HA.out.to b3)
      have HY := Lib.hid (HY.out.to b3)
      have H5 := Lib.hid (H5.out.to b3)
      have Bs := Lib.hid (b3.row (row_lt Bs.out) Bs.out)
      have Bm := Lib.hid (b3.row (row_lt Bm.out) Bm.out)
      have Bn := Lib.hid (b3.row (row_lt Bn.out) Bn.out)
      have bw := bw.call b3
      have HB := Lib.hid SB
      have HW := Lib.hid SW
      clear SB SW ob ow h55
      clear b3
      go_wp2_with (first
        | (refine wpList_store_grown rfl 36 (.tmp 9) _ rfl w3.heap.size #[.int .u8 (pf : Nat), .int .u8 (px : Nat), .slice Ab nb cb, .slice Aw nw cw, .int .u16 (pa : Nat), .int .u16 (pm : Nat)] rfl rfl 36 _ (heap_alloc_new w3 _) (by kernel_rfl) rfl (by simp [Value.oneCell']) ?_; intro Wr hr gr sr; have Br := Lib.hid hr; have Cr := below_one gr; clear hr gr sr; have HS := Lib.hid (HS.out.to Cr); have HM := Lib.hid (HM.out.to Cr); have HA := Lib.hid (HA.out.to Cr); have HY := Lib.hid (HY.out.to Cr); have H5 := Lib.hid (H5.out.to Cr); have HB := Lib.hid (HB.out.to Cr); have HW := Lib.hid (HW.out.to Cr); have Bs := Lib.hid (Cr.row (row_lt Bs.out) Bs.out); have Bm := Lib.hid (Cr.row (row_lt Bm.out) Bm.out); have Bn := Lib.hid (Cr.row (row_lt Bn.out) Bn.out); have bw := bw.call Cr; clear Cr; obtain ⟨Bs_0, Bs_1, Bs_2, Bs_3⟩ := row4 Bs.out)
        | fail)
      refine (look_any A k c xs _ HA.out HX.out hk3 hc).mono ?_
      rw [← HEK.out]
      rintro e w4 ⟨Aq, nq, cq, Az, nz, cz, rfl, SQ, SZ, kq, kz, oq, oz, b4⟩
      clear Bs_0 Bs_1 Bs_2 Bs_3
      have HS := Lib.hid (HS.out.to b4)
      have HM := Lib.hid (HM.out.to b4)
      have HA := Lib.hid (HA.out.to b4)
      have HY := Lib.hid (HY.out.to b4)
      have H5 := Lib.hid (H5.out.to b4)
      have HB := Lib.hid (HB.out.to b4)
      have HW := Lib.hid (HW.out.to b4)
      have Bs := Lib.hid (b4.row (row_lt Bs.out) Bs.out)
      have Bm := Lib.hid (b4.row (row_lt Bm.out) Bm.out)
      have Bn := Lib.hid (b4.row (row_lt Bn.out) Bn.out)
      have Br := Lib.hid (b4.row (row_lt Br.out) Br.out)
      have bw := bw.call b4
      have HQ := Lib.hid SQ
      have HZ := Lib.hid SZ
      clear SQ SZ oq oz
      clear b4
      go_wp2_with (first
        | (refine wpList_store_grown rfl 31 (.tmp 11) _ rfl w4.heap.size #[.int .u8 (f : Nat), .int .u16 (a : Nat), .int .u16 (m : Nat), .int .u16 (t : Nat), .slice Aq nq cq, .slice Az nz cz] rfl rfl 31 _ (heap_alloc_new w4 _) (by kernel_rfl) rfl (by simp [Value.oneCell']) ?_; intro Wa ha ga sa; have Ba := Lib.hid ha; have Ca := below_one ga; clear ha ga sa; have HS := Lib.hid (HS.out.to Ca); have HM := Lib.hid (HM.out.to Ca); have HA := Lib.hid (HA.out.to Ca); have HY := Lib.hid (HY.out.to Ca); have H5 := Lib.hid (H5.out.to Ca); have HB := Lib.hid (HB.out.to Ca); have HW := Lib.hid (HW.out.to Ca); have HQ := Lib.hid (HQ.out.to Ca); have HZ := Lib.hid (HZ.out.to Ca); have Bs := Lib.hid (Ca.row (row_lt Bs.out) Bs.out); have Bm := Lib.hid (Ca.row (row_lt Bm.out) Bm.out); have Bn := Lib.hid (Ca.row (row_lt Bn.out) Bn.out); have Br := Lib.hid (Ca.row (row_lt Br.out) Br.out); have bw := bw.call Ca; clear Ca; obtain ⟨Bs_0, Bs_1, Bs_2, Bs_3⟩ := row4 Bs.out; obtain ⟨Bm_0, Bm_1, Bm_2, Bm_3⟩ := row4 Bm.out; obtain ⟨Ba_0, Ba_1, Ba_2, Ba_3, Ba_4, Ba_5⟩ := row6 Ba.out)
        | fail)
      refine (modDo_any v u s M f a m t Aq nq cq Az nz cz W B _ HS.out HM.out ho sv su HQ.out HZ.out hq (by have h := HQ.out.len; rw [ws_length] at h; have h2 : W.length ≤ 1000 := hqw; have h3 : nq = W.length := h.symm; omega) (by have h := HZ.out.len; rw [bl_length] at h; have h2 : B.length ≤ 3000 := hqb; have h3 : nz = B.length := h.symm; omega)).mono ?_
      rw [← HE2.out]
      rintro e w5 ⟨yd, A6d, n6d, c6d, A7d, n7d, c7d, rfl, YMd, S6d, S7d, k6d, k7d, bd⟩
      clear Bs_0 Bs_1 Bs_2 Bs_3 Bm_0 Bm_1 Bm_2 Bm_3 Ba_0 Ba_1 Ba_2 Ba_3 Ba_4 Ba_5
      have HS := Lib.hid (HS.out.to bd)
      have HM := Lib.hid (HM.out.to bd)
      have HA := Lib.hid (HA.out.to bd)
      have HY := Lib.hid (HY.out.to bd)
      have H5 := Lib.hid (H5.out.to bd)
      have HB := Lib.hid (HB.out.to bd)
      have HW := Lib.hid (HW.out.to bd)
      have HQ := Lib.hid (HQ.out.to bd)
      have HZ := Lib.hid (HZ.out.to bd)
      have Bs := Lib.hid (bd.row (row_lt Bs.out) Bs.out)
      have Bm := Lib.hid (bd.row (row_lt Bm.out) Bm.out)
      have Bn := Lib.hid (bd.row (row_lt Bn.out) Bn.out)
      have Br := Lib.hid (bd.row (row_lt Br.out) Br.out)
      have Ba := Lib.hid (bd.row (row_lt Ba.out) Ba.out)
      have bw := bw.call bd
      have HYd := Lib.hid YMd
      have HBd := Lib.hid S6d
      have HWd := Lib.hid S7d
      clear YMd S6d S7d
      clear bd
      go_wp2_with (first
        | (refine wpList_store_grown rfl 28 (.tmp 13) _ rfl w5.heap.size #[.slice yd.a.A yd.a.n yd.a.c, .slice yd.b.A yd.b.n yd.b.c, .slice yd.c.A yd.c.n yd.c.c, .slice yd.d.A yd.d.n yd.d.c] rfl rfl 28 _ (row_alloc (heap_alloc_new w5 _) _) (by kernel_rfl) rfl (by simp [Value.oneCell']) ?_; intro Wda hda gda sda)
        | (refine wpList_store_grown rfl 36 (.tmp 14) _ rfl (w5.heap.size + 1) #[.int .u8 (f2 : Nat), .int .u8 (x2 : Nat), .slice A6d n6d c6d, .slice A7d n7d c7d, .int .u16 (a2 : Nat), .int .u16 (m2 : Nat)] rfl rfl 36 _ (gda.row (by omega) (heap_alloc2_new w5 _ _)) (by kernel_rfl) rfl (by simp [Value.oneCell']) ?_; intro Wd hdb gdb sdb; have Bmd := Lib.hid (gdb.row (k := w5.heap.size) (by omega) hda); have Brd := Lib.hid hdb; have Cd := below_two gda gdb sda; clear gda gdb sda sdb hda hdb; have HS := Lib.hid (HS.out.to Cd); have HM := Lib.hid (HM.out.to Cd); have HA := Lib.hid (HA.out.to Cd); have HY := Lib.hid (HY.out.to Cd); have H5 := Lib.hid (H5.out.to Cd); have HB := Lib.hid (HB.out.to Cd); have HW := Lib.hid (HW.out.to Cd); have HQ := Lib.hid (HQ.out.to Cd); have HZ := Lib.hid (HZ.out.to Cd); have HYd := Lib.hid (HYd.out.to Cd); have HBd := Lib.hid (HBd.out.to Cd); have HWd := Lib.hid (HWd.out.to Cd); have Bs := Lib.hid (Cd.row (row_lt Bs.out) Bs.out); have Bm := Lib.hid (Cd.row (row_lt Bm.out) Bm.out); have Bn := Lib.hid (Cd.row (row_lt Bn.out) Bn.out); have Br := Lib.hid (Cd.row (row_lt Br.out) Br.out); have Ba := Lib.hid (Cd.row (row_lt Ba.out) Ba.out); have bw := bw.call Cd; clear Cd; obtain ⟨Bn_0, Bn_1, Bn_2, Bn_3⟩ := row4 Bn.out; obtain ⟨Bmd_0, Bmd_1, Bmd_2, Bmd_3⟩ := row4 Bmd.out)
        | fail)
      have sy : y.Small := small_of HY.out hNl
      have sd : yd.Small := small_of HYd.out (do_small HE2.out su HM.out)
      refine (lawSame7_any y yd N M2 _ HY.out HYd.out sy sd).mono ?_
      rw [HN.out, sameM_self]
      rintro e w6 ⟨rfl, b6⟩
      clear Bn_0 Bn_1 Bn_2 Bn_3 Bmd_0 Bmd_1 Bmd_2 Bmd_3
      have HS := Lib.hid (HS.out.to b6)
      have HM := Lib.hid (HM.out.to b6)
      have HA := Lib.hid (HA.out.to b6)
      have HY := Lib.hid (HY.out.to b6)
      have H5 := Lib.hid (H5.out.to b6)
      have HB := Lib.hid (HB.out.to b6)
      have HW := Lib.hid (HW.out.to b6)
      have HQ := Lib.hid (HQ.out.to b6)
      have HZ := Lib.hid (HZ.out.to b6)
      have HYd := Lib.hid (HYd.out.to b6)
      have HBd := Lib.hid (HBd.out.to b6)
      have HWd := Lib.hid (HWd.out.to b6)
      have Bs := Lib.hid (b6.row (row_lt Bs.out) Bs.out)
      have Bm := Lib.hid (b6.row (row_lt Bm.out) Bm.out)
      have Bn := Lib.hid (b6.row (row_lt Bn.out) Bn.out)
      have Br := Lib.hid (b6.row (row_lt Br.out) Br.out)
      have Ba := Lib.hid (b6.row (row_lt Ba.out) Ba.out)
      have Bmd := Lib.hid (b6.row (row_lt Bmd.out) Bmd.out)
      have Brd := Lib.hid (b6.row (row_lt Brd.out) Brd.out)
      have bw := bw.call b6
      clear b6
      obtain ⟨Br_0, Br_1, Br_2, Br_3, Br_4, Br_5⟩ := row6 Br.out
      obtain ⟨Brd_0, Brd_1, Brd_2, Brd_3, Brd_4, Brd_5⟩ := row6 Brd.out
      go_wp2_with fail
      have h61 : nw ≤ 1000000 := by have h := HW.out.len; rw [ws_length] at h; have h2 : nw = pW.length := h.symm; omega
      have h62 : nb ≤ 1000000 := by have h := HB.out.len; rw [bl_length] at h; have h2 : nb = pB.length := h.symm; omega
      have h63 : n7d ≤ 1000000 := by have h := HWd.out.len; rw [ws_length] at h; have h2 : n7d = W2.length := h.symm; have h4 := congrArg (fun q : Rep => q.words.length) HP.out; dsimp only at h4; omega
      have h64 : n6d ≤ 1000000 := by have h := HBd.out.len; rw [bl_length] at h; have h2 : n6d = B2.length := h.symm; have h4 := congrArg (fun q : Rep => q.bits.length) HP.out; dsimp only at h4; omega
      have KS := repSame_any pf px Ab nb cb Aw nw cw pa pm f2 x2 A6d n6d c6d A7d n7d c7d a2 m2 pB B2 pW W2 _ HW.out HB.out HWd.out HBd.out h61 h62 h63 h64
      rw [rep_same_true HP.out] at KS
      refine (KS).mono ?_
      rintro e w7 ⟨rfl, b7⟩
      clear Br_0 Br_1 Br_2 Br_3 Br_4 Br_5 Brd_0 Brd_1 Brd_2 Brd_3 Brd_4 Brd_5
      have HS := Lib.hid (HS.out.to b7)
      have HM := Lib.hid (HM.out.to b7)
      have HA := Lib.hid (HA.out.to b7)
      have HY := Lib.hid (HY.out.to b7)
      have H5 := Lib.hid (H5.out.to b7)
      have HB := Lib.hid (HB.out.to b7)
      have HW := Lib.hid (HW.out.to b7)
      have HQ := Lib.hid (HQ.out.to b7)
      have HZ := Lib.hid (HZ.out.to b7)
      have HYd := Lib.hid (HYd.out.to b7)
      have HBd := Lib.hid (HBd.out.to b7)
      have HWd := Lib.hid (HWd.out.to b7)
      have Bs := Lib.hid (b7.row (row_lt Bs.out) Bs.out)
      have Bm := Lib.hid (b7.row (row_lt Bm.out) Bm.out)
      have Bn := Lib.hid (b7.row (row_lt Bn.out) Bn.out)
      have Br := Lib.hid (b7.row (row_lt Br.out) Br.out)
      have Ba := Lib.hid (b7.row (row_lt Ba.out) Ba.out)
      have Bmd := Lib.hid (b7.row (row_lt Bmd.out) Bmd.out)
      have Brd := Lib.hid (b7.row (row_lt Brd.out) Brd.out)
      have bw := bw.call b7
      clear b7
      go_wp2_with (go_at_call 10; refine (awake7_any _).mono ?_; rintro e wa ⟨rfl, ba⟩)
      go_ret
      exact ⟨rfl, bw.call ba⟩
    case neg =>
      obtain ⟨hP, hN⟩ := hL3 h0
      have P0 : ((x : Int) != 0) = true := by rw [bne_iff_ne]; omega
      have HN := Lib.hid hN
      have HP := Lib.hid hP
      have hf8 : f < 256 := hq.f
      clear hL3 hL4 hP hN
      go_enter Try.func7, Try.ntmps7
      go_wp2_with fail
      refine (light_any v u _ hv).mono ?_
      rintro e w1 ⟨rfl, b1⟩
      have X1 := Bx.first b1
      have bw := X1.bel
      have HS := Lib.hid (hS.to bw)
      have HM := Lib.hid (hM.to bw)
      have HA := Lib.hid (hs.to bw)
      have Bs := Lib.hid X1.x
      have Bm := Lib.hid X1.y
      clear b1 X1 hS hM hs
      rw [hL]
      obtain ⟨Bs_0, Bs_1, Bs_2, Bs_3⟩ := row4 Bs.out
      obtain ⟨Bm_0, Bm_1, Bm_2, Bm_3⟩ := row4 Bm.out
      go_wp2_with fail
      refine (modServe_any v u s M A k c xs _ HS.out HM.out ho hm sv su HA.out HX.out hk3 hc).mono ?_
      rw [← HEV.out]
      rintro e w2 ⟨y, A5, n5, c5, rfl, YM, S5, k5, b2⟩
      clear Bs_0 Bs_1 Bs_2 Bs_3 Bm_0 Bm_1 Bm_2 Bm_3
      have HS := Lib.hid (HS.out.to b2)
      have HM := Lib.hid (HM.out.to b2)
      have HA := Lib.hid (HA.out.to b2)
      have Bs := Lib.hid (b2.row (row_lt Bs.out) Bs.out)
      have Bm := Lib.hid (b2.row (row_lt Bm.out) Bm.out)
      have bw := bw.call b2
      have HY := Lib.hid YM
      have H5 := Lib.hid S5
      clear YM S5
      clear b2
      go_wp2_with (first
        | (refine wpList_store_grown rfl 28 (.tmp 7) _ rfl w2.heap.size #[.slice y.a.A y.a.n y.a.c, .slice y.b.A y.b.n y.b.c, .slice y.c.A y.c.n y.c.c, .slice y.d.A y.d.n y.d.c] rfl rfl 28 _ (heap_alloc_new w2 _) (by kernel_rfl) rfl (by simp [Value.oneCell']) ?_; intro Wn hn gn sn; have Bn := Lib.hid hn; have Cn := below_one gn; clear hn gn sn; have HS := Lib.hid (HS.out.to Cn); have HM := Lib.hid (HM.out.to Cn); have HA := Lib.hid (HA.out.to Cn); have HY := Lib.hid (HY.out.to Cn); have H5 := Lib.hid (H5.out.to Cn); have Bs := Lib.hid (Cn.row (row_lt Bs.out) Bs.out); have Bm := Lib.hid (Cn.row (row_lt Bm.out) Bm.out); have bw := bw.call Cn; clear Cn; obtain ⟨Bs_0, Bs_1, Bs_2, Bs_3⟩ := row4 Bs.out)
        | fail)
      have h55 : n5 ≤ 300 := by have h := H5.out.len; rw [bs_length] at h; have h2 : n5 = L.length := h.symm; omega
      refine (repParse_any A5 n5 c5 L _ H5.out hLb h55 k5).mono ?_
      rw [HPP.out]
      rintro e w3 ⟨Ab, nb, cb, Aw, nw, cw, rfl, SB, SW, kb, kw, ob, ow, b3⟩
      clear Bs_0 Bs_1 Bs_2 Bs_3
      have HS := Lib.hid (HS.out.to b3)
      have HM := Lib.hid (HM.out.to b3)
      have HA := Lib.hid (HA.out.to b3)
      have HY := Lib.hid (HY.out.to b3)
      have H5 := Lib.hid (H5.out.to b3)
      have Bs := Lib.hid (b3.row (row_lt Bs.out) Bs.out)
      have Bm := Lib.hid (b3.row (row_lt Bm.out) Bm.out)
      have Bn := Lib.hid (b3.row (row_lt Bn.out) Bn.out)
      have bw := bw.call b3
      have HB := Lib.hid SB
      have HW := Lib.hid SW
      clear SB SW ob ow h55
      clear b3
      go_wp2_with (first
        | (refine wpList_store_grown rfl 36 (.tmp 9) _ rfl w3.heap.size #[.int .u8 (pf : Nat), .int .u8 (px : Nat), .slice Ab nb cb, .slice Aw nw cw, .int .u16 (pa : Nat), .int .u16 (pm : Nat)] rfl rfl 36 _ (heap_alloc_new w3 _) (by kernel_rfl) rfl (by simp [Value.oneCell']) ?_; intro Wr hr gr sr; have Br := Lib.hid hr; have Cr := below_one gr; clear hr gr sr; have HS := Lib.hid (HS.out.to Cr); have HM := Lib.hid (HM.out.to Cr); have HA := Lib.hid (HA.out.to Cr); have HY := Lib.hid (HY.out.to Cr); have H5 := Lib.hid (H5.out.to Cr); have HB := Lib.hid (HB.out.to Cr); have HW := Lib.hid (HW.out.to Cr); have Bs := Lib.hid (Cr.row (row_lt Bs.out) Bs.out); have Bm := Lib.hid (Cr.row (row_lt Bm.out) Bm.out); have Bn := Lib.hid (Cr.row (row_lt Bn.out) Bn.out); have bw := bw.call Cr; clear Cr; obtain ⟨Bs_0, Bs_1, Bs_2, Bs_3⟩ := row4 Bs.out)
        | fail)
      refine (look_any A k c xs _ HA.out HX.out hk3 hc).mono ?_
      rw [← HEK.out]
      rintro e w4 ⟨Aq, nq, cq, Az, nz, cz, rfl, SQ, SZ, kq, kz, oq, oz, b4⟩
      clear Bs_0 Bs_1 Bs_2 Bs_3
      have HS := Lib.hid (HS.out.to b4)
      have HM := Lib.hid (HM.out.to b4)
      have HA := Lib.hid (HA.out.to b4)
      have HY := Lib.hid (HY.out.to b4)
      have H5 := Lib.hid (H5.out.to b4)
      have HB := Lib.hid (HB.out.to b4)
      have HW := Lib.hid (HW.out.to b4)
      have Bs := Lib.hid (b4.row (row_lt Bs.out) Bs.out)
      have Bm := Lib.hid (b4.row (row_lt Bm.out) Bm.out)
      have Bn := Lib.hid (b4.row (row_lt Bn.out) Bn.out)
      have Br := Lib.hid (b4.row (row_lt Br.out) Br.out)
      have bw := bw.call b4
      have HQ := Lib.hid SQ
      have HZ := Lib.hid SZ
      clear SQ SZ oq oz
      clear b4
      go_wp2_with (first
        | (refine wpList_store_grown rfl 31 (.tmp 11) _ rfl w4.heap.size #[.int .u8 (f : Nat), .int .u16 (a : Nat), .int .u16 (m : Nat), .int .u16 (t : Nat), .slice Aq nq cq, .slice Az nz cz] rfl rfl 31 _ (heap_alloc_new w4 _) (by kernel_rfl) rfl (by simp [Value.oneCell']) ?_; intro Wa ha ga sa; have Ba := Lib.hid ha; have Ca := below_one ga; clear ha ga sa; have HS := Lib.hid (HS.out.to Ca); have HM := Lib.hid (HM.out.to Ca); have HA := Lib.hid (HA.out.to Ca); have HY := Lib.hid (HY.out.to Ca); have H5 := Lib.hid (H5.out.to Ca); have HB := Lib.hid (HB.out.to Ca); have HW := Lib.hid (HW.out.to Ca); have HQ := Lib.hid (HQ.out.to Ca); have HZ := Lib.hid (HZ.out.to Ca); have Bs := Lib.hid (Ca.row (row_lt Bs.out) Bs.out); have Bm := Lib.hid (Ca.row (row_lt Bm.out) Bm.out); have Bn := Lib.hid (Ca.row (row_lt Bn.out) Bn.out); have Br := Lib.hid (Ca.row (row_lt Br.out) Br.out); have bw := bw.call Ca; clear Ca; obtain ⟨Bn_0, Bn_1, Bn_2, Bn_3⟩ := row4 Bn.out; obtain ⟨Bm_0, Bm_1, Bm_2, Bm_3⟩ := row4 Bm.out; obtain ⟨Br_0, Br_1, Br_2, Br_3, Br_4, Br_5⟩ := row6 Br.out; obtain ⟨Ba_0, Ba_1, Ba_2, Ba_3, Ba_4, Ba_5⟩ := row6 Ba.out)
        | fail)
      have HKP := Lib.hid (fun (w' : World) (b : Below Wa.heap.size Wa w') => (⟨b, (row4 (b.row (row_lt Bn.out) Bn.out)).1, (row4 (b.row (row_lt Bn.out) Bn.out)).2.1, (row4 (b.row (row_lt Bn.out) Bn.out)).2.2.1, (row4 (b.row (row_lt Bn.out) Bn.out)).2.2.2, (row4 (b.row (row_lt Bm.out) Bm.out)).1, (row4 (b.row (row_lt Bm.out) Bm.out)).2.1, (row4 (b.row (row_lt Bm.out) Bm.out)).2.2.1, (row4 (b.row (row_lt Bm.out) Bm.out)).2.2.2, (row6 (b.row (row_lt Br.out) Br.out)).1, (row6 (b.row (row_lt Br.out) Br.out)).2.1, (row6 (b.row (row_lt Br.out) Br.out)).2.2.1, (row6 (b.row (row_lt Br.out) Br.out)).2.2.2.1, (row6 (b.row (row_lt Br.out) Br.out)).2.2.2.2.1, (row6 (b.row (row_lt Br.out) Br.out)).2.2.2.2.2, (row6 (b.row (row_lt Ba.out) Ba.out)).1⟩ : Below Wa.heap.size Wa w' ∧ w'.cell? ⟨w2.heap.size, 0, none⟩ = some (.slice y.a.A y.a.n y.a.c) ∧ w'.cell? ⟨w2.heap.size, 1, none⟩ = some (.slice y.b.A y.b.n y.b.c) ∧ w'.cell? ⟨w2.heap.size, 2, none⟩ = some (.slice y.c.A y.c.n y.c.c) ∧ w'.cell? ⟨w2.heap.size, 3, none⟩ = some (.slice y.d.A y.d.n y.d.c) ∧ w'.cell? ⟨w.heap.size + 1, 0, none⟩ = some (.slice u.a.A u.a.n u.a.c) ∧ w'.cell? ⟨w.heap.size + 1, 1, none⟩ = some (.slice u.b.A u.b.n u.b.c) ∧ w'.cell? ⟨w.heap.size + 1, 2, none⟩ = some (.slice u.c.A u.c.n u.c.c) ∧ w'.cell? ⟨w.heap.size + 1, 3, none⟩ = some (.slice u.d.A u.d.n u.d.c) ∧ w'.cell? ⟨w3.heap.size, 0, none⟩ = some (.int .u8 (pf : Nat)) ∧ w'.cell? ⟨w3.heap.size, 1, none⟩ = some (.int .u8 (px : Nat)) ∧ w'.cell? ⟨w3.heap.size, 2, none⟩ = some (.slice Ab nb cb) ∧ w'.cell? ⟨w3.heap.size, 3, none⟩ = some (.slice Aw nw cw) ∧ w'.cell? ⟨w3.heap.size, 4, none⟩ = some (.int .u16 (pa : Nat)) ∧ w'.cell? ⟨w3.heap.size, 5, none⟩ = some (.int .u16 (pm : Nat)) ∧ w'.cell? ⟨w4.heap.size, 0, none⟩ = some (.int .u8 (f : Nat))))
      have sy : y.Small := small_of HY.out hNl
      have h61 : nw ≤ 1000000 := by have h := HW.out.len; rw [ws_length] at h; have h2 : nw = pW.length := h.symm; omega
      have h62 : nb ≤ 1000000 := by have h := HB.out.len; rw [bl_length] at h; have h2 : nb = pB.length := h.symm; omega
      have KS := Lib.hid (fun Y (b : Below Wa.heap.size Wa Y) => lawSame7_any y u N M Y (HY.out.to b) (HM.out.to b) sy su)
      rw [HN.out, sameM_self] at KS
      have KT := Lib.hid (fun Y (b : Below Wa.heap.size Wa Y) Ag ng cg Ah nh ch (SG : Sl Y Y.heap.size Ag ng (bl [])) (SH : Sl Y Y.heap.size Ah nh (ws [])) (hng : ng ≤ 1000000) (hnh : nh ≤ 1000000) => repSame_any pf px Ab nb cb Aw nw cw pa pm (f % 128) x Ag ng cg Ah nh ch 0 0 pB [] pW [] Y (HW.out.to b) (HB.out.to b) SH SG h61 h62 hnh hng)
      rw [rep_same_true HP.out] at KT
      go_region_held3 (fun w' => Below Wa.heap.size Wa w' ∧ w'.cell? ⟨w2.heap.size, 0, none⟩ = some (.slice y.a.A y.a.n y.a.c) ∧ w'.cell? ⟨w2.heap.size, 1, none⟩ = some (.slice y.b.A y.b.n y.b.c) ∧ w'.cell? ⟨w2.heap.size, 2, none⟩ = some (.slice y.c.A y.c.n y.c.c) ∧ w'.cell? ⟨w2.heap.size, 3, none⟩ = some (.slice y.d.A y.d.n y.d.c) ∧ w'.cell? ⟨w.heap.size + 1, 0, none⟩ = some (.slice u.a.A u.a.n u.a.c) ∧ w'.cell? ⟨w.heap.size + 1, 1, none⟩ = some (.slice u.b.A u.b.n u.b.c) ∧ w'.cell? ⟨w.heap.size + 1, 2, none⟩ = some (.slice u.c.A u.c.n u.c.c) ∧ w'.cell? ⟨w.heap.size + 1, 3, none⟩ = some (.slice u.d.A u.d.n u.d.c) ∧ w'.cell? ⟨w3.heap.size, 0, none⟩ = some (.int .u8 (pf : Nat)) ∧ w'.cell? ⟨w3.heap.size, 1, none⟩ = some (.int .u8 (px : Nat)) ∧ w'.cell? ⟨w3.heap.size, 2, none⟩ = some (.slice Ab nb cb) ∧ w'.cell? ⟨w3.heap.size, 3, none⟩ = some (.slice Aw nw cw) ∧ w'.cell? ⟨w3.heap.size, 4, none⟩ = some (.int .u16 (pa : Nat)) ∧ w'.cell? ⟨w3.heap.size, 5, none⟩ = some (.int .u16 (pm : Nat)) ∧ w'.cell? ⟨w4.heap.size, 0, none⟩ = some (.int .u8 (f : Nat)))
        (first | exact HKP.out _ hbd | exact HKP.out _ (Below.refl _ _) | exact HKP.out _ (Below.refl _ _).drew)
        (first
          | (go_at_call 13; refine (KS.out _ (by first | exact hbd | exact (Below.refl _ _).drew)).mono ?_; rintro e ws ⟨rfl, bs⟩; have hbd := Below.call (a := Wa) (by first | assumption | exact (Below.refl _ _).drew) bs)
          | (go_at_call 22; refine (wrong2_any f x hf8 _).mono ?_; rintro e wt ⟨Ag, ng, cg, Ah, nh, ch, rfl, SG, SH, kg, kh, og, oh, bt⟩; have hbd := Below.call (a := Wa) (by first | assumption | exact (Below.refl _ _).drew) bt; have HSG := Lib.hid SG; have HSH := Lib.hid SH; clear SG SH og oh)
          | (go_at_call 18; refine (KT.out _ hbd Ag ng cg Ah nh ch HSG.out HSH.out (by have h := HSG.out.len; rw [bl_length] at h; rw [← h]; exact Nat.zero_le _) (by have h := HSH.out.len; rw [ws_length] at h; rw [← h]; exact Nat.zero_le _)).mono ?_; rintro e wr ⟨rfl, br⟩; have hbd := Below.call (a := Wa) (by first | assumption | exact (Below.refl _ _).drew) br)
          | (go_at_call 10; refine (awake7_any _).mono ?_; rintro e wa ⟨rfl, ba⟩; have hbd := Below.call (a := Wa) (by first | assumption | exact (Below.refl _ _).drew) ba))
      go_wp2_with fail
      go_ret
      exact ⟨rfl, bw.trans (hbd.mono bw.size)⟩
end Go.Proofs.Ytiibopdnlmnkmaa.MoW
