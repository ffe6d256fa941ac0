/- The walk of DiskKeeps (layer 9), over the contracts DiskK. -/
import Derived.Test.YtljiehnpknbohaaDkT
import Derived.Test.YtljiehnpknbohaaDkKM
set_option linter.unusedVariables false
set_option linter.unusedSimpArgs false
namespace Go.Proofs.Ytljiehnpknbohaa.DkW
open Go.RowKit Go.Proofs.Ytljiehnpknbohaa Go.Proofs.Ytljiehnpknbohaa.Dk
theorem Has.far {w0 w : World} {e : TypeId} {A : Option Addr} {n c : Nat} {xs : List Value} (h : Has w0 w e (.slice A n c) n xs) : ∀ b o, A = some (⟨b, o, none⟩ : Addr) → w0.heap.size ≤ b := by
  intro b o e
  rcases h.own.2 with ⟨h1, _⟩ | ⟨g, cap, cur, h1, hb, _⟩
  · injection h1 with h1 _ _
    rw [e] at h1; cases h1
  · injection h1 with h1 _ _
    rw [e] at h1
    injection h1 with h1
    injection h1 with h1 _ _
    omega
theorem keepK {X : World} {g1 : Nat} {t1 : TypeId} {a0 a1 a2 : Value} (r0 : X.heap[g1]? = some (.cells #[a0, a1, a2] t1 (0, 0))) :
    X.cell? ⟨g1, 0, none⟩ = some a0 ∧ X.cell? ⟨g1, 1, none⟩ = some a1 ∧ X.cell? ⟨g1, 2, none⟩ = some a2 :=
  ⟨cell_of_row X g1 0 _ _ _ r0, cell_of_row X g1 1 _ _ _ r0, cell_of_row X g1 2 _ _ _ r0⟩
set_option maxRecDepth 10000 in
set_option maxHeartbeats 8000000 in
theorem diskKeeps_any (K : DiskK) (r : Nat) (A : Option Addr) (n c : Nat) (L : List Deed) (w : World) (h : Os w A n L) (ho : Oks L) (hc : n ≤ c) (hr : r < 65536) :
    Calls Try.prog 4 #[.int .u16 (r : Nat), .slice A n c] w fun e w' => e = .returned (.bool true) ∧ Below w.heap.size w w' := by
  have HK := Lib.hid K
  obtain ⟨m, hm⟩ : ∃ m, m = min n 60 := ⟨_, rfl⟩
  have hlen := h.len
  have hmn : m ≤ n := by omega
  have hm60 : m ≤ 60 := by omega
  have HLI := Lib.hid (light_is L n m hlen hm)
  have HO := Lib.hid h
  have HM := Lib.hid hm
  have HT := Lib.hid (h.take hmn)
  have HQ := Lib.hid (ho.take m)
  obtain ⟨s, es⟩ : ∃ s, s = r % 2001 := ⟨_, rfl⟩
  have hs1 : (r : Int) % 2001 = (s : Int) := by omega
  have hs2 : s ≤ 2000 := by omega
  have hs3 := w64 (show s ≤ 9223372036854775807 by omega)
  clear h ho hm es
  go_enter Try.func4, Try.ntmps4
  go_wp2_with fail
  refine (HK.out.new s _ (by omega)).mono ?_
  rintro e w1 ⟨p, S, rfl, D1, b1⟩
  go_wp2_with fail
  refine (light_any A n c L _ (HO.out.to b1) hc m HM.out).mono ?_
  rintro e w2 ⟨he, b2⟩
  have B2 := b1.call b2
  have D2 := D1.to b2
  clear b1 b2 D1
  by_cases hl : light L = true
  case neg =>
    rw [if_neg hl] at he
    subst he
    clear hl
    go_wp2_with fail
    refine (awake9_any HK.out _).mono ?_
    rintro e w3 ⟨rfl, b3⟩
    go_wp2_with fail
    go_ret
    exact ⟨rfl, B2.call b3⟩
  rw [if_pos hl] at he
  subst he
  have HL := Lib.hid (show (L.take m).all few = true by rw [← HLI.out]; exact hl)
  clear hl HLI
  obtain ⟨d0, ed⟩ : ∃ d0, d0 = Dk.new s := ⟨_, rfl⟩
  rw [← ed] at D2
  clear ed
  go_wp2_with fail
  go_loopw [40] (fun i wr => ∃ k : Nat, ∃ d : D, ∃ S' : Nat → Prop, k ≤ m ∧ i = .int .i64 k ∧ Dk wr w.heap.size S' p d ∧ Below w.heap.size w wr) (fun i _ => m - (intOf i).toNat)
  case atStart => exact ⟨0, d0, S, by omega, rfl, D2, B2⟩
  case round =>
    obtain ⟨k, d, S', hk, rfl, HD, bw⟩ := hrel
    clear D2 B2
    by_cases hlt : k < m
    · have hlt' : (k : Int) < (m : Int) := by omega
      have y0 : (0 : Int) ≤ (k : Int) := by omega
      obtain ⟨b, o, rfl, hbb, C, mq, cq, e0, e1, e2, SC, hcq⟩ := HT.out.atc (i := k) hlt
      have d0 := (bw.cell (p := ⟨b, o + k * 3, none⟩) hbb).trans e0
      have d1 := (bw.cell (p := ⟨b, o + k * 3 + 1, none⟩) hbb).trans e1
      have d2 := (bw.cell (p := ⟨b, o + k * 3 + 2, none⟩) hbb).trans e2
      have hq := HQ.out.at k
      have hq2 := light_at HL.out hlt (by omega)
      have hmq : ((L.take m)[k]?.getD op0).b.length = mq := by simpa using SC.len
      rw [hmq] at hq2
      clear e0 e1 e2
      obtain ⟨q, eq⟩ : ∃ q, q = (L.take m)[k]?.getD op0 := ⟨_, rfl⟩
      rw [← eq] at d0 d2 hq SC hmq
      clear eq
      have HAW := Lib.hid (Away.low SC HD.lo)
      have HSC := Lib.hid (SC.to (bw.new (.cells #[.int .u8 (q.what : Nat), .slice C mq cq, .int .i64 q.n] 35)))
      have hq0 := Lib.hid hq
      have HD0 := Lib.hid (HD.to ((Below.refl _ wr).new (.cells #[.int .u8 (q.what : Nat), .slice C mq cq, .int .i64 q.n] 35)))
      have HHD := Lib.hid HD
      have h5 : q.what % 5 < 5 := Nat.mod_lt _ (by omega)
      obtain ⟨j, ej⟩ : ∃ j, j = q.what % 5 := ⟨_, rfl⟩
      have hw5 : (q.what : Int) % 5 = (j : Int) := by omega
      have HA := act_kept HD.ok hq ej
      rw [← ej] at h5
      obtain ⟨R, hR⟩ : ∃ R, R = act d q := ⟨_, rfl⟩
      have HAR := Lib.hid hR
      rw [← hR] at HA
      obtain ⟨f, x⟩ := R
      dsimp only at HA
      obtain ⟨nd, end_⟩ : ∃ nd, nd = d.b.length := ⟨_, rfl⟩
      obtain ⟨nf, enf⟩ : ∃ nf, nf = f.b.length := ⟨_, rfl⟩
      obtain ⟨sd, esd⟩ : ∃ sd, sd = d.safe := ⟨_, rfl⟩
      obtain ⟨sf, esf⟩ : ∃ sf, sf = f.safe := ⟨_, rfl⟩
      obtain ⟨rm, erm⟩ : ∃ rm, rm = f.room := ⟨_, rfl⟩
      have i1 : ¬ nd < sd := by have := HD.ok.safe; omega
      have i2 : ¬ nf < sf := by have := HA.fok.safe; omega
      have i3 : ¬ rm < nf := by have := HA.fok.len; omega
      have i4 : nf ≤ 262144 := by have := HA.fok.len; have := HA.fok.room; omega
      have i5 : nd ≤ 262144 := by have := HD.ok.len; have := HD.ok.room; omega
      have HB := Lib.hid HD.ok.bytes
      have END := Lib.hid end_
      have ENF := Lib.hid enf
      have ESD := Lib.hid esd
      have ESF := Lib.hid esf
      have ERM := Lib.hid erm
      have HAK := Lib.hid HA
      have HMQ := Lib.hid hmq
      clear SC hq ej HD hmq hR HA end_ enf esd esf erm
      go_upto_region 8 with fail
      obtain ⟨W, hW⟩ : ∃ W, W = wr.alloc (.cells #[.int .u8 (q.what : Nat), .slice C mq cq, .int .i64 q.n] 35) := ⟨_, rfl⟩
      have r1 : W.heap[wr.heap.size]? = some (.cells #[.int .u8 (q.what : Nat), .slice C mq cq, .int .i64 q.n] 35 (0, 0)) := by rw [hW]; exact heap_alloc_new _ _
      have BW : Below w.heap.size w W := by rw [hW]; exact bw.new _
      rw [← hW] at HSC HD0 ⊢
      have lw : wr.heap.size < W.heap.size := row_lt r1
      clear hW d0 d1 d2
      go_wp2_with fail
      refine (HK.out.bytes d w.heap.size S' p _ HD0.out).mono ?_
      rintro e w4 ⟨v4, rfl, hv⟩
      have hv : Has W w4 5 v4 nd (bs d.b) := by rw [END.out]; exact hv
      obtain ⟨Aw, cw, rfl, hcw, sw, -⟩ := hv.slice
      have NW := Lib.hid (Away.fresh (n := nd) (Has.far hv) HD0.out.hi)
      have bv := hv.bel
      have r1 := bv.row (row_lt r1) r1
      have B4 := BW.call bv
      have HD4 := Lib.hid (HD0.out.to bv)
      have HSC4 := Lib.hid (HSC.out.to bv)
      have HSW4 := Lib.hid sw
      clear bv HD0 HSC BW hv sw
      go_wp2_with fail
      refine (HK.out.safe d w.heap.size S' p _ HD4.out).mono ?_
      rw [← ESD.out]
      rintro e w5 ⟨rfl, b5⟩
      have r1 := b5.row (row_lt r1) r1
      have B5 := B4.call b5
      have HD5 := Lib.hid (HD4.out.to b5)
      have HSC5 := Lib.hid (HSC4.out.to b5)
      have HSW5 := Lib.hid (HSW4.out.to b5)
      clear b5 HD4 HSC4 HSW4 B4
      have hob : wr.heap.size < w5.heap.size := row_lt r1
      obtain ⟨a0, a1, a2⟩ := keepK r1
      go_wp2_with fail
      refine (do_any HK.out d q w.heap.size S' p C mq cq _ HD5.out hq0.out HSC5.out HAW.out (by omega)).mono ?_
      rw [← HAR.out]
      rintro e w6 ⟨rfl, S6, D6, st, hS⟩
      have B6 := B5.trans (st.below B5.size HHD.out.lo)
      have r1 := st.row (fun hs => by have := HHD.out.hi _ hs; omega) r1
      have HD6 := Lib.hid D6
      have HSC6 := Lib.hid (Sl.stays HSC5.out st HAW.out)
      have HSW6 := Lib.hid (Sl.stays HSW5.out st NW.out)
      clear st hS D6 HSC5 HSW5 HD5 B5 a0 a1 a2 HAW NW
      go_wp2_with fail
      refine (HK.out.bytes f w.heap.size S6 p _ HD6.out).mono ?_
      rintro e w7 ⟨v7, rfl, hv⟩
      have hv : Has w6 w7 5 v7 nf (bs f.b) := by rw [ENF.out]; exact hv
      obtain ⟨An, cn, rfl, hcn, sn, -⟩ := hv.slice
      have bv := hv.bel
      have r1 := bv.row (row_lt r1) r1
      have B7 := B6.call bv
      have HD7 := Lib.hid (HD6.out.to bv)
      have HSC7 := Lib.hid (HSC6.out.to bv)
      have HSW7 := Lib.hid (HSW6.out.to bv)
      have HSN7 := Lib.hid sn
      clear bv HD6 HSC6 HSW6 B6 hv sn
      go_wp2_with fail
      refine (HK.out.safe f w.heap.size S6 p _ HD7.out).mono ?_
      rw [← ESF.out]
      rintro e w8 ⟨rfl, bb⟩
      have r1 := bb.row (row_lt r1) r1
      have B8 := B7.call bb
      have HD8 := Lib.hid (HD7.out.to bb)
      have HSC8 := Lib.hid (HSC7.out.to bb)
      have HSW8 := Lib.hid (HSW7.out.to bb)
      have HSN8 := Lib.hid (HSN7.out.to bb)
      clear bb B7 HD7 HSC7 HSW7 HSN7
      go_wp2_with fail
      refine (HK.out.len f w.heap.size S6 p _ HD8.out).mono ?_
      rw [← ENF.out]
      rintro e w9 ⟨rfl, bb⟩
      have r1 := bb.row (row_lt r1) r1
      have B9 := B8.call bb
      have HD9 := Lib.hid (HD8.out.to bb)
      have HSC9 := Lib.hid (HSC8.out.to bb)
      have HSW9 := Lib.hid (HSW8.out.to bb)
      have HSN9 := Lib.hid (HSN8.out.to bb)
      clear bb B8 HD8 HSC8 HSW8 HSN8
      go_wp2_with fail
      refine (HK.out.room f w.heap.size S6 p _ HD9.out).mono ?_
      rw [← ERM.out]
      rintro e w10 ⟨rfl, bb⟩
      have r1 := bb.row (row_lt r1) r1
      have B10 := B9.call bb
      have HD10 := Lib.hid (HD9.out.to bb)
      have HSC10 := Lib.hid (HSC9.out.to bb)
      have HSW10 := Lib.hid (HSW9.out.to bb)
      have HSN10 := Lib.hid (HSN9.out.to bb)
      clear bb B9 HD9 HSC9 HSW9 HSN9
      obtain ⟨a0, a1, a2⟩ := keepK r1
      rcases show j = 0 ∨ j = 1 ∨ j = 2 ∨ j = 3 ∨ j = 4 from by omega with rfl | rfl | rfl | rfl | rfl
      · by_cases h9 : x = 0
        · obtain ⟨g1, g2, g3, g4, g5, g6⟩ := HAK.out.k0 rfl
          have hmq : q.b.length = mq := HMQ.out
          rw [← ENF.out, ← END.out] at g3 g4 g5 g6
          rw [hmq] at g4 g5 g6
          have hb1 := Lib.hid (show (f.b.take (min nd nf) == d.b) = true by rw [ENF.out, END.out, g1]; exact beq_self_eq_true _)
          have hb2 := Lib.hid (show (q.b.take (min (nf - nd) mq) == f.b.drop nd) = true by rw [ENF.out, END.out, ← hmq, g2]; exact beq_self_eq_true _)
          clear g1 g2 hmq
          subst h9
          have g7 : nf = nd + mq := g4 rfl
          have hwr : IntKind.i64.wrap ((nd : Int) + (mq : Int)) = (nf : Int) := by rw [g7]; exact w64 (show nd + mq ≤ 9223372036854775807 by omega)
          clear g7
          clear g4 g5 g6
          have hbeg := Lib.hid (show (f.b.take (min sd nf) == d.b.take sd) = true by rw [ESD.out, ENF.out, (HAK.out.keep (fun h => absurd h.1 (by decide))).2]; exact beq_self_eq_true _)
          have i6 : ¬ sf < sd := by have := (HAK.out.keep (fun h => absurd h.1 (by decide))).1; rw [← ESD.out, ← ESF.out] at this; omega
          have z0 : (0 : Int) ≤ (sd : Int) := by omega
          have z1 : (sd : Int) ≤ (cw : Int) := by omega
          go_wp2_with fail
          refine (HK.out.safe f w.heap.size S6 p _ HD10.out).mono ?_
          rw [← ESF.out]
          rintro e w11 ⟨rfl, bb⟩
          have r1 := bb.row (row_lt r1) r1
          have B11 := B10.call bb
          have HD11 := Lib.hid (HD10.out.to bb)
          have HSC11 := Lib.hid (HSC10.out.to bb)
          have HSW11 := Lib.hid (HSW10.out.to bb)
          have HSN11 := Lib.hid (HSN10.out.to bb)
          clear bb B10 HD10 HSC10 HSW10 HSN10
          obtain ⟨a0, a1, a2⟩ := keepK r1
          go_wp2_with fail
          refine (begins_any An Aw nf cn sd cw f.b (d.b.take sd) _ HSN11.out HAK.out.fok.bytes hcn (by rw [← bs_take]; exact HSW11.out.take (by omega)) (HB.out.take _)).mono ?_
          rw [hbeg.out]
          rintro e w12 ⟨rfl, rfl⟩
          go_upto_region 17 with fail
          obtain ⟨Wd, eWd⟩ : ∃ X, X = w11.drew := ⟨_, rfl⟩
          have r1 : Wd.heap[wr.heap.size]? = some (.cells #[.int .u8 (q.what : Nat), .slice C mq cq, .int .i64 q.n] 35 (0, 0)) := by rw [eWd]; exact r1
          have HD12 := Lib.hid (show Dk Wd w.heap.size S6 p f by rw [eWd]; exact HD11.out.to ((Below.refl _ _).drew))
          have HSC12 := Lib.hid (show Sl Wd Wd.heap.size C mq (bs q.b) by rw [eWd]; exact HSC11.out)
          have HSW12 := Lib.hid (show Sl Wd Wd.heap.size Aw nd (bs d.b) by rw [eWd]; exact HSW11.out)
          have HSN12 := Lib.hid (show Sl Wd Wd.heap.size An nf (bs f.b) by rw [eWd]; exact HSN11.out)
          have B12 : Below w.heap.size w Wd := by rw [eWd]; exact B11.drew
          have hmnn : min (nd : Int) (nf : Int) = (nd : Int) := by omega
          have hnn : ¬ nf < nd := by omega
          obtain ⟨Ad, hAd⟩ : ∃ Ad, Ad = if cn = nd then An else Option.map (fun x : Addr => x.add nd ) An := ⟨_, rfl⟩
          have HAD := Lib.hid hAd
          clear hAd
          have z2 : (0 : Int) ≤ (nd : Int) := by omega
          have z3 : (nd : Int) ≤ (nf : Int) := by omega
          have z4 : (nf : Int) ≤ (cn : Int) := by omega
          clear HD11 HSC11 HSW11 HSN11 B11
          refine wp_region_held_drew (S := (fun w' => w'.cell? ⟨wr.heap.size, 0, none⟩ = some (.int .u8 (q.what : Nat)) ∧ w'.cell? ⟨wr.heap.size, 1, none⟩ = some (.slice C mq cq) ∧ w'.cell? ⟨wr.heap.size, 2, none⟩ = some (.int .i64 q.n))) (by kernel_rfl) (by rw [← eWd]; exact keepK r1) (fun hHeld => ?_)
          rw [← eWd] at hHeld ⊢
          clear eWd
          have lgw := row_lt r1
          refine wpAnyH_take (i := 0) (v := ?_) (by simp only [List.getElem?_toArray, List.getElem?_cons_succ, List.getElem?_cons_zero]; rfl) (by kernel_rfl) (by kernel_rfl) (by kernel_rfl) (by exact fun _ _ _ h => h) (Or.inl ⟨by kernel_rfl, ?_⟩) (by assumption) ?_
          rotate_left
          · intro w hSw
            (try dsimp only at hSw)
            go_simp
            try with_reducible rfl
          simp only [Act.put, List.setIfInBounds_toArray, List.set_cons_zero, List.set_cons_succ]
          refine wpAnyH_take (i := 1) (v := ?_) (by simp only [List.getElem?_toArray, List.getElem?_cons_succ, List.getElem?_cons_zero]; rfl) (by kernel_rfl) (by kernel_rfl) (by kernel_rfl) (by exact fun _ _ _ h => h) (Or.inl ⟨by kernel_rfl, ?_⟩) (by assumption) ?_
          rotate_left
          · intro w hSw
            (try dsimp only at hSw)
            go_simp
            try with_reducible rfl
          simp only [Act.put, List.setIfInBounds_toArray, List.set_cons_zero, List.set_cons_succ]
          refine wpAnyH_ready (rs := [2]) (by kernel_rfl) (by simp) ?_
          refine AllReadyH.cons (by simp only [List.getElem?_toArray, List.getElem?_cons_succ, List.getElem?_cons_zero]; rfl) (fun K hK => ?_) AllReadyH.nil
          rw [if_pos (by kernel_rfl)]
          go_simp
          refine (begins_any An Aw nf cn nd cw f.b d.b _ HSN12.out HAK.out.fok.bytes hcn HSW12.out HB.out).mono ?_
          rw [hb1.out]
          rintro e w13 ⟨rfl, rfl⟩
          go_wp2_with fail
          refine hK.out _ _ ?_ (fun hHeld => ?_)
          · exact keepK r1
          clear hK K
          try simp only [Act.put, List.setIfInBounds_toArray, List.set_cons_zero, List.set_cons_succ]
          refine wpAnyH_take (i := 3) (v := ?_) (by simp only [List.getElem?_toArray, List.getElem?_cons_succ, List.getElem?_cons_zero]; rfl) (by kernel_rfl) (by kernel_rfl) (by kernel_rfl) (by exact fun _ _ _ h => h) (Or.inl ⟨by kernel_rfl, ?_⟩) (by assumption) ?_
          rotate_left
          · intro w hSw
            (try dsimp only at hSw)
            go_simp
            try with_reducible rfl
          simp only [Act.put, List.setIfInBounds_toArray, List.set_cons_zero, List.set_cons_succ]
          refine wpAnyH_take (i := 4) (v := ?_) (by simp only [List.getElem?_toArray, List.getElem?_cons_succ, List.getElem?_cons_zero]; rfl) (by kernel_rfl) (by kernel_rfl) (by kernel_rfl) (by exact fun _ _ _ h => h) (Or.inl ⟨by kernel_rfl, ?_⟩) (by assumption) ?_
          rotate_left
          · intro w hSw
            (try dsimp only at hSw)
            go_simp
            try with_reducible rfl
          simp only [Act.put, List.setIfInBounds_toArray, List.set_cons_zero, List.set_cons_succ]
          refine wpAnyH_take (i := 5) (v := ?_) (by simp only [List.getElem?_toArray, List.getElem?_cons_succ, List.getElem?_cons_zero]; rfl) (by kernel_rfl) (by kernel_rfl) (by kernel_rfl) (by exact fun _ _ _ h => h) (Or.inl ⟨by kernel_rfl, ?_⟩) (by assumption) ?_
          rotate_left
          · intro w hSw
            (try dsimp only at hSw)
            go_simp
            try with_reducible rfl
          simp only [Act.put, List.setIfInBounds_toArray, List.set_cons_zero, List.set_cons_succ]
          refine wpAnyH_take (i := 6) (v := ?_) (by simp only [List.getElem?_toArray, List.getElem?_cons_succ, List.getElem?_cons_zero]; rfl) (by kernel_rfl) (by kernel_rfl) (by kernel_rfl) (by exact fun _ _ _ h => h) (Or.inl ⟨by kernel_rfl, ?_⟩) (by assumption) ?_
          rotate_left
          · intro w hSw
            (try dsimp only at hSw)
            go_simp
            try with_reducible rfl
          simp only [Act.put, List.setIfInBounds_toArray, List.set_cons_zero, List.set_cons_succ]
          refine wpAnyH_take (i := 7) (v := ?_) (by simp only [List.getElem?_toArray, List.getElem?_cons_succ, List.getElem?_cons_zero]; rfl) (by kernel_rfl) (by kernel_rfl) (by kernel_rfl) (by exact fun _ _ _ h => h) (Or.inl ⟨by kernel_rfl, ?_⟩) (by assumption) ?_
          rotate_left
          · intro w hSw
            (try dsimp only at hSw)
            go_simp
            try with_reducible rfl
          simp only [Act.put, List.setIfInBounds_toArray, List.set_cons_zero, List.set_cons_succ]
          refine wpAnyH_take (i := 8) (v := ?_) (by simp only [List.getElem?_toArray, List.getElem?_cons_succ, List.getElem?_cons_zero]; rfl) (by kernel_rfl) (by kernel_rfl) (by kernel_rfl) (by exact fun _ _ _ h => h) (Or.inl ⟨by kernel_rfl, ?_⟩) (by assumption) ?_
          rotate_left
          · intro w hSw
            (try dsimp only at hSw)
            go_simp
            try with_reducible rfl
          simp only [Act.put, List.setIfInBounds_toArray, List.set_cons_zero, List.set_cons_succ]
          refine wpAnyH_take (i := 9) (v := ?_) (by simp only [List.getElem?_toArray, List.getElem?_cons_succ, List.getElem?_cons_zero]; rfl) (by kernel_rfl) (by kernel_rfl) (by kernel_rfl) (by exact fun _ _ _ h => h) (Or.inl ⟨by kernel_rfl, ?_⟩) (by assumption) ?_
          rotate_left
          · intro w hSw
            (try dsimp only at hSw)
            go_simp
            try with_reducible rfl
          simp only [Act.put, List.setIfInBounds_toArray, List.set_cons_zero, List.set_cons_succ]
          refine wpAnyH_take (i := 10) (v := ?_) (by simp only [List.getElem?_toArray, List.getElem?_cons_succ, List.getElem?_cons_zero]; rfl) (by kernel_rfl) (by kernel_rfl) (by kernel_rfl) (by exact fun _ _ _ h => h) (Or.inl ⟨by kernel_rfl, ?_⟩) (by assumption) ?_
          rotate_left
          · intro w hSw
            (try dsimp only at hSw)
            go_simp
            try with_reducible rfl
          simp only [Act.put, List.setIfInBounds_toArray, List.set_cons_zero, List.set_cons_succ]
          refine wpAnyH_take (i := 11) (v := ?_) (by simp only [List.getElem?_toArray, List.getElem?_cons_succ, List.getElem?_cons_zero]; rfl) (by kernel_rfl) (by kernel_rfl) (by kernel_rfl) (by exact fun _ _ _ h => h) (Or.inl ⟨by kernel_rfl, ?_⟩) (by assumption) ?_
          rotate_left
          · intro w hSw
            (try dsimp only at hSw)
            go_simp
            try with_reducible rfl
          simp only [Act.put, List.setIfInBounds_toArray, List.set_cons_zero, List.set_cons_succ]
          refine wpAnyH_take (i := 12) (v := ?_) (by simp only [List.getElem?_toArray, List.getElem?_cons_succ, List.getElem?_cons_zero]; rfl) (by kernel_rfl) (by kernel_rfl) (by kernel_rfl) (by exact fun _ _ _ h => h) (Or.inl ⟨by kernel_rfl, ?_⟩) (by assumption) ?_
          rotate_left
          · intro w hSw
            (try dsimp only at hSw)
            go_simp
            try with_reducible rfl
          simp only [Act.put, List.setIfInBounds_toArray, List.set_cons_zero, List.set_cons_succ]
          refine wpAnyH_take (i := 13) (v := ?_) (by simp only [List.getElem?_toArray, List.getElem?_cons_succ, List.getElem?_cons_zero]; rfl) (by kernel_rfl) (by kernel_rfl) (by kernel_rfl) (by exact fun _ _ _ h => h) (Or.inl ⟨by kernel_rfl, ?_⟩) (by assumption) ?_
          rotate_left
          · intro w hSw
            (try dsimp only at hSw)
            go_simp
            try with_reducible rfl
          simp only [Act.put, List.setIfInBounds_toArray, List.set_cons_zero, List.set_cons_succ]
          rw [← HAD.out]
          refine wpAnyH_ready (rs := [14]) (by kernel_rfl) (by simp) ?_
          refine AllReadyH.cons (by simp only [List.getElem?_toArray, List.getElem?_cons_succ, List.getElem?_cons_zero]; rfl) (fun K hK => ?_) AllReadyH.nil
          rw [if_pos (by kernel_rfl)]
          go_simp
          have SD := HSN12.out.drop (k := nd ) (by omega) hcn
          rw [bs_drop, ← HAD.out] at SD
          refine (begins_any C _ mq cq (nf - nd) _ q.b (f.b.drop nd ) _ HSC12.out hq0.out.b hcq SD (HAK.out.fok.bytes.drop _)).mono ?_
          rw [hb2.out]
          rintro e w14 ⟨rfl, rfl⟩
          go_wp2_with fail
          refine hK.out _ _ ?_ (fun hHeld => ?_)
          · exact keepK r1
          clear hK K
          try simp only [Act.put, List.setIfInBounds_toArray, List.set_cons_zero, List.set_cons_succ]
          refine wpAnyH_take (i := 15) (v := ?_) (by simp only [List.getElem?_toArray, List.getElem?_cons_succ, List.getElem?_cons_zero]; rfl) (by kernel_rfl) (by kernel_rfl) (by kernel_rfl) (by exact fun _ _ _ h => h) (Or.inl ⟨by kernel_rfl, ?_⟩) (by assumption) ?_
          rotate_left
          · intro w hSw
            (try dsimp only at hSw)
            go_simp
            try with_reducible rfl
          simp only [Act.put, List.setIfInBounds_toArray, List.set_cons_zero, List.set_cons_succ]
          refine wpAnyH_take (i := 16) (v := ?_) (by simp only [List.getElem?_toArray, List.getElem?_cons_succ, List.getElem?_cons_zero]; rfl) (by kernel_rfl) (by kernel_rfl) (by kernel_rfl) (by exact fun _ _ _ h => h) (Or.inl ⟨by kernel_rfl, ?_⟩) (by assumption) ?_
          rotate_left
          · intro w hSw
            (try dsimp only at hSw)
            go_simp
            try with_reducible rfl
          simp only [Act.put, List.setIfInBounds_toArray, List.set_cons_zero, List.set_cons_succ]
          refine wpAnyH_take (i := 17) (v := ?_) (by simp only [List.getElem?_toArray, List.getElem?_cons_succ, List.getElem?_cons_zero]; rfl) (by kernel_rfl) (by kernel_rfl) (by kernel_rfl) (by exact fun _ _ _ h => h) (Or.inl ⟨by kernel_rfl, ?_⟩) (by assumption) ?_
          rotate_left
          · intro w hSw
            (try dsimp only at hSw)
            go_simp
            try with_reducible rfl
          simp only [Act.put, List.setIfInBounds_toArray, List.set_cons_zero, List.set_cons_succ]
          refine wpAnyH_take (i := 18) (v := ?_) (by simp only [List.getElem?_toArray, List.getElem?_cons_succ, List.getElem?_cons_zero]; rfl) (by kernel_rfl) (by kernel_rfl) (by kernel_rfl) (by exact fun _ _ _ h => h) (Or.inl ⟨by kernel_rfl, ?_⟩) (by assumption) ?_
          rotate_left
          · intro w hSw
            (try dsimp only at hSw)
            go_simp
            try with_reducible rfl
          simp only [Act.put, List.setIfInBounds_toArray, List.set_cons_zero, List.set_cons_succ]
          refine wpAnyH_take (i := 19) (v := ?_) (by simp only [List.getElem?_toArray, List.getElem?_cons_succ, List.getElem?_cons_zero]; rfl) (by kernel_rfl) (by kernel_rfl) (by kernel_rfl) (by exact fun _ _ _ h => h) (Or.inl ⟨by kernel_rfl, ?_⟩) (by assumption) ?_
          rotate_left
          · intro w hSw
            (try dsimp only at hSw)
            go_simp
            try with_reducible rfl
          simp only [Act.put, List.setIfInBounds_toArray, List.set_cons_zero, List.set_cons_succ]
          refine wpAnyH_take (i := 20) (v := ?_) (by simp only [List.getElem?_toArray, List.getElem?_cons_succ, List.getElem?_cons_zero]; rfl) (by kernel_rfl) (by kernel_rfl) (by kernel_rfl) (by exact fun _ _ _ h => h) (Or.inl ⟨by kernel_rfl, ?_⟩) (by assumption) ?_
          rotate_left
          · intro w hSw
            (try dsimp only at hSw)
            go_simp
            try with_reducible rfl
          simp only [Act.put, List.setIfInBounds_toArray, List.set_cons_zero, List.set_cons_succ]
          refine wpAnyH_take (i := 21) (v := ?_) (by simp only [List.getElem?_toArray, List.getElem?_cons_succ, List.getElem?_cons_zero]; rfl) (by kernel_rfl) (by kernel_rfl) (by kernel_rfl) (by exact fun _ _ _ h => h) (Or.inl ⟨by kernel_rfl, ?_⟩) (by assumption) ?_
          rotate_left
          · intro w hSw
            (try dsimp only at hSw)
            go_simp
            try with_reducible rfl
          simp only [Act.put, List.setIfInBounds_toArray, List.set_cons_zero, List.set_cons_succ]
          refine wpAnyH_take (i := 22) (v := ?_) (by simp only [List.getElem?_toArray, List.getElem?_cons_succ, List.getElem?_cons_zero]; rfl) (by kernel_rfl) (by kernel_rfl) (by kernel_rfl) (by exact fun _ _ _ h => h) (Or.inl ⟨by kernel_rfl, ?_⟩) (by assumption) ?_
          rotate_left
          · intro w hSw
            (try dsimp only at hSw)
            go_simp
            try with_reducible rfl
          simp only [Act.put, List.setIfInBounds_toArray, List.set_cons_zero, List.set_cons_succ]
          refine wpAnyH_take (i := 23) (v := ?_) (by simp only [List.getElem?_toArray, List.getElem?_cons_succ, List.getElem?_cons_zero]; rfl) (by kernel_rfl) (by kernel_rfl) (by kernel_rfl) (by exact fun _ _ _ h => h) (Or.inl ⟨by kernel_rfl, ?_⟩) (by assumption) ?_
          rotate_left
          · intro w hSw
            (try dsimp only at hSw)
            go_simp
            try with_reducible rfl
          simp only [Act.put, List.setIfInBounds_toArray, List.set_cons_zero, List.set_cons_succ]
          refine wpAnyH_take (i := 24) (v := ?_) (by simp only [List.getElem?_toArray, List.getElem?_cons_succ, List.getElem?_cons_zero]; rfl) (by kernel_rfl) (by kernel_rfl) (by kernel_rfl) (by exact fun _ _ _ h => h) (Or.inl ⟨by kernel_rfl, ?_⟩) (by assumption) ?_
          rotate_left
          · intro w hSw
            (try dsimp only at hSw)
            go_simp
            try with_reducible rfl
          simp only [Act.put, List.setIfInBounds_toArray, List.set_cons_zero, List.set_cons_succ]
          refine wpAnyH_take (i := 25) (v := ?_) (by simp only [List.getElem?_toArray, List.getElem?_cons_succ, List.getElem?_cons_zero]; rfl) (by kernel_rfl) (by kernel_rfl) (by kernel_rfl) (by exact fun _ _ _ h => h) (Or.inl ⟨by kernel_rfl, ?_⟩) (by assumption) ?_
          rotate_left
          · intro w hSw
            (try dsimp only at hSw)
            go_simp
            try with_reducible rfl
          simp only [Act.put, List.setIfInBounds_toArray, List.set_cons_zero, List.set_cons_succ]
          refine wpAnyH_take (i := 26) (v := ?_) (by simp only [List.getElem?_toArray, List.getElem?_cons_succ, List.getElem?_cons_zero]; rfl) (by kernel_rfl) (by kernel_rfl) (by kernel_rfl) (by exact fun _ _ _ h => h) (Or.inl ⟨by kernel_rfl, ?_⟩) (by assumption) ?_
          rotate_left
          · intro w hSw
            (try dsimp only at hSw)
            go_simp
            try with_reducible rfl
          simp only [Act.put, List.setIfInBounds_toArray, List.set_cons_zero, List.set_cons_succ]
          refine wpAnyH_take (i := 27) (v := ?_) (by simp only [List.getElem?_toArray, List.getElem?_cons_succ, List.getElem?_cons_zero]; rfl) (by kernel_rfl) (by kernel_rfl) (by kernel_rfl) (by exact fun _ _ _ h => h) (Or.inl ⟨by kernel_rfl, ?_⟩) (by assumption) ?_
          rotate_left
          · intro w hSw
            (try dsimp only at hSw)
            go_simp
            try with_reducible rfl
          simp only [Act.put, List.setIfInBounds_toArray, List.set_cons_zero, List.set_cons_succ]
          refine wpAnyH_take (i := 28) (v := ?_) (by simp only [List.getElem?_toArray, List.getElem?_cons_succ, List.getElem?_cons_zero]; rfl) (by kernel_rfl) (by kernel_rfl) (by kernel_rfl) (by exact fun _ _ _ h => h) (Or.inl ⟨by kernel_rfl, ?_⟩) (by assumption) ?_
          rotate_left
          · intro w hSw
            (try dsimp only at hSw)
            go_simp
            try with_reducible rfl
          simp only [Act.put, List.setIfInBounds_toArray, List.set_cons_zero, List.set_cons_succ]
          refine wpAnyH_take (i := 29) (v := ?_) (by simp only [List.getElem?_toArray, List.getElem?_cons_succ, List.getElem?_cons_zero]; rfl) (by kernel_rfl) (by kernel_rfl) (by kernel_rfl) (by exact fun _ _ _ h => h) (Or.inl ⟨by kernel_rfl, ?_⟩) (by assumption) ?_
          rotate_left
          · intro w hSw
            (try dsimp only at hSw)
            go_simp
            try with_reducible rfl
          simp only [Act.put, List.setIfInBounds_toArray, List.set_cons_zero, List.set_cons_succ]
          refine wpAnyH_take (i := 30) (v := ?_) (by simp only [List.getElem?_toArray, List.getElem?_cons_succ, List.getElem?_cons_zero]; rfl) (by kernel_rfl) (by kernel_rfl) (by kernel_rfl) (by exact fun _ _ _ h => h) (Or.inl ⟨by kernel_rfl, ?_⟩) (by assumption) ?_
          rotate_left
          · intro w hSw
            (try dsimp only at hSw)
            go_simp
            try with_reducible rfl
          simp only [Act.put, List.setIfInBounds_toArray, List.set_cons_zero, List.set_cons_succ]
          refine wpAnyH_take (i := 31) (v := undef) (by simp only [List.getElem?_toArray, List.getElem?_cons_succ, List.getElem?_cons_zero]; rfl) (by kernel_rfl) (by kernel_rfl) (by kernel_rfl) (by exact fun _ _ _ h => h) (Or.inr ⟨by kernel_rfl, rfl⟩) (by assumption) ?_
          simp only [Act.put, List.setIfInBounds_toArray, List.set_cons_zero, List.set_cons_succ]
          refine wpAnyH_take (i := 32) (v := undef) (by simp only [List.getElem?_toArray, List.getElem?_cons_succ, List.getElem?_cons_zero]; rfl) (by kernel_rfl) (by kernel_rfl) (by kernel_rfl) (by exact fun _ _ _ h => h) (Or.inr ⟨by kernel_rfl, rfl⟩) (by assumption) ?_
          simp only [Act.put, List.setIfInBounds_toArray, List.set_cons_zero, List.set_cons_succ]
          refine wpAnyH_take (i := 33) (v := undef) (by simp only [List.getElem?_toArray, List.getElem?_cons_succ, List.getElem?_cons_zero]; rfl) (by kernel_rfl) (by kernel_rfl) (by kernel_rfl) (by exact fun _ _ _ h => h) (Or.inr ⟨by kernel_rfl, rfl⟩) (by assumption) ?_
          simp only [Act.put, List.setIfInBounds_toArray, List.set_cons_zero, List.set_cons_succ]
          refine wpAnyH_take (i := 34) (v := undef) (by simp only [List.getElem?_toArray, List.getElem?_cons_succ, List.getElem?_cons_zero]; rfl) (by kernel_rfl) (by kernel_rfl) (by kernel_rfl) (by exact fun _ _ _ h => h) (Or.inr ⟨by kernel_rfl, rfl⟩) (by assumption) ?_
          simp only [Act.put, List.setIfInBounds_toArray, List.set_cons_zero, List.set_cons_succ]
          refine wpAnyH_take (i := 35) (v := ?_) (by simp only [List.getElem?_toArray, List.getElem?_cons_succ, List.getElem?_cons_zero]; rfl) (by kernel_rfl) (by kernel_rfl) (by kernel_rfl) (by exact fun _ _ _ h => h) (Or.inl ⟨by kernel_rfl, ?_⟩) (by assumption) ?_
          rotate_left
          · intro w hSw
            (try dsimp only at hSw)
            go_simp
            try with_reducible rfl
          simp only [Act.put, List.setIfInBounds_toArray, List.set_cons_zero, List.set_cons_succ]
          refine wpAnyH_take (i := 36) (v := ?_) (by simp only [List.getElem?_toArray, List.getElem?_cons_succ, List.getElem?_cons_zero]; rfl) (by kernel_rfl) (by kernel_rfl) (by kernel_rfl) (by exact fun _ _ _ h => h) (Or.inl ⟨by kernel_rfl, ?_⟩) (by assumption) ?_
          rotate_left
          · intro w hSw
            (try dsimp only at hSw)
            go_simp
            try with_reducible rfl
          simp only [Act.put, List.setIfInBounds_toArray, List.set_cons_zero, List.set_cons_succ]
          refine wpAnyH_done (by kernel_rfl) ?_ _
          go_wp2_with fail
          go_roundw
          case rel => exact ⟨k + 1, f, S6, by omega, by go_num, HD12.out, B12⟩
          case measure => simp [intOf]; omega
        · rcases Nat.eq_zero_or_pos mq with h8 | h8
          · obtain ⟨g1, g2, g3, g4, g5, g6⟩ := HAK.out.k0 rfl
            have hmq : q.b.length = mq := HMQ.out
            rw [← ENF.out, ← END.out] at g3 g4 g5 g6
            rw [hmq] at g4 g5 g6
            have hb1 := Lib.hid (show (f.b.take (min nd nf) == d.b) = true by rw [ENF.out, END.out, g1]; exact beq_self_eq_true _)
            have hb2 := Lib.hid (show (q.b.take (min (nf - nd) mq) == f.b.drop nd) = true by rw [ENF.out, END.out, ← hmq, g2]; exact beq_self_eq_true _)
            clear g1 g2 hmq
            subst h8
            have hx0 : (x == 0) = false := by simpa using h9
            obtain rfl : nf = nd := by omega
            have hwr : IntKind.i64.wrap (nf : Int) = (nf : Int) := w64 (show nf ≤ 9223372036854775807 by omega)
            clear g4 g5 g6
            have hbeg := Lib.hid (show (f.b.take (min sd nf) == d.b.take sd) = true by rw [ESD.out, ENF.out, (HAK.out.keep (fun h => absurd h.1 (by decide))).2]; exact beq_self_eq_true _)
            have i6 : ¬ sf < sd := by have := (HAK.out.keep (fun h => absurd h.1 (by decide))).1; rw [← ESD.out, ← ESF.out] at this; omega
            have z0 : (0 : Int) ≤ (sd : Int) := by omega
            have z1 : (sd : Int) ≤ (cw : Int) := by omega
            go_wp2_with fail
            refine (HK.out.safe f w.heap.size S6 p _ HD10.out).mono ?_
            rw [← ESF.out]
            rintro e w11 ⟨rfl, bb⟩
            have r1 := bb.row (row_lt r1) r1
            have B11 := B10.call bb
            have HD11 := Lib.hid (HD10.out.to bb)
            have HSC11 := Lib.hid (HSC10.out.to bb)
            have HSW11 := Lib.hid (HSW10.out.to bb)
            have HSN11 := Lib.hid (HSN10.out.to bb)
            clear bb B10 HD10 HSC10 HSW10 HSN10
            obtain ⟨a0, a1, a2⟩ := keepK r1
            go_wp2_with fail
            refine (begins_any An Aw nf cn sd cw f.b (d.b.take sd) _ HSN11.out HAK.out.fok.bytes hcn (by rw [← bs_take]; exact HSW11.out.take (by omega)) (HB.out.take _)).mono ?_
            rw [hbeg.out]
            rintro e w12 ⟨rfl, rfl⟩
            go_upto_region 17 with fail
            obtain ⟨Wd, eWd⟩ : ∃ X, X = w11.drew := ⟨_, rfl⟩
            have r1 : Wd.heap[wr.heap.size]? = some (.cells #[.int .u8 (q.what : Nat), .slice C 0 cq, .int .i64 q.n] 35 (0, 0)) := by rw [eWd]; exact r1
            have HD12 := Lib.hid (show Dk Wd w.heap.size S6 p f by rw [eWd]; exact HD11.out.to ((Below.refl _ _).drew))
            have HSC12 := Lib.hid (show Sl Wd Wd.heap.size C 0 (bs q.b) by rw [eWd]; exact HSC11.out)
            have HSW12 := Lib.hid (show Sl Wd Wd.heap.size Aw nf (bs d.b) by rw [eWd]; exact HSW11.out)
            have HSN12 := Lib.hid (show Sl Wd Wd.heap.size An nf (bs f.b) by rw [eWd]; exact HSN11.out)
            have B12 : Below w.heap.size w Wd := by rw [eWd]; exact B11.drew
            have hmnn : min (nf : Int) (nf : Int) = (nf : Int) := by omega
            have hnn : ¬ nf < nf := by omega
            obtain ⟨Ad, hAd⟩ : ∃ Ad, Ad = if cn = nf then An else Option.map (fun x : Addr => x.add nf ) An := ⟨_, rfl⟩
            have HAD := Lib.hid hAd
            clear hAd
            have z2 : (0 : Int) ≤ (nf : Int) := by omega
            have z3 : (nf : Int) ≤ (nf : Int) := by omega
            have z4 : (nf : Int) ≤ (cn : Int) := by omega
            clear HD11 HSC11 HSW11 HSN11 B11
            refine wp_region_held_drew (S := (fun w' => w'.cell? ⟨wr.heap.size, 0, none⟩ = some (.int .u8 (q.what : Nat)) ∧ w'.cell? ⟨wr.heap.size, 1, none⟩ = some (.slice C 0 cq) ∧ w'.cell? ⟨wr.heap.size, 2, none⟩ = some (.int .i64 q.n))) (by kernel_rfl) (by rw [← eWd]; exact keepK r1) (fun hHeld => ?_)
            rw [← eWd] at hHeld ⊢
            clear eWd
            have lgw := row_lt r1
            refine wpAnyH_take (i := 0) (v := ?_) (by simp only [List.getElem?_toArray, List.getElem?_cons_succ, List.getElem?_cons_zero]; rfl) (by kernel_rfl) (by kernel_rfl) (by kernel_rfl) (by exact fun _ _ _ h => h) (Or.inl ⟨by kernel_rfl, ?_⟩) (by assumption) ?_
            rotate_left
            · intro w hSw
              (try dsimp only at hSw)
              go_simp
              try with_reducible rfl
            simp only [Act.put, List.setIfInBounds_toArray, List.set_cons_zero, List.set_cons_succ]
            refine wpAnyH_take (i := 1) (v := ?_) (by simp only [List.getElem?_toArray, List.getElem?_cons_succ, List.getElem?_cons_zero]; rfl) (by kernel_rfl) (by kernel_rfl) (by kernel_rfl) (by exact fun _ _ _ h => h) (Or.inl ⟨by kernel_rfl, ?_⟩) (by assumption) ?_
            rotate_left
            · intro w hSw
              (try dsimp only at hSw)
              go_simp
              try with_reducible rfl
            simp only [Act.put, List.setIfInBounds_toArray, List.set_cons_zero, List.set_cons_succ]
            refine wpAnyH_ready (rs := [2]) (by kernel_rfl) (by simp) ?_
            refine AllReadyH.cons (by simp only [List.getElem?_toArray, List.getElem?_cons_succ, List.getElem?_cons_zero]; rfl) (fun K hK => ?_) AllReadyH.nil
            rw [if_pos (by kernel_rfl)]
            go_simp
            refine (begins_any An Aw nf cn nf cw f.b d.b _ HSN12.out HAK.out.fok.bytes hcn HSW12.out HB.out).mono ?_
            rw [hb1.out]
            rintro e w13 ⟨rfl, rfl⟩
            go_wp2_with fail
            refine hK.out _ _ ?_ (fun hHeld => ?_)
            · exact keepK r1
            clear hK K
            try simp only [Act.put, List.setIfInBounds_toArray, List.set_cons_zero, List.set_cons_succ]
            refine wpAnyH_take (i := 3) (v := ?_) (by simp only [List.getElem?_toArray, List.getElem?_cons_succ, List.getElem?_cons_zero]; rfl) (by kernel_rfl) (by kernel_rfl) (by kernel_rfl) (by exact fun _ _ _ h => h) (Or.inl ⟨by kernel_rfl, ?_⟩) (by assumption) ?_
            rotate_left
            · intro w hSw
              (try dsimp only at hSw)
              go_simp
              try with_reducible rfl
            simp only [Act.put, List.setIfInBounds_toArray, List.set_cons_zero, List.set_cons_succ]
            refine wpAnyH_take (i := 4) (v := ?_) (by simp only [List.getElem?_toArray, List.getElem?_cons_succ, List.getElem?_cons_zero]; rfl) (by kernel_rfl) (by kernel_rfl) (by kernel_rfl) (by exact fun _ _ _ h => h) (Or.inl ⟨by kernel_rfl, ?_⟩) (by assumption) ?_
            rotate_left
            · intro w hSw
              (try dsimp only at hSw)
              go_simp
              try with_reducible rfl
            simp only [Act.put, List.setIfInBounds_toArray, List.set_cons_zero, List.set_cons_succ]
            refine wpAnyH_take (i := 5) (v := ?_) (by simp only [List.getElem?_toArray, List.getElem?_cons_succ, List.getElem?_cons_zero]; rfl) (by kernel_rfl) (by kernel_rfl) (by kernel_rfl) (by exact fun _ _ _ h => h) (Or.inl ⟨by kernel_rfl, ?_⟩) (by assumption) ?_
            rotate_left
            · intro w hSw
              (try dsimp only at hSw)
              go_simp
              try with_reducible rfl
            simp only [Act.put, List.setIfInBounds_toArray, List.set_cons_zero, List.set_cons_succ]
            refine wpAnyH_take (i := 6) (v := ?_) (by simp only [List.getElem?_toArray, List.getElem?_cons_succ, List.getElem?_cons_zero]; rfl) (by kernel_rfl) (by kernel_rfl) (by kernel_rfl) (by exact fun _ _ _ h => h) (Or.inl ⟨by kernel_rfl, ?_⟩) (by assumption) ?_
            rotate_left
            · intro w hSw
              (try dsimp only at hSw)
              go_simp
              try with_reducible rfl
            simp only [Act.put, List.setIfInBounds_toArray, List.set_cons_zero, List.set_cons_succ]
            refine wpAnyH_take (i := 7) (v := ?_) (by simp only [List.getElem?_toArray, List.getElem?_cons_succ, List.getElem?_cons_zero]; rfl) (by kernel_rfl) (by kernel_rfl) (by kernel_rfl) (by exact fun _ _ _ h => h) (Or.inl ⟨by kernel_rfl, ?_⟩) (by assumption) ?_
            rotate_left
            · intro w hSw
              (try dsimp only at hSw)
              go_simp
              try with_reducible rfl
            simp only [Act.put, List.setIfInBounds_toArray, List.set_cons_zero, List.set_cons_succ]
            refine wpAnyH_take (i := 8) (v := ?_) (by simp only [List.getElem?_toArray, List.getElem?_cons_succ, List.getElem?_cons_zero]; rfl) (by kernel_rfl) (by kernel_rfl) (by kernel_rfl) (by exact fun _ _ _ h => h) (Or.inl ⟨by kernel_rfl, ?_⟩) (by assumption) ?_
            rotate_left
            · intro w hSw
              (try dsimp only at hSw)
              go_simp
              try with_reducible rfl
            simp only [Act.put, List.setIfInBounds_toArray, List.set_cons_zero, List.set_cons_succ]
            refine wpAnyH_take (i := 9) (v := ?_) (by simp only [List.getElem?_toArray, List.getElem?_cons_succ, List.getElem?_cons_zero]; rfl) (by kernel_rfl) (by kernel_rfl) (by kernel_rfl) (by exact fun _ _ _ h => h) (Or.inl ⟨by kernel_rfl, ?_⟩) (by assumption) ?_
            rotate_left
            · intro w hSw
              (try dsimp only at hSw)
              go_simp
              try with_reducible rfl
            simp only [Act.put, List.setIfInBounds_toArray, List.set_cons_zero, List.set_cons_succ]
            refine wpAnyH_take (i := 10) (v := ?_) (by simp only [List.getElem?_toArray, List.getElem?_cons_succ, List.getElem?_cons_zero]; rfl) (by kernel_rfl) (by kernel_rfl) (by kernel_rfl) (by exact fun _ _ _ h => h) (Or.inl ⟨by kernel_rfl, ?_⟩) (by assumption) ?_
            rotate_left
            · intro w hSw
              (try dsimp only at hSw)
              go_simp
              try with_reducible rfl
            simp only [Act.put, List.setIfInBounds_toArray, List.set_cons_zero, List.set_cons_succ]
            refine wpAnyH_take (i := 11) (v := ?_) (by simp only [List.getElem?_toArray, List.getElem?_cons_succ, List.getElem?_cons_zero]; rfl) (by kernel_rfl) (by kernel_rfl) (by kernel_rfl) (by exact fun _ _ _ h => h) (Or.inl ⟨by kernel_rfl, ?_⟩) (by assumption) ?_
            rotate_left
            · intro w hSw
              (try dsimp only at hSw)
              go_simp
              try with_reducible rfl
            simp only [Act.put, List.setIfInBounds_toArray, List.set_cons_zero, List.set_cons_succ]
            refine wpAnyH_take (i := 12) (v := ?_) (by simp only [List.getElem?_toArray, List.getElem?_cons_succ, List.getElem?_cons_zero]; rfl) (by kernel_rfl) (by kernel_rfl) (by kernel_rfl) (by exact fun _ _ _ h => h) (Or.inl ⟨by kernel_rfl, ?_⟩) (by assumption) ?_
            rotate_left
            · intro w hSw
              (try dsimp only at hSw)
              go_simp
              try with_reducible rfl
            simp only [Act.put, List.setIfInBounds_toArray, List.set_cons_zero, List.set_cons_succ]
            refine wpAnyH_take (i := 13) (v := ?_) (by simp only [List.getElem?_toArray, List.getElem?_cons_succ, List.getElem?_cons_zero]; rfl) (by kernel_rfl) (by kernel_rfl) (by kernel_rfl) (by exact fun _ _ _ h => h) (Or.inl ⟨by kernel_rfl, ?_⟩) (by assumption) ?_
            rotate_left
            · intro w hSw
              (try dsimp only at hSw)
              go_simp
              try with_reducible rfl
            simp only [Act.put, List.setIfInBounds_toArray, List.set_cons_zero, List.set_cons_succ]
            rw [← HAD.out]
            refine wpAnyH_ready (rs := [14]) (by kernel_rfl) (by simp) ?_
            refine AllReadyH.cons (by simp only [List.getElem?_toArray, List.getElem?_cons_succ, List.getElem?_cons_zero]; rfl) (fun K hK => ?_) AllReadyH.nil
            rw [if_pos (by kernel_rfl)]
            go_simp
            have SD := HSN12.out.drop (k := nf ) (by omega) hcn
            rw [bs_drop, ← HAD.out] at SD
            refine (begins_any C _ 0 cq 0 _ q.b (f.b.drop nf ) _ HSC12.out hq0.out.b hcq (by rw [Nat.sub_self] at SD; exact SD) (HAK.out.fok.bytes.drop _)).mono ?_
            rw [show (List.take (min 0 0) q.b == List.drop nf f.b) = true by have := hb2.out; rwa [Nat.sub_self] at this]
            rintro e w14 ⟨rfl, rfl⟩
            go_wp2_with fail
            refine hK.out _ _ ?_ (fun hHeld => ?_)
            · exact keepK r1
            clear hK K
            try simp only [Act.put, List.setIfInBounds_toArray, List.set_cons_zero, List.set_cons_succ]
            refine wpAnyH_take (i := 15) (v := ?_) (by simp only [List.getElem?_toArray, List.getElem?_cons_succ, List.getElem?_cons_zero]; rfl) (by kernel_rfl) (by kernel_rfl) (by kernel_rfl) (by exact fun _ _ _ h => h) (Or.inl ⟨by kernel_rfl, ?_⟩) (by assumption) ?_
            rotate_left
            · intro w hSw
              (try dsimp only at hSw)
              go_simp
              try with_reducible rfl
            simp only [Act.put, List.setIfInBounds_toArray, List.set_cons_zero, List.set_cons_succ]
            refine wpAnyH_take (i := 16) (v := ?_) (by simp only [List.getElem?_toArray, List.getElem?_cons_succ, List.getElem?_cons_zero]; rfl) (by kernel_rfl) (by kernel_rfl) (by kernel_rfl) (by exact fun _ _ _ h => h) (Or.inl ⟨by kernel_rfl, ?_⟩) (by assumption) ?_
            rotate_left
            · intro w hSw
              (try dsimp only at hSw)
              go_simp
              try with_reducible rfl
            simp only [Act.put, List.setIfInBounds_toArray, List.set_cons_zero, List.set_cons_succ]
            refine wpAnyH_take (i := 17) (v := ?_) (by simp only [List.getElem?_toArray, List.getElem?_cons_succ, List.getElem?_cons_zero]; rfl) (by kernel_rfl) (by kernel_rfl) (by kernel_rfl) (by exact fun _ _ _ h => h) (Or.inl ⟨by kernel_rfl, ?_⟩) (by assumption) ?_
            rotate_left
            · intro w hSw
              (try dsimp only at hSw)
              go_simp
              try with_reducible rfl
            simp only [Act.put, List.setIfInBounds_toArray, List.set_cons_zero, List.set_cons_succ]
            refine wpAnyH_take (i := 18) (v := ?_) (by simp only [List.getElem?_toArray, List.getElem?_cons_succ, List.getElem?_cons_zero]; rfl) (by kernel_rfl) (by kernel_rfl) (by kernel_rfl) (by exact fun _ _ _ h => h) (Or.inl ⟨by kernel_rfl, ?_⟩) (by assumption) ?_
            rotate_left
            · intro w hSw
              (try dsimp only at hSw)
              go_simp
              try with_reducible rfl
            simp only [Act.put, List.setIfInBounds_toArray, List.set_cons_zero, List.set_cons_succ]
            refine wpAnyH_take (i := 19) (v := ?_) (by simp only [List.getElem?_toArray, List.getElem?_cons_succ, List.getElem?_cons_zero]; rfl) (by kernel_rfl) (by kernel_rfl) (by kernel_rfl) (by exact fun _ _ _ h => h) (Or.inl ⟨by kernel_rfl, ?_⟩) (by assumption) ?_
            rotate_left
            · intro w hSw
              (try dsimp only at hSw)
              go_simp
              try with_reducible rfl
            simp only [Act.put, List.setIfInBounds_toArray, List.set_cons_zero, List.set_cons_succ]
            refine wpAnyH_take (i := 20) (v := ?_) (by simp only [List.getElem?_toArray, List.getElem?_cons_succ, List.getElem?_cons_zero]; rfl) (by kernel_rfl) (by kernel_rfl) (by kernel_rfl) (by exact fun _ _ _ h => h) (Or.inl ⟨by kernel_rfl, ?_⟩) (by assumption) ?_
            rotate_left
            · intro w hSw
              (try dsimp only at hSw)
              go_simp
              try with_reducible rfl
            simp only [Act.put, List.setIfInBounds_toArray, List.set_cons_zero, List.set_cons_succ]
            refine wpAnyH_take (i := 21) (v := ?_) (by simp only [List.getElem?_toArray, List.getElem?_cons_succ, List.getElem?_cons_zero]; rfl) (by kernel_rfl) (by kernel_rfl) (by kernel_rfl) (by exact fun _ _ _ h => h) (Or.inl ⟨by kernel_rfl, ?_⟩) (by assumption) ?_
            rotate_left
            · intro w hSw
              (try dsimp only at hSw)
              go_simp
              try with_reducible rfl
            simp only [Act.put, List.setIfInBounds_toArray, List.set_cons_zero, List.set_cons_succ]
            refine wpAnyH_take (i := 22) (v := ?_) (by simp only [List.getElem?_toArray, List.getElem?_cons_succ, List.getElem?_cons_zero]; rfl) (by kernel_rfl) (by kernel_rfl) (by kernel_rfl) (by exact fun _ _ _ h => h) (Or.inl ⟨by kernel_rfl, ?_⟩) (by assumption) ?_
            rotate_left
            · intro w hSw
              (try dsimp only at hSw)
              go_simp
              try with_reducible rfl
            simp only [Act.put, List.setIfInBounds_toArray, List.set_cons_zero, List.set_cons_succ]
            refine wpAnyH_take (i := 23) (v := ?_) (by simp only [List.getElem?_toArray, List.getElem?_cons_succ, List.getElem?_cons_zero]; rfl) (by kernel_rfl) (by kernel_rfl) (by kernel_rfl) (by exact fun _ _ _ h => h) (Or.inl ⟨by kernel_rfl, ?_⟩) (by assumption) ?_
            rotate_left
            · intro w hSw
              (try dsimp only at hSw)
              go_simp
              try with_reducible rfl
            simp only [Act.put, List.setIfInBounds_toArray, List.set_cons_zero, List.set_cons_succ]
            refine wpAnyH_take (i := 24) (v := ?_) (by simp only [List.getElem?_toArray, List.getElem?_cons_succ, List.getElem?_cons_zero]; rfl) (by kernel_rfl) (by kernel_rfl) (by kernel_rfl) (by exact fun _ _ _ h => h) (Or.inl ⟨by kernel_rfl, ?_⟩) (by assumption) ?_
            rotate_left
            · intro w hSw
              (try dsimp only at hSw)
              go_simp
              try with_reducible rfl
            simp only [Act.put, List.setIfInBounds_toArray, List.set_cons_zero, List.set_cons_succ]
            refine wpAnyH_take (i := 25) (v := ?_) (by simp only [List.getElem?_toArray, List.getElem?_cons_succ, List.getElem?_cons_zero]; rfl) (by kernel_rfl) (by kernel_rfl) (by kernel_rfl) (by exact fun _ _ _ h => h) (Or.inl ⟨by kernel_rfl, ?_⟩) (by assumption) ?_
            rotate_left
            · intro w hSw
              (try dsimp only at hSw)
              go_simp
              try with_reducible rfl
            simp only [Act.put, List.setIfInBounds_toArray, List.set_cons_zero, List.set_cons_succ]
            refine wpAnyH_take (i := 26) (v := ?_) (by simp only [List.getElem?_toArray, List.getElem?_cons_succ, List.getElem?_cons_zero]; rfl) (by kernel_rfl) (by kernel_rfl) (by kernel_rfl) (by exact fun _ _ _ h => h) (Or.inl ⟨by kernel_rfl, ?_⟩) (by assumption) ?_
            rotate_left
            · intro w hSw
              (try dsimp only at hSw)
              go_simp
              try with_reducible rfl
            simp only [Act.put, List.setIfInBounds_toArray, List.set_cons_zero, List.set_cons_succ]
            refine wpAnyH_take (i := 27) (v := ?_) (by simp only [List.getElem?_toArray, List.getElem?_cons_succ, List.getElem?_cons_zero]; rfl) (by kernel_rfl) (by kernel_rfl) (by kernel_rfl) (by exact fun _ _ _ h => h) (Or.inl ⟨by kernel_rfl, ?_⟩) (by assumption) ?_
            rotate_left
            · intro w hSw
              (try dsimp only at hSw)
              go_simp
              try with_reducible rfl
            simp only [Act.put, List.setIfInBounds_toArray, List.set_cons_zero, List.set_cons_succ]
            refine wpAnyH_take (i := 28) (v := ?_) (by simp only [List.getElem?_toArray, List.getElem?_cons_succ, List.getElem?_cons_zero]; rfl) (by kernel_rfl) (by kernel_rfl) (by kernel_rfl) (by exact fun _ _ _ h => h) (Or.inl ⟨by kernel_rfl, ?_⟩) (by assumption) ?_
            rotate_left
            · intro w hSw
              (try dsimp only at hSw)
              go_simp
              try with_reducible rfl
            simp only [Act.put, List.setIfInBounds_toArray, List.set_cons_zero, List.set_cons_succ]
            refine wpAnyH_take (i := 29) (v := ?_) (by simp only [List.getElem?_toArray, List.getElem?_cons_succ, List.getElem?_cons_zero]; rfl) (by kernel_rfl) (by kernel_rfl) (by kernel_rfl) (by exact fun _ _ _ h => h) (Or.inl ⟨by kernel_rfl, ?_⟩) (by assumption) ?_
            rotate_left
            · intro w hSw
              (try dsimp only at hSw)
              go_simp
              try with_reducible rfl
            simp only [Act.put, List.setIfInBounds_toArray, List.set_cons_zero, List.set_cons_succ]
            refine wpAnyH_take (i := 30) (v := ?_) (by simp only [List.getElem?_toArray, List.getElem?_cons_succ, List.getElem?_cons_zero]; rfl) (by kernel_rfl) (by kernel_rfl) (by kernel_rfl) (by exact fun _ _ _ h => h) (Or.inl ⟨by kernel_rfl, ?_⟩) (by assumption) ?_
            rotate_left
            · intro w hSw
              (try dsimp only at hSw)
              go_simp
              try with_reducible rfl
            simp only [Act.put, List.setIfInBounds_toArray, List.set_cons_zero, List.set_cons_succ]
            refine wpAnyH_take (i := 31) (v := ?_) (by simp only [List.getElem?_toArray, List.getElem?_cons_succ, List.getElem?_cons_zero]; rfl) (by kernel_rfl) (by kernel_rfl) (by kernel_rfl) (by exact fun _ _ _ h => h) (Or.inl ⟨by kernel_rfl, ?_⟩) (by assumption) ?_
            rotate_left
            · intro w hSw
              (try dsimp only at hSw)
              go_simp
              try with_reducible rfl
            simp only [Act.put, List.setIfInBounds_toArray, List.set_cons_zero, List.set_cons_succ]
            refine wpAnyH_take (i := 32) (v := ?_) (by simp only [List.getElem?_toArray, List.getElem?_cons_succ, List.getElem?_cons_zero]; rfl) (by kernel_rfl) (by kernel_rfl) (by kernel_rfl) (by exact fun _ _ _ h => h) (Or.inl ⟨by kernel_rfl, ?_⟩) (by assumption) ?_
            rotate_left
            · intro w hSw
              (try dsimp only at hSw)
              go_simp
              try with_reducible rfl
            simp only [Act.put, List.setIfInBounds_toArray, List.set_cons_zero, List.set_cons_succ]
            refine wpAnyH_take (i := 33) (v := ?_) (by simp only [List.getElem?_toArray, List.getElem?_cons_succ, List.getElem?_cons_zero]; rfl) (by kernel_rfl) (by kernel_rfl) (by kernel_rfl) (by exact fun _ _ _ h => h) (Or.inl ⟨by kernel_rfl, ?_⟩) (by assumption) ?_
            rotate_left
            · intro w hSw
              (try dsimp only at hSw)
              go_simp
              try with_reducible rfl
            simp only [Act.put, List.setIfInBounds_toArray, List.set_cons_zero, List.set_cons_succ]
            refine wpAnyH_take (i := 34) (v := ?_) (by simp only [List.getElem?_toArray, List.getElem?_cons_succ, List.getElem?_cons_zero]; rfl) (by kernel_rfl) (by kernel_rfl) (by kernel_rfl) (by exact fun _ _ _ h => h) (Or.inl ⟨by kernel_rfl, ?_⟩) (by assumption) ?_
            rotate_left
            · intro w hSw
              (try dsimp only at hSw)
              go_simp
              try with_reducible rfl
            simp only [Act.put, List.setIfInBounds_toArray, List.set_cons_zero, List.set_cons_succ]
            refine wpAnyH_take (i := 35) (v := ?_) (by simp only [List.getElem?_toArray, List.getElem?_cons_succ, List.getElem?_cons_zero]; rfl) (by kernel_rfl) (by kernel_rfl) (by kernel_rfl) (by exact fun _ _ _ h => h) (Or.inl ⟨by kernel_rfl, ?_⟩) (by assumption) ?_
            rotate_left
            · intro w hSw
              (try dsimp only at hSw)
              go_simp
              try with_reducible rfl
            simp only [Act.put, List.setIfInBounds_toArray, List.set_cons_zero, List.set_cons_succ]
            refine wpAnyH_take (i := 36) (v := ?_) (by simp only [List.getElem?_toArray, List.getElem?_cons_succ, List.getElem?_cons_zero]; rfl) (by kernel_rfl) (by kernel_rfl) (by kernel_rfl) (by exact fun _ _ _ h => h) (Or.inl ⟨by kernel_rfl, ?_⟩) (by assumption) ?_
            rotate_left
            · intro w hSw
              (try dsimp only at hSw)
              go_simp
              try with_reducible rfl
            simp only [Act.put, List.setIfInBounds_toArray, List.set_cons_zero, List.set_cons_succ]
            refine wpAnyH_done (by kernel_rfl) ?_ _
            go_wp2_with fail
            go_roundw
            case rel => exact ⟨k + 1, f, S6, by omega, by go_num, HD12.out, B12⟩
            case measure => simp [intOf]; omega
          · obtain ⟨g1, g2, g3, g4, g5, g6⟩ := HAK.out.k0 rfl
            have hmq : q.b.length = mq := HMQ.out
            rw [← ENF.out, ← END.out] at g3 g4 g5 g6
            rw [hmq] at g4 g5 g6
            have hb1 := Lib.hid (show (f.b.take (min nd nf) == d.b) = true by rw [ENF.out, END.out, g1]; exact beq_self_eq_true _)
            have hb2 := Lib.hid (show (q.b.take (min (nf - nd) mq) == f.b.drop nd) = true by rw [ENF.out, END.out, ← hmq, g2]; exact beq_self_eq_true _)
            clear g1 g2 hmq
            have g7 : nf < nd + mq := g5 h9 h8
            have hx0 : (x == 0) = false := by simpa using h9
            obtain ⟨y, ey⟩ : ∃ y, y = nd + mq := ⟨_, rfl⟩
            have hwr : IntKind.i64.wrap ((nd : Int) + (mq : Int)) = (y : Int) := by rw [ey]; exact w64 (show nd + mq ≤ 9223372036854775807 by omega)
            have g8 : ¬ nf = y := by omega
            have g9 : ((nf : Int) == (y : Int)) = false := by simpa using (show ¬ (nf : Int) = (y : Int) by omega)
            clear g7 ey
            clear g4 g5 g6
            have hbeg := Lib.hid (show (f.b.take (min sd nf) == d.b.take sd) = true by rw [ESD.out, ENF.out, (HAK.out.keep (fun h => absurd h.1 (by decide))).2]; exact beq_self_eq_true _)
            have i6 : ¬ sf < sd := by have := (HAK.out.keep (fun h => absurd h.1 (by decide))).1; rw [← ESD.out, ← ESF.out] at this; omega
            have z0 : (0 : Int) ≤ (sd : Int) := by omega
            have z1 : (sd : Int) ≤ (cw : Int) := by omega
            go_wp2_with fail
            refine (HK.out.safe f w.heap.size S6 p _ HD10.out).mono ?_
            rw [← ESF.out]
            rintro e w11 ⟨rfl, bb⟩
            have r1 := bb.row (row_lt r1) r1
            have B11 := B10.call bb
            have HD11 := Lib.hid (HD10.out.to bb)
            have HSC11 := Lib.hid (HSC10.out.to bb)
            have HSW11 := Lib.hid (HSW10.out.to bb)
            have HSN11 := Lib.hid (HSN10.out.to bb)
            clear bb B10 HD10 HSC10 HSW10 HSN10
            obtain ⟨a0, a1, a2⟩ := keepK r1
            go_wp2_with fail
            refine (begins_any An Aw nf cn sd cw f.b (d.b.take sd) _ HSN11.out HAK.out.fok.bytes hcn (by rw [← bs_take]; exact HSW11.out.take (by omega)) (HB.out.take _)).mono ?_
            rw [hbeg.out]
            rintro e w12 ⟨rfl, rfl⟩
            go_upto_region 17 with fail
            obtain ⟨Wd, eWd⟩ : ∃ X, X = w11.drew := ⟨_, rfl⟩
            have r1 : Wd.heap[wr.heap.size]? = some (.cells #[.int .u8 (q.what : Nat), .slice C mq cq, .int .i64 q.n] 35 (0, 0)) := by rw [eWd]; exact r1
            have HD12 := Lib.hid (show Dk Wd w.heap.size S6 p f by rw [eWd]; exact HD11.out.to ((Below.refl _ _).drew))
            have HSC12 := Lib.hid (show Sl Wd Wd.heap.size C mq (bs q.b) by rw [eWd]; exact HSC11.out)
            have HSW12 := Lib.hid (show Sl Wd Wd.heap.size Aw nd (bs d.b) by rw [eWd]; exact HSW11.out)
            have HSN12 := Lib.hid (show Sl Wd Wd.heap.size An nf (bs f.b) by rw [eWd]; exact HSN11.out)
            have B12 : Below w.heap.size w Wd := by rw [eWd]; exact B11.drew
            have hmnn : min (nd : Int) (nf : Int) = (nd : Int) := by omega
            have hnn : ¬ nf < nd := by omega
            obtain ⟨Ad, hAd⟩ : ∃ Ad, Ad = if cn = nd then An else Option.map (fun x : Addr => x.add nd ) An := ⟨_, rfl⟩
            have HAD := Lib.hid hAd
            clear hAd
            have z2 : (0 : Int) ≤ (nd : Int) := by omega
            have z3 : (nd : Int) ≤ (nf : Int) := by omega
            have z4 : (nf : Int) ≤ (cn : Int) := by omega
            clear HD11 HSC11 HSW11 HSN11 B11
            refine wp_region_held_drew (S := (fun w' => w'.cell? ⟨wr.heap.size, 0, none⟩ = some (.int .u8 (q.what : Nat)) ∧ w'.cell? ⟨wr.heap.size, 1, none⟩ = some (.slice C mq cq) ∧ w'.cell? ⟨wr.heap.size, 2, none⟩ = some (.int .i64 q.n))) (by kernel_rfl) (by rw [← eWd]; exact keepK r1) (fun hHeld => ?_)
            rw [← eWd] at hHeld ⊢
            clear eWd
            have lgw := row_lt r1
            refine wpAnyH_take (i := 0) (v := ?_) (by simp only [List.getElem?_toArray, List.getElem?_cons_succ, List.getElem?_cons_zero]; rfl) (by kernel_rfl) (by kernel_rfl) (by kernel_rfl) (by exact fun _ _ _ h => h) (Or.inl ⟨by kernel_rfl, ?_⟩) (by assumption) ?_
            rotate_left
            · intro w hSw
              (try dsimp only at hSw)
              go_simp
              try with_reducible rfl
            simp only [Act.put, List.setIfInBounds_toArray, List.set_cons_zero, List.set_cons_succ]
            refine wpAnyH_take (i := 1) (v := ?_) (by simp only [List.getElem?_toArray, List.getElem?_cons_succ, List.getElem?_cons_zero]; rfl) (by kernel_rfl) (by kernel_rfl) (by kernel_rfl) (by exact fun _ _ _ h => h) (Or.inl ⟨by kernel_rfl, ?_⟩) (by assumption) ?_
            rotate_left
            · intro w hSw
              (try dsimp only at hSw)
              go_simp
              try with_reducible rfl
            simp only [Act.put, List.setIfInBounds_toArray, List.set_cons_zero, List.set_cons_succ]
            refine wpAnyH_ready (rs := [2]) (by kernel_rfl) (by simp) ?_
            refine AllReadyH.cons (by simp only [List.getElem?_toArray, List.getElem?_cons_succ, List.getElem?_cons_zero]; rfl) (fun K hK => ?_) AllReadyH.nil
            rw [if_pos (by kernel_rfl)]
            go_simp
            refine (begins_any An Aw nf cn nd cw f.b d.b _ HSN12.out HAK.out.fok.bytes hcn HSW12.out HB.out).mono ?_
            rw [hb1.out]
            rintro e w13 ⟨rfl, rfl⟩
            go_wp2_with fail
            refine hK.out _ _ ?_ (fun hHeld => ?_)
            · exact keepK r1
            clear hK K
            try simp only [Act.put, List.setIfInBounds_toArray, List.set_cons_zero, List.set_cons_succ]
            refine wpAnyH_take (i := 3) (v := ?_) (by simp only [List.getElem?_toArray, List.getElem?_cons_succ, List.getElem?_cons_zero]; rfl) (by kernel_rfl) (by kernel_rfl) (by kernel_rfl) (by exact fun _ _ _ h => h) (Or.inl ⟨by kernel_rfl, ?_⟩) (by assumption) ?_
            rotate_left
            · intro w hSw
              (try dsimp only at hSw)
              go_simp
              try with_reducible rfl
            simp only [Act.put, List.setIfInBounds_toArray, List.set_cons_zero, List.set_cons_succ]
            refine wpAnyH_take (i := 4) (v := ?_) (by simp only [List.getElem?_toArray, List.getElem?_cons_succ, List.getElem?_cons_zero]; rfl) (by kernel_rfl) (by kernel_rfl) (by kernel_rfl) (by exact fun _ _ _ h => h) (Or.inl ⟨by kernel_rfl, ?_⟩) (by assumption) ?_
            rotate_left
            · intro w hSw
              (try dsimp only at hSw)
              go_simp
              try with_reducible rfl
            simp only [Act.put, List.setIfInBounds_toArray, List.set_cons_zero, List.set_cons_succ]
            refine wpAnyH_take (i := 5) (v := ?_) (by simp only [List.getElem?_toArray, List.getElem?_cons_succ, List.getElem?_cons_zero]; rfl) (by kernel_rfl) (by kernel_rfl) (by kernel_rfl) (by exact fun _ _ _ h => h) (Or.inl ⟨by kernel_rfl, ?_⟩) (by assumption) ?_
            rotate_left
            · intro w hSw
              (try dsimp only at hSw)
              go_simp
              try with_reducible rfl
            simp only [Act.put, List.setIfInBounds_toArray, List.set_cons_zero, List.set_cons_succ]
            refine wpAnyH_take (i := 6) (v := ?_) (by simp only [List.getElem?_toArray, List.getElem?_cons_succ, List.getElem?_cons_zero]; rfl) (by kernel_rfl) (by kernel_rfl) (by kernel_rfl) (by exact fun _ _ _ h => h) (Or.inl ⟨by kernel_rfl, ?_⟩) (by assumption) ?_
            rotate_left
            · intro w hSw
              (try dsimp only at hSw)
              go_simp
              try with_reducible rfl
            simp only [Act.put, List.setIfInBounds_toArray, List.set_cons_zero, List.set_cons_succ]
            refine wpAnyH_take (i := 7) (v := ?_) (by simp only [List.getElem?_toArray, List.getElem?_cons_succ, List.getElem?_cons_zero]; rfl) (by kernel_rfl) (by kernel_rfl) (by kernel_rfl) (by exact fun _ _ _ h => h) (Or.inl ⟨by kernel_rfl, ?_⟩) (by assumption) ?_
            rotate_left
            · intro w hSw
              (try dsimp only at hSw)
              go_simp
              try with_reducible rfl
            simp only [Act.put, List.setIfInBounds_toArray, List.set_cons_zero, List.set_cons_succ]
            refine wpAnyH_take (i := 8) (v := ?_) (by simp only [List.getElem?_toArray, List.getElem?_cons_succ, List.getElem?_cons_zero]; rfl) (by kernel_rfl) (by kernel_rfl) (by kernel_rfl) (by exact fun _ _ _ h => h) (Or.inl ⟨by kernel_rfl, ?_⟩) (by assumption) ?_
            rotate_left
            · intro w hSw
              (try dsimp only at hSw)
              go_simp
              try with_reducible rfl
            simp only [Act.put, List.setIfInBounds_toArray, List.set_cons_zero, List.set_cons_succ]
            refine wpAnyH_take (i := 9) (v := ?_) (by simp only [List.getElem?_toArray, List.getElem?_cons_succ, List.getElem?_cons_zero]; rfl) (by kernel_rfl) (by kernel_rfl) (by kernel_rfl) (by exact fun _ _ _ h => h) (Or.inl ⟨by kernel_rfl, ?_⟩) (by assumption) ?_
            rotate_left
            · intro w hSw
              (try dsimp only at hSw)
              go_simp
              try with_reducible rfl
            simp only [Act.put, List.setIfInBounds_toArray, List.set_cons_zero, List.set_cons_succ]
            refine wpAnyH_take (i := 10) (v := ?_) (by simp only [List.getElem?_toArray, List.getElem?_cons_succ, List.getElem?_cons_zero]; rfl) (by kernel_rfl) (by kernel_rfl) (by kernel_rfl) (by exact fun _ _ _ h => h) (Or.inl ⟨by kernel_rfl, ?_⟩) (by assumption) ?_
            rotate_left
            · intro w hSw
              (try dsimp only at hSw)
              go_simp
              try with_reducible rfl
            simp only [Act.put, List.setIfInBounds_toArray, List.set_cons_zero, List.set_cons_succ]
            refine wpAnyH_take (i := 11) (v := ?_) (by simp only [List.getElem?_toArray, List.getElem?_cons_succ, List.getElem?_cons_zero]; rfl) (by kernel_rfl) (by kernel_rfl) (by kernel_rfl) (by exact fun _ _ _ h => h) (Or.inl ⟨by kernel_rfl, ?_⟩) (by assumption) ?_
            rotate_left
            · intro w hSw
              (try dsimp only at hSw)
              go_simp
              try with_reducible rfl
            simp only [Act.put, List.setIfInBounds_toArray, List.set_cons_zero, List.set_cons_succ]
            refine wpAnyH_take (i := 12) (v := ?_) (by simp only [List.getElem?_toArray, List.getElem?_cons_succ, List.getElem?_cons_zero]; rfl) (by kernel_rfl) (by kernel_rfl) (by kernel_rfl) (by exact fun _ _ _ h => h) (Or.inl ⟨by kernel_rfl, ?_⟩) (by assumption) ?_
            rotate_left
            · intro w hSw
              (try dsimp only at hSw)
              go_simp
              try with_reducible rfl
            simp only [Act.put, List.setIfInBounds_toArray, List.set_cons_zero, List.set_cons_succ]
            refine wpAnyH_take (i := 13) (v := ?_) (by simp only [List.getElem?_toArray, List.getElem?_cons_succ, List.getElem?_cons_zero]; rfl) (by kernel_rfl) (by kernel_rfl) (by kernel_rfl) (by exact fun _ _ _ h => h) (Or.inl ⟨by kernel_rfl, ?_⟩) (by assumption) ?_
            rotate_left
            · intro w hSw
              (try dsimp only at hSw)
              go_simp
              try with_reducible rfl
            simp only [Act.put, List.setIfInBounds_toArray, List.set_cons_zero, List.set_cons_succ]
            rw [← HAD.out]
            refine wpAnyH_ready (rs := [14]) (by kernel_rfl) (by simp) ?_
            refine AllReadyH.cons (by simp only [List.getElem?_toArray, List.getElem?_cons_succ, List.getElem?_cons_zero]; rfl) (fun K hK => ?_) AllReadyH.nil
            rw [if_pos (by kernel_rfl)]
            go_simp
            have SD := HSN12.out.drop (k := nd ) (by omega) hcn
            rw [bs_drop, ← HAD.out] at SD
            refine (begins_any C _ mq cq (nf - nd) _ q.b (f.b.drop nd ) _ HSC12.out hq0.out.b hcq SD (HAK.out.fok.bytes.drop _)).mono ?_
            rw [hb2.out]
            rintro e w14 ⟨rfl, rfl⟩
            go_wp2_with fail
            refine hK.out _ _ ?_ (fun hHeld => ?_)
            · exact keepK r1
            clear hK K
            try simp only [Act.put, List.setIfInBounds_toArray, List.set_cons_zero, List.set_cons_succ]
            refine wpAnyH_take (i := 15) (v := ?_) (by simp only [List.getElem?_toArray, List.getElem?_cons_succ, List.getElem?_cons_zero]; rfl) (by kernel_rfl) (by kernel_rfl) (by kernel_rfl) (by exact fun _ _ _ h => h) (Or.inl ⟨by kernel_rfl, ?_⟩) (by assumption) ?_
            rotate_left
            · intro w hSw
              (try dsimp only at hSw)
              go_simp
              try with_reducible rfl
            simp only [Act.put, List.setIfInBounds_toArray, List.set_cons_zero, List.set_cons_succ]
            refine wpAnyH_take (i := 16) (v := ?_) (by simp only [List.getElem?_toArray, List.getElem?_cons_succ, List.getElem?_cons_zero]; rfl) (by kernel_rfl) (by kernel_rfl) (by kernel_rfl) (by exact fun _ _ _ h => h) (Or.inl ⟨by kernel_rfl, ?_⟩) (by assumption) ?_
            rotate_left
            · intro w hSw
              (try dsimp only at hSw)
              go_simp
              try with_reducible rfl
            simp only [Act.put, List.setIfInBounds_toArray, List.set_cons_zero, List.set_cons_succ]
            refine wpAnyH_take (i := 17) (v := ?_) (by simp only [List.getElem?_toArray, List.getElem?_cons_succ, List.getElem?_cons_zero]; rfl) (by kernel_rfl) (by kernel_rfl) (by kernel_rfl) (by exact fun _ _ _ h => h) (Or.inl ⟨by kernel_rfl, ?_⟩) (by assumption) ?_
            rotate_left
            · intro w hSw
              (try dsimp only at hSw)
              go_simp
              try with_reducible rfl
            simp only [Act.put, List.setIfInBounds_toArray, List.set_cons_zero, List.set_cons_succ]
            refine wpAnyH_take (i := 18) (v := ?_) (by simp only [List.getElem?_toArray, List.getElem?_cons_succ, List.getElem?_cons_zero]; rfl) (by kernel_rfl) (by kernel_rfl) (by kernel_rfl) (by exact fun _ _ _ h => h) (Or.inl ⟨by kernel_rfl, ?_⟩) (by assumption) ?_
            rotate_left
            · intro w hSw
              (try dsimp only at hSw)
              go_simp
              try with_reducible rfl
            simp only [Act.put, List.setIfInBounds_toArray, List.set_cons_zero, List.set_cons_succ]
            refine wpAnyH_take (i := 19) (v := ?_) (by simp only [List.getElem?_toArray, List.getElem?_cons_succ, List.getElem?_cons_zero]; rfl) (by kernel_rfl) (by kernel_rfl) (by kernel_rfl) (by exact fun _ _ _ h => h) (Or.inl ⟨by kernel_rfl, ?_⟩) (by assumption) ?_
            rotate_left
            · intro w hSw
              (try dsimp only at hSw)
              go_simp
              try with_reducible rfl
            simp only [Act.put, List.setIfInBounds_toArray, List.set_cons_zero, List.set_cons_succ]
            refine wpAnyH_take (i := 20) (v := ?_) (by simp only [List.getElem?_toArray, List.getElem?_cons_succ, List.getElem?_cons_zero]; rfl) (by kernel_rfl) (by kernel_rfl) (by kernel_rfl) (by exact fun _ _ _ h => h) (Or.inl ⟨by kernel_rfl, ?_⟩) (by assumption) ?_
            rotate_left
            · intro w hSw
              (try dsimp only at hSw)
              go_simp
              try with_reducible rfl
            simp only [Act.put, List.setIfInBounds_toArray, List.set_cons_zero, List.set_cons_succ]
            refine wpAnyH_take (i := 21) (v := ?_) (by simp only [List.getElem?_toArray, List.getElem?_cons_succ, List.getElem?_cons_zero]; rfl) (by kernel_rfl) (by kernel_rfl) (by kernel_rfl) (by exact fun _ _ _ h => h) (Or.inl ⟨by kernel_rfl, ?_⟩) (by assumption) ?_
            rotate_left
            · intro w hSw
              (try dsimp only at hSw)
              go_simp
              try with_reducible rfl
            simp only [Act.put, List.setIfInBounds_toArray, List.set_cons_zero, List.set_cons_succ]
            refine wpAnyH_take (i := 22) (v := ?_) (by simp only [List.getElem?_toArray, List.getElem?_cons_succ, List.getElem?_cons_zero]; rfl) (by kernel_rfl) (by kernel_rfl) (by kernel_rfl) (by exact fun _ _ _ h => h) (Or.inl ⟨by kernel_rfl, ?_⟩) (by assumption) ?_
            rotate_left
            · intro w hSw
              (try dsimp only at hSw)
              go_simp
              try with_reducible rfl
            simp only [Act.put, List.setIfInBounds_toArray, List.set_cons_zero, List.set_cons_succ]
            refine wpAnyH_take (i := 23) (v := ?_) (by simp only [List.getElem?_toArray, List.getElem?_cons_succ, List.getElem?_cons_zero]; rfl) (by kernel_rfl) (by kernel_rfl) (by kernel_rfl) (by exact fun _ _ _ h => h) (Or.inl ⟨by kernel_rfl, ?_⟩) (by assumption) ?_
            rotate_left
            · intro w hSw
              (try dsimp only at hSw)
              go_simp
              try with_reducible rfl
            simp only [Act.put, List.setIfInBounds_toArray, List.set_cons_zero, List.set_cons_succ]
            refine wpAnyH_take (i := 24) (v := ?_) (by simp only [List.getElem?_toArray, List.getElem?_cons_succ, List.getElem?_cons_zero]; rfl) (by kernel_rfl) (by kernel_rfl) (by kernel_rfl) (by exact fun _ _ _ h => h) (Or.inl ⟨by kernel_rfl, ?_⟩) (by assumption) ?_
            rotate_left
            · intro w hSw
              (try dsimp only at hSw)
              go_simp
              try with_reducible rfl
            simp only [Act.put, List.setIfInBounds_toArray, List.set_cons_zero, List.set_cons_succ]
            refine wpAnyH_take (i := 25) (v := ?_) (by simp only [List.getElem?_toArray, List.getElem?_cons_succ, List.getElem?_cons_zero]; rfl) (by kernel_rfl) (by kernel_rfl) (by kernel_rfl) (by exact fun _ _ _ h => h) (Or.inl ⟨by kernel_rfl, ?_⟩) (by assumption) ?_
            rotate_left
            · intro w hSw
              (try dsimp only at hSw)
              go_simp
              try with_reducible rfl
            simp only [Act.put, List.setIfInBounds_toArray, List.set_cons_zero, List.set_cons_succ]
            refine wpAnyH_take (i := 26) (v := ?_) (by simp only [List.getElem?_toArray, List.getElem?_cons_succ, List.getElem?_cons_zero]; rfl) (by kernel_rfl) (by kernel_rfl) (by kernel_rfl) (by exact fun _ _ _ h => h) (Or.inl ⟨by kernel_rfl, ?_⟩) (by assumption) ?_
            rotate_left
            · intro w hSw
              (try dsimp only at hSw)
              go_simp
              try with_reducible rfl
            simp only [Act.put, List.setIfInBounds_toArray, List.set_cons_zero, List.set_cons_succ]
            refine wpAnyH_take (i := 27) (v := ?_) (by simp only [List.getElem?_toArray, List.getElem?_cons_succ, List.getElem?_cons_zero]; rfl) (by kernel_rfl) (by kernel_rfl) (by kernel_rfl) (by exact fun _ _ _ h => h) (Or.inl ⟨by kernel_rfl, ?_⟩) (by assumption) ?_
            rotate_left
            · intro w hSw
              (try dsimp only at hSw)
              go_simp
              try with_reducible rfl
            simp only [Act.put, List.setIfInBounds_toArray, List.set_cons_zero, List.set_cons_succ]
            refine wpAnyH_take (i := 28) (v := ?_) (by simp only [List.getElem?_toArray, List.getElem?_cons_succ, List.getElem?_cons_zero]; rfl) (by kernel_rfl) (by kernel_rfl) (by kernel_rfl) (by exact fun _ _ _ h => h) (Or.inl ⟨by kernel_rfl, ?_⟩) (by assumption) ?_
            rotate_left
            · intro w hSw
              (try dsimp only at hSw)
              go_simp
              try with_reducible rfl
            simp only [Act.put, List.setIfInBounds_toArray, List.set_cons_zero, List.set_cons_succ]
            refine wpAnyH_take (i := 29) (v := ?_) (by simp only [List.getElem?_toArray, List.getElem?_cons_succ, List.getElem?_cons_zero]; rfl) (by kernel_rfl) (by kernel_rfl) (by kernel_rfl) (by exact fun _ _ _ h => h) (Or.inl ⟨by kernel_rfl, ?_⟩) (by assumption) ?_
            rotate_left
            · intro w hSw
              (try dsimp only at hSw)
              go_simp
              try with_reducible rfl
            simp only [Act.put, List.setIfInBounds_toArray, List.set_cons_zero, List.set_cons_succ]
            refine wpAnyH_take (i := 30) (v := ?_) (by simp only [List.getElem?_toArray, List.getElem?_cons_succ, List.getElem?_cons_zero]; rfl) (by kernel_rfl) (by kernel_rfl) (by kernel_rfl) (by exact fun _ _ _ h => h) (Or.inl ⟨by kernel_rfl, ?_⟩) (by assumption) ?_
            rotate_left
            · intro w hSw
              (try dsimp only at hSw)
              go_simp
              try with_reducible rfl
            simp only [Act.put, List.setIfInBounds_toArray, List.set_cons_zero, List.set_cons_succ]
            refine wpAnyH_take (i := 31) (v := undef) (by simp only [List.getElem?_toArray, List.getElem?_cons_succ, List.getElem?_cons_zero]; rfl) (by kernel_rfl) (by kernel_rfl) (by kernel_rfl) (by exact fun _ _ _ h => h) (Or.inr ⟨by kernel_rfl, rfl⟩) (by assumption) ?_
            simp only [Act.put, List.setIfInBounds_toArray, List.set_cons_zero, List.set_cons_succ]
            refine wpAnyH_take (i := 32) (v := undef) (by simp only [List.getElem?_toArray, List.getElem?_cons_succ, List.getElem?_cons_zero]; rfl) (by kernel_rfl) (by kernel_rfl) (by kernel_rfl) (by exact fun _ _ _ h => h) (Or.inr ⟨by kernel_rfl, rfl⟩) (by assumption) ?_
            simp only [Act.put, List.setIfInBounds_toArray, List.set_cons_zero, List.set_cons_succ]
            refine wpAnyH_take (i := 33) (v := undef) (by simp only [List.getElem?_toArray, List.getElem?_cons_succ, List.getElem?_cons_zero]; rfl) (by kernel_rfl) (by kernel_rfl) (by kernel_rfl) (by exact fun _ _ _ h => h) (Or.inr ⟨by kernel_rfl, rfl⟩) (by assumption) ?_
            simp only [Act.put, List.setIfInBounds_toArray, List.set_cons_zero, List.set_cons_succ]
            refine wpAnyH_take (i := 34) (v := undef) (by simp only [List.getElem?_toArray, List.getElem?_cons_succ, List.getElem?_cons_zero]; rfl) (by kernel_rfl) (by kernel_rfl) (by kernel_rfl) (by exact fun _ _ _ h => h) (Or.inr ⟨by kernel_rfl, rfl⟩) (by assumption) ?_
            simp only [Act.put, List.setIfInBounds_toArray, List.set_cons_zero, List.set_cons_succ]
            refine wpAnyH_take (i := 35) (v := ?_) (by simp only [List.getElem?_toArray, List.getElem?_cons_succ, List.getElem?_cons_zero]; rfl) (by kernel_rfl) (by kernel_rfl) (by kernel_rfl) (by exact fun _ _ _ h => h) (Or.inl ⟨by kernel_rfl, ?_⟩) (by assumption) ?_
            rotate_left
            · intro w hSw
              (try dsimp only at hSw)
              go_simp
              try with_reducible rfl
            simp only [Act.put, List.setIfInBounds_toArray, List.set_cons_zero, List.set_cons_succ]
            refine wpAnyH_take (i := 36) (v := ?_) (by simp only [List.getElem?_toArray, List.getElem?_cons_succ, List.getElem?_cons_zero]; rfl) (by kernel_rfl) (by kernel_rfl) (by kernel_rfl) (by exact fun _ _ _ h => h) (Or.inl ⟨by kernel_rfl, ?_⟩) (by assumption) ?_
            rotate_left
            · intro w hSw
              (try dsimp only at hSw)
              go_simp
              try with_reducible rfl
            simp only [Act.put, List.setIfInBounds_toArray, List.set_cons_zero, List.set_cons_succ]
            refine wpAnyH_done (by kernel_rfl) ?_ _
            go_wp2_with fail
            go_roundw
            case rel => exact ⟨k + 1, f, S6, by omega, by go_num, HD12.out, B12⟩
            case measure => simp [intOf]; omega
      · have hsm := Lib.hid (show (d.b == f.b) = true by rw [HAK.out.same (by decide) (by decide) (fun h => absurd h.1 (by decide))]; exact beq_self_eq_true _)
        have hbeg := Lib.hid (show (f.b.take (min sd nf) == d.b.take sd) = true by rw [ESD.out, ENF.out, (HAK.out.keep (fun h => absurd h.1 (by decide))).2]; exact beq_self_eq_true _)
        have i6 : ¬ sf < sd := by have := (HAK.out.keep (fun h => absurd h.1 (by decide))).1; rw [← ESD.out, ← ESF.out] at this; omega
        have z0 : (0 : Int) ≤ (sd : Int) := by omega
        have z1 : (sd : Int) ≤ (cw : Int) := by omega
        go_wp2_with fail
        refine (HK.out.safe f w.heap.size S6 p _ HD10.out).mono ?_
        rw [← ESF.out]
        rintro e w11 ⟨rfl, bb⟩
        have r1 := bb.row (row_lt r1) r1
        have B11 := B10.call bb
        have HD11 := Lib.hid (HD10.out.to bb)
        have HSC11 := Lib.hid (HSC10.out.to bb)
        have HSW11 := Lib.hid (HSW10.out.to bb)
        have HSN11 := Lib.hid (HSN10.out.to bb)
        clear bb B10 HD10 HSC10 HSW10 HSN10
        obtain ⟨a0, a1, a2⟩ := keepK r1
        go_wp2_with fail
        refine (begins_any An Aw nf cn sd cw f.b (d.b.take sd) _ HSN11.out HAK.out.fok.bytes hcn (by rw [← bs_take]; exact HSW11.out.take (by omega)) (HB.out.take _)).mono ?_
        rw [hbeg.out]
        rintro e w12 ⟨rfl, rfl⟩
        go_wp2_with fail
        refine (WdW.law6Same_any Aw An nd cw nf cn _ d.b f.b _ HSW11.out HB.out HSN11.out HAK.out.fok.bytes).mono ?_
        rw [hsm.out]
        rintro e w13 ⟨rfl, rfl⟩
        go_wp2_with fail
        go_roundw
        case rel => exact ⟨k + 1, f, S6, by omega, by go_num, HD11.out, B11⟩
        case measure => simp [intOf]; omega
      · by_cases h9 : x = 0
        · obtain ⟨g1, g2⟩ := HAK.out.k2 rfl h9
          subst h9
          have hsm := Lib.hid (show (d.b.take (min nf nd) == f.b) = true by rw [ENF.out, END.out, g2]; exact beq_self_eq_true _)
          rw [← ENF.out] at g1
          rw [← g1] at a2
          clear g1 g2
          go_wp2_with fail
          refine (begins_any Aw An nd cw nf cn d.b f.b _ HSW10.out HB.out hcw HSN10.out HAK.out.fok.bytes).mono ?_
          rw [hsm.out]
          rintro e w13 ⟨rfl, rfl⟩
          go_wp2_with fail
          go_roundw
          case rel => exact ⟨k + 1, f, S6, by omega, by go_num, HD10.out, B10⟩
          case measure => simp [intOf]; omega
        · have hx0 : (x == 0) = false := by simpa using h9
          have hsm := Lib.hid (show (d.b == f.b) = true by rw [HAK.out.same (by decide) (by decide) (fun h => h9 h.2)]; exact beq_self_eq_true _)
          have hbeg := Lib.hid (show (f.b.take (min sd nf) == d.b.take sd) = true by rw [ESD.out, ENF.out, (HAK.out.keep (fun h => h9 h.2)).2]; exact beq_self_eq_true _)
          have i6 : ¬ sf < sd := by have := (HAK.out.keep (fun h => h9 h.2)).1; rw [← ESD.out, ← ESF.out] at this; omega
          have z0 : (0 : Int) ≤ (sd : Int) := by omega
          have z1 : (sd : Int) ≤ (cw : Int) := by omega
          go_wp2_with fail
          refine (HK.out.safe f w.heap.size S6 p _ HD10.out).mono ?_
          rw [← ESF.out]
          rintro e w11 ⟨rfl, bb⟩
          have r1 := bb.row (row_lt r1) r1
          have B11 := B10.call bb
          have HD11 := Lib.hid (HD10.out.to bb)
          have HSC11 := Lib.hid (HSC10.out.to bb)
          have HSW11 := Lib.hid (HSW10.out.to bb)
          have HSN11 := Lib.hid (HSN10.out.to bb)
          clear bb B10 HD10 HSC10 HSW10 HSN10
          obtain ⟨a0, a1, a2⟩ := keepK r1
          go_wp2_with fail
          refine (begins_any An Aw nf cn sd cw f.b (d.b.take sd) _ HSN11.out HAK.out.fok.bytes hcn (by rw [← bs_take]; exact HSW11.out.take (by omega)) (HB.out.take _)).mono ?_
          rw [hbeg.out]
          rintro e w12 ⟨rfl, rfl⟩
          go_wp2_with fail
          refine (WdW.law6Same_any Aw An nd cw nf cn _ d.b f.b _ HSW11.out HB.out HSN11.out HAK.out.fok.bytes).mono ?_
          rw [hsm.out]
          rintro e w13 ⟨rfl, rfl⟩
          go_wp2_with fail
          go_roundw
          case rel => exact ⟨k + 1, f, S6, by omega, by go_num, HD11.out, B11⟩
          case measure => simp [intOf]; omega
      · have hsm := Lib.hid (show (d.b == f.b) = true by rw [HAK.out.same (by decide) (by decide) (fun h => absurd h.1 (by decide))]; exact beq_self_eq_true _)
        have hbeg := Lib.hid (show (f.b.take (min sd nf) == d.b.take sd) = true by rw [ESD.out, ENF.out, (HAK.out.keep (fun h => absurd h.1 (by decide))).2]; exact beq_self_eq_true _)
        have i6 : ¬ sf < sd := by have := (HAK.out.keep (fun h => absurd h.1 (by decide))).1; rw [← ESD.out, ← ESF.out] at this; omega
        have z0 : (0 : Int) ≤ (sd : Int) := by omega
        have z1 : (sd : Int) ≤ (cw : Int) := by omega
        go_wp2_with fail
        refine (HK.out.safe f w.heap.size S6 p _ HD10.out).mono ?_
        rw [← ESF.out]
        rintro e w11 ⟨rfl, bb⟩
        have r1 := bb.row (row_lt r1) r1
        have B11 := B10.call bb
        have HD11 := Lib.hid (HD10.out.to bb)
        have HSC11 := Lib.hid (HSC10.out.to bb)
        have HSW11 := Lib.hid (HSW10.out.to bb)
        have HSN11 := Lib.hid (HSN10.out.to bb)
        clear bb B10 HD10 HSC10 HSW10 HSN10
        obtain ⟨a0, a1, a2⟩ := keepK r1
        go_wp2_with fail
        refine (begins_any An Aw nf cn sd cw f.b (d.b.take sd) _ HSN11.out HAK.out.fok.bytes hcn (by rw [← bs_take]; exact HSW11.out.take (by omega)) (HB.out.take _)).mono ?_
        rw [hbeg.out]
        rintro e w12 ⟨rfl, rfl⟩
        go_wp2_with fail
        refine (WdW.law6Same_any Aw An nd cw nf cn _ d.b f.b _ HSW11.out HB.out HSN11.out HAK.out.fok.bytes).mono ?_
        rw [hsm.out]
        rintro e w13 ⟨rfl, rfl⟩
        go_wp2_with fail
        go_roundw
        case rel => exact ⟨k + 1, f, S6, by omega, by go_num, HD11.out, B11⟩
        case measure => simp [intOf]; omega
      · obtain ⟨rfl, g1, g2, g3⟩ := HAK.out.k4 rfl
        have hsm := Lib.hid (show (d.b.take (min nf nd) == f.b) = true by rw [ENF.out, END.out, g1]; exact beq_self_eq_true _)
        have E4 := Lib.hid (show f.safe = nf by rw [g2, ENF.out])
        have E5 := Lib.hid g3
        clear g1 g2 g3
        have hbeg := Lib.hid (show (f.b.take (min sd nf) == d.b.take sd) = true by rw [ESD.out, ENF.out, (HAK.out.keep (fun h => absurd h.1 (by decide))).2]; exact beq_self_eq_true _)
        have i6 : ¬ sf < sd := by have := (HAK.out.keep (fun h => absurd h.1 (by decide))).1; rw [← ESD.out, ← ESF.out] at this; omega
        have z0 : (0 : Int) ≤ (sd : Int) := by omega
        have z1 : (sd : Int) ≤ (cw : Int) := by omega
        go_wp2_with fail
        refine (HK.out.safe f w.heap.size S6 p _ HD10.out).mono ?_
        rw [← ESF.out]
        rintro e w11 ⟨rfl, bb⟩
        have r1 := bb.row (row_lt r1) r1
        have B11 := B10.call bb
        have HD11 := Lib.hid (HD10.out.to bb)
        have HSC11 := Lib.hid (HSC10.out.to bb)
        have HSW11 := Lib.hid (HSW10.out.to bb)
        have HSN11 := Lib.hid (HSN10.out.to bb)
        clear bb B10 HD10 HSC10 HSW10 HSN10
        obtain ⟨a0, a1, a2⟩ := keepK r1
        go_wp2_with fail
        refine (begins_any An Aw nf cn sd cw f.b (d.b.take sd) _ HSN11.out HAK.out.fok.bytes hcn (by rw [← bs_take]; exact HSW11.out.take (by omega)) (HB.out.take _)).mono ?_
        rw [hbeg.out]
        rintro e w12 ⟨rfl, rfl⟩
        go_wp2_with fail
        refine (begins_any Aw An nd cw nf cn d.b f.b _ HSW11.out HB.out hcw HSN11.out HAK.out.fok.bytes).mono ?_
        rw [hsm.out]
        rintro e w13 ⟨rfl, rfl⟩
        go_wp2_with fail
        refine (HK.out.safe f w.heap.size S6 p _ HD11.out).mono ?_
        rw [ E4.out]
        rintro e w12 ⟨rfl, bb⟩
        have r1 := bb.row (row_lt r1) r1
        have B12 := B11.call bb
        have HD12 := Lib.hid (HD11.out.to bb)
        have HSC12 := Lib.hid (HSC11.out.to bb)
        have HSW12 := Lib.hid (HSW11.out.to bb)
        have HSN12 := Lib.hid (HSN11.out.to bb)
        clear bb B11 HD11 HSC11 HSW11 HSN11
        go_wp2_with fail
        refine (HK.out.off f w.heap.size S6 p _ HD12.out).mono ?_
        rw [ E5.out]
        rintro e w13 ⟨rfl, bb⟩
        have r1 := bb.row (row_lt r1) r1
        have B13 := B12.call bb
        have HD13 := Lib.hid (HD12.out.to bb)
        have HSC13 := Lib.hid (HSC12.out.to bb)
        have HSW13 := Lib.hid (HSW12.out.to bb)
        have HSN13 := Lib.hid (HSN12.out.to bb)
        clear bb B12 HD12 HSC12 HSW12 HSN12
        go_wp2_with fail
        go_roundw
        case rel => exact ⟨k + 1, f, S6, by omega, by go_num, HD13.out, B13⟩
        case measure => simp [intOf]; omega
    · obtain rfl : k = m := by omega
      go_wp2_with fail
      refine (awake9_any HK.out _).mono ?_
      rintro e w5 ⟨rfl, b5⟩
      go_wp2_with fail
      go_ret
      exact ⟨rfl, bw.call b5⟩
end Go.Proofs.Ytljiehnpknbohaa.DkW
