/- The walk of DiskTells (layer 9), over the contracts DiskK. -/
import Derived.Test.YtljiehnpknbohaaDkW
import Derived.Test.YtljiehnpknbohaaDkM
import Derived.RegionTactic
import Derived.Deep.RegionHeld3
set_option linter.unusedVariables false
set_option linter.unusedSimpArgs false
namespace Go.Proofs.Ytljiehnpknbohaa.DkW
open Go.RowKit Go.Proofs.Ytljiehnpknbohaa Go.Proofs.Ytljiehnpknbohaa.Dk
theorem light_at {L : List Deed} {m k : Nat} (h : (L.take m).all few = true) (hk : k < m) (hm : m ≤ L.length) : ((L.take m)[k]?.getD op0).b.length ≤ 200 := by
  rw [List.all_eq_true] at h
  have hl : k < (L.take m).length := by rw [List.length_take]; omega
  rw [List.getElem?_eq_getElem hl]
  have := h _ (List.getElem_mem hl)
  simpa [few] using this
theorem Oks.take {L : List Deed} (h : Oks L) (m : Nat) : Oks (L.take m) := fun o ho => h o (List.mem_of_mem_take ho)
theorem keepT {X : World} {g1 g2 : Nat} {t1 t2 : TypeId} {a0 a1 a2 b0 b1 b2 b3 b4 : Value} (r0 : X.heap[g1]? = some (.cells #[a0, a1, a2] t1 (0, 0))) (r1 : X.heap[g2]? = some (.cells #[b0, b1, b2, b3, b4] t2 (0, 0))) :
    X.cell? ⟨g1, 0, none⟩ = some a0 ∧ X.cell? ⟨g1, 1, none⟩ = some a1 ∧ X.cell? ⟨g1, 2, none⟩ = some a2 ∧ X.cell? ⟨g2, 1, none⟩ = some b1 ∧ X.cell? ⟨g2, 3, none⟩ = some b3 ∧ X.cell? ⟨g2, 4, none⟩ = some b4 :=
  ⟨cell_of_row X g1 0 _ _ _ r0, cell_of_row X g1 1 _ _ _ r0, cell_of_row X g1 2 _ _ _ r0, cell_of_row X g2 1 _ _ _ r1, cell_of_row X g2 3 _ _ _ r1, cell_of_row X g2 4 _ _ _ r1⟩
theorem tells_bad (K : DiskK) (room : Int) (A : Option Addr) (n c : Nat) (w : World) (h : room < 0 ∨ 262144 < room) :
    Calls Try.prog 3 #[.int .i64 room, .slice A n c] w fun e w' => e = .returned (.bool true) ∧ Below w.heap.size w w' := by
  have KB := Lib.hid (K.bad room w h)
  rcases Decidable.em (room < 0) with h0 | h0
  · clear h
    go_enter Try.func3, Try.ntmps3
    go_wp2_with fail
    refine KB.out.mono ?_
    rintro e w1 ⟨rfl, b1⟩
    go_wp2_with fail
    refine (awake9_any K _).mono ?_
    rintro e w2 ⟨rfl, b2⟩
    go_wp2_with fail
    go_ret
    exact ⟨rfl, b1.call b2⟩
  · have h1 : 262144 < room := by omega
    clear h
    go_enter Try.func3, Try.ntmps3
    go_wp2_with fail
    refine KB.out.mono ?_
    rintro e w1 ⟨rfl, b1⟩
    go_wp2_with fail
    refine (awake9_any K _).mono ?_
    rintro e w2 ⟨rfl, b2⟩
    go_wp2_with fail
    go_ret
    exact ⟨rfl, b1.call b2⟩
set_option maxRecDepth 10000 in
set_option maxHeartbeats 4000000 in
theorem tells_core (K : DiskK) (r : Nat) (A : Option Addr) (n c : Nat) (L : List Deed) (w : World) (h : Os w A n L) (ho : Oks L) (hc : n ≤ c) (hr : r ≤ 262144) :
    Calls Try.prog 3 #[.int .i64 (r : Nat), .slice A n c] w fun e w' => e = .returned (.bool true) ∧ Below w.heap.size w w' := by
  have hr1 : ¬ (r : Int) < 0 := by omega
  have hr2 : ¬ (262144 : Int) < (r : Int) := by omega
  have HK := Lib.hid K
  obtain ⟨m, hm⟩ : ∃ m, m = min n 60 := ⟨_, rfl⟩
  have hlen := h.len
  have hmn : m ≤ n := by omega
  have hm60 : m ≤ 60 := by omega
  have HLI := Lib.hid (light_is L n m hlen hm)
  have HO := Lib.hid h
  have HM := Lib.hid hm
  have HT := Lib.hid (h.take hmn)
  have HQ := Lib.hid (ho.take m)
  clear h ho hm
  go_enter Try.func3, Try.ntmps3
  go_wp2_with fail
  refine (HK.out.new r _ hr).mono ?_
  rintro e w1 ⟨p, S, rfl, D1, b1⟩
  go_wp2_with fail
  refine (light_any A n c L _ (HO.out.to b1) hc m HM.out).mono ?_
  rintro e w2 ⟨he, b2⟩
  have B2 := b1.call b2
  have D2 := D1.to b2
  clear b1 b2 D1
  by_cases hl : light L = true
  case neg =>
    rw [if_neg hl] at he
    subst he
    clear hl
    go_wp2_with fail
    refine (awake9_any HK.out _).mono ?_
    rintro e w3 ⟨rfl, b3⟩
    go_wp2_with fail
    go_ret
    exact ⟨rfl, B2.call b3⟩
  rw [if_pos hl] at he
  subst he
  have HL := Lib.hid (show (L.take m).all few = true by rw [← HLI.out]; exact hl)
  clear hl HLI
  go_wp2_with fail
  refine (refNew9_any r _).mono ?_
  rintro e w3 ⟨rfl, b3⟩
  have B3 := B2.call b3
  have D3 := D2.to b3
  clear b3 B2 D2
  go_wp2_with (refine wpList_store_row rfl 32 _ _ rfl w3.heap.size (rdC (Dk.new r) none 0 0) rfl rfl 32 _ (heap_alloc_last _ _) (rdC_info _ _ _ _) rfl (rdC_one _ _ _ _) ?_; rw [World.setRow_alloc_new])
  have R0 : (w3.alloc (.cells (rdC (Dk.new r) none 0 0) 32)).heap[w3.heap.size]? = some (.cells (rdC (Dk.new r) none 0 0) 32 (0, 0)) := heap_alloc_last _ _
  have D0 := D3.to ((Below.refl _ w3).new (.cells (rdC (Dk.new r) none 0 0) 32))
  have B0 := B3.new (.cells (rdC (Dk.new r) none 0 0) 32)
  have N0 : ¬ S w3.heap.size := fun hs => by have := D3.hi _ hs; omega
  have l0 := B3.size
  obtain ⟨X, hX⟩ : ∃ X, X = w3.alloc (.cells (rdC (Dk.new r) none 0 0) 32) := ⟨_, rfl⟩
  rw [← hX] at R0 D0 B0 ⊢
  obtain ⟨g, eg⟩ : ∃ g, g = w3.heap.size := ⟨_, rfl⟩
  rw [← eg] at R0 N0 l0 ⊢
  clear hX D3 B3 eg
  go_loopw [52] (fun i wr => ∃ k : Nat, ∃ d : D, ∃ S' : Nat → Prop, ∃ A' : Option Addr, ∃ n' c' : Nat, k ≤ m ∧ i = .int .i64 k ∧ Dk wr w.heap.size S' p d ∧ Below w.heap.size w wr ∧ wr.heap[g]? = some (.cells (rdC d A' n' c') 32 (0, 0)) ∧ Hid (¬ S' g) ∧ Sl wr wr.heap.size A' n' (bs d.b) ∧ n' ≤ c' ∧ Hid (0 < n' → ∀ b o, A' = some (⟨b, o, none⟩ : Addr) → b ≠ g ∧ ¬ S' b) ∧ Hid (d.room = r)) (fun i _ => m - (intOf i).toNat)
  case atStart => exact ⟨0, Dk.new r, S, none, 0, 0, by omega, rfl, D0, B0, R0, N0, Sl.empty _ _ _, Nat.le_refl _, (fun h => absurd h (by omega)), Eq.refl r⟩
  case round =>
    obtain ⟨k, d, S', A', n', c', hk, rfl, HD, bw, q0, hg, SA, hc', HA, HR⟩ := hrel
    clear R0 D0 B0 N0
    by_cases hlt : k < m
    · have hlt' : (k : Int) < (m : Int) := by omega
      have y0 : (0 : Int) ≤ (k : Int) := by omega
      obtain ⟨b, o, rfl, hbb, C, mq, cq, e0, e1, e2, SC⟩ := HT.out.at (i := k) hlt
      have d0 := (bw.cell (p := ⟨b, o + k * 3, none⟩) hbb).trans e0
      have d1 := (bw.cell (p := ⟨b, o + k * 3 + 1, none⟩) hbb).trans e1
      have d2 := (bw.cell (p := ⟨b, o + k * 3 + 2, none⟩) hbb).trans e2
      have hq := HQ.out.at k
      have hq2 := light_at HL.out hlt (by omega)
      have hmq : ((L.take m)[k]?.getD op0).b.length = mq := by simpa using SC.len
      rw [hmq] at hq2
      clear e0 e1 e2 hmq
      obtain ⟨q, eq⟩ : ∃ q, q = (L.take m)[k]?.getD op0 := ⟨_, rfl⟩
      rw [← eq] at d0 d2 hq SC
      clear eq
      have HAW := Lib.hid (Away.low SC HD.lo)
      have HCL := Lib.hid (show 0 < mq → ∀ b o, C = some (⟨b, o, none⟩ : Addr) → b < w.heap.size from fun hn b o e => by
        obtain ⟨b', o', e', hb', -⟩ := SC.2 hn
        rw [e] at e'
        injection e' with e'
        injection e' with e1 _ _
        omega)
      have HSC := Lib.hid (SC.to bw)
      have HHD := Lib.hid HD
      have HSA := Lib.hid SA
      have HQ0 := Lib.hid q0
      have hgl := row_lt q0
      obtain ⟨R, hR⟩ : ∃ R, R = act d q := ⟨_, rfl⟩
      have HAR := Lib.hid hR
      have KM := Lib.hid (model_any d q A' n' c' C mq cq (wr.alloc (.cells #[.int .u8 (q.what : Nat), .slice C mq cq, .int .i64 q.n] 35)) HD.ok hq (SA.to ((Below.refl _ _).new _)) hc' (SC.to (bw.new _)) (by omega))
      rw [← hR] at KM
      obtain ⟨f, x⟩ := R
      dsimp only at KM
      have HFR := Lib.hid (show f.room = r by
        have h : f = (act d q).1 := congrArg Prod.fst HAR.out
        rw [h, ← HR.out]
        exact acts_room (d := d) (l := [q]))
      have RA := row_alloc q0 (.cells #[.int .u8 (q.what : Nat), .slice C mq cq, .int .i64 q.n] 35)
      obtain ⟨a0, a1, a2, a3, a4⟩ := row5 RA
      have hq0 := Lib.hid hq
      clear SA HD hR SC hq HR q0
      go_wp2_with fail
      refine KM.out.mono ?_
      rintro e w4 ⟨A2, n2, c2, rfl, S2, F2, hc2, b4⟩
      have r0 := b4.row (row_lt RA) RA
      have r1 := b4.row (by simp) (heap_alloc_new wr (.cells #[.int .u8 (q.what : Nat), .slice C mq cq, .int .i64 q.n] 35))
      have B4 := (bw.new (.cells #[.int .u8 (q.what : Nat), .slice C mq cq, .int .i64 q.n] 35)).call b4
      have HD4 := (HHD.out.to ((Below.refl _ wr).new (.cells #[.int .u8 (q.what : Nat), .slice C mq cq, .int .i64 q.n] 35))).to b4
      have SC4 := (HSC.out.to ((Below.refl _ wr).new (.cells #[.int .u8 (q.what : Nat), .slice C mq cq, .int .i64 q.n] 35))).to b4
      have l4 : wr.heap.size < w4.heap.size := row_lt r1
      clear b4 a0 a1 a2 a3 a4 RA d0 d1 d2
      go_upto_region 13 with (first
        | (refine wpList_store_grown rfl 32 _ _ rfl g (rdC f A2 n2 c2) rfl rfl 32 _ r0 (rdC_info _ _ _ _) rfl (rdC_one _ _ _ _) ?_; intro W5 h5 g5 s5)
        | fail)
      have N2 : 0 < n2 → ∀ b o, A2 = some (⟨b, o, none⟩ : Addr) → b ≠ g ∧ ¬ S' b := fun hn b o e => by
        rcases F2 with ⟨rfl, rfl⟩ | F2
        · exact HA.out hn b o e
        · have hb := F2 b o e
          simp at hb
          exact ⟨by omega, fun hs => by have := HHD.out.hi b hs; omega⟩
      have r1 := g5.row (show wr.heap.size ≠ g by omega) r1
      have B5 := B4.grown g5 B4.size (fun j e => by injection e with e; omega)
      have HD5 := HD4.other g5 (fun j e hs => by injection e with e; subst e; exact hg.out hs)
      have SC5 := Sl.past2 SC4 g5 (fun hn b o e => by have := HCL.out hn b o e; omega)
      have S5 := Sl.past2 S2 g5 (fun hn b o e => (N2 hn b o e).1)
      have HN2 := Lib.hid N2
      have hn2 : f.b.length = n2 := by simpa using S5.len
      have HNL := Lib.hid hn2
      clear N2 HSA HQ0 SC4 HD4 B4 S2 g5 s5 F2 KM HSC hn2 r0
      obtain ⟨Wd, eWd⟩ : ∃ X, X = W5.drew := ⟨_, rfl⟩
      have r1 : Wd.heap[wr.heap.size]? = some (.cells #[.int .u8 (q.what : Nat), .slice C mq cq, .int .i64 q.n] 35 (0, 0)) := by rw [eWd]; exact r1
      have h5 : Wd.heap[g]? = some (.cells (rdC f A2 n2 c2) 32 (0, 0)) := by rw [eWd]; exact h5
      have HD := Lib.hid (show Dk Wd w.heap.size S' p d by rw [eWd]; exact HD5.to ((Below.refl _ _).drew))
      have BD : Below w.heap.size w Wd := by rw [eWd]; exact B5.drew
      have SC := Lib.hid (show Sl Wd Wd.heap.size C mq (bs q.b) by rw [eWd]; exact SC5)
      have SA := Lib.hid (show Sl Wd Wd.heap.size A2 n2 (bs f.b) by rw [eWd]; exact S5)
      clear HD5 B5 SC5 S5
      refine wp_region_held_drew (S := (fun w' => w'.cell? ⟨wr.heap.size, 0, none⟩ = some (.int .u8 (q.what : Nat)) ∧ w'.cell? ⟨wr.heap.size, 1, none⟩ = some (.slice C mq cq) ∧ w'.cell? ⟨wr.heap.size, 2, none⟩ = some (.int .i64 q.n) ∧ w'.cell? ⟨g, 1, none⟩ = some (.int .i64 (f.safe : Nat)) ∧ w'.cell? ⟨g, 3, none⟩ = some (.slice A2 n2 c2) ∧ w'.cell? ⟨g, 4, none⟩ = some (.bool f.off))) (by kernel_rfl) (by rw [← eWd]; exact keepT r1 h5) (fun hHeld => ?_)
      rw [← eWd] at hHeld ⊢
      clear eWd
      have lgw := row_lt r1
      refine wpAnyH_take (i := 0) (v := ?_) (by simp only [List.getElem?_toArray, List.getElem?_cons_succ, List.getElem?_cons_zero]; rfl) (by kernel_rfl) (by kernel_rfl) (by kernel_rfl) (by exact fun _ _ _ h => h) (Or.inl ⟨by kernel_rfl, ?_⟩) (by assumption) ?_
      rotate_left
      · intro w hSw
        (try dsimp only at hSw)
        go_simp
        try with_reducible rfl
      simp only [Act.put, List.setIfInBounds_toArray, List.set_cons_zero, List.set_cons_succ]
      refine wpAnyH_take (i := 1) (v := ?_) (by simp only [List.getElem?_toArray, List.getElem?_cons_succ, List.getElem?_cons_zero]; rfl) (by kernel_rfl) (by kernel_rfl) (by kernel_rfl) (by exact fun _ _ _ h => h) (Or.inl ⟨by kernel_rfl, ?_⟩) (by assumption) ?_
      rotate_left
      · intro w hSw
        (try dsimp only at hSw)
        go_simp
        try with_reducible rfl
      simp only [Act.put, List.setIfInBounds_toArray, List.set_cons_zero, List.set_cons_succ]
      refine wpAnyH_take (i := 3) (v := ?_) (by simp only [List.getElem?_toArray, List.getElem?_cons_succ, List.getElem?_cons_zero]; rfl) (by kernel_rfl) (by kernel_rfl) (by kernel_rfl) (by exact fun _ _ _ h => h) (Or.inl ⟨by kernel_rfl, ?_⟩) (by assumption) ?_
      rotate_left
      · intro w hSw
        (try dsimp only at hSw)
        go_simp
        try with_reducible rfl
      simp only [Act.put, List.setIfInBounds_toArray, List.set_cons_zero, List.set_cons_succ]
      refine wpAnyH_ready (rs := [2]) (by kernel_rfl) (by simp) ?_
      refine AllReadyH.cons (by simp only [List.getElem?_toArray, List.getElem?_cons_succ, List.getElem?_cons_zero]; rfl) (fun K hK => ?_) AllReadyH.nil
      rw [if_pos (by kernel_rfl)]
      go_simp
      go_at_call 13
      refine (do_any HK.out d q w.heap.size S' p C mq cq _ HD.out hq0.out SC.out HAW.out (by omega)).mono ?_
      rw [← HAR.out]
      rintro e w6 ⟨rfl, S6, D6, st, hS⟩
      have r1 := st.row (fun hs => by have := HHD.out.hi _ hs; omega) r1
      have h5 := st.row hg.out h5
      have B6 := BD.trans (st.below BD.size HD.out.lo)
      have SA6 := Sl.stays SA.out st (fun hn b o e => (HN2.out hn b o e).2)
      have NG := Lib.hid (show ¬ S6 g from fun hs => by
        rcases hS g hs with h | h
        · exact hg.out h
        · omega)
      have NA := Lib.hid (show 0 < n2 → ∀ b o, A2 = some (⟨b, o, none⟩ : Addr) → b ≠ g ∧ ¬ S6 b from fun hn b o e => ⟨(HN2.out hn b o e).1, fun hs => by
        rcases hS b hs with h | h
        · exact (HN2.out hn b o e).2 h
        · obtain ⟨b', o', e', hb', -⟩ := SA.out.2 hn
          rw [e] at e'
          injection e' with e'
          injection e' with e1 _ _
          omega⟩)
      have HD6 := Lib.hid D6
      clear st hS D6 SC SA BD HD
      go_wp2_with fail
      refine hK.out _ _ ?_ (fun hHeld => ?_)
      · exact keepT r1 h5
      clear hK K
      try simp only [Act.put, List.setIfInBounds_toArray, List.set_cons_zero, List.set_cons_succ]
      refine wpAnyH_take (i := 4) (v := ?_) (by simp only [List.getElem?_toArray, List.getElem?_cons_succ, List.getElem?_cons_zero]; rfl) (by kernel_rfl) (by kernel_rfl) (by kernel_rfl) (by exact fun _ _ _ h => h) (Or.inl ⟨by kernel_rfl, ?_⟩) (by assumption) ?_
      rotate_left
      · intro w hSw
        (try dsimp only at hSw)
        go_simp
        try with_reducible rfl
      simp only [Act.put, List.setIfInBounds_toArray, List.set_cons_zero, List.set_cons_succ]
      refine wpAnyH_take (i := 5) (v := ?_) (by simp only [List.getElem?_toArray, List.getElem?_cons_succ, List.getElem?_cons_zero]; rfl) (by kernel_rfl) (by kernel_rfl) (by kernel_rfl) (by exact fun _ _ _ h => h) (Or.inl ⟨by kernel_rfl, ?_⟩) (by assumption) ?_
      rotate_left
      · intro w hSw
        (try dsimp only at hSw)
        go_simp
        try with_reducible rfl
      simp only [Act.put, List.setIfInBounds_toArray, List.set_cons_zero, List.set_cons_succ]
      refine wpAnyH_take (i := 6) (v := ?_) (by simp only [List.getElem?_toArray, List.getElem?_cons_succ, List.getElem?_cons_zero]; rfl) (by kernel_rfl) (by kernel_rfl) (by kernel_rfl) (by exact fun _ _ _ h => h) (Or.inl ⟨by kernel_rfl, ?_⟩) (by assumption) ?_
      rotate_left
      · intro w hSw
        (try dsimp only at hSw)
        go_simp
        try with_reducible rfl
      simp only [Act.put, List.setIfInBounds_toArray, List.set_cons_zero, List.set_cons_succ]
      refine wpAnyH_take (i := 8) (v := ?_) (by simp only [List.getElem?_toArray, List.getElem?_cons_succ, List.getElem?_cons_zero]; rfl) (by kernel_rfl) (by kernel_rfl) (by kernel_rfl) (by exact fun _ _ _ h => h) (Or.inl ⟨by kernel_rfl, ?_⟩) (by assumption) ?_
      rotate_left
      · intro w hSw
        (try dsimp only at hSw)
        go_simp
        try with_reducible rfl
      simp only [Act.put, List.setIfInBounds_toArray, List.set_cons_zero, List.set_cons_succ]
      refine wpAnyH_take (i := 9) (v := ?_) (by simp only [List.getElem?_toArray, List.getElem?_cons_succ, List.getElem?_cons_zero]; rfl) (by kernel_rfl) (by kernel_rfl) (by kernel_rfl) (by exact fun _ _ _ h => h) (Or.inl ⟨by kernel_rfl, ?_⟩) (by assumption) ?_
      rotate_left
      · intro w hSw
        (try dsimp only at hSw)
        go_simp
        try with_reducible rfl
      simp only [Act.put, List.setIfInBounds_toArray, List.set_cons_zero, List.set_cons_succ]
      refine wpAnyH_ready (rs := [7]) (by kernel_rfl) (by simp) ?_
      refine AllReadyH.cons (by simp only [List.getElem?_toArray, List.getElem?_cons_succ, List.getElem?_cons_zero]; rfl) (fun K hK => ?_) AllReadyH.nil
      rw [if_pos (by kernel_rfl)]
      go_simp
      go_at_call 15
      refine (HK.out.bytes f w.heap.size S6 p _ HD6.out).mono ?_
      rintro e w7 ⟨v7, rfl, hv⟩
      obtain ⟨Av, cv, rfl, -, sv, -⟩ := hv.slice
      have bv := hv.bel
      have r1 := bv.row (row_lt r1) r1
      have h5 := bv.row (row_lt h5) h5
      have B7 := B6.call bv
      have SA7 := SA6.to bv
      have HD7 := Lib.hid (HD6.out.to bv)
      have HSV := Lib.hid sv
      clear hv bv sv B6 SA6 HD6
      go_wp2_with fail
      refine hK.out _ _ ?_ (fun hHeld => ?_)
      · exact keepT r1 h5
      clear hK K
      try simp only [Act.put, List.setIfInBounds_toArray, List.set_cons_zero, List.set_cons_succ]
      refine wpAnyH_ready (rs := [10]) (by kernel_rfl) (by simp) ?_
      refine AllReadyH.cons (by simp only [List.getElem?_toArray, List.getElem?_cons_succ, List.getElem?_cons_zero]; rfl) (fun K hK => ?_) AllReadyH.nil
      rw [if_pos (by kernel_rfl)]
      go_simp
      go_at_call 14
      refine (WdW.law6Same_any Av A2 _ cv n2 c2 _ f.b f.b _ HSV.out HD7.out.ok.bytes SA7 HD7.out.ok.bytes).mono ?_
      rw [beq_self_eq_true]
      rintro e w8 ⟨rfl, rfl⟩
      go_wp2_with fail
      refine hK.out _ _ ?_ (fun hHeld => ?_)
      · exact keepT r1 h5
      clear hK K
      try simp only [Act.put, List.setIfInBounds_toArray, List.set_cons_zero, List.set_cons_succ]
      refine wpAnyH_take (i := 11) (v := ?_) (by simp only [List.getElem?_toArray, List.getElem?_cons_succ, List.getElem?_cons_zero]; rfl) (by kernel_rfl) (by kernel_rfl) (by kernel_rfl) (by exact fun _ _ _ h => h) (Or.inl ⟨by kernel_rfl, ?_⟩) (by assumption) ?_
      rotate_left
      · intro w hSw
        (try dsimp only at hSw)
        go_simp
        try with_reducible rfl
      simp only [Act.put, List.setIfInBounds_toArray, List.set_cons_zero, List.set_cons_succ]
      refine wpAnyH_take (i := 12) (v := ?_) (by simp only [List.getElem?_toArray, List.getElem?_cons_succ, List.getElem?_cons_zero]; rfl) (by kernel_rfl) (by kernel_rfl) (by kernel_rfl) (by exact fun _ _ _ h => h) (Or.inl ⟨by kernel_rfl, ?_⟩) (by assumption) ?_
      rotate_left
      · intro w hSw
        (try dsimp only at hSw)
        go_simp
        try with_reducible rfl
      simp only [Act.put, List.setIfInBounds_toArray, List.set_cons_zero, List.set_cons_succ]
      refine wpAnyH_take (i := 13) (v := ?_) (by simp only [List.getElem?_toArray, List.getElem?_cons_succ, List.getElem?_cons_zero]; rfl) (by kernel_rfl) (by kernel_rfl) (by kernel_rfl) (by exact fun _ _ _ h => h) (Or.inl ⟨by kernel_rfl, ?_⟩) (by assumption) ?_
      rotate_left
      · intro w hSw
        (try dsimp only at hSw)
        go_simp
        try with_reducible rfl
      simp only [Act.put, List.setIfInBounds_toArray, List.set_cons_zero, List.set_cons_succ]
      refine wpAnyH_take (i := 14) (v := ?_) (by simp only [List.getElem?_toArray, List.getElem?_cons_succ, List.getElem?_cons_zero]; rfl) (by kernel_rfl) (by kernel_rfl) (by kernel_rfl) (by exact fun _ _ _ h => h) (Or.inl ⟨by kernel_rfl, ?_⟩) (by assumption) ?_
      rotate_left
      · intro w hSw
        (try dsimp only at hSw)
        go_simp
        try with_reducible rfl
      simp only [Act.put, List.setIfInBounds_toArray, List.set_cons_zero, List.set_cons_succ]
      refine wpAnyH_take (i := 16) (v := ?_) (by simp only [List.getElem?_toArray, List.getElem?_cons_succ, List.getElem?_cons_zero]; rfl) (by kernel_rfl) (by kernel_rfl) (by kernel_rfl) (by exact fun _ _ _ h => h) (Or.inl ⟨by kernel_rfl, ?_⟩) (by assumption) ?_
      rotate_left
      · intro w hSw
        (try dsimp only at hSw)
        go_simp
        try with_reducible rfl
      simp only [Act.put, List.setIfInBounds_toArray, List.set_cons_zero, List.set_cons_succ]
      refine wpAnyH_take (i := 17) (v := ?_) (by simp only [List.getElem?_toArray, List.getElem?_cons_succ, List.getElem?_cons_zero]; rfl) (by kernel_rfl) (by kernel_rfl) (by kernel_rfl) (by exact fun _ _ _ h => h) (Or.inl ⟨by kernel_rfl, ?_⟩) (by assumption) ?_
      rotate_left
      · intro w hSw
        (try dsimp only at hSw)
        go_simp
        try with_reducible rfl
      simp only [Act.put, List.setIfInBounds_toArray, List.set_cons_zero, List.set_cons_succ]
      refine wpAnyH_take (i := 18) (v := ?_) (by simp only [List.getElem?_toArray, List.getElem?_cons_succ, List.getElem?_cons_zero]; rfl) (by kernel_rfl) (by kernel_rfl) (by kernel_rfl) (by exact fun _ _ _ h => h) (Or.inl ⟨by kernel_rfl, ?_⟩) (by assumption) ?_
      rotate_left
      · intro w hSw
        (try dsimp only at hSw)
        go_simp
        try with_reducible rfl
      simp only [Act.put, List.setIfInBounds_toArray, List.set_cons_zero, List.set_cons_succ]
      refine wpAnyH_ready (rs := [15]) (by kernel_rfl) (by simp) ?_
      refine AllReadyH.cons (by simp only [List.getElem?_toArray, List.getElem?_cons_succ, List.getElem?_cons_zero]; rfl) (fun K hK => ?_) AllReadyH.nil
      rw [if_pos (by kernel_rfl)]
      go_simp
      go_at_call 16
      refine (HK.out.len f w.heap.size S6 p _ HD7.out).mono ?_
      rw [HNL.out]
      rintro e w9 ⟨rfl, bb⟩
      have r1 := bb.row (row_lt r1) r1
      have h5 := bb.row (row_lt h5) h5
      have B9 := B7.call bb
      have SA9 := SA7.to bb
      have HD9 := Lib.hid (HD7.out.to bb)
      clear bb B7 SA7 HD7
      go_wp2_with fail
      refine hK.out _ _ ?_ (fun hHeld => ?_)
      · exact keepT r1 h5
      clear hK K
      try simp only [Act.put, List.setIfInBounds_toArray, List.set_cons_zero, List.set_cons_succ]
      refine wpAnyH_take (i := 19) (v := ?_) (by simp only [List.getElem?_toArray, List.getElem?_cons_succ, List.getElem?_cons_zero]; rfl) (by kernel_rfl) (by kernel_rfl) (by kernel_rfl) (by exact fun _ _ _ h => h) (Or.inl ⟨by kernel_rfl, ?_⟩) (by assumption) ?_
      rotate_left
      · intro w hSw
        (try dsimp only at hSw)
        go_simp
        try with_reducible rfl
      simp only [Act.put, List.setIfInBounds_toArray, List.set_cons_zero, List.set_cons_succ]
      refine wpAnyH_take (i := 20) (v := ?_) (by simp only [List.getElem?_toArray, List.getElem?_cons_succ, List.getElem?_cons_zero]; rfl) (by kernel_rfl) (by kernel_rfl) (by kernel_rfl) (by exact fun _ _ _ h => h) (Or.inl ⟨by kernel_rfl, ?_⟩) (by assumption) ?_
      rotate_left
      · intro w hSw
        (try dsimp only at hSw)
        go_simp
        try with_reducible rfl
      simp only [Act.put, List.setIfInBounds_toArray, List.set_cons_zero, List.set_cons_succ]
      refine wpAnyH_take (i := 21) (v := ?_) (by simp only [List.getElem?_toArray, List.getElem?_cons_succ, List.getElem?_cons_zero]; rfl) (by kernel_rfl) (by kernel_rfl) (by kernel_rfl) (by exact fun _ _ _ h => h) (Or.inl ⟨by kernel_rfl, ?_⟩) (by assumption) ?_
      rotate_left
      · intro w hSw
        (try dsimp only at hSw)
        go_simp
        try with_reducible rfl
      simp only [Act.put, List.setIfInBounds_toArray, List.set_cons_zero, List.set_cons_succ]
      refine wpAnyH_take (i := 22) (v := ?_) (by simp only [List.getElem?_toArray, List.getElem?_cons_succ, List.getElem?_cons_zero]; rfl) (by kernel_rfl) (by kernel_rfl) (by kernel_rfl) (by exact fun _ _ _ h => h) (Or.inl ⟨by kernel_rfl, ?_⟩) (by assumption) ?_
      rotate_left
      · intro w hSw
        (try dsimp only at hSw)
        go_simp
        try with_reducible rfl
      simp only [Act.put, List.setIfInBounds_toArray, List.set_cons_zero, List.set_cons_succ]
      refine wpAnyH_take (i := 24) (v := ?_) (by simp only [List.getElem?_toArray, List.getElem?_cons_succ, List.getElem?_cons_zero]; rfl) (by kernel_rfl) (by kernel_rfl) (by kernel_rfl) (by exact fun _ _ _ h => h) (Or.inl ⟨by kernel_rfl, ?_⟩) (by assumption) ?_
      rotate_left
      · intro w hSw
        (try dsimp only at hSw)
        go_simp
        try with_reducible rfl
      simp only [Act.put, List.setIfInBounds_toArray, List.set_cons_zero, List.set_cons_succ]
      refine wpAnyH_take (i := 25) (v := ?_) (by simp only [List.getElem?_toArray, List.getElem?_cons_succ, List.getElem?_cons_zero]; rfl) (by kernel_rfl) (by kernel_rfl) (by kernel_rfl) (by exact fun _ _ _ h => h) (Or.inl ⟨by kernel_rfl, ?_⟩) (by assumption) ?_
      rotate_left
      · intro w hSw
        (try dsimp only at hSw)
        go_simp
        try with_reducible rfl
      simp only [Act.put, List.setIfInBounds_toArray, List.set_cons_zero, List.set_cons_succ]
      refine wpAnyH_ready (rs := [23]) (by kernel_rfl) (by simp) ?_
      refine AllReadyH.cons (by simp only [List.getElem?_toArray, List.getElem?_cons_succ, List.getElem?_cons_zero]; rfl) (fun K hK => ?_) AllReadyH.nil
      rw [if_pos (by kernel_rfl)]
      go_simp
      go_at_call 17
      refine (HK.out.safe f w.heap.size S6 p _ HD9.out).mono ?_
      rintro e w10 ⟨rfl, bb⟩
      have r1 := bb.row (row_lt r1) r1
      have h5 := bb.row (row_lt h5) h5
      have B10 := B9.call bb
      have SA10 := SA9.to bb
      have HD10 := Lib.hid (HD9.out.to bb)
      clear bb B9 SA9 HD9
      go_wp2_with fail
      refine hK.out _ _ ?_ (fun hHeld => ?_)
      · exact keepT r1 h5
      clear hK K
      try simp only [Act.put, List.setIfInBounds_toArray, List.set_cons_zero, List.set_cons_succ]
      refine wpAnyH_take (i := 26) (v := ?_) (by simp only [List.getElem?_toArray, List.getElem?_cons_succ, List.getElem?_cons_zero]; rfl) (by kernel_rfl) (by kernel_rfl) (by kernel_rfl) (by exact fun _ _ _ h => h) (Or.inl ⟨by kernel_rfl, ?_⟩) (by assumption) ?_
      rotate_left
      · intro w hSw
        (try dsimp only at hSw)
        go_simp
        try with_reducible rfl
      simp only [Act.put, List.setIfInBounds_toArray, List.set_cons_zero, List.set_cons_succ]
      refine wpAnyH_take (i := 27) (v := ?_) (by simp only [List.getElem?_toArray, List.getElem?_cons_succ, List.getElem?_cons_zero]; rfl) (by kernel_rfl) (by kernel_rfl) (by kernel_rfl) (by exact fun _ _ _ h => h) (Or.inl ⟨by kernel_rfl, ?_⟩) (by assumption) ?_
      rotate_left
      · intro w hSw
        (try dsimp only at hSw)
        go_simp
        try with_reducible rfl
      simp only [Act.put, List.setIfInBounds_toArray, List.set_cons_zero, List.set_cons_succ]
      refine wpAnyH_take (i := 28) (v := ?_) (by simp only [List.getElem?_toArray, List.getElem?_cons_succ, List.getElem?_cons_zero]; rfl) (by kernel_rfl) (by kernel_rfl) (by kernel_rfl) (by exact fun _ _ _ h => h) (Or.inl ⟨by kernel_rfl, ?_⟩) (by assumption) ?_
      rotate_left
      · intro w hSw
        (try dsimp only at hSw)
        go_simp
        try with_reducible rfl
      simp only [Act.put, List.setIfInBounds_toArray, List.set_cons_zero, List.set_cons_succ]
      refine wpAnyH_take (i := 29) (v := ?_) (by simp only [List.getElem?_toArray, List.getElem?_cons_succ, List.getElem?_cons_zero]; rfl) (by kernel_rfl) (by kernel_rfl) (by kernel_rfl) (by exact fun _ _ _ h => h) (Or.inl ⟨by kernel_rfl, ?_⟩) (by assumption) ?_
      rotate_left
      · intro w hSw
        (try dsimp only at hSw)
        go_simp
        try with_reducible rfl
      simp only [Act.put, List.setIfInBounds_toArray, List.set_cons_zero, List.set_cons_succ]
      refine wpAnyH_take (i := 31) (v := ?_) (by simp only [List.getElem?_toArray, List.getElem?_cons_succ, List.getElem?_cons_zero]; rfl) (by kernel_rfl) (by kernel_rfl) (by kernel_rfl) (by exact fun _ _ _ h => h) (Or.inl ⟨by kernel_rfl, ?_⟩) (by assumption) ?_
      rotate_left
      · intro w hSw
        (try dsimp only at hSw)
        go_simp
        try with_reducible rfl
      simp only [Act.put, List.setIfInBounds_toArray, List.set_cons_zero, List.set_cons_succ]
      refine wpAnyH_ready (rs := [30]) (by kernel_rfl) (by simp) ?_
      refine AllReadyH.cons (by simp only [List.getElem?_toArray, List.getElem?_cons_succ, List.getElem?_cons_zero]; rfl) (fun K hK => ?_) AllReadyH.nil
      rw [if_pos (by kernel_rfl)]
      go_simp
      go_at_call 18
      refine (HK.out.room f w.heap.size S6 p _ HD10.out).mono ?_
      rw [HFR.out]
      rintro e w11 ⟨rfl, bb⟩
      have r1 := bb.row (row_lt r1) r1
      have h5 := bb.row (row_lt h5) h5
      have B11 := B10.call bb
      have SA11 := SA10.to bb
      have HD11 := Lib.hid (HD10.out.to bb)
      clear bb B10 SA10 HD10
      go_wp2_with fail
      refine hK.out _ _ ?_ (fun hHeld => ?_)
      · exact keepT r1 h5
      clear hK K
      try simp only [Act.put, List.setIfInBounds_toArray, List.set_cons_zero, List.set_cons_succ]
      refine wpAnyH_take (i := 32) (v := ?_) (by simp only [List.getElem?_toArray, List.getElem?_cons_succ, List.getElem?_cons_zero]; rfl) (by kernel_rfl) (by kernel_rfl) (by kernel_rfl) (by exact fun _ _ _ h => h) (Or.inl ⟨by kernel_rfl, ?_⟩) (by assumption) ?_
      rotate_left
      · intro w hSw
        (try dsimp only at hSw)
        go_simp
        try with_reducible rfl
      simp only [Act.put, List.setIfInBounds_toArray, List.set_cons_zero, List.set_cons_succ]
      refine wpAnyH_take (i := 33) (v := ?_) (by simp only [List.getElem?_toArray, List.getElem?_cons_succ, List.getElem?_cons_zero]; rfl) (by kernel_rfl) (by kernel_rfl) (by kernel_rfl) (by exact fun _ _ _ h => h) (Or.inl ⟨by kernel_rfl, ?_⟩) (by assumption) ?_
      rotate_left
      · intro w hSw
        (try dsimp only at hSw)
        go_simp
        try with_reducible rfl
      simp only [Act.put, List.setIfInBounds_toArray, List.set_cons_zero, List.set_cons_succ]
      refine wpAnyH_take (i := 34) (v := ?_) (by simp only [List.getElem?_toArray, List.getElem?_cons_succ, List.getElem?_cons_zero]; rfl) (by kernel_rfl) (by kernel_rfl) (by kernel_rfl) (by exact fun _ _ _ h => h) (Or.inl ⟨by kernel_rfl, ?_⟩) (by assumption) ?_
      rotate_left
      · intro w hSw
        (try dsimp only at hSw)
        go_simp
        try with_reducible rfl
      simp only [Act.put, List.setIfInBounds_toArray, List.set_cons_zero, List.set_cons_succ]
      refine wpAnyH_take (i := 35) (v := ?_) (by simp only [List.getElem?_toArray, List.getElem?_cons_succ, List.getElem?_cons_zero]; rfl) (by kernel_rfl) (by kernel_rfl) (by kernel_rfl) (by exact fun _ _ _ h => h) (Or.inl ⟨by kernel_rfl, ?_⟩) (by assumption) ?_
      rotate_left
      · intro w hSw
        (try dsimp only at hSw)
        go_simp
        try with_reducible rfl
      simp only [Act.put, List.setIfInBounds_toArray, List.set_cons_zero, List.set_cons_succ]
      refine wpAnyH_take (i := 37) (v := ?_) (by simp only [List.getElem?_toArray, List.getElem?_cons_succ, List.getElem?_cons_zero]; rfl) (by kernel_rfl) (by kernel_rfl) (by kernel_rfl) (by exact fun _ _ _ h => h) (Or.inl ⟨by kernel_rfl, ?_⟩) (by assumption) ?_
      rotate_left
      · intro w hSw
        (try dsimp only at hSw)
        go_simp
        try with_reducible rfl
      simp only [Act.put, List.setIfInBounds_toArray, List.set_cons_zero, List.set_cons_succ]
      refine wpAnyH_take (i := 38) (v := ?_) (by simp only [List.getElem?_toArray, List.getElem?_cons_succ, List.getElem?_cons_zero]; rfl) (by kernel_rfl) (by kernel_rfl) (by kernel_rfl) (by exact fun _ _ _ h => h) (Or.inl ⟨by kernel_rfl, ?_⟩) (by assumption) ?_
      rotate_left
      · intro w hSw
        (try dsimp only at hSw)
        go_simp
        try with_reducible rfl
      simp only [Act.put, List.setIfInBounds_toArray, List.set_cons_zero, List.set_cons_succ]
      refine wpAnyH_ready (rs := [36]) (by kernel_rfl) (by simp) ?_
      refine AllReadyH.cons (by simp only [List.getElem?_toArray, List.getElem?_cons_succ, List.getElem?_cons_zero]; rfl) (fun K hK => ?_) AllReadyH.nil
      rw [if_pos (by kernel_rfl)]
      go_simp
      go_at_call 19
      refine (HK.out.off f w.heap.size S6 p _ HD11.out).mono ?_
      rintro e w12 ⟨rfl, bb⟩
      have r1 := bb.row (row_lt r1) r1
      have h5 := bb.row (row_lt h5) h5
      have B12 := B11.call bb
      have SA12 := SA11.to bb
      have HD12 := Lib.hid (HD11.out.to bb)
      clear bb B11 SA11 HD11
      go_wp2_with fail
      refine hK.out _ _ ?_ (fun hHeld => ?_)
      · exact keepT r1 h5
      clear hK K
      try simp only [Act.put, List.setIfInBounds_toArray, List.set_cons_zero, List.set_cons_succ]
      refine wpAnyH_take (i := 39) (v := ?_) (by simp only [List.getElem?_toArray, List.getElem?_cons_succ, List.getElem?_cons_zero]; rfl) (by kernel_rfl) (by kernel_rfl) (by kernel_rfl) (by exact fun _ _ _ h => h) (Or.inl ⟨by kernel_rfl, ?_⟩) (by assumption) ?_
      rotate_left
      · intro w hSw
        (try dsimp only at hSw)
        go_simp
        try with_reducible rfl
      simp only [Act.put, List.setIfInBounds_toArray, List.set_cons_zero, List.set_cons_succ]
      refine wpAnyH_take (i := 40) (v := ?_) (by simp only [List.getElem?_toArray, List.getElem?_cons_succ, List.getElem?_cons_zero]; rfl) (by kernel_rfl) (by kernel_rfl) (by kernel_rfl) (by exact fun _ _ _ h => h) (Or.inl ⟨by kernel_rfl, ?_⟩) (by assumption) ?_
      rotate_left
      · intro w hSw
        (try dsimp only at hSw)
        go_simp
        try with_reducible rfl
      simp only [Act.put, List.setIfInBounds_toArray, List.set_cons_zero, List.set_cons_succ]
      refine wpAnyH_done (by kernel_rfl) ?_ _
      go_wp2_with fail
      go_roundw
      case rel => exact ⟨k + 1, f, S6, A2, n2, c2, by omega, by go_num, HD12.out, B12, h5, NG.out, SA12, hc2, NA.out, HFR.out⟩
      case measure => simp [intOf]; omega
    · obtain rfl : k = m := by omega
      go_wp2_with fail
      refine (awake9_any HK.out _).mono ?_
      rintro e w5 ⟨rfl, b5⟩
      go_wp2_with fail
      go_ret
      exact ⟨rfl, bw.call b5⟩
theorem diskTells_any (K : DiskK) (room : Int) (A : Option Addr) (n c : Nat) (L : List Deed) (w : World) (h : Os w A n L) (ho : Oks L) (hc : n ≤ c) :
    Calls Try.prog 3 #[.int .i64 room, .slice A n c] w fun e w' => e = .returned (.bool true) ∧ Below w.heap.size w w' := by
  by_cases hb : room < 0 ∨ 262144 < room
  · exact tells_bad K room A n c w hb
  · obtain ⟨r, rfl⟩ : ∃ r : Nat, room = r := ⟨room.toNat, by omega⟩
    exact tells_core K r A n c L w h ho hc (by omega)
end Go.Proofs.Ytljiehnpknbohaa.DkW
