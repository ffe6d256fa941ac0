/- The walk of MbapStream. -/
import Derived.Deep.Cut
import Derived.Deep.DeepCutAuto
import Derived.Test.YtofigldbkndjlaaMbN
set_option linter.unusedVariables false
set_option linter.unusedSimpArgs false
namespace Go.Proofs.Ytofigldbkndjlaa.MbW
open Go.RowKit Go.Proofs.Ytofigldbkndjlaa Go.Proofs.Ytofigldbkndjlaa.Mb
theorem begins_take {xs : List Nat} (h : begins xs = true) (t : Nat) : begins (xs.take t) = true := by
  have g : ∀ i, (xs.take t)[i]?.getD 0 = if i < t then xs[i]?.getD 0 else 0 := fun i => by rw [List.getElem?_take]; split <;> rfl
  unfold begins at h ⊢
  rw [g, g, g, g, List.length_take]
  simp only [Bool.and_eq_true, beq_iff_eq, Bool.or_eq_true, decide_eq_true_eq] at h ⊢
  obtain ⟨⟨⟨h2, h3⟩, h4⟩, h5⟩ := h
  rw [h2, h3, h4]
  refine ⟨⟨⟨by split <;> rfl, by split <;> rfl⟩, by split <;> rfl⟩, ?_⟩
  by_cases ht : 5 < t
  · rw [if_pos ht]; omega
  · exact Or.inl (by omega)
theorem pack_less {x : Fm} (h : right x = true) {t : Nat} (ht : t < (pack x).length) : begins ((pack x).take t) = true ∧ whole ((pack x).take t) = 0 := by
  have hb := pack_begins h []
  rw [List.append_nil] at hb
  have hb := begins_take hb t
  refine ⟨hb, ?_⟩
  have hw := pack_whole h []
  rw [List.append_nil] at hw
  rcases whole_cases (pack x) with h0 | ⟨_, _, _, _, h5⟩
  · rw [hw, pack_len] at h0; omega
  rcases whole_cases ((pack x).take t) with h0 | ⟨_, k2, _, k4, k5⟩
  · exact h0
  · rw [List.length_take] at k4
    have e : ((pack x).take t)[5]?.getD 0 = (pack x)[5]?.getD 0 := by rw [List.getElem?_take, if_pos (by omega)]
    rw [e] at k5
    omega
theorem cut_less {x : Fm} (h : right x = true) {t : Nat} (ht : t < (pack x).length) : cut ((pack x).take t) = ([], 0, 0) := by
  obtain ⟨h1, h2⟩ := pack_less h ht
  obtain ⟨h3, h4⟩ := cut_none h2
  unfold cut frames cutE
  rw [used_eq, h3, h4, if_pos h1]
  rfl
theorem cut_prefix {M : List Fm} (h : ∀ x ∈ M, right x = true) (ho : Oks M) (P R : List Nat) (e : P ++ R = packs M) :
    ∃ j, j ≤ M.length ∧ cut P = (M.take j, (packs (M.take j)).length, 0) ∧ P.drop (packs (M.take j)).length ++ R = packs (M.drop j) ∧ (packs (M.take j)).length ≤ P.length ∧ (R = [] → j = M.length) := by
  induction M generalizing P with
  | nil =>
    obtain ⟨rfl, rfl⟩ := List.append_eq_nil_iff.1 e
    exact ⟨0, Nat.le_refl _, by decide +kernel, rfl, Nat.le_refl _, fun _ => rfl⟩
  | cons x M ih =>
    have hx := h x List.mem_cons_self
    rw [packs_cons] at e
    by_cases hl : (pack x).length ≤ P.length
    · have e1 : P.take (pack x).length = pack x := by
        have := congrArg (List.take (pack x).length) e
        rw [List.take_append_of_le_length hl, List.take_left] at this
        exact this
      have e2 : P.drop (pack x).length ++ R = packs M := by
        have := congrArg (List.drop (pack x).length) e
        rw [List.drop_append_of_le_length hl, List.drop_left] at this
        exact this
      obtain ⟨j, j1, j2, j3, j4, j5⟩ := ih (fun y hy => h y (List.mem_cons_of_mem _ hy)) (fun y hy => ho y (List.mem_cons_of_mem _ hy)) _ e2
      have eP : P = packs [x] ++ P.drop (pack x).length := by
        rw [packs_cons, show packs ([] : List Fm) = [] from rfl, List.append_nil]
        have := List.take_append_drop (pack x).length P
        rw [e1] at this
        exact this.symm
      have hc := cut_packs_then (M := [x]) (fun y hy => h y (by rw [List.mem_singleton.1 hy]; exact List.mem_cons_self)) (fun y hy => ho y (by rw [List.mem_singleton.1 hy]; exact List.mem_cons_self)) (P.drop (pack x).length)
      rw [← eP] at hc
      unfold cut at j2
      injection j2 with q1 q2
      injection q2 with q2 q3
      rw [q1, q2, q3] at hc
      have hp1 : (packs [x]).length = (pack x).length := by rw [packs_cons, show packs ([] : List Fm) = [] from rfl, List.append_nil]
      rw [hp1] at hc
      have hp2 : (packs ((x :: M).take (j + 1))).length = (pack x).length + (packs (M.take j)).length := by rw [List.take_succ_cons, packs_cons, List.length_append]
      refine ⟨j + 1, by rw [List.length_cons]; omega, ?_, ?_, ?_, fun hR => by rw [List.length_cons, j5 hR]⟩
      · rw [hc, hp2, List.take_succ_cons]
        rfl
      · rw [hp2, List.drop_succ_cons, ← j3, List.drop_drop]
      · rw [List.length_drop] at j4
        omega
    · have eP : P = (pack x).take P.length := by
        have := congrArg (List.take P.length) e
        rw [List.take_left, List.take_append_of_le_length (by omega)] at this
        exact this
      refine ⟨0, Nat.zero_le _, ?_, ?_, Nat.zero_le _, fun hR => ?_⟩
      · rw [eP, cut_less hx (by omega)]
        rfl
      · rw [List.take_zero, List.drop_zero, packs_cons]
        exact e
      · exfalso
        have := congrArg List.length e
        rw [hR, List.append_nil, List.length_append] at this
        omega
theorem stream_step {M : List Fm} (h : ∀ x ∈ M, right x = true) (ho : Oks M) {B LF : List Nat} {a k m : Nat} (e : LF ++ B.drop a = packs (M.drop k)) (hm : a + m ≤ B.length) (hk : k ≤ M.length) :
    ∃ q, k + q ≤ M.length ∧ ∃ U, cut (LF ++ (B.drop a).take m) = ((M.drop k).take q, U, 0) ∧ U ≤ (LF ++ (B.drop a).take m).length ∧ (LF ++ (B.drop a).take m).drop U ++ B.drop (a + m) = packs (M.drop (k + q)) ∧
      M.take k ++ (M.drop k).take q = M.take (k + q) ∧ (a + m = B.length → k + q = M.length) := by
  have e2 : (LF ++ (B.drop a).take m) ++ B.drop (a + m) = packs (M.drop k) := by
    rw [← e, List.append_assoc, ← List.drop_drop, List.take_append_drop]
  obtain ⟨q, q1, q2, q3, q4, q5⟩ := cut_prefix (fun y hy => h y (List.mem_of_mem_drop hy)) (fun y hy => ho y (List.mem_of_mem_drop hy)) _ _ e2
  rw [List.length_drop] at q1 q5
  refine ⟨q, by omega, _, q2, q4, ?_, ?_, fun hh => ?_⟩
  · rw [q3, List.drop_drop]
  · rw [← List.take_add]
  · have := q5 (by rw [hh, List.drop_length])
    omega
theorem _root_.Go.Proofs.Ytofigldbkndjlaa.Mb.HasF.below_lt {w0 w : World} {e : TypeId} {v : Value} {n : Nat} {L : List Fm} {P : Nat → Prop} (h : HasF w0 w e v n L P) : HasF w0 w e v n L (fun b => P b ∧ b < w.heap.size) := by
  obtain ⟨V, h1, h2, h3, h4⟩ := h.row
  exact ⟨⟨V, h1, h2, h3.and h2.lt, h4⟩, h.bel⟩
theorem _root_.Go.Proofs.Ytofigldbkndjlaa.Mb.Fr.and_lt {w : World} {A : Option Addr} {n : Nat} {L : List Fm} {P : Nat → Prop} (h : Fr w A n L P) : Fr w A n L (fun b => P b ∧ b < w.heap.size) := by
  obtain ⟨V, h1, h2, h3, h4⟩ := h
  exact ⟨V, h1, h2, h3, h4.and h3.lt⟩
/-- What a round of the loop over the parts leaves. -/
structure StI (w2 : World) (M : List Fm) (B : List Nat) (np : Nat) (got left : Value) (a j : Nat) (wr : World) (k : Nat) (LF : List Nat) : Prop where
  ha : a ≤ B.length
  hj : j ≤ np ∨ (j = np + 1 ∧ a = B.length)
  hk : k ≤ M.length
  G : HasF w2 wr 25 got k (M.take k) (fun b => left.ownBlock ≠ some b)
  F : Has w2 wr 5 left LF.length (bs LF)
  ap : ∀ g, got.ownBlock = some g → left.ownBlock ≠ some g
  eq : LF ++ B.drop a = packs (M.drop k)
  all : a = B.length → k = M.length
  le : LF.length ≤ a
  bytes : Bytes LF
theorem _root_.Go.Proofs.Ytofigldbkndjlaa.Has.sl {w0 w : World} {e : TypeId} {A : Option Addr} {n c m : Nat} {xs : List Value} (h : Has w0 w e (.slice A n c) m xs) : Sl w w.heap.size A m xs := by
  obtain ⟨A', c', e, _, S, _⟩ := h.slice
  injection e with e1 e2 e3
  subst e1
  exact S
theorem StI.next {w2 wF : World} {M FX : List Fm} {B XS : List Nat} {np a m j k q U nl s : Nat} {v8 v9 : Value} (HG : HasF w2 wF 25 v8 (k + FX.length) (M.take k ++ FX) (fun b => b < s)) (HL : Has w2 wF 5 v9 (0 + (nl - U)) ([] ++ bs (XS.drop U)))
    (hs : ∀ b, v9.ownBlock = some b → s ≤ b) (hap : ∀ g, v8.ownBlock = some g → v9.ownBlock ≠ some g) (hm : a + m ≤ B.length) (hj : j + 1 ≤ np ∨ (j + 1 = np + 1 ∧ a + m = B.length)) (hkq : k + q ≤ M.length) (hr : XS.drop U ++ B.drop (a + m) = packs (M.drop (k + q)))
    (ht : M.take k ++ FX = M.take (k + q)) (ha : a + m = B.length → k + q = M.length) (hX : XS.length = nl) (hnl : nl ≤ a + m) (hb : Bytes XS) : StI w2 M B np v8 v9 (a + m) (j + 1) wF (k + q) (XS.drop U) := by
  have e1 : k + FX.length = k + q := by
    have := congrArg List.length ht
    rw [List.length_append, List.length_take, List.length_take] at this
    omega
  rw [ht, e1] at HG
  have HL := HL.cast (ys := bs (XS.drop U)) (List.nil_append _)
  rw [bs_length] at HL
  exact ⟨hm, hj, hkq, HG.imp (fun b hb e => by have := hs b e; omega), HL, hap, hr, ha, by rw [List.length_drop]; omega, hb.drop U⟩
set_option maxRecDepth 10000 in
set_option maxHeartbeats 16000000 in
theorem mbapStream_any (A : Option Addr) (n cl : Nat) (L : List Fm) (Ap : Option Addr) (np cp : Nat) (ps : List Nat) (w : World)
    (hF : Fr w A n L (fun _ => True)) (ho : Oks L) (hc : n ≤ cl) (hn : n ≤ 9223372036854775807) (hs : Sl w w.heap.size Ap np (bs ps)) (hm : Bytes ps) (hcm : np ≤ cp) (hnp : np ≤ 140737488355328) :
    Calls Try.prog 4 #[.slice A n cl, .slice Ap np cp] w fun e w' => e = .returned (.bool true) ∧ Below w.heap.size w w' := by
  have hl := hF.len
  have KPK := Lib.hid (fun Y (b : Below w.heap.size w Y) h3 => packed_any A n cl L Y (hF.to b) ho h3 hc hn)
  have HF := Lib.hid hF
  have HL := Lib.hid hl
  have HO := Lib.hid (rights_ok ho)
  have HR := Lib.hid (rights_right L)
  have HRL := Lib.hid (rights_len L)
  have HS := Lib.hid hs
  have HM := Lib.hid hm
  have hpl := hs.len
  rw [bs_length] at hpl
  have HPL := Lib.hid hpl
  clear hF ho hl hs hm hpl
  go_enter Try.func4, Try.ntmps4
  go_wp2_with fail
  go_loopw [19] (fun i wr => ∃ j : Nat, j ≤ n ∧ i = .int .i64 j ∧ Below w.heap.size w wr ∧ Hid (∀ i, i < j → (L[i]?.getD fm0).pdu.length ≤ 300)) (fun i _ => n - (intOf i).toNat)
  case atStart => exact ⟨0, by omega, rfl, Below.refl _ _, fun i hi => by omega⟩
  case round =>
    obtain ⟨j, hj, rfl, bw, HJ⟩ := hrel
    by_cases hlt : j < n
    · have hlt' : (j : Int) < (n : Int) := by omega
      obtain ⟨b, o, rfl, hbb, C, k, cc, d0, d1, d2, SC, -⟩ := (HF.out.to bw).at hlt
      have hk : (L[j]?.getD fm0).pdu.length = k := by have := SC.len; rw [bs_length] at this; exact this
      have HJ1 := Lib.hid (fun (h : k ≤ 300) i (hi : i < j + 1) => show (L[i]?.getD fm0).pdu.length ≤ 300 from by
        by_cases he : i = j
        · rw [he, hk]; exact h
        · exact HJ.out i (by omega))
      obtain ⟨x, hx⟩ : ∃ x, x = L[j]?.getD fm0 := ⟨_, rfl⟩
      rw [← hx] at d0 d1
      clear hx hk SC
      by_cases h300 : (300 : Int) < (k : Int)
      · clear HJ1
        go_wp2_with (go_at_call 7; refine (awake5_any _).mono ?_; rintro e wa ⟨rfl, ba⟩)
        go_ret
        exact ⟨rfl, (bw.new _).call ba⟩
      · have HJ2 := Lib.hid (HJ1.out (by omega))
        clear HJ1
        go_wp2_with fail
        go_roundw
        case rel => exact ⟨j + 1, by omega, by go_num, bw.new _, HJ2⟩
        case measure => simp [intOf]; omega
    · obtain rfl : n = j := by omega
      have H300 := Lib.hid (show ∀ x ∈ L, x.pdu.length ≤ 300 from fun x hx => by
        obtain ⟨i, hi, rfl⟩ := List.mem_iff_getElem.1 hx
        have h := HJ.out i (by rw [← HL.out]; exact hi)
        rw [List.getElem?_eq_getElem hi] at h
        exact h)
      clear HJ hlt hj
      go_wp2_with fail
      refine (KPK.out _ bw H300.out).mono ?_
      rintro e w2 ⟨v, vb, rfl, H1, H2⟩
      obtain ⟨A1, c1, rfl, -, F1⟩ := H1.slice
      obtain ⟨A2, c2, rfl, hc2, S2, -⟩ := H2.slice
      have bw := bw.call H1.bel
      clear H1 H2 KPK H300
      obtain ⟨M, hM⟩ : ∃ M, M = rights L := ⟨_, rfl⟩
      rw [← hM] at F1 S2 HO HR HRL hc2 ⊢
      have HPB := Lib.hid (packs_bytes HR.out HO.out)
      have hpl := packs_len HR.out
      have hpl3 : (packs M).length ≤ 3120 := by have := HRL.out; omega
      have hM12 : M.length ≤ 12 := HRL.out
      have HB0 : packs M = packs (M.drop 0) := rfl
      have hM0 : (packs M).length = 0 → M.length = 0 := by
        intro h
        match M, h with
        | [], _ => rfl
        | x :: M, h => rw [packs_cons, List.length_append, pack_len] at h; omega
      have HMM := Lib.hid hM0
      obtain ⟨B, hB⟩ : ∃ B, B = packs M := ⟨_, rfl⟩
      rw [← hB] at S2 HPB hpl3 HMM HB0 hc2 ⊢
      have HBE := Lib.hid HB0
      obtain ⟨nb, hnb⟩ : ∃ nb, nb = B.length := ⟨_, rfl⟩
      rw [← hnb] at S2 hpl3 HMM hc2 ⊢
      have HNB := Lib.hid hnb
      have HS2 := Lib.hid S2
      have HF1 := Lib.hid F1
      have HBW := Lib.hid bw
      clear hM hB hpl HRL hM0 HB0 hnb S2 F1 bw
      go_wp2_with fail
      go_loopw [9, 10, 11, 12] (fun o f i jv wr => ∃ a j k LF, i = .int .i64 ((a : Nat) : Int) ∧ jv = .int .i64 ((j : Nat) : Int) ∧ StI w2 M B np o f a j wr k LF) (fun _ _ _ jv _ => np + 2 - (intOf jv).toNat)
      case atStart => exact ⟨0, 0, 0, [], rfl, rfl, by omega, Or.inl (by omega), by omega, HasF.nil_ (Below.refl _ _) _ _, Has.nil_ (Below.refl _ _) _, fun g hg => by simp [Value.ownBlock] at hg, HBE.out, fun h => (HMM.out (by rw [HNB.out, ← h])).symm, Nat.le_refl _, fun _ h => by cases h⟩
      case round =>
        obtain ⟨a, j, k, LF, rfl, rfl, ha, hj, hk, HG, HLF, hap, hEQ0, hALL0, hle, hLB0⟩ := hrel
        rw [← HNB.out] at ha hj
        have hEQ := Lib.hid hEQ0
        have hALL := Lib.hid hALL0
        have hLB := Lib.hid hLB0
        clear hEQ0 hALL0 hLB0
        by_cases hlt : (a : Int) < (nb : Int)
        case neg =>
          obtain rfl : a = nb := by omega
          have hkM := hALL.out HNB.out
          have hE := hEQ.out
          rw [hkM, List.drop_length, HNB.out, List.drop_length, List.append_nil] at hE
          obtain rfl : LF = [] := hE
          rw [hkM, List.take_length] at HG
          have bw := HBW.out.call HG.bel
          have F1 := HF1.out.to HG.bel
          obtain ⟨A9, c9, rfl, -, F9⟩ := HG.slice
          obtain ⟨A10, c10, rfl, -, -, -⟩ := HLF.slice
          dsimp only [List.length_nil]
          clear hEQ hALL hkM HLF HG hap hj hk hle hLB
          go_wp2_with fail
          refine (same_any A9 A1 M.length c9 M.length c1 M M _ _ _ F9 F1 HO.out HO.out (by omega)).mono ?_
          rw [decide_eq_true rfl]
          rintro e w8 ⟨rfl, b8⟩
          have bw := bw.call b8
          go_wp2_with (go_at_call 7; refine (awake5_any _).mono ?_; rintro e wa ⟨rfl, ba⟩)
          go_ret
          exact ⟨rfl, bw.call ba⟩
        have hjp : j ≤ np := by omega
        obtain ⟨n0, hn0⟩ : ∃ n0, n0 = nb - a := ⟨_, rfl⟩
        have wn0 : IntKind.i64.wrap ((nb : Int) - (a : Int)) = (n0 : Int) := by rw [IntKind.wrap_i64]; omega
        by_cases hjn : (j : Int) < (np : Int)
        · obtain ⟨bp, op, rfl, hbp, dp⟩ := (HS.out.to (HBW.out.call HG.bel)).2 (by omega)
          have d0 := (dp j (by omega)).trans (bs_get (by rw [HPL.out]; omega))
          clear dp
          have hp256 := HM.out.at j
          obtain ⟨p, hp⟩ : ∃ p, p = ps[j]?.getD 0 := ⟨_, rfl⟩
          rw [← hp] at d0 hp256
          clear hp
          have wp : IntKind.i64.wrap (p : Int) = (p : Int) := by rw [IntKind.wrap_i64]; omega
          obtain ⟨m, hmin, hm0, hmp⟩ : ∃ m : Nat, (∀ W, (Builtin.min_ #[3, 3] 3 #[.int .i64 (n0 : Int), .int .i64 (p : Int)]).run Try.prog W = .ok (.int .i64 (m : Int)) W) ∧ m ≤ n0 ∧ m ≤ p := by
            refine ⟨min n0 p, fun W => ?_, by omega, by omega⟩
            simp [Builtin.min_, Builtin.min2]
            try omega
          have hm : a + m ≤ B.length := by rw [← HNB.out]; omega
          have hm' : a + m ≤ nb := by omega
          have hj1 : j + 1 ≤ np ∨ (j + 1 = np + 1 ∧ a + m = nb) := by omega
          clear hn0 hj
          have HX0 := stream_step HR.out HO.out hEQ.out hm hk
          obtain ⟨q, hkq, U, hcut, hU, hrest, htake, hall⟩ := HX0
          obtain ⟨XS, hXS⟩ : ∃ XS, XS = LF ++ (B.drop a).take m := ⟨_, rfl⟩
          have hXl : XS.length = LF.length + m := by rw [hXS, List.length_append, List.length_take, List.length_drop]; omega
          have hXB : Bytes XS := by
            intro y hy
            rw [hXS] at hy
            rcases List.mem_append.1 hy with h | h
            · exact hLB.out y h
            · exact HPB.out y (List.mem_of_mem_drop (List.mem_of_mem_take h))
          rw [← hXS] at hcut hU hrest
          obtain ⟨FX, hFX⟩ : ∃ FX, FX = (M.drop k).take q := ⟨_, rfl⟩
          have hFl : FX.length ≤ M.length - k := by rw [hFX, List.length_take, List.length_drop]; omega
          rw [← hFX] at hcut htake
          have HCUT := Lib.hid hcut
          have HXS := Lib.hid hXS
          have HXB := Lib.hid hXB
          have HREST := Lib.hid hrest
          have HTAKE := Lib.hid htake
          have HALL := Lib.hid hall
          have HXL := Lib.hid hXl
          rw [hXl] at hU
          have SB := HS2.out.to HG.bel
          have SB1 := SB.drop (k := a) (cap := c2) (by omega) (by omega)
          rw [if_neg (show ¬ c2 = a by omega)] at SB1
          have SB2 := SB1.take (k := m) (by omega)
          rw [bs_drop, bs_take] at SB2
          have SB3 : Sl wr wr.heap.size (Option.map (fun x => x.add a) A2) (a + m - a) (bs ((B.drop a).take m)) := by rw [Nat.add_sub_cancel_left]; exact SB2
          clear SB2 SB SB1 hcut hXS hXB hFX hrest htake hall hXl
          have wam : IntKind.i64.wrap ((a : Int) + (m : Int)) = ((a + m : Nat) : Int) := by rw [IntKind.wrap_i64]; omega
          have wj1 : IntKind.i64.wrap ((j : Int) + 1) = ((j + 1 : Nat) : Int) := by rw [IntKind.wrap_i64]; omega
          have zam : ((a + m : Nat) : Int) ≤ (c2 : Int) := by omega
          have zam2 : ((a : Nat) : Int) ≤ ((a + m : Nat) : Int) := by omega
          have wnp : IntKind.i64.wrap ((np : Int) + 1) = ((np + 1 : Nat) : Int) := by rw [IntKind.wrap_i64]; omega
          have zj : ¬ (((np + 1 : Nat) : Int) < (j : Int)) := by omega
          go_wp2_with (first
            | (at_builtin; go_loud (refine wpList_app _root_.Go.Proofs.Ytofigldbkndjlaa.MbW.u8 rfl (.tmp 55) (.tmp 61) rfl HLF rfl SB3 rfl (bs_one _) (by omega) (by simp only [maxLen]; omega) ?_; intro v4 w4 H4 g4 o4)))
          have HG4 := HG.below_lt.beside g4 (fun z e => ⟨(HLF.own.lt z e).1, fun e' => hap z e' e⟩) (fun b z hb e e' => hb.1 (by rw [e, e']))
          have hap4 : ∀ z, u9.ownBlock = some z → v4.ownBlock ≠ some z := fun z e e' => by
            rcases o4 with o4 | o4
            · exact hap z e (o4 ▸ e')
            · rw [o4] at e'
              injection e' with e'
              have := (HG.own z e).2
              omega
          rw [bs_append, ← HXS.out] at H4
          obtain ⟨nl, hnl⟩ : ∃ nl, nl = LF.length + (a + m - a) := ⟨_, rfl⟩
          rw [← hnl] at H4
          have HNL := Lib.hid (show XS.length = nl by rw [HXL.out]; omega)
          have hU : U ≤ nl := by omega
          have hle2 : nl ≤ a + m := by omega
          clear hnl
          obtain ⟨A4, c4, rfl, hc4, S4, -⟩ := H4.slice
          clear HG HLF hap g4 o4 SB3
          refine (cut_any A4 nl c4 XS _ S4 HXB.out hc4 (by omega)).mono ?_
          rw [HCUT.out]
          rintro e w7 ⟨v7, rfl, H7⟩
          have b47 := H7.bel
          obtain ⟨A7, c7, rfl, -, F7⟩ := H7.slice
          dsimp only at F7 ⊢
          have zU0 : ¬ (U : Int) < 0 := by omega
          have zU : (U : Int) ≤ (nl : Int) := by omega
          have zU2 : ¬ (nl : Int) < (U : Int) := by omega
          have zc4 : (nl : Int) ≤ (c4 : Int) := by omega
          have own4 := HG4.own
          have sz4 := b47.size
          have HG7 := (HG4.below b47).below_lt.imp (fun b hb => hb.2)
          have F8 := F7.and_lt
          have H8 := H4.below b47
          clear H7 F7 S4 H4 HG4 b47
          have HL4 := Lib.hid (fun Y (h : Has w2 Y 5 (.slice A4 nl c4) nl (bs XS)) => by
            have h1 := h.sl.drop (k := U) (cap := c4) hU hc4
            rw [bs_drop] at h1
            exact h1)
          go_wp2_with fail
          refine wp_region_any (by kernel_rfl) ?_
          change wpAny _ _ _ _ _ _ _ (World.drew _)
          have HGX : HasF w2 w7.drew 25 u9 k (M.take k) (fun b => b < w7.drew.heap.size) := HG7.drew
          have FX7 : Fr w7.drew A7 FX.length FX (fun b => w4.heap.size ≤ b ∧ b < w7.drew.heap.size) := F8.drew
          have HX := H8.drew
          have own4 : ∀ b, u9.ownBlock = some b → b < w4.heap.size := fun b hb => (own4 b hb).2
          have szX : w4.heap.size ≤ w7.drew.heap.size := sz4
          clear HG7 F8 H8 sz4
          obtain ⟨X, hX⟩ : ∃ X, X = w7.drew := ⟨_, rfl⟩
          rw [← hX] at HGX FX7 HX szX ⊢
          clear hX
          have ownX := HGX.own
          refine wpAny_take (i := 0) (v := ?_) (by simp only [List.getElem?_toArray, List.getElem?_cons_succ, List.getElem?_cons_zero]; rfl) (by kernel_rfl) (by kernel_rfl) (by kernel_rfl) (by exact fun _ _ _ h => h) (Or.inl ⟨by kernel_rfl, ?_⟩) ?_
          rotate_left
          · intro w
            go_simp
            try with_reducible rfl
          simp only [Act.put, List.setIfInBounds_toArray, List.set_cons_zero, List.set_cons_succ]
          refine wpAny_take (i := 1) (v := ?_) (by simp only [List.getElem?_toArray, List.getElem?_cons_succ, List.getElem?_cons_zero]; rfl) (by kernel_rfl) (by kernel_rfl) (by kernel_rfl) (by exact fun _ _ _ h => h) (Or.inl ⟨by kernel_rfl, ?_⟩) ?_
          rotate_left
          · intro w
            go_simp
            try with_reducible rfl
          simp only [Act.put, List.setIfInBounds_toArray, List.set_cons_zero, List.set_cons_succ]
          refine wpAny_take (i := 4) (v := ?_) (by simp only [List.getElem?_toArray, List.getElem?_cons_succ, List.getElem?_cons_zero]; rfl) (by kernel_rfl) (by kernel_rfl) (by kernel_rfl) (by exact fun _ _ _ h => h) (Or.inl ⟨by kernel_rfl, ?_⟩) ?_
          rotate_left
          · intro w
            go_simp
            try with_reducible rfl
          simp only [Act.put, List.setIfInBounds_toArray, List.set_cons_zero, List.set_cons_succ]
          refine wpAny_take (i := 5) (v := ?_) (by simp only [List.getElem?_toArray, List.getElem?_cons_succ, List.getElem?_cons_zero]; rfl) (by kernel_rfl) (by kernel_rfl) (by kernel_rfl) (by exact fun _ _ _ h => h) (Or.inl ⟨by kernel_rfl, ?_⟩) ?_
          rotate_left
          · intro w
            go_simp
            try with_reducible rfl
          simp only [Act.put, List.setIfInBounds_toArray, List.set_cons_zero, List.set_cons_succ]
          refine wpAny_take (i := 6) (v := ?_) (by simp only [List.getElem?_toArray, List.getElem?_cons_succ, List.getElem?_cons_zero]; rfl) (by kernel_rfl) (by kernel_rfl) (by kernel_rfl) (by exact fun _ _ _ h => h) (Or.inl ⟨by kernel_rfl, ?_⟩) ?_
          rotate_left
          · intro w
            go_simp
            try with_reducible rfl
          simp only [Act.put, List.setIfInBounds_toArray, List.set_cons_zero, List.set_cons_succ]
          refine wpAny_ready (rs := [2, 3]) (by kernel_rfl) (by simp) ?_
          refine AllReady.cons (by simp only [List.getElem?_toArray, List.getElem?_cons_succ, List.getElem?_cons_zero]; rfl) (fun K hK => ?_) ?_
          · rw [if_pos (by kernel_rfl)]
            refine wp_app3 fm3 (.tmp 89) (.tmp 90) rfl HGX rfl FX7 rfl (fun b hb => ⟨hb.2, fun e => Nat.not_lt_of_le hb.1 (own4 b e)⟩) (by omega) (by simp only [maxLen]; omega) ?_
            intro v8 w8 H8 g8 o8
            have HX8 := HX.beside g8 (fun z e => ⟨(ownX z e).1, hap4 z e⟩)
            have szA := H8.bel.size
            have sz8 := g8.size
            have own8 := H8.own
            clear HX hap4
            refine hK _ _ ?_
            clear hK K
            try simp only [Act.put, List.setIfInBounds_toArray, List.set_cons_zero, List.set_cons_succ]
            refine wpAny_ready (rs := [3]) (by kernel_rfl) (by simp) ?_
            refine AllReady.cons (by simp only [List.getElem?_toArray, List.getElem?_cons_succ, List.getElem?_cons_zero]; rfl) (fun K hK => ?_) AllReady.nil
            go_simp
            refine hK _ _ ?_
            clear hK K
            try simp only [Act.put, List.setIfInBounds_toArray, List.set_cons_zero, List.set_cons_succ]
            refine wpAny_ready (rs := [7]) (by kernel_rfl) (by simp) ?_
            refine AllReady.cons (by simp only [List.getElem?_toArray, List.getElem?_cons_succ, List.getElem?_cons_zero]; rfl) (fun K hK => ?_) AllReady.nil
            refine step_app _root_.Go.Proofs.Ytofigldbkndjlaa.MbW.u8 rfl (.tmp 92) (.tmp 95) rfl (Has.made0 H8.bel _) rfl (HL4.out _ (HX8.alloc _)) rfl (bs_one _) (by omega) (by simp only [maxLen]; omega) ?_
            intro v9 w9 H9 g9 o9
            refine hK _ _ ?_
            clear hK K
            try simp only [Act.put, List.setIfInBounds_toArray, List.set_cons_zero, List.set_cons_succ]
            refine wpAny_take (i := 8) (v := ?_) (by simp only [List.getElem?_toArray, List.getElem?_cons_succ, List.getElem?_cons_zero]; rfl) (by kernel_rfl) (by kernel_rfl) (by kernel_rfl) (by exact fun _ _ _ h => h) (Or.inl ⟨by kernel_rfl, ?_⟩) ?_
            rotate_left
            · intro w
              go_simp
              try with_reducible rfl
            simp only [Act.put, List.setIfInBounds_toArray, List.set_cons_zero, List.set_cons_succ]
            refine wpAny_take (i := 9) (v := ?_) (by simp only [List.getElem?_toArray, List.getElem?_cons_succ, List.getElem?_cons_zero]; rfl) (by kernel_rfl) (by kernel_rfl) (by kernel_rfl) (by exact fun _ _ _ h => h) (Or.inl ⟨by kernel_rfl, ?_⟩) ?_
            rotate_left
            · intro w
              go_simp
              try with_reducible rfl
            simp only [Act.put, List.setIfInBounds_toArray, List.set_cons_zero, List.set_cons_succ]
            refine wpAny_done (by kernel_rfl) ?_ _
            go_wp2_with fail
            go_roundw
            case rel =>
              have o9' : ∀ b, v9.ownBlock = some b → w8.heap.size ≤ b := fun b hb => by
                rcases o9 with o9 | o9
                · rw [o9] at hb; have hb : some w8.heap.size = some b := hb; injection hb with hb; omega
                · rw [o9] at hb; injection hb with hb; rw [World.size_alloc] at hb; omega
              have o8' : ∀ b, v8.ownBlock = some b → b < w8.heap.size := fun b hb => (own8 b hb).2
              have H9G := (H8.alloc _).beside g9 (fun z e => ⟨by have e : some w8.heap.size = some z := e; injection e with e; omega, fun e2 => by have e : some w8.heap.size = some z := e; injection e with e; have := (own8 z e2).2; omega⟩) (fun b z hb e e2 => by have e : some w8.heap.size = some z := e; injection e with e; omega)
              exact ⟨a + m, j + 1, k + q, XS.drop U, by go_num, by go_num, StI.next H9G H9 (fun b hb => by have := o9' b hb; omega) (fun z e e2 => by have := o9' z e2; have := o8' z e; omega) hm (by rw [← HNB.out]; exact hj1) hkq HREST.out HTAKE.out HALL.out HNL.out hle2 HXB.out⟩
            case measure => simp [intOf]; omega
          refine AllReady.cons (by simp only [List.getElem?_toArray, List.getElem?_cons_succ, List.getElem?_cons_zero]; rfl) (fun K hK => ?_) ?_
          · go_simp
            refine hK _ _ ?_
            clear hK K
            try simp only [Act.put, List.setIfInBounds_toArray, List.set_cons_zero, List.set_cons_succ]
            refine wpAny_ready (rs := [2]) (by kernel_rfl) (by simp) ?_
            refine AllReady.cons (by simp only [List.getElem?_toArray, List.getElem?_cons_succ, List.getElem?_cons_zero]; rfl) (fun K hK => ?_) AllReady.nil
            rw [if_pos (by kernel_rfl)]
            refine wp_app3 fm3 (.tmp 89) (.tmp 90) rfl (HGX.alloc (.cells #[] 5)) rfl (FX7.to ((Below.refl _ _).new (.cells #[] 5))) rfl (fun b hb => ⟨hb.2, fun e => Nat.not_lt_of_le hb.1 (own4 b e)⟩) (by omega) (by simp only [maxLen]; omega) ?_
            intro v8 w8 H8 g8 o8
            have HX8 := (HX.alloc (.cells #[] 5)).beside g8 (fun z e => ⟨(ownX z e).1, hap4 z e⟩)
            have HE8 := (Has.made0 HGX.bel 5).beside g8 (fun z e => ⟨(ownX z e).1, fun e2 => by have e2 : some X.heap.size = some z := e2; injection e2 with e2; have := (ownX z e).2; omega⟩)
            have szA := HGX.bel.size
            have sz8 := g8.size
            rw [World.size_alloc] at sz8
            have own8 := H8.own
            clear HX hap4
            refine hK _ _ ?_
            clear hK K
            try simp only [Act.put, List.setIfInBounds_toArray, List.set_cons_zero, List.set_cons_succ]
            refine wpAny_ready (rs := [7]) (by kernel_rfl) (by simp) ?_
            refine AllReady.cons (by simp only [List.getElem?_toArray, List.getElem?_cons_succ, List.getElem?_cons_zero]; rfl) (fun K hK => ?_) AllReady.nil
            refine step_app _root_.Go.Proofs.Ytofigldbkndjlaa.MbW.u8 rfl (.tmp 92) (.tmp 95) rfl HE8 rfl (HL4.out _ HX8) rfl (bs_one _) (by omega) (by simp only [maxLen]; omega) ?_
            intro v9 w9 H9 g9 o9
            refine hK _ _ ?_
            clear hK K
            try simp only [Act.put, List.setIfInBounds_toArray, List.set_cons_zero, List.set_cons_succ]
            refine wpAny_take (i := 8) (v := ?_) (by simp only [List.getElem?_toArray, List.getElem?_cons_succ, List.getElem?_cons_zero]; rfl) (by kernel_rfl) (by kernel_rfl) (by kernel_rfl) (by exact fun _ _ _ h => h) (Or.inl ⟨by kernel_rfl, ?_⟩) ?_
            rotate_left
            · intro w
              go_simp
              try with_reducible rfl
            simp only [Act.put, List.setIfInBounds_toArray, List.set_cons_zero, List.set_cons_succ]
            refine wpAny_take (i := 9) (v := ?_) (by simp only [List.getElem?_toArray, List.getElem?_cons_succ, List.getElem?_cons_zero]; rfl) (by kernel_rfl) (by kernel_rfl) (by kernel_rfl) (by exact fun _ _ _ h => h) (Or.inl ⟨by kernel_rfl, ?_⟩) ?_
            rotate_left
            · intro w
              go_simp
              try with_reducible rfl
            simp only [Act.put, List.setIfInBounds_toArray, List.set_cons_zero, List.set_cons_succ]
            refine wpAny_done (by kernel_rfl) ?_ _
            go_wp2_with fail
            go_roundw
            case rel =>
              have o9' : ∀ b, v9.ownBlock = some b → b = X.heap.size ∨ w8.heap.size ≤ b := fun b hb => by
                rcases o9 with o9 | o9
                · rw [o9] at hb; have hb : some X.heap.size = some b := hb; injection hb with hb; omega
                · rw [o9] at hb; injection hb with hb; omega
              have o8' : ∀ b, v8.ownBlock = some b → b < w8.heap.size ∧ b ≠ X.heap.size := fun b hb => by
                refine ⟨(own8 b hb).2, ?_⟩
                rcases o8 with o8 | o8
                · rw [o8] at hb; have := (ownX b hb).2; omega
                · rw [o8] at hb; injection hb with hb; rw [World.size_alloc] at hb; omega
              have H9G := H8.beside g9 (fun z e => ⟨by have e : some X.heap.size = some z := e; injection e with e; omega, fun e2 => by have e : some X.heap.size = some z := e; injection e with e; have := o8' z e2; omega⟩) (fun b z hb e e2 => by have e : some X.heap.size = some z := e; injection e with e; omega)
              exact ⟨a + m, j + 1, k + q, XS.drop U, by go_num, by go_num, StI.next H9G H9 (fun b hb => by have := o9' b hb; omega) (fun z e e2 => by have := o9' z e2; have := o8' z e; omega) hm (by rw [← HNB.out]; exact hj1) hkq HREST.out HTAKE.out HALL.out HNL.out hle2 HXB.out⟩
            case measure => simp [intOf]; omega
          exact AllReady.nil
        · obtain ⟨m, hmm⟩ : ∃ m, m = n0 := ⟨_, rfl⟩
          rw [← hmm] at wn0
          have hm : a + m ≤ B.length := by rw [← HNB.out]; omega
          have hm' : a + m ≤ nb := by omega
          have hj1 : j + 1 ≤ np ∨ (j + 1 = np + 1 ∧ a + m = nb) := by omega
          clear hmm
          clear hn0 hj
          have HX0 := stream_step HR.out HO.out hEQ.out hm hk
          obtain ⟨q, hkq, U, hcut, hU, hrest, htake, hall⟩ := HX0
          obtain ⟨XS, hXS⟩ : ∃ XS, XS = LF ++ (B.drop a).take m := ⟨_, rfl⟩
          have hXl : XS.length = LF.length + m := by rw [hXS, List.length_append, List.length_take, List.length_drop]; omega
          have hXB : Bytes XS := by
            intro y hy
            rw [hXS] at hy
            rcases List.mem_append.1 hy with h | h
            · exact hLB.out y h
            · exact HPB.out y (List.mem_of_mem_drop (List.mem_of_mem_take h))
          rw [← hXS] at hcut hU hrest
          obtain ⟨FX, hFX⟩ : ∃ FX, FX = (M.drop k).take q := ⟨_, rfl⟩
          have hFl : FX.length ≤ M.length - k := by rw [hFX, List.length_take, List.length_drop]; omega
          rw [← hFX] at hcut htake
          have HCUT := Lib.hid hcut
          have HXS := Lib.hid hXS
          have HXB := Lib.hid hXB
          have HREST := Lib.hid hrest
          have HTAKE := Lib.hid htake
          have HALL := Lib.hid hall
          have HXL := Lib.hid hXl
          rw [hXl] at hU
          have SB := HS2.out.to HG.bel
          have SB1 := SB.drop (k := a) (cap := c2) (by omega) (by omega)
          rw [if_neg (show ¬ c2 = a by omega)] at SB1
          have SB2 := SB1.take (k := m) (by omega)
          rw [bs_drop, bs_take] at SB2
          have SB3 : Sl wr wr.heap.size (Option.map (fun x => x.add a) A2) (a + m - a) (bs ((B.drop a).take m)) := by rw [Nat.add_sub_cancel_left]; exact SB2
          clear SB2 SB SB1 hcut hXS hXB hFX hrest htake hall hXl
          have wam : IntKind.i64.wrap ((a : Int) + (m : Int)) = ((a + m : Nat) : Int) := by rw [IntKind.wrap_i64]; omega
          have wj1 : IntKind.i64.wrap ((j : Int) + 1) = ((j + 1 : Nat) : Int) := by rw [IntKind.wrap_i64]; omega
          have zam : ((a + m : Nat) : Int) ≤ (c2 : Int) := by omega
          have zam2 : ((a : Nat) : Int) ≤ ((a + m : Nat) : Int) := by omega
          have wnp : IntKind.i64.wrap ((np : Int) + 1) = ((np + 1 : Nat) : Int) := by rw [IntKind.wrap_i64]; omega
          have zj : ¬ (((np + 1 : Nat) : Int) < (j : Int)) := by omega
          go_wp2_with (first
            | (at_builtin; go_loud (refine wpList_app _root_.Go.Proofs.Ytofigldbkndjlaa.MbW.u8 rfl (.tmp 55) (.tmp 61) rfl HLF rfl SB3 rfl (bs_one _) (by omega) (by simp only [maxLen]; omega) ?_; intro v4 w4 H4 g4 o4)))
          have HG4 := HG.below_lt.beside g4 (fun z e => ⟨(HLF.own.lt z e).1, fun e' => hap z e' e⟩) (fun b z hb e e' => hb.1 (by rw [e, e']))
          have hap4 : ∀ z, u9.ownBlock = some z → v4.ownBlock ≠ some z := fun z e e' => by
            rcases o4 with o4 | o4
            · exact hap z e (o4 ▸ e')
            · rw [o4] at e'
              injection e' with e'
              have := (HG.own z e).2
              omega
          rw [bs_append, ← HXS.out] at H4
          obtain ⟨nl, hnl⟩ : ∃ nl, nl = LF.length + (a + m - a) := ⟨_, rfl⟩
          rw [← hnl] at H4
          have HNL := Lib.hid (show XS.length = nl by rw [HXL.out]; omega)
          have hU : U ≤ nl := by omega
          have hle2 : nl ≤ a + m := by omega
          clear hnl
          obtain ⟨A4, c4, rfl, hc4, S4, -⟩ := H4.slice
          clear HG HLF hap g4 o4 SB3
          refine (cut_any A4 nl c4 XS _ S4 HXB.out hc4 (by omega)).mono ?_
          rw [HCUT.out]
          rintro e w7 ⟨v7, rfl, H7⟩
          have b47 := H7.bel
          obtain ⟨A7, c7, rfl, -, F7⟩ := H7.slice
          dsimp only at F7 ⊢
          have zU0 : ¬ (U : Int) < 0 := by omega
          have zU : (U : Int) ≤ (nl : Int) := by omega
          have zU2 : ¬ (nl : Int) < (U : Int) := by omega
          have zc4 : (nl : Int) ≤ (c4 : Int) := by omega
          have own4 := HG4.own
          have sz4 := b47.size
          have HG7 := (HG4.below b47).below_lt.imp (fun b hb => hb.2)
          have F8 := F7.and_lt
          have H8 := H4.below b47
          clear H7 F7 S4 H4 HG4 b47
          have HL4 := Lib.hid (fun Y (h : Has w2 Y 5 (.slice A4 nl c4) nl (bs XS)) => by
            have h1 := h.sl.drop (k := U) (cap := c4) hU hc4
            rw [bs_drop] at h1
            exact h1)
          go_wp2_with fail
          refine wp_region_any (by kernel_rfl) ?_
          change wpAny _ _ _ _ _ _ _ (World.drew _)
          have HGX : HasF w2 w7.drew 25 u9 k (M.take k) (fun b => b < w7.drew.heap.size) := HG7.drew
          have FX7 : Fr w7.drew A7 FX.length FX (fun b => w4.heap.size ≤ b ∧ b < w7.drew.heap.size) := F8.drew
          have HX := H8.drew
          have own4 : ∀ b, u9.ownBlock = some b → b < w4.heap.size := fun b hb => (own4 b hb).2
          have szX : w4.heap.size ≤ w7.drew.heap.size := sz4
          clear HG7 F8 H8 sz4
          obtain ⟨X, hX⟩ : ∃ X, X = w7.drew := ⟨_, rfl⟩
          rw [← hX] at HGX FX7 HX szX ⊢
          clear hX
          have ownX := HGX.own
          refine wpAny_take (i := 0) (v := ?_) (by simp only [List.getElem?_toArray, List.getElem?_cons_succ, List.getElem?_cons_zero]; rfl) (by kernel_rfl) (by kernel_rfl) (by kernel_rfl) (by exact fun _ _ _ h => h) (Or.inl ⟨by kernel_rfl, ?_⟩) ?_
          rotate_left
          · intro w
            go_simp
            try with_reducible rfl
          simp only [Act.put, List.setIfInBounds_toArray, List.set_cons_zero, List.set_cons_succ]
          refine wpAny_take (i := 1) (v := ?_) (by simp only [List.getElem?_toArray, List.getElem?_cons_succ, List.getElem?_cons_zero]; rfl) (by kernel_rfl) (by kernel_rfl) (by kernel_rfl) (by exact fun _ _ _ h => h) (Or.inl ⟨by kernel_rfl, ?_⟩) ?_
          rotate_left
          · intro w
            go_simp
            try with_reducible rfl
          simp only [Act.put, List.setIfInBounds_toArray, List.set_cons_zero, List.set_cons_succ]
          refine wpAny_take (i := 4) (v := ?_) (by simp only [List.getElem?_toArray, List.getElem?_cons_succ, List.getElem?_cons_zero]; rfl) (by kernel_rfl) (by kernel_rfl) (by kernel_rfl) (by exact fun _ _ _ h => h) (Or.inl ⟨by kernel_rfl, ?_⟩) ?_
          rotate_left
          · intro w
            go_simp
            try with_reducible rfl
          simp only [Act.put, List.setIfInBounds_toArray, List.set_cons_zero, List.set_cons_succ]
          refine wpAny_take (i := 5) (v := ?_) (by simp only [List.getElem?_toArray, List.getElem?_cons_succ, List.getElem?_cons_zero]; rfl) (by kernel_rfl) (by kernel_rfl) (by kernel_rfl) (by exact fun _ _ _ h => h) (Or.inl ⟨by kernel_rfl, ?_⟩) ?_
          rotate_left
          · intro w
            go_simp
            try with_reducible rfl
          simp only [Act.put, List.setIfInBounds_toArray, List.set_cons_zero, List.set_cons_succ]
          refine wpAny_take (i := 6) (v := ?_) (by simp only [List.getElem?_toArray, List.getElem?_cons_succ, List.getElem?_cons_zero]; rfl) (by kernel_rfl) (by kernel_rfl) (by kernel_rfl) (by exact fun _ _ _ h => h) (Or.inl ⟨by kernel_rfl, ?_⟩) ?_
          rotate_left
          · intro w
            go_simp
            try with_reducible rfl
          simp only [Act.put, List.setIfInBounds_toArray, List.set_cons_zero, List.set_cons_succ]
          refine wpAny_ready (rs := [2, 3]) (by kernel_rfl) (by simp) ?_
          refine AllReady.cons (by simp only [List.getElem?_toArray, List.getElem?_cons_succ, List.getElem?_cons_zero]; rfl) (fun K hK => ?_) ?_
          · rw [if_pos (by kernel_rfl)]
            refine wp_app3 fm3 (.tmp 89) (.tmp 90) rfl HGX rfl FX7 rfl (fun b hb => ⟨hb.2, fun e => Nat.not_lt_of_le hb.1 (own4 b e)⟩) (by omega) (by simp only [maxLen]; omega) ?_
            intro v8 w8 H8 g8 o8
            have HX8 := HX.beside g8 (fun z e => ⟨(ownX z e).1, hap4 z e⟩)
            have szA := H8.bel.size
            have sz8 := g8.size
            have own8 := H8.own
            clear HX hap4
            refine hK _ _ ?_
            clear hK K
            try simp only [Act.put, List.setIfInBounds_toArray, List.set_cons_zero, List.set_cons_succ]
            refine wpAny_ready (rs := [3]) (by kernel_rfl) (by simp) ?_
            refine AllReady.cons (by simp only [List.getElem?_toArray, List.getElem?_cons_succ, List.getElem?_cons_zero]; rfl) (fun K hK => ?_) AllReady.nil
            go_simp
            refine hK _ _ ?_
            clear hK K
            try simp only [Act.put, List.setIfInBounds_toArray, List.set_cons_zero, List.set_cons_succ]
            refine wpAny_ready (rs := [7]) (by kernel_rfl) (by simp) ?_
            refine AllReady.cons (by simp only [List.getElem?_toArray, List.getElem?_cons_succ, List.getElem?_cons_zero]; rfl) (fun K hK => ?_) AllReady.nil
            refine step_app _root_.Go.Proofs.Ytofigldbkndjlaa.MbW.u8 rfl (.tmp 92) (.tmp 95) rfl (Has.made0 H8.bel _) rfl (HL4.out _ (HX8.alloc _)) rfl (bs_one _) (by omega) (by simp only [maxLen]; omega) ?_
            intro v9 w9 H9 g9 o9
            refine hK _ _ ?_
            clear hK K
            try simp only [Act.put, List.setIfInBounds_toArray, List.set_cons_zero, List.set_cons_succ]
            refine wpAny_take (i := 8) (v := ?_) (by simp only [List.getElem?_toArray, List.getElem?_cons_succ, List.getElem?_cons_zero]; rfl) (by kernel_rfl) (by kernel_rfl) (by kernel_rfl) (by exact fun _ _ _ h => h) (Or.inl ⟨by kernel_rfl, ?_⟩) ?_
            rotate_left
            · intro w
              go_simp
              try with_reducible rfl
            simp only [Act.put, List.setIfInBounds_toArray, List.set_cons_zero, List.set_cons_succ]
            refine wpAny_take (i := 9) (v := ?_) (by simp only [List.getElem?_toArray, List.getElem?_cons_succ, List.getElem?_cons_zero]; rfl) (by kernel_rfl) (by kernel_rfl) (by kernel_rfl) (by exact fun _ _ _ h => h) (Or.inl ⟨by kernel_rfl, ?_⟩) ?_
            rotate_left
            · intro w
              go_simp
              try with_reducible rfl
            simp only [Act.put, List.setIfInBounds_toArray, List.set_cons_zero, List.set_cons_succ]
            refine wpAny_done (by kernel_rfl) ?_ _
            go_wp2_with fail
            go_roundw
            case rel =>
              have o9' : ∀ b, v9.ownBlock = some b → w8.heap.size ≤ b := fun b hb => by
                rcases o9 with o9 | o9
                · rw [o9] at hb; have hb : some w8.heap.size = some b := hb; injection hb with hb; omega
                · rw [o9] at hb; injection hb with hb; rw [World.size_alloc] at hb; omega
              have o8' : ∀ b, v8.ownBlock = some b → b < w8.heap.size := fun b hb => (own8 b hb).2
              have H9G := (H8.alloc _).beside g9 (fun z e => ⟨by have e : some w8.heap.size = some z := e; injection e with e; omega, fun e2 => by have e : some w8.heap.size = some z := e; injection e with e; have := (own8 z e2).2; omega⟩) (fun b z hb e e2 => by have e : some w8.heap.size = some z := e; injection e with e; omega)
              exact ⟨a + m, j + 1, k + q, XS.drop U, by go_num, by go_num, StI.next H9G H9 (fun b hb => by have := o9' b hb; omega) (fun z e e2 => by have := o9' z e2; have := o8' z e; omega) hm (by rw [← HNB.out]; exact hj1) hkq HREST.out HTAKE.out HALL.out HNL.out hle2 HXB.out⟩
            case measure => simp [intOf]; omega
          refine AllReady.cons (by simp only [List.getElem?_toArray, List.getElem?_cons_succ, List.getElem?_cons_zero]; rfl) (fun K hK => ?_) ?_
          · go_simp
            refine hK _ _ ?_
            clear hK K
            try simp only [Act.put, List.setIfInBounds_toArray, List.set_cons_zero, List.set_cons_succ]
            refine wpAny_ready (rs := [2]) (by kernel_rfl) (by simp) ?_
            refine AllReady.cons (by simp only [List.getElem?_toArray, List.getElem?_cons_succ, List.getElem?_cons_zero]; rfl) (fun K hK => ?_) AllReady.nil
            rw [if_pos (by kernel_rfl)]
            refine wp_app3 fm3 (.tmp 89) (.tmp 90) rfl (HGX.alloc (.cells #[] 5)) rfl (FX7.to ((Below.refl _ _).new (.cells #[] 5))) rfl (fun b hb => ⟨hb.2, fun e => Nat.not_lt_of_le hb.1 (own4 b e)⟩) (by omega) (by simp only [maxLen]; omega) ?_
            intro v8 w8 H8 g8 o8
            have HX8 := (HX.alloc (.cells #[] 5)).beside g8 (fun z e => ⟨(ownX z e).1, hap4 z e⟩)
            have HE8 := (Has.made0 HGX.bel 5).beside g8 (fun z e => ⟨(ownX z e).1, fun e2 => by have e2 : some X.heap.size = some z := e2; injection e2 with e2; have := (ownX z e).2; omega⟩)
            have szA := HGX.bel.size
            have sz8 := g8.size
            rw [World.size_alloc] at sz8
            have own8 := H8.own
            clear HX hap4
            refine hK _ _ ?_
            clear hK K
            try simp only [Act.put, List.setIfInBounds_toArray, List.set_cons_zero, List.set_cons_succ]
            refine wpAny_ready (rs := [7]) (by kernel_rfl) (by simp) ?_
            refine AllReady.cons (by simp only [List.getElem?_toArray, List.getElem?_cons_succ, List.getElem?_cons_zero]; rfl) (fun K hK => ?_) AllReady.nil
            refine step_app _root_.Go.Proofs.Ytofigldbkndjlaa.MbW.u8 rfl (.tmp 92) (.tmp 95) rfl HE8 rfl (HL4.out _ HX8) rfl (bs_one _) (by omega) (by simp only [maxLen]; omega) ?_
            intro v9 w9 H9 g9 o9
            refine hK _ _ ?_
            clear hK K
            try simp only [Act.put, List.setIfInBounds_toArray, List.set_cons_zero, List.set_cons_succ]
            refine wpAny_take (i := 8) (v := ?_) (by simp only [List.getElem?_toArray, List.getElem?_cons_succ, List.getElem?_cons_zero]; rfl) (by kernel_rfl) (by kernel_rfl) (by kernel_rfl) (by exact fun _ _ _ h => h) (Or.inl ⟨by kernel_rfl, ?_⟩) ?_
            rotate_left
            · intro w
              go_simp
              try with_reducible rfl
            simp only [Act.put, List.setIfInBounds_toArray, List.set_cons_zero, List.set_cons_succ]
            refine wpAny_take (i := 9) (v := ?_) (by simp only [List.getElem?_toArray, List.getElem?_cons_succ, List.getElem?_cons_zero]; rfl) (by kernel_rfl) (by kernel_rfl) (by kernel_rfl) (by exact fun _ _ _ h => h) (Or.inl ⟨by kernel_rfl, ?_⟩) ?_
            rotate_left
            · intro w
              go_simp
              try with_reducible rfl
            simp only [Act.put, List.setIfInBounds_toArray, List.set_cons_zero, List.set_cons_succ]
            refine wpAny_done (by kernel_rfl) ?_ _
            go_wp2_with fail
            go_roundw
            case rel =>
              have o9' : ∀ b, v9.ownBlock = some b → b = X.heap.size ∨ w8.heap.size ≤ b := fun b hb => by
                rcases o9 with o9 | o9
                · rw [o9] at hb; have hb : some X.heap.size = some b := hb; injection hb with hb; omega
                · rw [o9] at hb; injection hb with hb; omega
              have o8' : ∀ b, v8.ownBlock = some b → b < w8.heap.size ∧ b ≠ X.heap.size := fun b hb => by
                refine ⟨(own8 b hb).2, ?_⟩
                rcases o8 with o8 | o8
                · rw [o8] at hb; have := (ownX b hb).2; omega
                · rw [o8] at hb; injection hb with hb; rw [World.size_alloc] at hb; omega
              have H9G := H8.beside g9 (fun z e => ⟨by have e : some X.heap.size = some z := e; injection e with e; omega, fun e2 => by have e : some X.heap.size = some z := e; injection e with e; have := o8' z e2; omega⟩) (fun b z hb e e2 => by have e : some X.heap.size = some z := e; injection e with e; omega)
              exact ⟨a + m, j + 1, k + q, XS.drop U, by go_num, by go_num, StI.next H9G H9 (fun b hb => by have := o9' b hb; omega) (fun z e e2 => by have := o9' z e2; have := o8' z e; omega) hm (by rw [← HNB.out]; exact hj1) hkq HREST.out HTAKE.out HALL.out HNL.out hle2 HXB.out⟩
            case measure => simp [intOf]; omega
          exact AllReady.nil
end Go.Proofs.Ytofigldbkndjlaa.MbW
