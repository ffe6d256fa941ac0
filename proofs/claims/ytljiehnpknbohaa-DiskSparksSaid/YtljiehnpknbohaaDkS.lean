/- The walk of DiskSparks (layer 9), over the contracts DiskK. -/
import Derived.Test.YtljiehnpknbohaaDkT
set_option linter.unusedVariables false
set_option linter.unusedSimpArgs false
namespace Go.Proofs.Ytljiehnpknbohaa.DkW
open Go.RowKit Go.Proofs.Ytljiehnpknbohaa Go.Proofs.Ytljiehnpknbohaa.Dk
/-- As many sparks are left; the power is off when there are fewer than none. -/
structure Left (left : Int) (k : Nat) (d : D) : Prop where
  room : d.room = 262144
  few : d.b.length ≤ 200 * k
  on : 0 ≤ left → d.off = false ∧ d.left = left
  off : left < 0 → d.off = true
  lo : -300 ≤ left + k
  hi : left ≤ 3000
theorem left_append {left : Int} {k : Nat} {d : D} {xs : List Nat} (h : Left left k d) (hk : k < 60) (hx : xs.length ≤ 200) :
    (append d xs).1.b.length = d.b.length + (min (xs.length : Int) (max left 0)).toNat ∧ ((append d xs).2 = 0 ↔ 0 ≤ left ∧ (xs.length : Int) ≤ left) ∧ Left (if 0 ≤ left then left - xs.length else left) (k + 1) (append d xs).1 := by
  obtain ⟨room, safe, dl, b, off⟩ := d
  obtain ⟨h1, h2, h3, h4, h5, h6⟩ := h
  dsimp only at h1 h2 h3 h4
  subst h1
  by_cases h0 : 0 ≤ left
  · obtain ⟨rfl, rfl⟩ := h3 h0
    have e1 : ¬ (262144 : Nat) < b.length + xs.length := by omega
    by_cases h7 : dl < xs.length
    · have e : append ⟨262144, safe, dl, b, false⟩ xs = ({ put ⟨262144, safe, dl, b, false⟩ xs dl.toNat with left := 0, off := true }, 6) := by simp [append, e1, h0, h7]
      rw [e]
      refine ⟨?_, ?_, ?_⟩
      · show (b ++ xs.take dl.toNat).length = _
        rw [List.length_append, List.length_take]
        show _ = b.length + _
        omega
      · show (6 : Int) = 0 ↔ _
        omega
      · rw [if_pos h0]
        refine ⟨rfl, ?_, ?_, ?_, ?_, ?_⟩
        · show (b ++ xs.take dl.toNat).length ≤ _
          rw [List.length_append, List.length_take]; omega
        · intro h8; omega
        · intro _; rfl
        · omega
        · omega
    · have e : append ⟨262144, safe, dl, b, false⟩ xs = (put ⟨262144, safe, dl, b, false⟩ xs xs.length, 0) := by simp [append, e1, h0, h7]
      rw [e]
      refine ⟨?_, ?_, ?_⟩
      · show (b ++ xs.take xs.length).length = _
        rw [List.length_append, List.length_take]
        show _ = b.length + _
        omega
      · show (0 : Int) = 0 ↔ _
        omega
      · rw [if_pos h0]
        refine ⟨rfl, ?_, ?_, ?_, ?_, ?_⟩
        · show (b ++ xs.take xs.length).length ≤ _
          rw [List.length_append, List.length_take]; omega
        · intro h8
          refine ⟨rfl, ?_⟩
          show (if 0 ≤ dl then dl - (xs.length : Nat) else dl) = _
          rw [if_pos h0]
        · intro h8; omega
        · omega
        · omega
  · have ho := h4 (by omega)
    subst ho
    have e : append ⟨262144, safe, dl, b, true⟩ xs = (⟨262144, safe, dl, b, true⟩, 6) := by simp [append]
    rw [e]
    refine ⟨?_, ?_, ?_⟩
    · show b.length = b.length + _; omega
    · show (6 : Int) = 0 ↔ _; omega
    · rw [if_neg h0]
      exact ⟨rfl, by show b.length ≤ _; omega, fun h8 => absurd h8 h0, fun _ => rfl, by omega, h6⟩
theorem left_sync {left : Int} {k : Nat} {d : D} (h : Left left k d) (hk : -300 ≤ left + k) : ((sync d).2 = 0 ↔ 0 < left) ∧ Left (left - 1) (k + 1) (sync d).1 := by
  obtain ⟨room, safe, dl, b, off⟩ := d
  obtain ⟨h1, h2, h3, h4, h5, h6⟩ := h
  dsimp only at h1 h2 h3 h4
  subst h1
  by_cases h0 : 0 ≤ left
  · obtain ⟨rfl, rfl⟩ := h3 h0
    by_cases h7 : dl = 0
    · have e : sync ⟨262144, safe, dl, b, false⟩ = (⟨262144, safe, dl, b, true⟩, 6) := by simp [sync, h7]
      rw [e]
      exact ⟨by show (6 : Int) = 0 ↔ _; omega, rfl, by show b.length ≤ _; omega, fun h8 => by omega, fun _ => rfl, by omega, by omega⟩
    · have e : sync ⟨262144, safe, dl, b, false⟩ = (⟨262144, b.length, spend dl, b, false⟩, 0) := by simp [sync, h7]
      rw [e]
      refine ⟨by show (0 : Int) = 0 ↔ _; omega, rfl, by show b.length ≤ _; omega, fun h8 => ⟨rfl, ?_⟩, fun h8 => by omega, by omega, by omega⟩
      show spend dl = dl - 1
      unfold spend
      rw [if_pos (by omega)]
  · have ho := h4 (by omega)
    subst ho
    have e : sync ⟨262144, safe, dl, b, true⟩ = (⟨262144, safe, dl, b, true⟩, 6) := by simp [sync]
    rw [e]
    exact ⟨by show (6 : Int) = 0 ↔ _; omega, rfl, by show b.length ≤ _; omega, fun h8 => by omega, fun _ => rfl, by omega, by omega⟩
theorem left_cut {left : Int} {k : Nat} {d : D} (h : Left left k d) (hk : -300 ≤ left + k) : ((cut d d.b.length).2 = 0 ↔ 0 < left) ∧ Left (left - 1) (k + 1) (cut d d.b.length).1 := by
  obtain ⟨room, safe, dl, b, off⟩ := d
  obtain ⟨h1, h2, h3, h4, h5, h6⟩ := h
  dsimp only at h1 h2 h3 h4 ⊢
  subst h1
  by_cases h0 : 0 ≤ left
  · obtain ⟨rfl, rfl⟩ := h3 h0
    have e0 : ¬ (b.length : Int) < 0 := by omega
    by_cases h7 : dl = 0
    · have e : cut ⟨262144, safe, dl, b, false⟩ (b.length : Int) = (⟨262144, safe, dl, b, true⟩, 6) := by simp [cut, h7, e0]
      rw [e]
      exact ⟨by show (6 : Int) = 0 ↔ _; omega, rfl, by show b.length ≤ _; omega, fun h8 => by omega, fun _ => rfl, by omega, by omega⟩
    · have e : cut ⟨262144, safe, dl, b, false⟩ (b.length : Int) = (⟨262144, min safe b.length, spend dl, b, false⟩, 0) := by simp [cut, h7, e0]
      rw [e]
      refine ⟨by show (0 : Int) = 0 ↔ _; omega, rfl, by show b.length ≤ _; omega, fun h8 => ⟨rfl, ?_⟩, fun h8 => by omega, by omega, by omega⟩
      show spend dl = dl - 1
      unfold spend
      rw [if_pos (by omega)]
  · have ho := h4 (by omega)
    subst ho
    have e : cut ⟨262144, safe, dl, b, true⟩ (b.length : Int) = (⟨262144, safe, dl, b, true⟩, 6) := by simp [cut]
    rw [e]
    exact ⟨by show (6 : Int) = 0 ↔ _; omega, rfl, by show b.length ≤ _; omega, fun h8 => by omega, fun _ => rfl, by omega, by omega⟩
theorem crash_len {d : D} (h : d.Ok) (z : Int) : (Dk.crash d z).safe = (Dk.crash d z).b.length := by
  have := keepN_le h z
  show keepN d z = (d.b.take (keepN d z)).length
  rw [List.length_take]; omega
theorem crash_sync (d : D) (z : Int) : (Dk.sync (Dk.crash d z)).2 = 0 := by
  have h1 : (Dk.crash d z).off = false := rfl
  have h2 : (Dk.crash d z).left = -1 := rfl
  unfold Dk.sync
  rw [h1, h2]
  rfl
theorem keepS {X : World} {g1 : Nat} {t1 : TypeId} {a0 a1 a2 : Value} (r0 : X.heap[g1]? = some (.cells #[a0, a1, a2] t1 (0, 0))) :
    X.cell? ⟨g1, 0, none⟩ = some a0 ∧ X.cell? ⟨g1, 1, none⟩ = some a1 ∧ X.cell? ⟨g1, 2, none⟩ = some a2 :=
  ⟨cell_of_row X g1 0 _ _ _ r0, cell_of_row X g1 1 _ _ _ r0, cell_of_row X g1 2 _ _ _ r0⟩
set_option maxRecDepth 10000 in
set_option maxHeartbeats 4000000 in
theorem diskSparks_any (K : DiskK) (r : Nat) (A : Option Addr) (n c : Nat) (L : List Deed) (w : World) (h : Os w A n L) (ho : Oks L) (hc : n ≤ c) (hr : r < 65536) :
    Calls Try.prog 5 #[.int .u16 (r : Nat), .slice A n c] w fun e w' => e = .returned (.bool true) ∧ Below w.heap.size w w' := by
  have HK := Lib.hid K
  obtain ⟨m, hm⟩ : ∃ m, m = min n 60 := ⟨_, rfl⟩
  have hlen := h.len
  have hmn : m ≤ n := by omega
  have hm60 : m ≤ 60 := by omega
  have HLI := Lib.hid (light_is L n m hlen hm)
  have HO := Lib.hid h
  have HM := Lib.hid hm
  have HT := Lib.hid (h.take hmn)
  have HQ := Lib.hid (ho.take m)
  obtain ⟨s, es⟩ : ∃ s, s = r % 3001 := ⟨_, rfl⟩
  have hs1 : (r : Int) % 3001 = (s : Int) := by omega
  have hs2 : s ≤ 3000 := by omega
  have hs3 := w64 (show s ≤ 9223372036854775807 by omega)
  clear h ho hm es
  go_enter Try.func5, Try.ntmps5
  go_wp2_with fail
  refine (HK.out.new 262144 _ (by omega)).mono ?_
  rintro e w1 ⟨p, S, rfl, D1, b1⟩
  go_wp2_with fail
  refine (light_any A n c L _ (HO.out.to b1) hc m HM.out).mono ?_
  rintro e w2 ⟨he, b2⟩
  have B2 := b1.call b2
  have D2 := D1.to b2
  clear b1 b2 D1
  by_cases hl : light L = true
  case neg =>
    rw [if_neg hl] at he
    subst he
    clear hl
    go_wp2_with fail
    refine (awake9_any HK.out _).mono ?_
    rintro e w3 ⟨rfl, b3⟩
    go_wp2_with fail
    go_ret
    exact ⟨rfl, B2.call b3⟩
  rw [if_pos hl] at he
  subst he
  have HL := Lib.hid (show (L.take m).all few = true by rw [← HLI.out]; exact hl)
  clear hl HLI
  go_wp2_with fail
  refine (HK.out.sparks (Dk.new 262144) w.heap.size S p (s : Int) _ D2 (by omega) (by omega)).mono ?_
  rintro e w3 ⟨rfl, S3, D3, st, hS⟩
  have B3 := B2.trans (st.below B2.size D2.lo)
  have L0 : Left (s : Int) 0 (Dk.sparks (Dk.new 262144) (s : Int)) := ⟨rfl, by show ([] : List Nat).length ≤ _; simp, fun _ => ⟨rfl, by show (if (s : Int) < 0 then (-1 : Int) else (s : Int)) = _; rw [if_neg (by omega)]⟩, fun h => by omega, by omega, by omega⟩
  clear st hS D2 B2
  obtain ⟨d0, ed⟩ : ∃ d0, d0 = Dk.sparks (Dk.new 262144) (s : Int) := ⟨_, rfl⟩
  rw [← ed] at D3 L0
  clear ed
  go_wp2_with fail
  go_loopw [8, 42] (fun lv i wr => ∃ k : Nat, ∃ left : Int, ∃ d : D, ∃ S' : Nat → Prop, k ≤ m ∧ i = .int .i64 k ∧ lv = .int .i64 left ∧ Hid (Left left k d) ∧ Dk wr w.heap.size S' p d ∧ Below w.heap.size w wr) (fun _ i _ => m - (intOf i).toNat)
  case atStart => exact ⟨0, s, d0, S3, by omega, rfl, rfl, L0, D3, B3⟩
  case round =>
    obtain ⟨k, left, d, S', hk, rfl, rfl, HLE, HD, bw⟩ := hrel
    clear D3 B3 L0
    by_cases hlt : k < m
    · have hlt' : (k : Int) < (m : Int) := by omega
      have y0 : (0 : Int) ≤ (k : Int) := by omega
      obtain ⟨b, o, rfl, hbb, C, mq, cq, e0, e1, e2, SC⟩ := HT.out.at (i := k) hlt
      have d0 := (bw.cell (p := ⟨b, o + k * 3, none⟩) hbb).trans e0
      have d1 := (bw.cell (p := ⟨b, o + k * 3 + 1, none⟩) hbb).trans e1
      have d2 := (bw.cell (p := ⟨b, o + k * 3 + 2, none⟩) hbb).trans e2
      have hq := HQ.out.at k
      have hq2 := light_at HL.out hlt (by omega)
      have hmq : ((L.take m)[k]?.getD op0).b.length = mq := by simpa using SC.len
      rw [hmq] at hq2
      clear e0 e1 e2
      obtain ⟨q, eq⟩ : ∃ q, q = (L.take m)[k]?.getD op0 := ⟨_, rfl⟩
      rw [← eq] at d0 d2 hq SC hmq
      clear eq
      have HAW := Lib.hid (Away.low SC HD.lo)
      have HSC := Lib.hid (SC.to (bw.new (.cells #[.int .u8 (q.what : Nat), .slice C mq cq, .int .i64 q.n] 35)))
      have HMQ := Lib.hid hmq
      have hq0 := Lib.hid hq
      have HD0 := Lib.hid (HD.to ((Below.refl _ wr).new (.cells #[.int .u8 (q.what : Nat), .slice C mq cq, .int .i64 q.n] 35)))
      have HHD := Lib.hid HD
      have hlo := HLE.out.lo
      have hhi := HLE.out.hi
      have h3 : q.what % 3 < 3 := Nat.mod_lt _ (by omega)
      obtain ⟨j, ej⟩ : ∃ j, j = q.what % 3 := ⟨_, rfl⟩
      have hw3 : (q.what : Int) % 3 = (j : Int) := by omega
      rw [← ej] at h3
      clear SC hq ej HD hmq
      go_upto_region 10 with fail
      obtain ⟨W, hW⟩ : ∃ W, W = wr.alloc (.cells #[.int .u8 (q.what : Nat), .slice C mq cq, .int .i64 q.n] 35) := ⟨_, rfl⟩
      have r1 : W.heap[wr.heap.size]? = some (.cells #[.int .u8 (q.what : Nat), .slice C mq cq, .int .i64 q.n] 35 (0, 0)) := by rw [hW]; exact heap_alloc_new _ _
      have BW : Below w.heap.size w W := by rw [hW]; exact bw.new _
      rw [← hW] at HSC HD0 ⊢
      clear hW d0 d1 d2
      rcases show j = 0 ∨ j = 1 ∨ j = 2 from by omega with rfl | rfl | rfl
      · by_cases h0 : 0 ≤ left
        · by_cases h1 : (mq : Int) ≤ left
          · have hof : d.off = false := (HLE.out.on h0).1
            go_wp2_with fail
            refine (HK.out.len d w.heap.size S' p _ HD0.out).mono ?_
            rintro e w4 ⟨rfl, b4⟩
            have r1 := b4.row (row_lt r1) r1
            have B4 := BW.call b4
            have HD4 := Lib.hid (HD0.out.to b4)
            have HSC4 := Lib.hid (HSC.out.to b4)
            clear b4 HD0 HSC BW
            go_wp2_with fail
            refine (HK.out.off d w.heap.size S' p _ HD4.out).mono ?_
            rw [hof]
            rintro e w5 ⟨rfl, b5⟩
            have r1 := b5.row (row_lt r1) r1
            have B5 := B4.call b5
            have HD5 := Lib.hid (HD4.out.to b5)
            have HSC5 := Lib.hid (HSC4.out.to b5)
            clear b5 HD4 HSC4 B4 hof
            have hob : wr.heap.size < w5.heap.size := row_lt r1
            obtain ⟨a0, a1, a2⟩ := keepS r1
            have hmq : q.b.length = mq := HMQ.out
            obtain ⟨hy, hz, hL2⟩ := left_append (xs := q.b) HLE.out (by omega) (by omega)
            rw [if_pos h0, hmq] at hL2
            have HL2 := Lib.hid hL2
            rw [hmq] at hy hz
            clear hL2
            have hbl : d.b.length ≤ 12000 := by have := HLE.out.few; omega
            obtain ⟨M, hM⟩ : ∃ M, M = (min (mq : Int) (max left 0)).toNat := ⟨_, rfl⟩
            rw [← hM] at hy
            obtain ⟨y, ey⟩ : ∃ y, y = (append d q.b).1.b.length := ⟨_, rfl⟩
            have EY := Lib.hid ey
            rw [← ey] at hy
            clear ey
            obtain ⟨x, hx⟩ : ∃ x, x = (append d q.b).2 := ⟨_, rfl⟩
            have HX := Lib.hid hx
            rw [← hx] at hz
            clear hx
            have h9 : x = 0 := hz.2 ⟨h0, h1⟩
            clear hz
            go_wp2_with fail
            refine (HK.out.append d w.heap.size S' p C mq cq q.b _ HD5.out HSC5.out HAW.out hq0.out.b (by omega)).mono ?_
            rw [← HX.out, h9]
            rintro e w6 ⟨rfl, S6, D6, st, hS⟩
            have B6 := B5.trans (st.below B5.size HHD.out.lo)
            have r1 := st.row (fun hs => by have := HHD.out.hi _ hs; omega) r1
            have HD6 := Lib.hid D6
            clear st hS D6 B5 HD5 HSC5 HX
            obtain ⟨a0, a1, a2⟩ := keepS r1
            go_upto_region 23 with fail
            obtain ⟨Wd, eWd⟩ : ∃ X, X = w6.drew := ⟨_, rfl⟩
            have r1 : Wd.heap[wr.heap.size]? = some (.cells #[.int .u8 (q.what : Nat), .slice C mq cq, .int .i64 q.n] 35 (0, 0)) := by rw [eWd]; exact r1
            have HD7 := Lib.hid (show Dk Wd w.heap.size S6 p _ by rw [eWd]; exact HD6.out.to ((Below.refl _ _).drew))
            have BD : Below w.heap.size w Wd := by rw [eWd]; exact B6.drew
            have hM2 : (M : Int) = min (mq : Int) (max left 0) := by omega
            have hM3 : M ≤ 200 := by omega
            have hmx : max left 0 = left := by omega
            have hmnn : min (mq : Int) left = (mq : Int) := by omega
            have hwr : IntKind.i64.wrap ((d.b.length : Int) + (mq : Int)) = (y : Int) := by rw [← hmnn, ← hmx, ← hM2, hy]; exact w64 (show d.b.length + M ≤ 9223372036854775807 by omega)
            clear HD6 B6 hM hy
            refine wp_region_held_drew (S := (fun w' => w'.cell? ⟨wr.heap.size, 0, none⟩ = some (.int .u8 (q.what : Nat)) ∧ w'.cell? ⟨wr.heap.size, 1, none⟩ = some (.slice C mq cq) ∧ w'.cell? ⟨wr.heap.size, 2, none⟩ = some (.int .i64 q.n))) (by kernel_rfl) (by rw [← eWd]; exact keepS r1) (fun hHeld => ?_)
            rw [← eWd] at hHeld ⊢
            clear eWd
            have lgw := row_lt r1
            refine wpAnyH_take (i := 0) (v := ?_) (by simp only [List.getElem?_toArray, List.getElem?_cons_succ, List.getElem?_cons_zero]; rfl) (by kernel_rfl) (by kernel_rfl) (by kernel_rfl) (by exact fun _ _ _ h => h) (Or.inl ⟨by kernel_rfl, ?_⟩) (by assumption) ?_
            rotate_left
            · intro w hSw
              (try dsimp only at hSw)
              go_simp
              try with_reducible rfl
            simp only [Act.put, List.setIfInBounds_toArray, List.set_cons_zero, List.set_cons_succ]
            refine wpAnyH_take (i := 2) (v := ?_) (by simp only [List.getElem?_toArray, List.getElem?_cons_succ, List.getElem?_cons_zero]; rfl) (by kernel_rfl) (by kernel_rfl) (by kernel_rfl) (by exact fun _ _ _ h => h) (Or.inl ⟨by kernel_rfl, ?_⟩) (by assumption) ?_
            rotate_left
            · intro w hSw
              (try dsimp only at hSw)
              go_simp
              try with_reducible rfl
            simp only [Act.put, List.setIfInBounds_toArray, List.set_cons_zero, List.set_cons_succ]
            refine wpAnyH_take (i := 3) (v := ?_) (by simp only [List.getElem?_toArray, List.getElem?_cons_succ, List.getElem?_cons_zero]; rfl) (by kernel_rfl) (by kernel_rfl) (by kernel_rfl) (by exact fun _ _ _ h => h) (Or.inl ⟨by kernel_rfl, ?_⟩) (by assumption) ?_
            rotate_left
            · intro w hSw
              (try dsimp only at hSw)
              go_simp
              try with_reducible rfl
            simp only [Act.put, List.setIfInBounds_toArray, List.set_cons_zero, List.set_cons_succ]
            refine wpAnyH_take (i := 4) (v := ?_) (by simp only [List.getElem?_toArray, List.getElem?_cons_succ, List.getElem?_cons_zero]; rfl) (by kernel_rfl) (by kernel_rfl) (by kernel_rfl) (by exact fun _ _ _ h => h) (Or.inl ⟨by kernel_rfl, ?_⟩) (by assumption) ?_
            rotate_left
            · intro w hSw
              (try dsimp only at hSw)
              go_simp
              try with_reducible rfl
            simp only [Act.put, List.setIfInBounds_toArray, List.set_cons_zero, List.set_cons_succ]
            refine wpAnyH_take (i := 5) (v := ?_) (by simp only [List.getElem?_toArray, List.getElem?_cons_succ, List.getElem?_cons_zero]; rfl) (by kernel_rfl) (by kernel_rfl) (by kernel_rfl) (by exact fun _ _ _ h => h) (Or.inl ⟨by kernel_rfl, ?_⟩) (by assumption) ?_
            rotate_left
            · intro w hSw
              (try dsimp only at hSw)
              go_simp
              try with_reducible rfl
            simp only [Act.put, List.setIfInBounds_toArray, List.set_cons_zero, List.set_cons_succ]
            refine wpAnyH_take (i := 6) (v := ?_) (by simp only [List.getElem?_toArray, List.getElem?_cons_succ, List.getElem?_cons_zero]; rfl) (by kernel_rfl) (by kernel_rfl) (by kernel_rfl) (by exact fun _ _ _ h => h) (Or.inl ⟨by kernel_rfl, ?_⟩) (by assumption) ?_
            rotate_left
            · intro w hSw
              (try dsimp only at hSw)
              go_simp
              try with_reducible rfl
            simp only [Act.put, List.setIfInBounds_toArray, List.set_cons_zero, List.set_cons_succ]
            refine wpAnyH_take (i := 7) (v := ?_) (by simp only [List.getElem?_toArray, List.getElem?_cons_succ, List.getElem?_cons_zero]; rfl) (by kernel_rfl) (by kernel_rfl) (by kernel_rfl) (by exact fun _ _ _ h => h) (Or.inl ⟨by kernel_rfl, ?_⟩) (by assumption) ?_
            rotate_left
            · intro w hSw
              (try dsimp only at hSw)
              go_simp
              try with_reducible rfl
            simp only [Act.put, List.setIfInBounds_toArray, List.set_cons_zero, List.set_cons_succ]
            refine wpAnyH_take (i := 8) (v := ?_) (by simp only [List.getElem?_toArray, List.getElem?_cons_succ, List.getElem?_cons_zero]; rfl) (by kernel_rfl) (by kernel_rfl) (by kernel_rfl) (by exact fun _ _ _ h => h) (Or.inl ⟨by kernel_rfl, ?_⟩) (by assumption) ?_
            rotate_left
            · intro w hSw
              (try dsimp only at hSw)
              go_simp
              try with_reducible rfl
            simp only [Act.put, List.setIfInBounds_toArray, List.set_cons_zero, List.set_cons_succ]
            refine wpAnyH_take (i := 9) (v := ?_) (by simp only [List.getElem?_toArray, List.getElem?_cons_succ, List.getElem?_cons_zero]; rfl) (by kernel_rfl) (by kernel_rfl) (by kernel_rfl) (by exact fun _ _ _ h => h) (Or.inl ⟨by kernel_rfl, ?_⟩) (by assumption) ?_
            rotate_left
            · intro w hSw
              (try dsimp only at hSw)
              go_simp
              try with_reducible rfl
            simp only [Act.put, List.setIfInBounds_toArray, List.set_cons_zero, List.set_cons_succ]
            refine wpAnyH_ready (rs := [1]) (by kernel_rfl) (by simp) ?_
            refine AllReadyH.cons (by simp only [List.getElem?_toArray, List.getElem?_cons_succ, List.getElem?_cons_zero]; rfl) (fun K hK => ?_) AllReadyH.nil
            rw [if_pos (by kernel_rfl)]
            go_simp
            refine (HK.out.len _ w.heap.size S6 p _ HD7.out).mono ?_
            rw [← EY.out]
            rintro e w8 ⟨rfl, bb⟩
            have r1 := bb.row (row_lt r1) r1
            have B8 := BD.call bb
            have HD8 := Lib.hid (HD7.out.to bb)
            clear bb BD HD7
            go_wp2_with fail
            refine hK.out _ _ ?_ (fun hHeld => ?_)
            · exact keepS r1
            clear hK K
            try simp only [Act.put, List.setIfInBounds_toArray, List.set_cons_zero, List.set_cons_succ]
            refine wpAnyH_take (i := 10) (v := ?_) (by simp only [List.getElem?_toArray, List.getElem?_cons_succ, List.getElem?_cons_zero]; rfl) (by kernel_rfl) (by kernel_rfl) (by kernel_rfl) (by exact fun _ _ _ h => h) (Or.inl ⟨by kernel_rfl, ?_⟩) (by assumption) ?_
            rotate_left
            · intro w hSw
              (try dsimp only at hSw)
              go_simp
              try with_reducible rfl
            simp only [Act.put, List.setIfInBounds_toArray, List.set_cons_zero, List.set_cons_succ]
            refine wpAnyH_take (i := 11) (v := ?_) (by simp only [List.getElem?_toArray, List.getElem?_cons_succ, List.getElem?_cons_zero]; rfl) (by kernel_rfl) (by kernel_rfl) (by kernel_rfl) (by exact fun _ _ _ h => h) (Or.inl ⟨by kernel_rfl, ?_⟩) (by assumption) ?_
            rotate_left
            · intro w hSw
              (try dsimp only at hSw)
              go_simp
              try with_reducible rfl
            simp only [Act.put, List.setIfInBounds_toArray, List.set_cons_zero, List.set_cons_succ]
            refine wpAnyH_take (i := 12) (v := ?_) (by simp only [List.getElem?_toArray, List.getElem?_cons_succ, List.getElem?_cons_zero]; rfl) (by kernel_rfl) (by kernel_rfl) (by kernel_rfl) (by exact fun _ _ _ h => h) (Or.inl ⟨by kernel_rfl, ?_⟩) (by assumption) ?_
            rotate_left
            · intro w hSw
              (try dsimp only at hSw)
              go_simp
              try with_reducible rfl
            simp only [Act.put, List.setIfInBounds_toArray, List.set_cons_zero, List.set_cons_succ]
            refine wpAnyH_take (i := 13) (v := ?_) (by simp only [List.getElem?_toArray, List.getElem?_cons_succ, List.getElem?_cons_zero]; rfl) (by kernel_rfl) (by kernel_rfl) (by kernel_rfl) (by exact fun _ _ _ h => h) (Or.inl ⟨by kernel_rfl, ?_⟩) (by assumption) ?_
            rotate_left
            · intro w hSw
              (try dsimp only at hSw)
              go_simp
              try with_reducible rfl
            simp only [Act.put, List.setIfInBounds_toArray, List.set_cons_zero, List.set_cons_succ]
            refine wpAnyH_take (i := 14) (v := ?_) (by simp only [List.getElem?_toArray, List.getElem?_cons_succ, List.getElem?_cons_zero]; rfl) (by kernel_rfl) (by kernel_rfl) (by kernel_rfl) (by exact fun _ _ _ h => h) (Or.inl ⟨by kernel_rfl, ?_⟩) (by assumption) ?_
            rotate_left
            · intro w hSw
              (try dsimp only at hSw)
              go_simp
              try with_reducible rfl
            simp only [Act.put, List.setIfInBounds_toArray, List.set_cons_zero, List.set_cons_succ]
            refine wpAnyH_take (i := 15) (v := ?_) (by simp only [List.getElem?_toArray, List.getElem?_cons_succ, List.getElem?_cons_zero]; rfl) (by kernel_rfl) (by kernel_rfl) (by kernel_rfl) (by exact fun _ _ _ h => h) (Or.inl ⟨by kernel_rfl, ?_⟩) (by assumption) ?_
            rotate_left
            · intro w hSw
              (try dsimp only at hSw)
              go_simp
              try with_reducible rfl
            simp only [Act.put, List.setIfInBounds_toArray, List.set_cons_zero, List.set_cons_succ]
            refine wpAnyH_take (i := 16) (v := ?_) (by simp only [List.getElem?_toArray, List.getElem?_cons_succ, List.getElem?_cons_zero]; rfl) (by kernel_rfl) (by kernel_rfl) (by kernel_rfl) (by exact fun _ _ _ h => h) (Or.inl ⟨by kernel_rfl, ?_⟩) (by assumption) ?_
            rotate_left
            · intro w hSw
              (try dsimp only at hSw)
              go_simp
              try with_reducible rfl
            simp only [Act.put, List.setIfInBounds_toArray, List.set_cons_zero, List.set_cons_succ]
            refine wpAnyH_take (i := 17) (v := ?_) (by simp only [List.getElem?_toArray, List.getElem?_cons_succ, List.getElem?_cons_zero]; rfl) (by kernel_rfl) (by kernel_rfl) (by kernel_rfl) (by exact fun _ _ _ h => h) (Or.inl ⟨by kernel_rfl, ?_⟩) (by assumption) ?_
            rotate_left
            · intro w hSw
              (try dsimp only at hSw)
              go_simp
              try with_reducible rfl
            simp only [Act.put, List.setIfInBounds_toArray, List.set_cons_zero, List.set_cons_succ]
            refine wpAnyH_take (i := 18) (v := ?_) (by simp only [List.getElem?_toArray, List.getElem?_cons_succ, List.getElem?_cons_zero]; rfl) (by kernel_rfl) (by kernel_rfl) (by kernel_rfl) (by exact fun _ _ _ h => h) (Or.inl ⟨by kernel_rfl, ?_⟩) (by assumption) ?_
            rotate_left
            · intro w hSw
              (try dsimp only at hSw)
              go_simp
              try with_reducible rfl
            simp only [Act.put, List.setIfInBounds_toArray, List.set_cons_zero, List.set_cons_succ]
            refine wpAnyH_take (i := 19) (v := ?_) (by simp only [List.getElem?_toArray, List.getElem?_cons_succ, List.getElem?_cons_zero]; rfl) (by kernel_rfl) (by kernel_rfl) (by kernel_rfl) (by exact fun _ _ _ h => h) (Or.inl ⟨by kernel_rfl, ?_⟩) (by assumption) ?_
            rotate_left
            · intro w hSw
              (try dsimp only at hSw)
              go_simp
              try with_reducible rfl
            simp only [Act.put, List.setIfInBounds_toArray, List.set_cons_zero, List.set_cons_succ]
            refine wpAnyH_take (i := 20) (v := ?_) (by simp only [List.getElem?_toArray, List.getElem?_cons_succ, List.getElem?_cons_zero]; rfl) (by kernel_rfl) (by kernel_rfl) (by kernel_rfl) (by exact fun _ _ _ h => h) (Or.inl ⟨by kernel_rfl, ?_⟩) (by assumption) ?_
            rotate_left
            · intro w hSw
              (try dsimp only at hSw)
              go_simp
              try with_reducible rfl
            simp only [Act.put, List.setIfInBounds_toArray, List.set_cons_zero, List.set_cons_succ]
            refine wpAnyH_take (i := 21) (v := ?_) (by simp only [List.getElem?_toArray, List.getElem?_cons_succ, List.getElem?_cons_zero]; rfl) (by kernel_rfl) (by kernel_rfl) (by kernel_rfl) (by exact fun _ _ _ h => h) (Or.inl ⟨by kernel_rfl, ?_⟩) (by assumption) ?_
            rotate_left
            · intro w hSw
              (try dsimp only at hSw)
              go_simp
              try with_reducible rfl
            simp only [Act.put, List.setIfInBounds_toArray, List.set_cons_zero, List.set_cons_succ]
            refine wpAnyH_take (i := 22) (v := ?_) (by simp only [List.getElem?_toArray, List.getElem?_cons_succ, List.getElem?_cons_zero]; rfl) (by kernel_rfl) (by kernel_rfl) (by kernel_rfl) (by exact fun _ _ _ h => h) (Or.inl ⟨by kernel_rfl, ?_⟩) (by assumption) ?_
            rotate_left
            · intro w hSw
              (try dsimp only at hSw)
              go_simp
              try with_reducible rfl
            simp only [Act.put, List.setIfInBounds_toArray, List.set_cons_zero, List.set_cons_succ]
            refine wpAnyH_take (i := 23) (v := ?_) (by simp only [List.getElem?_toArray, List.getElem?_cons_succ, List.getElem?_cons_zero]; rfl) (by kernel_rfl) (by kernel_rfl) (by kernel_rfl) (by exact fun _ _ _ h => h) (Or.inl ⟨by kernel_rfl, ?_⟩) (by assumption) ?_
            rotate_left
            · intro w hSw
              (try dsimp only at hSw)
              go_simp
              try with_reducible rfl
            simp only [Act.put, List.setIfInBounds_toArray, List.set_cons_zero, List.set_cons_succ]
            refine wpAnyH_take (i := 24) (v := ?_) (by simp only [List.getElem?_toArray, List.getElem?_cons_succ, List.getElem?_cons_zero]; rfl) (by kernel_rfl) (by kernel_rfl) (by kernel_rfl) (by exact fun _ _ _ h => h) (Or.inl ⟨by kernel_rfl, ?_⟩) (by assumption) ?_
            rotate_left
            · intro w hSw
              (try dsimp only at hSw)
              go_simp
              try with_reducible rfl
            simp only [Act.put, List.setIfInBounds_toArray, List.set_cons_zero, List.set_cons_succ]
            refine wpAnyH_done (by kernel_rfl) ?_ _
            go_wp2_with fail
            go_roundw
            case rel => exact ⟨k + 1, left - mq, _, S6, by omega, by go_num, by go_num, HL2.out, HD8.out, B8⟩
            case measure => simp [intOf]; omega
          · have hof : d.off = false := (HLE.out.on h0).1
            go_wp2_with fail
            refine (HK.out.len d w.heap.size S' p _ HD0.out).mono ?_
            rintro e w4 ⟨rfl, b4⟩
            have r1 := b4.row (row_lt r1) r1
            have B4 := BW.call b4
            have HD4 := Lib.hid (HD0.out.to b4)
            have HSC4 := Lib.hid (HSC.out.to b4)
            clear b4 HD0 HSC BW
            go_wp2_with fail
            refine (HK.out.off d w.heap.size S' p _ HD4.out).mono ?_
            rw [hof]
            rintro e w5 ⟨rfl, b5⟩
            have r1 := b5.row (row_lt r1) r1
            have B5 := B4.call b5
            have HD5 := Lib.hid (HD4.out.to b5)
            have HSC5 := Lib.hid (HSC4.out.to b5)
            clear b5 HD4 HSC4 B4 hof
            have hob : wr.heap.size < w5.heap.size := row_lt r1
            obtain ⟨a0, a1, a2⟩ := keepS r1
            have hmq : q.b.length = mq := HMQ.out
            obtain ⟨hy, hz, hL2⟩ := left_append (xs := q.b) HLE.out (by omega) (by omega)
            rw [if_pos h0, hmq] at hL2
            have HL2 := Lib.hid hL2
            rw [hmq] at hy hz
            clear hL2
            have hbl : d.b.length ≤ 12000 := by have := HLE.out.few; omega
            obtain ⟨M, hM⟩ : ∃ M, M = (min (mq : Int) (max left 0)).toNat := ⟨_, rfl⟩
            rw [← hM] at hy
            obtain ⟨y, ey⟩ : ∃ y, y = (append d q.b).1.b.length := ⟨_, rfl⟩
            have EY := Lib.hid ey
            rw [← ey] at hy
            clear ey
            obtain ⟨x, hx⟩ : ∃ x, x = (append d q.b).2 := ⟨_, rfl⟩
            have HX := Lib.hid hx
            rw [← hx] at hz
            clear hx
            have h9 : ¬ x = 0 := fun h => by have := hz.1 h; omega
            have hx0 : (x == 0) = false := by simpa using h9
            have hdl : decide ((mq : Int) ≤ left) = false := decide_eq_false (by omega)
            clear hz
            go_wp2_with fail
            refine (HK.out.append d w.heap.size S' p C mq cq q.b _ HD5.out HSC5.out HAW.out hq0.out.b (by omega)).mono ?_
            rw [← HX.out]
            rintro e w6 ⟨rfl, S6, D6, st, hS⟩
            have B6 := B5.trans (st.below B5.size HHD.out.lo)
            have r1 := st.row (fun hs => by have := HHD.out.hi _ hs; omega) r1
            have HD6 := Lib.hid D6
            clear st hS D6 B5 HD5 HSC5 HX
            obtain ⟨a0, a1, a2⟩ := keepS r1
            go_upto_region 23 with fail
            obtain ⟨Wd, eWd⟩ : ∃ X, X = w6.drew := ⟨_, rfl⟩
            have r1 : Wd.heap[wr.heap.size]? = some (.cells #[.int .u8 (q.what : Nat), .slice C mq cq, .int .i64 q.n] 35 (0, 0)) := by rw [eWd]; exact r1
            have HD7 := Lib.hid (show Dk Wd w.heap.size S6 p _ by rw [eWd]; exact HD6.out.to ((Below.refl _ _).drew))
            have BD : Below w.heap.size w Wd := by rw [eWd]; exact B6.drew
            have hM2 : (M : Int) = min (mq : Int) (max left 0) := by omega
            have hM3 : M ≤ 200 := by omega
            have hmx : max left 0 = left := by omega
            have hmnn : min (mq : Int) left = left := by omega
            have hwr : IntKind.i64.wrap ((d.b.length : Int) + left) = (y : Int) := by rw [← hmnn, ← hmx, ← hM2, hy]; exact w64 (show d.b.length + M ≤ 9223372036854775807 by omega)
            clear HD6 B6 hM hy
            refine wp_region_held_drew (S := (fun w' => w'.cell? ⟨wr.heap.size, 0, none⟩ = some (.int .u8 (q.what : Nat)) ∧ w'.cell? ⟨wr.heap.size, 1, none⟩ = some (.slice C mq cq) ∧ w'.cell? ⟨wr.heap.size, 2, none⟩ = some (.int .i64 q.n))) (by kernel_rfl) (by rw [← eWd]; exact keepS r1) (fun hHeld => ?_)
            rw [← eWd] at hHeld ⊢
            clear eWd
            have lgw := row_lt r1
            refine wpAnyH_take (i := 0) (v := ?_) (by simp only [List.getElem?_toArray, List.getElem?_cons_succ, List.getElem?_cons_zero]; rfl) (by kernel_rfl) (by kernel_rfl) (by kernel_rfl) (by exact fun _ _ _ h => h) (Or.inl ⟨by kernel_rfl, ?_⟩) (by assumption) ?_
            rotate_left
            · intro w hSw
              (try dsimp only at hSw)
              go_simp
              try with_reducible rfl
            simp only [Act.put, List.setIfInBounds_toArray, List.set_cons_zero, List.set_cons_succ]
            refine wpAnyH_take (i := 2) (v := ?_) (by simp only [List.getElem?_toArray, List.getElem?_cons_succ, List.getElem?_cons_zero]; rfl) (by kernel_rfl) (by kernel_rfl) (by kernel_rfl) (by exact fun _ _ _ h => h) (Or.inl ⟨by kernel_rfl, ?_⟩) (by assumption) ?_
            rotate_left
            · intro w hSw
              (try dsimp only at hSw)
              go_simp
              try with_reducible rfl
            simp only [Act.put, List.setIfInBounds_toArray, List.set_cons_zero, List.set_cons_succ]
            refine wpAnyH_take (i := 3) (v := ?_) (by simp only [List.getElem?_toArray, List.getElem?_cons_succ, List.getElem?_cons_zero]; rfl) (by kernel_rfl) (by kernel_rfl) (by kernel_rfl) (by exact fun _ _ _ h => h) (Or.inl ⟨by kernel_rfl, ?_⟩) (by assumption) ?_
            rotate_left
            · intro w hSw
              (try dsimp only at hSw)
              go_simp
              try with_reducible rfl
            simp only [Act.put, List.setIfInBounds_toArray, List.set_cons_zero, List.set_cons_succ]
            refine wpAnyH_take (i := 4) (v := ?_) (by simp only [List.getElem?_toArray, List.getElem?_cons_succ, List.getElem?_cons_zero]; rfl) (by kernel_rfl) (by kernel_rfl) (by kernel_rfl) (by exact fun _ _ _ h => h) (Or.inl ⟨by kernel_rfl, ?_⟩) (by assumption) ?_
            rotate_left
            · intro w hSw
              (try dsimp only at hSw)
              go_simp
              try with_reducible rfl
            simp only [Act.put, List.setIfInBounds_toArray, List.set_cons_zero, List.set_cons_succ]
            refine wpAnyH_take (i := 5) (v := ?_) (by simp only [List.getElem?_toArray, List.getElem?_cons_succ, List.getElem?_cons_zero]; rfl) (by kernel_rfl) (by kernel_rfl) (by kernel_rfl) (by exact fun _ _ _ h => h) (Or.inl ⟨by kernel_rfl, ?_⟩) (by assumption) ?_
            rotate_left
            · intro w hSw
              (try dsimp only at hSw)
              go_simp
              try with_reducible rfl
            simp only [Act.put, List.setIfInBounds_toArray, List.set_cons_zero, List.set_cons_succ]
            refine wpAnyH_take (i := 6) (v := ?_) (by simp only [List.getElem?_toArray, List.getElem?_cons_succ, List.getElem?_cons_zero]; rfl) (by kernel_rfl) (by kernel_rfl) (by kernel_rfl) (by exact fun _ _ _ h => h) (Or.inl ⟨by kernel_rfl, ?_⟩) (by assumption) ?_
            rotate_left
            · intro w hSw
              (try dsimp only at hSw)
              go_simp
              try with_reducible rfl
            simp only [Act.put, List.setIfInBounds_toArray, List.set_cons_zero, List.set_cons_succ]
            refine wpAnyH_take (i := 7) (v := ?_) (by simp only [List.getElem?_toArray, List.getElem?_cons_succ, List.getElem?_cons_zero]; rfl) (by kernel_rfl) (by kernel_rfl) (by kernel_rfl) (by exact fun _ _ _ h => h) (Or.inl ⟨by kernel_rfl, ?_⟩) (by assumption) ?_
            rotate_left
            · intro w hSw
              (try dsimp only at hSw)
              go_simp
              try with_reducible rfl
            simp only [Act.put, List.setIfInBounds_toArray, List.set_cons_zero, List.set_cons_succ]
            refine wpAnyH_take (i := 8) (v := ?_) (by simp only [List.getElem?_toArray, List.getElem?_cons_succ, List.getElem?_cons_zero]; rfl) (by kernel_rfl) (by kernel_rfl) (by kernel_rfl) (by exact fun _ _ _ h => h) (Or.inl ⟨by kernel_rfl, ?_⟩) (by assumption) ?_
            rotate_left
            · intro w hSw
              (try dsimp only at hSw)
              go_simp
              try with_reducible rfl
            simp only [Act.put, List.setIfInBounds_toArray, List.set_cons_zero, List.set_cons_succ]
            refine wpAnyH_take (i := 9) (v := ?_) (by simp only [List.getElem?_toArray, List.getElem?_cons_succ, List.getElem?_cons_zero]; rfl) (by kernel_rfl) (by kernel_rfl) (by kernel_rfl) (by exact fun _ _ _ h => h) (Or.inl ⟨by kernel_rfl, ?_⟩) (by assumption) ?_
            rotate_left
            · intro w hSw
              (try dsimp only at hSw)
              go_simp
              try with_reducible rfl
            simp only [Act.put, List.setIfInBounds_toArray, List.set_cons_zero, List.set_cons_succ]
            refine wpAnyH_ready (rs := [1]) (by kernel_rfl) (by simp) ?_
            refine AllReadyH.cons (by simp only [List.getElem?_toArray, List.getElem?_cons_succ, List.getElem?_cons_zero]; rfl) (fun K hK => ?_) AllReadyH.nil
            rw [if_pos (by kernel_rfl)]
            go_simp
            refine (HK.out.len _ w.heap.size S6 p _ HD7.out).mono ?_
            rw [← EY.out]
            rintro e w8 ⟨rfl, bb⟩
            have r1 := bb.row (row_lt r1) r1
            have B8 := BD.call bb
            have HD8 := Lib.hid (HD7.out.to bb)
            clear bb BD HD7
            go_wp2_with fail
            refine hK.out _ _ ?_ (fun hHeld => ?_)
            · exact keepS r1
            clear hK K
            try simp only [Act.put, List.setIfInBounds_toArray, List.set_cons_zero, List.set_cons_succ]
            refine wpAnyH_take (i := 10) (v := ?_) (by simp only [List.getElem?_toArray, List.getElem?_cons_succ, List.getElem?_cons_zero]; rfl) (by kernel_rfl) (by kernel_rfl) (by kernel_rfl) (by exact fun _ _ _ h => h) (Or.inl ⟨by kernel_rfl, ?_⟩) (by assumption) ?_
            rotate_left
            · intro w hSw
              (try dsimp only at hSw)
              go_simp
              try with_reducible rfl
            simp only [Act.put, List.setIfInBounds_toArray, List.set_cons_zero, List.set_cons_succ]
            refine wpAnyH_take (i := 11) (v := ?_) (by simp only [List.getElem?_toArray, List.getElem?_cons_succ, List.getElem?_cons_zero]; rfl) (by kernel_rfl) (by kernel_rfl) (by kernel_rfl) (by exact fun _ _ _ h => h) (Or.inl ⟨by kernel_rfl, ?_⟩) (by assumption) ?_
            rotate_left
            · intro w hSw
              (try dsimp only at hSw)
              go_simp
              try with_reducible rfl
            simp only [Act.put, List.setIfInBounds_toArray, List.set_cons_zero, List.set_cons_succ]
            refine wpAnyH_take (i := 12) (v := ?_) (by simp only [List.getElem?_toArray, List.getElem?_cons_succ, List.getElem?_cons_zero]; rfl) (by kernel_rfl) (by kernel_rfl) (by kernel_rfl) (by exact fun _ _ _ h => h) (Or.inl ⟨by kernel_rfl, ?_⟩) (by assumption) ?_
            rotate_left
            · intro w hSw
              (try dsimp only at hSw)
              go_simp
              try with_reducible rfl
            simp only [Act.put, List.setIfInBounds_toArray, List.set_cons_zero, List.set_cons_succ]
            refine wpAnyH_take (i := 13) (v := ?_) (by simp only [List.getElem?_toArray, List.getElem?_cons_succ, List.getElem?_cons_zero]; rfl) (by kernel_rfl) (by kernel_rfl) (by kernel_rfl) (by exact fun _ _ _ h => h) (Or.inl ⟨by kernel_rfl, ?_⟩) (by assumption) ?_
            rotate_left
            · intro w hSw
              (try dsimp only at hSw)
              go_simp
              try with_reducible rfl
            simp only [Act.put, List.setIfInBounds_toArray, List.set_cons_zero, List.set_cons_succ]
            refine wpAnyH_take (i := 14) (v := ?_) (by simp only [List.getElem?_toArray, List.getElem?_cons_succ, List.getElem?_cons_zero]; rfl) (by kernel_rfl) (by kernel_rfl) (by kernel_rfl) (by exact fun _ _ _ h => h) (Or.inl ⟨by kernel_rfl, ?_⟩) (by assumption) ?_
            rotate_left
            · intro w hSw
              (try dsimp only at hSw)
              go_simp
              try with_reducible rfl
            simp only [Act.put, List.setIfInBounds_toArray, List.set_cons_zero, List.set_cons_succ]
            refine wpAnyH_take (i := 15) (v := ?_) (by simp only [List.getElem?_toArray, List.getElem?_cons_succ, List.getElem?_cons_zero]; rfl) (by kernel_rfl) (by kernel_rfl) (by kernel_rfl) (by exact fun _ _ _ h => h) (Or.inl ⟨by kernel_rfl, ?_⟩) (by assumption) ?_
            rotate_left
            · intro w hSw
              (try dsimp only at hSw)
              go_simp
              try with_reducible rfl
            simp only [Act.put, List.setIfInBounds_toArray, List.set_cons_zero, List.set_cons_succ]
            refine wpAnyH_take (i := 16) (v := ?_) (by simp only [List.getElem?_toArray, List.getElem?_cons_succ, List.getElem?_cons_zero]; rfl) (by kernel_rfl) (by kernel_rfl) (by kernel_rfl) (by exact fun _ _ _ h => h) (Or.inl ⟨by kernel_rfl, ?_⟩) (by assumption) ?_
            rotate_left
            · intro w hSw
              (try dsimp only at hSw)
              go_simp
              try with_reducible rfl
            simp only [Act.put, List.setIfInBounds_toArray, List.set_cons_zero, List.set_cons_succ]
            refine wpAnyH_take (i := 17) (v := ?_) (by simp only [List.getElem?_toArray, List.getElem?_cons_succ, List.getElem?_cons_zero]; rfl) (by kernel_rfl) (by kernel_rfl) (by kernel_rfl) (by exact fun _ _ _ h => h) (Or.inl ⟨by kernel_rfl, ?_⟩) (by assumption) ?_
            rotate_left
            · intro w hSw
              (try dsimp only at hSw)
              go_simp
              try with_reducible rfl
            simp only [Act.put, List.setIfInBounds_toArray, List.set_cons_zero, List.set_cons_succ]
            refine wpAnyH_take (i := 18) (v := ?_) (by simp only [List.getElem?_toArray, List.getElem?_cons_succ, List.getElem?_cons_zero]; rfl) (by kernel_rfl) (by kernel_rfl) (by kernel_rfl) (by exact fun _ _ _ h => h) (Or.inl ⟨by kernel_rfl, ?_⟩) (by assumption) ?_
            rotate_left
            · intro w hSw
              (try dsimp only at hSw)
              go_simp
              try with_reducible rfl
            simp only [Act.put, List.setIfInBounds_toArray, List.set_cons_zero, List.set_cons_succ]
            refine wpAnyH_take (i := 19) (v := ?_) (by simp only [List.getElem?_toArray, List.getElem?_cons_succ, List.getElem?_cons_zero]; rfl) (by kernel_rfl) (by kernel_rfl) (by kernel_rfl) (by exact fun _ _ _ h => h) (Or.inl ⟨by kernel_rfl, ?_⟩) (by assumption) ?_
            rotate_left
            · intro w hSw
              (try dsimp only at hSw)
              go_simp
              try with_reducible rfl
            simp only [Act.put, List.setIfInBounds_toArray, List.set_cons_zero, List.set_cons_succ]
            refine wpAnyH_take (i := 20) (v := ?_) (by simp only [List.getElem?_toArray, List.getElem?_cons_succ, List.getElem?_cons_zero]; rfl) (by kernel_rfl) (by kernel_rfl) (by kernel_rfl) (by exact fun _ _ _ h => h) (Or.inl ⟨by kernel_rfl, ?_⟩) (by assumption) ?_
            rotate_left
            · intro w hSw
              (try dsimp only at hSw)
              go_simp
              try with_reducible rfl
            simp only [Act.put, List.setIfInBounds_toArray, List.set_cons_zero, List.set_cons_succ]
            refine wpAnyH_take (i := 21) (v := ?_) (by simp only [List.getElem?_toArray, List.getElem?_cons_succ, List.getElem?_cons_zero]; rfl) (by kernel_rfl) (by kernel_rfl) (by kernel_rfl) (by exact fun _ _ _ h => h) (Or.inl ⟨by kernel_rfl, ?_⟩) (by assumption) ?_
            rotate_left
            · intro w hSw
              (try dsimp only at hSw)
              go_simp
              try with_reducible rfl
            simp only [Act.put, List.setIfInBounds_toArray, List.set_cons_zero, List.set_cons_succ]
            refine wpAnyH_take (i := 22) (v := ?_) (by simp only [List.getElem?_toArray, List.getElem?_cons_succ, List.getElem?_cons_zero]; rfl) (by kernel_rfl) (by kernel_rfl) (by kernel_rfl) (by exact fun _ _ _ h => h) (Or.inl ⟨by kernel_rfl, ?_⟩) (by assumption) ?_
            rotate_left
            · intro w hSw
              (try dsimp only at hSw)
              go_simp
              try with_reducible rfl
            simp only [Act.put, List.setIfInBounds_toArray, List.set_cons_zero, List.set_cons_succ]
            refine wpAnyH_take (i := 23) (v := ?_) (by simp only [List.getElem?_toArray, List.getElem?_cons_succ, List.getElem?_cons_zero]; rfl) (by kernel_rfl) (by kernel_rfl) (by kernel_rfl) (by exact fun _ _ _ h => h) (Or.inl ⟨by kernel_rfl, ?_⟩) (by assumption) ?_
            rotate_left
            · intro w hSw
              (try dsimp only at hSw)
              go_simp
              try with_reducible rfl
            simp only [Act.put, List.setIfInBounds_toArray, List.set_cons_zero, List.set_cons_succ]
            refine wpAnyH_take (i := 24) (v := ?_) (by simp only [List.getElem?_toArray, List.getElem?_cons_succ, List.getElem?_cons_zero]; rfl) (by kernel_rfl) (by kernel_rfl) (by kernel_rfl) (by exact fun _ _ _ h => h) (Or.inl ⟨by kernel_rfl, ?_⟩) (by assumption) ?_
            rotate_left
            · intro w hSw
              (try dsimp only at hSw)
              go_simp
              try with_reducible rfl
            simp only [Act.put, List.setIfInBounds_toArray, List.set_cons_zero, List.set_cons_succ]
            refine wpAnyH_done (by kernel_rfl) ?_ _
            go_wp2_with fail
            go_roundw
            case rel => exact ⟨k + 1, left - mq, _, S6, by omega, by go_num, by go_num, HL2.out, HD8.out, B8⟩
            case measure => simp [intOf]; omega
        · rcases Nat.eq_zero_or_pos mq with hq0z | hqp
          · subst hq0z
            have hof : d.off = true := HLE.out.off (by omega)
            go_wp2_with fail
            refine (HK.out.len d w.heap.size S' p _ HD0.out).mono ?_
            rintro e w4 ⟨rfl, b4⟩
            have r1 := b4.row (row_lt r1) r1
            have B4 := BW.call b4
            have HD4 := Lib.hid (HD0.out.to b4)
            have HSC4 := Lib.hid (HSC.out.to b4)
            clear b4 HD0 HSC BW
            go_wp2_with fail
            refine (HK.out.off d w.heap.size S' p _ HD4.out).mono ?_
            rw [hof]
            rintro e w5 ⟨rfl, b5⟩
            have r1 := b5.row (row_lt r1) r1
            have B5 := B4.call b5
            have HD5 := Lib.hid (HD4.out.to b5)
            have HSC5 := Lib.hid (HSC4.out.to b5)
            clear b5 HD4 HSC4 B4 hof
            have hob : wr.heap.size < w5.heap.size := row_lt r1
            obtain ⟨a0, a1, a2⟩ := keepS r1
            have hmq : q.b.length = 0 := HMQ.out
            obtain ⟨hy, hz, hL2⟩ := left_append (xs := q.b) HLE.out (by omega) (by omega)
            rw [if_neg (by omega)] at hL2
            have HL2 := Lib.hid hL2
            rw [hmq] at hy hz
            clear hL2
            have hbl : d.b.length ≤ 12000 := by have := HLE.out.few; omega
            obtain ⟨M, hM⟩ : ∃ M, M = (min ((0 : Nat) : Int) (max left 0)).toNat := ⟨_, rfl⟩
            rw [← hM] at hy
            obtain ⟨y, ey⟩ : ∃ y, y = (append d q.b).1.b.length := ⟨_, rfl⟩
            have EY := Lib.hid ey
            rw [← ey] at hy
            clear ey
            obtain ⟨x, hx⟩ : ∃ x, x = (append d q.b).2 := ⟨_, rfl⟩
            have HX := Lib.hid hx
            rw [← hx] at hz
            clear hx
            have h9 : ¬ x = 0 := fun h => by have := hz.1 h; omega
            have hx0 : (x == 0) = false := by simpa using h9
            clear hz
            go_wp2_with fail
            refine (HK.out.append d w.heap.size S' p C 0 cq q.b _ HD5.out HSC5.out HAW.out hq0.out.b (by omega)).mono ?_
            rw [← HX.out]
            rintro e w6 ⟨rfl, S6, D6, st, hS⟩
            have B6 := B5.trans (st.below B5.size HHD.out.lo)
            have r1 := st.row (fun hs => by have := HHD.out.hi _ hs; omega) r1
            have HD6 := Lib.hid D6
            clear st hS D6 B5 HD5 HSC5 HX
            obtain ⟨a0, a1, a2⟩ := keepS r1
            go_upto_region 23 with fail
            obtain ⟨Wd, eWd⟩ : ∃ X, X = w6.drew := ⟨_, rfl⟩
            have r1 : Wd.heap[wr.heap.size]? = some (.cells #[.int .u8 (q.what : Nat), .slice C 0 cq, .int .i64 q.n] 35 (0, 0)) := by rw [eWd]; exact r1
            have HD7 := Lib.hid (show Dk Wd w.heap.size S6 p _ by rw [eWd]; exact HD6.out.to ((Below.refl _ _).drew))
            have BD : Below w.heap.size w Wd := by rw [eWd]; exact B6.drew
            have hM2 : (M : Int) = min ((0 : Nat) : Int) (max left 0) := by omega
            have hM3 : M ≤ 200 := by omega
            have hmx : max left 0 = 0 := by omega
            have hmnn : min ((0 : Nat) : Int) 0 = 0 := by omega
            have hM0 : M = 0 := by omega
            have hdl : decide (0 ≤ left) = false := decide_eq_false (by omega)
            have hwr : IntKind.i64.wrap (d.b.length : Int) = (y : Int) := by rw [hy, hM0]; exact w64 (show d.b.length ≤ 9223372036854775807 by omega)
            clear HD6 B6 hM hy
            refine wp_region_held_drew (S := (fun w' => w'.cell? ⟨wr.heap.size, 0, none⟩ = some (.int .u8 (q.what : Nat)) ∧ w'.cell? ⟨wr.heap.size, 1, none⟩ = some (.slice C 0 cq) ∧ w'.cell? ⟨wr.heap.size, 2, none⟩ = some (.int .i64 q.n))) (by kernel_rfl) (by rw [← eWd]; exact keepS r1) (fun hHeld => ?_)
            rw [← eWd] at hHeld ⊢
            clear eWd
            have lgw := row_lt r1
            refine wpAnyH_take (i := 0) (v := ?_) (by simp only [List.getElem?_toArray, List.getElem?_cons_succ, List.getElem?_cons_zero]; rfl) (by kernel_rfl) (by kernel_rfl) (by kernel_rfl) (by exact fun _ _ _ h => h) (Or.inl ⟨by kernel_rfl, ?_⟩) (by assumption) ?_
            rotate_left
            · intro w hSw
              (try dsimp only at hSw)
              go_simp
              try with_reducible rfl
            simp only [Act.put, List.setIfInBounds_toArray, List.set_cons_zero, List.set_cons_succ]
            refine wpAnyH_take (i := 2) (v := ?_) (by simp only [List.getElem?_toArray, List.getElem?_cons_succ, List.getElem?_cons_zero]; rfl) (by kernel_rfl) (by kernel_rfl) (by kernel_rfl) (by exact fun _ _ _ h => h) (Or.inl ⟨by kernel_rfl, ?_⟩) (by assumption) ?_
            rotate_left
            · intro w hSw
              (try dsimp only at hSw)
              go_simp
              try with_reducible rfl
            simp only [Act.put, List.setIfInBounds_toArray, List.set_cons_zero, List.set_cons_succ]
            refine wpAnyH_take (i := 3) (v := ?_) (by simp only [List.getElem?_toArray, List.getElem?_cons_succ, List.getElem?_cons_zero]; rfl) (by kernel_rfl) (by kernel_rfl) (by kernel_rfl) (by exact fun _ _ _ h => h) (Or.inl ⟨by kernel_rfl, ?_⟩) (by assumption) ?_
            rotate_left
            · intro w hSw
              (try dsimp only at hSw)
              go_simp
              try with_reducible rfl
            simp only [Act.put, List.setIfInBounds_toArray, List.set_cons_zero, List.set_cons_succ]
            refine wpAnyH_take (i := 4) (v := ?_) (by simp only [List.getElem?_toArray, List.getElem?_cons_succ, List.getElem?_cons_zero]; rfl) (by kernel_rfl) (by kernel_rfl) (by kernel_rfl) (by exact fun _ _ _ h => h) (Or.inl ⟨by kernel_rfl, ?_⟩) (by assumption) ?_
            rotate_left
            · intro w hSw
              (try dsimp only at hSw)
              go_simp
              try with_reducible rfl
            simp only [Act.put, List.setIfInBounds_toArray, List.set_cons_zero, List.set_cons_succ]
            refine wpAnyH_take (i := 5) (v := ?_) (by simp only [List.getElem?_toArray, List.getElem?_cons_succ, List.getElem?_cons_zero]; rfl) (by kernel_rfl) (by kernel_rfl) (by kernel_rfl) (by exact fun _ _ _ h => h) (Or.inl ⟨by kernel_rfl, ?_⟩) (by assumption) ?_
            rotate_left
            · intro w hSw
              (try dsimp only at hSw)
              go_simp
              try with_reducible rfl
            simp only [Act.put, List.setIfInBounds_toArray, List.set_cons_zero, List.set_cons_succ]
            refine wpAnyH_take (i := 6) (v := ?_) (by simp only [List.getElem?_toArray, List.getElem?_cons_succ, List.getElem?_cons_zero]; rfl) (by kernel_rfl) (by kernel_rfl) (by kernel_rfl) (by exact fun _ _ _ h => h) (Or.inl ⟨by kernel_rfl, ?_⟩) (by assumption) ?_
            rotate_left
            · intro w hSw
              (try dsimp only at hSw)
              go_simp
              try with_reducible rfl
            simp only [Act.put, List.setIfInBounds_toArray, List.set_cons_zero, List.set_cons_succ]
            refine wpAnyH_take (i := 7) (v := ?_) (by simp only [List.getElem?_toArray, List.getElem?_cons_succ, List.getElem?_cons_zero]; rfl) (by kernel_rfl) (by kernel_rfl) (by kernel_rfl) (by exact fun _ _ _ h => h) (Or.inl ⟨by kernel_rfl, ?_⟩) (by assumption) ?_
            rotate_left
            · intro w hSw
              (try dsimp only at hSw)
              go_simp
              try with_reducible rfl
            simp only [Act.put, List.setIfInBounds_toArray, List.set_cons_zero, List.set_cons_succ]
            refine wpAnyH_take (i := 8) (v := ?_) (by simp only [List.getElem?_toArray, List.getElem?_cons_succ, List.getElem?_cons_zero]; rfl) (by kernel_rfl) (by kernel_rfl) (by kernel_rfl) (by exact fun _ _ _ h => h) (Or.inl ⟨by kernel_rfl, ?_⟩) (by assumption) ?_
            rotate_left
            · intro w hSw
              (try dsimp only at hSw)
              go_simp
              try with_reducible rfl
            simp only [Act.put, List.setIfInBounds_toArray, List.set_cons_zero, List.set_cons_succ]
            refine wpAnyH_take (i := 9) (v := ?_) (by simp only [List.getElem?_toArray, List.getElem?_cons_succ, List.getElem?_cons_zero]; rfl) (by kernel_rfl) (by kernel_rfl) (by kernel_rfl) (by exact fun _ _ _ h => h) (Or.inl ⟨by kernel_rfl, ?_⟩) (by assumption) ?_
            rotate_left
            · intro w hSw
              (try dsimp only at hSw)
              go_simp
              try with_reducible rfl
            simp only [Act.put, List.setIfInBounds_toArray, List.set_cons_zero, List.set_cons_succ]
            refine wpAnyH_ready (rs := [1]) (by kernel_rfl) (by simp) ?_
            refine AllReadyH.cons (by simp only [List.getElem?_toArray, List.getElem?_cons_succ, List.getElem?_cons_zero]; rfl) (fun K hK => ?_) AllReadyH.nil
            rw [if_pos (by kernel_rfl)]
            go_simp
            refine (HK.out.len _ w.heap.size S6 p _ HD7.out).mono ?_
            rw [← EY.out]
            rintro e w8 ⟨rfl, bb⟩
            have r1 := bb.row (row_lt r1) r1
            have B8 := BD.call bb
            have HD8 := Lib.hid (HD7.out.to bb)
            clear bb BD HD7
            go_wp2_with fail
            refine hK.out _ _ ?_ (fun hHeld => ?_)
            · exact keepS r1
            clear hK K
            try simp only [Act.put, List.setIfInBounds_toArray, List.set_cons_zero, List.set_cons_succ]
            refine wpAnyH_take (i := 10) (v := ?_) (by simp only [List.getElem?_toArray, List.getElem?_cons_succ, List.getElem?_cons_zero]; rfl) (by kernel_rfl) (by kernel_rfl) (by kernel_rfl) (by exact fun _ _ _ h => h) (Or.inl ⟨by kernel_rfl, ?_⟩) (by assumption) ?_
            rotate_left
            · intro w hSw
              (try dsimp only at hSw)
              go_simp
              try with_reducible rfl
            simp only [Act.put, List.setIfInBounds_toArray, List.set_cons_zero, List.set_cons_succ]
            refine wpAnyH_take (i := 11) (v := ?_) (by simp only [List.getElem?_toArray, List.getElem?_cons_succ, List.getElem?_cons_zero]; rfl) (by kernel_rfl) (by kernel_rfl) (by kernel_rfl) (by exact fun _ _ _ h => h) (Or.inl ⟨by kernel_rfl, ?_⟩) (by assumption) ?_
            rotate_left
            · intro w hSw
              (try dsimp only at hSw)
              go_simp
              try with_reducible rfl
            simp only [Act.put, List.setIfInBounds_toArray, List.set_cons_zero, List.set_cons_succ]
            refine wpAnyH_take (i := 12) (v := ?_) (by simp only [List.getElem?_toArray, List.getElem?_cons_succ, List.getElem?_cons_zero]; rfl) (by kernel_rfl) (by kernel_rfl) (by kernel_rfl) (by exact fun _ _ _ h => h) (Or.inl ⟨by kernel_rfl, ?_⟩) (by assumption) ?_
            rotate_left
            · intro w hSw
              (try dsimp only at hSw)
              go_simp
              try with_reducible rfl
            simp only [Act.put, List.setIfInBounds_toArray, List.set_cons_zero, List.set_cons_succ]
            refine wpAnyH_take (i := 13) (v := ?_) (by simp only [List.getElem?_toArray, List.getElem?_cons_succ, List.getElem?_cons_zero]; rfl) (by kernel_rfl) (by kernel_rfl) (by kernel_rfl) (by exact fun _ _ _ h => h) (Or.inl ⟨by kernel_rfl, ?_⟩) (by assumption) ?_
            rotate_left
            · intro w hSw
              (try dsimp only at hSw)
              go_simp
              try with_reducible rfl
            simp only [Act.put, List.setIfInBounds_toArray, List.set_cons_zero, List.set_cons_succ]
            refine wpAnyH_take (i := 14) (v := ?_) (by simp only [List.getElem?_toArray, List.getElem?_cons_succ, List.getElem?_cons_zero]; rfl) (by kernel_rfl) (by kernel_rfl) (by kernel_rfl) (by exact fun _ _ _ h => h) (Or.inl ⟨by kernel_rfl, ?_⟩) (by assumption) ?_
            rotate_left
            · intro w hSw
              (try dsimp only at hSw)
              go_simp
              try with_reducible rfl
            simp only [Act.put, List.setIfInBounds_toArray, List.set_cons_zero, List.set_cons_succ]
            refine wpAnyH_take (i := 15) (v := ?_) (by simp only [List.getElem?_toArray, List.getElem?_cons_succ, List.getElem?_cons_zero]; rfl) (by kernel_rfl) (by kernel_rfl) (by kernel_rfl) (by exact fun _ _ _ h => h) (Or.inl ⟨by kernel_rfl, ?_⟩) (by assumption) ?_
            rotate_left
            · intro w hSw
              (try dsimp only at hSw)
              go_simp
              try with_reducible rfl
            simp only [Act.put, List.setIfInBounds_toArray, List.set_cons_zero, List.set_cons_succ]
            refine wpAnyH_take (i := 16) (v := ?_) (by simp only [List.getElem?_toArray, List.getElem?_cons_succ, List.getElem?_cons_zero]; rfl) (by kernel_rfl) (by kernel_rfl) (by kernel_rfl) (by exact fun _ _ _ h => h) (Or.inl ⟨by kernel_rfl, ?_⟩) (by assumption) ?_
            rotate_left
            · intro w hSw
              (try dsimp only at hSw)
              go_simp
              try with_reducible rfl
            simp only [Act.put, List.setIfInBounds_toArray, List.set_cons_zero, List.set_cons_succ]
            refine wpAnyH_take (i := 17) (v := undef) (by simp only [List.getElem?_toArray, List.getElem?_cons_succ, List.getElem?_cons_zero]; rfl) (by kernel_rfl) (by kernel_rfl) (by kernel_rfl) (by exact fun _ _ _ h => h) (Or.inr ⟨by kernel_rfl, rfl⟩) (by assumption) ?_
            simp only [Act.put, List.setIfInBounds_toArray, List.set_cons_zero, List.set_cons_succ]
            refine wpAnyH_take (i := 18) (v := undef) (by simp only [List.getElem?_toArray, List.getElem?_cons_succ, List.getElem?_cons_zero]; rfl) (by kernel_rfl) (by kernel_rfl) (by kernel_rfl) (by exact fun _ _ _ h => h) (Or.inr ⟨by kernel_rfl, rfl⟩) (by assumption) ?_
            simp only [Act.put, List.setIfInBounds_toArray, List.set_cons_zero, List.set_cons_succ]
            refine wpAnyH_take (i := 19) (v := undef) (by simp only [List.getElem?_toArray, List.getElem?_cons_succ, List.getElem?_cons_zero]; rfl) (by kernel_rfl) (by kernel_rfl) (by kernel_rfl) (by exact fun _ _ _ h => h) (Or.inr ⟨by kernel_rfl, rfl⟩) (by assumption) ?_
            simp only [Act.put, List.setIfInBounds_toArray, List.set_cons_zero, List.set_cons_succ]
            refine wpAnyH_take (i := 20) (v := undef) (by simp only [List.getElem?_toArray, List.getElem?_cons_succ, List.getElem?_cons_zero]; rfl) (by kernel_rfl) (by kernel_rfl) (by kernel_rfl) (by exact fun _ _ _ h => h) (Or.inr ⟨by kernel_rfl, rfl⟩) (by assumption) ?_
            simp only [Act.put, List.setIfInBounds_toArray, List.set_cons_zero, List.set_cons_succ]
            refine wpAnyH_take (i := 21) (v := undef) (by simp only [List.getElem?_toArray, List.getElem?_cons_succ, List.getElem?_cons_zero]; rfl) (by kernel_rfl) (by kernel_rfl) (by kernel_rfl) (by exact fun _ _ _ h => h) (Or.inr ⟨by kernel_rfl, rfl⟩) (by assumption) ?_
            simp only [Act.put, List.setIfInBounds_toArray, List.set_cons_zero, List.set_cons_succ]
            refine wpAnyH_take (i := 22) (v := ?_) (by simp only [List.getElem?_toArray, List.getElem?_cons_succ, List.getElem?_cons_zero]; rfl) (by kernel_rfl) (by kernel_rfl) (by kernel_rfl) (by exact fun _ _ _ h => h) (Or.inl ⟨by kernel_rfl, ?_⟩) (by assumption) ?_
            rotate_left
            · intro w hSw
              (try dsimp only at hSw)
              go_simp
              try with_reducible rfl
            simp only [Act.put, List.setIfInBounds_toArray, List.set_cons_zero, List.set_cons_succ]
            try simp only [if_neg (show ¬ 0 ≤ left by omega)]
            refine wpAnyH_take (i := 23) (v := ?_) (by simp only [List.getElem?_toArray, List.getElem?_cons_succ, List.getElem?_cons_zero]; rfl) (by kernel_rfl) (by kernel_rfl) (by kernel_rfl) (by exact fun _ _ _ h => h) (Or.inl ⟨by kernel_rfl, ?_⟩) (by assumption) ?_
            rotate_left
            · intro w hSw
              (try dsimp only at hSw)
              go_simp
              try with_reducible rfl
            simp only [Act.put, List.setIfInBounds_toArray, List.set_cons_zero, List.set_cons_succ]
            refine wpAnyH_take (i := 24) (v := ?_) (by simp only [List.getElem?_toArray, List.getElem?_cons_succ, List.getElem?_cons_zero]; rfl) (by kernel_rfl) (by kernel_rfl) (by kernel_rfl) (by exact fun _ _ _ h => h) (Or.inl ⟨by kernel_rfl, ?_⟩) (by assumption) ?_
            rotate_left
            · intro w hSw
              (try dsimp only at hSw)
              go_simp
              try with_reducible rfl
            simp only [Act.put, List.setIfInBounds_toArray, List.set_cons_zero, List.set_cons_succ]
            refine wpAnyH_done (by kernel_rfl) ?_ _
            go_wp2_with fail
            go_roundw
            case rel => exact ⟨k + 1, left, _, S6, by omega, by go_num, by go_num, HL2.out, HD8.out, B8⟩
            case measure => simp [intOf]; omega
          · have hof : d.off = true := HLE.out.off (by omega)
            go_wp2_with fail
            refine (HK.out.len d w.heap.size S' p _ HD0.out).mono ?_
            rintro e w4 ⟨rfl, b4⟩
            have r1 := b4.row (row_lt r1) r1
            have B4 := BW.call b4
            have HD4 := Lib.hid (HD0.out.to b4)
            have HSC4 := Lib.hid (HSC.out.to b4)
            clear b4 HD0 HSC BW
            go_wp2_with fail
            refine (HK.out.off d w.heap.size S' p _ HD4.out).mono ?_
            rw [hof]
            rintro e w5 ⟨rfl, b5⟩
            have r1 := b5.row (row_lt r1) r1
            have B5 := B4.call b5
            have HD5 := Lib.hid (HD4.out.to b5)
            have HSC5 := Lib.hid (HSC4.out.to b5)
            clear b5 HD4 HSC4 B4 hof
            have hob : wr.heap.size < w5.heap.size := row_lt r1
            obtain ⟨a0, a1, a2⟩ := keepS r1
            have hmq : q.b.length = mq := HMQ.out
            obtain ⟨hy, hz, hL2⟩ := left_append (xs := q.b) HLE.out (by omega) (by omega)
            rw [if_neg (by omega)] at hL2
            have HL2 := Lib.hid hL2
            rw [hmq] at hy hz
            clear hL2
            have hbl : d.b.length ≤ 12000 := by have := HLE.out.few; omega
            obtain ⟨M, hM⟩ : ∃ M, M = (min (mq : Int) (max left 0)).toNat := ⟨_, rfl⟩
            rw [← hM] at hy
            obtain ⟨y, ey⟩ : ∃ y, y = (append d q.b).1.b.length := ⟨_, rfl⟩
            have EY := Lib.hid ey
            rw [← ey] at hy
            clear ey
            obtain ⟨x, hx⟩ : ∃ x, x = (append d q.b).2 := ⟨_, rfl⟩
            have HX := Lib.hid hx
            rw [← hx] at hz
            clear hx
            have h9 : ¬ x = 0 := fun h => by have := hz.1 h; omega
            have hx0 : (x == 0) = false := by simpa using h9
            clear hz
            go_wp2_with fail
            refine (HK.out.append d w.heap.size S' p C mq cq q.b _ HD5.out HSC5.out HAW.out hq0.out.b (by omega)).mono ?_
            rw [← HX.out]
            rintro e w6 ⟨rfl, S6, D6, st, hS⟩
            have B6 := B5.trans (st.below B5.size HHD.out.lo)
            have r1 := st.row (fun hs => by have := HHD.out.hi _ hs; omega) r1
            have HD6 := Lib.hid D6
            clear st hS D6 B5 HD5 HSC5 HX
            obtain ⟨a0, a1, a2⟩ := keepS r1
            go_upto_region 23 with fail
            obtain ⟨Wd, eWd⟩ : ∃ X, X = w6.drew := ⟨_, rfl⟩
            have r1 : Wd.heap[wr.heap.size]? = some (.cells #[.int .u8 (q.what : Nat), .slice C mq cq, .int .i64 q.n] 35 (0, 0)) := by rw [eWd]; exact r1
            have HD7 := Lib.hid (show Dk Wd w.heap.size S6 p _ by rw [eWd]; exact HD6.out.to ((Below.refl _ _).drew))
            have BD : Below w.heap.size w Wd := by rw [eWd]; exact B6.drew
            have hM2 : (M : Int) = min (mq : Int) (max left 0) := by omega
            have hM3 : M ≤ 200 := by omega
            have hmx : max left 0 = 0 := by omega
            have hmnn : min (mq : Int) 0 = 0 := by omega
            have hM0 : M = 0 := by omega
            have hdl : decide (0 ≤ left) = false := decide_eq_false (by omega)
            have hwr : IntKind.i64.wrap (d.b.length : Int) = (y : Int) := by rw [hy, hM0]; exact w64 (show d.b.length ≤ 9223372036854775807 by omega)
            clear HD6 B6 hM hy
            refine wp_region_held_drew (S := (fun w' => w'.cell? ⟨wr.heap.size, 0, none⟩ = some (.int .u8 (q.what : Nat)) ∧ w'.cell? ⟨wr.heap.size, 1, none⟩ = some (.slice C mq cq) ∧ w'.cell? ⟨wr.heap.size, 2, none⟩ = some (.int .i64 q.n))) (by kernel_rfl) (by rw [← eWd]; exact keepS r1) (fun hHeld => ?_)
            rw [← eWd] at hHeld ⊢
            clear eWd
            have lgw := row_lt r1
            refine wpAnyH_take (i := 0) (v := ?_) (by simp only [List.getElem?_toArray, List.getElem?_cons_succ, List.getElem?_cons_zero]; rfl) (by kernel_rfl) (by kernel_rfl) (by kernel_rfl) (by exact fun _ _ _ h => h) (Or.inl ⟨by kernel_rfl, ?_⟩) (by assumption) ?_
            rotate_left
            · intro w hSw
              (try dsimp only at hSw)
              go_simp
              try with_reducible rfl
            simp only [Act.put, List.setIfInBounds_toArray, List.set_cons_zero, List.set_cons_succ]
            refine wpAnyH_take (i := 2) (v := ?_) (by simp only [List.getElem?_toArray, List.getElem?_cons_succ, List.getElem?_cons_zero]; rfl) (by kernel_rfl) (by kernel_rfl) (by kernel_rfl) (by exact fun _ _ _ h => h) (Or.inl ⟨by kernel_rfl, ?_⟩) (by assumption) ?_
            rotate_left
            · intro w hSw
              (try dsimp only at hSw)
              go_simp
              try with_reducible rfl
            simp only [Act.put, List.setIfInBounds_toArray, List.set_cons_zero, List.set_cons_succ]
            refine wpAnyH_take (i := 3) (v := ?_) (by simp only [List.getElem?_toArray, List.getElem?_cons_succ, List.getElem?_cons_zero]; rfl) (by kernel_rfl) (by kernel_rfl) (by kernel_rfl) (by exact fun _ _ _ h => h) (Or.inl ⟨by kernel_rfl, ?_⟩) (by assumption) ?_
            rotate_left
            · intro w hSw
              (try dsimp only at hSw)
              go_simp
              try with_reducible rfl
            simp only [Act.put, List.setIfInBounds_toArray, List.set_cons_zero, List.set_cons_succ]
            refine wpAnyH_take (i := 4) (v := ?_) (by simp only [List.getElem?_toArray, List.getElem?_cons_succ, List.getElem?_cons_zero]; rfl) (by kernel_rfl) (by kernel_rfl) (by kernel_rfl) (by exact fun _ _ _ h => h) (Or.inl ⟨by kernel_rfl, ?_⟩) (by assumption) ?_
            rotate_left
            · intro w hSw
              (try dsimp only at hSw)
              go_simp
              try with_reducible rfl
            simp only [Act.put, List.setIfInBounds_toArray, List.set_cons_zero, List.set_cons_succ]
            refine wpAnyH_take (i := 5) (v := ?_) (by simp only [List.getElem?_toArray, List.getElem?_cons_succ, List.getElem?_cons_zero]; rfl) (by kernel_rfl) (by kernel_rfl) (by kernel_rfl) (by exact fun _ _ _ h => h) (Or.inl ⟨by kernel_rfl, ?_⟩) (by assumption) ?_
            rotate_left
            · intro w hSw
              (try dsimp only at hSw)
              go_simp
              try with_reducible rfl
            simp only [Act.put, List.setIfInBounds_toArray, List.set_cons_zero, List.set_cons_succ]
            refine wpAnyH_take (i := 6) (v := ?_) (by simp only [List.getElem?_toArray, List.getElem?_cons_succ, List.getElem?_cons_zero]; rfl) (by kernel_rfl) (by kernel_rfl) (by kernel_rfl) (by exact fun _ _ _ h => h) (Or.inl ⟨by kernel_rfl, ?_⟩) (by assumption) ?_
            rotate_left
            · intro w hSw
              (try dsimp only at hSw)
              go_simp
              try with_reducible rfl
            simp only [Act.put, List.setIfInBounds_toArray, List.set_cons_zero, List.set_cons_succ]
            refine wpAnyH_take (i := 7) (v := ?_) (by simp only [List.getElem?_toArray, List.getElem?_cons_succ, List.getElem?_cons_zero]; rfl) (by kernel_rfl) (by kernel_rfl) (by kernel_rfl) (by exact fun _ _ _ h => h) (Or.inl ⟨by kernel_rfl, ?_⟩) (by assumption) ?_
            rotate_left
            · intro w hSw
              (try dsimp only at hSw)
              go_simp
              try with_reducible rfl
            simp only [Act.put, List.setIfInBounds_toArray, List.set_cons_zero, List.set_cons_succ]
            refine wpAnyH_take (i := 8) (v := ?_) (by simp only [List.getElem?_toArray, List.getElem?_cons_succ, List.getElem?_cons_zero]; rfl) (by kernel_rfl) (by kernel_rfl) (by kernel_rfl) (by exact fun _ _ _ h => h) (Or.inl ⟨by kernel_rfl, ?_⟩) (by assumption) ?_
            rotate_left
            · intro w hSw
              (try dsimp only at hSw)
              go_simp
              try with_reducible rfl
            simp only [Act.put, List.setIfInBounds_toArray, List.set_cons_zero, List.set_cons_succ]
            refine wpAnyH_take (i := 9) (v := ?_) (by simp only [List.getElem?_toArray, List.getElem?_cons_succ, List.getElem?_cons_zero]; rfl) (by kernel_rfl) (by kernel_rfl) (by kernel_rfl) (by exact fun _ _ _ h => h) (Or.inl ⟨by kernel_rfl, ?_⟩) (by assumption) ?_
            rotate_left
            · intro w hSw
              (try dsimp only at hSw)
              go_simp
              try with_reducible rfl
            simp only [Act.put, List.setIfInBounds_toArray, List.set_cons_zero, List.set_cons_succ]
            refine wpAnyH_ready (rs := [1]) (by kernel_rfl) (by simp) ?_
            refine AllReadyH.cons (by simp only [List.getElem?_toArray, List.getElem?_cons_succ, List.getElem?_cons_zero]; rfl) (fun K hK => ?_) AllReadyH.nil
            rw [if_pos (by kernel_rfl)]
            go_simp
            refine (HK.out.len _ w.heap.size S6 p _ HD7.out).mono ?_
            rw [← EY.out]
            rintro e w8 ⟨rfl, bb⟩
            have r1 := bb.row (row_lt r1) r1
            have B8 := BD.call bb
            have HD8 := Lib.hid (HD7.out.to bb)
            clear bb BD HD7
            go_wp2_with fail
            refine hK.out _ _ ?_ (fun hHeld => ?_)
            · exact keepS r1
            clear hK K
            try simp only [Act.put, List.setIfInBounds_toArray, List.set_cons_zero, List.set_cons_succ]
            refine wpAnyH_take (i := 10) (v := ?_) (by simp only [List.getElem?_toArray, List.getElem?_cons_succ, List.getElem?_cons_zero]; rfl) (by kernel_rfl) (by kernel_rfl) (by kernel_rfl) (by exact fun _ _ _ h => h) (Or.inl ⟨by kernel_rfl, ?_⟩) (by assumption) ?_
            rotate_left
            · intro w hSw
              (try dsimp only at hSw)
              go_simp
              try with_reducible rfl
            simp only [Act.put, List.setIfInBounds_toArray, List.set_cons_zero, List.set_cons_succ]
            refine wpAnyH_take (i := 11) (v := ?_) (by simp only [List.getElem?_toArray, List.getElem?_cons_succ, List.getElem?_cons_zero]; rfl) (by kernel_rfl) (by kernel_rfl) (by kernel_rfl) (by exact fun _ _ _ h => h) (Or.inl ⟨by kernel_rfl, ?_⟩) (by assumption) ?_
            rotate_left
            · intro w hSw
              (try dsimp only at hSw)
              go_simp
              try with_reducible rfl
            simp only [Act.put, List.setIfInBounds_toArray, List.set_cons_zero, List.set_cons_succ]
            refine wpAnyH_take (i := 12) (v := ?_) (by simp only [List.getElem?_toArray, List.getElem?_cons_succ, List.getElem?_cons_zero]; rfl) (by kernel_rfl) (by kernel_rfl) (by kernel_rfl) (by exact fun _ _ _ h => h) (Or.inl ⟨by kernel_rfl, ?_⟩) (by assumption) ?_
            rotate_left
            · intro w hSw
              (try dsimp only at hSw)
              go_simp
              try with_reducible rfl
            simp only [Act.put, List.setIfInBounds_toArray, List.set_cons_zero, List.set_cons_succ]
            refine wpAnyH_take (i := 13) (v := ?_) (by simp only [List.getElem?_toArray, List.getElem?_cons_succ, List.getElem?_cons_zero]; rfl) (by kernel_rfl) (by kernel_rfl) (by kernel_rfl) (by exact fun _ _ _ h => h) (Or.inl ⟨by kernel_rfl, ?_⟩) (by assumption) ?_
            rotate_left
            · intro w hSw
              (try dsimp only at hSw)
              go_simp
              try with_reducible rfl
            simp only [Act.put, List.setIfInBounds_toArray, List.set_cons_zero, List.set_cons_succ]
            refine wpAnyH_take (i := 14) (v := ?_) (by simp only [List.getElem?_toArray, List.getElem?_cons_succ, List.getElem?_cons_zero]; rfl) (by kernel_rfl) (by kernel_rfl) (by kernel_rfl) (by exact fun _ _ _ h => h) (Or.inl ⟨by kernel_rfl, ?_⟩) (by assumption) ?_
            rotate_left
            · intro w hSw
              (try dsimp only at hSw)
              go_simp
              try with_reducible rfl
            simp only [Act.put, List.setIfInBounds_toArray, List.set_cons_zero, List.set_cons_succ]
            refine wpAnyH_take (i := 15) (v := ?_) (by simp only [List.getElem?_toArray, List.getElem?_cons_succ, List.getElem?_cons_zero]; rfl) (by kernel_rfl) (by kernel_rfl) (by kernel_rfl) (by exact fun _ _ _ h => h) (Or.inl ⟨by kernel_rfl, ?_⟩) (by assumption) ?_
            rotate_left
            · intro w hSw
              (try dsimp only at hSw)
              go_simp
              try with_reducible rfl
            simp only [Act.put, List.setIfInBounds_toArray, List.set_cons_zero, List.set_cons_succ]
            refine wpAnyH_take (i := 16) (v := ?_) (by simp only [List.getElem?_toArray, List.getElem?_cons_succ, List.getElem?_cons_zero]; rfl) (by kernel_rfl) (by kernel_rfl) (by kernel_rfl) (by exact fun _ _ _ h => h) (Or.inl ⟨by kernel_rfl, ?_⟩) (by assumption) ?_
            rotate_left
            · intro w hSw
              (try dsimp only at hSw)
              go_simp
              try with_reducible rfl
            simp only [Act.put, List.setIfInBounds_toArray, List.set_cons_zero, List.set_cons_succ]
            refine wpAnyH_take (i := 17) (v := undef) (by simp only [List.getElem?_toArray, List.getElem?_cons_succ, List.getElem?_cons_zero]; rfl) (by kernel_rfl) (by kernel_rfl) (by kernel_rfl) (by exact fun _ _ _ h => h) (Or.inr ⟨by kernel_rfl, rfl⟩) (by assumption) ?_
            simp only [Act.put, List.setIfInBounds_toArray, List.set_cons_zero, List.set_cons_succ]
            refine wpAnyH_take (i := 18) (v := undef) (by simp only [List.getElem?_toArray, List.getElem?_cons_succ, List.getElem?_cons_zero]; rfl) (by kernel_rfl) (by kernel_rfl) (by kernel_rfl) (by exact fun _ _ _ h => h) (Or.inr ⟨by kernel_rfl, rfl⟩) (by assumption) ?_
            simp only [Act.put, List.setIfInBounds_toArray, List.set_cons_zero, List.set_cons_succ]
            refine wpAnyH_take (i := 19) (v := undef) (by simp only [List.getElem?_toArray, List.getElem?_cons_succ, List.getElem?_cons_zero]; rfl) (by kernel_rfl) (by kernel_rfl) (by kernel_rfl) (by exact fun _ _ _ h => h) (Or.inr ⟨by kernel_rfl, rfl⟩) (by assumption) ?_
            simp only [Act.put, List.setIfInBounds_toArray, List.set_cons_zero, List.set_cons_succ]
            refine wpAnyH_take (i := 20) (v := undef) (by simp only [List.getElem?_toArray, List.getElem?_cons_succ, List.getElem?_cons_zero]; rfl) (by kernel_rfl) (by kernel_rfl) (by kernel_rfl) (by exact fun _ _ _ h => h) (Or.inr ⟨by kernel_rfl, rfl⟩) (by assumption) ?_
            simp only [Act.put, List.setIfInBounds_toArray, List.set_cons_zero, List.set_cons_succ]
            refine wpAnyH_take (i := 21) (v := undef) (by simp only [List.getElem?_toArray, List.getElem?_cons_succ, List.getElem?_cons_zero]; rfl) (by kernel_rfl) (by kernel_rfl) (by kernel_rfl) (by exact fun _ _ _ h => h) (Or.inr ⟨by kernel_rfl, rfl⟩) (by assumption) ?_
            simp only [Act.put, List.setIfInBounds_toArray, List.set_cons_zero, List.set_cons_succ]
            refine wpAnyH_take (i := 22) (v := ?_) (by simp only [List.getElem?_toArray, List.getElem?_cons_succ, List.getElem?_cons_zero]; rfl) (by kernel_rfl) (by kernel_rfl) (by kernel_rfl) (by exact fun _ _ _ h => h) (Or.inl ⟨by kernel_rfl, ?_⟩) (by assumption) ?_
            rotate_left
            · intro w hSw
              (try dsimp only at hSw)
              go_simp
              try with_reducible rfl
            simp only [Act.put, List.setIfInBounds_toArray, List.set_cons_zero, List.set_cons_succ]
            try simp only [if_neg (show ¬ 0 ≤ left by omega)]
            refine wpAnyH_take (i := 23) (v := ?_) (by simp only [List.getElem?_toArray, List.getElem?_cons_succ, List.getElem?_cons_zero]; rfl) (by kernel_rfl) (by kernel_rfl) (by kernel_rfl) (by exact fun _ _ _ h => h) (Or.inl ⟨by kernel_rfl, ?_⟩) (by assumption) ?_
            rotate_left
            · intro w hSw
              (try dsimp only at hSw)
              go_simp
              try with_reducible rfl
            simp only [Act.put, List.setIfInBounds_toArray, List.set_cons_zero, List.set_cons_succ]
            refine wpAnyH_take (i := 24) (v := ?_) (by simp only [List.getElem?_toArray, List.getElem?_cons_succ, List.getElem?_cons_zero]; rfl) (by kernel_rfl) (by kernel_rfl) (by kernel_rfl) (by exact fun _ _ _ h => h) (Or.inl ⟨by kernel_rfl, ?_⟩) (by assumption) ?_
            rotate_left
            · intro w hSw
              (try dsimp only at hSw)
              go_simp
              try with_reducible rfl
            simp only [Act.put, List.setIfInBounds_toArray, List.set_cons_zero, List.set_cons_succ]
            refine wpAnyH_done (by kernel_rfl) ?_ _
            go_wp2_with fail
            go_roundw
            case rel => exact ⟨k + 1, left, _, S6, by omega, by go_num, by go_num, HL2.out, HD8.out, B8⟩
            case measure => simp [intOf]; omega
      · rcases show left < 0 ∨ left = 0 ∨ 0 < left from by omega with h0 | h0 | h0
        · have hof : d.off = true := HLE.out.off h0
          go_wp2_with fail
          refine (HK.out.len d w.heap.size S' p _ HD0.out).mono ?_
          rintro e w4 ⟨rfl, b4⟩
          have r1 := b4.row (row_lt r1) r1
          have B4 := BW.call b4
          have HD4 := Lib.hid (HD0.out.to b4)
          have HSC4 := Lib.hid (HSC.out.to b4)
          clear b4 HD0 HSC BW
          go_wp2_with fail
          refine (HK.out.off d w.heap.size S' p _ HD4.out).mono ?_
          rw [hof]
          rintro e w5 ⟨rfl, b5⟩
          have r1 := b5.row (row_lt r1) r1
          have B5 := B4.call b5
          have HD5 := Lib.hid (HD4.out.to b5)
          have HSC5 := Lib.hid (HSC4.out.to b5)
          clear b5 HD4 HSC4 B4 hof
          have hob : wr.heap.size < w5.heap.size := row_lt r1
          obtain ⟨a0, a1, a2⟩ := keepS r1
          have HL2 := Lib.hid (left_sync HLE.out (by omega)).2
          have hx2 := (left_sync HLE.out (by omega)).1
          obtain ⟨x, hx⟩ : ∃ x, x = (sync d).2 := ⟨_, rfl⟩
          rw [← hx] at hx2
          have h9 : ¬ x = 0 := fun h => by have := hx2.1 h; omega
          have hn0 : ¬ 0 < left := by omega
          have hd0 : decide (0 < left) = false := decide_eq_false hn0
          have hx0 : (x == 0) = false := by simpa using h9
          have hbl : d.b.length ≤ 12000 := by have := HLE.out.few; omega
          clear hx2
          go_wp2_with fail
          refine (HK.out.sync d w.heap.size S' p _ HD5.out).mono ?_
          rw [← hx]
          rintro e w6 ⟨rfl, S6, D6, st, hS⟩
          have B6 := B5.trans (st.below B5.size HHD.out.lo)
          have r1 := st.row (fun hs => by have := HHD.out.hi _ hs; omega) r1
          have HD6 := Lib.hid D6
          clear hx st hS D6 B5 HD5
          obtain ⟨a0, a1, a2⟩ := keepS r1
          go_wp2_with fail
          go_roundw
          case rel => exact ⟨k + 1, left - 1, _, S6, by omega, by go_num, by go_num, HL2.out, HD6.out, B6⟩
          case measure => simp [intOf]; omega
        · have hof : d.off = false := (HLE.out.on (by omega)).1
          go_wp2_with fail
          refine (HK.out.len d w.heap.size S' p _ HD0.out).mono ?_
          rintro e w4 ⟨rfl, b4⟩
          have r1 := b4.row (row_lt r1) r1
          have B4 := BW.call b4
          have HD4 := Lib.hid (HD0.out.to b4)
          have HSC4 := Lib.hid (HSC.out.to b4)
          clear b4 HD0 HSC BW
          go_wp2_with fail
          refine (HK.out.off d w.heap.size S' p _ HD4.out).mono ?_
          rw [hof]
          rintro e w5 ⟨rfl, b5⟩
          have r1 := b5.row (row_lt r1) r1
          have B5 := B4.call b5
          have HD5 := Lib.hid (HD4.out.to b5)
          have HSC5 := Lib.hid (HSC4.out.to b5)
          clear b5 HD4 HSC4 B4 hof
          have hob : wr.heap.size < w5.heap.size := row_lt r1
          obtain ⟨a0, a1, a2⟩ := keepS r1
          have HL2 := Lib.hid (left_sync HLE.out (by omega)).2
          have hx2 := (left_sync HLE.out (by omega)).1
          obtain ⟨x, hx⟩ : ∃ x, x = (sync d).2 := ⟨_, rfl⟩
          rw [← hx] at hx2
          have h9 : ¬ x = 0 := fun h => by have := hx2.1 h; omega
          have hn0 : ¬ 0 < left := by omega
          have hd0 : decide (0 < left) = false := decide_eq_false hn0
          have hx0 : (x == 0) = false := by simpa using h9
          have hbl : d.b.length ≤ 12000 := by have := HLE.out.few; omega
          clear hx2
          go_wp2_with fail
          refine (HK.out.sync d w.heap.size S' p _ HD5.out).mono ?_
          rw [← hx]
          rintro e w6 ⟨rfl, S6, D6, st, hS⟩
          have B6 := B5.trans (st.below B5.size HHD.out.lo)
          have r1 := st.row (fun hs => by have := HHD.out.hi _ hs; omega) r1
          have HD6 := Lib.hid D6
          clear hx st hS D6 B5 HD5
          obtain ⟨a0, a1, a2⟩ := keepS r1
          go_wp2_with fail
          go_roundw
          case rel => exact ⟨k + 1, left - 1, _, S6, by omega, by go_num, by go_num, HL2.out, HD6.out, B6⟩
          case measure => simp [intOf]; omega
        · have hof : d.off = false := (HLE.out.on (by omega)).1
          go_wp2_with fail
          refine (HK.out.len d w.heap.size S' p _ HD0.out).mono ?_
          rintro e w4 ⟨rfl, b4⟩
          have r1 := b4.row (row_lt r1) r1
          have B4 := BW.call b4
          have HD4 := Lib.hid (HD0.out.to b4)
          have HSC4 := Lib.hid (HSC.out.to b4)
          clear b4 HD0 HSC BW
          go_wp2_with fail
          refine (HK.out.off d w.heap.size S' p _ HD4.out).mono ?_
          rw [hof]
          rintro e w5 ⟨rfl, b5⟩
          have r1 := b5.row (row_lt r1) r1
          have B5 := B4.call b5
          have HD5 := Lib.hid (HD4.out.to b5)
          have HSC5 := Lib.hid (HSC4.out.to b5)
          clear b5 HD4 HSC4 B4 hof
          have hob : wr.heap.size < w5.heap.size := row_lt r1
          obtain ⟨a0, a1, a2⟩ := keepS r1
          have HL2 := Lib.hid (left_sync HLE.out (by omega)).2
          have hx2 := (left_sync HLE.out (by omega)).1
          obtain ⟨x, hx⟩ : ∃ x, x = (sync d).2 := ⟨_, rfl⟩
          rw [← hx] at hx2
          have h9 : x = 0 := hx2.2 h0
          have hbl : d.b.length ≤ 12000 := by have := HLE.out.few; omega
          clear hx2
          go_wp2_with fail
          refine (HK.out.sync d w.heap.size S' p _ HD5.out).mono ?_
          rw [← hx, h9]
          rintro e w6 ⟨rfl, S6, D6, st, hS⟩
          have B6 := B5.trans (st.below B5.size HHD.out.lo)
          have r1 := st.row (fun hs => by have := HHD.out.hi _ hs; omega) r1
          have HD6 := Lib.hid D6
          clear hx st hS D6 B5 HD5
          obtain ⟨a0, a1, a2⟩ := keepS r1
          go_wp2_with fail
          go_roundw
          case rel => exact ⟨k + 1, left - 1, _, S6, by omega, by go_num, by go_num, HL2.out, HD6.out, B6⟩
          case measure => simp [intOf]; omega
      · rcases show left < 0 ∨ left = 0 ∨ 0 < left from by omega with h0 | h0 | h0
        · have hof : d.off = true := HLE.out.off h0
          go_wp2_with fail
          refine (HK.out.len d w.heap.size S' p _ HD0.out).mono ?_
          rintro e w4 ⟨rfl, b4⟩
          have r1 := b4.row (row_lt r1) r1
          have B4 := BW.call b4
          have HD4 := Lib.hid (HD0.out.to b4)
          have HSC4 := Lib.hid (HSC.out.to b4)
          clear b4 HD0 HSC BW
          go_wp2_with fail
          refine (HK.out.off d w.heap.size S' p _ HD4.out).mono ?_
          rw [hof]
          rintro e w5 ⟨rfl, b5⟩
          have r1 := b5.row (row_lt r1) r1
          have B5 := B4.call b5
          have HD5 := Lib.hid (HD4.out.to b5)
          have HSC5 := Lib.hid (HSC4.out.to b5)
          clear b5 HD4 HSC4 B4 hof
          have hob : wr.heap.size < w5.heap.size := row_lt r1
          obtain ⟨a0, a1, a2⟩ := keepS r1
          have HL2 := Lib.hid (left_cut HLE.out (by omega)).2
          have hx2 := (left_cut HLE.out (by omega)).1
          obtain ⟨x, hx⟩ : ∃ x, x = (cut d d.b.length).2 := ⟨_, rfl⟩
          rw [← hx] at hx2
          have h9 : ¬ x = 0 := fun h => by have := hx2.1 h; omega
          have hn0 : ¬ 0 < left := by omega
          have hd0 : decide (0 < left) = false := decide_eq_false hn0
          have hx0 : (x == 0) = false := by simpa using h9
          have hbl : d.b.length ≤ 12000 := by have := HLE.out.few; omega
          clear hx2
          go_wp2_with fail
          refine (HK.out.cut d w.heap.size S' p (d.b.length : Nat) _ HD5.out (by omega) (by omega)).mono ?_
          rw [← hx]
          rintro e w6 ⟨rfl, S6, D6, st, hS⟩
          have B6 := B5.trans (st.below B5.size HHD.out.lo)
          have r1 := st.row (fun hs => by have := HHD.out.hi _ hs; omega) r1
          have HD6 := Lib.hid D6
          clear hx st hS D6 B5 HD5
          obtain ⟨a0, a1, a2⟩ := keepS r1
          go_wp2_with fail
          go_roundw
          case rel => exact ⟨k + 1, left - 1, _, S6, by omega, by go_num, by go_num, HL2.out, HD6.out, B6⟩
          case measure => simp [intOf]; omega
        · have hof : d.off = false := (HLE.out.on (by omega)).1
          go_wp2_with fail
          refine (HK.out.len d w.heap.size S' p _ HD0.out).mono ?_
          rintro e w4 ⟨rfl, b4⟩
          have r1 := b4.row (row_lt r1) r1
          have B4 := BW.call b4
          have HD4 := Lib.hid (HD0.out.to b4)
          have HSC4 := Lib.hid (HSC.out.to b4)
          clear b4 HD0 HSC BW
          go_wp2_with fail
          refine (HK.out.off d w.heap.size S' p _ HD4.out).mono ?_
          rw [hof]
          rintro e w5 ⟨rfl, b5⟩
          have r1 := b5.row (row_lt r1) r1
          have B5 := B4.call b5
          have HD5 := Lib.hid (HD4.out.to b5)
          have HSC5 := Lib.hid (HSC4.out.to b5)
          clear b5 HD4 HSC4 B4 hof
          have hob : wr.heap.size < w5.heap.size := row_lt r1
          obtain ⟨a0, a1, a2⟩ := keepS r1
          have HL2 := Lib.hid (left_cut HLE.out (by omega)).2
          have hx2 := (left_cut HLE.out (by omega)).1
          obtain ⟨x, hx⟩ : ∃ x, x = (cut d d.b.length).2 := ⟨_, rfl⟩
          rw [← hx] at hx2
          have h9 : ¬ x = 0 := fun h => by have := hx2.1 h; omega
          have hn0 : ¬ 0 < left := by omega
          have hd0 : decide (0 < left) = false := decide_eq_false hn0
          have hx0 : (x == 0) = false := by simpa using h9
          have hbl : d.b.length ≤ 12000 := by have := HLE.out.few; omega
          clear hx2
          go_wp2_with fail
          refine (HK.out.cut d w.heap.size S' p (d.b.length : Nat) _ HD5.out (by omega) (by omega)).mono ?_
          rw [← hx]
          rintro e w6 ⟨rfl, S6, D6, st, hS⟩
          have B6 := B5.trans (st.below B5.size HHD.out.lo)
          have r1 := st.row (fun hs => by have := HHD.out.hi _ hs; omega) r1
          have HD6 := Lib.hid D6
          clear hx st hS D6 B5 HD5
          obtain ⟨a0, a1, a2⟩ := keepS r1
          go_wp2_with fail
          go_roundw
          case rel => exact ⟨k + 1, left - 1, _, S6, by omega, by go_num, by go_num, HL2.out, HD6.out, B6⟩
          case measure => simp [intOf]; omega
        · have hof : d.off = false := (HLE.out.on (by omega)).1
          go_wp2_with fail
          refine (HK.out.len d w.heap.size S' p _ HD0.out).mono ?_
          rintro e w4 ⟨rfl, b4⟩
          have r1 := b4.row (row_lt r1) r1
          have B4 := BW.call b4
          have HD4 := Lib.hid (HD0.out.to b4)
          have HSC4 := Lib.hid (HSC.out.to b4)
          clear b4 HD0 HSC BW
          go_wp2_with fail
          refine (HK.out.off d w.heap.size S' p _ HD4.out).mono ?_
          rw [hof]
          rintro e w5 ⟨rfl, b5⟩
          have r1 := b5.row (row_lt r1) r1
          have B5 := B4.call b5
          have HD5 := Lib.hid (HD4.out.to b5)
          have HSC5 := Lib.hid (HSC4.out.to b5)
          clear b5 HD4 HSC4 B4 hof
          have hob : wr.heap.size < w5.heap.size := row_lt r1
          obtain ⟨a0, a1, a2⟩ := keepS r1
          have HL2 := Lib.hid (left_cut HLE.out (by omega)).2
          have hx2 := (left_cut HLE.out (by omega)).1
          obtain ⟨x, hx⟩ : ∃ x, x = (cut d d.b.length).2 := ⟨_, rfl⟩
          rw [← hx] at hx2
          have h9 : x = 0 := hx2.2 h0
          have hbl : d.b.length ≤ 12000 := by have := HLE.out.few; omega
          clear hx2
          go_wp2_with fail
          refine (HK.out.cut d w.heap.size S' p (d.b.length : Nat) _ HD5.out (by omega) (by omega)).mono ?_
          rw [← hx, h9]
          rintro e w6 ⟨rfl, S6, D6, st, hS⟩
          have B6 := B5.trans (st.below B5.size HHD.out.lo)
          have r1 := st.row (fun hs => by have := HHD.out.hi _ hs; omega) r1
          have HD6 := Lib.hid D6
          clear hx st hS D6 B5 HD5
          obtain ⟨a0, a1, a2⟩ := keepS r1
          go_wp2_with fail
          go_roundw
          case rel => exact ⟨k + 1, left - 1, _, S6, by omega, by go_num, by go_num, HL2.out, HD6.out, B6⟩
          case measure => simp [intOf]; omega
    · obtain rfl : k = m := by omega
      have hc1 : (Dk.crash d 1048576).off = false := rfl
      have hc2 := crash_len HD.ok 1048576
      have hc3 : (Dk.sync (Dk.crash d 1048576)).2 = 0 := crash_sync d 1048576
      obtain ⟨z, ez⟩ : ∃ z, z = (Dk.crash d 1048576).b.length := ⟨_, rfl⟩
      have HZ := Lib.hid ez
      have HS := Lib.hid (show (Dk.crash d 1048576).safe = z by rw [HZ.out]; exact hc2)
      have HHD := Lib.hid HD
      have H1 := Lib.hid hc1
      have H3 := Lib.hid hc3
      clear HD hc1 hc2 hc3 ez
      go_wp2_with fail
      refine (HK.out.crash d w.heap.size S' p 1048576 _ HHD.out (by omega) (by omega)).mono ?_
      rintro e w4 ⟨rfl, S4, D4, st, hS⟩
      have B4 := bw.trans (st.below bw.size HHD.out.lo)
      have HD4 := Lib.hid D4
      clear st hS D4 bw
      go_wp2_with fail
      refine (HK.out.off _ w.heap.size S4 p _ HD4.out).mono ?_
      rw [H1.out]
      rintro e w5 ⟨rfl, b5⟩
      have B5 := B4.call b5
      have HD5 := Lib.hid (HD4.out.to b5)
      clear b5 HD4 B4
      go_wp2_with fail
      refine (HK.out.safe _ w.heap.size S4 p _ HD5.out).mono ?_
      rw [HS.out]
      rintro e w6 ⟨rfl, b6⟩
      have B6 := B5.call b6
      have HD6 := Lib.hid (HD5.out.to b6)
      clear b6 HD5 B5
      go_wp2_with fail
      refine (HK.out.len _ w.heap.size S4 p _ HD6.out).mono ?_
      rw [← HZ.out]
      rintro e w7 ⟨rfl, b7⟩
      have B7 := B6.call b7
      have HD7 := Lib.hid (HD6.out.to b7)
      clear b7 HD6 B6
      go_wp2_with fail
      refine (HK.out.sync _ w.heap.size S4 p _ HD7.out).mono ?_
      rw [H3.out]
      rintro e w8 ⟨rfl, S8, D8, st, hS⟩
      have B8 := B7.trans (st.below B7.size HD7.out.lo)
      clear st hS D8 B7 HD7
      go_wp2_with fail
      refine (awake9_any HK.out _).mono ?_
      rintro e w9 ⟨rfl, b9⟩
      go_wp2_with fail
      go_ret
      exact ⟨rfl, B8.call b9⟩
end Go.Proofs.Ytljiehnpknbohaa.DkW
