/- The walks of layer 6's reference: PackBits. -/
import Derived.Test.YtcckplpfgpagmaaWdB
import Derived.Deep.AppendLies
set_option linter.unusedVariables false
set_option linter.unusedSimpArgs false
namespace Go.Proofs.Ytcckplpfgpagmaa.WdW
open Go.RowKit Go.Proofs.Ytcckplpfgpagmaa Go.Proofs.Ytcckplpfgpagmaa.Wd Go.Proofs.Ytcckplpfgpagmaa.Ask
theorem _root_.Go.Proofs.Ytcckplpfgpagmaa.Has.cellAt {w0 w : World} {e : TypeId} {g n cap : Nat} {xs : List Value} {u : Value} (h : Has w0 w e (.slice (some ⟨g, 0, none⟩) n cap) n xs) {j : Nat} (hj : j < n) (hu : xs[j]? = some u) : w.cell? ⟨g, j, none⟩ = some u := by
  obtain ⟨A, c, ev, _, S, _⟩ := h.slice
  injection ev with e1 e2 e3
  subst e1
  obtain ⟨b, o, e, _, hc⟩ := S.2 (by omega)
  injection e with e
  injection e with e1 e2
  subst e1 e2
  have := hc j hj
  rw [Nat.zero_add] at this
  rw [this, hu]
theorem _root_.Go.Proofs.Ytcckplpfgpagmaa.Has.freeAt {w0 w : World} {e : TypeId} {g n cap : Nat} {xs : List Value} (h : Has w0 w e (.slice (some ⟨g, 0, none⟩) n cap) n xs) (j : Nat) : w.frozen? ⟨g, j, none⟩ = false := by
  rcases h.own.2 with ⟨hv, _⟩ | ⟨g', cap', cur, hv, _, hg, _⟩
  · cases hv
  · injection hv with e1 e2 e3
    injection e1 with e1
    injection e1 with e1
    subst e1
    exact frozen_of_row w g j _ _ hg
theorem _root_.Go.Proofs.Ytcckplpfgpagmaa.Has.setAt {w0 w : World} {e : TypeId} {g n cap : Nat} {xs : List Value} (h : Has w0 w e (.slice (some ⟨g, 0, none⟩) n cap) n xs) {j : Nat} (hj : j < n) (u : Value) : Has w0 (w.setCell ⟨g, j, none⟩ u) e (.slice (some ⟨g, 0, none⟩) n cap) n (xs.set j u) := by
  obtain ⟨⟨hl, hr⟩, hb⟩ := h
  rcases hr with ⟨hv, _⟩ | ⟨g', cap', cur, hv, hge, hg, hc, hm, hs, ht⟩
  · cases hv
  · injection hv with e1 e2 e3
    injection e1 with e1
    injection e1 with e1
    subst e1 e3
    refine ⟨⟨by rw [List.length_set]; exact hl, .inr ⟨g, cap, cur.setIfInBounds j u, rfl, hge, heap_setCell_same w g j _ _ _ hg, hc, hm, by rw [Array.size_setIfInBounds]; exact hs, ?_⟩⟩, hb.setCell hge _⟩
    rw [Array.toList_setIfInBounds, List.take_set, ht]
theorem packTo_list {l : List Bool} {k : Nat} (h : k ≤ l.length) : bs (pack (l.take k)) = (packTo l ((k + 7) / 8) k).toList := by
  simp only [packTo, bs, pack, List.length_take, List.map_map, Nat.min_eq_left h]
  rfl
theorem packTo_more {l : List Bool} {q k : Nat} (h : k ≤ 8 * q) : (packTo l q k).toList ++ [Value.int .u8 0] = (packTo l (q + 1) k).toList := by
  have e : octet (l.take k) q = 0 := by
    have z : ∀ j, bitN (l.take k) (8 * q + j) = 0 := fun j => bitN_take_ge (by omega)
    have z0 : bitN (l.take k) (8 * q) = 0 := z 0
    unfold octet
    rw [z0, z, z, z, z, z, z, z]
  simp only [packTo, List.range_succ, List.map_append, List.map_cons, List.map_nil, e]
  simp
theorem packTo_put {l : List Bool} {N k : Nat} (h : l[k]?.getD false = true) : (packTo l N k).toList.set (k / 8) (.int .u8 ((octet (l.take k) (k / 8) + 2 ^ (k % 8) : Nat) : Int)) = (packTo l N (k + 1)).toList := by
  have h2 := octet_take_eq (l := l) (q := k / 8) (m := k % 8) (by omega)
  rw [Nat.div_add_mod] at h2
  rw [← or_add h2.1, ← Array.toList_setIfInBounds, packTo_on h]
set_option maxHeartbeats 4000000 in
theorem refPackBits_any (A : Option Addr) (n c : Nat) (l : List Bool) (w : World) (hs : Sl w w.heap.size A n (bl l)) (hn : n ≤ 100000) :
    Calls Try.prog 15 #[.slice A n c] w fun e w' => ∃ v, e = .returned v ∧ Has w w' 5 v ((n + 7) / 8) (bs (pack l)) := by
  have q1 : l.length = n := by simpa using hs.len
  have Q1 := Lib.hid q1
  have HS := Lib.hid hs
  clear q1 hs
  go_enter Try.func15, Try.ntmps15
  go_wp2_with fail
  go_loopw [3, 4] (fun v iv wr => ∃ i : Nat, i ≤ n ∧ iv = .int .i64 i ∧ Has w wr 5 v ((i + 7) / 8) (packTo l ((i + 7) / 8) i).toList) (fun _ iv _ => n - (intOf iv).toNat)
  case atStart => exact ⟨0, by omega, rfl, Has.nil_ (Below.refl _ _) _⟩
  case round =>
    obtain ⟨i, hi, rfl, H⟩ := hrel
    by_cases hlt : (i : Int) < (n : Int)
    · obtain ⟨b, o, rfl, hbl, d1⟩ := HS.out.2 (by omega)
      have gl : l[i]? = some (l[i]?.getD false) := by rw [List.getElem?_eq_getElem (by rw [Q1.out]; omega)]; rfl
      have hr : Int.tmod (i : Int) 8 = ((i % 8 : Nat) : Int) := by rw [Int.tmod_eq_emod_of_nonneg (by omega)]; omega
      have hm8 : i % 8 < 8 := by omega
      have h2 := octet_take_eq (l := l) (q := i / 8) (m := i % 8) (by omega)
      rw [Nat.div_add_mod] at h2
      have hylt := Lib.hid h2.1
      have hON := Lib.hid (packTo_put (l := l) (N := i / 8 + 1) (k := i))
      have hOF := Lib.hid (packTo_off (l := l) (N := i / 8 + 1) (k := i))
      have HQ1 := Lib.hid (show (i + 1 + 7) / 8 = i / 8 + 1 by omega)
      have hcase : i % 8 = 0 ∧ (i + 7) / 8 = i / 8 ∧ i ≤ 8 * (i / 8) ∨ i % 8 ≠ 0 ∧ (i + 7) / 8 = i / 8 + 1 := by omega
      have hq9 : i / 8 ≤ 12500 := by omega
      obtain ⟨q, eq⟩ : ∃ q, q = i / 8 := ⟨_, rfl⟩
      obtain ⟨m, em⟩ : ∃ m, m = i % 8 := ⟨_, rfl⟩
      rw [← eq] at hON hOF HQ1 hcase hylt hq9
      rw [← em] at hr hm8 hON hcase hylt
      have HGET := Lib.hid (show (packTo l (q + 1) i).toList[q]? = some (Value.int .u8 ((octet (l.take i) q : Nat) : Int)) from by rw [Array.getElem?_toList]; exact packTo_get l (q + 1) i q (by omega))
      obtain ⟨y, ey⟩ : ∃ y, y = octet (l.take i) q := ⟨_, rfl⟩
      rw [← ey] at hylt hON HGET
      obtain ⟨x, ex⟩ : ∃ x, x = l[i]?.getD false := ⟨_, rfl⟩
      rw [← ex] at hON hOF gl
      have z0 : (0 : Int) ≤ (i : Int) := by omega
      have hm64 := w64 (show m ≤ 9223372036854775807 by omega)
      have d0 := Lib.hid (fun W (B : Below w.heap.size w W) => (B.cell (p := ⟨b, o + i, none⟩) hbl).trans ((d1 i (by omega)).trans (show (bl l)[i]? = some (.bool x) from by rw [bl, List.getElem?_map, gl]; rfl)))
      clear d1 gl h2 eq em ex ey
      rcases hcase with ⟨hm0, hq0, hq8⟩ | ⟨hm0, hq0⟩
      · rw [hq0] at H
        have HM := Lib.hid (packTo_more (l := l) (q := q) (k := i) hq8)
        have hT0 : ((m : Int) == 0) = true := by rw [beq_iff_eq]; omega
        clear hq0 hq8
        cases x
        · have HX := Lib.hid (hOF.out rfl)
          clear hON hOF
          go_wp2_with (at_builtin; refine wpList_app _root_.Go.Proofs.Ytcckplpfgpagmaa.WdW.u8 rfl (.tmp 16) (.tmp 17) rfl (H.alloc _) rfl (Sl.new1 _ _ _) rfl (one1 _ _) (by omega) (by simp only [maxLen]; omega) ?_; intro v3 w3 H3 _ _; rw [HM.out] at H3; have g1 := d0.out w3 H3.bel)
          go_roundw
          case rel =>
            refine ⟨i + 1, by omega, by go_num, ?_⟩
            rw [HQ1.out, HX.out]
            exact H3
          case measure => simp [intOf]; omega
        · have HON := Lib.hid (hON.out rfl)
          clear hON hOF
          go_wp2_with (at_builtin; refine wpList_app _root_.Go.Proofs.Ytcckplpfgpagmaa.WdW.u8 rfl (.tmp 16) (.tmp 17) rfl (H.alloc _) rfl (Sl.new1 _ _ _) rfl (one1 _ _) (by omega) (by simp only [maxLen]; omega) ?_; intro v3 w3 H3 _ _; rw [HM.out] at H3; have g1 := d0.out w3 H3.bel)
          obtain ⟨g, cap, rfl, hge, hgl⟩ := H3.own.form (by omega)
          have gc := H3.cellAt (j := q) (by omega) HGET.out
          have fz := H3.freeAt q
          have hlen : IntKind.i64.wrap (((q + 1 : Nat) : Int) - 1) = (q : Int) := by rw [IntKind.wrap_i64]; omega
          have y0 : (0 : Int) ≤ (q : Int) := by omega
          have y1 : (q : Int) < ((q + 1 : Nat) : Int) := by omega
          have HS3 := Lib.hid (fun u => H3.setAt (j := q) (by omega) u)
          clear H3
          go_loopw [5, 6] (fun t jv wr2 => ∃ j : Nat, j ≤ m ∧ jv = .int .i64 j ∧ t = .int .u8 ((2 ^ j : Nat) : Int) ∧ wr2 = w3) (fun _ jv _ => m - (intOf jv).toNat)
          case atStart => exact ⟨0, by omega, rfl, rfl, rfl⟩
          case round =>
            obtain ⟨j, hj, rfl, rfl, hwr2⟩ := hrel
            subst hwr2
            by_cases hjm : (j : Int) < (m : Int)
            · exfalso; omega
            · obtain rfl : j = m := by omega
              have hT : 2 ^ j ≤ 2 ^ 7 := Nat.pow_le_pow_right (by decide) (by omega)
              have hy2 := hylt.out
              obtain ⟨T, eT⟩ : ∃ T, T = 2 ^ j := ⟨_, rfl⟩
              rw [← eT] at HON hT hy2 ⊢
              have hw : IntKind.u8.wrap ((y : Int) + (T : Int)) = ((y + T : Nat) : Int) := by rw [IntKind.wrap_u8]; omega
              obtain ⟨Y, eY⟩ : ∃ Y, Y = y + T := ⟨_, rfl⟩
              rw [← eY] at hw HON
              clear eT eY
              go_wp2_with fail
              go_roundw
              case rel =>
                refine ⟨i + 1, by omega, by go_num, ?_⟩
                rw [HQ1.out, ← HON.out]
                exact HS3.out _
              case measure => simp [intOf]; omega
      · rw [hq0] at H
        have hT0 : ((m : Int) == 0) = false := by rw [beq_eq_false_iff_ne]; omega
        have g1 := d0.out wr H.bel
        have H3 := H
        clear hq0 H d0
        cases x
        · have HX := Lib.hid (hOF.out rfl)
          clear hON hOF
          go_wp2_with fail
          go_roundw
          case rel =>
            refine ⟨i + 1, by omega, by go_num, ?_⟩
            rw [HQ1.out, HX.out]
            exact H3
          case measure => simp [intOf]; omega
        · have HON := Lib.hid (hON.out rfl)
          clear hON hOF
          go_wp2_with fail
          obtain ⟨g, cap, rfl, hge, hgl⟩ := H3.own.form (by omega)
          have gc := H3.cellAt (j := q) (by omega) HGET.out
          have fz := H3.freeAt q
          have hlen : IntKind.i64.wrap (((q + 1 : Nat) : Int) - 1) = (q : Int) := by rw [IntKind.wrap_i64]; omega
          have y0 : (0 : Int) ≤ (q : Int) := by omega
          have y1 : (q : Int) < ((q + 1 : Nat) : Int) := by omega
          have HS3 := Lib.hid (fun u => H3.setAt (j := q) (by omega) u)
          clear H3
          go_loopw [5, 6] (fun t jv wr2 => ∃ j : Nat, j ≤ m ∧ jv = .int .i64 j ∧ t = .int .u8 ((2 ^ j : Nat) : Int) ∧ wr2 = wr) (fun _ jv _ => m - (intOf jv).toNat)
          case atStart => exact ⟨0, by omega, rfl, rfl, rfl⟩
          case round =>
            obtain ⟨j, hj, rfl, rfl, hwr2⟩ := hrel
            subst hwr2
            by_cases hjm : (j : Int) < (m : Int)
            · have HP := Lib.hid (Nat.pow_succ (n := 2) (m := j))
              have hT : 2 ^ j ≤ 2 ^ 6 := Nat.pow_le_pow_right (by decide) (by omega)
              obtain ⟨T, eT⟩ : ∃ T, T = 2 ^ j := ⟨_, rfl⟩
              rw [← eT] at HP hT ⊢
              have hw : IntKind.u8.wrap ((T : Int) * 2) = ((T * 2 : Nat) : Int) := by rw [IntKind.wrap_u8]; omega
              obtain ⟨T2, eT2⟩ : ∃ T2, T2 = T * 2 := ⟨_, rfl⟩
              rw [← eT2] at hw HP
              clear eT eT2
              go_wp2_with fail
              go_roundw
              case rel => exact ⟨j + 1, by omega, by go_num, by rw [HP.out], by trivial⟩
              case measure => simp [intOf]; omega
            · obtain rfl : j = m := by omega
              have hT : 2 ^ j ≤ 2 ^ 7 := Nat.pow_le_pow_right (by decide) (by omega)
              have hy2 := hylt.out
              obtain ⟨T, eT⟩ : ∃ T, T = 2 ^ j := ⟨_, rfl⟩
              rw [← eT] at HON hT hy2 ⊢
              have hw : IntKind.u8.wrap ((y : Int) + (T : Int)) = ((y + T : Nat) : Int) := by rw [IntKind.wrap_u8]; omega
              obtain ⟨Y, eY⟩ : ∃ Y, Y = y + T := ⟨_, rfl⟩
              rw [← eY] at hw HON
              clear eT eY
              go_wp2_with fail
              go_roundw
              case rel =>
                refine ⟨i + 1, by omega, by go_num, ?_⟩
                rw [HQ1.out, ← HON.out]
                exact HS3.out _
              case measure => simp [intOf]; omega
    · obtain rfl : i = n := by omega
      go_wp2_with fail
      go_ret
      refine ⟨_, rfl, ?_⟩
      rw [← packTo_list (by rw [Q1.out]; exact Nat.le_refl _), List.take_of_length_le (by rw [Q1.out]; exact Nat.le_refl _)] at H
      exact H
end Go.Proofs.Ytcckplpfgpagmaa.WdW
