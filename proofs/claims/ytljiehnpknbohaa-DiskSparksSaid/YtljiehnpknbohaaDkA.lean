/- The walk of the reference's Append (layer 9). -/
import Derived.Test.YtljiehnpknbohaaDkR
set_option linter.unusedVariables false
set_option linter.unusedSimpArgs false
namespace Go.Proofs.Ytljiehnpknbohaa.DkW
open Go.RowKit Go.Proofs.Ytljiehnpknbohaa Go.Proofs.Ytljiehnpknbohaa.Dk
set_option maxHeartbeats 2000000 in
theorem refAppend9_any (d : D) (xs : List Nat) (A : Option Addr) (n c : Nat) (X : Option Addr) (m cx : Nat) (w : World) (hd : d.Ok) (hs : Sl w w.heap.size A n (bs d.b)) (hc : n ≤ c) (hx : Sl w w.heap.size X m (bs xs)) (hb : Bytes xs) (hm : m ≤ 100000) :
    Calls Try.prog 26 #[.agg (rdC d A n c), .slice X m cx] w (RetD w A n (append d xs).1 (append d xs).2) := by
  obtain ⟨room, safe, left, b, off⟩ := d
  have hn : b.length = n := by simpa using hs.len
  have hxm : xs.length = m := by simpa using hx.len
  have HS := Lib.hid hs
  have HX := Lib.hid hx
  have HB := Lib.hid hb
  have HXM := Lib.hid hxm
  have hl := hd.left
  have hh := hd.hi
  have hsf := hd.safe
  have hln := hd.len
  have hrm := hd.room
  dsimp only at hl hh hs hsf hln hrm
  rw [hn] at hsf hln
  have hw : IntKind.i64.wrap ((n : Int) + (m : Int)) = ((n + m : Nat) : Int) := by rw [IntKind.wrap_i64]; omega
  clear hs hx hb
  cases off
  · by_cases h1 : room < n + m
    · have e : append ⟨room, safe, left, b, false⟩ xs = (⟨room, safe, left, b, false⟩, 5) := by simp [append, hn, hxm, h1]
      rw [e]
      have h1' : (room : Int) < ((n + m : Nat) : Int) := by omega
      obtain ⟨N, hN⟩ : ∃ N, N = n + m := ⟨_, rfl⟩
      rw [← hN] at hw h1'
      clear e hd hl hh hN
      go_enter Try.func26, Try.ntmps26
      simp only [rdC]
      go_wp2_with fail
      exact bodyPost_row_tmp rfl (w.heap.size + 1) 32 _ (0, 0) _ _ rfl (heap_alloc2_new _ _ _) Try.underlying32 rfl (by kernel_rfl) rfl rfl ⟨A, n, c, rfl, HS.out.to (((Below.refl _ w).new _).new _), From.refl _ _ _, hc, ((Below.refl _ w).new _).new _⟩
    · have h1' : ¬ (room : Int) < ((n + m : Nat) : Int) := by omega
      have S0 := HS.out.to ((((Below.refl _ w).new (.cells #[.int .i64 (room : Nat), .int .i64 (safe : Nat), .int .i64 left, .slice A n c, .bool false] 32)).new (.cells #[.int .i64 0, .int .i64 0, .int .i64 0, .slice none 0 0, .bool false] 32)).new (.cells #[] 5))
      have E := Lib.hid (show append ⟨room, safe, left, b, false⟩ xs = if 0 ≤ left ∧ left < m then ({ put ⟨room, safe, left, b, false⟩ xs left.toNat with left := 0, off := true }, 6) else (put ⟨room, safe, left, b, false⟩ xs m, 0) by simp [append, hn, hxm, h1])
      rw [E.out]
      obtain ⟨⟨d2, x2⟩, hR⟩ : ∃ R, R = (if 0 ≤ left ∧ left < m then ({ put ⟨room, safe, left, b, false⟩ xs left.toNat with left := 0, off := true }, 6) else (put ⟨room, safe, left, b, false⟩ xs m, 0) : D × Int) := ⟨_, rfl⟩
      rw [← hR]
      have HR := Lib.hid hR
      obtain ⟨N, hN⟩ : ∃ N, N = n + m := ⟨_, rfl⟩
      rw [← hN] at hw h1'
      have HN := Lib.hid hN
      have HHN := Lib.hid hn
      clear hN hd hn hxm E hR
      go_enter Try.func26, Try.ntmps26
      simp only [rdC]
      go_upto_region 5 with fail
      obtain ⟨X0, hX⟩ : ∃ X0, X0 = ((w.alloc (.cells #[.int .i64 (room : Nat), .int .i64 (safe : Nat), .int .i64 left, .slice A n c, .bool false] 32)).alloc (.cells #[.int .i64 0, .int .i64 0, .int .i64 0, .slice none 0 0, .bool false] 32)) := ⟨_, rfl⟩
      rw [← hX]
      have R : X0.heap[w.heap.size]? = some (.cells #[.int .i64 (room : Nat), .int .i64 (safe : Nat), .int .i64 left, .slice A n c, .bool false] 32 (0, 0)) := by rw [hX]; exact row_alloc (heap_alloc_new w _) _
      have R1 : X0.heap[w.heap.size + 1]? = some (.cells #[.int .i64 0, .int .i64 0, .int .i64 0, .slice none 0 0, .bool false] 32 (0, 0)) := by rw [hX]; exact heap_alloc2_new w _ _
      have BX : Below w.heap.size w X0 := by rw [hX]; exact ((Below.refl _ w).new _).new _
      have lX : w.heap.size + 2 ≤ X0.heap.size := by rw [hX]; simp
      rw [← hX] at S0
      clear hX
      have RA := row_alloc R (.cells #[] 5)
      obtain ⟨a0, a1, a2, a3, a4⟩ := row5 RA
      obtain ⟨af0, af1, af2, af3, af4⟩ := free5 RA
      go_upto_region 6 with (first
        | (at_builtin; refine wpList_app u8 rfl (.tmp 23) (.tmp 25) rfl (Has.made0 (Below.refl _ X0) _) rfl S0 rfl (bs_one _) (by omega) (by simp only [maxLen]; omega) ?_; intro v2 w2 H2 g2 _; rw [List.nil_append, Nat.zero_add] at H2)
        | fail)
      clear a0 af0 a1 af1 a2 af2 a3 af3 a4 af4
      have r0 := g2.row (show w.heap.size ≠ X0.heap.size by omega) RA
      have r1 := g2.row (show w.heap.size + 1 ≠ X0.heap.size by omega) (row_alloc R1 _)
      clear RA R R1 g2 S0
      have HBX := Lib.hid BX
      clear BX
      go_wp2_with fail
      have hy0 : ∀ k : Nat, k = 0 → (if 0 ≤ left then left - (k : Int) else left) = left := fun k h => by subst h; split <;> omega
      obtain ⟨A3, c3, rfl, -, -, O3⟩ := H2.slice
      have H2 := H2.weaken HBX.out
      have O3 : ∀ g, (Value.slice A3 n c3).ownBlock = some g → w.heap.size + 2 ≤ g := fun g h => by have := O3 g h; omega
      go_loopw [6, 7] (fun v i wr => ∃ k : Nat, ∃ y : Int, k ≤ m ∧ i = .int .i64 k ∧ (0 ≤ left → (k : Int) ≤ left) ∧ Hid (y = if 0 ≤ left then left - (k : Int) else left) ∧ Has w wr 5 v (n + k) (bs (b ++ xs.take k)) ∧ (∀ g, v.ownBlock = some g → w.heap.size + 2 ≤ g) ∧ wr.heap[w.heap.size]? = some (.cells #[.int .i64 (room : Nat), .int .i64 (safe : Nat), .int .i64 y, .slice A n c, .bool false] 32 (0, 0)) ∧ wr.heap[w.heap.size + 1]? = some (.cells #[.int .i64 0, .int .i64 0, .int .i64 0, .slice none 0 0, .bool false] 32 (0, 0))) (fun _ i _ => m - (intOf i).toNat)
      case atStart => exact ⟨0, left, by omega, rfl, (fun h => by omega), (hy0 0 rfl).symm, by rw [List.take_zero, List.append_nil]; exact H2, O3, r0, r1⟩
      case round =>
        obtain ⟨k, y, hk, rfl, hkl, HY, HV, OV, q0, q1⟩ := hrel
        clear r0 r1 H2 O3 hy0
        obtain ⟨Av, cv, rfl, hcv, SV, -⟩ := HV.slice
        have HHV := Lib.hid HV
        have HOV := Lib.hid OV
        have hy1 : -1 ≤ y ∧ y ≤ 9223372036854775807 := by have := HY.out; split at this <;> omega
        have hwr := row_lt q1
        clear HV OV SV
        by_cases hlt : k < m
        · have hlt' : (k : Int) < (m : Int) := by omega
          obtain ⟨xb, xo, rfl, hxb, hxc⟩ := HX.out.2 (by omega)
          clear hxc
          by_cases h0 : y = 0
          · have hlk : left = (k : Int) := by have := HY.out; split at this <;> omega
            obtain ⟨rfl, rfl⟩ : d2 = ⟨room, safe, 0, b ++ xs.take k, true⟩ ∧ x2 = 6 := by
              have := HR.out
              rw [if_pos (by omega), hlk, Int.toNat_natCast] at this
              injection this with h1 h2
              exact ⟨h1, h2⟩
            subst h0
            have KS := Lib.hid (refSpark_none room safe false A n c wr)
            clear HR HY
            obtain ⟨a0, a1, a2, a3, a4⟩ := row5 q0
            obtain ⟨af0, af1, af2, af3, af4⟩ := free5 q0
            go_wp2_with fail
            refine KS.out.mono ?_
            rintro e w3 ⟨rfl, b3⟩
            have q0 := b3.row (row_lt q0) q0
            have q1 := b3.row (row_lt q1) q1
            have HV := HHV.out.below b3
            have l3 := b3.size
            clear a0 af0 a1 af1 a2 af2 a3 af3 a4 af4
            clear b3 HHV
            go_upto_region 12 with (first
              | (refine wpList_store_grown rfl 32 _ _ rfl w.heap.size #[.int .i64 (room : Nat), .int .i64 (safe : Nat), .int .i64 0, .slice A n c, .bool true] rfl rfl 32 _ (row_alloc q0 _) (by kernel_rfl) rfl (by simp [Value.oneCell']) ?_; intro W4 h4 g4 s4)
              | fail)
            have q1 := g4.row (show w.heap.size + 1 ≠ w.heap.size by omega) (row_alloc q1 _)
            have HV := (HV.alloc _).other g4 (Nat.le_refl _) (fun e => by have := HOV.out _ e; omega)
            clear g4 s4 q0
            obtain ⟨b0, b1, b2, b3, b4⟩ := row5 h4
            obtain ⟨bf0, bf1, bf2, bf3, bf4⟩ := free5 h4
            go_upto_region 13 with fail
            clear b0 bf0 b1 bf1 b2 bf2 b3 bf3 b4 bf4
            obtain ⟨W5, eW5, h5, gW5, sW5⟩ := put5 (i := 3) h4 (.slice Av (n + k) cv)
            rw [← eW5]
            clear eW5
            have h5 : W5.heap[w.heap.size]? = some (.cells #[.int .i64 (room : Nat), .int .i64 (safe : Nat), .int .i64 0, .slice Av (n + k) cv, .bool true] 32 (0, 0)) := h5
            have q1 := gW5.row (show w.heap.size + 1 ≠ w.heap.size by omega) q1
            have HV := HV.other gW5 (Nat.le_refl _) (fun e => by have := HOV.out _ e; omega)
            clear gW5 sW5 h4
            obtain ⟨b0, b1, b2, b3, b4⟩ := row5 h5
            obtain ⟨bf0, bf1, bf2, bf3, bf4⟩ := free5 h5
            go_wp2_with (refine wpList_store_row rfl 32 _ _ rfl (w.heap.size + 1) #[.int .i64 (room : Nat), .int .i64 (safe : Nat), .int .i64 0, .slice Av (n + k) cv, .bool true] rfl rfl 32 _ (q1) (by kernel_rfl) rfl (by simp [Value.oneCell']) ?_)
            have gf := grown_setRow (w := W5) (g := w.heap.size + 1) #[.int .i64 (room : Nat), .int .i64 (safe : Nat), .int .i64 0, .slice Av (n + k) cv, .bool true]
            have HF := HV.other gf (Nat.le_succ _) (fun e => by have := HOV.out _ e; omega)
            obtain ⟨A9, c9, e9, hc9, S9, -⟩ := HF.slice
            cases e9
            exact bodyPost_row_tmp rfl (w.heap.size + 1) 32 _ (0, 0) _ _ rfl (setRow_heap _ _ _ _ _ _ q1) Try.underlying32 rfl (by kernel_rfl) rfl rfl ⟨Av, n + k, cv, rfl, S9, Or.inr (Has.newA HF), hc9, HF.bel⟩
          · have KS := Lib.hid (refSpark_some room safe y _ false A n c wr hy1.1 hy1.2 h0 rfl)
            have HY2 := Lib.hid (show spend y = if 0 ≤ left then left - ((k + 1 : Nat) : Int) else left by
              have h := HY.out
              have := hkl
              unfold spend
              split at h <;> rename_i h9
              · rw [if_pos h9, if_pos (by omega)]; omega
              · rw [if_neg h9, if_neg (by omega)]; omega)
            have hkl2 : 0 ≤ left → ((k + 1 : Nat) : Int) ≤ left := fun h9 => by
              have h := HY.out
              rw [if_pos h9] at h
              have := hkl h9
              omega
            obtain ⟨y2, ey2⟩ : ∃ y2, y2 = spend y := ⟨_, rfl⟩
            rw [← ey2] at KS HY2
            clear ey2
            obtain ⟨a0, a1, a2, a3, a4⟩ := row5 q0
            obtain ⟨af0, af1, af2, af3, af4⟩ := free5 q0
            go_wp2_with fail
            refine KS.out.mono ?_
            rintro e w3 ⟨rfl, b3⟩
            have q0 := b3.row (row_lt q0) q0
            have q1 := b3.row (row_lt q1) q1
            have HV := HHV.out.below b3
            have l3 := b3.size
            clear a0 af0 a1 af1 a2 af2 a3 af3 a4 af4
            clear b3 HHV
            have hby := HB.out.at k
            have HT := Lib.hid (take_snoc (l := xs) (k := k) (by rw [HXM.out]; exact hlt))
            have hgx := bs_get (l := xs) (j := k) (by rw [HXM.out]; exact hlt)
            obtain ⟨x, ex⟩ : ∃ x, x = xs[k]?.getD 0 := ⟨_, rfl⟩
            rw [← ex] at hby HT hgx
            clear ex
            have z0 : (0 : Int) ≤ (k : Int) := by omega
            go_upto_region 14 with (first
              | (refine wpList_store_grown rfl 32 _ _ rfl w.heap.size #[.int .i64 (room : Nat), .int .i64 (safe : Nat), .int .i64 y2, .slice A n c, .bool false] rfl rfl 32 _ (row_alloc q0 _) (by kernel_rfl) rfl (by simp [Value.oneCell']) ?_; intro W4 h4 g4 s4)
              | fail)
            have q1 := g4.row (show w.heap.size + 1 ≠ w.heap.size by omega) (row_alloc q1 _)
            have HV := (HV.alloc _).other g4 (Nat.le_refl _) (fun e => by have := HOV.out _ e; omega)
            obtain ⟨yb, yo, ye, -, yc⟩ := (HX.out.to HV.bel).2 (by omega)
            cases ye
            have hcell := (yc k hlt).trans hgx
            clear g4 s4 q0 yc hgx
            go_wp2_with (first
              | (at_builtin; refine wpList_app _root_.Go.Proofs.Ytljiehnpknbohaa.DkW.u8 rfl (.tmp 44) (.tmp 49) rfl (HV.alloc _) rfl (Sl.new1 _ _ _) rfl (one1 _ _) (by have := HN.out; omega) (by have := HN.out; simp only [maxLen]; omega) ?_; intro v5 w5 H5 g5 o5)
              | fail)
            have q0 := (g5.block _ (row_lt (row_alloc h4 _)) (fun e => by have := HOV.out _ e.symm; omega)).trans (row_alloc h4 (.cells #[.int .u8 (x : Nat)] 5))
            have q1 := (g5.block _ (row_lt (row_alloc q1 _)) (fun e => by have := HOV.out _ e.symm; omega)).trans (row_alloc q1 (.cells #[.int .u8 (x : Nat)] 5))
            have hw4 := row_lt h4
            have O5 : ∀ g, v5.ownBlock = some g → w.heap.size + 2 ≤ g := fun g h => by
              rcases o5 with o5 | o5
              · exact HOV.out g (by rw [← o5]; exact h)
              · rw [o5] at h; injection h with h; simp at h; have := HV.bel.size; have := row_lt q1; have := l3; omega
            go_roundw
            case rel =>
              refine ⟨k + 1, y2, by omega, by go_num, hkl2, HY2, ?_, O5, q0, q1⟩
              have e : bs (b ++ xs.take k) ++ [Value.int .u8 (x : Int)] = bs (b ++ xs.take (k + 1)) := by rw [HT.out, ← List.append_assoc, ← bs_append (b ++ xs.take k)]; rfl
              rw [e] at H5
              exact H5
            case measure => simp [intOf]; omega
        · obtain rfl : k = m := by omega
          obtain ⟨rfl, rfl⟩ : d2 = ⟨room, safe, y, b ++ xs.take k, false⟩ ∧ x2 = 0 := by
            have := HR.out
            rw [if_neg (fun h9 => by have := hkl h9.1; omega)] at this
            injection this with h1 h2
            refine ⟨?_, h2⟩
            rw [h1, HY.out]
            rfl
          clear HR HY
          obtain ⟨a0, a1, a2, a3, a4⟩ := row5 q0
          obtain ⟨af0, af1, af2, af3, af4⟩ := free5 q0
          have HV := HHV.out
          clear HHV
          go_upto_region 16 with fail
          clear a0 af0 a1 af1 a2 af2 a3 af3 a4 af4
          obtain ⟨W5, eW5, h5, gW5, sW5⟩ := put5 (i := 3) q0 (.slice Av (n + k) cv)
          rw [← eW5]
          clear eW5
          have h5 : W5.heap[w.heap.size]? = some (.cells #[.int .i64 (room : Nat), .int .i64 (safe : Nat), .int .i64 y, .slice Av (n + k) cv, .bool false] 32 (0, 0)) := h5
          have q1 := gW5.row (show w.heap.size + 1 ≠ w.heap.size by omega) q1
          have HV := HV.other gW5 (Nat.le_refl _) (fun e => by have := HOV.out _ e; omega)
          clear gW5 sW5 q0
          obtain ⟨b0, b1, b2, b3, b4⟩ := row5 h5
          obtain ⟨bf0, bf1, bf2, bf3, bf4⟩ := free5 h5
          go_wp2_with (refine wpList_store_row rfl 32 _ _ rfl (w.heap.size + 1) #[.int .i64 (room : Nat), .int .i64 (safe : Nat), .int .i64 y, .slice Av (n + k) cv, .bool false] rfl rfl 32 _ (q1) (by kernel_rfl) rfl (by simp [Value.oneCell']) ?_)
          have gf := grown_setRow (w := W5) (g := w.heap.size + 1) #[.int .i64 (room : Nat), .int .i64 (safe : Nat), .int .i64 y, .slice Av (n + k) cv, .bool false]
          have HF := HV.other gf (Nat.le_succ _) (fun e => by have := HOV.out _ e; omega)
          obtain ⟨A9, c9, e9, hc9, S9, -⟩ := HF.slice
          cases e9
          exact bodyPost_row_tmp rfl (w.heap.size + 1) 32 _ (0, 0) _ _ rfl (setRow_heap _ _ _ _ _ _ q1) Try.underlying32 rfl (by kernel_rfl) rfl rfl ⟨Av, n + k, cv, rfl, S9, Or.inr (Has.newA HF), hc9, HF.bel⟩
  · have e : append ⟨room, safe, left, b, true⟩ xs = (⟨room, safe, left, b, true⟩, 6) := by simp [append]
    rw [e]
    clear e hd hl hh
    go_enter Try.func26, Try.ntmps26
    simp only [rdC]
    go_wp2_with fail
    exact bodyPost_row_tmp rfl (w.heap.size + 1) 32 _ (0, 0) _ _ rfl (heap_alloc2_new _ _ _) Try.underlying32 rfl (by kernel_rfl) rfl rfl ⟨A, n, c, rfl, HS.out.to (((Below.refl _ w).new _).new _), From.refl _ _ _, hc, ((Below.refl _ w).new _).new _⟩
end Go.Proofs.Ytljiehnpknbohaa.DkW
