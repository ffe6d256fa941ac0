/- A disk that is none: nil, or not made by New. -/
import Derived.Test.YtljiehnpknbohaaDkV
import Derived.Test.YtljiehnpknbohaaDkX3
import Derived.Test.YtljiehnpknbohaaDkX4
import Derived.Test.YtljiehnpknbohaaDkW
set_option linter.unusedVariables false
set_option linter.unusedSimpArgs false
namespace Go.Proofs.Ytljiehnpknbohaa.DkW
open Go.RowKit Go.Proofs.Ytljiehnpknbohaa Go.Proofs.Ytljiehnpknbohaa.Dk
/-- No disk. -/
def NoD (w : World) (v : Value) : Prop := v = .pointer none ∨ ∃ p, v = .pointer (some ⟨p, 0, none⟩) ∧ Blk w p false 0 none 0 0 0 0 false
theorem NoD.to {w w' : World} {v : Value} (h : NoD w v) (b : Below w.heap.size w w') : NoD w' v := by
  rcases h with h | ⟨p, h, hb⟩
  · exact Or.inl h
  · exact Or.inr ⟨p, h, b.row (row_lt hb) hb⟩
theorem append_no {w : World} {v : Value} (h : NoD w v) (X : Option Addr) (m cx : Nat) : Calls Try.prog 22 #[v, .slice X m cx] w fun e w' => e = .returned (.int .i64 1) ∧ Below w.heap.size w w' := by
  rcases h with rfl | ⟨p, rfl, hb⟩
  · exact append_nil X m cx
  · exact append_zero X m cx hb
theorem sync_no {w : World} {v : Value} (h : NoD w v) : Calls Try.prog 23 #[v] w fun e w' => e = .returned (.int .i64 1) ∧ Below w.heap.size w w' := by
  rcases h with rfl | ⟨p, rfl, hb⟩
  · exact sync_nil
  · exact sync_zero hb
theorem cut_no {w : World} {v : Value} (h : NoD w v) (z : Int) : Calls Try.prog 24 #[v, .int .i64 z] w fun e w' => e = .returned (.int .i64 1) ∧ Below w.heap.size w w' := by
  rcases h with rfl | ⟨p, rfl, hb⟩
  · exact cut_nil z
  · exact cut_zero z hb
theorem sparks_no {w : World} {v : Value} (h : NoD w v) (z : Int) : Calls Try.prog 21 #[v, .int .i64 z] w fun e w' => e = .returned (.tuple #[]) ∧ w' = w := by
  rcases h with rfl | ⟨p, rfl, hb⟩
  · exact sparks_nil z w
  · exact sparks_none z hb
theorem crash_no {w : World} {v : Value} (h : NoD w v) (z : Int) : Calls Try.prog 25 #[v, .int .i64 z] w fun e w' => e = .returned (.tuple #[]) ∧ w' = w := by
  rcases h with rfl | ⟨p, rfl, hb⟩
  · exact crash_nil z w
  · exact crash_zero z hb
theorem bytes_no {w : World} {v : Value} (h : NoD w v) : Calls Try.prog 15 #[v] w fun e w' => e = .returned (.slice none 0 0) ∧ w' = w := by
  rcases h with rfl | ⟨p, rfl, hb⟩
  · exact bytes_nil w
  · exact bytes_zero hb
theorem len_no {w : World} {v : Value} (h : NoD w v) : Calls Try.prog 16 #[v] w fun e w' => e = .returned (.int .i64 0) ∧ w' = w := by
  rcases h with rfl | ⟨p, rfl, hb⟩
  · exact len_nil w
  · exact len_raw hb
theorem safe_no {w : World} {v : Value} (h : NoD w v) : Calls Try.prog 17 #[v] w fun e w' => e = .returned (.int .i64 0) ∧ w' = w := by
  rcases h with rfl | ⟨p, rfl, hb⟩
  · exact safe_nil w
  · exact safe_raw hb
theorem room_no {w : World} {v : Value} (h : NoD w v) : Calls Try.prog 18 #[v] w fun e w' => e = .returned (.int .i64 0) ∧ w' = w := by
  rcases h with rfl | ⟨p, rfl, hb⟩
  · exact room_nil w
  · exact room_raw hb
theorem off_no {w : World} {v : Value} (h : NoD w v) : Calls Try.prog 19 #[v] w fun e w' => e = .returned (.bool false) ∧ w' = w := by
  rcases h with rfl | ⟨p, rfl, hb⟩
  · exact off_nil w
  · exact off_raw hb
theorem do_no {w : World} {v : Value} (h : NoD w v) (what : Nat) (X : Option Addr) (m cx : Nat) (z : Int) (hq : what < 256) :
    Calls Try.prog 13 #[v, .agg #[.int .u8 (what : Nat), .slice X m cx, .int .i64 z]] w fun e w' => e = .returned (.int .i64 (if 2 < what % 5 then 0 else 1)) ∧ Below w.heap.size w w' := by
  have BX := (Below.refl _ w).new (.cells #[.int .u8 (what : Nat), .slice X m cx, .int .i64 z] 35)
  have h := h.to BX
  have KA := Lib.hid (append_no h X m cx)
  have KS := Lib.hid (sync_no h)
  have KC := Lib.hid (cut_no h z)
  have KP := Lib.hid (sparks_no h z)
  have KK := Lib.hid (crash_no h z)
  have hlt : what % 5 < 5 := Nat.mod_lt _ (by omega)
  obtain ⟨j, ej⟩ : ∃ j, j = what % 5 := ⟨_, rfl⟩
  have hw5 : (what : Int) % 5 = (j : Int) := by omega
  rw [← ej] at hlt ⊢
  clear ej h
  rcases show j = 0 ∨ j = 1 ∨ j = 2 ∨ j = 3 ∨ j = 4 from by omega with rfl | rfl | rfl | rfl | rfl
  · go_enter Try.func13, Try.ntmps13
    go_wp2_with fail
    refine KA.out.mono ?_
    rintro e w1 ⟨rfl, b1⟩
    go_wp2_with fail
    go_ret
    exact ⟨rfl, BX.call b1⟩
  · go_enter Try.func13, Try.ntmps13
    go_wp2_with fail
    refine KS.out.mono ?_
    rintro e w1 ⟨rfl, b1⟩
    go_wp2_with fail
    go_ret
    exact ⟨rfl, BX.call b1⟩
  · go_enter Try.func13, Try.ntmps13
    go_wp2_with fail
    refine KC.out.mono ?_
    rintro e w1 ⟨rfl, b1⟩
    go_wp2_with fail
    go_ret
    exact ⟨rfl, BX.call b1⟩
  · go_enter Try.func13, Try.ntmps13
    go_wp2_with fail
    refine KP.out.mono ?_
    rintro e w1 ⟨rfl, rfl⟩
    go_wp2_with fail
    go_ret
    exact ⟨rfl, BX⟩
  · go_enter Try.func13, Try.ntmps13
    go_wp2_with fail
    refine KK.out.mono ?_
    rintro e w1 ⟨rfl, rfl⟩
    go_wp2_with fail
    go_ret
    exact ⟨rfl, BX⟩
set_option maxHeartbeats 2000000 in
theorem diskNone_any (K : DiskK) (what : Nat) (X : Option Addr) (m cx : Nat) (l : List Nat) (z : Int) (w : World) (hs : Sl w w.heap.size X m (bs l)) (ho : Deed.Ok ⟨what, l, z⟩) :
    Calls Try.prog 7 #[.agg #[.int .u8 (what : Nat), .slice X m cx, .int .i64 z]] w fun e w' => e = .returned (.bool true) ∧ Below w.heap.size w w' := by
  have hq : what < 256 := ho.what
  obtain ⟨j, ej⟩ : ∃ j, j = what % 5 := ⟨_, rfl⟩
  have hj5 : j < 5 := by omega
  have hw5 : (what : Int) % 5 = (j : Int) := by omega
  have HK := Lib.hid K
  have HDO := Lib.hid (fun (W : World) (v : Value) (h : NoD W v) => do_no h what X m cx z hq)
  rw [← ej] at HDO
  clear hs ho ej K
  obtain ⟨want, hwant, hw2⟩ : ∃ want : Int, (2 < j ∧ want = 0 ∨ ¬ 2 < j ∧ want = 1) ∧ want = (if 2 < j then 0 else 1) := by
    by_cases h : 2 < j
    · exact ⟨0, Or.inl ⟨h, rfl⟩, by rw [if_pos h]⟩
    · exact ⟨1, Or.inr ⟨h, rfl⟩, by rw [if_neg h]⟩
  rw [← hw2] at HDO
  clear hw2
  rcases hwant with ⟨hj, rfl⟩ | ⟨hj, rfl⟩
  all_goals (
    go_enter Try.func7, Try.ntmps7
    go_wp2_with fail
    obtain ⟨W0, hW0⟩ : ∃ W0, W0 = (((w.alloc (.cells #[.int .u8 (what : Nat), .slice X m cx, .int .i64 z] 35)).alloc (.cells #[.bool false, .int .i64 0, .slice none 0 0, .int .i64 0, .int .i64 0, .bool false] 51)).alloc (.cells #[.pointer none, .pointer (some ⟨w.heap.size + 1, 0, none⟩)] 23)) := ⟨_, rfl⟩
    rw [← hW0]
    have r0 : W0.heap[w.heap.size]? = some (.cells #[.int .u8 (what : Nat), .slice X m cx, .int .i64 z] 35 (0, 0)) := by rw [hW0]; exact row_alloc (row_alloc (heap_alloc_new w _) _) _
    have r1 : Blk W0 (w.heap.size + 1) false 0 none 0 0 0 0 false := by rw [hW0]; exact row_alloc (heap_alloc2_new w _ _) _
    have r2 : W0.heap[w.heap.size + 1 + 1]? = some (.cells #[.pointer none, .pointer (some ⟨w.heap.size + 1, 0, none⟩)] 23 (0, 0)) := by
      rw [hW0]
      have := heap_alloc_new ((w.alloc (.cells #[.int .u8 (what : Nat), .slice X m cx, .int .i64 z] 35)).alloc (.cells #[.bool false, .int .i64 0, .slice none 0 0, .int .i64 0, .int .i64 0, .bool false] 51)) (.cells #[.pointer none, .pointer (some ⟨w.heap.size + 1, 0, none⟩)] 23)
      simpa using this
    have b0 : Below w.heap.size w W0 := by rw [hW0]; exact (((Below.refl _ w).new _).new _).new _
    clear hW0
    obtain ⟨B2, hB2⟩ : ∃ B2, B2 = w.heap.size + 1 + 1 := ⟨_, rfl⟩
    obtain ⟨B1, hB1⟩ : ∃ B1, B1 = w.heap.size + 1 := ⟨_, rfl⟩
    obtain ⟨B0, hB0⟩ : ∃ B0, B0 = w.heap.size := ⟨_, rfl⟩
    rw [← hB2, ← hB1] at r2 ⊢
    rw [← hB1] at r1
    rw [← hB0] at r0 b0 ⊢
    have HB0 := Lib.hid hB0
    clear hB1 hB2 hB0
    go_loopw [10] (fun i wr => ∃ k : Nat, k ≤ 2 ∧ i = .int .i64 k ∧ wr.heap[B0]? = some (.cells #[.int .u8 (what : Nat), .slice X m cx, .int .i64 z] 35 (0, 0)) ∧ Blk wr B1 false 0 none 0 0 0 0 false ∧ wr.heap[B2]? = some (.cells #[.pointer none, .pointer (some ⟨B1, 0, none⟩)] 23 (0, 0)) ∧ Below B0 w wr) (fun i _ => 2 - (intOf i).toNat)
    case atStart => exact ⟨0, by omega, rfl, r0, r1, r2, b0⟩
    case round =>
      obtain ⟨k, hk, rfl, q0, q1, q2, bk⟩ := hrel
      clear r0 r1 r2 b0
      by_cases hlt : k < 2
      · obtain ⟨v, hv, hNo⟩ : ∃ v, wr.cell? ⟨B2, k, none⟩ = some v ∧ NoD wr v := by
          rcases show k = 0 ∨ k = 1 from by omega with rfl | rfl
          · exact ⟨_, cell_of_row wr B2 0 _ _ _ q2, Or.inl rfl⟩
          · exact ⟨_, cell_of_row wr B2 1 _ _ _ q2, Or.inr ⟨B1, rfl, q1⟩⟩
        have hlt' : (k : Int) < 2 := by omega
        have z0 : (0 : Int) ≤ (k : Int) := by omega
        have c0 := cell_of_row wr B0 0 _ _ _ q0
        have c1 := cell_of_row wr B0 1 _ _ _ q0
        have c2 := cell_of_row wr B0 2 _ _ _ q0
        go_wp2_with fail
        refine (HDO.out wr v hNo).mono ?_
        rintro e w1 ⟨rfl, b1⟩
        have N1 := Lib.hid (hNo.to b1)
        have q0 := b1.row (row_lt q0) q0
        have q1 : Blk w1 B1 false 0 none 0 0 0 0 false := b1.row (row_lt q1) q1
        have q2 := b1.row (row_lt q2) q2
        have bk := Lib.hid (show Below B0 w w1 from by rw [HB0.out] at bk ⊢; exact bk.call b1)
        clear b1 c0 c1 c2 hv hNo
        go_wp2_with fail
        refine (len_no N1.out).mono ?_
        rintro e w2 ⟨rfl, rfl⟩
        go_wp2_with fail
        refine (safe_no N1.out).mono ?_
        rintro e w3 ⟨rfl, rfl⟩
        go_wp2_with fail
        refine (room_no N1.out).mono ?_
        rintro e w4 ⟨rfl, rfl⟩
        go_wp2_with fail
        refine (bytes_no N1.out).mono ?_
        rintro e w5 ⟨rfl, rfl⟩
        go_wp2_with fail
        refine (off_no N1.out).mono ?_
        rintro e w6 ⟨rfl, rfl⟩
        go_wp2_with fail
        go_roundw
        case rel => exact ⟨k + 1, by omega, by go_num, q0, q1, q2, bk.out⟩
        case measure => simp [intOf]; omega
      · obtain rfl : k = 2 := by omega
        go_wp2_with fail
        refine (awake9_any HK.out _).mono ?_
        rintro e w2 ⟨rfl, b2⟩
        go_wp2_with fail
        go_ret
        refine ⟨rfl, ?_⟩
        rw [HB0.out] at bk
        exact bk.call b2)
end Go.Proofs.Ytljiehnpknbohaa.DkW
