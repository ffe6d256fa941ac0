/- The walk of ReplyReads, case 1. -/
import Derived.Test.YtcinnjihghpngaaRepM
set_option linter.unusedVariables false
set_option linter.unusedSimpArgs false
namespace Go.Proofs.Ytcinnjihghpngaa.AskW
open Go.RowKit Go.Proofs.Ytcinnjihghpngaa Go.Proofs.Ytcinnjihghpngaa.Ask
set_option maxRecDepth 100000 in
set_option maxHeartbeats 32000000 in
theorem replyReads_1 (f m : Nat) (Aw : Option Addr) (nw cw : Nat) (Ab : Option Addr) (nb cb : Nat) (W : List Nat) (B : List Bool) (w : World) (hm : m < 65536)
    (hW : Sl w w.heap.size Aw nw (ws W)) (hB : Sl w w.heap.size Ab nb (bl B)) (hcb : nb ≤ cb) (hfq : f % 5 = 1) :
    Calls Try.prog 10 #[.int .u8 (f : Nat), .int .u16 (m : Nat), .slice Aw nw cw, .slice Ab nb cb] w fun e w' => e = .returned (.bool true) ∧ Below w.heap.size w w' := by
  by_cases h1 : (130 : Int) < (nw : Int)
  · clear hW hB hcb
    go_enter Try.func10, Try.ntmps10
    go_wp2_with (go_at_call 29; refine (awake3_any _).mono ?_; rintro e wa ⟨rfl, ba⟩)
    go_ret
    exact ⟨rfl, ba⟩
  have h1b : decide ((130 : Int) < (nw : Int)) = false := decide_eq_false h1
  by_cases h2 : (2100 : Int) < (nb : Int)
  · clear hW hB hcb
    go_enter Try.func10, Try.ntmps10
    go_wp2_with (go_at_call 29; refine (awake3_any _).mono ?_; rintro e wa ⟨rfl, ba⟩)
    go_ret
    exact ⟨rfl, ba⟩
  have h2b : decide ((2100 : Int) < (nb : Int)) = false := decide_eq_false h2
  have qW : W.length = nw := by simpa using hW.len
  have qB : B.length = nb := by simpa using hB.len
  have hr : Int.tmod (f : Int) 5 = ((f % 5 : Nat) : Int) := by rw [Int.tmod_eq_emod_of_nonneg (by omega)]; omega
  have hr8 : IntKind.u8.wrap ((f % 5 : Nat) : Int) = ((f % 5 : Nat) : Int) := by rw [IntKind.wrap_u8]; omega
  have wm := w64 (show m ≤ 9223372036854775807 by omega)
  obtain ⟨q, eq⟩ : ∃ q, q = f % 5 := ⟨_, rfl⟩
  rw [← eq] at hr hr8
  obtain rfl : q = 1 := by omega
  clear eq hfq
  have HB := Lib.hid hB
  have HW := Lib.hid hW
  have QB := Lib.hid qB
  have QW := Lib.hid qW
  have KF0 := fun X (b : Below w.heap.size w X) => fits2_any 2 0 m 0 none 0 0 none 0 0 [] [] 2 0 Ab nb cb none 0 0 0 0 B [] X (Sl.empty _ _ _) (Sl.empty _ _ _) (wfq 2 m [] (by decide) hm (fun x hx => by cases hx)) (by omega) (by omega) (HB.out.to b) (Sl.empty _ _ _) (by omega) (by omega) hcb
  rw [fits_bits 2 m (by omega) B] at KF0
  rw [qB] at KF0
  have hm7 : IntKind.i64.wrap ((m : Int) + 7) = (m : Int) + 7 := by rw [IntKind.wrap_i64]; omega
  have hq7 : Int.tdiv ((m : Int) + 7) 8 = (((m + 7) / 8 : Nat) : Int) := by rw [Int.tdiv_eq_ediv_of_nonneg (by omega)]; omega
  have q64 := w64 (show (m + 7) / 8 ≤ 9223372036854775807 by omega)
  have h88 : IntKind.i64.wrap ((((m + 7) / 8 : Nat) : Int) * 8) = (((m + 7) / 8 * 8 : Nat) : Int) := by rw [IntKind.wrap_i64]; omega
  obtain ⟨p, ep⟩ : ∃ p, p = (m + 7) / 8 := ⟨_, rfl⟩
  rw [← ep] at hq7 q64 h88 KF0
  obtain ⟨N, hN⟩ : ∃ N, N = p * 8 := ⟨_, rfl⟩
  rw [← hN] at h88 KF0
  obtain ⟨Q0, hQ0⟩ : ∃ Q0, Q0 = (decide (1 ≤ m) && (decide (m ≤ 2000) && (nb == N))) := ⟨_, rfl⟩
  rw [show (decide (1 ≤ m) && (decide (m ≤ 2000) && (nb == N && !((B.drop m).any id)))) = (Q0 && !((B.drop m).any id)) from by rw [hQ0]; cases decide (1 ≤ m) <;> cases decide (m ≤ 2000) <;> cases (nb == N) <;> rfl] at KF0
  have KF := Lib.hid KF0
  clear KF0 hB hW qW qB ep hN
  have WAY : ∀ (u : Value) (X : World), u = .bool Q0 → True := fun _ _ _ => trivial
  by_cases g1 : 1 ≤ m
  · have v1 : decide ((1 : Int) ≤ (m : Int)) = true := decide_eq_true (by omega)
    have u1 : (1 : Int) ≤ (m : Int) := by omega
    by_cases g2 : m ≤ 2000
    · have v2 : decide ((m : Int) ≤ 2000) = true := decide_eq_true (by omega)
      have u2 : (m : Int) ≤ 2000 := by omega
      by_cases g3 : nb = N
      · have v3 : ((nb : Int) == (N : Int)) = true := by rw [beq_iff_eq]; omega
        have e0 : Q0 = true := by rw [hQ0, decide_eq_true g1, decide_eq_true g2, show (nb == N) = true by rw [beq_iff_eq]; exact g3]; rfl
        subst e0
        clear hQ0 WAY g1 g2 g3
        go_enter Try.func10, Try.ntmps10
        go_wp2_with fail
        all_goals (
          obtain ⟨X1, hX1⟩ : ∃ X1, X1 = ((w.alloc (.cells #[.int .u8 1, .int .u8 2, .int .u8 3, .int .u8 4, .int .u8 23] 5)).alloc (.cells #[.int .u8 2, .int .u16 0, .int .u16 (m : Nat), .int .u16 0, .slice none 0 0, .slice none 0 0] 26)).alloc (.cells #[.int .u8 2, .int .u8 0, .slice Ab nb cb, .slice none 0 0, .int .u16 0, .int .u16 0] 49) := ⟨_, rfl⟩
          have hb : Below w.heap.size w X1 := by rw [hX1]; exact (((Below.refl _ _).new _).new _).new _
          have ra : X1.heap[w.heap.size + 1]? = _ := hX1 ▸ row_alloc (heap_alloc2_new w _ _) _
          have rr : X1.heap[w.heap.size + 1 + 1]? = some (.cells #[.int .u8 2, .int .u8 0, .slice Ab nb cb, .slice none 0 0, .int .u16 0, .int .u16 0] 49 (0, 0)) := by rw [hX1]; simpa using heap_alloc_new ((w.alloc (.cells #[.int .u8 1, .int .u8 2, .int .u8 3, .int .u8 4, .int .u8 23] 5)).alloc (.cells #[.int .u8 2, .int .u16 0, .int .u16 (m : Nat), .int .u16 0, .slice none 0 0, .slice none 0 0] 26)) (.cells #[.int .u8 2, .int .u8 0, .slice Ab nb cb, .slice none 0 0, .int .u16 0, .int .u16 0] 49)
          rw [← hX1]
          clear hX1
          obtain ⟨c0, c1, c2, c3, c4, c5⟩ := row6 ra
          obtain ⟨d0, d1, d2, d3, d4, d5⟩ := row6 rr
          go_loop [11, 13] (fun u i => ∃ k : Nat, m ≤ k ∧ (k ≤ nb ∨ k = m) ∧ i = .int .i64 k ∧ u = .bool (true && !(((B.take k).drop m).any id))) (fun _ i => nb - (intOf i).toNat)
          case atStart => exact ⟨m, by omega, by omega, rfl, by rw [List.drop_eq_nil_of_le (by simp; omega)]; rfl⟩
          case round =>
            obtain ⟨k, hk1, hk2, rfl, rfl⟩ := hrel
            by_cases hlt : k < nb
            · obtain ⟨b, o, rfl, hbl, dd⟩ := (HB.out.to hb).2 (by omega)
              have gk := (dd k hlt).trans (bl_get (by rw [QB.out]; exact hlt))
              have HS := Lib.hid (show ((B.take (k + 1)).drop m).any id = (((B.take k).drop m).any id || B[k]?.getD false) from by
                rw [List.take_succ_eq_append_getElem (by rw [QB.out]; exact hlt), List.drop_append_of_le_length (by rw [List.length_take, QB.out]; omega), List.any_append, List.getElem?_eq_getElem (by rw [QB.out]; exact hlt)]; simp)
              obtain ⟨x, ex⟩ : ∃ x, x = B[k]?.getD false := ⟨_, rfl⟩
              obtain ⟨y, ey⟩ : ∃ y, y = ((B.take k).drop m).any id := ⟨_, rfl⟩
              rw [← ex] at gk HS
              rw [← ey] at HS ⊢
              have y0 : (0 : Int) ≤ (k : Int) := by omega
              have y1 : (k : Int) < (nb : Int) := by omega
              clear dd ex ey
              cases y <;> (
                go_wp2_with fail
                go_round
                case rel => exact ⟨k + 1, by omega, by omega, by go_num, by rw [HS.out]; cases x <;> rfl⟩
                case measure => simp [intOf]; omega)
            · have HE := Lib.hid (show ((B.take k).drop m).any id = (B.drop m).any id from by rw [List.take_of_length_le (by rw [QB.out]; omega)])
              obtain ⟨y, ey⟩ : ∃ y, y = (B.drop m).any id := ⟨_, rfl⟩
              rw [HE.out]
              rw [← ey] at KF ⊢
              have KF2 := Lib.hid (KF.out _ hb)
              clear hk1 hk2 KF HE ey
              cases y <;> (
                go_wp2_with (first
                  | (go_at_call 41; refine KF2.out.mono ?_; rintro e w1 ⟨rfl, b1⟩)
                  | (go_at_call 29; refine (awake3_any _).mono ?_; rintro e wa ⟨rfl, ba⟩))
                go_ret
                exact ⟨rfl, (hb.call b1).call ba⟩))
      · have v3 : ((nb : Int) == (N : Int)) = false := by rw [beq_eq_false_iff_ne]; omega
        have e0 : Q0 = false := by rw [hQ0, show (nb == N) = false by rw [beq_eq_false_iff_ne]; exact g3]; simp
        subst e0
        clear hQ0 WAY g1 g2 g3
        go_enter Try.func10, Try.ntmps10
        go_wp2_with fail
        all_goals (
          obtain ⟨X1, hX1⟩ : ∃ X1, X1 = ((w.alloc (.cells #[.int .u8 1, .int .u8 2, .int .u8 3, .int .u8 4, .int .u8 23] 5)).alloc (.cells #[.int .u8 2, .int .u16 0, .int .u16 (m : Nat), .int .u16 0, .slice none 0 0, .slice none 0 0] 26)).alloc (.cells #[.int .u8 2, .int .u8 0, .slice Ab nb cb, .slice none 0 0, .int .u16 0, .int .u16 0] 49) := ⟨_, rfl⟩
          have hb : Below w.heap.size w X1 := by rw [hX1]; exact (((Below.refl _ _).new _).new _).new _
          have ra : X1.heap[w.heap.size + 1]? = _ := hX1 ▸ row_alloc (heap_alloc2_new w _ _) _
          have rr : X1.heap[w.heap.size + 1 + 1]? = some (.cells #[.int .u8 2, .int .u8 0, .slice Ab nb cb, .slice none 0 0, .int .u16 0, .int .u16 0] 49 (0, 0)) := by rw [hX1]; simpa using heap_alloc_new ((w.alloc (.cells #[.int .u8 1, .int .u8 2, .int .u8 3, .int .u8 4, .int .u8 23] 5)).alloc (.cells #[.int .u8 2, .int .u16 0, .int .u16 (m : Nat), .int .u16 0, .slice none 0 0, .slice none 0 0] 26)) (.cells #[.int .u8 2, .int .u8 0, .slice Ab nb cb, .slice none 0 0, .int .u16 0, .int .u16 0] 49)
          rw [← hX1]
          clear hX1
          obtain ⟨c0, c1, c2, c3, c4, c5⟩ := row6 ra
          obtain ⟨d0, d1, d2, d3, d4, d5⟩ := row6 rr
          go_loop [11, 13] (fun u i => ∃ k : Nat, m ≤ k ∧ (k ≤ nb ∨ k = m) ∧ i = .int .i64 k ∧ u = .bool (false && !(((B.take k).drop m).any id))) (fun _ i => nb - (intOf i).toNat)
          case atStart => exact ⟨m, by omega, by omega, rfl, by rw [List.drop_eq_nil_of_le (by simp; omega)]; rfl⟩
          case round =>
            obtain ⟨k, hk1, hk2, rfl, rfl⟩ := hrel
            by_cases hlt : k < nb
            · obtain ⟨b, o, rfl, hbl, dd⟩ := (HB.out.to hb).2 (by omega)
              have gk := (dd k hlt).trans (bl_get (by rw [QB.out]; exact hlt))
              have HS := Lib.hid (show ((B.take (k + 1)).drop m).any id = (((B.take k).drop m).any id || B[k]?.getD false) from by
                rw [List.take_succ_eq_append_getElem (by rw [QB.out]; exact hlt), List.drop_append_of_le_length (by rw [List.length_take, QB.out]; omega), List.any_append, List.getElem?_eq_getElem (by rw [QB.out]; exact hlt)]; simp)
              obtain ⟨x, ex⟩ : ∃ x, x = B[k]?.getD false := ⟨_, rfl⟩
              obtain ⟨y, ey⟩ : ∃ y, y = ((B.take k).drop m).any id := ⟨_, rfl⟩
              rw [← ex] at gk HS
              rw [← ey] at HS ⊢
              have y0 : (0 : Int) ≤ (k : Int) := by omega
              have y1 : (k : Int) < (nb : Int) := by omega
              clear dd ex ey
              cases y <;> (
                go_wp2_with fail
                go_round
                case rel => exact ⟨k + 1, by omega, by omega, by go_num, by rw [HS.out]; cases x <;> rfl⟩
                case measure => simp [intOf]; omega)
            · have HE := Lib.hid (show ((B.take k).drop m).any id = (B.drop m).any id from by rw [List.take_of_length_le (by rw [QB.out]; omega)])
              obtain ⟨y, ey⟩ : ∃ y, y = (B.drop m).any id := ⟨_, rfl⟩
              rw [HE.out]
              rw [← ey] at KF ⊢
              have KF2 := Lib.hid (KF.out _ hb)
              clear hk1 hk2 KF HE ey
              cases y <;> (
                go_wp2_with (first
                  | (go_at_call 41; refine KF2.out.mono ?_; rintro e w1 ⟨rfl, b1⟩)
                  | (go_at_call 29; refine (awake3_any _).mono ?_; rintro e wa ⟨rfl, ba⟩))
                go_ret
                exact ⟨rfl, (hb.call b1).call ba⟩))
    · have v2 : decide ((m : Int) ≤ 2000) = false := decide_eq_false (by omega)
      have u2 : ¬ (m : Int) ≤ 2000 := by omega
      have e0 : Q0 = false := by rw [hQ0, decide_eq_false g2]; simp
      have g3 := trivial
      subst e0
      clear hQ0 WAY g1 g2 g3
      go_enter Try.func10, Try.ntmps10
      go_wp2_with fail
      all_goals (
        obtain ⟨X1, hX1⟩ : ∃ X1, X1 = ((w.alloc (.cells #[.int .u8 1, .int .u8 2, .int .u8 3, .int .u8 4, .int .u8 23] 5)).alloc (.cells #[.int .u8 2, .int .u16 0, .int .u16 (m : Nat), .int .u16 0, .slice none 0 0, .slice none 0 0] 26)).alloc (.cells #[.int .u8 2, .int .u8 0, .slice Ab nb cb, .slice none 0 0, .int .u16 0, .int .u16 0] 49) := ⟨_, rfl⟩
        have hb : Below w.heap.size w X1 := by rw [hX1]; exact (((Below.refl _ _).new _).new _).new _
        have ra : X1.heap[w.heap.size + 1]? = _ := hX1 ▸ row_alloc (heap_alloc2_new w _ _) _
        have rr : X1.heap[w.heap.size + 1 + 1]? = some (.cells #[.int .u8 2, .int .u8 0, .slice Ab nb cb, .slice none 0 0, .int .u16 0, .int .u16 0] 49 (0, 0)) := by rw [hX1]; simpa using heap_alloc_new ((w.alloc (.cells #[.int .u8 1, .int .u8 2, .int .u8 3, .int .u8 4, .int .u8 23] 5)).alloc (.cells #[.int .u8 2, .int .u16 0, .int .u16 (m : Nat), .int .u16 0, .slice none 0 0, .slice none 0 0] 26)) (.cells #[.int .u8 2, .int .u8 0, .slice Ab nb cb, .slice none 0 0, .int .u16 0, .int .u16 0] 49)
        rw [← hX1]
        clear hX1
        obtain ⟨c0, c1, c2, c3, c4, c5⟩ := row6 ra
        obtain ⟨d0, d1, d2, d3, d4, d5⟩ := row6 rr
        go_loop [11, 13] (fun u i => ∃ k : Nat, m ≤ k ∧ (k ≤ nb ∨ k = m) ∧ i = .int .i64 k ∧ u = .bool (false && !(((B.take k).drop m).any id))) (fun _ i => nb - (intOf i).toNat)
        case atStart => exact ⟨m, by omega, by omega, rfl, by rw [List.drop_eq_nil_of_le (by simp; omega)]; rfl⟩
        case round =>
          obtain ⟨k, hk1, hk2, rfl, rfl⟩ := hrel
          by_cases hlt : k < nb
          · obtain ⟨b, o, rfl, hbl, dd⟩ := (HB.out.to hb).2 (by omega)
            have gk := (dd k hlt).trans (bl_get (by rw [QB.out]; exact hlt))
            have HS := Lib.hid (show ((B.take (k + 1)).drop m).any id = (((B.take k).drop m).any id || B[k]?.getD false) from by
              rw [List.take_succ_eq_append_getElem (by rw [QB.out]; exact hlt), List.drop_append_of_le_length (by rw [List.length_take, QB.out]; omega), List.any_append, List.getElem?_eq_getElem (by rw [QB.out]; exact hlt)]; simp)
            obtain ⟨x, ex⟩ : ∃ x, x = B[k]?.getD false := ⟨_, rfl⟩
            obtain ⟨y, ey⟩ : ∃ y, y = ((B.take k).drop m).any id := ⟨_, rfl⟩
            rw [← ex] at gk HS
            rw [← ey] at HS ⊢
            have y0 : (0 : Int) ≤ (k : Int) := by omega
            have y1 : (k : Int) < (nb : Int) := by omega
            clear dd ex ey
            cases y <;> (
              go_wp2_with fail
              go_round
              case rel => exact ⟨k + 1, by omega, by omega, by go_num, by rw [HS.out]; cases x <;> rfl⟩
              case measure => simp [intOf]; omega)
          · have HE := Lib.hid (show ((B.take k).drop m).any id = (B.drop m).any id from by rw [List.take_of_length_le (by rw [QB.out]; omega)])
            obtain ⟨y, ey⟩ : ∃ y, y = (B.drop m).any id := ⟨_, rfl⟩
            rw [HE.out]
            rw [← ey] at KF ⊢
            have KF2 := Lib.hid (KF.out _ hb)
            clear hk1 hk2 KF HE ey
            cases y <;> (
              go_wp2_with (first
                | (go_at_call 41; refine KF2.out.mono ?_; rintro e w1 ⟨rfl, b1⟩)
                | (go_at_call 29; refine (awake3_any _).mono ?_; rintro e wa ⟨rfl, ba⟩))
              go_ret
              exact ⟨rfl, (hb.call b1).call ba⟩))
  · have v1 : decide ((1 : Int) ≤ (m : Int)) = false := decide_eq_false (by omega)
    have u1 : ¬ (1 : Int) ≤ (m : Int) := by omega
    have e0 : Q0 = false := by rw [hQ0, decide_eq_false g1]; simp
    have g2 := trivial
    have g3 := trivial
    subst e0
    clear hQ0 WAY g1 g2 g3
    go_enter Try.func10, Try.ntmps10
    go_wp2_with fail
    all_goals (
      obtain ⟨X1, hX1⟩ : ∃ X1, X1 = ((w.alloc (.cells #[.int .u8 1, .int .u8 2, .int .u8 3, .int .u8 4, .int .u8 23] 5)).alloc (.cells #[.int .u8 2, .int .u16 0, .int .u16 (m : Nat), .int .u16 0, .slice none 0 0, .slice none 0 0] 26)).alloc (.cells #[.int .u8 2, .int .u8 0, .slice Ab nb cb, .slice none 0 0, .int .u16 0, .int .u16 0] 49) := ⟨_, rfl⟩
      have hb : Below w.heap.size w X1 := by rw [hX1]; exact (((Below.refl _ _).new _).new _).new _
      have ra : X1.heap[w.heap.size + 1]? = _ := hX1 ▸ row_alloc (heap_alloc2_new w _ _) _
      have rr : X1.heap[w.heap.size + 1 + 1]? = some (.cells #[.int .u8 2, .int .u8 0, .slice Ab nb cb, .slice none 0 0, .int .u16 0, .int .u16 0] 49 (0, 0)) := by rw [hX1]; simpa using heap_alloc_new ((w.alloc (.cells #[.int .u8 1, .int .u8 2, .int .u8 3, .int .u8 4, .int .u8 23] 5)).alloc (.cells #[.int .u8 2, .int .u16 0, .int .u16 (m : Nat), .int .u16 0, .slice none 0 0, .slice none 0 0] 26)) (.cells #[.int .u8 2, .int .u8 0, .slice Ab nb cb, .slice none 0 0, .int .u16 0, .int .u16 0] 49)
      rw [← hX1]
      clear hX1
      obtain ⟨c0, c1, c2, c3, c4, c5⟩ := row6 ra
      obtain ⟨d0, d1, d2, d3, d4, d5⟩ := row6 rr
      go_loop [11, 13] (fun u i => ∃ k : Nat, m ≤ k ∧ (k ≤ nb ∨ k = m) ∧ i = .int .i64 k ∧ u = .bool (false && !(((B.take k).drop m).any id))) (fun _ i => nb - (intOf i).toNat)
      case atStart => exact ⟨m, by omega, by omega, rfl, by rw [List.drop_eq_nil_of_le (by simp; omega)]; rfl⟩
      case round =>
        obtain ⟨k, hk1, hk2, rfl, rfl⟩ := hrel
        by_cases hlt : k < nb
        · obtain ⟨b, o, rfl, hbl, dd⟩ := (HB.out.to hb).2 (by omega)
          have gk := (dd k hlt).trans (bl_get (by rw [QB.out]; exact hlt))
          have HS := Lib.hid (show ((B.take (k + 1)).drop m).any id = (((B.take k).drop m).any id || B[k]?.getD false) from by
            rw [List.take_succ_eq_append_getElem (by rw [QB.out]; exact hlt), List.drop_append_of_le_length (by rw [List.length_take, QB.out]; omega), List.any_append, List.getElem?_eq_getElem (by rw [QB.out]; exact hlt)]; simp)
          obtain ⟨x, ex⟩ : ∃ x, x = B[k]?.getD false := ⟨_, rfl⟩
          obtain ⟨y, ey⟩ : ∃ y, y = ((B.take k).drop m).any id := ⟨_, rfl⟩
          rw [← ex] at gk HS
          rw [← ey] at HS ⊢
          have y0 : (0 : Int) ≤ (k : Int) := by omega
          have y1 : (k : Int) < (nb : Int) := by omega
          clear dd ex ey
          cases y <;> (
            go_wp2_with fail
            go_round
            case rel => exact ⟨k + 1, by omega, by omega, by go_num, by rw [HS.out]; cases x <;> rfl⟩
            case measure => simp [intOf]; omega)
        · have HE := Lib.hid (show ((B.take k).drop m).any id = (B.drop m).any id from by rw [List.take_of_length_le (by rw [QB.out]; omega)])
          obtain ⟨y, ey⟩ : ∃ y, y = (B.drop m).any id := ⟨_, rfl⟩
          rw [HE.out]
          rw [← ey] at KF ⊢
          have KF2 := Lib.hid (KF.out _ hb)
          clear hk1 hk2 KF HE ey
          cases y <;> (
            go_wp2_with (first
              | (go_at_call 41; refine KF2.out.mono ?_; rintro e w1 ⟨rfl, b1⟩)
              | (go_at_call 29; refine (awake3_any _).mono ?_; rintro e wa ⟨rfl, ba⟩))
            go_ret
            exact ⟨rfl, (hb.call b1).call ba⟩))
end Go.Proofs.Ytcinnjihghpngaa.AskW
