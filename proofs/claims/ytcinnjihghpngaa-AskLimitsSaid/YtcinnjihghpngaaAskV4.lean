/- The walk of AskLimits. -/
import Derived.Test.YtcinnjihghpngaaAG6
import Derived.RegionTactic
import Derived.Deep.DeepCutAuto
set_option linter.unusedVariables false
set_option linter.unusedSimpArgs false
namespace Go.Proofs.Ytcinnjihghpngaa.AskW
open Go.RowKit Go.Proofs.Ytcinnjihghpngaa Go.Proofs.Ytcinnjihghpngaa.Ask
/-- A block of n cells. -/
def Blk (W : World) (g n : Nat) (e : TypeId) : Prop := ∃ cs : Array Value, W.heap[g]? = some (.cells cs e (0, 0)) ∧ cs.size = n
theorem Blk.get {W : World} {g n : Nat} {e : TypeId} (h : Blk W g n e) {j : Nat} (hj : j < n) : ∃ v, W.cell? ⟨g, j, none⟩ = some v ∧ W.frozen? ⟨g, j, none⟩ = false := by
  obtain ⟨cs, hg, hs⟩ := h
  exact ⟨cs[j]'(by omega), by rw [cell_of_row W g j cs e _ hg]; simp [hs, hj], frozen_of_row W g j _ _ hg⟩
theorem Blk.set {W : World} {g n j : Nat} {e : TypeId} (h : Blk W g n e) (v : Value) : Blk (W.setCell ⟨g, j, none⟩ v) g n e := by
  obtain ⟨cs, hg, hs⟩ := h
  exact ⟨cs.setIfInBounds j v, heap_setCell_same W g j _ _ _ hg, by simpa using hs⟩
theorem Blk.other {W : World} {g g' n j : Nat} {e : TypeId} (h : Blk W g n e) (v : Value) (hne : g ≠ g') : Blk (W.setCell ⟨g', j, none⟩ v) g n e := by
  obtain ⟨cs, hg, hs⟩ := h
  exact ⟨cs, (Below.heap_setCell _ _ _ _ (fun e => hne e)).trans hg, hs⟩
theorem lim_0 (a n t x : Nat) : right ⟨1, a, n, 0, [], []⟩ = (decide (1 ≤ n) && decide (n ≤ 2000)) := by
  rw [Bool.eq_iff_iff]
  simp [right, fld, Fld.right, fits]
  try omega
theorem lim_1 (a n t x : Nat) : right ⟨2, a, n, 0, [], []⟩ = (decide (1 ≤ n) && decide (n ≤ 2000)) := by
  rw [Bool.eq_iff_iff]
  simp [right, fld, Fld.right, fits]
  try omega
theorem lim_2 (a n t x : Nat) : right ⟨3, a, n, 0, [], []⟩ = (decide (1 ≤ n) && decide (n ≤ 125)) := by
  rw [Bool.eq_iff_iff]
  simp [right, fld, Fld.right, fits]
  try omega
theorem lim_3 (a n t x : Nat) : right ⟨4, a, n, 0, [], []⟩ = (decide (1 ≤ n) && decide (n ≤ 125)) := by
  rw [Bool.eq_iff_iff]
  simp [right, fld, Fld.right, fits]
  try omega
theorem lim_4 (a n t x : Nat) : right ⟨15, a, n, 0, [], (List.replicate n false)⟩ = (decide (1 ≤ n) && decide (n ≤ 1968)) := by
  rw [Bool.eq_iff_iff]
  simp [right, fld, Fld.right, fits]
  try omega
theorem lim_5 (a n t x : Nat) : right ⟨16, a, n, 0, (List.replicate n 0), []⟩ = (decide (1 ≤ n) && decide (n ≤ 123)) := by
  rw [Bool.eq_iff_iff]
  simp [right, fld, Fld.right, fits]
  try omega
theorem lim_6 (a n t x : Nat) : right ⟨23, a, n, t, [x], []⟩ = (decide (1 ≤ n) && decide (n ≤ 125)) := by
  rw [Bool.eq_iff_iff]
  simp [right, fld, Fld.right, fits]
  try omega
theorem lim_7 (a n t x : Nat) : right ⟨23, a, 1, t, (List.replicate n 0), []⟩ = (decide (1 ≤ n) && decide (n ≤ 121)) := by
  rw [Bool.eq_iff_iff]
  simp [right, fld, Fld.right, fits]
  try omega
theorem lim_b (a n : Nat) : right ⟨5, a, 0, 0, [], List.replicate n false⟩ = (n == 1) := by
  rw [Bool.eq_iff_iff]
  simp [right, fld, Fld.right, fits]
theorem lim_w (a n : Nat) : right ⟨6, a, 0, 0, List.replicate n 0, []⟩ = (n == 1) := by
  rw [Bool.eq_iff_iff]
  simp [right, fld, Fld.right, fits]
theorem lim_x (a s : Nat) : right ⟨16, a, s + 1, 0, List.replicate s 0, []⟩ = false := by
  rw [Bool.eq_false_iff]
  simp [right, fld, Fld.right, fits]
theorem lim_y : right ⟨3, 0, 1, 1, [], []⟩ = false := by decide +kernel
theorem lim_z (x : Nat) : right ⟨6, 0, 1, 0, [x], []⟩ = false := by
  rw [Bool.eq_false_iff]
  simp [right, fld, Fld.right, fits]
set_option maxRecDepth 100000 in
set_option maxHeartbeats 32000000 in
theorem askLimits_any (a t m : Nat) (on : Bool) (x : Nat) (ha : a < 65536) (ht : t < 65536) (hm : m < 65536) (hx : x < 65536) (w : World) :
    Calls Try.prog 5 #[.int .u16 a, .int .u16 t, .int .u16 m, .bool on, .int .u16 x] w fun e w' => e = .returned (.bool true) ∧ Below w.heap.size w w' := by
  have hw : IntKind.i64.wrap (m : Int) = m := w64 (by omega)
  have hr : Int.tmod (m : Int) 2101 = ((m % 2101 : Nat) : Int) := by rw [Int.tmod_eq_emod_of_nonneg (by omega)]; omega
  obtain ⟨n, hn⟩ : ∃ n, n = m % 2101 := ⟨_, rfl⟩
  rw [← hn] at hr
  have hn2 : n ≤ 2100 := by omega
  have hn64 := w64 (show n ≤ 9223372036854775807 by omega)
  have hn16 : IntKind.u16.wrap (n : Int) = n := by rw [IntKind.wrap_u16]; omega
  clear hn hm
  obtain ⟨i0, hi0, hz0, hs0, hb0⟩ := info_parts (P := Try.prog) (e := 4) (z := .bool false) (size := 1) (bytes := 1) (by kernel_rfl)
  obtain ⟨i1, hi1, hz1, hs1, hb1⟩ := info_parts (P := Try.prog) (e := 22) (z := .int .u16 0) (size := 1) (bytes := 2) (by kernel_rfl)
  have kb := fun (W : World) => run_make (P := Try.prog) W 24 4 i0 (.bool false) Try.underlying24 hi0 hz0 .i64 .i64 n n (by omega) (by omega) (by rw [hb0]; omega) (by omega)
  have kw := fun (W : World) => run_make (P := Try.prog) W 23 22 i1 (.int .u16 0) Try.underlying23 hi1 hz1 .i64 .i64 n n (by omega) (by omega) (by rw [hb1]; omega) (by omega)
  simp only [Int.toNat_natCast, hs0, hs1, Nat.mul_one, show (Value.bool false).cells = #[.bool false] from rfl, show (Value.int .u16 0).cells = #[.int .u16 0] from rfl, made_one] at kb kw
  obtain ⟨s, hmin, hsn, hs200⟩ : ∃ s : Nat, (∀ W, (Builtin.min_ #[3, 3] 3 #[.int .i64 (n : Int), .int .i64 200]).run Try.prog W = .ok (.int .i64 (s : Int)) W) ∧ s ≤ n ∧ s ≤ 200 := by
    refine ⟨min n 200, fun W => ?_, by omega, by omega⟩
    simp [Builtin.min_, Builtin.min2]
    (repeat' split) <;> omega
  clear hi0 hz0 hs0 hb0 hi1 hz1 hs1 hb1
  go_enter Try.func5, Try.ntmps5
  go_upto_region 2 with fail
  go_cut [12, 13] (fun u v wx => ∃ gb gw : Nat, u = .slice (some ⟨gb, 0, none⟩) n n ∧ v = .slice (some ⟨gw, 0, none⟩) n n ∧ gb ≠ gw ∧ w.heap.size ≤ gb ∧ w.heap.size ≤ gw ∧ Below w.heap.size w wx ∧ Blk wx gb n 4 ∧ Blk wx gw n 22)
  case first =>
    go_region
    all_goals (
      go_wp2_with fail
      go_meet
      first
        | exact ⟨w.heap.size, w.heap.size + 1, rfl, rfl, by omega, by omega, by omega, (((Below.refl _ _).new _).new _).drew, ⟨_, row_alloc (heap_alloc_new w _) _, by simp⟩, ⟨_, heap_alloc2_new w _ _, by simp⟩⟩
        | exact ⟨w.heap.size + 1, w.heap.size, rfl, rfl, by omega, by omega, by omega, (((Below.refl _ _).new _).new _).drew, ⟨_, heap_alloc2_new w _ _, by simp⟩, ⟨_, row_alloc (heap_alloc_new w _) _, by simp⟩⟩)
  case rest =>
    obtain ⟨gb, gw, rfl, rfl, hne, hgb, hgw, bx, Bb, Bw⟩ := hcut
    clear kb kw
    have hne2 : ¬ gw = gb := fun e => hne e.symm
    go_wp2_with fail
    go_loopw [27] (fun i wr => ∃ k : Nat, k ≤ n ∧ i = .int .i64 k ∧ Below w.heap.size w wr ∧ Blk wr gb n 4 ∧ Blk wr gw n 22) (fun i _ => n - (intOf i).toNat)
    case atStart => exact ⟨0, by omega, rfl, bx, Bb, Bw⟩
    case round =>
      clear bx Bb Bw
      obtain ⟨k, hk, rfl, bx, Bb, Bw⟩ := hrel
      by_cases hlt : k < n
      · obtain ⟨vb, gvb, fvb⟩ := Bb.get hlt
        obtain ⟨vw, gvw, fvw⟩ := Bw.get hlt
        have z0 : (0 : Int) ≤ (k : Int) := by omega
        have z1 : (k : Int) < (n : Int) := by omega
        go_wp2_with fail
        go_roundw
        case rel => exact ⟨k + 1, by omega, by go_num, (bx.setCell hgb _).setCell hgw _, (Bb.set _).other _ hne, (Bw.other _ hne2).set _⟩
        case measure => simp [intOf]; omega
      · obtain rfl : k = n := by omega
        have z0 : (0 : Int) ≤ (s : Int) := by omega
        have z1 : (s : Int) ≤ (k : Int) := by omega
        have hsw : IntKind.i64.wrap ((s : Int) + 1) = (s : Int) + 1 := by rw [IntKind.wrap_i64]; omega
        have hs16 : IntKind.u16.wrap ((s : Int) + 1) = ((s + 1 : Nat) : Int) := by rw [IntKind.wrap_u16]; omega
        obtain ⟨W1, hW1⟩ : ∃ W1, W1 = wr := ⟨_, rfl⟩
        rw [← hW1] at bx ⊢
        clear Bb Bw hW1 hlt
        go_wp2_with fail
        have RB := heap_alloc2_new W1 (.cells #[.int .u16 (x : Nat)] 22) (.cells #[.int .u8 1, .int .u16 (a : Nat), .int .u16 (k : Nat), .int .u16 0, .slice none 0 0, .slice none 0 0, .int .i64 2000, .int .u8 2, .int .u16 (a : Nat), .int .u16 (k : Nat), .int .u16 0, .slice none 0 0, .slice none 0 0, .int .i64 2000, .int .u8 3, .int .u16 (a : Nat), .int .u16 (k : Nat), .int .u16 0, .slice none 0 0, .slice none 0 0, .int .i64 125, .int .u8 4, .int .u16 (a : Nat), .int .u16 (k : Nat), .int .u16 0, .slice none 0 0, .slice none 0 0, .int .i64 125, .int .u8 15, .int .u16 (a : Nat), .int .u16 (k : Nat), .int .u16 0, .slice none 0 0, .slice (some ⟨gb, 0, none⟩) k k, .int .i64 1968, .int .u8 16, .int .u16 (a : Nat), .int .u16 (k : Nat), .int .u16 0, .slice (some ⟨gw, 0, none⟩) k k, .slice none 0 0, .int .i64 123, .int .u8 23, .int .u16 (a : Nat), .int .u16 (k : Nat), .int .u16 (t : Nat), .slice (some ⟨W1.heap.size, 0, none⟩) 1 1, .slice none 0 0, .int .i64 125, .int .u8 23, .int .u16 (a : Nat), .int .u16 1, .int .u16 (t : Nat), .slice (some ⟨gw, 0, none⟩) k k, .slice none 0 0, .int .i64 121] 45)
        have hbx : Below w.heap.size w ((W1.alloc (.cells #[.int .u16 (x : Nat)] 22)).alloc (.cells #[.int .u8 1, .int .u16 (a : Nat), .int .u16 (k : Nat), .int .u16 0, .slice none 0 0, .slice none 0 0, .int .i64 2000, .int .u8 2, .int .u16 (a : Nat), .int .u16 (k : Nat), .int .u16 0, .slice none 0 0, .slice none 0 0, .int .i64 2000, .int .u8 3, .int .u16 (a : Nat), .int .u16 (k : Nat), .int .u16 0, .slice none 0 0, .slice none 0 0, .int .i64 125, .int .u8 4, .int .u16 (a : Nat), .int .u16 (k : Nat), .int .u16 0, .slice none 0 0, .slice none 0 0, .int .i64 125, .int .u8 15, .int .u16 (a : Nat), .int .u16 (k : Nat), .int .u16 0, .slice none 0 0, .slice (some ⟨gb, 0, none⟩) k k, .int .i64 1968, .int .u8 16, .int .u16 (a : Nat), .int .u16 (k : Nat), .int .u16 0, .slice (some ⟨gw, 0, none⟩) k k, .slice none 0 0, .int .i64 123, .int .u8 23, .int .u16 (a : Nat), .int .u16 (k : Nat), .int .u16 (t : Nat), .slice (some ⟨W1.heap.size, 0, none⟩) 1 1, .slice none 0 0, .int .i64 125, .int .u8 23, .int .u16 (a : Nat), .int .u16 1, .int .u16 (t : Nat), .slice (some ⟨gw, 0, none⟩) k k, .slice none 0 0, .int .i64 121] 45)) := (bx.new _).new _
        obtain ⟨X, hX⟩ : ∃ X, X = ((W1.alloc (.cells #[.int .u16 (x : Nat)] 22)).alloc (.cells #[.int .u8 1, .int .u16 (a : Nat), .int .u16 (k : Nat), .int .u16 0, .slice none 0 0, .slice none 0 0, .int .i64 2000, .int .u8 2, .int .u16 (a : Nat), .int .u16 (k : Nat), .int .u16 0, .slice none 0 0, .slice none 0 0, .int .i64 2000, .int .u8 3, .int .u16 (a : Nat), .int .u16 (k : Nat), .int .u16 0, .slice none 0 0, .slice none 0 0, .int .i64 125, .int .u8 4, .int .u16 (a : Nat), .int .u16 (k : Nat), .int .u16 0, .slice none 0 0, .slice none 0 0, .int .i64 125, .int .u8 15, .int .u16 (a : Nat), .int .u16 (k : Nat), .int .u16 0, .slice none 0 0, .slice (some ⟨gb, 0, none⟩) k k, .int .i64 1968, .int .u8 16, .int .u16 (a : Nat), .int .u16 (k : Nat), .int .u16 0, .slice (some ⟨gw, 0, none⟩) k k, .slice none 0 0, .int .i64 123, .int .u8 23, .int .u16 (a : Nat), .int .u16 (k : Nat), .int .u16 (t : Nat), .slice (some ⟨W1.heap.size, 0, none⟩) 1 1, .slice none 0 0, .int .i64 125, .int .u8 23, .int .u16 (a : Nat), .int .u16 1, .int .u16 (t : Nat), .slice (some ⟨gw, 0, none⟩) k k, .slice none 0 0, .int .i64 121] 45)) := ⟨_, rfl⟩
        rw [← hX] at RB hbx ⊢
        clear hX bx
        obtain ⟨G, hG⟩ : ∃ G, G = W1.heap.size + 1 := ⟨_, rfl⟩
        rw [← hG] at RB ⊢
        obtain ⟨g1, hg1⟩ : ∃ g, g = W1.heap.size := ⟨_, rfl⟩
        rw [← hg1] at RB ⊢
        clear hG hg1
        have lG := row_lt RB
        have RBH := Lib.hid RB
        clear RB
        go_loopw [90] (fun i wr => (i = .int .i64 0 ∨ i = .int .i64 1 ∨ i = .int .i64 2 ∨ i = .int .i64 3 ∨ i = .int .i64 4 ∨ i = .int .i64 5 ∨ i = .int .i64 6 ∨ i = .int .i64 7 ∨ i = .int .i64 8) ∧ Below X.heap.size X wr) (fun i _ => 8 - (intOf i).toNat)
        case atStart => exact ⟨by simp, Below.refl _ _⟩
        case round =>
          obtain ⟨hi, bX⟩ := hrel
          have rr := bX.row lG RBH.out
          rcases hi with rfl | rfl | rfl | rfl | rfl | rfl | rfl | rfl | rfl
          · have c0 : wr.cell? ⟨G, 0, none⟩ = some (.int .u8 1) := cell_of_row wr G 0 _ _ _ rr
            have c1 : wr.cell? ⟨G, 1, none⟩ = some (.int .u16 (a : Nat)) := cell_of_row wr G 1 _ _ _ rr
            have c2 : wr.cell? ⟨G, 2, none⟩ = some (.int .u16 (k : Nat)) := cell_of_row wr G 2 _ _ _ rr
            have c3 : wr.cell? ⟨G, 3, none⟩ = some (.int .u16 0) := cell_of_row wr G 3 _ _ _ rr
            have c4 : wr.cell? ⟨G, 4, none⟩ = some (.slice none 0 0) := cell_of_row wr G 4 _ _ _ rr
            have c5 : wr.cell? ⟨G, 5, none⟩ = some (.slice none 0 0) := cell_of_row wr G 5 _ _ _ rr
            have c6 : wr.cell? ⟨G, 6, none⟩ = some (.int .i64 2000) := cell_of_row wr G 6 _ _ _ rr
            have hbw := hbx.call bX
            clear rr
            have KR0 := fun Y => right_any 1 a k 0 none 0 0 none 0 0 [] [] (by simp) (by simp) (by omega) Y
            rw [lim_0 a k t x] at KR0
            by_cases h1 : 1 ≤ k
            · by_cases h2 : k ≤ 2000
              · have u1 : (1 : Int) ≤ (k : Int) := by omega
                have u2 : (k : Int) ≤ 2000 := by omega
                have u3 : decide ((k : Int) ≤ 2000) = true := decide_eq_true u2
                rw [show (decide (1 ≤ k) && decide (k ≤ 2000)) = true by rw [Bool.and_eq_true, decide_eq_true_iff, decide_eq_true_iff]; omega] at KR0
                have KR := Lib.hid KR0
                clear KR0
                go_wp2_with fail
                refine (KR.out _).mono ?_
                rintro e w2 ⟨rfl, b2⟩
                have c6 : w2.cell? ⟨wr.heap.size, 6, none⟩ = some (.int .i64 2000) := cell_of_row w2 _ 6 _ _ _ (b2.row (by simp) (heap_alloc_new wr (.cells #[.int .u8 1, .int .u16 (a : Nat), .int .u16 (k : Nat), .int .u16 0, .slice none 0 0, .slice none 0 0, .int .i64 2000] 45)))
                go_wp2_with fail
                go_roundw
                case rel => exact ⟨by simp, (bX.new _).call b2⟩
                case measure => simp [intOf]
              · have u1 : (1 : Int) ≤ (k : Int) := by omega
                have u2 : ¬ (k : Int) ≤ 2000 := by omega
                have u3 : decide ((k : Int) ≤ 2000) = false := decide_eq_false u2
                rw [show (decide (1 ≤ k) && decide (k ≤ 2000)) = false by rw [Bool.and_eq_false_iff, decide_eq_false_iff_not, decide_eq_false_iff_not]; omega] at KR0
                have KR := Lib.hid KR0
                clear KR0
                go_wp2_with fail
                refine (KR.out _).mono ?_
                rintro e w2 ⟨rfl, b2⟩
                have c6 : w2.cell? ⟨wr.heap.size, 6, none⟩ = some (.int .i64 2000) := cell_of_row w2 _ 6 _ _ _ (b2.row (by simp) (heap_alloc_new wr (.cells #[.int .u8 1, .int .u16 (a : Nat), .int .u16 (k : Nat), .int .u16 0, .slice none 0 0, .slice none 0 0, .int .i64 2000] 45)))
                go_wp2_with fail
                go_roundw
                case rel => exact ⟨by simp, (bX.new _).call b2⟩
                case measure => simp [intOf]
            · have u1 : ¬ (1 : Int) ≤ (k : Int) := by omega
              have u3 : decide ((1 : Int) ≤ (k : Int)) = false := decide_eq_false u1
              rw [show (decide (1 ≤ k) && decide (k ≤ 2000)) = false by rw [Bool.and_eq_false_iff, decide_eq_false_iff_not, decide_eq_false_iff_not]; omega] at KR0
              have KR := Lib.hid KR0
              clear KR0
              go_wp2_with fail
              refine (KR.out _).mono ?_
              rintro e w2 ⟨rfl, b2⟩
              have c6 : w2.cell? ⟨wr.heap.size, 6, none⟩ = some (.int .i64 2000) := cell_of_row w2 _ 6 _ _ _ (b2.row (by simp) (heap_alloc_new wr (.cells #[.int .u8 1, .int .u16 (a : Nat), .int .u16 (k : Nat), .int .u16 0, .slice none 0 0, .slice none 0 0, .int .i64 2000] 45)))
              go_wp2_with fail
              go_roundw
              case rel => exact ⟨by simp, (bX.new _).call b2⟩
              case measure => simp [intOf]
          · have c0 : wr.cell? ⟨G, 7, none⟩ = some (.int .u8 2) := cell_of_row wr G 7 _ _ _ rr
            have c1 : wr.cell? ⟨G, 8, none⟩ = some (.int .u16 (a : Nat)) := cell_of_row wr G 8 _ _ _ rr
            have c2 : wr.cell? ⟨G, 9, none⟩ = some (.int .u16 (k : Nat)) := cell_of_row wr G 9 _ _ _ rr
            have c3 : wr.cell? ⟨G, 10, none⟩ = some (.int .u16 0) := cell_of_row wr G 10 _ _ _ rr
            have c4 : wr.cell? ⟨G, 11, none⟩ = some (.slice none 0 0) := cell_of_row wr G 11 _ _ _ rr
            have c5 : wr.cell? ⟨G, 12, none⟩ = some (.slice none 0 0) := cell_of_row wr G 12 _ _ _ rr
            have c6 : wr.cell? ⟨G, 13, none⟩ = some (.int .i64 2000) := cell_of_row wr G 13 _ _ _ rr
            have hbw := hbx.call bX
            clear rr
            have KR0 := fun Y => right_any 2 a k 0 none 0 0 none 0 0 [] [] (by simp) (by simp) (by omega) Y
            rw [lim_1 a k t x] at KR0
            by_cases h1 : 1 ≤ k
            · by_cases h2 : k ≤ 2000
              · have u1 : (1 : Int) ≤ (k : Int) := by omega
                have u2 : (k : Int) ≤ 2000 := by omega
                have u3 : decide ((k : Int) ≤ 2000) = true := decide_eq_true u2
                rw [show (decide (1 ≤ k) && decide (k ≤ 2000)) = true by rw [Bool.and_eq_true, decide_eq_true_iff, decide_eq_true_iff]; omega] at KR0
                have KR := Lib.hid KR0
                clear KR0
                go_wp2_with fail
                refine (KR.out _).mono ?_
                rintro e w2 ⟨rfl, b2⟩
                have c6 : w2.cell? ⟨wr.heap.size, 6, none⟩ = some (.int .i64 2000) := cell_of_row w2 _ 6 _ _ _ (b2.row (by simp) (heap_alloc_new wr (.cells #[.int .u8 2, .int .u16 (a : Nat), .int .u16 (k : Nat), .int .u16 0, .slice none 0 0, .slice none 0 0, .int .i64 2000] 45)))
                go_wp2_with fail
                go_roundw
                case rel => exact ⟨by simp, (bX.new _).call b2⟩
                case measure => simp [intOf]
              · have u1 : (1 : Int) ≤ (k : Int) := by omega
                have u2 : ¬ (k : Int) ≤ 2000 := by omega
                have u3 : decide ((k : Int) ≤ 2000) = false := decide_eq_false u2
                rw [show (decide (1 ≤ k) && decide (k ≤ 2000)) = false by rw [Bool.and_eq_false_iff, decide_eq_false_iff_not, decide_eq_false_iff_not]; omega] at KR0
                have KR := Lib.hid KR0
                clear KR0
                go_wp2_with fail
                refine (KR.out _).mono ?_
                rintro e w2 ⟨rfl, b2⟩
                have c6 : w2.cell? ⟨wr.heap.size, 6, none⟩ = some (.int .i64 2000) := cell_of_row w2 _ 6 _ _ _ (b2.row (by simp) (heap_alloc_new wr (.cells #[.int .u8 2, .int .u16 (a : Nat), .int .u16 (k : Nat), .int .u16 0, .slice none 0 0, .slice none 0 0, .int .i64 2000] 45)))
                go_wp2_with fail
                go_roundw
                case rel => exact ⟨by simp, (bX.new _).call b2⟩
                case measure => simp [intOf]
            · have u1 : ¬ (1 : Int) ≤ (k : Int) := by omega
              have u3 : decide ((1 : Int) ≤ (k : Int)) = false := decide_eq_false u1
              rw [show (decide (1 ≤ k) && decide (k ≤ 2000)) = false by rw [Bool.and_eq_false_iff, decide_eq_false_iff_not, decide_eq_false_iff_not]; omega] at KR0
              have KR := Lib.hid KR0
              clear KR0
              go_wp2_with fail
              refine (KR.out _).mono ?_
              rintro e w2 ⟨rfl, b2⟩
              have c6 : w2.cell? ⟨wr.heap.size, 6, none⟩ = some (.int .i64 2000) := cell_of_row w2 _ 6 _ _ _ (b2.row (by simp) (heap_alloc_new wr (.cells #[.int .u8 2, .int .u16 (a : Nat), .int .u16 (k : Nat), .int .u16 0, .slice none 0 0, .slice none 0 0, .int .i64 2000] 45)))
              go_wp2_with fail
              go_roundw
              case rel => exact ⟨by simp, (bX.new _).call b2⟩
              case measure => simp [intOf]
          · have c0 : wr.cell? ⟨G, 14, none⟩ = some (.int .u8 3) := cell_of_row wr G 14 _ _ _ rr
            have c1 : wr.cell? ⟨G, 15, none⟩ = some (.int .u16 (a : Nat)) := cell_of_row wr G 15 _ _ _ rr
            have c2 : wr.cell? ⟨G, 16, none⟩ = some (.int .u16 (k : Nat)) := cell_of_row wr G 16 _ _ _ rr
            have c3 : wr.cell? ⟨G, 17, none⟩ = some (.int .u16 0) := cell_of_row wr G 17 _ _ _ rr
            have c4 : wr.cell? ⟨G, 18, none⟩ = some (.slice none 0 0) := cell_of_row wr G 18 _ _ _ rr
            have c5 : wr.cell? ⟨G, 19, none⟩ = some (.slice none 0 0) := cell_of_row wr G 19 _ _ _ rr
            have c6 : wr.cell? ⟨G, 20, none⟩ = some (.int .i64 125) := cell_of_row wr G 20 _ _ _ rr
            have hbw := hbx.call bX
            clear rr
            have KR0 := fun Y => right_any 3 a k 0 none 0 0 none 0 0 [] [] (by simp) (by simp) (by omega) Y
            rw [lim_2 a k t x] at KR0
            by_cases h1 : 1 ≤ k
            · by_cases h2 : k ≤ 125
              · have u1 : (1 : Int) ≤ (k : Int) := by omega
                have u2 : (k : Int) ≤ 125 := by omega
                have u3 : decide ((k : Int) ≤ 125) = true := decide_eq_true u2
                rw [show (decide (1 ≤ k) && decide (k ≤ 125)) = true by rw [Bool.and_eq_true, decide_eq_true_iff, decide_eq_true_iff]; omega] at KR0
                have KR := Lib.hid KR0
                clear KR0
                go_wp2_with fail
                refine (KR.out _).mono ?_
                rintro e w2 ⟨rfl, b2⟩
                have c6 : w2.cell? ⟨wr.heap.size, 6, none⟩ = some (.int .i64 125) := cell_of_row w2 _ 6 _ _ _ (b2.row (by simp) (heap_alloc_new wr (.cells #[.int .u8 3, .int .u16 (a : Nat), .int .u16 (k : Nat), .int .u16 0, .slice none 0 0, .slice none 0 0, .int .i64 125] 45)))
                go_wp2_with fail
                go_roundw
                case rel => exact ⟨by simp, (bX.new _).call b2⟩
                case measure => simp [intOf]
              · have u1 : (1 : Int) ≤ (k : Int) := by omega
                have u2 : ¬ (k : Int) ≤ 125 := by omega
                have u3 : decide ((k : Int) ≤ 125) = false := decide_eq_false u2
                rw [show (decide (1 ≤ k) && decide (k ≤ 125)) = false by rw [Bool.and_eq_false_iff, decide_eq_false_iff_not, decide_eq_false_iff_not]; omega] at KR0
                have KR := Lib.hid KR0
                clear KR0
                go_wp2_with fail
                refine (KR.out _).mono ?_
                rintro e w2 ⟨rfl, b2⟩
                have c6 : w2.cell? ⟨wr.heap.size, 6, none⟩ = some (.int .i64 125) := cell_of_row w2 _ 6 _ _ _ (b2.row (by simp) (heap_alloc_new wr (.cells #[.int .u8 3, .int .u16 (a : Nat), .int .u16 (k : Nat), .int .u16 0, .slice none 0 0, .slice none 0 0, .int .i64 125] 45)))
                go_wp2_with fail
                go_roundw
                case rel => exact ⟨by simp, (bX.new _).call b2⟩
                case measure => simp [intOf]
            · have u1 : ¬ (1 : Int) ≤ (k : Int) := by omega
              have u3 : decide ((1 : Int) ≤ (k : Int)) = false := decide_eq_false u1
              rw [show (decide (1 ≤ k) && decide (k ≤ 125)) = false by rw [Bool.and_eq_false_iff, decide_eq_false_iff_not, decide_eq_false_iff_not]; omega] at KR0
              have KR := Lib.hid KR0
              clear KR0
              go_wp2_with fail
              refine (KR.out _).mono ?_
              rintro e w2 ⟨rfl, b2⟩
              have c6 : w2.cell? ⟨wr.heap.size, 6, none⟩ = some (.int .i64 125) := cell_of_row w2 _ 6 _ _ _ (b2.row (by simp) (heap_alloc_new wr (.cells #[.int .u8 3, .int .u16 (a : Nat), .int .u16 (k : Nat), .int .u16 0, .slice none 0 0, .slice none 0 0, .int .i64 125] 45)))
              go_wp2_with fail
              go_roundw
              case rel => exact ⟨by simp, (bX.new _).call b2⟩
              case measure => simp [intOf]
          · have c0 : wr.cell? ⟨G, 21, none⟩ = some (.int .u8 4) := cell_of_row wr G 21 _ _ _ rr
            have c1 : wr.cell? ⟨G, 22, none⟩ = some (.int .u16 (a : Nat)) := cell_of_row wr G 22 _ _ _ rr
            have c2 : wr.cell? ⟨G, 23, none⟩ = some (.int .u16 (k : Nat)) := cell_of_row wr G 23 _ _ _ rr
            have c3 : wr.cell? ⟨G, 24, none⟩ = some (.int .u16 0) := cell_of_row wr G 24 _ _ _ rr
            have c4 : wr.cell? ⟨G, 25, none⟩ = some (.slice none 0 0) := cell_of_row wr G 25 _ _ _ rr
            have c5 : wr.cell? ⟨G, 26, none⟩ = some (.slice none 0 0) := cell_of_row wr G 26 _ _ _ rr
            have c6 : wr.cell? ⟨G, 27, none⟩ = some (.int .i64 125) := cell_of_row wr G 27 _ _ _ rr
            have hbw := hbx.call bX
            clear rr
            have KR0 := fun Y => right_any 4 a k 0 none 0 0 none 0 0 [] [] (by simp) (by simp) (by omega) Y
            rw [lim_3 a k t x] at KR0
            by_cases h1 : 1 ≤ k
            · by_cases h2 : k ≤ 125
              · have u1 : (1 : Int) ≤ (k : Int) := by omega
                have u2 : (k : Int) ≤ 125 := by omega
                have u3 : decide ((k : Int) ≤ 125) = true := decide_eq_true u2
                rw [show (decide (1 ≤ k) && decide (k ≤ 125)) = true by rw [Bool.and_eq_true, decide_eq_true_iff, decide_eq_true_iff]; omega] at KR0
                have KR := Lib.hid KR0
                clear KR0
                go_wp2_with fail
                refine (KR.out _).mono ?_
                rintro e w2 ⟨rfl, b2⟩
                have c6 : w2.cell? ⟨wr.heap.size, 6, none⟩ = some (.int .i64 125) := cell_of_row w2 _ 6 _ _ _ (b2.row (by simp) (heap_alloc_new wr (.cells #[.int .u8 4, .int .u16 (a : Nat), .int .u16 (k : Nat), .int .u16 0, .slice none 0 0, .slice none 0 0, .int .i64 125] 45)))
                go_wp2_with fail
                go_roundw
                case rel => exact ⟨by simp, (bX.new _).call b2⟩
                case measure => simp [intOf]
              · have u1 : (1 : Int) ≤ (k : Int) := by omega
                have u2 : ¬ (k : Int) ≤ 125 := by omega
                have u3 : decide ((k : Int) ≤ 125) = false := decide_eq_false u2
                rw [show (decide (1 ≤ k) && decide (k ≤ 125)) = false by rw [Bool.and_eq_false_iff, decide_eq_false_iff_not, decide_eq_false_iff_not]; omega] at KR0
                have KR := Lib.hid KR0
                clear KR0
                go_wp2_with fail
                refine (KR.out _).mono ?_
                rintro e w2 ⟨rfl, b2⟩
                have c6 : w2.cell? ⟨wr.heap.size, 6, none⟩ = some (.int .i64 125) := cell_of_row w2 _ 6 _ _ _ (b2.row (by simp) (heap_alloc_new wr (.cells #[.int .u8 4, .int .u16 (a : Nat), .int .u16 (k : Nat), .int .u16 0, .slice none 0 0, .slice none 0 0, .int .i64 125] 45)))
                go_wp2_with fail
                go_roundw
                case rel => exact ⟨by simp, (bX.new _).call b2⟩
                case measure => simp [intOf]
            · have u1 : ¬ (1 : Int) ≤ (k : Int) := by omega
              have u3 : decide ((1 : Int) ≤ (k : Int)) = false := decide_eq_false u1
              rw [show (decide (1 ≤ k) && decide (k ≤ 125)) = false by rw [Bool.and_eq_false_iff, decide_eq_false_iff_not, decide_eq_false_iff_not]; omega] at KR0
              have KR := Lib.hid KR0
              clear KR0
              go_wp2_with fail
              refine (KR.out _).mono ?_
              rintro e w2 ⟨rfl, b2⟩
              have c6 : w2.cell? ⟨wr.heap.size, 6, none⟩ = some (.int .i64 125) := cell_of_row w2 _ 6 _ _ _ (b2.row (by simp) (heap_alloc_new wr (.cells #[.int .u8 4, .int .u16 (a : Nat), .int .u16 (k : Nat), .int .u16 0, .slice none 0 0, .slice none 0 0, .int .i64 125] 45)))
              go_wp2_with fail
              go_roundw
              case rel => exact ⟨by simp, (bX.new _).call b2⟩
              case measure => simp [intOf]
          · have c0 : wr.cell? ⟨G, 28, none⟩ = some (.int .u8 15) := cell_of_row wr G 28 _ _ _ rr
            have c1 : wr.cell? ⟨G, 29, none⟩ = some (.int .u16 (a : Nat)) := cell_of_row wr G 29 _ _ _ rr
            have c2 : wr.cell? ⟨G, 30, none⟩ = some (.int .u16 (k : Nat)) := cell_of_row wr G 30 _ _ _ rr
            have c3 : wr.cell? ⟨G, 31, none⟩ = some (.int .u16 0) := cell_of_row wr G 31 _ _ _ rr
            have c4 : wr.cell? ⟨G, 32, none⟩ = some (.slice none 0 0) := cell_of_row wr G 32 _ _ _ rr
            have c5 : wr.cell? ⟨G, 33, none⟩ = some (.slice (some ⟨gb, 0, none⟩) k k) := cell_of_row wr G 33 _ _ _ rr
            have c6 : wr.cell? ⟨G, 34, none⟩ = some (.int .i64 1968) := cell_of_row wr G 34 _ _ _ rr
            have hbw := hbx.call bX
            clear rr
            have KR0 := fun Y => right_any 15 a k 0 none 0 0 (some ⟨gb, 0, none⟩) k k [] (List.replicate k false) (by simp) (by simp) (by omega) Y
            rw [lim_4 a k t x] at KR0
            by_cases h1 : 1 ≤ k
            · by_cases h2 : k ≤ 1968
              · have u1 : (1 : Int) ≤ (k : Int) := by omega
                have u2 : (k : Int) ≤ 1968 := by omega
                have u3 : decide ((k : Int) ≤ 1968) = true := decide_eq_true u2
                rw [show (decide (1 ≤ k) && decide (k ≤ 1968)) = true by rw [Bool.and_eq_true, decide_eq_true_iff, decide_eq_true_iff]; omega] at KR0
                have KR := Lib.hid KR0
                clear KR0
                go_wp2_with fail
                refine (KR.out _).mono ?_
                rintro e w2 ⟨rfl, b2⟩
                have c6 : w2.cell? ⟨wr.heap.size, 6, none⟩ = some (.int .i64 1968) := cell_of_row w2 _ 6 _ _ _ (b2.row (by simp) (heap_alloc_new wr (.cells #[.int .u8 15, .int .u16 (a : Nat), .int .u16 (k : Nat), .int .u16 0, .slice none 0 0, .slice (some ⟨gb, 0, none⟩) k k, .int .i64 1968] 45)))
                go_wp2_with fail
                go_roundw
                case rel => exact ⟨by simp, (bX.new _).call b2⟩
                case measure => simp [intOf]
              · have u1 : (1 : Int) ≤ (k : Int) := by omega
                have u2 : ¬ (k : Int) ≤ 1968 := by omega
                have u3 : decide ((k : Int) ≤ 1968) = false := decide_eq_false u2
                rw [show (decide (1 ≤ k) && decide (k ≤ 1968)) = false by rw [Bool.and_eq_false_iff, decide_eq_false_iff_not, decide_eq_false_iff_not]; omega] at KR0
                have KR := Lib.hid KR0
                clear KR0
                go_wp2_with fail
                refine (KR.out _).mono ?_
                rintro e w2 ⟨rfl, b2⟩
                have c6 : w2.cell? ⟨wr.heap.size, 6, none⟩ = some (.int .i64 1968) := cell_of_row w2 _ 6 _ _ _ (b2.row (by simp) (heap_alloc_new wr (.cells #[.int .u8 15, .int .u16 (a : Nat), .int .u16 (k : Nat), .int .u16 0, .slice none 0 0, .slice (some ⟨gb, 0, none⟩) k k, .int .i64 1968] 45)))
                go_wp2_with fail
                go_roundw
                case rel => exact ⟨by simp, (bX.new _).call b2⟩
                case measure => simp [intOf]
            · have u1 : ¬ (1 : Int) ≤ (k : Int) := by omega
              have u3 : decide ((1 : Int) ≤ (k : Int)) = false := decide_eq_false u1
              rw [show (decide (1 ≤ k) && decide (k ≤ 1968)) = false by rw [Bool.and_eq_false_iff, decide_eq_false_iff_not, decide_eq_false_iff_not]; omega] at KR0
              have KR := Lib.hid KR0
              clear KR0
              go_wp2_with fail
              refine (KR.out _).mono ?_
              rintro e w2 ⟨rfl, b2⟩
              have c6 : w2.cell? ⟨wr.heap.size, 6, none⟩ = some (.int .i64 1968) := cell_of_row w2 _ 6 _ _ _ (b2.row (by simp) (heap_alloc_new wr (.cells #[.int .u8 15, .int .u16 (a : Nat), .int .u16 (k : Nat), .int .u16 0, .slice none 0 0, .slice (some ⟨gb, 0, none⟩) k k, .int .i64 1968] 45)))
              go_wp2_with fail
              go_roundw
              case rel => exact ⟨by simp, (bX.new _).call b2⟩
              case measure => simp [intOf]
          · have c0 : wr.cell? ⟨G, 35, none⟩ = some (.int .u8 16) := cell_of_row wr G 35 _ _ _ rr
            have c1 : wr.cell? ⟨G, 36, none⟩ = some (.int .u16 (a : Nat)) := cell_of_row wr G 36 _ _ _ rr
            have c2 : wr.cell? ⟨G, 37, none⟩ = some (.int .u16 (k : Nat)) := cell_of_row wr G 37 _ _ _ rr
            have c3 : wr.cell? ⟨G, 38, none⟩ = some (.int .u16 0) := cell_of_row wr G 38 _ _ _ rr
            have c4 : wr.cell? ⟨G, 39, none⟩ = some (.slice (some ⟨gw, 0, none⟩) k k) := cell_of_row wr G 39 _ _ _ rr
            have c5 : wr.cell? ⟨G, 40, none⟩ = some (.slice none 0 0) := cell_of_row wr G 40 _ _ _ rr
            have c6 : wr.cell? ⟨G, 41, none⟩ = some (.int .i64 123) := cell_of_row wr G 41 _ _ _ rr
            have hbw := hbx.call bX
            clear rr
            have KR0 := fun Y => right_any 16 a k 0 (some ⟨gw, 0, none⟩) k k none 0 0 (List.replicate k 0) [] (by simp) (by simp) (by omega) Y
            rw [lim_5 a k t x] at KR0
            by_cases h1 : 1 ≤ k
            · by_cases h2 : k ≤ 123
              · have u1 : (1 : Int) ≤ (k : Int) := by omega
                have u2 : (k : Int) ≤ 123 := by omega
                have u3 : decide ((k : Int) ≤ 123) = true := decide_eq_true u2
                rw [show (decide (1 ≤ k) && decide (k ≤ 123)) = true by rw [Bool.and_eq_true, decide_eq_true_iff, decide_eq_true_iff]; omega] at KR0
                have KR := Lib.hid KR0
                clear KR0
                go_wp2_with fail
                refine (KR.out _).mono ?_
                rintro e w2 ⟨rfl, b2⟩
                have c6 : w2.cell? ⟨wr.heap.size, 6, none⟩ = some (.int .i64 123) := cell_of_row w2 _ 6 _ _ _ (b2.row (by simp) (heap_alloc_new wr (.cells #[.int .u8 16, .int .u16 (a : Nat), .int .u16 (k : Nat), .int .u16 0, .slice (some ⟨gw, 0, none⟩) k k, .slice none 0 0, .int .i64 123] 45)))
                go_wp2_with fail
                go_roundw
                case rel => exact ⟨by simp, (bX.new _).call b2⟩
                case measure => simp [intOf]
              · have u1 : (1 : Int) ≤ (k : Int) := by omega
                have u2 : ¬ (k : Int) ≤ 123 := by omega
                have u3 : decide ((k : Int) ≤ 123) = false := decide_eq_false u2
                rw [show (decide (1 ≤ k) && decide (k ≤ 123)) = false by rw [Bool.and_eq_false_iff, decide_eq_false_iff_not, decide_eq_false_iff_not]; omega] at KR0
                have KR := Lib.hid KR0
                clear KR0
                go_wp2_with fail
                refine (KR.out _).mono ?_
                rintro e w2 ⟨rfl, b2⟩
                have c6 : w2.cell? ⟨wr.heap.size, 6, none⟩ = some (.int .i64 123) := cell_of_row w2 _ 6 _ _ _ (b2.row (by simp) (heap_alloc_new wr (.cells #[.int .u8 16, .int .u16 (a : Nat), .int .u16 (k : Nat), .int .u16 0, .slice (some ⟨gw, 0, none⟩) k k, .slice none 0 0, .int .i64 123] 45)))
                go_wp2_with fail
                go_roundw
                case rel => exact ⟨by simp, (bX.new _).call b2⟩
                case measure => simp [intOf]
            · have u1 : ¬ (1 : Int) ≤ (k : Int) := by omega
              have u3 : decide ((1 : Int) ≤ (k : Int)) = false := decide_eq_false u1
              rw [show (decide (1 ≤ k) && decide (k ≤ 123)) = false by rw [Bool.and_eq_false_iff, decide_eq_false_iff_not, decide_eq_false_iff_not]; omega] at KR0
              have KR := Lib.hid KR0
              clear KR0
              go_wp2_with fail
              refine (KR.out _).mono ?_
              rintro e w2 ⟨rfl, b2⟩
              have c6 : w2.cell? ⟨wr.heap.size, 6, none⟩ = some (.int .i64 123) := cell_of_row w2 _ 6 _ _ _ (b2.row (by simp) (heap_alloc_new wr (.cells #[.int .u8 16, .int .u16 (a : Nat), .int .u16 (k : Nat), .int .u16 0, .slice (some ⟨gw, 0, none⟩) k k, .slice none 0 0, .int .i64 123] 45)))
              go_wp2_with fail
              go_roundw
              case rel => exact ⟨by simp, (bX.new _).call b2⟩
              case measure => simp [intOf]
          · have c0 : wr.cell? ⟨G, 42, none⟩ = some (.int .u8 23) := cell_of_row wr G 42 _ _ _ rr
            have c1 : wr.cell? ⟨G, 43, none⟩ = some (.int .u16 (a : Nat)) := cell_of_row wr G 43 _ _ _ rr
            have c2 : wr.cell? ⟨G, 44, none⟩ = some (.int .u16 (k : Nat)) := cell_of_row wr G 44 _ _ _ rr
            have c3 : wr.cell? ⟨G, 45, none⟩ = some (.int .u16 (t : Nat)) := cell_of_row wr G 45 _ _ _ rr
            have c4 : wr.cell? ⟨G, 46, none⟩ = some (.slice (some ⟨g1, 0, none⟩) 1 1) := cell_of_row wr G 46 _ _ _ rr
            have c5 : wr.cell? ⟨G, 47, none⟩ = some (.slice none 0 0) := cell_of_row wr G 47 _ _ _ rr
            have c6 : wr.cell? ⟨G, 48, none⟩ = some (.int .i64 125) := cell_of_row wr G 48 _ _ _ rr
            have hbw := hbx.call bX
            clear rr
            have KR0 := fun Y => right_any 23 a k t (some ⟨g1, 0, none⟩) 1 1 none 0 0 [x] [] (by simp) (by simp) (by omega) Y
            rw [lim_6 a k t x] at KR0
            by_cases h1 : 1 ≤ k
            · by_cases h2 : k ≤ 125
              · have u1 : (1 : Int) ≤ (k : Int) := by omega
                have u2 : (k : Int) ≤ 125 := by omega
                have u3 : decide ((k : Int) ≤ 125) = true := decide_eq_true u2
                rw [show (decide (1 ≤ k) && decide (k ≤ 125)) = true by rw [Bool.and_eq_true, decide_eq_true_iff, decide_eq_true_iff]; omega] at KR0
                have KR := Lib.hid KR0
                clear KR0
                go_wp2_with fail
                refine (KR.out _).mono ?_
                rintro e w2 ⟨rfl, b2⟩
                have c6 : w2.cell? ⟨wr.heap.size, 6, none⟩ = some (.int .i64 125) := cell_of_row w2 _ 6 _ _ _ (b2.row (by simp) (heap_alloc_new wr (.cells #[.int .u8 23, .int .u16 (a : Nat), .int .u16 (k : Nat), .int .u16 (t : Nat), .slice (some ⟨g1, 0, none⟩) 1 1, .slice none 0 0, .int .i64 125] 45)))
                go_wp2_with fail
                go_roundw
                case rel => exact ⟨by simp, (bX.new _).call b2⟩
                case measure => simp [intOf]
              · have u1 : (1 : Int) ≤ (k : Int) := by omega
                have u2 : ¬ (k : Int) ≤ 125 := by omega
                have u3 : decide ((k : Int) ≤ 125) = false := decide_eq_false u2
                rw [show (decide (1 ≤ k) && decide (k ≤ 125)) = false by rw [Bool.and_eq_false_iff, decide_eq_false_iff_not, decide_eq_false_iff_not]; omega] at KR0
                have KR := Lib.hid KR0
                clear KR0
                go_wp2_with fail
                refine (KR.out _).mono ?_
                rintro e w2 ⟨rfl, b2⟩
                have c6 : w2.cell? ⟨wr.heap.size, 6, none⟩ = some (.int .i64 125) := cell_of_row w2 _ 6 _ _ _ (b2.row (by simp) (heap_alloc_new wr (.cells #[.int .u8 23, .int .u16 (a : Nat), .int .u16 (k : Nat), .int .u16 (t : Nat), .slice (some ⟨g1, 0, none⟩) 1 1, .slice none 0 0, .int .i64 125] 45)))
                go_wp2_with fail
                go_roundw
                case rel => exact ⟨by simp, (bX.new _).call b2⟩
                case measure => simp [intOf]
            · have u1 : ¬ (1 : Int) ≤ (k : Int) := by omega
              have u3 : decide ((1 : Int) ≤ (k : Int)) = false := decide_eq_false u1
              rw [show (decide (1 ≤ k) && decide (k ≤ 125)) = false by rw [Bool.and_eq_false_iff, decide_eq_false_iff_not, decide_eq_false_iff_not]; omega] at KR0
              have KR := Lib.hid KR0
              clear KR0
              go_wp2_with fail
              refine (KR.out _).mono ?_
              rintro e w2 ⟨rfl, b2⟩
              have c6 : w2.cell? ⟨wr.heap.size, 6, none⟩ = some (.int .i64 125) := cell_of_row w2 _ 6 _ _ _ (b2.row (by simp) (heap_alloc_new wr (.cells #[.int .u8 23, .int .u16 (a : Nat), .int .u16 (k : Nat), .int .u16 (t : Nat), .slice (some ⟨g1, 0, none⟩) 1 1, .slice none 0 0, .int .i64 125] 45)))
              go_wp2_with fail
              go_roundw
              case rel => exact ⟨by simp, (bX.new _).call b2⟩
              case measure => simp [intOf]
          · have c0 : wr.cell? ⟨G, 49, none⟩ = some (.int .u8 23) := cell_of_row wr G 49 _ _ _ rr
            have c1 : wr.cell? ⟨G, 50, none⟩ = some (.int .u16 (a : Nat)) := cell_of_row wr G 50 _ _ _ rr
            have c2 : wr.cell? ⟨G, 51, none⟩ = some (.int .u16 1) := cell_of_row wr G 51 _ _ _ rr
            have c3 : wr.cell? ⟨G, 52, none⟩ = some (.int .u16 (t : Nat)) := cell_of_row wr G 52 _ _ _ rr
            have c4 : wr.cell? ⟨G, 53, none⟩ = some (.slice (some ⟨gw, 0, none⟩) k k) := cell_of_row wr G 53 _ _ _ rr
            have c5 : wr.cell? ⟨G, 54, none⟩ = some (.slice none 0 0) := cell_of_row wr G 54 _ _ _ rr
            have c6 : wr.cell? ⟨G, 55, none⟩ = some (.int .i64 121) := cell_of_row wr G 55 _ _ _ rr
            have hbw := hbx.call bX
            clear rr
            have KR0 := fun Y => right_any 23 a 1 t (some ⟨gw, 0, none⟩) k k none 0 0 (List.replicate k 0) [] (by simp) (by simp) (by omega) Y
            rw [lim_7 a k t x] at KR0
            by_cases h1 : 1 ≤ k
            · by_cases h2 : k ≤ 121
              · have u1 : (1 : Int) ≤ (k : Int) := by omega
                have u2 : (k : Int) ≤ 121 := by omega
                have u3 : decide ((k : Int) ≤ 121) = true := decide_eq_true u2
                rw [show (decide (1 ≤ k) && decide (k ≤ 121)) = true by rw [Bool.and_eq_true, decide_eq_true_iff, decide_eq_true_iff]; omega] at KR0
                have KR := Lib.hid KR0
                clear KR0
                go_wp2_with fail
                refine (KR.out _).mono ?_
                rintro e w2 ⟨rfl, b2⟩
                have c6 : w2.cell? ⟨wr.heap.size, 6, none⟩ = some (.int .i64 121) := cell_of_row w2 _ 6 _ _ _ (b2.row (by simp) (heap_alloc_new wr (.cells #[.int .u8 23, .int .u16 (a : Nat), .int .u16 1, .int .u16 (t : Nat), .slice (some ⟨gw, 0, none⟩) k k, .slice none 0 0, .int .i64 121] 45)))
                go_wp2_with fail
                go_roundw
                case rel => exact ⟨by simp, (bX.new _).call b2⟩
                case measure => simp [intOf]
              · have u1 : (1 : Int) ≤ (k : Int) := by omega
                have u2 : ¬ (k : Int) ≤ 121 := by omega
                have u3 : decide ((k : Int) ≤ 121) = false := decide_eq_false u2
                rw [show (decide (1 ≤ k) && decide (k ≤ 121)) = false by rw [Bool.and_eq_false_iff, decide_eq_false_iff_not, decide_eq_false_iff_not]; omega] at KR0
                have KR := Lib.hid KR0
                clear KR0
                go_wp2_with fail
                refine (KR.out _).mono ?_
                rintro e w2 ⟨rfl, b2⟩
                have c6 : w2.cell? ⟨wr.heap.size, 6, none⟩ = some (.int .i64 121) := cell_of_row w2 _ 6 _ _ _ (b2.row (by simp) (heap_alloc_new wr (.cells #[.int .u8 23, .int .u16 (a : Nat), .int .u16 1, .int .u16 (t : Nat), .slice (some ⟨gw, 0, none⟩) k k, .slice none 0 0, .int .i64 121] 45)))
                go_wp2_with fail
                go_roundw
                case rel => exact ⟨by simp, (bX.new _).call b2⟩
                case measure => simp [intOf]
            · have u1 : ¬ (1 : Int) ≤ (k : Int) := by omega
              have u3 : decide ((1 : Int) ≤ (k : Int)) = false := decide_eq_false u1
              rw [show (decide (1 ≤ k) && decide (k ≤ 121)) = false by rw [Bool.and_eq_false_iff, decide_eq_false_iff_not, decide_eq_false_iff_not]; omega] at KR0
              have KR := Lib.hid KR0
              clear KR0
              go_wp2_with fail
              refine (KR.out _).mono ?_
              rintro e w2 ⟨rfl, b2⟩
              have c6 : w2.cell? ⟨wr.heap.size, 6, none⟩ = some (.int .i64 121) := cell_of_row w2 _ 6 _ _ _ (b2.row (by simp) (heap_alloc_new wr (.cells #[.int .u8 23, .int .u16 (a : Nat), .int .u16 1, .int .u16 (t : Nat), .slice (some ⟨gw, 0, none⟩) k k, .slice none 0 0, .int .i64 121] 45)))
              go_wp2_with fail
              go_roundw
              case rel => exact ⟨by simp, (bX.new _).call b2⟩
              case measure => simp [intOf]
          · have K5 := fun Y => right_any 5 a 0 0 none 0 0 (some ⟨gb, 0, none⟩) k k [] (List.replicate k false) (by simp) (by simp) (by omega) Y
            have K6 := fun Y => right_any 6 a 0 0 (some ⟨gw, 0, none⟩) k k none 0 0 (List.replicate k 0) [] (by simp) (by simp) (by omega) Y
            have K16 := fun Y => right_any 16 a (s + 1) 0 (some ⟨gw, 0, none⟩) s k none 0 0 (List.replicate s 0) [] (by simp) (by simp) (by omega) Y
            have K3 := fun Y => right_any 3 0 1 1 none 0 0 none 0 0 [] [] (by simp) (by simp) (by omega) Y
            have K7 := fun Y g => right_any 6 0 1 0 (some ⟨g, 0, none⟩) 1 1 none 0 0 [x] [] (by simp) (by simp) (by omega) Y
            rw [lim_b] at K5
            rw [lim_w] at K6
            rw [lim_x] at K16
            rw [lim_y] at K3
            rw [lim_z] at K7
            have K16 := Lib.hid K16
            have K3 := Lib.hid K3
            have K7 := Lib.hid K7
            have hbw := hbx.call bX
            clear rr
            by_cases hk1 : k = 1
            · have T1 : ((k : Int) == 1) = true := by rw [beq_iff_eq]; omega
              rw [show (k == 1) = true by rw [beq_iff_eq]; omega] at K5 K6
              have K5 := Lib.hid K5
              have K6 := Lib.hid K6
              clear hk1
              go_wp2_with fail
              refine (K5.out _).mono ?_
              rintro e w1 ⟨rfl, b1⟩
              have hbw := hbw.call b1
              go_wp2_with fail
              refine (K6.out _).mono ?_
              rintro e w2 ⟨rfl, b2⟩
              have hbw := hbw.call b2
              go_wp2_with fail
              refine (K16.out _).mono ?_
              rintro e w3 ⟨rfl, b3⟩
              have hbw := hbw.call b3
              go_wp2_with fail
              refine (K3.out _).mono ?_
              rintro e w4 ⟨rfl, b4⟩
              have hbw := hbw.call b4
              go_wp2_with fail
              refine (K7.out _ _).mono ?_
              rintro e w5 ⟨rfl, b5⟩
              have hbw := (hbw.new _).call b5
              go_wp2_with fail
              refine (awake_any _).mono ?_
              rintro e w6 ⟨rfl, b6⟩
              have hbw := hbw.call b6
              go_wp2_with fail
              go_ret
              exact ⟨rfl, hbw⟩
            · have T1 : ((k : Int) == 1) = false := by rw [beq_eq_false_iff_ne]; omega
              rw [show (k == 1) = false by rw [beq_eq_false_iff_ne]; omega] at K5 K6
              have K5 := Lib.hid K5
              have K6 := Lib.hid K6
              clear hk1
              go_wp2_with fail
              refine (K5.out _).mono ?_
              rintro e w1 ⟨rfl, b1⟩
              have hbw := hbw.call b1
              go_wp2_with fail
              refine (K6.out _).mono ?_
              rintro e w2 ⟨rfl, b2⟩
              have hbw := hbw.call b2
              go_wp2_with fail
              refine (K16.out _).mono ?_
              rintro e w3 ⟨rfl, b3⟩
              have hbw := hbw.call b3
              go_wp2_with fail
              refine (K3.out _).mono ?_
              rintro e w4 ⟨rfl, b4⟩
              have hbw := hbw.call b4
              go_wp2_with fail
              refine (K7.out _ _).mono ?_
              rintro e w5 ⟨rfl, b5⟩
              have hbw := (hbw.new _).call b5
              go_wp2_with fail
              refine (awake_any _).mono ?_
              rintro e w6 ⟨rfl, b6⟩
              have hbw := hbw.call b6
              go_wp2_with fail
              go_ret
              exact ⟨rfl, hbw⟩
end Go.Proofs.Ytcinnjihghpngaa.AskW
