/- Merged: AskH AskI AskJ AskL AskM. -/
import Derived.Test.YtiibopdnlmnkmaaAG1
import Derived.Test.YtiibopdnlmnkmaaBase
import Derived.RegionTactic
/- The walk of ask.Pack. -/
namespace Go.Proofs.Ytiibopdnlmnkmaa.AskW
open Go.RowKit Go.Proofs.Ytiibopdnlmnkmaa Go.Proofs.Ytiibopdnlmnkmaa.Ask
theorem or_pow (y m : Nat) (hy : y < 256) (hm : m < 8) : bits .or .u8 (y : Int) ((2 : Int) ^ m % 256) = ((y ||| 2 ^ m : Nat) : Int) := by
  have e : (2 : Int) ^ m % 256 = ((2 ^ m : Nat) : Int) := by
    obtain rfl | rfl | rfl | rfl | rfl | rfl | rfl | rfl : m = 0 ∨ m = 1 ∨ m = 2 ∨ m = 3 ∨ m = 4 ∨ m = 5 ∨ m = 6 ∨ m = 7 := by omega
    all_goals rfl
  rw [e]
  refine u8_or_nat y (2 ^ m) hy ?_
  exact Nat.pow_lt_pow_of_lt (a := 2) (n := m) (m := 8) (by omega) hm
theorem pack_any (A : Option Addr) (n c : Nat) (l : List Bool) (w : World) (hs : Sl w w.heap.size A n (bl l)) (hn : n ≤ 1000000) :
    Calls Try.prog 68 #[.slice A n c] w fun e w' => ∃ v, e = .returned v ∧ Has w w' 5 v ((n + 7) / 8) (bs (pack l)) := by
  have q1 : l.length = n := by simpa using hs.len
  have Q1 := Lib.hid q1
  clear q1
  have hd : Int.tdiv ((n : Int) + 7) 8 = (((n + 7) / 8 : Nat) : Int) := by rw [Int.tdiv_eq_ediv_of_nonneg (by omega)]; omega
  have hw : IntKind.i64.wrap ((n : Int) + 7) = (n : Int) + 7 := by rw [IntKind.wrap_i64]; omega
  obtain ⟨N, hN⟩ : ∃ N, N = (n + 7) / 8 := ⟨_, rfl⟩
  rw [← hN] at hd ⊢
  have hN64 := w64 (show N ≤ 9223372036854775807 by omega)
  have HN := Lib.hid hN
  clear hN
  obtain ⟨i0, hi0, hz0, hs0, hb0⟩ := info_parts (P := Try.prog) (e := 5) (z := .int .u8 0) (size := 1) (bytes := 1) (by kernel_rfl)
  go_enter Try.func68, Try.ntmps68
  go_wp2_with (at_make; refine wpList_makeN Try.underlying51 hi0 hz0 hs0 rfl rfl _ _ rfl N rfl rfl (by have := HN.out; rw [hb0]; omega) (by have := HN.out; omega) ?_)
  go_loopw [13] (fun i wr => ∃ k : Nat, k ≤ n ∧ i = .int .i64 k ∧ Below w.heap.size w wr ∧ wr.heap[w.heap.size]? = some (.cells (packTo l N k) 5 (0, 0))) (fun i _ => n - (intOf i).toNat)
  case atStart => exact ⟨0, by omega, rfl, (Below.refl _ w).new _, by rw [packTo_zero]; exact heap_alloc_new w _⟩
  case round =>
    obtain ⟨k, hk, rfl, bk, hx⟩ := hrel
    by_cases hlt : k < n
    · have s1 := hs.below bk
      obtain ⟨b, o, rfl, hbl, d1⟩ := s1.2 (by omega)
      have g1 := (d1 k hlt).trans (bl_get (by rw [Q1.out]; exact hlt))
      have z0 : (0 : Int) ≤ (k : Int) := by omega
      have z1 : (k : Int) < (n : Int) := by omega
      have hON := Lib.hid (packTo_on (l := l) (N := N) (k := k))
      have hOF := Lib.hid (packTo_off (l := l) (N := N) (k := k))
      obtain ⟨x, ex⟩ : ∃ x, x = l[k]?.getD false := ⟨_, rfl⟩
      rw [← ex] at g1 hON hOF
      clear d1 ex s1 hs
      cases x
      · have HX := Lib.hid hx
        clear hx
        go_wp2_with fail
        go_roundw
        case rel => exact ⟨k + 1, by omega, by go_num, bk, by rw [hOF.out rfl]; exact HX.out⟩
        case measure => simp [intOf]; omega
      · have hq : Int.tdiv (k : Int) 8 = ((k / 8 : Nat) : Int) := by rw [Int.tdiv_eq_ediv_of_nonneg (by omega)]; omega
        have hr : Int.tmod (k : Int) 8 = ((k % 8 : Nat) : Int) := by rw [Int.tmod_eq_emod_of_nonneg (by omega)]; omega
        have hqN : k / 8 < N := by have := HN.out; omega
        have gx := (cell_of_row wr _ (k / 8) _ _ _ hx).trans (packTo_get l N k (k / 8) hqN)
        have fx : wr.frozen? ⟨w.heap.size, k / 8, none⟩ = false := frozen_of_row wr _ (k / 8) _ _ hx
        have y0 : (0 : Int) ≤ ((k / 8 : Nat) : Int) := by omega
        have y1 : ((k / 8 : Nat) : Int) < (N : Int) := by omega
        have y2 : (0 : Int) ≤ ((k % 8 : Nat) : Int) := by omega
        have hbt := octet_lt (l.take k) (k / 8)
        have hm8 : k % 8 < 8 := by omega
        obtain ⟨q, eq⟩ : ∃ q, q = k / 8 := ⟨_, rfl⟩
        obtain ⟨m, em⟩ : ∃ m, m = k % 8 := ⟨_, rfl⟩
        have hq64 := w64 (show q ≤ 9223372036854775807 by omega)
        have hm64 := w64 (show m ≤ 9223372036854775807 by omega)
        rw [← eq] at hq gx fx y0 y1 hON hqN hbt
        rw [← em] at hr y2 hON hm8
        obtain ⟨y, ey⟩ : ∃ y, y = octet (l.take k) q := ⟨_, rfl⟩
        rw [← ey] at gx hON hbt
        have HX := Lib.hid hx
        clear hx eq em ey
        go_wp2_with fail
        go_region
        go_wp2_with fail
        go_roundw
        case rel =>
          refine ⟨k + 1, by omega, rfl, (bk.setCell (Nat.le_refl _) _).drew, ?_⟩
          show (wr.setCell _ _).heap[w.heap.size]? = _
          rw [heap_setCell_same wr _ q _ _ _ HX.out, or_pow y m hbt hm8, hON.out trivial]
        case measure => simp [intOf]; omega
    · obtain rfl : k = n := by omega
      go_wp2_with fail
      go_ret
      refine ⟨_, rfl, ?_⟩
      have hNl : (l.length + 7) / 8 = N := by rw [Q1.out, HN.out]
      have H := Has.of_row bk hx (Nat.le_refl _) (packTo_size l N k) (by have := HN.out; simp only [maxLen]; omega)
      have hf := packTo_full l
      rw [hNl, Q1.out] at hf
      rw [hf] at H
      exact H
end Go.Proofs.Ytiibopdnlmnkmaa.AskW
/- The walk of ask.Unpack. -/
namespace Go.Proofs.Ytiibopdnlmnkmaa.AskW
open Go.RowKit Go.Proofs.Ytiibopdnlmnkmaa Go.Proofs.Ytiibopdnlmnkmaa.Ask
theorem bit_of (y m : Nat) (hy : y < 256) : (bits .and .u8 ((y : Int) / (2 : Int) ^ m) 1 == 1) = y.testBit m := by
  have e : (y : Int) / (2 : Int) ^ m = ((y / 2 ^ m : Nat) : Int) := by
    rw [Int.natCast_ediv, Int.natCast_pow]; rfl
  have h := u8_and_nat (y / 2 ^ m) 1 (Nat.lt_of_le_of_lt (Nat.div_le_self _ _) hy) (by omega)
  rw [e, show (1 : Int) = ((1 : Nat) : Int) from rfl, h, Nat.and_one_is_mod, Nat.testBit_eq_decide_div_mod_eq, Bool.eq_iff_iff]
  simp
  omega
theorem unpack_any (A : Option Addr) (n c : Nat) (l : List Nat) (w : World) (hs : Sl w w.heap.size A n (bs l)) (hl : Bytes l) (hn : n ≤ 1000000) :
    Calls Try.prog 71 #[.slice A n c] w fun e w' => ∃ v, e = .returned v ∧ Has w w' 4 v (8 * n) (bl (unpack l)) := by
  have q1 : l.length = n := by simpa using hs.len
  have Q1 := Lib.hid q1
  clear q1
  obtain ⟨N, hN⟩ : ∃ N, N = 8 * n := ⟨_, rfl⟩
  rw [← hN]
  have hN64 : IntKind.i64.wrap (8 * (n : Int)) = N := by rw [IntKind.wrap_i64]; omega
  have HN := Lib.hid hN
  clear hN
  obtain ⟨i0, hi0, hz0, hs0, hb0⟩ := info_parts (P := Try.prog) (e := 4) (z := .bool false) (size := 1) (bytes := 1) (by kernel_rfl)
  go_enter Try.func71, Try.ntmps71
  go_wp2_with (at_make; refine wpList_makeN Try.underlying25 hi0 hz0 hs0 rfl rfl _ _ rfl N rfl rfl (by have := HN.out; rw [hb0]; omega) (by have := HN.out; omega) ?_)
  go_loopw [11] (fun i wr => ∃ k : Nat, k ≤ N ∧ i = .int .i64 k ∧ Below w.heap.size w wr ∧ wr.heap[w.heap.size]? = some (.cells (unTo l N k) 4 (0, 0))) (fun i _ => N - (intOf i).toNat)
  case atStart => exact ⟨0, by omega, rfl, (Below.refl _ w).new _, by rw [unTo_zero]; exact heap_alloc_new w _⟩
  case round =>
    obtain ⟨k, hk, rfl, bk, hx⟩ := hrel
    have hNN : N ≤ 8000000 := by have := HN.out; omega
    by_cases hlt : k < N
    · have s1 := hs.below bk
      have h8 : k / 8 < n := by have := HN.out; omega
      obtain ⟨b, o, rfl, hbl, d1⟩ := s1.2 (by omega)
      have g1 := (d1 (k / 8) h8).trans (bs_get (by rw [Q1.out]; exact h8))
      have z0 : (0 : Int) ≤ (k : Int) := by omega
      have z1 : (k : Int) < (N : Int) := by omega
      have z2 : (0 : Int) ≤ ((k / 8 : Nat) : Int) := by omega
      have z3 : ((k / 8 : Nat) : Int) < (n : Int) := by omega
      have hq : Int.tdiv (k : Int) 8 = ((k / 8 : Nat) : Int) := by rw [Int.tdiv_eq_ediv_of_nonneg (by omega)]; omega
      have hr : Int.tmod (k : Int) 8 = ((k % 8 : Nat) : Int) := by rw [Int.tmod_eq_emod_of_nonneg (by omega)]; omega
      have hq64 := w64 (show k / 8 ≤ 9223372036854775807 by omega)
      have hm64 := w64 (show k % 8 ≤ 9223372036854775807 by omega)
      have y2 : (0 : Int) ≤ ((k % 8 : Nat) : Int) := by omega
      have hm8 : k % 8 < 8 := by omega
      have hbt := hl.at (k / 8)
      have hset := Lib.hid (unTo_set l N k)
      have gx := (cell_of_row wr _ k _ _ _ hx).trans (unTo_get l N k k hlt)
      have fx : wr.frozen? ⟨w.heap.size, k, none⟩ = false := frozen_of_row wr _ k _ _ hx
      obtain ⟨q, eq⟩ : ∃ q, q = k / 8 := ⟨_, rfl⟩
      obtain ⟨m, em⟩ : ∃ m, m = k % 8 := ⟨_, rfl⟩
      rw [← eq] at hq g1 z2 z3 hq64 hset hbt gx
      rw [← em] at hr y2 hm8 hm64 hset gx
      obtain ⟨y, ey⟩ : ∃ y, y = l[q]?.getD 0 := ⟨_, rfl⟩
      rw [← ey] at g1 hset hbt gx
      have HX := Lib.hid hx
      clear d1 ey eq em s1 hs hx
      go_wp2_with fail
      go_roundw
      case rel =>
        refine ⟨k + 1, by omega, by go_num, bk.setCell (Nat.le_refl _) _, ?_⟩
        rw [heap_setCell_same wr _ k _ _ _ HX.out, bit_of y m hbt, hset.out]
      case measure => simp [intOf]; omega
    · obtain rfl : k = N := by omega
      go_wp2_with fail
      go_ret
      refine ⟨_, rfl, ?_⟩
      have H := Has.of_row bk hx (Nat.le_refl _) (unTo_size l k k) (by simp only [maxLen]; omega)
      have hf := unTo_full l
      rw [Q1.out, ← HN.out] at hf
      rw [hf] at H
      exact H
end Go.Proofs.Ytiibopdnlmnkmaa.AskW
/- The walk of ask.Right. -/
namespace Go.Proofs.Ytiibopdnlmnkmaa.AskW
open Go.RowKit Go.Proofs.Ytiibopdnlmnkmaa Go.Proofs.Ytiibopdnlmnkmaa.Ask
theorem right_of_fld (f a m t : Nat) (ws' : List Nat) (bs' : List Bool) : right ⟨f, a, m, t, ws', bs'⟩ = ((fld f).isSome && (!(decide ((fldOf f).many < m) || (m == 0 && decide (0 < (fldOf f).many))) && (((fldOf f).to || t == 0) && fits (fldOf f).bits bs'.length m && fits (fldOf f).words ws'.length m))) := by
  unfold right fldOf
  cases h : fld f with
  | none => rfl
  | some d => simp [Fld.right]
set_option maxHeartbeats 4000000 in
theorem right_any (f a m t : Nat) (Aw : Option Addr) (nw cw : Nat) (Ab : Option Addr) (nb cb : Nat) (W : List Nat) (B : List Bool) (hW : W.length = nw) (hB : B.length = nb) (hm : m < 65536) (w : World) :
    Calls Try.prog 28 #[.agg #[.int .u8 f, .int .u16 a, .int .u16 m, .int .u16 t, .slice Aw nw cw, .slice Ab nb cb]] w
      fun e w' => e = .returned (.bool (right ⟨f, a, m, t, W, B⟩)) ∧ Below w.heap.size w w' := by
  rw [right_of_fld, hW, hB]
  have K1 := Lib.hid (fun W => find_any f W)
  have K2 := Lib.hid (fun X => fright_any (fldOf f).many (fldOf f).to (fldOf f).bits (fldOf f).words f a m t Aw nw cw Ab nb cb hm X)
  obtain ⟨O, hO⟩ : ∃ O, O = (fld f).isSome := ⟨_, rfl⟩
  obtain ⟨D, hD⟩ : ∃ D, D = fldOf f := ⟨_, rfl⟩
  rw [← hO, ← hD]
  rw [← hO, ← hD] at K1
  rw [← hD] at K2
  obtain ⟨R, hR⟩ : ∃ R, R = (!(decide (D.many < m) || (m == 0 && decide (0 < D.many))) && ((D.to || t == 0) && fits D.bits nb m && fits D.words nw m)) := ⟨_, rfl⟩
  rw [← hR]
  rw [← hR] at K2
  clear hO hD hW hB hm hR
  cases O <;> (
    go_enter Try.func28, Try.ntmps28
    go_wp2_with fail
    refine (K1.out _).mono ?_
    rintro e w1 ⟨rfl, b1⟩
    obtain ⟨c0, c1, c2, c3, c4, c5⟩ := row6 (b1.row (by simp) (heap_alloc_new w _))
    have hb := Below.call (Below.new (Below.refl _ w) _) b1
    have hlt : w.heap.size < w1.heap.size := by have := b1.size; simp at this; omega
    have hne : ¬ w.heap.size = w1.heap.size := by omega
    clear b1
    go_wp2_with (go_at_call 44; refine (K2.out _).mono ?_; rintro e w2 ⟨rfl, b2⟩; have hb := Below.call (hb.new _) b2)
    go_ret
    first | exact ⟨rfl, hb.new _⟩ | exact ⟨rfl, hb⟩)
end Go.Proofs.Ytiibopdnlmnkmaa.AskW
/- The walks of the bytes that are still to be read: next, number. -/
namespace Go.Proofs.Ytiibopdnlmnkmaa.AskW
open Go.RowKit Go.Proofs.Ytiibopdnlmnkmaa Go.Proofs.Ytiibopdnlmnkmaa.Ask
/-- Block k holds a slice of bytes that reads as xs, and lies below B. -/
def Rst (w : World) (k B : Nat) (xs : List Nat) : Prop := ∃ A n c, w.heap[k]? = some (.cells #[.slice A n c] 118 (0, 0)) ∧ Sl w B A n (bs xs) ∧ n ≤ c
theorem grown_setCell (w : World) (k o : Nat) (u : Value) : w.grownBy (w.setCell ⟨k, o, none⟩ u) (some k) := by
  refine ⟨rfl, rfl, rfl, by simp [World.setCell], fun j _ hne => Below.heap_setCell _ _ _ _ (fun e => hne (by rw [e]))⟩
theorem Sl.grownLt {w w' : World} {B : Nat} {A : Option Addr} {n k : Nat} {xs : List Value} (h : Sl w B A n xs) (g : w.grownBy w' (some k)) (hk : B ≤ k) (hB : B ≤ w.heap.size) : Sl w' B A n xs :=
  h.keep fun b o hb => World.cell?_of_block (w := w) (a := ⟨b, o, none⟩) (g.block b (Nat.lt_of_lt_of_le hb hB) (fun e => by injection e with e; omega))
theorem next_any (k B : Nat) (xs : List Nat) (hB : B ≤ k) (w : World) (R : Rst w k B xs) :
    Calls Try.prog 62 #[.pointer (some ⟨k, 0, none⟩)] w fun e w' => e = .returned (.int .u8 ((xs[0]?.getD 0 : Nat) : Int)) ∧ Rst w' k B (xs.drop 1) ∧ w.grownBy w' (some k) := by
  obtain ⟨A, n, c, hr, hs, hn⟩ := R
  have q1 : xs.length = n := by simpa using hs.len
  have c0 : w.cell? ⟨k, 0, none⟩ = _ := cell_of_row w k 0 _ _ _ hr
  have f0 := frozen_of_row w k 0 _ _ hr
  have hsz := row_lt hr
  by_cases h0 : n = 0
  · subst h0
    obtain rfl : xs = [] := List.eq_nil_of_length_eq_zero q1
    have HR := Lib.hid hr
    have HS := Lib.hid hs
    clear hr hs q1
    go_enter Try.func62, Try.ntmps62
    go_wp2_with fail
    go_ret
    exact ⟨rfl, ⟨A, 0, c, HR.out, HS.out, hn⟩, ⟨rfl, rfl, rfl, Nat.le_refl _, fun _ _ _ => rfl⟩⟩
  · have hd := Lib.hid (hs.drop (k := 1) (cap := c) (by omega) hn)
    obtain ⟨b, o, rfl, hbl, d1⟩ := hs.2 (by omega)
    have g1 : w.cell? ⟨b, o, none⟩ = _ := (d1 0 (by omega)).trans (bs_get (by omega))
    have z0 : ((n : Int) == 0) = false := by rw [beq_eq_false_iff_ne]; omega
    have z1 : (0 : Int) < (n : Int) := by omega
    have z2 : (1 : Int) ≤ (n : Int) := by omega
    obtain ⟨x, ex⟩ : ∃ x, x = xs[0]?.getD 0 := ⟨_, rfl⟩
    rw [← ex] at g1
    rw [← ex]
    have HR := Lib.hid hr
    have HS := Lib.hid hs
    have HN := Lib.hid hn
    have Q1 := Lib.hid q1
    obtain ⟨ys, ey⟩ : ∃ ys, ys = xs.drop 1 := ⟨_, rfl⟩
    rw [bs_drop, ← ey] at hd
    rw [← ey]
    by_cases hc1 : c = 1
    · rw [if_pos hc1] at hd
      subst hc1
      clear hr hs hn q1 ex ey d1
      go_enter Try.func62, Try.ntmps62
      go_wp2_with fail
      go_ret
      refine ⟨rfl, ⟨some ⟨b, o, none⟩, n - 1, 0, heap_setCell_same w k 0 _ _ _ HR.out, Sl.grownLt hd.out (grown_setCell w k 0 _) hB (by omega), by have := HN.out; omega⟩, grown_setCell w k 0 _⟩
    · rw [if_neg hc1, show Option.map (fun x : Addr => x.add 1) (some (⟨b, o, none⟩ : Addr)) = some ⟨b, o + 1, none⟩ from rfl] at hd
      clear hr hs hn q1 ex ey d1
      go_enter Try.func62, Try.ntmps62
      go_wp2_with fail
      go_ret
      refine ⟨rfl, ⟨some ⟨b, o + 1, none⟩, n - 1, c - 1, heap_setCell_same w k 0 _ _ _ HR.out, Sl.grownLt hd.out (grown_setCell w k 0 _) hB (by omega), by have := HN.out; omega⟩, grown_setCell w k 0 _⟩
/-- A number of two bytes at a place; a byte that is missing is 0. -/
def num (xs : List Nat) (i : Nat) : Nat := 256 * xs[i]?.getD 0 + xs[i + 1]?.getD 0
theorem _root_.Go.World.grownBy.then {w w1 w2 : World} {k : Nat} (h : w.grownBy w1 (some k)) (g : w1.grownBy w2 (some k)) : w.grownBy w2 (some k) :=
  ⟨g.os.trans h.os, g.tape.trans h.tape, g.output.trans h.output, Nat.le_trans h.size g.size, fun j hj hne => (g.block j (Nat.lt_of_lt_of_le hj h.size) hne).trans (h.block j hj hne)⟩
theorem or_hilo (x y : Nat) (hx : x < 256) (hy : y < 256) : bits .or .u16 ((x : Int) * 256) (y : Int) = ((256 * x + y : Nat) : Int) := by
  have h := u16_or_nat (x * 256) y (by omega) (by omega)
  have e : x * 256 ||| y = 256 * x + y := by
    have := Nat.two_pow_add_eq_or_of_lt (i := 8) (b := y) (by omega) x
    rw [show (2 : Nat) ^ 8 = 256 from rfl] at this
    rw [Nat.mul_comm, ← this]
  rw [e] at h
  rw [← h]; rfl
theorem number_any (k B : Nat) (xs : List Nat) (hx : Bytes xs) (hB : B ≤ k) (w : World) (R : Rst w k B xs) :
    Calls Try.prog 60 #[.pointer (some ⟨k, 0, none⟩)] w fun e w' => e = .returned (.int .u16 ((num xs 0 : Nat) : Int)) ∧ Rst w' k B (xs.drop 2) ∧ w.grownBy w' (some k) := by
  have K1 := Lib.hid (next_any k B xs hB w R)
  have K2 := Lib.hid (fun W (R : Rst W k B (xs.drop 1)) => next_any k B (xs.drop 1) hB W R)
  have h0 := hx.at 0
  have h1 := hx.at 1
  have e1 : (xs.drop 1)[0]?.getD 0 = xs[1]?.getD 0 := by rw [List.getElem?_drop]
  have HD := Lib.hid (show (xs.drop 1).drop 1 = xs.drop 2 from by rw [List.drop_drop])
  rw [e1] at K2
  have HNU := Lib.hid (show num xs 0 = 256 * xs[0]?.getD 0 + xs[1]?.getD 0 from rfl)
  obtain ⟨N, eN⟩ : ∃ N, N = num xs 0 := ⟨_, rfl⟩
  obtain ⟨x, ex⟩ : ∃ x, x = xs[0]?.getD 0 := ⟨_, rfl⟩
  obtain ⟨y, ey⟩ : ∃ y, y = xs[1]?.getD 0 := ⟨_, rfl⟩
  rw [← eN]
  rw [← eN, ← ex, ← ey] at HNU
  rw [← ex] at K1 h0
  rw [← ey] at K2 h1
  have HOR := Lib.hid (or_hilo x y h0 h1)
  have wx : IntKind.u16.wrap (x : Int) = x := by rw [IntKind.wrap_u16]; omega
  have wy : IntKind.u16.wrap (y : Int) = y := by rw [IntKind.wrap_u16]; omega
  have wxx : IntKind.u16.wrap ((x : Int) * 256) = (x : Int) * 256 := by rw [IntKind.wrap_u16]; omega
  clear e1 ex ey eN R hx
  go_enter Try.func60, Try.ntmps60
  go_wp2_with fail
  refine K1.out.mono ?_
  rintro e w1 ⟨rfl, R1, g1⟩
  go_wp2_with fail
  refine (K2.out _ R1).mono ?_
  rintro e w2 ⟨rfl, R2, g2⟩
  go_wp2_with fail
  go_ret
  refine ⟨?_, ?_, g1.then g2⟩
  · show Ending.returned (.int .u16 (bits .or .u16 ((x : Int) * 256) (y : Int))) = _
    rw [HOR.out, HNU.out]
  · rw [← HD.out]; exact R2
end Go.Proofs.Ytiibopdnlmnkmaa.AskW
/- The walks of the bytes that are still to be read: numbers, bits. -/
namespace Go.Proofs.Ytiibopdnlmnkmaa.AskW
open Go.RowKit Go.Proofs.Ytiibopdnlmnkmaa Go.Proofs.Ytiibopdnlmnkmaa.Ask
def nums : List Nat → List Nat
  | [] => []
  | [x] => [256 * x]
  | x :: y :: r => (256 * x + y) :: nums r
theorem nums_step {xs : List Nat} (h : 0 < xs.length) : nums xs = num xs 0 :: nums (xs.drop 2) := by
  match xs, h with
  | [x], _ => simp [nums, num]
  | x :: y :: r, _ => simp [nums, num]
theorem nums_len : ∀ xs : List Nat, (nums xs).length ≤ xs.length
  | [] => Nat.le_refl _
  | [_] => Nat.le_refl _
  | _ :: _ :: r => by simp [nums]; have := nums_len r; omega
theorem num_lt {xs : List Nat} (h : Bytes xs) (i : Nat) : num xs i < 65536 := by
  have := h.at i; have := h.at (i + 1); unfold num; omega
def restLen (w : World) (k : Nat) : Nat := match w.heap[k]? with
  | some (Obj.cells cs _ _) => match (cs[0]? : Option Value) with
    | some (Value.slice _ n _) => n
    | _ => 0
  | _ => 0
theorem Rst.len {w : World} {k B : Nat} {xs : List Nat} (R : Rst w k B xs) : restLen w k = xs.length := by
  obtain ⟨A, n, c, hr, hs, _⟩ := R
  unfold restLen
  rw [hr]
  simpa using hs.len.symm
theorem Rst.keep {w w' : World} {k B : Nat} {xs : List Nat} (R : Rst w k B xs) {row : Option Nat} (g : w.grownBy w' row) (hB : B ≤ k) (hk : row ≠ some k) (hr : ∀ r, row = some r → B ≤ r) : Rst w' k B xs := by
  obtain ⟨A, n, c, h, hs, hn⟩ := R
  have hlt := row_lt h
  exact ⟨A, n, c, (g.block k hlt (fun e => hk e.symm)).trans h, hs.keep (fun b o hb => World.cell?_of_block (w := w) (a := ⟨b, o, none⟩) (g.block b (by omega) (fun e => by have := hr b e.symm; omega))), hn⟩
set_option maxHeartbeats 1000000 in
theorem numbers_any (w0 : World) (k B : Nat) (xs : List Nat) (hx : Bytes xs) (hB : B ≤ w0.heap.size) (hk : w0.heap.size ≤ k) (w : World) (hb : Below w0.heap.size w0 w) (R : Rst w k B xs) (hlen : xs.length ≤ 1000) :
    Calls Try.prog 64 #[.pointer (some ⟨k, 0, none⟩)] w fun e w' => ∃ v, e = .returned v ∧ Has w0 w' 29 v (nums xs).length (ws (nums xs)) ∧ w.grownBy w' (some k) ∧ (∀ g, v.ownBlock = some g → w.heap.size ≤ g) ∧ Rst w' k B [] := by
  have hnl := nums_len xs
  obtain ⟨Z, hZ⟩ : ∃ Z, Z = nums xs := ⟨_, rfl⟩
  rw [← hZ] at hnl ⊢
  have HZ := Lib.hid hZ
  clear hZ
  have HR := Lib.hid R
  have HX := Lib.hid hx
  have HL := Lib.hid hlen
  clear R hx hlen
  go_enter Try.func64, Try.ntmps64
  go_wp2_with fail
  go_loopw [3] (fun x wr => ∃ rem acc, acc ++ nums rem = Z ∧ Bytes rem ∧ rem.length ≤ 1000 ∧ Rst wr k B rem ∧ Has w0 wr 29 x acc.length (ws acc) ∧ w.grownBy wr (some k) ∧ (∀ g, x.ownBlock = some g → w.heap.size ≤ g)) (fun _ wr => restLen wr k)
  case atStart => exact ⟨xs, [], HZ.out.symm, HX.out, HL.out, HR.out, Has.nil_ hb _, ⟨rfl, rfl, rfl, Nat.le_refl _, fun _ _ _ => rfl⟩, by simp [Value.ownBlock]⟩
  case round =>
    obtain ⟨rem, acc, hacc, hby, hrl, R, H, g, ho⟩ := hrel
    have HR1 := Lib.hid R
    have hlen := R.len
    obtain ⟨A, n, c, hr, hs, hn⟩ := R
    have q1 : rem.length = n := by simpa using hs.len
    have c0 : wr.cell? ⟨k, 0, none⟩ = _ := cell_of_row wr k 0 _ _ _ hr
    have hsz := row_lt hr
    have HACC := Lib.hid hacc
    have HLEN := Lib.hid hlen
    have hkw : k < w.heap.size := by obtain ⟨_, _, _, h, _⟩ := HR.out; exact row_lt h
    clear hr hs hn hacc hlen
    by_cases h0 : 0 < n
    · have z1 : (0 : Int) < (n : Int) := by omega
      have HS := Lib.hid (nums_step (xs := rem) (by omega))
      have hN := num_lt hby 0
      have K := Lib.hid (number_any k B rem hby (by omega) wr HR1.out)
      have hal : acc.length ≤ 1000 := by
        have := congrArg List.length HACC.out
        simp at this
        have := HL.out
        omega
      go_wp2_with (first | (go_at_call 60; refine K.out.mono ?_; rintro e w1 ⟨rfl, R1, g1⟩; have H1 := H.other g1 hk (fun e => by have := ho _ e; omega)) | (at_builtin; refine wpList_app u16 rfl (.tmp 9) (.tmp 12) rfl (H1.alloc _) rfl (Sl.new1 _ _ _) rfl (one1 _ _) (by omega) (by simp only [maxLen]; omega) ?_; intro v3 w3 H3 g3 o3))
      go_roundw
      case rel =>
        have hw1 := g.then g1
        have g13 : w1.grownBy w3 u3.ownBlock := ⟨g3.os, g3.tape, g3.output, Nat.le_trans (by simp) g3.size, fun j hj hne => by
          rw [g3.block j (by simp; omega) hne]; exact Below.heap_alloc _ _ _ hj⟩
        have hs1 := g1.size
        have hsw := g.size
        refine ⟨rem.drop 2, acc ++ [num rem 0], ?_, hby.drop 2, by simp; omega, R1.keep g13 (by omega) (fun e => by have := ho _ e; omega) (fun r e => by have := ho _ e; omega), ?_, ?_, ?_⟩
        · rw [List.append_assoc, ← HACC.out, HS.out]; rfl
        · have := H3.cast (ys := ws (acc ++ [num rem 0])) (ws_append acc [num rem 0])
          simpa using this
        · exact ⟨g13.os.trans hw1.os, g13.tape.trans hw1.tape, g13.output.trans hw1.output, Nat.le_trans hw1.size g13.size, fun j hj hne => (g13.block j (by omega) (fun e => by have := ho _ e.symm; omega)).trans (hw1.block j hj hne)⟩
        · intro q hq
          rcases o3 with o3 | o3
          · rw [o3] at hq; exact ho _ hq
          · rw [o3] at hq; injection hq with hq; simp at hq; omega
      case measure =>
        have g13 : w1.grownBy w3 u3.ownBlock := ⟨g3.os, g3.tape, g3.output, Nat.le_trans (by simp) g3.size, fun j hj hne => by
          rw [g3.block j (by simp; omega) hne]; exact Below.heap_alloc _ _ _ hj⟩
        have R3 := R1.keep g13 (by omega) (fun e => by have := ho _ e; omega) (fun r e => by have := ho _ e; omega)
        rw [R3.len, HLEN.out]
        simp; omega
    · have z1 : ¬ (0 : Int) < (n : Int) := by omega
      obtain rfl : rem = [] := List.eq_nil_of_length_eq_zero (by omega)
      go_wp2_with fail
      go_ret
      have e : acc = Z := by have := HACC.out; simpa [nums] using this
      subst e
      exact ⟨_, rfl, H, g, ho, HR1.out⟩
theorem bits_any (k B : Nat) (xs : List Nat) (hx : Bytes xs) (hlen : xs.length ≤ 1000) (hB : B ≤ k) (w : World) (R : Rst w k B xs) (n : Nat) :
    Calls Try.prog 63 #[.pointer (some ⟨k, 0, none⟩), .int .i64 n] w fun e w' => ∃ A m c, e = .returned (.slice A m c) ∧ Sl w' w'.heap.size A m (bl ((unpack xs).take n)) ∧ (∀ b o, A = some (⟨b, o, none⟩ : Addr) → w.heap.size ≤ b) ∧ m ≤ c ∧ Below w.heap.size w w' := by
  obtain ⟨A0, n0, c0, hr, hs, hc0⟩ := R
  have q1 : xs.length = n0 := by simpa using hs.len
  have c1 : w.cell? ⟨k, 0, none⟩ = _ := cell_of_row w k 0 _ _ _ hr
  have hsz := row_lt hr
  have K := Lib.hid (unpack_any A0 n0 c0 xs w (hs.mono (by omega)) hx (by omega))
  obtain ⟨M, hM⟩ : ∃ M, M = 8 * n0 := ⟨_, rfl⟩
  rw [← hM] at K
  have hM2 : M ≤ 8000 := by omega
  have HM := Lib.hid hM
  have Q1 := Lib.hid q1
  obtain ⟨m, hmin, hmn, hmM, hmm⟩ : ∃ m : Nat, (∀ W, (Builtin.min_ #[3, 3] 3 #[.int .i64 (n : Int), .int .i64 (M : Int)]).run Try.prog W = .ok (.int .i64 (m : Int)) W) ∧ m ≤ n ∧ m ≤ M ∧ (m = n ∨ m = M) := by
    refine ⟨min n M, fun W => ?_, by omega, by omega, by omega⟩
    simp [Builtin.min_, Builtin.min2]
    (repeat' split) <;> omega
  have HMM := Lib.hid hmm
  clear hr hs hM q1 hmm
  go_enter Try.func63, Try.ntmps63
  go_wp2_with fail
  refine K.out.mono ?_
  rintro e w1 ⟨v, rfl, H⟩
  obtain ⟨A, c, rfl, hMc, S, hA⟩ := H.slice
  have z0 : (0 : Int) ≤ (m : Int) := by omega
  have z1 : (m : Int) ≤ (c : Int) := by omega
  have z2 : m ≤ c := by omega
  go_wp2_with fail
  go_ret
  refine ⟨A, m, c, rfl, ?_, fun b o h => hA b (by rw [h]; rfl), z2, H.bel⟩
  have S2 := S.take hmM
  rw [bl_take] at S2
  have e : (unpack xs).take m = (unpack xs).take n := by
    rcases HMM.out with h | h
    · rw [h]
    · rw [List.take_of_length_le (by rw [unpack_length, Q1.out, h, HM.out]; omega), List.take_of_length_le (by rw [unpack_length, Q1.out]; have := HM.out; omega)]
  rw [← e]
  exact S2
end Go.Proofs.Ytiibopdnlmnkmaa.AskW
