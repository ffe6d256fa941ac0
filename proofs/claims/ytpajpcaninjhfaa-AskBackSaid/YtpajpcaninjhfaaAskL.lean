/- The walks of the bytes that are still to be read: next, number. -/
import Derived.Test.YtpajpcaninjhfaaAskF
namespace Go.Proofs.Ytpajpcaninjhfaa.AskW
open Go.RowKit Go.Proofs.Ytpajpcaninjhfaa Go.Proofs.Ytpajpcaninjhfaa.Ask
/-- Block k holds a slice of bytes that reads as xs, and lies below B. -/
def Rst (w : World) (k B : Nat) (xs : List Nat) : Prop := ∃ A n c, w.heap[k]? = some (.cells #[.slice A n c] 68 (0, 0)) ∧ Sl w B A n (bs xs) ∧ n ≤ c
theorem grown_setCell (w : World) (k o : Nat) (u : Value) : w.grownBy (w.setCell ⟨k, o, none⟩ u) (some k) := by
  refine ⟨rfl, rfl, rfl, by simp [World.setCell], fun j _ hne => Below.heap_setCell _ _ _ _ (fun e => hne (by rw [e]))⟩
theorem Sl.grownLt {w w' : World} {B : Nat} {A : Option Addr} {n k : Nat} {xs : List Value} (h : Sl w B A n xs) (g : w.grownBy w' (some k)) (hk : B ≤ k) (hB : B ≤ w.heap.size) : Sl w' B A n xs :=
  h.keep fun b o hb => World.cell?_of_block (w := w) (a := ⟨b, o, none⟩) (g.block b (Nat.lt_of_lt_of_le hb hB) (fun e => by injection e with e; omega))
theorem next_any (k B : Nat) (xs : List Nat) (hB : B ≤ k) (w : World) (R : Rst w k B xs) :
    Calls Try.prog 44 #[.pointer (some ⟨k, 0, none⟩)] w fun e w' => e = .returned (.int .u8 ((xs[0]?.getD 0 : Nat) : Int)) ∧ Rst w' k B (xs.drop 1) ∧ w.grownBy w' (some k) := by
  obtain ⟨A, n, c, hr, hs, hn⟩ := R
  have q1 : xs.length = n := by simpa using hs.len
  have c0 : w.cell? ⟨k, 0, none⟩ = _ := cell_of_row w k 0 _ _ _ hr
  have f0 := frozen_of_row w k 0 _ _ hr
  have hsz := row_lt hr
  by_cases h0 : n = 0
  · subst h0
    obtain rfl : xs = [] := List.eq_nil_of_length_eq_zero q1
    have HR := Lib.hid hr
    have HS := Lib.hid hs
    clear hr hs q1
    go_enter Try.func44, Try.ntmps44
    go_wp2_with fail
    go_ret
    exact ⟨rfl, ⟨A, 0, c, HR.out, HS.out, hn⟩, ⟨rfl, rfl, rfl, Nat.le_refl _, fun _ _ _ => rfl⟩⟩
  · have hd := Lib.hid (hs.drop (k := 1) (cap := c) (by omega) hn)
    obtain ⟨b, o, rfl, hbl, d1⟩ := hs.2 (by omega)
    have g1 : w.cell? ⟨b, o, none⟩ = _ := (d1 0 (by omega)).trans (bs_get (by omega))
    have z0 : ((n : Int) == 0) = false := by rw [beq_eq_false_iff_ne]; omega
    have z1 : (0 : Int) < (n : Int) := by omega
    have z2 : (1 : Int) ≤ (n : Int) := by omega
    obtain ⟨x, ex⟩ : ∃ x, x = xs[0]?.getD 0 := ⟨_, rfl⟩
    rw [← ex] at g1
    rw [← ex]
    have HR := Lib.hid hr
    have HS := Lib.hid hs
    have HN := Lib.hid hn
    have Q1 := Lib.hid q1
    obtain ⟨ys, ey⟩ : ∃ ys, ys = xs.drop 1 := ⟨_, rfl⟩
    rw [bs_drop, ← ey] at hd
    rw [← ey]
    by_cases hc1 : c = 1
    · rw [if_pos hc1] at hd
      subst hc1
      clear hr hs hn q1 ex ey d1
      go_enter Try.func44, Try.ntmps44
      go_wp2_with fail
      go_ret
      refine ⟨rfl, ⟨some ⟨b, o, none⟩, n - 1, 0, heap_setCell_same w k 0 _ _ _ HR.out, Sl.grownLt hd.out (grown_setCell w k 0 _) hB (by omega), by have := HN.out; omega⟩, grown_setCell w k 0 _⟩
    · rw [if_neg hc1, show Option.map (fun x : Addr => x.add 1) (some (⟨b, o, none⟩ : Addr)) = some ⟨b, o + 1, none⟩ from rfl] at hd
      clear hr hs hn q1 ex ey d1
      go_enter Try.func44, Try.ntmps44
      go_wp2_with fail
      go_ret
      refine ⟨rfl, ⟨some ⟨b, o + 1, none⟩, n - 1, c - 1, heap_setCell_same w k 0 _ _ _ HR.out, Sl.grownLt hd.out (grown_setCell w k 0 _) hB (by omega), by have := HN.out; omega⟩, grown_setCell w k 0 _⟩
/-- A number of two bytes at a place; a byte that is missing is 0. -/
def num (xs : List Nat) (i : Nat) : Nat := 256 * xs[i]?.getD 0 + xs[i + 1]?.getD 0
theorem _root_.Go.World.grownBy.then {w w1 w2 : World} {k : Nat} (h : w.grownBy w1 (some k)) (g : w1.grownBy w2 (some k)) : w.grownBy w2 (some k) :=
  ⟨g.os.trans h.os, g.tape.trans h.tape, g.output.trans h.output, Nat.le_trans h.size g.size, fun j hj hne => (g.block j (Nat.lt_of_lt_of_le hj h.size) hne).trans (h.block j hj hne)⟩
theorem or_hilo (x y : Nat) (hx : x < 256) (hy : y < 256) : bits .or .u16 ((x : Int) * 256) (y : Int) = ((256 * x + y : Nat) : Int) := by
  have h := u16_or_nat (x * 256) y (by omega) (by omega)
  have e : x * 256 ||| y = 256 * x + y := by
    have := Nat.two_pow_add_eq_or_of_lt (i := 8) (b := y) (by omega) x
    rw [show (2 : Nat) ^ 8 = 256 from rfl] at this
    rw [Nat.mul_comm, ← this]
  rw [e] at h
  rw [← h]; rfl
theorem number_any (k B : Nat) (xs : List Nat) (hx : Bytes xs) (hB : B ≤ k) (w : World) (R : Rst w k B xs) :
    Calls Try.prog 43 #[.pointer (some ⟨k, 0, none⟩)] w fun e w' => e = .returned (.int .u16 ((num xs 0 : Nat) : Int)) ∧ Rst w' k B (xs.drop 2) ∧ w.grownBy w' (some k) := by
  have K1 := Lib.hid (next_any k B xs hB w R)
  have K2 := Lib.hid (fun W (R : Rst W k B (xs.drop 1)) => next_any k B (xs.drop 1) hB W R)
  have h0 := hx.at 0
  have h1 := hx.at 1
  have e1 : (xs.drop 1)[0]?.getD 0 = xs[1]?.getD 0 := by rw [List.getElem?_drop]
  have HD := Lib.hid (show (xs.drop 1).drop 1 = xs.drop 2 from by rw [List.drop_drop])
  rw [e1] at K2
  have HNU := Lib.hid (show num xs 0 = 256 * xs[0]?.getD 0 + xs[1]?.getD 0 from rfl)
  obtain ⟨N, eN⟩ : ∃ N, N = num xs 0 := ⟨_, rfl⟩
  obtain ⟨x, ex⟩ : ∃ x, x = xs[0]?.getD 0 := ⟨_, rfl⟩
  obtain ⟨y, ey⟩ : ∃ y, y = xs[1]?.getD 0 := ⟨_, rfl⟩
  rw [← eN]
  rw [← eN, ← ex, ← ey] at HNU
  rw [← ex] at K1 h0
  rw [← ey] at K2 h1
  have HOR := Lib.hid (or_hilo x y h0 h1)
  have wx : IntKind.u16.wrap (x : Int) = x := by rw [IntKind.wrap_u16]; omega
  have wy : IntKind.u16.wrap (y : Int) = y := by rw [IntKind.wrap_u16]; omega
  have wxx : IntKind.u16.wrap ((x : Int) * 256) = (x : Int) * 256 := by rw [IntKind.wrap_u16]; omega
  clear e1 ex ey eN R hx
  go_enter Try.func43, Try.ntmps43
  go_wp2_with fail
  refine K1.out.mono ?_
  rintro e w1 ⟨rfl, R1, g1⟩
  go_wp2_with fail
  refine (K2.out _ R1).mono ?_
  rintro e w2 ⟨rfl, R2, g2⟩
  go_wp2_with fail
  go_ret
  refine ⟨?_, ?_, g1.then g2⟩
  · show Ending.returned (.int .u16 (bits .or .u16 ((x : Int) * 256) (y : Int))) = _
    rw [HOR.out, HNU.out]
  · rw [← HD.out]; exact R2
end Go.Proofs.Ytpajpcaninjhfaa.AskW
