/- The walks of math/bits.TrailingZeros32 (its table lies in its variable), zeros.apply, zerosOf, zeros.twice, sum.Zeros. -/
import Derived.Test.YtegcnnbhgdafmaaDoorSmA
import Derived.Test.YtegcnnbhgdafmaaDoorBase
import Derived.Laws.Rows
import Derived.Laws.Tables
import Derived.BigQuiet
import Derived.Deep.QuietTactic
import Derived.Deep.WholeRow
set_option linter.unusedVariables false
set_option linter.unusedSimpArgs false
namespace Go.Proofs.YtegcnnbhgdafmaaDoor.SmW
open Go.RowKit Go.Proofs.YtegcnnbhgdafmaaDoor Go.Proofs.YtegcnnbhgdafmaaDoor.Sm
/-- The library's table, as its initialiser lays it. -/
def TabW (w : World) : Prop := ∀ j : Nat, j < 32 → w.cell? ⟨0, j, none⟩ = some (.int .u8 (Lib.deBruijn32tab.getD j 0 : Nat))
theorem TabW.lt {w : World} (h : TabW w) : 0 < w.heap.size := by
  have h0 := h 0 (by omega)
  apply Nat.lt_of_not_le
  intro hle
  rw [World.cell?, Array.getElem?_eq_none hle] at h0
  cases h0
theorem TabW.to {w w' : World} (h : TabW w) (b : Below w.heap.size w w') : TabW w' := fun j hj => by rw [b.cell (p := ⟨0, j, none⟩) h.lt]; exact h j hj
theorem TabW.drewN {w : World} (h : TabW w) (n : Nat) : TabW (w.drewN n) := h
theorem tz_key (x a : Nat) (hx : x < 4294967296) (hx0 : x ≠ 0) (hlow : x &&& (4294967296 - x) = a) :
    bits BinOp.and IntKind.u32 (x : Int) (-(x : Int) % 4294967296) * 125613361 % 4294967296 / 134217728 = ((a * 125613361 % 4294967296 / 134217728 : Nat) : Int) := by
  have e1 : -(x : Int) % 4294967296 = ((4294967296 - x : Nat) : Int) := by omega
  rw [e1, u32_and_nat x _ hx (by omega), hlow]
  omega
theorem tz_core (x k idx : Nat) (w : World) (hx0 : ((x : Int) == 0) = false)
    (key : bits BinOp.and IntKind.u32 (x : Int) (-(x : Int) % 4294967296) * 125613361 % 4294967296 / 134217728 = (idx : Int))
    (hi : idx < 32) (hk : k < 32) (hcell : w.cell? ⟨0, idx, none⟩ = some (.int .u8 k)) :
    Calls Tryd.prog 22 #[.int .u32 x] w fun e w' => e = .returned (.int .i64 k) ∧ w = w' := by
  go_enter Tryd.func22, Tryd.ntmps22
  go_wp2_with (simp only [key])
  go_ret
  exact ⟨rfl, rfl⟩
theorem tz_any (x : Nat) (hx : x < 4294967296) (h0 : x ≠ 0) (w : World) (ht : TabW w) :
    Calls Tryd.prog 22 #[.int .u32 x] w fun e w' => e = .returned (.int .i64 (Lib.ctz 32 x : Nat)) ∧ w = w' := by
  obtain ⟨hlow, hk⟩ := Lib.lowest_bit 32 x h0 hx
  obtain ⟨hi, htab⟩ := Lib.deBruijn32_at _ hk
  have hcell := ht _ hi
  rw [htab] at hcell
  exact tz_core x _ _ w (by simp; omega) (tz_key x _ hx h0 hlow) hi hk hcell

/-! ### apply -/
/-- The table of so many noughts lies in block b. -/
def ZAt (w : World) (b m : Nat) : Prop := ∀ i : Nat, i < 32 → w.cell? ⟨b, i, none⟩ = some (.int .u32 (it m (2 ^ i) : Nat))
theorem apply_any (b s m : Nat) (hs : s < 4294967296) (w : World) (hz : ZAt w b m) (hb : b < w.heap.size) (ht : TabW w) :
    Calls Tryd.prog 20 #[.pointer (some ⟨b, 0, none⟩), .int .u32 s] w fun e w' => e = .returned (.int .u32 (it m s : Nat)) ∧ Below w.heap.size w w' := by
  have HZ := Lib.hid hz
  have HT := Lib.hid ht
  clear hz ht
  go_enter Tryd.func20, Tryd.ntmps20
  go_wp2_with fail
  go_loopw [1, 5] (fun x o wr => ∃ r q : Nat, x = .int .u32 r ∧ o = .int .u32 q ∧ r < 4294967296 ∧ q < 4294967296 ∧ Hid (q ^^^ it m r = it m s) ∧ Below w.heap.size w wr) (fun x _ _ => (intOf x).toNat)
  case atStart => exact ⟨s, 0, rfl, rfl, hs, by omega, by show 0 ^^^ it m s = it m s; rw [Nat.zero_xor], Below.refl _ _⟩
  case round =>
    obtain ⟨r, q, rfl, rfl, hr, hq, HR, bw⟩ := hrel
    by_cases h0 : r = 0
    · subst h0
      have HQ := Lib.hid (show q = it m s from by have := HR.out; rwa [it_of_zero, Nat.xor_zero] at this)
      go_wp2_with fail
      go_ret
      exact ⟨ret_u32 (by rw [HQ.out]), bw⟩
    · have hne : ((r : Int) != 0) = true := by rw [bne_iff_ne]; omega
      obtain ⟨hand, hlt, hc⟩ := low_gone h0 hr
      have htz := fun n => tz_any r hr h0 (wr.drewN n) ((HT.out.to bw).drewN n)
      have hsub : ((r : Int) - 1) % 4294967296 = ((r - 1 : Nat) : Int) := by omega
      have hsub2 : IntKind.u32.wrap ((r : Int) - 1) = ((r - 1 : Nat) : Int) := by rw [IntKind.wrap_u32]; exact hsub
      have hand2 := u32_and_nat r (r - 1) hr (by omega)
      obtain ⟨c, ec⟩ : ∃ c, c = Lib.ctz 32 r := ⟨_, rfl⟩
      rw [← ec] at hand hc htz
      have hcell := (bw.cell (p := ⟨b, c, none⟩) hb).trans (HZ.out c hc)
      have hy : it m (2 ^ c) < 4294967296 := it_lt (Nat.pow_lt_pow_of_lt (a := 2) (n := c) (m := 32) (by omega) hc)
      have hxor := u32_xor_nat q (it m (2 ^ c)) hq hy
      have hq2 : q ^^^ it m (2 ^ c) < 4294967296 := Nat.xor_lt_two_pow (n := 32) hq hy
      have HN := Lib.hid (show (q ^^^ it m (2 ^ c)) ^^^ it m (r &&& (r - 1)) = it m s from by
        rw [hand, it_xor, ← HR.out, Nat.xor_comm (it m r), ← Nat.xor_assoc, Nat.xor_assoc q, Nat.xor_self, Nat.xor_zero])
      obtain ⟨y, ey⟩ : ∃ y, y = it m (2 ^ c) := ⟨_, rfl⟩
      rw [← ey] at hcell hy hxor hq2 HN
      obtain ⟨r1, er1⟩ : ∃ r1, r1 = r - 1 := ⟨_, rfl⟩
      rw [← er1] at hsub hsub2 hand2 HN hlt hand
      obtain ⟨r2, er2⟩ : ∃ r2, r2 = r &&& r1 := ⟨_, rfl⟩
      rw [← er2] at hand2 HN hlt
      obtain ⟨q2, eq2⟩ : ∃ q2, q2 = q ^^^ y := ⟨_, rfl⟩
      rw [← eq2] at hxor hq2 HN
      have z0 : (0 : Int) ≤ (c : Int) := by omega
      have z1 : (c : Int) < 32 := by omega
      have HTZ := Lib.hid htz
      clear ec ey er1 er2 eq2 htz hand h0
      go_wp2_with fail
      go_quiet (first | (go_at_call 22; exact Calls.quiet_of_same ((HTZ.out _).mono fun e w' h => ⟨h.1, h.2.symm⟩)))
      go_wp2_with fail
      go_roundw
      case rel => exact ⟨r2, q2, rfl, rfl, by omega, hq2, HN.out, bw.drewN _⟩
      case measure => simp [intOf]; omega
end Go.Proofs.YtegcnnbhgdafmaaDoor.SmW
