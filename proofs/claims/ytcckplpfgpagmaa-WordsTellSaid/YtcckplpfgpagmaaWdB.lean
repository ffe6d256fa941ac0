/- The walks of layer 6's reference: Wide, Signed, PackRegs, Regs. -/
import Derived.RegionTactic
import Derived.Deep.RegionLaw
import Derived.Test.YtcckplpfgpagmaaWdA
import Derived.Test.YtcckplpfgpagmaaBase
set_option linter.unusedVariables false
set_option linter.unusedSimpArgs false
namespace Go.Proofs.Ytcckplpfgpagmaa.WdW
open Go.RowKit Go.Proofs.Ytcckplpfgpagmaa Go.Proofs.Ytcckplpfgpagmaa.Wd
theorem refWide_any (h l : Nat) (hh : h < 65536) (hl : l < 65536) (w : World) :
    Calls Try.prog 21 #[.int .u16 (h : Nat), .int .u16 (l : Nat)] w fun e w' => e = .returned (.int .u32 ((65536 * h + l : Nat) : Int)) ∧ w = w' := by
  have w1 : IntKind.u32.wrap (h : Int) = (h : Int) := by rw [IntKind.wrap_u32]; omega
  have w2 : IntKind.u32.wrap (l : Int) = (l : Int) := by rw [IntKind.wrap_u32]; omega
  have w3 : IntKind.u32.wrap (65536 * (h : Int)) = 65536 * (h : Int) := by rw [IntKind.wrap_u32]; omega
  have w4 : IntKind.u32.wrap (65536 * (h : Int) + (l : Int)) = 65536 * (h : Int) + (l : Int) := by rw [IntKind.wrap_u32]; omega
  go_enter Try.func21, Try.ntmps21
  go_wp2_with fail
  go_ret
  refine ⟨?_, rfl⟩
  congr 2
theorem ret_i64 {a b : Int} (h : a = b) : Ending.returned (.int .i64 a) = .returned (.int .i64 b) := by rw [h]
theorem refSigned_any (x : Nat) (hx : x < 65536) (w : World) :
    Calls Try.prog 23 #[.int .u16 (x : Nat)] w fun e w' => e = .returned (.int .i64 (signed x)) ∧ w = w' := by
  have w1 := w64 (show x ≤ 9223372036854775807 by omega)
  have w2 : IntKind.i64.wrap ((x : Int) - 65536) = (x : Int) - 65536 := by rw [IntKind.wrap_i64]; omega
  by_cases h : (32768 : Int) ≤ (x : Int)
  · have HS := Lib.hid (show (x : Int) - 65536 = signed x from by unfold signed; rw [if_neg (by omega)])
    go_enter Try.func23, Try.ntmps23
    go_wp2_with fail
    go_ret
    exact ⟨ret_i64 HS.out, rfl⟩
  · have HS := Lib.hid (show (x : Int) = signed x from by unfold signed; rw [if_pos (by omega)])
    go_enter Try.func23, Try.ntmps23
    go_wp2_with fail
    go_ret
    exact ⟨ret_i64 HS.out, rfl⟩
set_option maxHeartbeats 1000000 in
theorem refPackRegs_any (A : Option Addr) (n c : Nat) (l : List Nat) (w : World) (hs : Sl w w.heap.size A n (ws l)) (hw : ∀ x ∈ l, x < 65536) (hn : n ≤ 100000) :
    Calls Try.prog 17 #[.slice A n c] w fun e w' => ∃ v, e = .returned v ∧ Has w w' 5 v (2 * n) (bs (twos l)) := by
  have q1 : l.length = n := by simpa using hs.len
  have Q1 := Lib.hid q1
  have HW := Lib.hid hw
  have HS := Lib.hid hs
  clear q1 hw hs
  go_enter Try.func17, Try.ntmps17
  go_wp2_with fail
  go_loopw [3, 4] (fun x i wr => ∃ k : Nat, k ≤ n ∧ i = .int .i64 k ∧ Has w wr 5 x (2 * k) (bs (twos (l.take k)))) (fun _ i _ => n - (intOf i).toNat)
  case atStart => exact ⟨0, by omega, rfl, Has.nil_ (Below.refl _ _) _⟩
  case round =>
    obtain ⟨k, hk, rfl, HX⟩ := hrel
    by_cases hlt : k < n
    · obtain ⟨b, o, rfl, hbl, d1⟩ := (HS.out.to HX.bel).2 (by omega)
      have g1 := (d1 k hlt).trans (ws_get (by rw [Q1.out]; exact hlt))
      have HT := Lib.hid (twos_snoc (l := l) (k := k) (by rw [Q1.out]; exact hlt))
      have hx : l[k]?.getD 0 < 65536 := by
        rw [List.getElem?_eq_getElem (by rw [Q1.out]; exact hlt)]; exact HW.out _ (List.getElem_mem _)
      obtain ⟨x, ex⟩ : ∃ x, x = l[k]?.getD 0 := ⟨_, rfl⟩
      rw [← ex] at HT g1 hx
      have z0 : (0 : Int) ≤ (k : Int) := by omega
      have z1 : (k : Int) < (n : Int) := by omega
      have hq : Int.tdiv (x : Int) 256 = ((x / 256 : Nat) : Int) := by rw [Int.tdiv_eq_ediv_of_nonneg (by omega)]; omega
      have hr : Int.tmod (x : Int) 256 = ((x % 256 : Nat) : Int) := by rw [Int.tmod_eq_emod_of_nonneg (by omega)]; omega
      have hi : IntKind.u8.wrap ((x / 256 : Nat) : Int) = ((x / 256 : Nat) : Int) := by rw [IntKind.wrap_u8]; omega
      have lo : IntKind.u8.wrap ((x % 256 : Nat) : Int) = ((x % 256 : Nat) : Int) := by rw [IntKind.wrap_u8]; omega
      have qi : IntKind.u16.wrap ((x / 256 : Nat) : Int) = ((x / 256 : Nat) : Int) := by rw [IntKind.wrap_u16]; omega
      have ri : IntKind.u16.wrap ((x % 256 : Nat) : Int) = ((x % 256 : Nat) : Int) := by rw [IntKind.wrap_u16]; omega
      have H2 := Lib.hid (show two x = [x / 256, x % 256] from rfl)
      obtain ⟨p, ep⟩ : ∃ p, p = x / 256 := ⟨_, rfl⟩
      obtain ⟨q, eq⟩ : ∃ q, q = x % 256 := ⟨_, rfl⟩
      rw [← ep] at hq hi qi H2
      rw [← eq] at hr lo ri H2
      clear d1 ex ep eq
      go_wp2_with fail
      go_region_law (first
        | (refine step_app _root_.Go.Proofs.Ytcckplpfgpagmaa.WdW.u8 rfl (.tmp 11) (.tmp 24) rfl (HX.drew.alloc _) rfl (Sl.new2 _ _ _ _) rfl (one2 _ _ _) (by omega) (by simp only [maxLen]; omega) ?_; intro v3 w3 H3 _ _)
        | fail)
      all_goals (
        go_wp2_with fail
        go_roundw
        case rel =>
          refine ⟨k + 1, by omega, by go_num, ?_⟩
          rw [HT.out, H2.out, ← bs_append]
          exact H3
        case measure => simp [intOf]; omega)
    · obtain rfl : k = n := by omega
      go_wp2_with fail
      go_ret
      refine ⟨_, rfl, ?_⟩
      rw [List.take_of_length_le (by rw [Q1.out]; omega)] at HX
      exact HX
/-- Registers of the call's own, and a flag. -/
def RetRegs (w : World) (r : List Nat × Bool) (e : Ending) (w' : World) : Prop := ∃ v, e = .returned (.tuple #[v, .bool r.2]) ∧ Has w w' 36 v r.1.length (ws r.1)
theorem ret_tuple_bool {v : Value} {a b : Bool} (h : a = b) : Ending.returned (.tuple #[v, .bool a]) = .returned (.tuple #[v, .bool b]) := by rw [h]
set_option maxHeartbeats 1000000 in
theorem refRegs_any (A : Option Addr) (n c : Nat) (xs : List Nat) (w : World) (hs : Sl w w.heap.size A n (bs xs)) (hx : Bytes xs) (hn : n ≤ 100000) :
    Calls Try.prog 9 #[.slice A n c] w (RetRegs w (regsE xs)) := by
  have q1 : xs.length = n := by simpa using hs.len
  by_cases he : n % 2 = 0
  · have HE := Lib.hid (show regsE xs = (regs xs, true) from by unfold regsE; rw [if_pos (by omega)])
    have HL := Lib.hid (regs_length xs)
    have Q1 := Lib.hid q1
    have HX := Lib.hid hx
    have HS := Lib.hid hs
    have hrem : Int.tmod (n : Int) 2 = 0 := by rw [Int.tmod_eq_emod_of_nonneg (by omega)]; omega
    obtain ⟨h, hh⟩ : ∃ h, h = n / 2 := ⟨_, rfl⟩
    have hn2 : n = 2 * h := by omega
    have hn3 : n ≤ 2 * h := by omega
    have hn4 : 2 * h ≤ n := by omega
    clear q1 hx hs he hh hn2
    go_enter Try.func9, Try.ntmps9
    go_wp2_with fail
    go_loopw [4, 5] (fun x i wr => ∃ k I : Nat, k ≤ h ∧ I = 2 * k ∧ i = .int .i64 I ∧ Has w wr 36 x k (ws ((regs xs).take k))) (fun _ i _ => n - (intOf i).toNat)
    case atStart => exact ⟨0, 0, by omega, rfl, rfl, Has.nil_ (Below.refl _ _) _⟩
    case round =>
      obtain ⟨k, I, hk, hI, rfl, H⟩ := hrel
      have HI := Lib.hid hI
      by_cases hlt : (I : Int) < (n : Int)
      · obtain ⟨b, o, rfl, hbl, d1⟩ := (HS.out.to H.bel).2 (by omega)
        have g1 := (d1 I (by omega)).trans (bs_get (by rw [Q1.out]; omega))
        have g2 := (d1 (I + 1) (by omega)).trans (bs_get (by rw [Q1.out]; omega))
        have HT := Lib.hid (regs_snoc (xs := xs) (i := k) (by rw [Q1.out]; omega))
        rw [← hI] at HT
        have hx := HX.out.at I
        have hy := HX.out.at (I + 1)
        obtain ⟨x, ex⟩ : ∃ x, x = xs[I]?.getD 0 := ⟨_, rfl⟩
        obtain ⟨y, ey⟩ : ∃ y, y = xs[I + 1]?.getD 0 := ⟨_, rfl⟩
        rw [← ex] at HT g1 hx
        rw [← ey] at HT g2 hy
        have hI1 : IntKind.i64.wrap ((I : Int) + 1) = ((I + 1 : Nat) : Int) := by rw [IntKind.wrap_i64]; omega
        have hI2 : IntKind.i64.wrap ((I : Int) + 2) = ((I + 2 : Nat) : Int) := by rw [IntKind.wrap_i64]; omega
        have z0 : (0 : Int) ≤ (I : Int) := by omega
        have z1 : (0 : Int) ≤ (I : Int) + 1 := by omega
        have z2 : (I : Int) + 1 < (n : Int) := by omega
        have w1 : IntKind.u16.wrap (x : Int) = (x : Int) := by rw [IntKind.wrap_u16]; omega
        have w2 : IntKind.u16.wrap (y : Int) = (y : Int) := by rw [IntKind.wrap_u16]; omega
        have w3 : IntKind.u16.wrap (256 * (x : Int)) = 256 * (x : Int) := by rw [IntKind.wrap_u16]; omega
        have w4 : IntKind.u16.wrap (256 * (x : Int) + (y : Int)) = ((256 * x + y : Nat) : Int) := by rw [IntKind.wrap_u16]; omega
        obtain ⟨z, ez⟩ : ∃ z, z = 256 * x + y := ⟨_, rfl⟩
        rw [← ez] at HT w4
        have hk2 : k + 1 ≤ h := by omega
        clear d1 ex ey ez hI
        go_wp2_with fail
        go_region_law (first
          | (refine step_app _root_.Go.Proofs.Ytcckplpfgpagmaa.WdW.u16 rfl (.tmp 16) (.tmp 30) rfl (H.drew.alloc _) rfl (Sl.new1 _ _ _) rfl (one1 _ _) (by omega) (by simp only [maxLen]; omega) ?_; intro v3 w3 H3 _ _)
          | fail)
        all_goals (
          go_wp2_with fail
          go_roundw
          case rel =>
            refine ⟨k + 1, I + 2, by omega, by rw [HI.out]; omega, by go_num, ?_⟩
            rw [HT.out, ← ws_append]
            exact H3
          case measure => simp [intOf]; omega)
      · obtain rfl : k = h := by omega
        go_wp2_with fail
        go_ret2
        rw [HE.out]
        refine ⟨_, rfl, ?_⟩
        rw [List.take_of_length_le (by rw [HL.out, Q1.out]; omega)] at H
        have hl : (regs xs).length = k := by rw [HL.out, Q1.out]; omega
        dsimp only
        rw [hl]
        exact H
  · have HE := Lib.hid (show regsE xs = ([], false) from by unfold regsE; rw [if_neg (by omega)])
    have hrem : Int.tmod (n : Int) 2 = 1 := by rw [Int.tmod_eq_emod_of_nonneg (by omega)]; omega
    clear q1 hs hx
    go_enter Try.func9, Try.ntmps9
    go_wp2_with fail
    go_ret2
    rw [HE.out]
    exact ⟨_, rfl, Has.nil_ (Below.refl _ _) _⟩
theorem half_pow (X j : Nat) : X / 2 ^ (j + 1) = X / 2 ^ j / 2 := by rw [Nat.pow_succ, Nat.div_div_eq_div_mul]
theorem refBit_any (A : Option Addr) (n c i : Nat) (xs : List Nat) (w : World) (hs : Sl w w.heap.size A n (bs xs)) (hx : Bytes xs) (hi : i < 8 * n) (hn : n ≤ 100000) :
    Calls Try.prog 27 #[.slice A n c, .int .i64 (i : Nat)] w fun e w' => e = .returned (.bool ((xs[i / 8]?.getD 0).testBit (i % 8))) ∧ w = w' := by
  have q1 : xs.length = n := by simpa using hs.len
  have hq : Int.tdiv (i : Int) 8 = ((i / 8 : Nat) : Int) := by rw [Int.tdiv_eq_ediv_of_nonneg (by omega)]; omega
  have hr : Int.tmod (i : Int) 8 = ((i % 8 : Nat) : Int) := by rw [Int.tmod_eq_emod_of_nonneg (by omega)]; omega
  have hm8 : i % 8 < 8 := by omega
  have hqn : i / 8 < n := by omega
  obtain ⟨q, eq⟩ : ∃ q, q = i / 8 := ⟨_, rfl⟩
  obtain ⟨m, em⟩ : ∃ m, m = i % 8 := ⟨_, rfl⟩
  rw [← eq] at hq hqn ⊢
  rw [← em] at hr hm8 ⊢
  have hq64 := w64 (show q ≤ 9223372036854775807 by omega)
  have hm64 := w64 (show m ≤ 9223372036854775807 by omega)
  have z0 : (0 : Int) ≤ (q : Int) := by omega
  have z1 : (q : Int) < (n : Int) := by omega
  obtain ⟨b, o, rfl, hbl, d1⟩ := hs.2 (by omega)
  have g1 := (d1 q hqn).trans (bs_get (by omega))
  have hX := hx.at q
  obtain ⟨X, eX⟩ : ∃ X, X = xs[q]?.getD 0 := ⟨_, rfl⟩
  rw [← eX] at g1 hX ⊢
  clear d1 eX eq em hs hx q1
  go_enter Try.func27, Try.ntmps27
  go_wp2_with fail
  go_loop [5, 6] (fun x i => ∃ j : Nat, j ≤ m ∧ i = .int .i64 j ∧ x = .int .u8 ((X / 2 ^ j : Nat) : Int)) (fun _ i => m - (intOf i).toNat)
  case atStart => exact ⟨0, by omega, rfl, by simp⟩
  case round =>
    obtain ⟨j, hj, rfl, rfl⟩ := hrel
    have HP := Lib.hid (half_pow X j)
    have hY : X / 2 ^ j ≤ X := Nat.div_le_self _ _
    by_cases hlt : (j : Int) < (m : Int)
    · obtain ⟨y, ey⟩ : ∃ y, y = X / 2 ^ j := ⟨_, rfl⟩
      rw [← ey] at HP hY ⊢
      have h1 : Int.tdiv (y : Int) 2 = ((y / 2 : Nat) : Int) := by rw [Int.tdiv_eq_ediv_of_nonneg (by omega)]; omega
      have h2 : IntKind.u8.wrap ((y / 2 : Nat) : Int) = ((y / 2 : Nat) : Int) := by rw [IntKind.wrap_u8]; omega
      obtain ⟨h, eh⟩ : ∃ h, h = y / 2 := ⟨_, rfl⟩
      rw [← eh] at HP h1 h2
      clear ey eh
      go_wp2_with fail
      go_round
      case rel => exact ⟨j + 1, by omega, by go_num, by rw [HP.out]⟩
      case measure => simp [intOf]; omega
    · obtain rfl : j = m := by omega
      have HB := Lib.hid (Nat.testBit_eq_decide_div_mod_eq (x := X) (i := j))
      obtain ⟨y, ey⟩ : ∃ y, y = X / 2 ^ j := ⟨_, rfl⟩
      rw [← ey] at HB hY ⊢
      have h1 : Int.tmod (y : Int) 2 = ((y % 2 : Nat) : Int) := by rw [Int.tmod_eq_emod_of_nonneg (by omega)]; omega
      have h2 : IntKind.u8.wrap ((y % 2 : Nat) : Int) = ((y % 2 : Nat) : Int) := by rw [IntKind.wrap_u8]; omega
      obtain ⟨h, eh⟩ : ∃ h, h = y % 2 := ⟨_, rfl⟩
      rw [← eh] at HB h1 h2
      have hT : ((h : Int) == 1) = decide (h = 1) := by rw [Bool.eq_iff_iff, beq_iff_eq, decide_eq_true_iff]; omega
      clear ey eh
      go_wp2_with fail
      go_ret
      exact ⟨ret_bool HB.out.symm, rfl⟩
end Go.Proofs.Ytcckplpfgpagmaa.WdW
