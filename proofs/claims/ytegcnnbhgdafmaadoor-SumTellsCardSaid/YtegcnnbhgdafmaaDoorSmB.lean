/- The walks of sum.Words, the reference's Words, and the law's examples. -/
import Derived.Test.YtegcnnbhgdafmaaDoorSmA
import Derived.Test.YtegcnnbhgdafmaaDoorWdE
import Derived.Test.YtegcnnbhgdafmaaDoorBase
import Derived.RegionTactic
import Derived.Deep.RegionLaw
import Derived.Lib.SlBytesConst
set_option linter.unusedVariables false
set_option linter.unusedSimpArgs false
namespace Go.Proofs.YtegcnnbhgdafmaaDoor.SmW
open Go.RowKit Go.Proofs.YtegcnnbhgdafmaaDoor Go.Proofs.YtegcnnbhgdafmaaDoor.Sm Go.Proofs.YtegcnnbhgdafmaaDoor.Wd
theorem words_any (A : Option Addr) (n cap : Nat) (l : List Nat) (w : World) (hs : Sl w w.heap.size A n (ws l)) (hw : ∀ x ∈ l, x < 65536) (hn : n ≤ 100000) :
    Calls Tryd.prog 11 #[.slice A n cap] w fun e w' => e = .returned (.int .u32 (chk (twos l) : Nat)) ∧ Below w.heap.size w w' := by
  have HB := Lib.hid (twos_bytes hw)
  go_enter Tryd.func11, Tryd.ntmps11
  go_wp2_with fail
  refine (WdW.packRegs_any A n cap l _ hs hw hn).mono ?_
  rintro e w1 ⟨v1, rfl, H1⟩
  obtain ⟨A1, c1, rfl, -, S1, -⟩ := H1.slice
  go_wp2_with fail
  refine (bytes_any A1 _ c1 (twos l) _ S1 HB.out (by omega)).mono ?_
  rintro e w2 ⟨rfl, rfl⟩
  go_wp2_with fail
  go_ret
  exact ⟨rfl, H1.bel⟩
theorem u8 : Elem Tryd.prog 23 5 1 := .mk' (z := .int .u8 0) Tryd.underlying23 (by kernel_rfl) rfl
set_option maxHeartbeats 1000000 in
theorem refWords_any (A : Option Addr) (n c : Nat) (l : List Nat) (w : World) (hs : Sl w w.heap.size A n (ws l)) (hw : ∀ x ∈ l, x < 65536) (hn : n ≤ 100000) :
    Calls Tryd.prog 12 #[.slice A n c] w fun e w' => e = .returned (.int .u32 (chk (twos l) : Nat)) ∧ Below w.heap.size w w' := by
  have q1 : l.length = n := by simpa using hs.len
  have Q1 := Lib.hid q1
  have HW := Lib.hid hw
  have HS := Lib.hid hs
  clear q1 hw hs
  go_enter Tryd.func12, Tryd.ntmps12
  go_wp2_with fail
  go_loopw [3, 4] (fun x i wr => ∃ k : Nat, k ≤ n ∧ i = .int .i64 k ∧ Has w wr 5 x (2 * k) (bs (twos (l.take k)))) (fun _ i _ => n - (intOf i).toNat)
  case atStart => exact ⟨0, by omega, rfl, Has.nil_ (Below.refl _ _) _⟩
  case round =>
    obtain ⟨k, hk, rfl, HX⟩ := hrel
    by_cases hlt : k < n
    · obtain ⟨b, o, rfl, hbl, d1⟩ := (HS.out.to HX.bel).2 (by omega)
      have g1 := (d1 k hlt).trans (ws_get (by rw [Q1.out]; exact hlt))
      have HT := Lib.hid (twos_snoc (l := l) (k := k) (by rw [Q1.out]; exact hlt))
      have hx : l[k]?.getD 0 < 65536 := by
        rw [List.getElem?_eq_getElem (by rw [Q1.out]; exact hlt)]; exact HW.out _ (List.getElem_mem _)
      obtain ⟨x, ex⟩ : ∃ x, x = l[k]?.getD 0 := ⟨_, rfl⟩
      rw [← ex] at HT g1 hx
      have z0 : (0 : Int) ≤ (k : Int) := by omega
      have z1 : (k : Int) < (n : Int) := by omega
      have hq : Int.tdiv (x : Int) 256 = ((x / 256 : Nat) : Int) := by rw [Int.tdiv_eq_ediv_of_nonneg (by omega)]; omega
      have hr : Int.tmod (x : Int) 256 = ((x % 256 : Nat) : Int) := by rw [Int.tmod_eq_emod_of_nonneg (by omega)]; omega
      have hi : IntKind.u8.wrap ((x / 256 : Nat) : Int) = ((x / 256 : Nat) : Int) := by rw [IntKind.wrap_u8]; omega
      have lo : IntKind.u8.wrap ((x % 256 : Nat) : Int) = ((x % 256 : Nat) : Int) := by rw [IntKind.wrap_u8]; omega
      have qi : IntKind.u16.wrap ((x / 256 : Nat) : Int) = ((x / 256 : Nat) : Int) := by rw [IntKind.wrap_u16]; omega
      have ri : IntKind.u16.wrap ((x % 256 : Nat) : Int) = ((x % 256 : Nat) : Int) := by rw [IntKind.wrap_u16]; omega
      have H2 := Lib.hid (show two x = [x / 256, x % 256] from rfl)
      obtain ⟨p, ep⟩ : ∃ p, p = x / 256 := ⟨_, rfl⟩
      obtain ⟨q, eq⟩ : ∃ q, q = x % 256 := ⟨_, rfl⟩
      rw [← ep] at hq hi qi H2
      rw [← eq] at hr lo ri H2
      clear d1 ex ep eq
      go_wp2_with fail
      go_region_law (first
        | (refine step_app _root_.Go.Proofs.YtegcnnbhgdafmaaDoor.SmW.u8 rfl (.tmp 11) (.tmp 24) rfl (HX.drew.alloc _) rfl (Sl.new2 _ _ _ _) rfl (one2 _ _ _) (by omega) (by simp only [maxLen]; omega) ?_; intro v3 w3 H3 _ _)
        | fail)
      all_goals (
        go_wp2_with fail
        go_roundw
        case rel =>
          refine ⟨k + 1, by omega, by go_num, ?_⟩
          have e : bs (twos (l.take k)) ++ [Value.int .u8 (p : Int), .int .u8 (q : Int)] = bs (twos (l.take (k + 1))) := by rw [HT.out, H2.out, ← bs_append]; rfl
          rw [e, show 2 * k + 2 = 2 * (k + 1) by omega] at H3
          exact H3
        case measure => simp [intOf]; omega)
    · obtain rfl : k = n := by omega
      rw [List.take_of_length_le (by rw [Q1.out]; omega)] at HX
      obtain ⟨A1, c1, rfl, -, S1, -⟩ := HX.slice
      go_wp2_with fail
      refine (refBytes_any A1 _ c1 (twos l) _ S1 (twos_bytes HW.out) (by omega)).mono ?_
      rintro e w2 ⟨rfl, rfl⟩
      go_wp2_with fail
      go_ret
      exact ⟨rfl, HX.bel⟩
theorem bytes_of {l : List Nat} (h : (l.all fun c => decide (c < 256)) = true) : Bytes l := fun c hc => by
  have := List.all_eq_true.1 h c hc
  simpa using this
theorem ex9 : chk [49, 50, 51, 52, 53, 54, 55, 56, 57] = 3421780262 := by decide +kernel
theorem ex0 : chk [] = 0 := by decide +kernel
theorem ex4 : chk [49, 50, 51, 52] = 2615402659 := by decide +kernel
theorem exw : chk (twos [12594, 13108]) = 2615402659 := by decide +kernel
theorem awake_any (w : World) :
    Calls Tryd.prog 6 #[] w fun e w' => e = .returned (.bool true) ∧ Below w.heap.size w w' := by
  have kc := fun (w : World) (C : Array Value) (n c : Nat) => Lib.run_convert_bytes_const (P := Tryd.prog) w 23 5 C n c Tryd.underlying23 Tryd.underlying5
  go_enter Tryd.func6, Tryd.ntmps6
  go_wp2_with fail
  refine (bytes_any _ 9 9 [49, 50, 51, 52, 53, 54, 55, 56, 57] _ (Sl.newF _ #[_, _, _, _, _, _, _, _, _] _ _ _ (by simp)) (bytes_of (by decide)) (by omega)).mono ?_
  rw [ex9]
  rintro e w1 ⟨rfl, h1⟩
  have B1 : Below w.heap.size w w1 := by rw [← h1]; exact (Below.refl _ w).new _
  clear h1
  go_wp2_with fail
  refine (bytes_any none 0 0 [] _ (Sl.empty _ _ _) (bytes_of (by decide)) (by omega)).mono ?_
  rw [ex0]
  rintro e w2 ⟨rfl, rfl⟩
  go_wp2_with fail
  refine (words_any _ 2 2 [12594, 13108] _ (Sl.new _ #[_, _] _ _ (by simp)) (by decide) (by omega)).mono ?_
  rw [exw]
  rintro e w3 ⟨rfl, b3⟩
  have B3 := (B1.new _).call b3
  clear B1 b3
  go_wp2_with fail
  refine (bytes_any _ 4 4 [49, 50, 51, 52] _ (Sl.newF _ #[_, _, _, _] _ _ _ (by simp)) (bytes_of (by decide)) (by omega)).mono ?_
  rw [ex4]
  rintro e w4 ⟨rfl, h4⟩
  have B4 : Below w.heap.size w w4 := by rw [← h4]; exact B3.new _
  clear h4 B3
  go_wp2_with fail
  refine (bytes_any _ 4 4 [49, 50, 51, 52] _ (Sl.newF _ #[_, _, _, _] _ _ _ (by simp)) (bytes_of (by decide)) (by omega)).mono ?_
  rw [ex4]
  rintro e w5 ⟨rfl, h5⟩
  have B5 : Below w.heap.size w w5 := by rw [← h5]; exact B4.new _
  clear h5 B4
  go_wp2_with fail
  go_ret
  exact ⟨rfl, B5⟩
end Go.Proofs.YtegcnnbhgdafmaaDoor.SmW
