/- The walks of sum.Words, the reference's Words, and the law's examples. -/
import Derived.Test.YtegcnnbhgdafmaaSmA
import Derived.Test.YtegcnnbhgdafmaaWdE
import Derived.Test.YtegcnnbhgdafmaaBase
import Derived.RegionTactic
import Derived.Deep.RegionLaw
import Derived.Lib.SlBytesConst
set_option linter.unusedVariables false
set_option linter.unusedSimpArgs false
namespace Go.Proofs.Ytegcnnbhgdafmaa.SmW
open Go.RowKit Go.Proofs.Ytegcnnbhgdafmaa Go.Proofs.Ytegcnnbhgdafmaa.Sm Go.Proofs.Ytegcnnbhgdafmaa.Wd
theorem words_any (A : Option Addr) (n cap : Nat) (l : List Nat) (w : World) (hs : Sl w w.heap.size A n (ws l)) (hw : ∀ x ∈ l, x < 65536) (hn : n ≤ 100000) :
    Calls Try.prog 7 #[.slice A n cap] w fun e w' => e = .returned (.int .u32 (chk (twos l) : Nat)) ∧ Below w.heap.size w w' := by
  have HB := Lib.hid (twos_bytes hw)
  go_enter Try.func7, Try.ntmps7
  go_wp2_with fail
  refine (WdW.packRegs_any A n cap l _ hs hw hn).mono ?_
  rintro e w1 ⟨v1, rfl, H1⟩
  obtain ⟨A1, c1, rfl, -, S1, -⟩ := H1.slice
  go_wp2_with fail
  refine (bytes_any A1 _ c1 (twos l) _ S1 HB.out (by omega)).mono ?_
  rintro e w2 ⟨rfl, rfl⟩
  go_wp2_with fail
  go_ret
  exact ⟨rfl, H1.bel⟩
theorem u8 : Elem Try.prog 22 5 1 := .mk' (z := .int .u8 0) Try.underlying22 (by kernel_rfl) rfl
theorem bytes_of {l : List Nat} (h : (l.all fun c => decide (c < 256)) = true) : Bytes l := fun c hc => by
  have := List.all_eq_true.1 h c hc
  simpa using this
theorem ex9 : chk [49, 50, 51, 52, 53, 54, 55, 56, 57] = 3421780262 := by decide +kernel
theorem ex0 : chk [] = 0 := by decide +kernel
theorem ex4 : chk [49, 50, 51, 52] = 2615402659 := by decide +kernel
theorem exw : chk (twos [12594, 13108]) = 2615402659 := by decide +kernel
theorem awake_any (w : World) :
    Calls Try.prog 5 #[] w fun e w' => e = .returned (.bool true) ∧ Below w.heap.size w w' := by
  have kc := fun (w : World) (C : Array Value) (n c : Nat) => Lib.run_convert_bytes_const (P := Try.prog) w 22 5 C n c Try.underlying22 Try.underlying5
  go_enter Try.func5, Try.ntmps5
  go_wp2_with fail
  refine (bytes_any _ 9 9 [49, 50, 51, 52, 53, 54, 55, 56, 57] _ (Sl.newF _ #[_, _, _, _, _, _, _, _, _] _ _ _ (by simp)) (bytes_of (by decide)) (by omega)).mono ?_
  rw [ex9]
  rintro e w1 ⟨rfl, h1⟩
  have B1 : Below w.heap.size w w1 := by rw [← h1]; exact (Below.refl _ w).new _
  clear h1
  go_wp2_with fail
  refine (bytes_any none 0 0 [] _ (Sl.empty _ _ _) (bytes_of (by decide)) (by omega)).mono ?_
  rw [ex0]
  rintro e w2 ⟨rfl, rfl⟩
  go_wp2_with fail
  refine (words_any _ 2 2 [12594, 13108] _ (Sl.new _ #[_, _] _ _ (by simp)) (by decide) (by omega)).mono ?_
  rw [exw]
  rintro e w3 ⟨rfl, b3⟩
  have B3 := (B1.new _).call b3
  clear B1 b3
  go_wp2_with fail
  refine (bytes_any _ 4 4 [49, 50, 51, 52] _ (Sl.newF _ #[_, _, _, _] _ _ _ (by simp)) (bytes_of (by decide)) (by omega)).mono ?_
  rw [ex4]
  rintro e w4 ⟨rfl, h4⟩
  have B4 : Below w.heap.size w w4 := by rw [← h4]; exact B3.new _
  clear h4 B3
  go_wp2_with fail
  refine (bytes_any _ 4 4 [49, 50, 51, 52] _ (Sl.newF _ #[_, _, _, _] _ _ _ (by simp)) (bytes_of (by decide)) (by omega)).mono ?_
  rw [ex4]
  rintro e w5 ⟨rfl, h5⟩
  have B5 : Below w.heap.size w w5 := by rw [← h5]; exact B4.new _
  clear h5 B4
  go_wp2_with fail
  go_ret
  exact ⟨rfl, B5⟩
end Go.Proofs.Ytegcnnbhgdafmaa.SmW
