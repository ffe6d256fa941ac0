/- The walks of layer 2's leaves: fields.right. -/
import Derived.Test.YtpajpcaninjhfaaAskA
import Derived.WalkLawsBesides
import Derived.RegionTactic
import Derived.ChangeAlike
import Derived.Deep.RegionHeld3
namespace Go.Proofs.Ytpajpcaninjhfaa.AskW
open Go.RowKit Go.Proofs.Ytpajpcaninjhfaa Go.Proofs.Ytpajpcaninjhfaa.Ask
set_option maxHeartbeats 4000000 in
theorem fright_any (fm : Nat) (ft : Bool) (fb fw : Nat) (f a m t : Nat) (Aw : Option Addr) (nw cw : Nat) (Ab : Option Addr) (nb cb : Nat) (hm : m < 65536) (w : World) :
    Calls Try.prog 30 #[.agg #[.int .i64 fm, .bool ft, .int .u8 fb, .int .u8 fw], .agg #[.int .u8 f, .int .u16 a, .int .u16 m, .int .u16 t, .slice Aw nw cw, .slice Ab nb cb]] w
      fun e w' => e = .returned (.bool (!(decide (fm < m) || (m == 0 && decide (0 < fm))) && ((ft || t == 0) && fits fb nb m && fits fw nw m))) ∧ Below w.heap.size w w' := by
  have hmw : IntKind.i64.wrap (m : Int) = m := by rw [IntKind.wrap_i64]; omega
  have CB : ∀ W, _ := fun W => fits_any fb nb m hm W
  have CW : ∀ W, _ := fun W => fits_any fw nw m hm W
  clear hm
  obtain ⟨D, hD⟩ : ∃ D, D = fits fb nb m := ⟨_, rfl⟩
  obtain ⟨E, hE⟩ : ∃ E, E = fits fw nw m := ⟨_, rfl⟩
  rw [← hD] at CB
  rw [← hE] at CW
  have H0 : (decide (fm < m)) = decide ((fm : Int) < m) := by rw [decide_eq_decide]; omega
  have H1 : ((m == 0) : Bool) = ((m : Int) == 0) := by rw [Bool.eq_iff_iff]; simp
  have H2 : (decide (0 < fm)) = decide ((0 : Int) < fm) := by rw [decide_eq_decide]; omega
  have H3 : ((t == 0) : Bool) = ((t : Int) == 0) := by rw [Bool.eq_iff_iff]; simp
  rw [← hD, ← hE, H0, H1, H2, H3]
  have CBH := Lib.hid CB
  have CWH := Lib.hid CW
  clear hD hE H0 H1 H2 H3 CB CW
  obtain ⟨X, hX⟩ : ∃ X, ((m : Int) == 0) = X := ⟨_, rfl⟩
  obtain ⟨T, hT⟩ : ∃ T, ((t : Int) == 0) = T := ⟨_, rfl⟩
  rw [hX, hT]
  by_cases c1 : (fm : Int) < m
  · rw [decide_eq_true c1]
    go_enter Try.func30, Try.ntmps30
    go_wp2_with fail
    go_ret
    exact ⟨rfl, ((Below.refl _ _).new _).new _⟩
  rw [decide_eq_false c1]
  by_cases c2 : (0 : Int) < fm
  · rw [decide_eq_true c2]
    cases X
    · cases ft <;> cases T <;> cases D <;> (
        go_enter Try.func30, Try.ntmps30
        go_wp2_with (first | (go_at_call_of 39 (Value.int .u8 (fb : Int)); refine (CBH.out _).mono ?_; rintro e w1 ⟨rfl, rfl⟩) | (go_at_call_of 39 (Value.int .u8 (fw : Int)); refine (CWH.out _).mono ?_; rintro e w1 ⟨rfl, rfl⟩))
        go_ret
        exact ⟨rfl, ((Below.refl _ _).new _).new _⟩)
    · go_enter Try.func30, Try.ntmps30
      go_wp2_with fail
      go_ret
      exact ⟨rfl, ((Below.refl _ _).new _).new _⟩
  · rw [decide_eq_false c2]
    cases X <;> cases ft <;> cases T <;> cases D <;> (
      go_enter Try.func30, Try.ntmps30
      go_wp2_with (first | (go_at_call_of 39 (Value.int .u8 (fb : Int)); refine (CBH.out _).mono ?_; rintro e w1 ⟨rfl, rfl⟩) | (go_at_call_of 39 (Value.int .u8 (fw : Int)); refine (CWH.out _).mono ?_; rintro e w1 ⟨rfl, rfl⟩))
      go_ret
      exact ⟨rfl, ((Below.refl _ _).new _).new _⟩)
end Go.Proofs.Ytpajpcaninjhfaa.AskW
