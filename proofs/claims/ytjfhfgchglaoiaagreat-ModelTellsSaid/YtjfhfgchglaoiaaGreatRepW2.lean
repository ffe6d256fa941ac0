/- The walk of saucierref03.Right. -/
import Derived.Test.YtjfhfgchglaoiaaGreatRepMath
import Derived.Deep.QuietTactic
import Derived.BigQuiet
set_option linter.unusedVariables false
set_option linter.unusedSimpArgs false
namespace Go.Proofs.YtjfhfgchglaoiaaGreat.AskW
open Go.RowKit Go.Proofs.YtjfhfgchglaoiaaGreat Go.Proofs.YtjfhfgchglaoiaaGreat.Ask
set_option maxRecDepth 100000 in
set_option maxHeartbeats 16000000 in
theorem ref3Right_any (f x : Nat) (Ab : Option Addr) (nb cb : Nat) (Aw : Option Addr) (nw cw : Nat) (a m : Nat) (B : List Bool) (W : List Nat) (hW : W.length = nw) (hB : B.length = nb) (w : World) :
    Calls Tryz.prog 66 #[.agg #[.int .u8 (f : Nat), .int .u8 (x : Nat), .slice Ab nb cb, .slice Aw nw cw, .int .u16 (a : Nat), .int .u16 (m : Nat)]] w
      fun e w' => e = .returned (.bool (rright ⟨f, x, B, W, a, m⟩)) ∧ Below w.heap.size w w' := by
  have hBn : (B == []) = (nb == 0) := by rw [← hB]; cases B <;> simp
  have hWn : (W == []) = (nw == 0) := by rw [← hW]; cases W <;> simp
  have hmod : Int.tmod (nb : Int) 8 = ((nb % 8 : Nat) : Int) := by rw [Int.tmod_eq_emod_of_nonneg (by omega)]; omega
  by_cases hx : x = 0
  case neg =>
    have HR := Lib.hid (show rright ⟨f, x, B, W, a, m⟩ = (decide (f ≤ 127) && decide (x ≤ 4) && nb == 0 && nw == 0 && a == 0 && m == 0) from by
      have e : rright ⟨f, x, B, W, a, m⟩ = Kd.right .exc ⟨f, x, B, W, a, m⟩ := by unfold rright kdOf; rw [if_pos hx]
      rw [e]; simp only [Kd.right, hBn, hWn, hB, hW]; rw [Bool.eq_iff_iff]; simp <;> omega)
    obtain ⟨RR, hRR⟩ : ∃ RR, RR = rright ⟨f, x, B, W, a, m⟩ := ⟨_, rfl⟩
    rw [← hRR] at HR ⊢
    have hT : ((x : Int) != 0) = true := by rw [bne_iff_ne]; omega
    clear hW hB hRR hBn hWn hx
    go_enter Tryz.func66, Tryz.ntmps66
    go_wp2_with fail
    go_quiet (fail)
    go_wp2_with fail
    all_goals (
      go_ret
      refine ⟨ret_bool ?_, ((Below.refl _ _).new _).drewN _⟩
      rw [HR.out, Bool.eq_iff_iff]
      simp
      try omega)
  subst hx
  by_cases h1 : f = 1
  · subst h1
    have HR := Lib.hid (show rright ⟨1, 0, B, W, a, m⟩ = (decide (8 ≤ nb) && decide (nb ≤ 2000) && nb % 8 == 0 && nw == 0 && a == 0 && m == 0) from by
      have e : rright ⟨1, 0, B, W, a, m⟩ = Kd.right .bitsR ⟨1, 0, B, W, a, m⟩ := rfl
      rw [e]; simp only [Kd.right, hBn, hWn, hB, hW]; rw [Bool.eq_iff_iff]; simp <;> omega)
    obtain ⟨RR, hRR⟩ : ∃ RR, RR = rright ⟨1, 0, B, W, a, m⟩ := ⟨_, rfl⟩
    rw [← hRR] at HR ⊢
    clear hW hB hRR hBn hWn
    go_enter Tryz.func66, Tryz.ntmps66
    go_wp2_with fail
    go_quiet (fail)
    go_wp2_with fail
    all_goals (
      go_ret
      refine ⟨ret_bool ?_, ((Below.refl _ _).new _).drewN _⟩
      rw [HR.out, Bool.eq_iff_iff]
      simp
      try omega)
  by_cases h2 : f = 2
  · subst h2
    have HR := Lib.hid (show rright ⟨2, 0, B, W, a, m⟩ = (decide (8 ≤ nb) && decide (nb ≤ 2000) && nb % 8 == 0 && nw == 0 && a == 0 && m == 0) from by
      have e : rright ⟨2, 0, B, W, a, m⟩ = Kd.right .bitsR ⟨2, 0, B, W, a, m⟩ := rfl
      rw [e]; simp only [Kd.right, hBn, hWn, hB, hW]; rw [Bool.eq_iff_iff]; simp <;> omega)
    obtain ⟨RR, hRR⟩ : ∃ RR, RR = rright ⟨2, 0, B, W, a, m⟩ := ⟨_, rfl⟩
    rw [← hRR] at HR ⊢
    clear hW hB hRR hBn hWn
    go_enter Tryz.func66, Tryz.ntmps66
    go_wp2_with fail
    go_quiet (fail)
    go_wp2_with fail
    all_goals (
      go_ret
      refine ⟨ret_bool ?_, ((Below.refl _ _).new _).drewN _⟩
      rw [HR.out, Bool.eq_iff_iff]
      simp
      try omega)
  by_cases h3 : f = 3
  · subst h3
    have HR := Lib.hid (show rright ⟨3, 0, B, W, a, m⟩ = (nb == 0 && decide (1 ≤ nw) && decide (nw ≤ 125) && a == 0 && m == 0) from by
      have e : rright ⟨3, 0, B, W, a, m⟩ = Kd.right .wordsR ⟨3, 0, B, W, a, m⟩ := rfl
      rw [e]; simp only [Kd.right, hBn, hWn, hB, hW]; rw [Bool.eq_iff_iff]; simp <;> omega)
    obtain ⟨RR, hRR⟩ : ∃ RR, RR = rright ⟨3, 0, B, W, a, m⟩ := ⟨_, rfl⟩
    rw [← hRR] at HR ⊢
    clear hW hB hRR hBn hWn
    go_enter Tryz.func66, Tryz.ntmps66
    go_wp2_with fail
    go_quiet (fail)
    go_wp2_with fail
    all_goals (
      go_ret
      refine ⟨ret_bool ?_, ((Below.refl _ _).new _).drewN _⟩
      rw [HR.out, Bool.eq_iff_iff]
      simp
      try omega)
  by_cases h4 : f = 4
  · subst h4
    have HR := Lib.hid (show rright ⟨4, 0, B, W, a, m⟩ = (nb == 0 && decide (1 ≤ nw) && decide (nw ≤ 125) && a == 0 && m == 0) from by
      have e : rright ⟨4, 0, B, W, a, m⟩ = Kd.right .wordsR ⟨4, 0, B, W, a, m⟩ := rfl
      rw [e]; simp only [Kd.right, hBn, hWn, hB, hW]; rw [Bool.eq_iff_iff]; simp <;> omega)
    obtain ⟨RR, hRR⟩ : ∃ RR, RR = rright ⟨4, 0, B, W, a, m⟩ := ⟨_, rfl⟩
    rw [← hRR] at HR ⊢
    clear hW hB hRR hBn hWn
    go_enter Tryz.func66, Tryz.ntmps66
    go_wp2_with fail
    go_quiet (fail)
    go_wp2_with fail
    all_goals (
      go_ret
      refine ⟨ret_bool ?_, ((Below.refl _ _).new _).drewN _⟩
      rw [HR.out, Bool.eq_iff_iff]
      simp
      try omega)
  by_cases h5 : f = 5
  · subst h5
    have HR := Lib.hid (show rright ⟨5, 0, B, W, a, m⟩ = (nb == 1 && nw == 0 && m == 0) from by
      have e : rright ⟨5, 0, B, W, a, m⟩ = Kd.right .bitW ⟨5, 0, B, W, a, m⟩ := rfl
      rw [e]; simp only [Kd.right, hBn, hWn, hB, hW]; rw [Bool.eq_iff_iff]; simp <;> omega)
    obtain ⟨RR, hRR⟩ : ∃ RR, RR = rright ⟨5, 0, B, W, a, m⟩ := ⟨_, rfl⟩
    rw [← hRR] at HR ⊢
    clear hW hB hRR hBn hWn
    go_enter Tryz.func66, Tryz.ntmps66
    go_wp2_with fail
    go_quiet (fail)
    go_wp2_with fail
    all_goals (
      go_ret
      refine ⟨ret_bool ?_, ((Below.refl _ _).new _).drewN _⟩
      rw [HR.out, Bool.eq_iff_iff]
      simp
      try omega)
  by_cases h6 : f = 6
  · subst h6
    have HR := Lib.hid (show rright ⟨6, 0, B, W, a, m⟩ = (nb == 0 && nw == 1 && m == 0) from by
      have e : rright ⟨6, 0, B, W, a, m⟩ = Kd.right .wordW ⟨6, 0, B, W, a, m⟩ := rfl
      rw [e]; simp only [Kd.right, hBn, hWn, hB, hW]; rw [Bool.eq_iff_iff]; simp <;> omega)
    obtain ⟨RR, hRR⟩ : ∃ RR, RR = rright ⟨6, 0, B, W, a, m⟩ := ⟨_, rfl⟩
    rw [← hRR] at HR ⊢
    clear hW hB hRR hBn hWn
    go_enter Tryz.func66, Tryz.ntmps66
    go_wp2_with fail
    go_quiet (fail)
    go_wp2_with fail
    all_goals (
      go_ret
      refine ⟨ret_bool ?_, ((Below.refl _ _).new _).drewN _⟩
      rw [HR.out, Bool.eq_iff_iff]
      simp
      try omega)
  by_cases h15 : f = 15
  · subst h15
    have HR := Lib.hid (show rright ⟨15, 0, B, W, a, m⟩ = (nb == 0 && nw == 0 && decide (1 ≤ m) && decide (m ≤ 1968)) from by
      have e : rright ⟨15, 0, B, W, a, m⟩ = Kd.right (.manyW 1968) ⟨15, 0, B, W, a, m⟩ := rfl
      rw [e]; simp only [Kd.right, hBn, hWn, hB, hW]; rw [Bool.eq_iff_iff]; simp <;> omega)
    obtain ⟨RR, hRR⟩ : ∃ RR, RR = rright ⟨15, 0, B, W, a, m⟩ := ⟨_, rfl⟩
    rw [← hRR] at HR ⊢
    clear hW hB hRR hBn hWn
    go_enter Tryz.func66, Tryz.ntmps66
    go_wp2_with fail
    go_quiet (fail)
    go_wp2_with fail
    all_goals (
      go_ret
      refine ⟨ret_bool ?_, ((Below.refl _ _).new _).drewN _⟩
      rw [HR.out, Bool.eq_iff_iff]
      simp
      try omega)
  by_cases h16 : f = 16
  · subst h16
    have HR := Lib.hid (show rright ⟨16, 0, B, W, a, m⟩ = (nb == 0 && nw == 0 && decide (1 ≤ m) && decide (m ≤ 123)) from by
      have e : rright ⟨16, 0, B, W, a, m⟩ = Kd.right (.manyW 123) ⟨16, 0, B, W, a, m⟩ := rfl
      rw [e]; simp only [Kd.right, hBn, hWn, hB, hW]; rw [Bool.eq_iff_iff]; simp <;> omega)
    obtain ⟨RR, hRR⟩ : ∃ RR, RR = rright ⟨16, 0, B, W, a, m⟩ := ⟨_, rfl⟩
    rw [← hRR] at HR ⊢
    clear hW hB hRR hBn hWn
    go_enter Tryz.func66, Tryz.ntmps66
    go_wp2_with fail
    go_quiet (fail)
    go_wp2_with fail
    all_goals (
      go_ret
      refine ⟨ret_bool ?_, ((Below.refl _ _).new _).drewN _⟩
      rw [HR.out, Bool.eq_iff_iff]
      simp
      try omega)
  by_cases h23 : f = 23
  · subst h23
    have HR := Lib.hid (show rright ⟨23, 0, B, W, a, m⟩ = (nb == 0 && decide (1 ≤ nw) && decide (nw ≤ 125) && a == 0 && m == 0) from by
      have e : rright ⟨23, 0, B, W, a, m⟩ = Kd.right .wordsR ⟨23, 0, B, W, a, m⟩ := rfl
      rw [e]; simp only [Kd.right, hBn, hWn, hB, hW]; rw [Bool.eq_iff_iff]; simp <;> omega)
    obtain ⟨RR, hRR⟩ : ∃ RR, RR = rright ⟨23, 0, B, W, a, m⟩ := ⟨_, rfl⟩
    rw [← hRR] at HR ⊢
    clear hW hB hRR hBn hWn
    go_enter Tryz.func66, Tryz.ntmps66
    go_wp2_with fail
    go_quiet (fail)
    go_wp2_with fail
    all_goals (
      go_ret
      refine ⟨ret_bool ?_, ((Below.refl _ _).new _).drewN _⟩
      rw [HR.out, Bool.eq_iff_iff]
      simp
      try omega)
  have HR : rright ⟨f, 0, B, W, a, m⟩ = false := by
    unfold rright kdOf kdBy
    rw [if_neg (by simp)]
    by_cases h128 : 128 ≤ f
    · rw [if_pos h128]; simp [Kd.right]
    · rw [if_neg h128, if_neg (show ¬ (f = 1 ∨ f = 2) by omega), if_neg (show ¬ (f = 3 ∨ f = 4 ∨ f = 23) by omega), if_neg h5, if_neg h6, if_neg h15, if_neg h16]
  rw [HR]
  have b1 : ((f : Int) == 1) = false := by rw [beq_eq_false_iff_ne]; omega
  have b2 : ((f : Int) == 2) = false := by rw [beq_eq_false_iff_ne]; omega
  have b3 : ((f : Int) == 3) = false := by rw [beq_eq_false_iff_ne]; omega
  have b4 : ((f : Int) == 4) = false := by rw [beq_eq_false_iff_ne]; omega
  have b5 : ((f : Int) == 5) = false := by rw [beq_eq_false_iff_ne]; omega
  have b6 : ((f : Int) == 6) = false := by rw [beq_eq_false_iff_ne]; omega
  have b15 : ((f : Int) == 15) = false := by rw [beq_eq_false_iff_ne]; omega
  have b16 : ((f : Int) == 16) = false := by rw [beq_eq_false_iff_ne]; omega
  have b23 : ((f : Int) == 23) = false := by rw [beq_eq_false_iff_ne]; omega
  clear h1 h2 h3 h4 h5 h6 h15 h16 h23 hW hB HR hBn hWn
  go_enter Tryz.func66, Tryz.ntmps66
  go_wp2_with fail
  go_quiet (fail)
  go_wp2_with fail
  all_goals (
    go_ret
    exact ⟨rfl, ((Below.refl _ _).new _).drewN _⟩)
end Go.Proofs.YtjfhfgchglaoiaaGreat.AskW
