/- The walk of ReplyReads, case 2. -/
import Derived.Test.YtcinnjihghpngaaRepM
set_option linter.unusedVariables false
set_option linter.unusedSimpArgs false
namespace Go.Proofs.Ytcinnjihghpngaa.AskW
open Go.RowKit Go.Proofs.Ytcinnjihghpngaa Go.Proofs.Ytcinnjihghpngaa.Ask
set_option maxRecDepth 100000 in
set_option maxHeartbeats 32000000 in
theorem replyReads_2 (f m : Nat) (Aw : Option Addr) (nw cw : Nat) (Ab : Option Addr) (nb cb : Nat) (W : List Nat) (B : List Bool) (w : World) (hm : m < 65536)
    (hW : Sl w w.heap.size Aw nw (ws W)) (hB : Sl w w.heap.size Ab nb (bl B)) (hcb : nb ≤ cb) (hfq : f % 5 = 2) :
    Calls Try.prog 10 #[.int .u8 (f : Nat), .int .u16 (m : Nat), .slice Aw nw cw, .slice Ab nb cb] w fun e w' => e = .returned (.bool true) ∧ Below w.heap.size w w' := by
  by_cases h1 : (130 : Int) < (nw : Int)
  · clear hW hB hcb
    go_enter Try.func10, Try.ntmps10
    go_wp2_with (go_at_call 29; refine (awake3_any _).mono ?_; rintro e wa ⟨rfl, ba⟩)
    go_ret
    exact ⟨rfl, ba⟩
  have h1b : decide ((130 : Int) < (nw : Int)) = false := decide_eq_false h1
  by_cases h2 : (2100 : Int) < (nb : Int)
  · clear hW hB hcb
    go_enter Try.func10, Try.ntmps10
    go_wp2_with (go_at_call 29; refine (awake3_any _).mono ?_; rintro e wa ⟨rfl, ba⟩)
    go_ret
    exact ⟨rfl, ba⟩
  have h2b : decide ((2100 : Int) < (nb : Int)) = false := decide_eq_false h2
  have qW : W.length = nw := by simpa using hW.len
  have qB : B.length = nb := by simpa using hB.len
  have hr : Int.tmod (f : Int) 5 = ((f % 5 : Nat) : Int) := by rw [Int.tmod_eq_emod_of_nonneg (by omega)]; omega
  have hr8 : IntKind.u8.wrap ((f % 5 : Nat) : Int) = ((f % 5 : Nat) : Int) := by rw [IntKind.wrap_u8]; omega
  have wm := w64 (show m ≤ 9223372036854775807 by omega)
  obtain ⟨q, eq⟩ : ∃ q, q = f % 5 := ⟨_, rfl⟩
  rw [← eq] at hr hr8
  obtain rfl : q = 2 := by omega
  clear eq hfq
  have HB := Lib.hid hB
  have HW := Lib.hid hW
  have QB := Lib.hid qB
  have QW := Lib.hid qW
  have KF0 := fun X (g : Nat) (b : Below w.heap.size w X) => fits2_any 3 0 m 0 none 0 0 none 0 0 [] [] 3 0 none 0 0 Aw nw cw 0 0 [] W X (Sl.empty _ _ _) (Sl.empty _ _ _) (wfq 3 m [] (by decide) hm (fun x hx => by cases hx)) (by omega) (by omega) (Sl.empty _ _ _) (HW.out.to b) (by omega) (by omega) (by omega)
  rw [fits_words 3 m (by omega) W] at KF0
  rw [qW] at KF0
  by_cases g0 : nw = m ∧ 1 ≤ m ∧ m ≤ 125
  · have u1 : ((nw : Int) == (m : Int)) = true := by rw [beq_iff_eq]; omega
    have u2 : (1 : Int) ≤ (m : Int) := by omega
    have u3 : (m : Int) ≤ 125 := by omega
    have v3 : decide ((m : Int) ≤ 125) = true := decide_eq_true u3
    have v2 : decide ((1 : Int) ≤ (m : Int)) = true := decide_eq_true u2
    rw [show (nw == m && (decide (1 ≤ m) && decide (m ≤ 125))) = true from by rw [Bool.and_eq_true, Bool.and_eq_true, beq_iff_eq, decide_eq_true_iff, decide_eq_true_iff]; omega] at KF0
    have KF := Lib.hid KF0
    clear KF0 qW qB hB hW g0
    go_enter Try.func10, Try.ntmps10
    go_wp2_with (first
      | (go_at_call 41; refine (KF.out _ 0 (by repeat (first | with_reducible exact Below.refl _ _ | with_reducible apply Below.new | with_reducible apply Below.drew))).mono ?_; rintro e w1 ⟨rfl, b1⟩)
      | (go_at_call 29; refine (awake3_any _).mono ?_; rintro e wa ⟨rfl, ba⟩))
    go_ret
    exact ⟨rfl, (Below.call (by repeat (first | with_reducible exact Below.refl _ _ | with_reducible apply Below.new | with_reducible apply Below.drew)) b1).call ba⟩
  by_cases g1 : nw = m
  · have u1 : ((nw : Int) == (m : Int)) = true := by rw [beq_iff_eq]; omega
    by_cases g2 : 1 ≤ m
    · have u2 : (1 : Int) ≤ (m : Int) := by omega
      have v2 : decide ((1 : Int) ≤ (m : Int)) = true := decide_eq_true u2
      have u3 : ¬ (m : Int) ≤ 125 := by omega
      have v3 : decide ((m : Int) ≤ 125) = false := decide_eq_false u3
      rw [show (nw == m && (decide (1 ≤ m) && decide (m ≤ 125))) = false from by rw [Bool.eq_false_iff]; intro h; rw [Bool.and_eq_true, Bool.and_eq_true, beq_iff_eq, decide_eq_true_iff, decide_eq_true_iff] at h; omega] at KF0
      have KF := Lib.hid KF0
      clear KF0 qW qB hB hW g0 g1 g2
      go_enter Try.func10, Try.ntmps10
      go_wp2_with (first
        | (go_at_call 41; refine (KF.out _ 0 (by repeat (first | with_reducible exact Below.refl _ _ | with_reducible apply Below.new | with_reducible apply Below.drew))).mono ?_; rintro e w1 ⟨rfl, b1⟩)
        | (go_at_call 29; refine (awake3_any _).mono ?_; rintro e wa ⟨rfl, ba⟩))
      go_ret
      exact ⟨rfl, (Below.call (by repeat (first | with_reducible exact Below.refl _ _ | with_reducible apply Below.new | with_reducible apply Below.drew)) b1).call ba⟩
    · have u2 : ¬ (1 : Int) ≤ (m : Int) := by omega
      have v2 : decide ((1 : Int) ≤ (m : Int)) = false := decide_eq_false u2
      rw [show (nw == m && (decide (1 ≤ m) && decide (m ≤ 125))) = false from by rw [Bool.eq_false_iff]; intro h; rw [Bool.and_eq_true, Bool.and_eq_true, beq_iff_eq, decide_eq_true_iff, decide_eq_true_iff] at h; omega] at KF0
      have KF := Lib.hid KF0
      clear KF0 qW qB hB hW g0 g1 g2
      go_enter Try.func10, Try.ntmps10
      go_wp2_with (first
        | (go_at_call 41; refine (KF.out _ 0 (by repeat (first | with_reducible exact Below.refl _ _ | with_reducible apply Below.new | with_reducible apply Below.drew))).mono ?_; rintro e w1 ⟨rfl, b1⟩)
        | (go_at_call 29; refine (awake3_any _).mono ?_; rintro e wa ⟨rfl, ba⟩))
      go_ret
      exact ⟨rfl, (Below.call (by repeat (first | with_reducible exact Below.refl _ _ | with_reducible apply Below.new | with_reducible apply Below.drew)) b1).call ba⟩
  · have u1 : ((nw : Int) == (m : Int)) = false := by rw [beq_eq_false_iff_ne]; omega
    rw [show (nw == m && (decide (1 ≤ m) && decide (m ≤ 125))) = false from by rw [Bool.eq_false_iff]; intro h; rw [Bool.and_eq_true, Bool.and_eq_true, beq_iff_eq, decide_eq_true_iff, decide_eq_true_iff] at h; omega] at KF0
    have KF := Lib.hid KF0
    clear KF0 qW qB hB hW g0 g1
    go_enter Try.func10, Try.ntmps10
    go_wp2_with (first
      | (go_at_call 41; refine (KF.out _ 0 (by repeat (first | with_reducible exact Below.refl _ _ | with_reducible apply Below.new | with_reducible apply Below.drew))).mono ?_; rintro e w1 ⟨rfl, b1⟩)
      | (go_at_call 29; refine (awake3_any _).mono ?_; rintro e wa ⟨rfl, ba⟩))
    go_ret
    exact ⟨rfl, (Below.call (by repeat (first | with_reducible exact Below.refl _ _ | with_reducible apply Below.new | with_reducible apply Below.drew)) b1).call ba⟩
end Go.Proofs.Ytcinnjihghpngaa.AskW
