/- The walk of ask.Same. -/
import Derived.Test.YtpajpcaninjhfaaAskD
import Derived.Test.YtpajpcaninjhfaaAskE
import Derived.Test.YtpajpcaninjhfaaRow
import Derived.Deep.RegionHeld3
namespace Go.Proofs.Ytpajpcaninjhfaa.AskW
open Go.RowKit Go.Proofs.Ytpajpcaninjhfaa Go.Proofs.Ytpajpcaninjhfaa.Ask
theorem nat_beq (a b : Nat) : ((a == b) : Bool) = ((a : Int) == (b : Int)) := by rw [Bool.eq_iff_iff]; simp; omega
set_option maxHeartbeats 4000000 in
theorem same_any (f a m t : Nat) (Aw : Option Addr) (nw cw : Nat) (Ab : Option Addr) (nb cb : Nat) (f2 a2 m2 t2 : Nat) (Aw2 : Option Addr) (nw2 cw2 : Nat) (Ab2 : Option Addr) (nb2 cb2 : Nat) (W W2 : List Nat) (B B2 : List Bool) (w : World)
    (h1 : Sl w w.heap.size Aw nw (ws W)) (h2 : Sl w w.heap.size Ab nb (bl B)) (h3 : Sl w w.heap.size Aw2 nw2 (ws W2)) (h4 : Sl w w.heap.size Ab2 nb2 (bl B2)) (k1 : nw ≤ 1000000) (k2 : nb ≤ 1000000) (k3 : nw2 ≤ 1000000) (k4 : nb2 ≤ 1000000) :
    Calls Try.prog 15 #[.agg #[.int .u8 f, .int .u16 a, .int .u16 m, .int .u16 t, .slice Aw nw cw, .slice Ab nb cb], .agg #[.int .u8 f2, .int .u16 a2, .int .u16 m2, .int .u16 t2, .slice Aw2 nw2 cw2, .slice Ab2 nb2 cb2]] w
      fun e w' => e = .returned (.bool (f == f2 && a == a2 && m == m2 && t == t2 && W == W2 && B == B2)) ∧ Below w.heap.size w w' := by
  have K1 := Lib.hid (fun X (hb : Below w.heap.size w X) => equalW_any Aw Aw2 nw cw nw2 cw2 W W2 X (h1.to hb) (h3.to hb) (by omega) (by omega))
  have K2 := Lib.hid (fun X (hb : Below w.heap.size w X) => equalB_any Ab Ab2 nb cb nb2 cb2 B B2 X (h2.to hb) (h4.to hb) (by omega) (by omega))
  obtain ⟨X1, e1⟩ : ∃ X, ((f : Int) == (f2 : Int)) = X := ⟨_, rfl⟩
  obtain ⟨X2, e2⟩ : ∃ X, ((a : Int) == (a2 : Int)) = X := ⟨_, rfl⟩
  obtain ⟨X3, e3⟩ : ∃ X, ((m : Int) == (m2 : Int)) = X := ⟨_, rfl⟩
  obtain ⟨X4, e4⟩ : ∃ X, ((t : Int) == (t2 : Int)) = X := ⟨_, rfl⟩
  obtain ⟨X5, e5⟩ : ∃ X, (W == W2) = X := ⟨_, rfl⟩
  obtain ⟨X6, e6⟩ : ∃ X, (B == B2) = X := ⟨_, rfl⟩
  rw [nat_beq f, nat_beq a, nat_beq m, nat_beq t, e1, e2, e3, e4, e5, e6]
  rw [e5] at K1
  rw [e6] at K2
  have hr1 := row_alloc (heap_alloc_new w (.cells #[.int .u8 f, .int .u16 a, .int .u16 m, .int .u16 t, .slice Aw nw cw, .slice Ab nb cb] 26)) (.cells #[.int .u8 f2, .int .u16 a2, .int .u16 m2, .int .u16 t2, .slice Aw2 nw2 cw2, .slice Ab2 nb2 cb2] 26)
  have hr2 := heap_alloc2_new w (.cells #[.int .u8 f, .int .u16 a, .int .u16 m, .int .u16 t, .slice Aw nw cw, .slice Ab nb cb] 26) (.cells #[.int .u8 f2, .int .u16 a2, .int .u16 m2, .int .u16 t2, .slice Aw2 nw2 cw2, .slice Ab2 nb2 cb2] 26)
  have hb : Below w.heap.size w ((w.alloc (.cells #[.int .u8 f, .int .u16 a, .int .u16 m, .int .u16 t, .slice Aw nw cw, .slice Ab nb cb] 26)).alloc (.cells #[.int .u8 f2, .int .u16 a2, .int .u16 m2, .int .u16 t2, .slice Aw2 nw2 cw2, .slice Ab2 nb2 cb2] 26)) := ((Below.refl _ _).new _).new _
  clear e5 e6 h1 h2 h3 h4 k1 k2 k3 k4
  cases X1
  · go_enter Try.func15, Try.ntmps15
    go_wp2_with (first | (go_at_call 34; refine (K1.out _ (by first | exact hb | assumption)).mono ?_; rintro e w1 ⟨rfl, b1⟩; have hb := Below.call hb b1; obtain ⟨c0, c1, c2, c3, c4, c5⟩ := row6 (b1.row (by simp <;> omega) hr1); obtain ⟨d0, d1, d2, d3, d4, d5⟩ := row6 (b1.row (by simp <;> omega) hr2)) | (go_at_call 35; refine (K2.out _ (by first | exact hb | assumption)).mono ?_; rintro e w2 ⟨rfl, b2⟩; have hb := Below.call hb b2))
    go_ret
    exact ⟨rfl, hb⟩
  cases X2
  · go_enter Try.func15, Try.ntmps15
    go_wp2_with (first | (go_at_call 34; refine (K1.out _ (by first | exact hb | assumption)).mono ?_; rintro e w1 ⟨rfl, b1⟩; have hb := Below.call hb b1; obtain ⟨c0, c1, c2, c3, c4, c5⟩ := row6 (b1.row (by simp <;> omega) hr1); obtain ⟨d0, d1, d2, d3, d4, d5⟩ := row6 (b1.row (by simp <;> omega) hr2)) | (go_at_call 35; refine (K2.out _ (by first | exact hb | assumption)).mono ?_; rintro e w2 ⟨rfl, b2⟩; have hb := Below.call hb b2))
    go_ret
    exact ⟨rfl, hb⟩
  cases X3
  · go_enter Try.func15, Try.ntmps15
    go_wp2_with (first | (go_at_call 34; refine (K1.out _ (by first | exact hb | assumption)).mono ?_; rintro e w1 ⟨rfl, b1⟩; have hb := Below.call hb b1; obtain ⟨c0, c1, c2, c3, c4, c5⟩ := row6 (b1.row (by simp <;> omega) hr1); obtain ⟨d0, d1, d2, d3, d4, d5⟩ := row6 (b1.row (by simp <;> omega) hr2)) | (go_at_call 35; refine (K2.out _ (by first | exact hb | assumption)).mono ?_; rintro e w2 ⟨rfl, b2⟩; have hb := Below.call hb b2))
    go_ret
    exact ⟨rfl, hb⟩
  cases X4
  · go_enter Try.func15, Try.ntmps15
    go_wp2_with (first | (go_at_call 34; refine (K1.out _ (by first | exact hb | assumption)).mono ?_; rintro e w1 ⟨rfl, b1⟩; have hb := Below.call hb b1; obtain ⟨c0, c1, c2, c3, c4, c5⟩ := row6 (b1.row (by simp <;> omega) hr1); obtain ⟨d0, d1, d2, d3, d4, d5⟩ := row6 (b1.row (by simp <;> omega) hr2)) | (go_at_call 35; refine (K2.out _ (by first | exact hb | assumption)).mono ?_; rintro e w2 ⟨rfl, b2⟩; have hb := Below.call hb b2))
    go_ret
    exact ⟨rfl, hb⟩
  cases X5
  · go_enter Try.func15, Try.ntmps15
    go_wp2_with (first | (go_at_call 34; refine (K1.out _ (by first | exact hb | assumption)).mono ?_; rintro e w1 ⟨rfl, b1⟩; have hb := Below.call hb b1; obtain ⟨c0, c1, c2, c3, c4, c5⟩ := row6 (b1.row (by simp <;> omega) hr1); obtain ⟨d0, d1, d2, d3, d4, d5⟩ := row6 (b1.row (by simp <;> omega) hr2)) | (go_at_call 35; refine (K2.out _ (by first | exact hb | assumption)).mono ?_; rintro e w2 ⟨rfl, b2⟩; have hb := Below.call hb b2))
    go_ret
    exact ⟨rfl, hb⟩
  go_enter Try.func15, Try.ntmps15
  go_wp2_with (first | (go_at_call 34; refine (K1.out _ (by first | exact hb | assumption)).mono ?_; rintro e w1 ⟨rfl, b1⟩; have hb := Below.call hb b1; obtain ⟨c0, c1, c2, c3, c4, c5⟩ := row6 (b1.row (by simp <;> omega) hr1); obtain ⟨d0, d1, d2, d3, d4, d5⟩ := row6 (b1.row (by simp <;> omega) hr2)) | (go_at_call 35; refine (K2.out _ (by first | exact hb | assumption)).mono ?_; rintro e w2 ⟨rfl, b2⟩; have hb := Below.call hb b2))
  go_ret
  exact ⟨rfl, hb⟩
end Go.Proofs.Ytpajpcaninjhfaa.AskW
