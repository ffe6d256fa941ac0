/- The walk of reply.Same. -/
import Derived.Test.YtiibopdnlmnkmaaAG1
import Derived.Test.YtiibopdnlmnkmaaRepA
set_option linter.unusedVariables false
set_option linter.unusedSimpArgs false
namespace Go.Proofs.Ytiibopdnlmnkmaa.AskW
open Go.RowKit Go.Proofs.Ytiibopdnlmnkmaa Go.Proofs.Ytiibopdnlmnkmaa.Ask
set_option maxHeartbeats 4000000 in
theorem repSame_any (f x : Nat) (Ab : Option Addr) (nb cb : Nat) (Aw : Option Addr) (nw cw : Nat) (a m : Nat) (f2 x2 : Nat) (Ab2 : Option Addr) (nb2 cb2 : Nat) (Aw2 : Option Addr) (nw2 cw2 : Nat) (a2 m2 : Nat) (B B2 : List Bool) (W W2 : List Nat) (w : World)
    (h1 : Sl w w.heap.size Aw nw (ws W)) (h2 : Sl w w.heap.size Ab nb (bl B)) (h3 : Sl w w.heap.size Aw2 nw2 (ws W2)) (h4 : Sl w w.heap.size Ab2 nb2 (bl B2)) (k1 : nw ≤ 1000000) (k2 : nb ≤ 1000000) (k3 : nw2 ≤ 1000000) (k4 : nb2 ≤ 1000000) :
    Calls Try.prog 18 #[.agg #[.int .u8 f, .int .u8 x, .slice Ab nb cb, .slice Aw nw cw, .int .u16 a, .int .u16 m], .agg #[.int .u8 f2, .int .u8 x2, .slice Ab2 nb2 cb2, .slice Aw2 nw2 cw2, .int .u16 a2, .int .u16 m2]] w
      fun e w' => e = .returned (.bool (f == f2 && x == x2 && a == a2 && m == m2 && B == B2 && W == W2)) ∧ Below w.heap.size w w' := by
  have K1 := Lib.hid (fun X (hb : Below w.heap.size w X) => equalW_any Aw Aw2 nw cw nw2 cw2 W W2 X (h1.to hb) (h3.to hb) (by omega) (by omega))
  have K2 := Lib.hid (fun X (hb : Below w.heap.size w X) => equalB_any Ab Ab2 nb cb nb2 cb2 B B2 X (h2.to hb) (h4.to hb) (by omega) (by omega))
  obtain ⟨X1, e1⟩ : ∃ X, ((f : Int) == (f2 : Int)) = X := ⟨_, rfl⟩
  obtain ⟨X2, e2⟩ : ∃ X, ((x : Int) == (x2 : Int)) = X := ⟨_, rfl⟩
  obtain ⟨X3, e3⟩ : ∃ X, ((a : Int) == (a2 : Int)) = X := ⟨_, rfl⟩
  obtain ⟨X4, e4⟩ : ∃ X, ((m : Int) == (m2 : Int)) = X := ⟨_, rfl⟩
  obtain ⟨X5, e5⟩ : ∃ X, (B == B2) = X := ⟨_, rfl⟩
  obtain ⟨X6, e6⟩ : ∃ X, (W == W2) = X := ⟨_, rfl⟩
  rw [nat_beq f, nat_beq x, nat_beq a, nat_beq m, e1, e2, e3, e4, e5, e6]
  rw [e5] at K2
  rw [e6] at K1
  have hr1 := row_alloc (heap_alloc_new w (.cells #[.int .u8 f, .int .u8 x, .slice Ab nb cb, .slice Aw nw cw, .int .u16 a, .int .u16 m] 36)) (.cells #[.int .u8 f2, .int .u8 x2, .slice Ab2 nb2 cb2, .slice Aw2 nw2 cw2, .int .u16 a2, .int .u16 m2] 36)
  have hr2 := heap_alloc2_new w (.cells #[.int .u8 f, .int .u8 x, .slice Ab nb cb, .slice Aw nw cw, .int .u16 a, .int .u16 m] 36) (.cells #[.int .u8 f2, .int .u8 x2, .slice Ab2 nb2 cb2, .slice Aw2 nw2 cw2, .int .u16 a2, .int .u16 m2] 36)
  have hb : Below w.heap.size w ((w.alloc (.cells #[.int .u8 f, .int .u8 x, .slice Ab nb cb, .slice Aw nw cw, .int .u16 a, .int .u16 m] 36)).alloc (.cells #[.int .u8 f2, .int .u8 x2, .slice Ab2 nb2 cb2, .slice Aw2 nw2 cw2, .int .u16 a2, .int .u16 m2] 36)) := ((Below.refl _ _).new _).new _
  clear e5 e6 h1 h2 h3 h4 k1 k2 k3 k4
  cases X1
  · go_enter Try.func18, Try.ntmps18
    go_wp2_with (first | (go_at_call 37; refine (K2.out _ (by first | exact hb | assumption)).mono ?_; rintro e w1 ⟨rfl, b1⟩; have hb := Below.call hb b1; obtain ⟨c0, c1, c2, c3, c4, c5⟩ := row6 (b1.row (by simp <;> omega) hr1); obtain ⟨d0, d1, d2, d3, d4, d5⟩ := row6 (b1.row (by simp <;> omega) hr2)) | (go_at_call 38; refine (K1.out _ (by first | exact hb | assumption)).mono ?_; rintro e w2 ⟨rfl, b2⟩; have hb := Below.call hb b2))
    go_ret
    exact ⟨rfl, hb⟩
  cases X2
  · go_enter Try.func18, Try.ntmps18
    go_wp2_with (first | (go_at_call 37; refine (K2.out _ (by first | exact hb | assumption)).mono ?_; rintro e w1 ⟨rfl, b1⟩; have hb := Below.call hb b1; obtain ⟨c0, c1, c2, c3, c4, c5⟩ := row6 (b1.row (by simp <;> omega) hr1); obtain ⟨d0, d1, d2, d3, d4, d5⟩ := row6 (b1.row (by simp <;> omega) hr2)) | (go_at_call 38; refine (K1.out _ (by first | exact hb | assumption)).mono ?_; rintro e w2 ⟨rfl, b2⟩; have hb := Below.call hb b2))
    go_ret
    exact ⟨rfl, hb⟩
  cases X3
  · go_enter Try.func18, Try.ntmps18
    go_wp2_with (first | (go_at_call 37; refine (K2.out _ (by first | exact hb | assumption)).mono ?_; rintro e w1 ⟨rfl, b1⟩; have hb := Below.call hb b1; obtain ⟨c0, c1, c2, c3, c4, c5⟩ := row6 (b1.row (by simp <;> omega) hr1); obtain ⟨d0, d1, d2, d3, d4, d5⟩ := row6 (b1.row (by simp <;> omega) hr2)) | (go_at_call 38; refine (K1.out _ (by first | exact hb | assumption)).mono ?_; rintro e w2 ⟨rfl, b2⟩; have hb := Below.call hb b2))
    go_ret
    exact ⟨rfl, hb⟩
  cases X4
  · go_enter Try.func18, Try.ntmps18
    go_wp2_with (first | (go_at_call 37; refine (K2.out _ (by first | exact hb | assumption)).mono ?_; rintro e w1 ⟨rfl, b1⟩; have hb := Below.call hb b1; obtain ⟨c0, c1, c2, c3, c4, c5⟩ := row6 (b1.row (by simp <;> omega) hr1); obtain ⟨d0, d1, d2, d3, d4, d5⟩ := row6 (b1.row (by simp <;> omega) hr2)) | (go_at_call 38; refine (K1.out _ (by first | exact hb | assumption)).mono ?_; rintro e w2 ⟨rfl, b2⟩; have hb := Below.call hb b2))
    go_ret
    exact ⟨rfl, hb⟩
  cases X5
  · go_enter Try.func18, Try.ntmps18
    go_wp2_with (first | (go_at_call 37; refine (K2.out _ (by first | exact hb | assumption)).mono ?_; rintro e w1 ⟨rfl, b1⟩; have hb := Below.call hb b1; obtain ⟨c0, c1, c2, c3, c4, c5⟩ := row6 (b1.row (by simp <;> omega) hr1); obtain ⟨d0, d1, d2, d3, d4, d5⟩ := row6 (b1.row (by simp <;> omega) hr2)) | (go_at_call 38; refine (K1.out _ (by first | exact hb | assumption)).mono ?_; rintro e w2 ⟨rfl, b2⟩; have hb := Below.call hb b2))
    go_ret
    exact ⟨rfl, hb⟩
  go_enter Try.func18, Try.ntmps18
  go_wp2_with (first | (go_at_call 37; refine (K2.out _ (by first | exact hb | assumption)).mono ?_; rintro e w1 ⟨rfl, b1⟩; have hb := Below.call hb b1; obtain ⟨c0, c1, c2, c3, c4, c5⟩ := row6 (b1.row (by simp <;> omega) hr1); obtain ⟨d0, d1, d2, d3, d4, d5⟩ := row6 (b1.row (by simp <;> omega) hr2)) | (go_at_call 38; refine (K1.out _ (by first | exact hb | assumption)).mono ?_; rintro e w2 ⟨rfl, b2⟩; have hb := Below.call hb b2))
  go_ret
  exact ⟨rfl, hb⟩
end Go.Proofs.Ytiibopdnlmnkmaa.AskW
