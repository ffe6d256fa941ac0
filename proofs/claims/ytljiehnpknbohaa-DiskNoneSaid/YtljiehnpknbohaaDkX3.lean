/- The landed disk's New and Bytes. -/
import Derived.Test.YtljiehnpknbohaaDkX2
import Derived.Test.YtljiehnpknbohaaDkR
import Derived.Lib.SliceRun
set_option linter.unusedVariables false
set_option linter.unusedSimpArgs false
namespace Go.Proofs.Ytljiehnpknbohaa.DkW
open Go.RowKit Go.Proofs.Ytljiehnpknbohaa Go.Proofs.Ytljiehnpknbohaa.Dk
theorem new_raw (room : Nat) (w : World) (h : room ≤ 262144) :
    Calls Try.prog 8 #[.int .i64 (room : Nat)] w fun e w' => e = .returned (.tuple #[.pointer (some ⟨w.heap.size, 0, none⟩), .int .i64 0]) ∧ Blk w' w.heap.size true (room : Nat) none 0 0 0 (-1) false ∧ Below w.heap.size w w' ∧ w'.heap.size = w.heap.size + 1 := by
  have h0 : decide ((room : Int) < 0) = false := decide_eq_false (by omega)
  have h1 : decide ((262144 : Int) < (room : Int)) = false := decide_eq_false (by omega)
  go_enter Try.func8, Try.ntmps8
  go_wp2_with fail
  go_ret2
  exact ⟨rfl, heap_alloc_new w _, (Below.refl _ w).new _, by simp⟩
theorem new_bad (room : Int) (w : World) (h : room < 0 ∨ 262144 < room) :
    Calls Try.prog 8 #[.int .i64 room] w fun e w' => e = .returned (.tuple #[.pointer none, .int .i64 2]) ∧ Below w.heap.size w w' := by
  rcases h with h | h
  · have h0 : decide (room < 0) = true := decide_eq_true h
    go_enter Try.func8, Try.ntmps8
    go_wp2_with fail
    go_ret2
    exact ⟨rfl, Below.refl _ _⟩
  · have h0 : decide (room < 0) = false := decide_eq_false (by omega)
    have h1 : decide (262144 < room) = true := decide_eq_true h
    go_enter Try.func8, Try.ntmps8
    go_wp2_with fail
    go_ret2
    exact ⟨rfl, Below.refl _ _⟩
theorem cloneB_any (A : Option Addr) (n c : Nat) (l : List Nat) (w : World) (hs : Sl w w.heap.size A n (bs l)) (hn : n ≤ 1000000) :
    Calls Try.prog 32 #[.slice A n c] w fun e w' => ∃ v, e = .returned v ∧ Has w w' 5 v n (bs l) := by
  have q1 : l.length = n := by simpa using hs.len
  have qT : ∀ (w : World) (a : Option Addr) (n c n' c' : Nat), (binOp .eql 30 (.slice a n c) (.slice none n' c')).run Try.prog w = .ok (.bool a.isNone) w := fun w a n c n' c' => Lib.run_eql_slice_nil w _ _ a n c n' c' Try.underlying30
  have S0 := hs.to ((Below.refl _ w).new (.cells #[] 5))
  rcases A with _ | ad
  · have h0 : n = 0 := by
      rcases Nat.eq_zero_or_pos n with h | h
      · exact h
      · obtain ⟨b, o, e, _⟩ := hs.2 h
        cases e
    subst h0
    have hl := List.eq_nil_of_length_eq_zero q1
    subst hl
    clear hs S0 q1
    go_enter Try.func32, Try.ntmps32
    go_wp2_with fail
    go_ret
    exact ⟨_, rfl, Has.nil_ (Below.refl _ _) _⟩
  · clear hs q1
    go_enter Try.func32, Try.ntmps32
    go_wp2_with (at_builtin; refine wpList_app _root_.Go.Proofs.Ytljiehnpknbohaa.DkW.u8 rfl (.tmp 5) (.tmp 6) rfl (Has.made0 (Below.refl w.heap.size w) _) rfl S0 rfl (bs_one _) (by omega) (by simp only [maxLen]; omega) ?_; intro v1 w1 H1 _ _; rw [Nat.zero_add, List.nil_append] at H1)
    go_ret
    exact ⟨_, rfl, H1⟩
theorem bytes_nil (w : World) : Calls Try.prog 15 #[.pointer none] w fun e w' => e = .returned (.slice none 0 0) ∧ w' = w := by
  go_enter Try.func15, Try.ntmps15
  go_wp2_with fail
  refine (right_nil _).mono ?_
  rintro e w1 ⟨rfl, rfl⟩
  go_wp2_with fail
  go_ret
  exact ⟨rfl, rfl⟩
theorem bytes_zero {p : Nat} {r : Int} {A : Option Addr} {n c : Nat} {sf sp : Int} {o : Bool} {w : World} (h : Blk w p false r A n c sf sp o) :
    Calls Try.prog 15 #[.pointer (some ⟨p, 0, none⟩)] w fun e w' => e = .returned (.slice none 0 0) ∧ w' = w := by
  go_enter Try.func15, Try.ntmps15
  go_wp2_with fail
  refine (right_any h).mono ?_
  rintro e w1 ⟨rfl, rfl⟩
  go_wp2_with fail
  go_ret
  exact ⟨rfl, rfl⟩
theorem bytes_raw {p : Nat} {r : Int} {A : Option Addr} {n c : Nat} {sf sp : Int} {o : Bool} {w : World} (l : List Nat) (h : Blk w p true r A n c sf sp o) (hs : Sl w w.heap.size A n (bs l)) (hn : n ≤ 1000000) :
    Calls Try.prog 15 #[.pointer (some ⟨p, 0, none⟩)] w fun e w' => ∃ v, e = .returned v ∧ Has w w' 5 v n (bs l) := by
  obtain ⟨_, _, c2, _, _, _⟩ := row6 h
  have KC := Lib.hid (cloneB_any A n c l w hs hn)
  have HB := Lib.hid h
  clear h hs
  go_enter Try.func15, Try.ntmps15
  go_wp2_with fail
  refine (right_any HB.out).mono ?_
  rintro e w1 ⟨rfl, rfl⟩
  go_wp2_with fail
  refine KC.out.mono ?_
  rintro e w2 ⟨v, rfl, H⟩
  have H := Lib.hid H
  go_wp2_with fail
  go_ret
  exact ⟨v, rfl, H.out⟩
end Go.Proofs.Ytljiehnpknbohaa.DkW
