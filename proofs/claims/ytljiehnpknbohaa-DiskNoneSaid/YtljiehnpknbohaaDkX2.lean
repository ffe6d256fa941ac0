/- The landed disk's leave: what stands behind the first bytes is taken off. -/
import Derived.Test.YtljiehnpknbohaaDkX
set_option linter.unusedVariables false
set_option linter.unusedSimpArgs false
namespace Go.Proofs.Ytljiehnpknbohaa.DkW
open Go.RowKit Go.Proofs.Ytljiehnpknbohaa Go.Proofs.Ytljiehnpknbohaa.Dk
theorem grown_drew {w w' : World} {row : Option Nat} (h : w.grownBy w' row) : w.grownBy w'.drew row := ⟨h.os, h.tape, h.output, h.size, h.block⟩
theorem grown_in {w w1 w2 : World} {g : Nat} (h : w.grownBy w1 (some g)) (k : w1.grownBy w2 (some g)) : w.grownBy w2 (some g) :=
  ⟨k.os.trans h.os, k.tape.trans h.tape, k.output.trans h.output, Nat.le_trans h.size k.size, fun j hj hne => (k.block j (Nat.lt_of_lt_of_le hj h.size) hne).trans (h.block j hj hne)⟩
theorem leave_as {p : Nat} {m : Bool} {r : Int} {A : Option Addr} {n c : Nat} {sf : Nat} {sp : Int} {o : Bool} {w : World} (k M : Nat) (h : Blk w p m r A n c sf sp o) (hk : k ≤ c) (hM : k < sf ∧ M = k ∨ ¬ k < sf ∧ M = sf) :
    Calls Try.prog 39 #[.pointer (some ⟨p, 0, none⟩), .int .i64 (k : Nat)] w fun e w' => e = .returned (.tuple #[]) ∧ Blk w' p m r A k c (M : Nat) sp o ∧ w.grownBy w' (some p) ∧ w'.heap.size = w.heap.size := by
  obtain ⟨_, _, c2, c3, _, _⟩ := row6 h
  obtain ⟨_, _, f2, f3, _, _⟩ := free6 h
  have h2 := heap_setCell_same w p 2 _ _ (.slice A k c) h
  have h3 := heap_setCell_same w p 3 _ _ (.int .i64 (M : Nat)) h
  obtain ⟨_, _, _, g3, _, _⟩ := free6 h2
  obtain ⟨_, _, g2, _, _, _⟩ := free6 h3
  have hk0 : (0 : Int) ≤ (k : Int) := by omega
  have hkc : (k : Int) ≤ (c : Int) := by omega
  have H2 := Lib.hid h2
  have H3 := Lib.hid h3
  clear h h2 h3 hk
  rcases hM with ⟨hlt, rfl⟩ | ⟨hlt, rfl⟩
  all_goals (
    go_enter Try.func39, Try.ntmps39
    go_wp2_with fail
    go_region
    all_goals (
      go_wp2_with fail
      first
        | exact bodyPost_end (results_none rfl _ _ _) rfl ⟨rfl, heap_setCell_same _ p 3 _ _ _ H2.out, grown_drew (grown_in (grown_cell _ _ _ _) (grown_cell _ _ _ _)), (size_cell _ _ _).trans (size_cell _ _ _)⟩
        | exact bodyPost_end (results_none rfl _ _ _) rfl ⟨rfl, heap_setCell_same _ p 2 _ _ _ H3.out, grown_drew (grown_in (grown_cell _ _ _ _) (grown_cell _ _ _ _)), (size_cell _ _ _).trans (size_cell _ _ _)⟩))
theorem leave_any {p : Nat} {m : Bool} {r : Int} {A : Option Addr} {n c : Nat} {sf : Nat} {sp : Int} {o : Bool} {w : World} (k : Nat) (h : Blk w p m r A n c sf sp o) (hk : k ≤ c) :
    Calls Try.prog 39 #[.pointer (some ⟨p, 0, none⟩), .int .i64 (k : Nat)] w fun e w' => e = .returned (.tuple #[]) ∧ Blk w' p m r A k c ((min sf k : Nat) : Int) sp o ∧ w.grownBy w' (some p) ∧ w'.heap.size = w.heap.size :=
  leave_as k (min sf k) h hk (by omega)
end Go.Proofs.Ytljiehnpknbohaa.DkW
