/- The landed disk's Crash. -/
import Derived.Test.YtljiehnpknbohaaDkX2
import Derived.StillTailTactics
set_option linter.unusedVariables false
set_option linter.unusedSimpArgs false
namespace Go.Proofs.Ytljiehnpknbohaa.DkW
open Go.RowKit Go.Proofs.Ytljiehnpknbohaa Go.Proofs.Ytljiehnpknbohaa.Dk
theorem crash_nil (z : Int) (w : World) : Calls Try.prog 25 #[.pointer none, .int .i64 z] w fun e w' => e = .returned (.tuple #[]) ∧ w' = w := by
  go_enter Try.func25, Try.ntmps25
  go_wp2_with fail
  refine (right_nil _).mono ?_
  rintro e w1 ⟨rfl, rfl⟩
  go_wp2_with fail
  exact bodyPost_ret (results_none rfl _ _ _) rfl ⟨rfl, rfl⟩
theorem crash_zero {p : Nat} {r : Int} {A : Option Addr} {n c : Nat} {sf sp : Int} {o : Bool} {w : World} (z : Int) (h : Blk w p false r A n c sf sp o) :
    Calls Try.prog 25 #[.pointer (some ⟨p, 0, none⟩), .int .i64 z] w fun e w' => e = .returned (.tuple #[]) ∧ w' = w := by
  go_enter Try.func25, Try.ntmps25
  go_wp2_with fail
  refine (right_any h).mono ?_
  rintro e w1 ⟨rfl, rfl⟩
  go_wp2_with fail
  exact bodyPost_ret (results_none rfl _ _ _) rfl ⟨rfl, rfl⟩
set_option maxHeartbeats 1000000 in
theorem crash_raw {p : Nat} {r : Int} {A : Option Addr} {n c sf : Nat} {sp : Int} {o : Bool} {w : World} (z : Int) (k : Nat) (h : Blk w p true r A n c sf sp o) (h1 : sf ≤ n) (h2 : n ≤ c) (h3 : n ≤ 1000000) (hz2 : z ≤ 9223372036854775807)
    (hk : (k : Int) = (sf : Int) + min (max z 0) ((n : Int) - sf)) :
    Calls Try.prog 25 #[.pointer (some ⟨p, 0, none⟩), .int .i64 z] w fun e w' => e = .returned (.tuple #[]) ∧ Blk w' p true r A k c (k : Nat) (-1) false ∧ w.grownBy w' (some p) ∧ w'.heap.size = w.heap.size := by
  have hkc : k ≤ c := by omega
  have KL := Lib.hid (fun W (H : Blk W p true r A n c sf sp o) => leave_any k H hkc)
  obtain ⟨_, _, c2, c3, _, _⟩ := row6 h
  have HB := Lib.hid h
  obtain ⟨d, rfl⟩ : ∃ d, n = sf + d := ⟨n - sf, by omega⟩
  have HWD := Lib.hid (show IntKind.i64.wrap ((sf : Int) + (d : Int) - (sf : Int)) = (d : Int) from by rw [IntKind.wrap_i64]; omega)
  obtain ⟨x, hx⟩ : ∃ x : Int, x = (if z < 0 then 0 else z) := ⟨_, rfl⟩
  have hx0 : x = max z 0 := by rw [hx]; split <;> omega
  obtain ⟨y, hy⟩ : ∃ y : Int, y = (if (d : Int) < x then (d : Int) else x) := ⟨_, rfl⟩
  have hwk : IntKind.i64.wrap ((sf : Int) + y) = (k : Int) := by
    have : y = min x d := by rw [hy]; split <;> omega
    rw [IntKind.wrap_i64]; omega
  have HX := Lib.hid hx.symm
  have HY := Lib.hid hy.symm
  have HW := Lib.hid hwk
  clear h hk hkc hx hy hx0 hwk h1 h2 h3 hz2
  go_enter Try.func25, Try.ntmps25
  go_wp2_with fail
  refine (right_any HB.out).mono ?_
  rintro e w3 ⟨rfl, rfl⟩
  go_wp2_with fail
  go_still_tail 19, (by kernel_rfl)
  change wpList _ _ _ _ _ w3.drew
  have HD := Lib.hid (show Blk w3.drew p true r A (sf + d) c sf sp o from HB.out)
  rw [HX.out, HWD.out, HY.out, HW.out]
  go_wp2_with fail
  refine (KL.out _ HD.out).mono ?_
  rintro e w5 ⟨rfl, B5, g5, s5⟩
  have g5 : w3.grownBy w5 (some p) := ⟨g5.os, g5.tape, g5.output, g5.size, g5.block⟩
  have h3 := heap_setCell_same w5 p 3 _ _ (.int .i64 (k : Nat)) B5
  have h5 := heap_setCell_same _ p 5 _ _ (.bool false) h3
  have h4 := heap_setCell_same _ p 4 _ _ (.int .i64 (-1)) h5
  obtain ⟨_, _, a2, a3, _, _⟩ := row6 B5
  obtain ⟨_, _, _, f3, _, _⟩ := free6 B5
  obtain ⟨_, _, _, _, _, f5⟩ := free6 h3
  obtain ⟨_, _, _, _, f4, _⟩ := free6 h5
  have H4 := Lib.hid h4
  clear h3 h4 h5 B5
  go_wp2_with fail
  exact bodyPost_end (results_none rfl _ _ _) rfl ⟨rfl, H4.out, grown_in g5 (grown_in (grown_in (grown_cell _ _ _ _) (grown_cell _ _ _ _)) (grown_cell _ _ _ _)), ((size_cell _ _ _).trans ((size_cell _ _ _).trans (size_cell _ _ _))).trans s5⟩
end Go.Proofs.Ytljiehnpknbohaa.DkW
