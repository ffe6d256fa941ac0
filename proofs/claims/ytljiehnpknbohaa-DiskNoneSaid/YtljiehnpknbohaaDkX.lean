/- The landed disk's small calls: right, ready, spark, leave, Len, Safe, Room, Off, Sparks. -/
import Derived.Test.YtljiehnpknbohaaDkMem
import Derived.WalkKit
import Derived.Below
import Derived.Lib.Hide
import Derived.WalkSpells
import Derived.RegionTactic
import Derived.Deep.RegionHeld3
import Derived.WalkLawsBesides
set_option linter.unusedVariables false
set_option linter.unusedSimpArgs false
namespace Go.Proofs.Ytljiehnpknbohaa.DkW
open Go.RowKit Go.Proofs.Ytljiehnpknbohaa Go.Proofs.Ytljiehnpknbohaa.Dk
/-- The struct's block. -/
def Blk (w : World) (p : Nat) (m : Bool) (r : Int) (A : Option Addr) (n c : Nat) (sf sp : Int) (o : Bool) : Prop :=
  w.heap[p]? = some (.cells #[.bool m, .int .i64 r, .slice A n c, .int .i64 sf, .int .i64 sp, .bool o] 51 (0, 0))
theorem grown_cell (w : World) (g i : Nat) (v : Value) : w.grownBy (w.setCell ⟨g, i, none⟩ v) (some g) :=
  ⟨rfl, rfl, rfl, by simp [World.setCell], fun j _ hne => Below.heap_setCell _ _ _ _ (fun e => hne (by rw [e]))⟩
theorem size_cell (w : World) (a : Addr) (v : Value) : (w.setCell a v).heap.size = w.heap.size := by simp [World.setCell]
theorem right_nil (w : World) : Calls Try.prog 31 #[.pointer none] w fun e w' => e = .returned (.bool false) ∧ w' = w := by
  go_enter Try.func31, Try.ntmps31
  go_wp2
  go_ret
  exact ⟨rfl, rfl⟩
theorem right_any {p : Nat} {m : Bool} {r : Int} {A : Option Addr} {n c : Nat} {sf sp : Int} {o : Bool} {w : World} (h : Blk w p m r A n c sf sp o) :
    Calls Try.prog 31 #[.pointer (some ⟨p, 0, none⟩)] w fun e w' => e = .returned (.bool m) ∧ w' = w := by
  obtain ⟨c0, _, _, _, _, _⟩ := row6 h
  go_enter Try.func31, Try.ntmps31
  go_wp2
  go_ret
  exact ⟨rfl, rfl⟩
theorem len_nil (w : World) : Calls Try.prog 16 #[.pointer none] w fun e w' => e = .returned (.int .i64 0) ∧ w' = w := by
  go_enter Try.func16, Try.ntmps16
  go_wp2_with fail
  refine (right_nil _).mono ?_
  rintro e w1 ⟨rfl, rfl⟩
  go_wp2_with fail
  go_ret
  exact ⟨rfl, rfl⟩
theorem len_raw {p : Nat} {m : Bool} {r : Int} {A : Option Addr} {n c : Nat} {sf sp : Int} {o : Bool} {w : World} (h : Blk w p m r A n c sf sp o) :
    Calls Try.prog 16 #[.pointer (some ⟨p, 0, none⟩)] w fun e w' => e = .returned (.int .i64 (if m = true then (n : Int) else 0)) ∧ w' = w := by
  obtain ⟨_, _, c2, _, _, _⟩ := row6 h
  go_enter Try.func16, Try.ntmps16
  go_wp2_with fail
  refine (right_any h).mono ?_
  rintro e w1 ⟨rfl, rfl⟩
  cases m
  · go_wp2_with fail
    go_ret
    exact ⟨rfl, rfl⟩
  · go_wp2_with fail
    go_ret
    exact ⟨rfl, rfl⟩
theorem safe_nil (w : World) : Calls Try.prog 17 #[.pointer none] w fun e w' => e = .returned (.int .i64 0) ∧ w' = w := by
  go_enter Try.func17, Try.ntmps17
  go_wp2_with fail
  refine (right_nil _).mono ?_
  rintro e w1 ⟨rfl, rfl⟩
  go_wp2_with fail
  go_ret
  exact ⟨rfl, rfl⟩
theorem safe_raw {p : Nat} {m : Bool} {r : Int} {A : Option Addr} {n c : Nat} {sf sp : Int} {o : Bool} {w : World} (h : Blk w p m r A n c sf sp o) :
    Calls Try.prog 17 #[.pointer (some ⟨p, 0, none⟩)] w fun e w' => e = .returned (.int .i64 (if m = true then sf else 0)) ∧ w' = w := by
  obtain ⟨_, _, _, c3, _, _⟩ := row6 h
  go_enter Try.func17, Try.ntmps17
  go_wp2_with fail
  refine (right_any h).mono ?_
  rintro e w1 ⟨rfl, rfl⟩
  cases m
  · go_wp2_with fail
    go_ret
    exact ⟨rfl, rfl⟩
  · go_wp2_with fail
    go_ret
    exact ⟨rfl, rfl⟩
theorem room_nil (w : World) : Calls Try.prog 18 #[.pointer none] w fun e w' => e = .returned (.int .i64 0) ∧ w' = w := by
  go_enter Try.func18, Try.ntmps18
  go_wp2_with fail
  refine (right_nil _).mono ?_
  rintro e w1 ⟨rfl, rfl⟩
  go_wp2_with fail
  go_ret
  exact ⟨rfl, rfl⟩
theorem room_raw {p : Nat} {m : Bool} {r : Int} {A : Option Addr} {n c : Nat} {sf sp : Int} {o : Bool} {w : World} (h : Blk w p m r A n c sf sp o) :
    Calls Try.prog 18 #[.pointer (some ⟨p, 0, none⟩)] w fun e w' => e = .returned (.int .i64 (if m = true then r else 0)) ∧ w' = w := by
  obtain ⟨_, c1, _, _, _, _⟩ := row6 h
  go_enter Try.func18, Try.ntmps18
  go_wp2_with fail
  refine (right_any h).mono ?_
  rintro e w1 ⟨rfl, rfl⟩
  cases m
  · go_wp2_with fail
    go_ret
    exact ⟨rfl, rfl⟩
  · go_wp2_with fail
    go_ret
    exact ⟨rfl, rfl⟩
theorem off_nil (w : World) : Calls Try.prog 19 #[.pointer none] w fun e w' => e = .returned (.bool false) ∧ w' = w := by
  go_enter Try.func19, Try.ntmps19
  go_wp2_with fail
  refine (right_nil _).mono ?_
  rintro e w1 ⟨rfl, rfl⟩
  go_wp2_with fail
  go_ret
  exact ⟨rfl, rfl⟩
theorem off_raw {p : Nat} {m : Bool} {r : Int} {A : Option Addr} {n c : Nat} {sf sp : Int} {o : Bool} {w : World} (h : Blk w p m r A n c sf sp o) :
    Calls Try.prog 19 #[.pointer (some ⟨p, 0, none⟩)] w fun e w' => e = .returned (.bool (m && o)) ∧ w' = w := by
  obtain ⟨_, _, _, _, _, c5⟩ := row6 h
  go_enter Try.func19, Try.ntmps19
  go_wp2_with fail
  refine (right_any h).mono ?_
  rintro e w1 ⟨rfl, rfl⟩
  cases m
  · go_wp2_with fail
    go_ret
    exact ⟨rfl, rfl⟩
  · go_wp2_with fail
    go_ret
    exact ⟨rfl, rfl⟩
theorem ready_nil (w : World) : Calls Try.prog 35 #[.pointer none] w fun e w' => e = .returned (.int .i64 1) ∧ w' = w := by
  go_enter Try.func35, Try.ntmps35
  go_wp2_with fail
  refine (right_nil _).mono ?_
  rintro e w1 ⟨rfl, rfl⟩
  go_wp2_with fail
  go_ret
  exact ⟨rfl, rfl⟩
theorem ready_raw {p : Nat} {m : Bool} {r : Int} {A : Option Addr} {n c : Nat} {sf sp : Int} {o : Bool} {w : World} (h : Blk w p m r A n c sf sp o) :
    Calls Try.prog 35 #[.pointer (some ⟨p, 0, none⟩)] w fun e w' => e = .returned (.int .i64 (if m = true then (if o = true then 6 else 0) else 1)) ∧ w' = w := by
  obtain ⟨_, _, _, _, _, c5⟩ := row6 h
  go_enter Try.func35, Try.ntmps35
  go_wp2_with fail
  refine (right_any h).mono ?_
  rintro e w1 ⟨rfl, rfl⟩
  cases m
  · go_wp2_with fail
    go_ret
    exact ⟨rfl, rfl⟩
  · cases o
    · go_wp2_with fail
      go_ret
      exact ⟨rfl, rfl⟩
    · go_wp2_with fail
      go_ret
      exact ⟨rfl, rfl⟩
/-- What a method panics with. -/
def Bad : PanicEntry := { v := .iface 62 (.agg #[]), recovered := false }
theorem spark_none {p : Nat} {m : Bool} {r : Int} {A : Option Addr} {n c : Nat} {sf : Int} {o : Bool} {w : World} (h : Blk w p m r A n c sf 0 o) :
    Calls Try.prog 36 #[.pointer (some ⟨p, 0, none⟩)] w fun e w' => e = .panicked [Bad] ∧ Blk w' p m r A n c sf 0 true ∧ w.grownBy w' (some p) ∧ w'.heap.size = w.heap.size := by
  obtain ⟨_, _, _, _, c4, c5⟩ := row6 h
  obtain ⟨_, _, _, _, _, f5⟩ := free6 h
  have HE := Lib.hid h
  clear h
  go_enter Try.func36, Try.ntmps36
  go_wp2_with fail
  exact ⟨rfl, rfl, heap_setCell_same w p 5 _ _ _ HE.out, grown_cell _ _ _ _, size_cell _ _ _⟩
theorem spark_one {p : Nat} {m : Bool} {r : Int} {A : Option Addr} {n c : Nat} {sf sp : Int} {o : Bool} {w : World} (h : Blk w p m r A n c sf sp o) (hp : 0 < sp) (hs : sp ≤ 9223372036854775807) :
    Calls Try.prog 36 #[.pointer (some ⟨p, 0, none⟩)] w fun e w' => e = .returned (.tuple #[]) ∧ Blk w' p m r A n c sf (sp - 1) o ∧ w.grownBy w' (some p) ∧ w'.heap.size = w.heap.size := by
  obtain ⟨_, _, _, _, c4, _⟩ := row6 h
  obtain ⟨_, _, _, _, f4, _⟩ := free6 h
  have HE := Lib.hid h
  have hz : (sp == 0) = false := by simp; omega
  have hw : IntKind.i64.wrap (sp - 1) = sp - 1 := by rw [IntKind.wrap_i64]; omega
  clear h
  go_enter Try.func36, Try.ntmps36
  go_wp2_with fail
  refine bodyPost_end (results_none rfl _ _ _) rfl ⟨rfl, ?_, grown_cell _ _ _ _, size_cell _ _ _⟩
  exact heap_setCell_same w p 4 _ _ _ HE.out
theorem spark_many {p : Nat} {m : Bool} {r : Int} {A : Option Addr} {n c : Nat} {sf sp : Int} {o : Bool} {w : World} (h : Blk w p m r A n c sf sp o) (hp : sp < 0) :
    Calls Try.prog 36 #[.pointer (some ⟨p, 0, none⟩)] w fun e w' => e = .returned (.tuple #[]) ∧ w' = w := by
  obtain ⟨_, _, _, _, c4, _⟩ := row6 h
  have HE := Lib.hid h
  have hz : (sp == 0) = false := by simp; omega
  have hz' : ¬ 0 < sp := by omega
  clear h
  go_enter Try.func36, Try.ntmps36
  go_wp2_with fail
  exact bodyPost_end (results_none rfl _ _ _) rfl ⟨rfl, rfl⟩
theorem sparks_nil (z : Int) (w : World) : Calls Try.prog 21 #[.pointer none, .int .i64 z] w fun e w' => e = .returned (.tuple #[]) ∧ w' = w := by
  go_enter Try.func21, Try.ntmps21
  go_wp2_with fail
  refine (right_nil _).mono ?_
  rintro e w1 ⟨rfl, rfl⟩
  go_wp2_with fail
  exact bodyPost_end (results_none rfl _ _ _) rfl ⟨rfl, rfl⟩
theorem sparks_none {p : Nat} {r : Int} {A : Option Addr} {n c : Nat} {sf sp : Int} {o : Bool} {w : World} (z : Int) (h : Blk w p false r A n c sf sp o) :
    Calls Try.prog 21 #[.pointer (some ⟨p, 0, none⟩), .int .i64 z] w fun e w' => e = .returned (.tuple #[]) ∧ w' = w := by
  go_enter Try.func21, Try.ntmps21
  go_wp2_with fail
  refine (right_any h).mono ?_
  rintro e w1 ⟨rfl, rfl⟩
  go_wp2_with fail
  exact bodyPost_end (results_none rfl _ _ _) rfl ⟨rfl, rfl⟩
theorem sparks_raw {p : Nat} {r : Int} {A : Option Addr} {n c : Nat} {sf sp : Int} {o : Bool} {w : World} (z : Int) (h : Blk w p true r A n c sf sp o) :
    Calls Try.prog 21 #[.pointer (some ⟨p, 0, none⟩), .int .i64 z] w fun e w' => e = .returned (.tuple #[]) ∧ Blk w' p true r A n c sf z o ∧ w.grownBy w' (some p) ∧ w'.heap.size = w.heap.size := by
  obtain ⟨_, _, _, _, c4, _⟩ := row6 h
  obtain ⟨_, _, _, _, f4, _⟩ := free6 h
  have HE := Lib.hid h
  go_enter Try.func21, Try.ntmps21
  go_wp2_with fail
  refine (right_any h).mono ?_
  rintro e w1 ⟨rfl, rfl⟩
  clear h
  go_wp2_with fail
  refine bodyPost_end (results_none rfl _ _ _) rfl ⟨rfl, ?_, grown_cell _ _ _ _, size_cell _ _ _⟩
  exact heap_setCell_same _ p 4 _ _ _ HE.out
end Go.Proofs.Ytljiehnpknbohaa.DkW
