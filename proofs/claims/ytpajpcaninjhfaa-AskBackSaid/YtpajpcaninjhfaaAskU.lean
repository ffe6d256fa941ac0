/- The walk of awake: the chapter's examples. -/
import Derived.Test.YtpajpcaninjhfaaAskT
set_option linter.unusedVariables false
set_option linter.unusedSimpArgs false
namespace Go.Proofs.Ytpajpcaninjhfaa.AskW
open Go.RowKit Go.Proofs.Ytpajpcaninjhfaa Go.Proofs.Ytpajpcaninjhfaa.Ask
theorem bytes_of {l : List Nat} (h : l.all (fun c => decide (c < 256)) = true) : Bytes l := fun c hc => by
  have := List.all_eq_true.1 h c hc
  simpa using this
theorem wf_of (f a m t : Nat) (B : List Bool) (h : f < 256 ∧ a < 65536 ∧ m < 65536 ∧ t < 65536) : Req.Wf ⟨f, a, m, t, [], B⟩ := ⟨h.1, h.2.1, h.2.2.1, h.2.2.2, fun x hx => by cases hx⟩
theorem e1 : bytesE ⟨3, 107, 3, 0, [], []⟩ = ([3, 0, 107, 0, 3], 0) := by decide +kernel
theorem p1 : parseF [3, 0, 107, 0, 3] = (⟨3, 107, 3, 0, [], []⟩, 0) := by decide +kernel
theorem e2 : bytesE ⟨15, 19, 4, 0, [], [true, false, true, true]⟩ = ([15, 0, 19, 0, 4, 1, 13], 0) := by decide +kernel
theorem p2 : parseF [15, 0, 19, 0, 4, 1, 13] = (⟨15, 19, 4, 0, [], [true, false, true, true]⟩, 0) := by decide +kernel
theorem e3 : bytesE ⟨5, 172, 0, 0, [], [true]⟩ = ([5, 0, 172, 255, 0], 0) := by decide +kernel
theorem p3 : parseF [5, 0, 172, 255, 0] = (⟨5, 172, 0, 0, [], [true]⟩, 0) := by decide +kernel
theorem l1 : (lookF [5, 0, 172, 255, 1]).2 = 3 := by decide +kernel
theorem l2 : (lookF [3, 0, 0, 0, 126]).2 = 3 := by decide +kernel
theorem l3 : (lookF [7]).2 = 1 := by decide +kernel
theorem l4 : (lookF []).2 = 1 := by decide +kernel
theorem bits_then (w : World) (B : List Bool) (t : TypeId) (o : Obj) : Sl ((w.alloc (.cells (bl B).toArray t)).alloc o) ((w.alloc (.cells (bl B).toArray t)).alloc o).heap.size (some ⟨w.heap.size, 0, none⟩) B.length (bl B) := by
  have h := ((Sl.new w (bl B).toArray t (w.heap.size + 1) (by omega)).alloc (by simp) o).mono (B' := ((w.alloc (.cells (bl B).toArray t)).alloc o).heap.size) (by simp)
  simpa using h
theorem bytes_then (w : World) (xs : List Nat) (t : TypeId) (g : Nat) (hg : g = w.heap.size) : Sl (w.alloc (.cells (bs xs).toArray t)) (w.alloc (.cells (bs xs).toArray t)).heap.size (some ⟨g, 0, none⟩) xs.length (bs xs) := by
  subst hg
  have h := Sl.new w (bs xs).toArray t (w.alloc (.cells (bs xs).toArray t)).heap.size (by simp)
  simpa using h
set_option maxHeartbeats 400000 in
theorem awake_any (w : World) :
    Calls Try.prog 10 #[] w fun e w' => e = .returned (.bool true) ∧ Below w.heap.size w w' := by
  go_enter Try.func10, Try.ntmps10
  go_wp2_with fail
  refine (said_any 3 107 3 0 _ 0 0 _ 0 0 [] [] _ 5 5 [3, 0, 107, 0, 3] _ (Sl.empty _ _ _) (Sl.empty _ _ _) (wf_of _ _ _ _ _ (by decide)) (by decide) (by decide) (bytes_then _ [3, 0, 107, 0, 3] _ _ (by simp)) (bytes_of (by decide)) (by decide) (by decide) e1 p1).mono ?_
  rintro e w1 ⟨rfl, b1⟩
  have B1 := ((Below.refl _ w).new _).call b1
  clear b1
  go_wp2_with fail
  refine (said_any 15 19 4 0 _ 0 0 _ 4 4 [] [true, false, true, true] _ 7 7 [15, 0, 19, 0, 4, 1, 13] _ (Sl.empty _ _ _) (bits_then w1 [true, false, true, true] _ _) (wf_of _ _ _ _ _ (by decide)) (by decide) (by decide) (bytes_then _ [15, 0, 19, 0, 4, 1, 13] _ _ (by simp)) (bytes_of (by decide)) (by decide) (by decide) e2 p2).mono ?_
  rintro e w2 ⟨rfl, b2⟩
  have B2 := ((B1.new _).new _).call b2
  clear b2
  go_wp2_with fail
  refine (said_any 5 172 0 0 _ 0 0 _ 1 1 [] [true] _ 5 5 [5, 0, 172, 255, 0] _ (Sl.empty _ _ _) (bits_then w2 [true] _ _) (wf_of _ _ _ _ _ (by decide)) (by decide) (by decide) (bytes_then _ [5, 0, 172, 255, 0] _ _ (by simp)) (bytes_of (by decide)) (by decide) (by decide) e3 p3).mono ?_
  rintro e w3 ⟨rfl, b3⟩
  have B3 := ((B2.new _).new _).call b3
  clear b3
  go_wp2_with fail
  refine (wrong_any 3 _ 5 5 [5, 0, 172, 255, 1] _ (bytes_then _ [5, 0, 172, 255, 1] _ _ (by simp)) (bytes_of (by decide)) (by decide) (by decide) l1).mono ?_
  rintro e w4 ⟨rfl, b4⟩
  have B4 := (B3.new _).call b4
  clear b4
  go_wp2_with fail
  refine (wrong_any 3 _ 5 5 [3, 0, 0, 0, 126] _ (bytes_then _ [3, 0, 0, 0, 126] _ _ (by simp)) (bytes_of (by decide)) (by decide) (by decide) l2).mono ?_
  rintro e w5 ⟨rfl, b5⟩
  have B5 := (B4.new _).call b5
  clear b5
  go_wp2_with fail
  refine (wrong_any 1 _ 1 1 [7] _ (bytes_then _ [7] _ _ (by simp)) (bytes_of (by decide)) (by decide) (by decide) l3).mono ?_
  rintro e w6 ⟨rfl, b6⟩
  have B6 := (B5.new _).call b6
  clear b6
  go_wp2_with fail
  refine (wrong_any 1 _ 0 0 [] _ (Sl.empty _ _ _) (bytes_of (by decide)) (by decide) (by decide) l4).mono ?_
  rintro e w7 ⟨rfl, b7⟩
  have B7 := B6.call b7
  clear b7
  go_wp2_with fail
  go_ret
  exact ⟨rfl, B7⟩
end Go.Proofs.Ytpajpcaninjhfaa.AskW
