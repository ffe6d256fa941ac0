/- Merged: AskO4 AskO5 AskO6. -/
import Derived.Test.YtiibopdnlmnkmaaAG3
/- The walk of fields.read, shape 4. -/
set_option linter.unusedVariables false
set_option linter.unusedSimpArgs false
namespace Go.Proofs.Ytiibopdnlmnkmaa.AskW
open Go.RowKit Go.Proofs.Ytiibopdnlmnkmaa Go.Proofs.Ytiibopdnlmnkmaa.Ask
set_option maxHeartbeats 16000000 in
theorem read_4 (fm : Nat) (hP : (0 : Int) < fm) (A : Option Addr) (n c : Nat) (xs : List Nat) (w : World) (hs : Sl w w.heap.size A n (bs xs)) (hx : Bytes xs) (hn : 1 ≤ n) (hn2 : n ≤ 300) (hc : n ≤ c) :
    Calls Try.prog 43 #[.agg #[.int .i64 fm, .bool false, .int .u8 2, .int .u8 0], .slice A n c] w (RetReq w ⟨xs[0]?.getD 0, num xs 1, num xs 3, 0, [], (unpack (xs.drop 6)).take (num xs 3)⟩) := by
  have q1 : xs.length = n := by simpa using hs.len
  have hd := hs.drop (k := 1) (cap := c) (by omega) hc
  rw [bs_drop] at hd
  obtain ⟨b, o, rfl, hbl, d1⟩ := hs.2 (by omega)
  have g1 : w.cell? ⟨b, o, none⟩ = _ := (d1 0 (by omega)).trans (bs_get (by omega))
  have z1 : (0 : Int) < (n : Int) := by omega
  have z1n : 0 < n := by omega
  have z1c : (0 : Int) ≤ (n : Int) := by omega
  have z3 : (n : Int) ≤ (c : Int) := by omega
  have z4 : (1 : Int) ≤ (c : Int) := by omega
  have z2 : (1 : Int) ≤ (n : Int) := by omega
  obtain ⟨x, ex⟩ : ∃ x, x = xs[0]?.getD 0 := ⟨_, rfl⟩
  rw [← ex] at g1
  rw [← ex]
  have HL := Lib.hid (show xs.length ≤ 1000 by omega)
  have hw3 : IntKind.i64.wrap ((num xs 3 : Nat) : Int) = (num xs 3 : Nat) := w64 (by have := num_lt hx 3; omega)
  have KC := Lib.hid (fun X => counted_any fm false 2 0 X)
  clear hs q1 ex d1
  by_cases hc1 : c = 1
  · obtain ⟨Ar, nr, cr, hr2, hnr, hr⟩ : ∃ Ar nr cr, Value.slice (some (⟨b, o, none⟩ : Addr)) (n - 1) 0 = .slice Ar nr cr ∧ nr ≤ cr ∧ Sl w w.heap.size Ar nr (bs (xs.drop 1)) := by
      rw [if_pos hc1] at hd
      exact ⟨_, _, _, rfl, by omega, hd⟩
    subst hc1
    have HR2 := Lib.hid hr2
    clear hd hc hr2
    go_enter Try.func43, Try.ntmps43
    go_wp2_with fail
    go_region_held3 (fun w' => Below w.heap.size w w' ∧ w'.cell? ⟨b, o, none⟩ = some (.int .u8 (x : Nat)))
      (exact keepB hbl g1 (by repeat (first | exact Below.refl _ _ | assumption | apply Below.new | apply Below.drew | refine Below.setCell ?_ (by simp; omega) _)))
      (fail)
    all_goals rw [HR2.out]
    all_goals (
      first
        | (
          obtain ⟨W0, hW0⟩ : ∃ W0, W0 = ((((w.alloc (.cells #[.int .i64 fm, .bool false, .int .u8 2, .int .u8 0] 91)).alloc (.cells #[.int .u8 0, .int .u16 0, .int .u16 0, .int .u16 0, .slice none 0 0, .slice none 0 0] 31)).alloc (.cells #[.int .u8 (x : Nat), .int .u16 0, .int .u16 0, .int .u16 0, .slice none 0 0, .slice none 0 0] 31)).alloc (.cells #[.slice Ar nr cr] 118)).drew := ⟨_, rfl⟩
          rw [← hW0]
          have S : St w W0 (w.heap.size + 1 + 1) (w.heap.size + 1 + 1 + 1) #[.int .i64 fm, .bool false, .int .u8 2, .int .u8 0] #[.int .u8 0, .int .u16 0, .int .u16 0, .int .u16 0, .slice none 0 0, .slice none 0 0] #[.int .u8 (x : Nat), .int .u16 0, .int .u16 0, .int .u16 0, .slice none 0 0, .slice none 0 0] (xs.drop 1) := by
            rw [hW0]
            exact St_new0 w _ _ _ _ _ _ _ hnr hr
          clear hW0
          obtain ⟨k6, ek6⟩ : ∃ k, k = w.heap.size + 1 + 1 + 1 := ⟨_, rfl⟩
          rw [← ek6] at S ⊢
          obtain ⟨k5, ek5⟩ : ∃ k, k = w.heap.size + 1 + 1 := ⟨_, rfl⟩
          rw [← ek5] at S ⊢)
        | (
          obtain ⟨W0, hW0⟩ : ∃ W0, W0 = ((((w.alloc (.cells #[.int .i64 fm, .bool false, .int .u8 2, .int .u8 0] 91)).alloc (.cells #[.int .u8 0, .int .u16 0, .int .u16 0, .int .u16 0, .slice none 0 0, .slice none 0 0] 31)).alloc (.cells #[.slice Ar nr cr] 118)).alloc (.cells #[.int .u8 (x : Nat), .int .u16 0, .int .u16 0, .int .u16 0, .slice none 0 0, .slice none 0 0] 31)).drew := ⟨_, rfl⟩
          rw [← hW0]
          have S : St w W0 (w.heap.size + 1 + 1 + 1) (w.heap.size + 1 + 1) #[.int .i64 fm, .bool false, .int .u8 2, .int .u8 0] #[.int .u8 0, .int .u16 0, .int .u16 0, .int .u16 0, .slice none 0 0, .slice none 0 0] #[.int .u8 (x : Nat), .int .u16 0, .int .u16 0, .int .u16 0, .slice none 0 0, .slice none 0 0] (xs.drop 1) := by
            rw [hW0]
            exact St_new1 w _ _ _ _ _ _ _ hnr hr
          clear hW0
          obtain ⟨k5, ek5⟩ : ∃ k, k = w.heap.size + 1 + 1 + 1 := ⟨_, rfl⟩
          rw [← ek5] at S ⊢
          obtain ⟨k6, ek6⟩ : ∃ k, k = w.heap.size + 1 + 1 := ⟨_, rfl⟩
          rw [← ek6] at S ⊢)
      have n1 : ¬ w.heap.size = k5 := by omega
      have n2 : ¬ k5 = w.heap.size := by omega
      have n3 : ¬ k5 = k6 := by omega
      have n4 : ¬ k6 = k5 := by omega
      have n5 : ¬ w.heap.size = k6 := by omega
      have n6 : w.heap.size + 1 < k5 := by omega
      clear ek5 ek6
      obtain ⟨c0, c1, c2, c3, c4, c5⟩ := row6 S.ra
      obtain ⟨f0, f1, f2, f3, f4, f5⟩ := free6 S.ra
      obtain ⟨p0, p1, p2, p3⟩ := row4 S.rf
      go_wp2_with fail
      refine (numberAt (i := 1) (xs := xs) S hx).mono ?_
      rintro e W1 ⟨rfl, S1⟩
      have S := S1
      clear S1
      obtain ⟨c0, c1, c2, c3, c4, c5⟩ := row6 S.ra
      obtain ⟨f0, f1, f2, f3, f4, f5⟩ := free6 S.ra
      obtain ⟨p0, p1, p2, p3⟩ := row4 S.rf
      go_wp2_with fail
      have S := S.set 1 (.int .u16 ((num xs 1 : Nat) : Int))
      refine (numberAt (i := 3) (xs := xs) S hx).mono ?_
      rintro e W1 ⟨rfl, S1⟩
      have S := S1
      clear S1
      obtain ⟨c0, c1, c2, c3, c4, c5⟩ := row6 S.ra
      obtain ⟨f0, f1, f2, f3, f4, f5⟩ := free6 S.ra
      obtain ⟨p0, p1, p2, p3⟩ := row4 S.rf
      go_wp2_with fail
      have S := S.set 2 (.int .u16 ((num xs 3 : Nat) : Int))
      refine (KC.out _).mono ?_
      rintro e W2 ⟨rfl, b2⟩
      have S := S.keep b2
      clear b2
      obtain ⟨c0, c1, c2, c3, c4, c5⟩ := row6 S.ra
      obtain ⟨f0, f1, f2, f3, f4, f5⟩ := free6 S.ra
      obtain ⟨p0, p1, p2, p3⟩ := row4 S.rf
      go_wp2_with fail
      refine (nextAt (i := 5) (xs := xs) S).mono ?_
      rintro e W3 ⟨rfl, S1⟩
      have S := S1
      clear S1
      obtain ⟨c0, c1, c2, c3, c4, c5⟩ := row6 S.ra
      obtain ⟨f0, f1, f2, f3, f4, f5⟩ := free6 S.ra
      obtain ⟨p0, p1, p2, p3⟩ := row4 S.rf
      go_wp2_with fail
      refine (bitsAt (i := 6) (xs := xs) S hx HL.out (num xs 3)).mono ?_
      rintro e W1 ⟨Ab, nb, cb, rfl, SB, oB, hb, S1⟩
      have hk5 := row_lt S.ra
      have hkz := row_lt S.rz
      have S := S1
      clear S1
      obtain ⟨c0, c1, c2, c3, c4, c5⟩ := row6 S.ra
      obtain ⟨f0, f1, f2, f3, f4, f5⟩ := free6 S.ra
      obtain ⟨p0, p1, p2, p3⟩ := row4 S.rf
      have SF := S.set 5 (.slice Ab nb cb)
      have ra : _ = some (Obj.cells #[.int .u8 (x : Nat), .int .u16 ((num xs 1 : Nat) : Int), .int .u16 (((num xs 3 : Nat) : Int)), .int .u16 (0), .slice none 0 0, .slice Ab nb cb] 31 (0, 0)) := SF.ra
      have rz := SF.rz
      have hbel := SF.bel
      clear S SF
      go_wp2_with (first
        | (refine wpList_load_row rfl 31 (.tmp 5) rfl k5 rfl 31 #[.int .u8 (x : Nat), .int .u16 ((num xs 1 : Nat) : Int), .int .u16 (((num xs 3 : Nat) : Int)), .int .u16 (0), .slice none 0 0, .slice Ab nb cb] (0, 0) _ ra Try.underlying31 rfl (by kernel_rfl) ?_)
        | (refine wpList_store_grown rfl 31 (.tmp 4) _ rfl (w.heap.size + 1) #[.int .u8 (x : Nat), .int .u16 ((num xs 1 : Nat) : Int), .int .u16 (((num xs 3 : Nat) : Int)), .int .u16 (0), .slice none 0 0, .slice Ab nb cb] rfl rfl 31 _ rz (by kernel_rfl) rfl (by simp [Value.oneCell']) ?_; intro W9 h9 g9 s9))
      refine bodyPost_row rfl (w.heap.size + 1) 31 #[.int .u8 (x : Nat), .int .u16 ((num xs 1 : Nat) : Int), .int .u16 (((num xs 3 : Nat) : Int)), .int .u16 (0), .slice none 0 0, .slice Ab nb cb] (0, 0) _ rfl h9 Try.underlying31 rfl (by kernel_rfl) rfl ?_
      refine ⟨none, 0, 0, Ab, nb, cb, rfl, ?_, ?_, Nat.le_refl _, hb, (fun _ _ h => by cases h), (fun b o h => by have := oB b o h; omega), hbel.grown g9 hbel.size (fun k hk => by injection hk with hk; omega)⟩
      · exact Sl.empty _ _ _
      · exact (SB.grown (grown_setCell _ k5 5 _) (fun b o h e => by have := oB b o h; injection e with e; omega)).grown g9 (fun b o h e => by have := oB b o h; injection e with e; omega))
  · obtain ⟨Ar, nr, cr, hr2, hnr, hr⟩ : ∃ Ar nr cr, Value.slice (some (⟨b, o + 1, none⟩ : Addr)) (n - 1) (c - 1) = .slice Ar nr cr ∧ nr ≤ cr ∧ Sl w w.heap.size Ar nr (bs (xs.drop 1)) := by
      rw [if_neg hc1] at hd
      exact ⟨_, _, _, rfl, by omega, hd⟩
    have HR2 := Lib.hid hr2
    clear hd hc hr2
    go_enter Try.func43, Try.ntmps43
    go_wp2_with fail
    go_region_held3 (fun w' => Below w.heap.size w w' ∧ w'.cell? ⟨b, o, none⟩ = some (.int .u8 (x : Nat)))
      (exact keepB hbl g1 (by repeat (first | exact Below.refl _ _ | assumption | apply Below.new | apply Below.drew | refine Below.setCell ?_ (by simp; omega) _)))
      (fail)
    all_goals rw [HR2.out]
    all_goals (
      first
        | (
          obtain ⟨W0, hW0⟩ : ∃ W0, W0 = ((((w.alloc (.cells #[.int .i64 fm, .bool false, .int .u8 2, .int .u8 0] 91)).alloc (.cells #[.int .u8 0, .int .u16 0, .int .u16 0, .int .u16 0, .slice none 0 0, .slice none 0 0] 31)).alloc (.cells #[.int .u8 (x : Nat), .int .u16 0, .int .u16 0, .int .u16 0, .slice none 0 0, .slice none 0 0] 31)).alloc (.cells #[.slice Ar nr cr] 118)).drew := ⟨_, rfl⟩
          rw [← hW0]
          have S : St w W0 (w.heap.size + 1 + 1) (w.heap.size + 1 + 1 + 1) #[.int .i64 fm, .bool false, .int .u8 2, .int .u8 0] #[.int .u8 0, .int .u16 0, .int .u16 0, .int .u16 0, .slice none 0 0, .slice none 0 0] #[.int .u8 (x : Nat), .int .u16 0, .int .u16 0, .int .u16 0, .slice none 0 0, .slice none 0 0] (xs.drop 1) := by
            rw [hW0]
            exact St_new0 w _ _ _ _ _ _ _ hnr hr
          clear hW0
          obtain ⟨k6, ek6⟩ : ∃ k, k = w.heap.size + 1 + 1 + 1 := ⟨_, rfl⟩
          rw [← ek6] at S ⊢
          obtain ⟨k5, ek5⟩ : ∃ k, k = w.heap.size + 1 + 1 := ⟨_, rfl⟩
          rw [← ek5] at S ⊢)
        | (
          obtain ⟨W0, hW0⟩ : ∃ W0, W0 = ((((w.alloc (.cells #[.int .i64 fm, .bool false, .int .u8 2, .int .u8 0] 91)).alloc (.cells #[.int .u8 0, .int .u16 0, .int .u16 0, .int .u16 0, .slice none 0 0, .slice none 0 0] 31)).alloc (.cells #[.slice Ar nr cr] 118)).alloc (.cells #[.int .u8 (x : Nat), .int .u16 0, .int .u16 0, .int .u16 0, .slice none 0 0, .slice none 0 0] 31)).drew := ⟨_, rfl⟩
          rw [← hW0]
          have S : St w W0 (w.heap.size + 1 + 1 + 1) (w.heap.size + 1 + 1) #[.int .i64 fm, .bool false, .int .u8 2, .int .u8 0] #[.int .u8 0, .int .u16 0, .int .u16 0, .int .u16 0, .slice none 0 0, .slice none 0 0] #[.int .u8 (x : Nat), .int .u16 0, .int .u16 0, .int .u16 0, .slice none 0 0, .slice none 0 0] (xs.drop 1) := by
            rw [hW0]
            exact St_new1 w _ _ _ _ _ _ _ hnr hr
          clear hW0
          obtain ⟨k5, ek5⟩ : ∃ k, k = w.heap.size + 1 + 1 + 1 := ⟨_, rfl⟩
          rw [← ek5] at S ⊢
          obtain ⟨k6, ek6⟩ : ∃ k, k = w.heap.size + 1 + 1 := ⟨_, rfl⟩
          rw [← ek6] at S ⊢)
      have n1 : ¬ w.heap.size = k5 := by omega
      have n2 : ¬ k5 = w.heap.size := by omega
      have n3 : ¬ k5 = k6 := by omega
      have n4 : ¬ k6 = k5 := by omega
      have n5 : ¬ w.heap.size = k6 := by omega
      have n6 : w.heap.size + 1 < k5 := by omega
      clear ek5 ek6
      obtain ⟨c0, c1, c2, c3, c4, c5⟩ := row6 S.ra
      obtain ⟨f0, f1, f2, f3, f4, f5⟩ := free6 S.ra
      obtain ⟨p0, p1, p2, p3⟩ := row4 S.rf
      go_wp2_with fail
      refine (numberAt (i := 1) (xs := xs) S hx).mono ?_
      rintro e W1 ⟨rfl, S1⟩
      have S := S1
      clear S1
      obtain ⟨c0, c1, c2, c3, c4, c5⟩ := row6 S.ra
      obtain ⟨f0, f1, f2, f3, f4, f5⟩ := free6 S.ra
      obtain ⟨p0, p1, p2, p3⟩ := row4 S.rf
      go_wp2_with fail
      have S := S.set 1 (.int .u16 ((num xs 1 : Nat) : Int))
      refine (numberAt (i := 3) (xs := xs) S hx).mono ?_
      rintro e W1 ⟨rfl, S1⟩
      have S := S1
      clear S1
      obtain ⟨c0, c1, c2, c3, c4, c5⟩ := row6 S.ra
      obtain ⟨f0, f1, f2, f3, f4, f5⟩ := free6 S.ra
      obtain ⟨p0, p1, p2, p3⟩ := row4 S.rf
      go_wp2_with fail
      have S := S.set 2 (.int .u16 ((num xs 3 : Nat) : Int))
      refine (KC.out _).mono ?_
      rintro e W2 ⟨rfl, b2⟩
      have S := S.keep b2
      clear b2
      obtain ⟨c0, c1, c2, c3, c4, c5⟩ := row6 S.ra
      obtain ⟨f0, f1, f2, f3, f4, f5⟩ := free6 S.ra
      obtain ⟨p0, p1, p2, p3⟩ := row4 S.rf
      go_wp2_with fail
      refine (nextAt (i := 5) (xs := xs) S).mono ?_
      rintro e W3 ⟨rfl, S1⟩
      have S := S1
      clear S1
      obtain ⟨c0, c1, c2, c3, c4, c5⟩ := row6 S.ra
      obtain ⟨f0, f1, f2, f3, f4, f5⟩ := free6 S.ra
      obtain ⟨p0, p1, p2, p3⟩ := row4 S.rf
      go_wp2_with fail
      refine (bitsAt (i := 6) (xs := xs) S hx HL.out (num xs 3)).mono ?_
      rintro e W1 ⟨Ab, nb, cb, rfl, SB, oB, hb, S1⟩
      have hk5 := row_lt S.ra
      have hkz := row_lt S.rz
      have S := S1
      clear S1
      obtain ⟨c0, c1, c2, c3, c4, c5⟩ := row6 S.ra
      obtain ⟨f0, f1, f2, f3, f4, f5⟩ := free6 S.ra
      obtain ⟨p0, p1, p2, p3⟩ := row4 S.rf
      have SF := S.set 5 (.slice Ab nb cb)
      have ra : _ = some (Obj.cells #[.int .u8 (x : Nat), .int .u16 ((num xs 1 : Nat) : Int), .int .u16 (((num xs 3 : Nat) : Int)), .int .u16 (0), .slice none 0 0, .slice Ab nb cb] 31 (0, 0)) := SF.ra
      have rz := SF.rz
      have hbel := SF.bel
      clear S SF
      go_wp2_with (first
        | (refine wpList_load_row rfl 31 (.tmp 5) rfl k5 rfl 31 #[.int .u8 (x : Nat), .int .u16 ((num xs 1 : Nat) : Int), .int .u16 (((num xs 3 : Nat) : Int)), .int .u16 (0), .slice none 0 0, .slice Ab nb cb] (0, 0) _ ra Try.underlying31 rfl (by kernel_rfl) ?_)
        | (refine wpList_store_grown rfl 31 (.tmp 4) _ rfl (w.heap.size + 1) #[.int .u8 (x : Nat), .int .u16 ((num xs 1 : Nat) : Int), .int .u16 (((num xs 3 : Nat) : Int)), .int .u16 (0), .slice none 0 0, .slice Ab nb cb] rfl rfl 31 _ rz (by kernel_rfl) rfl (by simp [Value.oneCell']) ?_; intro W9 h9 g9 s9))
      refine bodyPost_row rfl (w.heap.size + 1) 31 #[.int .u8 (x : Nat), .int .u16 ((num xs 1 : Nat) : Int), .int .u16 (((num xs 3 : Nat) : Int)), .int .u16 (0), .slice none 0 0, .slice Ab nb cb] (0, 0) _ rfl h9 Try.underlying31 rfl (by kernel_rfl) rfl ?_
      refine ⟨none, 0, 0, Ab, nb, cb, rfl, ?_, ?_, Nat.le_refl _, hb, (fun _ _ h => by cases h), (fun b o h => by have := oB b o h; omega), hbel.grown g9 hbel.size (fun k hk => by injection hk with hk; omega)⟩
      · exact Sl.empty _ _ _
      · exact (SB.grown (grown_setCell _ k5 5 _) (fun b o h e => by have := oB b o h; injection e with e; omega)).grown g9 (fun b o h e => by have := oB b o h; injection e with e; omega))
end Go.Proofs.Ytiibopdnlmnkmaa.AskW
/- The walk of fields.read, shape 5. -/
set_option linter.unusedVariables false
set_option linter.unusedSimpArgs false
namespace Go.Proofs.Ytiibopdnlmnkmaa.AskW
open Go.RowKit Go.Proofs.Ytiibopdnlmnkmaa Go.Proofs.Ytiibopdnlmnkmaa.Ask
set_option maxHeartbeats 16000000 in
theorem read_5 (fm : Nat) (hP : (0 : Int) < fm) (A : Option Addr) (n c : Nat) (xs : List Nat) (w : World) (hs : Sl w w.heap.size A n (bs xs)) (hx : Bytes xs) (hn : 1 ≤ n) (hn2 : n ≤ 300) (hc : n ≤ c) :
    Calls Try.prog 43 #[.agg #[.int .i64 fm, .bool false, .int .u8 0, .int .u8 2], .slice A n c] w (RetReq w ⟨xs[0]?.getD 0, num xs 1, num xs 3, 0, nums (xs.drop 6), []⟩) := by
  have q1 : xs.length = n := by simpa using hs.len
  have hd := hs.drop (k := 1) (cap := c) (by omega) hc
  rw [bs_drop] at hd
  obtain ⟨b, o, rfl, hbl, d1⟩ := hs.2 (by omega)
  have g1 : w.cell? ⟨b, o, none⟩ = _ := (d1 0 (by omega)).trans (bs_get (by omega))
  have z1 : (0 : Int) < (n : Int) := by omega
  have z1n : 0 < n := by omega
  have z1c : (0 : Int) ≤ (n : Int) := by omega
  have z3 : (n : Int) ≤ (c : Int) := by omega
  have z4 : (1 : Int) ≤ (c : Int) := by omega
  have z2 : (1 : Int) ≤ (n : Int) := by omega
  obtain ⟨x, ex⟩ : ∃ x, x = xs[0]?.getD 0 := ⟨_, rfl⟩
  rw [← ex] at g1
  rw [← ex]
  have HL := Lib.hid (show xs.length ≤ 1000 by omega)
  have hw3 : IntKind.i64.wrap ((num xs 3 : Nat) : Int) = (num xs 3 : Nat) := w64 (by have := num_lt hx 3; omega)
  have KC := Lib.hid (fun X => counted_any fm false 0 2 X)
  clear hs q1 ex d1
  by_cases hc1 : c = 1
  · obtain ⟨Ar, nr, cr, hr2, hnr, hr⟩ : ∃ Ar nr cr, Value.slice (some (⟨b, o, none⟩ : Addr)) (n - 1) 0 = .slice Ar nr cr ∧ nr ≤ cr ∧ Sl w w.heap.size Ar nr (bs (xs.drop 1)) := by
      rw [if_pos hc1] at hd
      exact ⟨_, _, _, rfl, by omega, hd⟩
    subst hc1
    have HR2 := Lib.hid hr2
    clear hd hc hr2
    go_enter Try.func43, Try.ntmps43
    go_wp2_with fail
    go_region_held3 (fun w' => Below w.heap.size w w' ∧ w'.cell? ⟨b, o, none⟩ = some (.int .u8 (x : Nat)))
      (exact keepB hbl g1 (by repeat (first | exact Below.refl _ _ | assumption | apply Below.new | apply Below.drew | refine Below.setCell ?_ (by simp; omega) _)))
      (fail)
    all_goals rw [HR2.out]
    all_goals (
      first
        | (
          obtain ⟨W0, hW0⟩ : ∃ W0, W0 = ((((w.alloc (.cells #[.int .i64 fm, .bool false, .int .u8 0, .int .u8 2] 91)).alloc (.cells #[.int .u8 0, .int .u16 0, .int .u16 0, .int .u16 0, .slice none 0 0, .slice none 0 0] 31)).alloc (.cells #[.int .u8 (x : Nat), .int .u16 0, .int .u16 0, .int .u16 0, .slice none 0 0, .slice none 0 0] 31)).alloc (.cells #[.slice Ar nr cr] 118)).drew := ⟨_, rfl⟩
          rw [← hW0]
          have S : St w W0 (w.heap.size + 1 + 1) (w.heap.size + 1 + 1 + 1) #[.int .i64 fm, .bool false, .int .u8 0, .int .u8 2] #[.int .u8 0, .int .u16 0, .int .u16 0, .int .u16 0, .slice none 0 0, .slice none 0 0] #[.int .u8 (x : Nat), .int .u16 0, .int .u16 0, .int .u16 0, .slice none 0 0, .slice none 0 0] (xs.drop 1) := by
            rw [hW0]
            exact St_new0 w _ _ _ _ _ _ _ hnr hr
          clear hW0
          obtain ⟨k6, ek6⟩ : ∃ k, k = w.heap.size + 1 + 1 + 1 := ⟨_, rfl⟩
          rw [← ek6] at S ⊢
          obtain ⟨k5, ek5⟩ : ∃ k, k = w.heap.size + 1 + 1 := ⟨_, rfl⟩
          rw [← ek5] at S ⊢)
        | (
          obtain ⟨W0, hW0⟩ : ∃ W0, W0 = ((((w.alloc (.cells #[.int .i64 fm, .bool false, .int .u8 0, .int .u8 2] 91)).alloc (.cells #[.int .u8 0, .int .u16 0, .int .u16 0, .int .u16 0, .slice none 0 0, .slice none 0 0] 31)).alloc (.cells #[.slice Ar nr cr] 118)).alloc (.cells #[.int .u8 (x : Nat), .int .u16 0, .int .u16 0, .int .u16 0, .slice none 0 0, .slice none 0 0] 31)).drew := ⟨_, rfl⟩
          rw [← hW0]
          have S : St w W0 (w.heap.size + 1 + 1 + 1) (w.heap.size + 1 + 1) #[.int .i64 fm, .bool false, .int .u8 0, .int .u8 2] #[.int .u8 0, .int .u16 0, .int .u16 0, .int .u16 0, .slice none 0 0, .slice none 0 0] #[.int .u8 (x : Nat), .int .u16 0, .int .u16 0, .int .u16 0, .slice none 0 0, .slice none 0 0] (xs.drop 1) := by
            rw [hW0]
            exact St_new1 w _ _ _ _ _ _ _ hnr hr
          clear hW0
          obtain ⟨k5, ek5⟩ : ∃ k, k = w.heap.size + 1 + 1 + 1 := ⟨_, rfl⟩
          rw [← ek5] at S ⊢
          obtain ⟨k6, ek6⟩ : ∃ k, k = w.heap.size + 1 + 1 := ⟨_, rfl⟩
          rw [← ek6] at S ⊢)
      have n1 : ¬ w.heap.size = k5 := by omega
      have n2 : ¬ k5 = w.heap.size := by omega
      have n3 : ¬ k5 = k6 := by omega
      have n4 : ¬ k6 = k5 := by omega
      have n5 : ¬ w.heap.size = k6 := by omega
      have n6 : w.heap.size + 1 < k5 := by omega
      clear ek5 ek6
      obtain ⟨c0, c1, c2, c3, c4, c5⟩ := row6 S.ra
      obtain ⟨f0, f1, f2, f3, f4, f5⟩ := free6 S.ra
      obtain ⟨p0, p1, p2, p3⟩ := row4 S.rf
      go_wp2_with fail
      refine (numberAt (i := 1) (xs := xs) S hx).mono ?_
      rintro e W1 ⟨rfl, S1⟩
      have S := S1
      clear S1
      obtain ⟨c0, c1, c2, c3, c4, c5⟩ := row6 S.ra
      obtain ⟨f0, f1, f2, f3, f4, f5⟩ := free6 S.ra
      obtain ⟨p0, p1, p2, p3⟩ := row4 S.rf
      go_wp2_with fail
      have S := S.set 1 (.int .u16 ((num xs 1 : Nat) : Int))
      refine (numberAt (i := 3) (xs := xs) S hx).mono ?_
      rintro e W1 ⟨rfl, S1⟩
      have S := S1
      clear S1
      obtain ⟨c0, c1, c2, c3, c4, c5⟩ := row6 S.ra
      obtain ⟨f0, f1, f2, f3, f4, f5⟩ := free6 S.ra
      obtain ⟨p0, p1, p2, p3⟩ := row4 S.rf
      go_wp2_with fail
      have S := S.set 2 (.int .u16 ((num xs 3 : Nat) : Int))
      refine (KC.out _).mono ?_
      rintro e W2 ⟨rfl, b2⟩
      have S := S.keep b2
      clear b2
      obtain ⟨c0, c1, c2, c3, c4, c5⟩ := row6 S.ra
      obtain ⟨f0, f1, f2, f3, f4, f5⟩ := free6 S.ra
      obtain ⟨p0, p1, p2, p3⟩ := row4 S.rf
      go_wp2_with fail
      refine (nextAt (i := 5) (xs := xs) S).mono ?_
      rintro e W3 ⟨rfl, S1⟩
      have S := S1
      clear S1
      obtain ⟨c0, c1, c2, c3, c4, c5⟩ := row6 S.ra
      obtain ⟨f0, f1, f2, f3, f4, f5⟩ := free6 S.ra
      obtain ⟨p0, p1, p2, p3⟩ := row4 S.rf
      go_wp2_with fail
      refine (numbersAt (i := 6) (xs := xs) S hx HL.out).mono ?_
      rintro e W1 ⟨Aw, nw, cw, rfl, SW, oW, hw, S1⟩
      have hk5 := row_lt S.ra
      have hkz := row_lt S.rz
      have S := S1
      clear S1
      obtain ⟨c0, c1, c2, c3, c4, c5⟩ := row6 S.ra
      obtain ⟨f0, f1, f2, f3, f4, f5⟩ := free6 S.ra
      obtain ⟨p0, p1, p2, p3⟩ := row4 S.rf
      have SF := S.set 4 (.slice Aw nw cw)
      have ra : _ = some (Obj.cells #[.int .u8 (x : Nat), .int .u16 ((num xs 1 : Nat) : Int), .int .u16 (((num xs 3 : Nat) : Int)), .int .u16 (0), .slice Aw nw cw, .slice none 0 0] 31 (0, 0)) := SF.ra
      have rz := SF.rz
      have hbel := SF.bel
      clear S SF
      go_wp2_with (first
        | (refine wpList_load_row rfl 31 (.tmp 5) rfl k5 rfl 31 #[.int .u8 (x : Nat), .int .u16 ((num xs 1 : Nat) : Int), .int .u16 (((num xs 3 : Nat) : Int)), .int .u16 (0), .slice Aw nw cw, .slice none 0 0] (0, 0) _ ra Try.underlying31 rfl (by kernel_rfl) ?_)
        | (refine wpList_store_grown rfl 31 (.tmp 4) _ rfl (w.heap.size + 1) #[.int .u8 (x : Nat), .int .u16 ((num xs 1 : Nat) : Int), .int .u16 (((num xs 3 : Nat) : Int)), .int .u16 (0), .slice Aw nw cw, .slice none 0 0] rfl rfl 31 _ rz (by kernel_rfl) rfl (by simp [Value.oneCell']) ?_; intro W9 h9 g9 s9))
      refine bodyPost_row rfl (w.heap.size + 1) 31 #[.int .u8 (x : Nat), .int .u16 ((num xs 1 : Nat) : Int), .int .u16 (((num xs 3 : Nat) : Int)), .int .u16 (0), .slice Aw nw cw, .slice none 0 0] (0, 0) _ rfl h9 Try.underlying31 rfl (by kernel_rfl) rfl ?_
      refine ⟨Aw, nw, cw, none, 0, 0, rfl, ?_, ?_, hw, Nat.le_refl _, (fun b o h => by have := oW b o h; omega), (fun _ _ h => by cases h), hbel.grown g9 hbel.size (fun k hk => by injection hk with hk; omega)⟩
      · exact (SW.grown (grown_setCell _ k5 4 _) (fun b o h e => by have := oW b o h; injection e with e; omega)).grown g9 (fun b o h e => by have := oW b o h; injection e with e; omega)
      · exact Sl.empty _ _ _)
  · obtain ⟨Ar, nr, cr, hr2, hnr, hr⟩ : ∃ Ar nr cr, Value.slice (some (⟨b, o + 1, none⟩ : Addr)) (n - 1) (c - 1) = .slice Ar nr cr ∧ nr ≤ cr ∧ Sl w w.heap.size Ar nr (bs (xs.drop 1)) := by
      rw [if_neg hc1] at hd
      exact ⟨_, _, _, rfl, by omega, hd⟩
    have HR2 := Lib.hid hr2
    clear hd hc hr2
    go_enter Try.func43, Try.ntmps43
    go_wp2_with fail
    go_region_held3 (fun w' => Below w.heap.size w w' ∧ w'.cell? ⟨b, o, none⟩ = some (.int .u8 (x : Nat)))
      (exact keepB hbl g1 (by repeat (first | exact Below.refl _ _ | assumption | apply Below.new | apply Below.drew | refine Below.setCell ?_ (by simp; omega) _)))
      (fail)
    all_goals rw [HR2.out]
    all_goals (
      first
        | (
          obtain ⟨W0, hW0⟩ : ∃ W0, W0 = ((((w.alloc (.cells #[.int .i64 fm, .bool false, .int .u8 0, .int .u8 2] 91)).alloc (.cells #[.int .u8 0, .int .u16 0, .int .u16 0, .int .u16 0, .slice none 0 0, .slice none 0 0] 31)).alloc (.cells #[.int .u8 (x : Nat), .int .u16 0, .int .u16 0, .int .u16 0, .slice none 0 0, .slice none 0 0] 31)).alloc (.cells #[.slice Ar nr cr] 118)).drew := ⟨_, rfl⟩
          rw [← hW0]
          have S : St w W0 (w.heap.size + 1 + 1) (w.heap.size + 1 + 1 + 1) #[.int .i64 fm, .bool false, .int .u8 0, .int .u8 2] #[.int .u8 0, .int .u16 0, .int .u16 0, .int .u16 0, .slice none 0 0, .slice none 0 0] #[.int .u8 (x : Nat), .int .u16 0, .int .u16 0, .int .u16 0, .slice none 0 0, .slice none 0 0] (xs.drop 1) := by
            rw [hW0]
            exact St_new0 w _ _ _ _ _ _ _ hnr hr
          clear hW0
          obtain ⟨k6, ek6⟩ : ∃ k, k = w.heap.size + 1 + 1 + 1 := ⟨_, rfl⟩
          rw [← ek6] at S ⊢
          obtain ⟨k5, ek5⟩ : ∃ k, k = w.heap.size + 1 + 1 := ⟨_, rfl⟩
          rw [← ek5] at S ⊢)
        | (
          obtain ⟨W0, hW0⟩ : ∃ W0, W0 = ((((w.alloc (.cells #[.int .i64 fm, .bool false, .int .u8 0, .int .u8 2] 91)).alloc (.cells #[.int .u8 0, .int .u16 0, .int .u16 0, .int .u16 0, .slice none 0 0, .slice none 0 0] 31)).alloc (.cells #[.slice Ar nr cr] 118)).alloc (.cells #[.int .u8 (x : Nat), .int .u16 0, .int .u16 0, .int .u16 0, .slice none 0 0, .slice none 0 0] 31)).drew := ⟨_, rfl⟩
          rw [← hW0]
          have S : St w W0 (w.heap.size + 1 + 1 + 1) (w.heap.size + 1 + 1) #[.int .i64 fm, .bool false, .int .u8 0, .int .u8 2] #[.int .u8 0, .int .u16 0, .int .u16 0, .int .u16 0, .slice none 0 0, .slice none 0 0] #[.int .u8 (x : Nat), .int .u16 0, .int .u16 0, .int .u16 0, .slice none 0 0, .slice none 0 0] (xs.drop 1) := by
            rw [hW0]
            exact St_new1 w _ _ _ _ _ _ _ hnr hr
          clear hW0
          obtain ⟨k5, ek5⟩ : ∃ k, k = w.heap.size + 1 + 1 + 1 := ⟨_, rfl⟩
          rw [← ek5] at S ⊢
          obtain ⟨k6, ek6⟩ : ∃ k, k = w.heap.size + 1 + 1 := ⟨_, rfl⟩
          rw [← ek6] at S ⊢)
      have n1 : ¬ w.heap.size = k5 := by omega
      have n2 : ¬ k5 = w.heap.size := by omega
      have n3 : ¬ k5 = k6 := by omega
      have n4 : ¬ k6 = k5 := by omega
      have n5 : ¬ w.heap.size = k6 := by omega
      have n6 : w.heap.size + 1 < k5 := by omega
      clear ek5 ek6
      obtain ⟨c0, c1, c2, c3, c4, c5⟩ := row6 S.ra
      obtain ⟨f0, f1, f2, f3, f4, f5⟩ := free6 S.ra
      obtain ⟨p0, p1, p2, p3⟩ := row4 S.rf
      go_wp2_with fail
      refine (numberAt (i := 1) (xs := xs) S hx).mono ?_
      rintro e W1 ⟨rfl, S1⟩
      have S := S1
      clear S1
      obtain ⟨c0, c1, c2, c3, c4, c5⟩ := row6 S.ra
      obtain ⟨f0, f1, f2, f3, f4, f5⟩ := free6 S.ra
      obtain ⟨p0, p1, p2, p3⟩ := row4 S.rf
      go_wp2_with fail
      have S := S.set 1 (.int .u16 ((num xs 1 : Nat) : Int))
      refine (numberAt (i := 3) (xs := xs) S hx).mono ?_
      rintro e W1 ⟨rfl, S1⟩
      have S := S1
      clear S1
      obtain ⟨c0, c1, c2, c3, c4, c5⟩ := row6 S.ra
      obtain ⟨f0, f1, f2, f3, f4, f5⟩ := free6 S.ra
      obtain ⟨p0, p1, p2, p3⟩ := row4 S.rf
      go_wp2_with fail
      have S := S.set 2 (.int .u16 ((num xs 3 : Nat) : Int))
      refine (KC.out _).mono ?_
      rintro e W2 ⟨rfl, b2⟩
      have S := S.keep b2
      clear b2
      obtain ⟨c0, c1, c2, c3, c4, c5⟩ := row6 S.ra
      obtain ⟨f0, f1, f2, f3, f4, f5⟩ := free6 S.ra
      obtain ⟨p0, p1, p2, p3⟩ := row4 S.rf
      go_wp2_with fail
      refine (nextAt (i := 5) (xs := xs) S).mono ?_
      rintro e W3 ⟨rfl, S1⟩
      have S := S1
      clear S1
      obtain ⟨c0, c1, c2, c3, c4, c5⟩ := row6 S.ra
      obtain ⟨f0, f1, f2, f3, f4, f5⟩ := free6 S.ra
      obtain ⟨p0, p1, p2, p3⟩ := row4 S.rf
      go_wp2_with fail
      refine (numbersAt (i := 6) (xs := xs) S hx HL.out).mono ?_
      rintro e W1 ⟨Aw, nw, cw, rfl, SW, oW, hw, S1⟩
      have hk5 := row_lt S.ra
      have hkz := row_lt S.rz
      have S := S1
      clear S1
      obtain ⟨c0, c1, c2, c3, c4, c5⟩ := row6 S.ra
      obtain ⟨f0, f1, f2, f3, f4, f5⟩ := free6 S.ra
      obtain ⟨p0, p1, p2, p3⟩ := row4 S.rf
      have SF := S.set 4 (.slice Aw nw cw)
      have ra : _ = some (Obj.cells #[.int .u8 (x : Nat), .int .u16 ((num xs 1 : Nat) : Int), .int .u16 (((num xs 3 : Nat) : Int)), .int .u16 (0), .slice Aw nw cw, .slice none 0 0] 31 (0, 0)) := SF.ra
      have rz := SF.rz
      have hbel := SF.bel
      clear S SF
      go_wp2_with (first
        | (refine wpList_load_row rfl 31 (.tmp 5) rfl k5 rfl 31 #[.int .u8 (x : Nat), .int .u16 ((num xs 1 : Nat) : Int), .int .u16 (((num xs 3 : Nat) : Int)), .int .u16 (0), .slice Aw nw cw, .slice none 0 0] (0, 0) _ ra Try.underlying31 rfl (by kernel_rfl) ?_)
        | (refine wpList_store_grown rfl 31 (.tmp 4) _ rfl (w.heap.size + 1) #[.int .u8 (x : Nat), .int .u16 ((num xs 1 : Nat) : Int), .int .u16 (((num xs 3 : Nat) : Int)), .int .u16 (0), .slice Aw nw cw, .slice none 0 0] rfl rfl 31 _ rz (by kernel_rfl) rfl (by simp [Value.oneCell']) ?_; intro W9 h9 g9 s9))
      refine bodyPost_row rfl (w.heap.size + 1) 31 #[.int .u8 (x : Nat), .int .u16 ((num xs 1 : Nat) : Int), .int .u16 (((num xs 3 : Nat) : Int)), .int .u16 (0), .slice Aw nw cw, .slice none 0 0] (0, 0) _ rfl h9 Try.underlying31 rfl (by kernel_rfl) rfl ?_
      refine ⟨Aw, nw, cw, none, 0, 0, rfl, ?_, ?_, hw, Nat.le_refl _, (fun b o h => by have := oW b o h; omega), (fun _ _ h => by cases h), hbel.grown g9 hbel.size (fun k hk => by injection hk with hk; omega)⟩
      · exact (SW.grown (grown_setCell _ k5 4 _) (fun b o h e => by have := oW b o h; injection e with e; omega)).grown g9 (fun b o h e => by have := oW b o h; injection e with e; omega)
      · exact Sl.empty _ _ _)
end Go.Proofs.Ytiibopdnlmnkmaa.AskW
/- The walk of fields.read, shape 6. -/
set_option linter.unusedVariables false
set_option linter.unusedSimpArgs false
namespace Go.Proofs.Ytiibopdnlmnkmaa.AskW
open Go.RowKit Go.Proofs.Ytiibopdnlmnkmaa Go.Proofs.Ytiibopdnlmnkmaa.Ask
set_option maxHeartbeats 16000000 in
theorem read_6 (fm : Nat) (hP : (0 : Int) < fm) (A : Option Addr) (n c : Nat) (xs : List Nat) (w : World) (hs : Sl w w.heap.size A n (bs xs)) (hx : Bytes xs) (hn : 1 ≤ n) (hn2 : n ≤ 300) (hc : n ≤ c) :
    Calls Try.prog 43 #[.agg #[.int .i64 fm, .bool true, .int .u8 0, .int .u8 3], .slice A n c] w (RetReq w ⟨xs[0]?.getD 0, num xs 1, num xs 3, num xs 5, nums (xs.drop 10), []⟩) := by
  have q1 : xs.length = n := by simpa using hs.len
  have hd := hs.drop (k := 1) (cap := c) (by omega) hc
  rw [bs_drop] at hd
  obtain ⟨b, o, rfl, hbl, d1⟩ := hs.2 (by omega)
  have g1 : w.cell? ⟨b, o, none⟩ = _ := (d1 0 (by omega)).trans (bs_get (by omega))
  have z1 : (0 : Int) < (n : Int) := by omega
  have z1n : 0 < n := by omega
  have z1c : (0 : Int) ≤ (n : Int) := by omega
  have z3 : (n : Int) ≤ (c : Int) := by omega
  have z4 : (1 : Int) ≤ (c : Int) := by omega
  have z2 : (1 : Int) ≤ (n : Int) := by omega
  obtain ⟨x, ex⟩ : ∃ x, x = xs[0]?.getD 0 := ⟨_, rfl⟩
  rw [← ex] at g1
  rw [← ex]
  have HL := Lib.hid (show xs.length ≤ 1000 by omega)
  have hw3 : IntKind.i64.wrap ((num xs 3 : Nat) : Int) = (num xs 3 : Nat) := w64 (by have := num_lt hx 3; omega)
  have KC := Lib.hid (fun X => counted_any fm true 0 3 X)
  clear hs q1 ex d1
  by_cases hc1 : c = 1
  · obtain ⟨Ar, nr, cr, hr2, hnr, hr⟩ : ∃ Ar nr cr, Value.slice (some (⟨b, o, none⟩ : Addr)) (n - 1) 0 = .slice Ar nr cr ∧ nr ≤ cr ∧ Sl w w.heap.size Ar nr (bs (xs.drop 1)) := by
      rw [if_pos hc1] at hd
      exact ⟨_, _, _, rfl, by omega, hd⟩
    subst hc1
    have HR2 := Lib.hid hr2
    clear hd hc hr2
    go_enter Try.func43, Try.ntmps43
    go_wp2_with fail
    go_region_held3 (fun w' => Below w.heap.size w w' ∧ w'.cell? ⟨b, o, none⟩ = some (.int .u8 (x : Nat)))
      (exact keepB hbl g1 (by repeat (first | exact Below.refl _ _ | assumption | apply Below.new | apply Below.drew | refine Below.setCell ?_ (by simp; omega) _)))
      (fail)
    all_goals rw [HR2.out]
    all_goals (
      first
        | (
          obtain ⟨W0, hW0⟩ : ∃ W0, W0 = ((((w.alloc (.cells #[.int .i64 fm, .bool true, .int .u8 0, .int .u8 3] 91)).alloc (.cells #[.int .u8 0, .int .u16 0, .int .u16 0, .int .u16 0, .slice none 0 0, .slice none 0 0] 31)).alloc (.cells #[.int .u8 (x : Nat), .int .u16 0, .int .u16 0, .int .u16 0, .slice none 0 0, .slice none 0 0] 31)).alloc (.cells #[.slice Ar nr cr] 118)).drew := ⟨_, rfl⟩
          rw [← hW0]
          have S : St w W0 (w.heap.size + 1 + 1) (w.heap.size + 1 + 1 + 1) #[.int .i64 fm, .bool true, .int .u8 0, .int .u8 3] #[.int .u8 0, .int .u16 0, .int .u16 0, .int .u16 0, .slice none 0 0, .slice none 0 0] #[.int .u8 (x : Nat), .int .u16 0, .int .u16 0, .int .u16 0, .slice none 0 0, .slice none 0 0] (xs.drop 1) := by
            rw [hW0]
            exact St_new0 w _ _ _ _ _ _ _ hnr hr
          clear hW0
          obtain ⟨k6, ek6⟩ : ∃ k, k = w.heap.size + 1 + 1 + 1 := ⟨_, rfl⟩
          rw [← ek6] at S ⊢
          obtain ⟨k5, ek5⟩ : ∃ k, k = w.heap.size + 1 + 1 := ⟨_, rfl⟩
          rw [← ek5] at S ⊢)
        | (
          obtain ⟨W0, hW0⟩ : ∃ W0, W0 = ((((w.alloc (.cells #[.int .i64 fm, .bool true, .int .u8 0, .int .u8 3] 91)).alloc (.cells #[.int .u8 0, .int .u16 0, .int .u16 0, .int .u16 0, .slice none 0 0, .slice none 0 0] 31)).alloc (.cells #[.slice Ar nr cr] 118)).alloc (.cells #[.int .u8 (x : Nat), .int .u16 0, .int .u16 0, .int .u16 0, .slice none 0 0, .slice none 0 0] 31)).drew := ⟨_, rfl⟩
          rw [← hW0]
          have S : St w W0 (w.heap.size + 1 + 1 + 1) (w.heap.size + 1 + 1) #[.int .i64 fm, .bool true, .int .u8 0, .int .u8 3] #[.int .u8 0, .int .u16 0, .int .u16 0, .int .u16 0, .slice none 0 0, .slice none 0 0] #[.int .u8 (x : Nat), .int .u16 0, .int .u16 0, .int .u16 0, .slice none 0 0, .slice none 0 0] (xs.drop 1) := by
            rw [hW0]
            exact St_new1 w _ _ _ _ _ _ _ hnr hr
          clear hW0
          obtain ⟨k5, ek5⟩ : ∃ k, k = w.heap.size + 1 + 1 + 1 := ⟨_, rfl⟩
          rw [← ek5] at S ⊢
          obtain ⟨k6, ek6⟩ : ∃ k, k = w.heap.size + 1 + 1 := ⟨_, rfl⟩
          rw [← ek6] at S ⊢)
      have n1 : ¬ w.heap.size = k5 := by omega
      have n2 : ¬ k5 = w.heap.size := by omega
      have n3 : ¬ k5 = k6 := by omega
      have n4 : ¬ k6 = k5 := by omega
      have n5 : ¬ w.heap.size = k6 := by omega
      have n6 : w.heap.size + 1 < k5 := by omega
      clear ek5 ek6
      obtain ⟨c0, c1, c2, c3, c4, c5⟩ := row6 S.ra
      obtain ⟨f0, f1, f2, f3, f4, f5⟩ := free6 S.ra
      obtain ⟨p0, p1, p2, p3⟩ := row4 S.rf
      go_wp2_with fail
      refine (numberAt (i := 1) (xs := xs) S hx).mono ?_
      rintro e W1 ⟨rfl, S1⟩
      have S := S1
      clear S1
      obtain ⟨c0, c1, c2, c3, c4, c5⟩ := row6 S.ra
      obtain ⟨f0, f1, f2, f3, f4, f5⟩ := free6 S.ra
      obtain ⟨p0, p1, p2, p3⟩ := row4 S.rf
      go_wp2_with fail
      have S := S.set 1 (.int .u16 ((num xs 1 : Nat) : Int))
      refine (numberAt (i := 3) (xs := xs) S hx).mono ?_
      rintro e W1 ⟨rfl, S1⟩
      have S := S1
      clear S1
      obtain ⟨c0, c1, c2, c3, c4, c5⟩ := row6 S.ra
      obtain ⟨f0, f1, f2, f3, f4, f5⟩ := free6 S.ra
      obtain ⟨p0, p1, p2, p3⟩ := row4 S.rf
      go_wp2_with fail
      have S := S.set 2 (.int .u16 ((num xs 3 : Nat) : Int))
      refine (numberAt (i := 5) (xs := xs) S hx).mono ?_
      rintro e W1 ⟨rfl, S1⟩
      have S := S1
      clear S1
      obtain ⟨c0, c1, c2, c3, c4, c5⟩ := row6 S.ra
      obtain ⟨f0, f1, f2, f3, f4, f5⟩ := free6 S.ra
      obtain ⟨p0, p1, p2, p3⟩ := row4 S.rf
      go_wp2_with fail
      have S := S.set 3 (.int .u16 ((num xs 5 : Nat) : Int))
      refine (numberAt (i := 7) (xs := xs) S hx).mono ?_
      rintro e W1 ⟨rfl, S1⟩
      have S := S1
      clear S1
      obtain ⟨c0, c1, c2, c3, c4, c5⟩ := row6 S.ra
      obtain ⟨f0, f1, f2, f3, f4, f5⟩ := free6 S.ra
      obtain ⟨p0, p1, p2, p3⟩ := row4 S.rf
      go_wp2_with fail
      refine (KC.out _).mono ?_
      rintro e W2 ⟨rfl, b2⟩
      have S := S.keep b2
      clear b2
      obtain ⟨c0, c1, c2, c3, c4, c5⟩ := row6 S.ra
      obtain ⟨f0, f1, f2, f3, f4, f5⟩ := free6 S.ra
      obtain ⟨p0, p1, p2, p3⟩ := row4 S.rf
      go_wp2_with fail
      refine (nextAt (i := 9) (xs := xs) S).mono ?_
      rintro e W3 ⟨rfl, S1⟩
      have S := S1
      clear S1
      obtain ⟨c0, c1, c2, c3, c4, c5⟩ := row6 S.ra
      obtain ⟨f0, f1, f2, f3, f4, f5⟩ := free6 S.ra
      obtain ⟨p0, p1, p2, p3⟩ := row4 S.rf
      go_wp2_with fail
      refine (numbersAt (i := 10) (xs := xs) S hx HL.out).mono ?_
      rintro e W1 ⟨Aw, nw, cw, rfl, SW, oW, hw, S1⟩
      have hk5 := row_lt S.ra
      have hkz := row_lt S.rz
      have S := S1
      clear S1
      obtain ⟨c0, c1, c2, c3, c4, c5⟩ := row6 S.ra
      obtain ⟨f0, f1, f2, f3, f4, f5⟩ := free6 S.ra
      obtain ⟨p0, p1, p2, p3⟩ := row4 S.rf
      have SF := S.set 4 (.slice Aw nw cw)
      have ra : _ = some (Obj.cells #[.int .u8 (x : Nat), .int .u16 ((num xs 1 : Nat) : Int), .int .u16 (((num xs 3 : Nat) : Int)), .int .u16 (((num xs 5 : Nat) : Int)), .slice Aw nw cw, .slice none 0 0] 31 (0, 0)) := SF.ra
      have rz := SF.rz
      have hbel := SF.bel
      clear S SF
      go_wp2_with (first
        | (refine wpList_load_row rfl 31 (.tmp 5) rfl k5 rfl 31 #[.int .u8 (x : Nat), .int .u16 ((num xs 1 : Nat) : Int), .int .u16 (((num xs 3 : Nat) : Int)), .int .u16 (((num xs 5 : Nat) : Int)), .slice Aw nw cw, .slice none 0 0] (0, 0) _ ra Try.underlying31 rfl (by kernel_rfl) ?_)
        | (refine wpList_store_grown rfl 31 (.tmp 4) _ rfl (w.heap.size + 1) #[.int .u8 (x : Nat), .int .u16 ((num xs 1 : Nat) : Int), .int .u16 (((num xs 3 : Nat) : Int)), .int .u16 (((num xs 5 : Nat) : Int)), .slice Aw nw cw, .slice none 0 0] rfl rfl 31 _ rz (by kernel_rfl) rfl (by simp [Value.oneCell']) ?_; intro W9 h9 g9 s9))
      refine bodyPost_row rfl (w.heap.size + 1) 31 #[.int .u8 (x : Nat), .int .u16 ((num xs 1 : Nat) : Int), .int .u16 (((num xs 3 : Nat) : Int)), .int .u16 (((num xs 5 : Nat) : Int)), .slice Aw nw cw, .slice none 0 0] (0, 0) _ rfl h9 Try.underlying31 rfl (by kernel_rfl) rfl ?_
      refine ⟨Aw, nw, cw, none, 0, 0, rfl, ?_, ?_, hw, Nat.le_refl _, (fun b o h => by have := oW b o h; omega), (fun _ _ h => by cases h), hbel.grown g9 hbel.size (fun k hk => by injection hk with hk; omega)⟩
      · exact (SW.grown (grown_setCell _ k5 4 _) (fun b o h e => by have := oW b o h; injection e with e; omega)).grown g9 (fun b o h e => by have := oW b o h; injection e with e; omega)
      · exact Sl.empty _ _ _)
  · obtain ⟨Ar, nr, cr, hr2, hnr, hr⟩ : ∃ Ar nr cr, Value.slice (some (⟨b, o + 1, none⟩ : Addr)) (n - 1) (c - 1) = .slice Ar nr cr ∧ nr ≤ cr ∧ Sl w w.heap.size Ar nr (bs (xs.drop 1)) := by
      rw [if_neg hc1] at hd
      exact ⟨_, _, _, rfl, by omega, hd⟩
    have HR2 := Lib.hid hr2
    clear hd hc hr2
    go_enter Try.func43, Try.ntmps43
    go_wp2_with fail
    go_region_held3 (fun w' => Below w.heap.size w w' ∧ w'.cell? ⟨b, o, none⟩ = some (.int .u8 (x : Nat)))
      (exact keepB hbl g1 (by repeat (first | exact Below.refl _ _ | assumption | apply Below.new | apply Below.drew | refine Below.setCell ?_ (by simp; omega) _)))
      (fail)
    all_goals rw [HR2.out]
    all_goals (
      first
        | (
          obtain ⟨W0, hW0⟩ : ∃ W0, W0 = ((((w.alloc (.cells #[.int .i64 fm, .bool true, .int .u8 0, .int .u8 3] 91)).alloc (.cells #[.int .u8 0, .int .u16 0, .int .u16 0, .int .u16 0, .slice none 0 0, .slice none 0 0] 31)).alloc (.cells #[.int .u8 (x : Nat), .int .u16 0, .int .u16 0, .int .u16 0, .slice none 0 0, .slice none 0 0] 31)).alloc (.cells #[.slice Ar nr cr] 118)).drew := ⟨_, rfl⟩
          rw [← hW0]
          have S : St w W0 (w.heap.size + 1 + 1) (w.heap.size + 1 + 1 + 1) #[.int .i64 fm, .bool true, .int .u8 0, .int .u8 3] #[.int .u8 0, .int .u16 0, .int .u16 0, .int .u16 0, .slice none 0 0, .slice none 0 0] #[.int .u8 (x : Nat), .int .u16 0, .int .u16 0, .int .u16 0, .slice none 0 0, .slice none 0 0] (xs.drop 1) := by
            rw [hW0]
            exact St_new0 w _ _ _ _ _ _ _ hnr hr
          clear hW0
          obtain ⟨k6, ek6⟩ : ∃ k, k = w.heap.size + 1 + 1 + 1 := ⟨_, rfl⟩
          rw [← ek6] at S ⊢
          obtain ⟨k5, ek5⟩ : ∃ k, k = w.heap.size + 1 + 1 := ⟨_, rfl⟩
          rw [← ek5] at S ⊢)
        | (
          obtain ⟨W0, hW0⟩ : ∃ W0, W0 = ((((w.alloc (.cells #[.int .i64 fm, .bool true, .int .u8 0, .int .u8 3] 91)).alloc (.cells #[.int .u8 0, .int .u16 0, .int .u16 0, .int .u16 0, .slice none 0 0, .slice none 0 0] 31)).alloc (.cells #[.slice Ar nr cr] 118)).alloc (.cells #[.int .u8 (x : Nat), .int .u16 0, .int .u16 0, .int .u16 0, .slice none 0 0, .slice none 0 0] 31)).drew := ⟨_, rfl⟩
          rw [← hW0]
          have S : St w W0 (w.heap.size + 1 + 1 + 1) (w.heap.size + 1 + 1) #[.int .i64 fm, .bool true, .int .u8 0, .int .u8 3] #[.int .u8 0, .int .u16 0, .int .u16 0, .int .u16 0, .slice none 0 0, .slice none 0 0] #[.int .u8 (x : Nat), .int .u16 0, .int .u16 0, .int .u16 0, .slice none 0 0, .slice none 0 0] (xs.drop 1) := by
            rw [hW0]
            exact St_new1 w _ _ _ _ _ _ _ hnr hr
          clear hW0
          obtain ⟨k5, ek5⟩ : ∃ k, k = w.heap.size + 1 + 1 + 1 := ⟨_, rfl⟩
          rw [← ek5] at S ⊢
          obtain ⟨k6, ek6⟩ : ∃ k, k = w.heap.size + 1 + 1 := ⟨_, rfl⟩
          rw [← ek6] at S ⊢)
      have n1 : ¬ w.heap.size = k5 := by omega
      have n2 : ¬ k5 = w.heap.size := by omega
      have n3 : ¬ k5 = k6 := by omega
      have n4 : ¬ k6 = k5 := by omega
      have n5 : ¬ w.heap.size = k6 := by omega
      have n6 : w.heap.size + 1 < k5 := by omega
      clear ek5 ek6
      obtain ⟨c0, c1, c2, c3, c4, c5⟩ := row6 S.ra
      obtain ⟨f0, f1, f2, f3, f4, f5⟩ := free6 S.ra
      obtain ⟨p0, p1, p2, p3⟩ := row4 S.rf
      go_wp2_with fail
      refine (numberAt (i := 1) (xs := xs) S hx).mono ?_
      rintro e W1 ⟨rfl, S1⟩
      have S := S1
      clear S1
      obtain ⟨c0, c1, c2, c3, c4, c5⟩ := row6 S.ra
      obtain ⟨f0, f1, f2, f3, f4, f5⟩ := free6 S.ra
      obtain ⟨p0, p1, p2, p3⟩ := row4 S.rf
      go_wp2_with fail
      have S := S.set 1 (.int .u16 ((num xs 1 : Nat) : Int))
      refine (numberAt (i := 3) (xs := xs) S hx).mono ?_
      rintro e W1 ⟨rfl, S1⟩
      have S := S1
      clear S1
      obtain ⟨c0, c1, c2, c3, c4, c5⟩ := row6 S.ra
      obtain ⟨f0, f1, f2, f3, f4, f5⟩ := free6 S.ra
      obtain ⟨p0, p1, p2, p3⟩ := row4 S.rf
      go_wp2_with fail
      have S := S.set 2 (.int .u16 ((num xs 3 : Nat) : Int))
      refine (numberAt (i := 5) (xs := xs) S hx).mono ?_
      rintro e W1 ⟨rfl, S1⟩
      have S := S1
      clear S1
      obtain ⟨c0, c1, c2, c3, c4, c5⟩ := row6 S.ra
      obtain ⟨f0, f1, f2, f3, f4, f5⟩ := free6 S.ra
      obtain ⟨p0, p1, p2, p3⟩ := row4 S.rf
      go_wp2_with fail
      have S := S.set 3 (.int .u16 ((num xs 5 : Nat) : Int))
      refine (numberAt (i := 7) (xs := xs) S hx).mono ?_
      rintro e W1 ⟨rfl, S1⟩
      have S := S1
      clear S1
      obtain ⟨c0, c1, c2, c3, c4, c5⟩ := row6 S.ra
      obtain ⟨f0, f1, f2, f3, f4, f5⟩ := free6 S.ra
      obtain ⟨p0, p1, p2, p3⟩ := row4 S.rf
      go_wp2_with fail
      refine (KC.out _).mono ?_
      rintro e W2 ⟨rfl, b2⟩
      have S := S.keep b2
      clear b2
      obtain ⟨c0, c1, c2, c3, c4, c5⟩ := row6 S.ra
      obtain ⟨f0, f1, f2, f3, f4, f5⟩ := free6 S.ra
      obtain ⟨p0, p1, p2, p3⟩ := row4 S.rf
      go_wp2_with fail
      refine (nextAt (i := 9) (xs := xs) S).mono ?_
      rintro e W3 ⟨rfl, S1⟩
      have S := S1
      clear S1
      obtain ⟨c0, c1, c2, c3, c4, c5⟩ := row6 S.ra
      obtain ⟨f0, f1, f2, f3, f4, f5⟩ := free6 S.ra
      obtain ⟨p0, p1, p2, p3⟩ := row4 S.rf
      go_wp2_with fail
      refine (numbersAt (i := 10) (xs := xs) S hx HL.out).mono ?_
      rintro e W1 ⟨Aw, nw, cw, rfl, SW, oW, hw, S1⟩
      have hk5 := row_lt S.ra
      have hkz := row_lt S.rz
      have S := S1
      clear S1
      obtain ⟨c0, c1, c2, c3, c4, c5⟩ := row6 S.ra
      obtain ⟨f0, f1, f2, f3, f4, f5⟩ := free6 S.ra
      obtain ⟨p0, p1, p2, p3⟩ := row4 S.rf
      have SF := S.set 4 (.slice Aw nw cw)
      have ra : _ = some (Obj.cells #[.int .u8 (x : Nat), .int .u16 ((num xs 1 : Nat) : Int), .int .u16 (((num xs 3 : Nat) : Int)), .int .u16 (((num xs 5 : Nat) : Int)), .slice Aw nw cw, .slice none 0 0] 31 (0, 0)) := SF.ra
      have rz := SF.rz
      have hbel := SF.bel
      clear S SF
      go_wp2_with (first
        | (refine wpList_load_row rfl 31 (.tmp 5) rfl k5 rfl 31 #[.int .u8 (x : Nat), .int .u16 ((num xs 1 : Nat) : Int), .int .u16 (((num xs 3 : Nat) : Int)), .int .u16 (((num xs 5 : Nat) : Int)), .slice Aw nw cw, .slice none 0 0] (0, 0) _ ra Try.underlying31 rfl (by kernel_rfl) ?_)
        | (refine wpList_store_grown rfl 31 (.tmp 4) _ rfl (w.heap.size + 1) #[.int .u8 (x : Nat), .int .u16 ((num xs 1 : Nat) : Int), .int .u16 (((num xs 3 : Nat) : Int)), .int .u16 (((num xs 5 : Nat) : Int)), .slice Aw nw cw, .slice none 0 0] rfl rfl 31 _ rz (by kernel_rfl) rfl (by simp [Value.oneCell']) ?_; intro W9 h9 g9 s9))
      refine bodyPost_row rfl (w.heap.size + 1) 31 #[.int .u8 (x : Nat), .int .u16 ((num xs 1 : Nat) : Int), .int .u16 (((num xs 3 : Nat) : Int)), .int .u16 (((num xs 5 : Nat) : Int)), .slice Aw nw cw, .slice none 0 0] (0, 0) _ rfl h9 Try.underlying31 rfl (by kernel_rfl) rfl ?_
      refine ⟨Aw, nw, cw, none, 0, 0, rfl, ?_, ?_, hw, Nat.le_refl _, (fun b o h => by have := oW b o h; omega), (fun _ _ h => by cases h), hbel.grown g9 hbel.size (fun k hk => by injection hk with hk; omega)⟩
      · exact (SW.grown (grown_setCell _ k5 4 _) (fun b o h e => by have := oW b o h; injection e with e; omega)).grown g9 (fun b o h e => by have := oW b o h; injection e with e; omega)
      · exact Sl.empty _ _ _)
end Go.Proofs.Ytiibopdnlmnkmaa.AskW
