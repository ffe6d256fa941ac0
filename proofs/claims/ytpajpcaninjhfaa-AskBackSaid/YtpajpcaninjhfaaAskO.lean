/- What is read of bytes: words for the walks of fields.read. -/
import Derived.Test.YtpajpcaninjhfaaAskM
import Derived.Deep.RegionHeld3
namespace Go.Proofs.Ytpajpcaninjhfaa.AskW
open Go.RowKit Go.Proofs.Ytpajpcaninjhfaa Go.Proofs.Ytpajpcaninjhfaa.Ask
/-- A request is handed back, in memory of its own or as it was. -/
def RetReq (w : World) (r : Req) (e : Ending) (w' : World) : Prop := ∃ Aw nw cw Ab nb cb, e = .returned (.agg #[.int .u8 r.f, .int .u16 r.at', .int .u16 r.many, .int .u16 r.to, .slice Aw nw cw, .slice Ab nb cb]) ∧
  Sl w' w'.heap.size Aw nw (ws r.words) ∧ Sl w' w'.heap.size Ab nb (bl r.bits) ∧ nw ≤ cw ∧ nb ≤ cb ∧ (∀ b o, Aw = some (⟨b, o, none⟩ : Addr) → w.heap.size ≤ b) ∧ (∀ b o, Ab = some (⟨b, o, none⟩ : Addr) → w.heap.size ≤ b) ∧ Below w.heap.size w w'
theorem keepB {w w' : World} {b o : Nat} {v : Value} (hbl : b < w.heap.size) (g : w.cell? ⟨b, o, none⟩ = some v) (h : Below w.heap.size w w') : Below w.heap.size w w' ∧ w'.cell? ⟨b, o, none⟩ = some v := ⟨h, (h.cell (p := ⟨b, o, none⟩) hbl).trans g⟩
/-- The world while a request is read: the fields at the first block, the result at the next, the request at k5, the bytes that are left at k6. -/
structure St (w W : World) (k5 k6 : Nat) (F Z cs : Array Value) (ys : List Nat) : Prop where
  bel : Below w.heap.size w W
  rf : W.heap[w.heap.size]? = some (.cells F 55 (0, 0))
  rz : W.heap[w.heap.size + 1]? = some (.cells Z 26 (0, 0))
  ra : W.heap[k5]? = some (.cells cs 26 (0, 0))
  rr : Rst W k6 w.heap.size ys
  ne : k5 ≠ k6
  h5 : w.heap.size + 2 ≤ k5
  h6 : w.heap.size + 2 ≤ k6
section
variable {w W W' : World} {k5 k6 i : Nat} {F Z cs : Array Value} {xs ys zs : List Nat}
theorem St.turn (S : St w W k5 k6 F Z cs ys) (g : W.grownBy W' (some k6)) (R : Rst W' k6 w.heap.size zs) : St w W' k5 k6 F Z cs zs :=
  ⟨S.bel.grown g S.bel.size (fun k hk => by injection hk with hk; have := S.h6; omega), g.row (by have := S.h6; omega) S.rf, g.row (by have := S.h6; omega) S.rz, g.row S.ne S.ra, R, S.ne, S.h5, S.h6⟩
theorem St.set (S : St w W k5 k6 F Z cs ys) (i : Nat) (v : Value) : St w (W.setCell ⟨k5, i, none⟩ v) k5 k6 F Z (cs.setIfInBounds i v) ys := by
  have g := grown_setCell W k5 i v
  have h5 := S.h5
  refine ⟨S.bel.setCell (by show _ ≤ k5; omega) v, g.row (by omega) S.rf, g.row (by omega) S.rz, heap_setCell_same W k5 i _ _ _ S.ra, ?_, S.ne, S.h5, S.h6⟩
  exact S.rr.keep g (by have := S.h6; omega) (fun e => by injection e with e; exact S.ne e) (fun r e => by injection e with e; omega)
theorem St.keep (S : St w W k5 k6 F Z cs ys) (b : Below W.heap.size W W') : St w W' k5 k6 F Z cs ys := by
  refine ⟨S.bel.call b, b.row (row_lt S.rf) S.rf, b.row (row_lt S.rz) S.rz, b.row (row_lt S.ra) S.ra, ?_, S.ne, S.h5, S.h6⟩
  obtain ⟨A, n, c, h, hs, hn⟩ := S.rr
  exact ⟨A, n, c, b.row (row_lt h) h, hs.keep (fun b' o hb => b.cell (p := ⟨b', o, none⟩) (Nat.lt_of_lt_of_le hb S.bel.size)), hn⟩
theorem num_drop (xs : List Nat) (i : Nat) : num (xs.drop i) 0 = num xs i := by simp [num, List.getElem?_drop]
theorem numberAt (S : St w W k5 k6 F Z cs (List.drop i xs)) (hx : Bytes xs) : Calls Try.prog 43 #[.pointer (some ⟨k6, 0, none⟩)] W fun e w' => e = .returned (.int .u16 ((num xs i : Nat) : Int)) ∧ St w w' k5 k6 F Z cs (xs.drop (i + 2)) := by
  refine (number_any k6 w.heap.size (xs.drop i) (hx.drop i) (by have := S.h6; omega) W S.rr).mono ?_
  rintro e w1 ⟨rfl, R, g⟩
  rw [num_drop]
  rw [List.drop_drop] at R
  exact ⟨rfl, S.turn g R⟩
theorem nextAt (S : St w W k5 k6 F Z cs (List.drop i xs)) : Calls Try.prog 44 #[.pointer (some ⟨k6, 0, none⟩)] W fun e w' => e = .returned (.int .u8 (((xs.drop i)[0]?.getD 0 : Nat) : Int)) ∧ St w w' k5 k6 F Z cs (xs.drop (i + 1)) := by
  refine (next_any k6 w.heap.size (xs.drop i) (by have := S.h6; omega) W S.rr).mono ?_
  rintro e w1 ⟨rfl, R, g⟩
  rw [List.drop_drop] at R
  exact ⟨rfl, S.turn g R⟩
theorem bitsAt (S : St w W k5 k6 F Z cs (List.drop i xs)) (hx : Bytes xs) (hlen : xs.length ≤ 1000) (n : Nat) : Calls Try.prog 45 #[.pointer (some ⟨k6, 0, none⟩), .int .i64 n] W fun e w' => ∃ A m c, e = .returned (.slice A m c) ∧ Sl w' w'.heap.size A m (bl ((unpack (xs.drop i)).take n)) ∧ (∀ b o, A = some (⟨b, o, none⟩ : Addr) → W.heap.size ≤ b) ∧ m ≤ c ∧ St w w' k5 k6 F Z cs (xs.drop i) := by
  refine (bits_any k6 w.heap.size (xs.drop i) (hx.drop i) (by simp; omega) (by have := S.h6; omega) W S.rr n).mono ?_
  rintro e w1 ⟨A, m, c, rfl, hs, hA, hm, b⟩
  exact ⟨A, m, c, rfl, hs, hA, hm, S.keep b⟩
theorem numbersAt (S : St w W k5 k6 F Z cs (List.drop i xs)) (hx : Bytes xs) (hlen : xs.length ≤ 1000) : Calls Try.prog 46 #[.pointer (some ⟨k6, 0, none⟩)] W fun e w' => ∃ A m c, e = .returned (.slice A m c) ∧ Sl w' w'.heap.size A m (ws (nums (xs.drop i))) ∧ (∀ b o, A = some (⟨b, o, none⟩ : Addr) → W.heap.size ≤ b) ∧ m ≤ c ∧ St w w' k5 k6 F Z cs [] := by
  refine (numbers_any w k6 w.heap.size (xs.drop i) (hx.drop i) (Nat.le_refl _) (by have := S.h6; omega) W S.bel S.rr (by simp; omega)).mono ?_
  rintro e w1 ⟨v, rfl, H, g, ho, R⟩
  obtain ⟨A, c, rfl, hc, hs, _⟩ := H.slice
  refine ⟨A, _, c, rfl, hs, fun b o h => ho b (by rw [h]; rfl), hc, S.turn g R⟩
theorem nat_bne (x : Nat) : ((x : Int) != 0) = (x != 0) := by rw [Bool.eq_iff_iff]; simp
theorem size2 (w : World) (o1 o2 : Obj) : ((w.alloc o1).alloc o2).heap.size = w.heap.size + 1 + 1 := by simp
theorem size3 (w : World) (o1 o2 o3 : Obj) : (((w.alloc o1).alloc o2).alloc o3).heap.size = w.heap.size + 1 + 1 + 1 := by simp
theorem St_new0 (w : World) (F Z X : Array Value) (Ar : Option Addr) (nr cr : Nat) (ys : List Nat) (hn : nr ≤ cr) (hr : Sl w w.heap.size Ar nr (bs ys)) :
    St w ((((w.alloc (.cells F 55)).alloc (.cells Z 26)).alloc (.cells X 26)).alloc (.cells #[.slice Ar nr cr] 68)).drew (w.heap.size + 1 + 1) (w.heap.size + 1 + 1 + 1) F Z X ys := by
  have b : Below w.heap.size w ((((w.alloc (.cells F 55)).alloc (.cells Z 26)).alloc (.cells X 26)).alloc (.cells #[.slice Ar nr cr] 68)).drew := ((((((Below.refl _ _).new _).new _).new _).new _)).drew
  have r3 := heap_alloc_new ((w.alloc (.cells F 55)).alloc (.cells Z 26)) (.cells X 26)
  have r4 := heap_alloc_new (((w.alloc (.cells F 55)).alloc (.cells Z 26)).alloc (.cells X 26)) (.cells #[.slice Ar nr cr] 68)
  rw [size2] at r3
  rw [size3] at r4
  exact ⟨b, row_alloc (row_alloc (row_alloc (heap_alloc_new w _) _) _) _, row_alloc (row_alloc (heap_alloc2_new w _ _) _) _, row_alloc r3 _, ⟨Ar, nr, cr, r4, hr.below b, hn⟩, by omega, by omega, by omega⟩
theorem St_new1 (w : World) (F Z X : Array Value) (Ar : Option Addr) (nr cr : Nat) (ys : List Nat) (hn : nr ≤ cr) (hr : Sl w w.heap.size Ar nr (bs ys)) :
    St w ((((w.alloc (.cells F 55)).alloc (.cells Z 26)).alloc (.cells #[.slice Ar nr cr] 68)).alloc (.cells X 26)).drew (w.heap.size + 1 + 1 + 1) (w.heap.size + 1 + 1) F Z X ys := by
  have b : Below w.heap.size w ((((w.alloc (.cells F 55)).alloc (.cells Z 26)).alloc (.cells #[.slice Ar nr cr] 68)).alloc (.cells X 26)).drew := ((((((Below.refl _ _).new _).new _).new _).new _)).drew
  have r3 := heap_alloc_new ((w.alloc (.cells F 55)).alloc (.cells Z 26)) (.cells #[.slice Ar nr cr] 68)
  have r4 := heap_alloc_new (((w.alloc (.cells F 55)).alloc (.cells Z 26)).alloc (.cells #[.slice Ar nr cr] 68)) (.cells X 26)
  rw [size2] at r3
  rw [size3] at r4
  exact ⟨b, row_alloc (row_alloc (row_alloc (heap_alloc_new w _) _) _) _, row_alloc (row_alloc (heap_alloc2_new w _ _) _) _, r4, ⟨Ar, nr, cr, row_alloc r3 _, hr.below b, hn⟩, by omega, by omega, by omega⟩
end
end Go.Proofs.Ytpajpcaninjhfaa.AskW
