/- The landed disk's Sync and Cut. -/
import Derived.Test.YtljiehnpknbohaaDkY
set_option linter.unusedVariables false
set_option linter.unusedSimpArgs false
namespace Go.Proofs.Ytljiehnpknbohaa.DkW
open Go.RowKit Go.Proofs.Ytljiehnpknbohaa Go.Proofs.Ytljiehnpknbohaa.Dk
section
variable {S : Nat → Prop} {w w1 w2 : World}
theorem Stays.alloc (h : Stays S w w1) (o : Obj) : Stays S w (w1.alloc o) := h.trans (Stays.of ((Below.refl _ _).alloc (Nat.le_refl _) o)) (fun k hk => Or.inl hk)
theorem Stays.drew (h : Stays S w w1) : Stays S w w1.drew := ⟨h.os, h.tape, h.output, h.size, h.rows⟩
theorem Stays.grown (h : Stays S w w1) {p : Nat} (g : w1.grownBy w2 (some p)) (hp : S p ∨ w.heap.size ≤ p) : Stays S w w2 :=
  ⟨g.os.trans h.os, g.tape.trans h.tape, g.output.trans h.output, Nat.le_trans h.size g.size, fun k hk hn => (g.block k (Nat.lt_of_lt_of_le hk h.size) (fun e => by
    injection e with e
    subst e
    rcases hp with hp | hp
    · exact hn hp
    · omega)).trans (h.rows k hk hn)⟩
theorem Stays.cell (h : Stays S w w1) {p i : Nat} (v : Value) (hp : S p ∨ w.heap.size ≤ p) : Stays S w (w1.setCell ⟨p, i, none⟩ v) := h.grown (grown_cell _ _ _ _) hp
end
/-- The block of a result that has a name. -/
def Res (w : World) (q : Nat) (x : Int) : Prop := w.heap[q]? = some (.cells #[.int .i64 x] 24 (0, 0))
theorem Res.cell {w : World} {q : Nat} {x : Int} (h : Res w q x) : w.cell? ⟨q, 0, none⟩ = some (.int .i64 x) ∧ w.frozen? ⟨q, 0, none⟩ = false := ⟨cell_of_row w q 0 _ _ _ h, frozen_of_row w q 0 _ _ h⟩
theorem Res.set {w : World} {q : Nat} {x : Int} (h : Res w q x) (y : Int) : Res (w.setCell ⟨q, 0, none⟩ (.int .i64 y)) q y := heap_setCell_same w q 0 _ _ _ h
theorem Res.new (w : World) (y : Int) : Res (w.alloc (.cells #[.int .i64 y] 24)) w.heap.size y := heap_alloc_new w _
theorem Blk.other {w w' : World} {p : Nat} {m : Bool} {r : Int} {A : Option Addr} {n c : Nat} {sf sp : Int} {o : Bool} {q : Nat} (h : Blk w p m r A n c sf sp o) (g : w.grownBy w' (some q)) (hne : p ≠ q) : Blk w' p m r A n c sf sp o := g.row hne h
theorem sync_nil {w : World} : Calls Try.prog 23 #[.pointer none] w fun e w' => e = .returned (.int .i64 1) ∧ Below w.heap.size w w' := by
  have hmf : ∀ (fn : Fn) (first cap : Array Value) (w : World), (Instr.makeFunc fn first cap).run Try.prog w = .ok (.func fn first cap) w := fun _ _ _ _ => rfl
  go_enter_defers Try.func23, Try.ntmps23
  go_wp2_with fail
  refine (ready_nil _).mono ?_
  rintro e w1 ⟨rfl, rfl⟩
  go_wp2_with fail
  have HQ := Lib.hid (Res.new w 1)
  refine leaves_cons (f := 37) (args := #[.pointer (some ⟨w.heap.size, 0, none⟩)]) (by simp) (by simp [go_sem]) ?_
  refine (sync_idle w.heap.size 1  _ HQ.out.cell.1 HQ.out.cell.2).mono ?_
  rintro e u' w9 ⟨rfl, rfl, e9⟩
  have c9 : w9.cell? ⟨w.heap.size, 0, none⟩ = some (.int .i64 1) := by rw [e9]; exact (HQ.out.set 1).cell.1
  have HB : Below w.heap.size w w9 := by rw [e9]; exact (((Below.refl _ w).new _).setCell (Nat.le_refl _) _).drew
  clear e9
  simp [Leaves, settle, results, Try.results23, go_sem, c9]
  exact HB
theorem sync_zero {p : Nat} {r : Int} {A : Option Addr} {n c : Nat} {sf sp : Int} {o : Bool} {w : World} (h : Blk w p false r A n c sf sp o) : Calls Try.prog 23 #[.pointer (some ⟨p, 0, none⟩)] w fun e w' => e = .returned (.int .i64 1) ∧ Below w.heap.size w w' := by
  have hmf : ∀ (fn : Fn) (first cap : Array Value) (w : World), (Instr.makeFunc fn first cap).run Try.prog w = .ok (.func fn first cap) w := fun _ _ _ _ => rfl
  have H1 := Lib.hid (row_alloc h (.cells #[.int .i64 0] 24))
  clear h
  go_enter_defers Try.func23, Try.ntmps23
  go_wp2_with fail
  refine (ready_raw H1.out).mono ?_
  rintro e w1 ⟨rfl, rfl⟩
  go_wp2_with fail
  have HQ := Lib.hid (Res.new w 1)
  refine leaves_cons (f := 37) (args := #[.pointer (some ⟨w.heap.size, 0, none⟩)]) (by simp) (by simp [go_sem]) ?_
  refine (sync_idle w.heap.size 1  _ HQ.out.cell.1 HQ.out.cell.2).mono ?_
  rintro e u' w9 ⟨rfl, rfl, e9⟩
  have c9 : w9.cell? ⟨w.heap.size, 0, none⟩ = some (.int .i64 1) := by rw [e9]; exact (HQ.out.set 1).cell.1
  have HB : Below w.heap.size w w9 := by rw [e9]; exact (((Below.refl _ w).new _).setCell (Nat.le_refl _) _).drew
  clear e9
  simp [Leaves, settle, results, Try.results23, go_sem, c9]
  exact HB
theorem sync_off {p : Nat} {r : Int} {A : Option Addr} {n c : Nat} {sf : Int} {sp : Int} {w : World} (h : Blk w p true r A n c sf sp true) :
    Calls Try.prog 23 #[.pointer (some ⟨p, 0, none⟩)] w fun e w' => e = .returned (.int .i64 6) ∧ Blk w' p true r A n c sf sp true ∧ Stays (fun k => k = p) w w' := by
  have hmf : ∀ (fn : Fn) (first cap : Array Value) (w : World), (Instr.makeFunc fn first cap).run Try.prog w = .ok (.func fn first cap) w := fun _ _ _ _ => rfl
  have hne : p ≠ w.heap.size := Nat.ne_of_lt (row_lt h)
  have hnq : w.heap.size ≠ p := fun e => hne e.symm
  have H1 := Lib.hid (row_alloc h (.cells #[.int .i64 0] 24))
  have HO := Lib.hid h
  clear h
  go_enter_defers Try.func23, Try.ntmps23
  go_wp2_with fail
  refine (ready_raw H1.out).mono ?_
  rintro e w1 ⟨rfl, rfl⟩
  go_wp2_with fail
  have HQ := Lib.hid (Res.new w 6)
  refine leaves_cons (f := 37) (args := #[.pointer (some ⟨w.heap.size, 0, none⟩)]) (by simp) (by simp [go_sem]) ?_
  refine (sync_idle w.heap.size 6  _ HQ.out.cell.1 HQ.out.cell.2).mono ?_
  rintro e u' w9 ⟨rfl, rfl, e9⟩
  have c9 : w9.cell? ⟨w.heap.size, 0, none⟩ = some (.int .i64 6) := by rw [e9]; exact (HQ.out.set 6).cell.1
  have HB : Blk w9 p true r A n c sf sp true := by rw [e9]; exact Blk.other (row_alloc HO.out _) (grown_drew (grown_cell _ _ _ _)) hne
  have HS : Stays (fun k => k = p) w w9 := by rw [e9]; exact (((Stays.refl (fun k => k = p) w).alloc _).cell _ (Or.inr (Nat.le_refl _))).drew
  clear e9
  simp [Leaves, settle, results, Try.results23, go_sem, c9]
  exact ⟨HB, HS⟩
theorem sync_none {p : Nat} {r : Int} {A : Option Addr} {n c : Nat} {sf : Int} {w : World} (h : Blk w p true r A n c sf 0 false) :
    Calls Try.prog 23 #[.pointer (some ⟨p, 0, none⟩)] w fun e w' => e = .returned (.int .i64 6) ∧ Blk w' p true r A n c sf 0 true ∧ Stays (fun k => k = p) w w' := by
  have hmf : ∀ (fn : Fn) (first cap : Array Value) (w : World), (Instr.makeFunc fn first cap).run Try.prog w = .ok (.func fn first cap) w := fun _ _ _ _ => rfl
  have hne : p ≠ w.heap.size := Nat.ne_of_lt (row_lt h)
  have hnq : w.heap.size ≠ p := fun e => hne e.symm
  have H1 := Lib.hid (row_alloc h (.cells #[.int .i64 0] 24))
  have HO := Lib.hid h
  clear h
  go_enter_defers Try.func23, Try.ntmps23
  go_wp2_with fail
  refine (ready_raw H1.out).mono ?_
  rintro e w1 ⟨rfl, rfl⟩
  go_wp2_with fail
  refine (spark_none H1.out).mono ?_
  rintro e w2 ⟨rfl, B2, g2, s2⟩
  have HQ := Lib.hid (show Res w2 w.heap.size 0 from g2.row hnq (Res.new w 0))
  go_wp2_with fail
  refine leaves_cons (f := 37) (args := #[.pointer (some ⟨w.heap.size, 0, none⟩)]) (by simp) (by simp [go_sem]) ?_
  refine (sync_bad w.heap.size 0 [] _ HQ.out.cell.1 HQ.out.cell.2).mono ?_
  rintro e u' w9 ⟨rfl, rfl, e9⟩
  have c9 : w9.cell? ⟨w.heap.size, 0, none⟩ = some (.int .i64 6) := by rw [e9]; exact (HQ.out.set 6).cell.1
  have HB : Blk w9 p true r A n c sf 0 true := by rw [e9]; exact Blk.other B2 (grown_drew (grown_cell _ _ _ _)) hne
  have HS : Stays (fun k => k = p) w w9 := by rw [e9]; exact ((((Stays.refl (fun k => k = p) w).alloc _).grown g2 (Or.inl rfl)).cell _ (Or.inr (Nat.le_refl _))).drew
  clear e9
  simp [Leaves, settle, results, Try.results23, go_sem, c9]
  exact ⟨HB, HS⟩
theorem sync_one {p : Nat} {r : Int} {A : Option Addr} {n c : Nat} {sf : Int} {sp : Int} {w : World} (h : Blk w p true r A n c sf sp false) (hp : 0 < sp) (hs : sp ≤ 9223372036854775807) :
    Calls Try.prog 23 #[.pointer (some ⟨p, 0, none⟩)] w fun e w' => e = .returned (.int .i64 0) ∧ Blk w' p true r A n c (n : Nat) (sp - 1) false ∧ Stays (fun k => k = p) w w' := by
  have hmf : ∀ (fn : Fn) (first cap : Array Value) (w : World), (Instr.makeFunc fn first cap).run Try.prog w = .ok (.func fn first cap) w := fun _ _ _ _ => rfl
  have hne : p ≠ w.heap.size := Nat.ne_of_lt (row_lt h)
  have hnq : w.heap.size ≠ p := fun e => hne e.symm
  have H1 := Lib.hid (row_alloc h (.cells #[.int .i64 0] 24))
  have HO := Lib.hid h
  clear h
  go_enter_defers Try.func23, Try.ntmps23
  go_wp2_with fail
  refine (ready_raw H1.out).mono ?_
  rintro e w1 ⟨rfl, rfl⟩
  go_wp2_with fail
  refine (spark_one H1.out hp hs).mono ?_
  rintro e w2 ⟨rfl, B2, g2, s2⟩
  have hB3 := heap_setCell_same w2 p 3 _ _ (.int .i64 (n : Nat)) B2
  have HB3 := Lib.hid (show Blk (w2.setCell ⟨p, 3, none⟩ (.int .i64 (n : Nat))) p true r A n c (n : Nat) (sp - 1) false from hB3)
  have HQ := Lib.hid (show Res (w2.setCell ⟨p, 3, none⟩ (.int .i64 (n : Nat))) w.heap.size 0 from (grown_cell w2 p 3 _).row hnq (g2.row hnq (Res.new w 0)))
  obtain ⟨_, _, c2, c3, _, _⟩ := row6 B2
  obtain ⟨_, _, _, f3, _, _⟩ := free6 B2
  obtain ⟨cq, fq⟩ := HQ.out.cell
  have HS2 := Lib.hid ((((Stays.refl (fun k => k = p) w).alloc (.cells #[.int .i64 0] 24)).grown g2 (Or.inl rfl)).cell (p := p) (i := 3) (.int .i64 (n : Nat)) (Or.inl rfl))
  clear B2 g2 hB3
  go_wp2_with fail
  refine leaves_cons (f := 37) (args := #[.pointer (some ⟨w.heap.size, 0, none⟩)]) (by simp) (by simp [go_sem]) ?_
  refine (sync_idle w.heap.size 0  _ (HQ.out.set 0).cell.1 (HQ.out.set 0).cell.2).mono ?_
  rintro e u' w9 ⟨rfl, rfl, e9⟩
  have c9 : w9.cell? ⟨w.heap.size, 0, none⟩ = some (.int .i64 0) := by rw [e9]; exact ((HQ.out.set 0).set 0).cell.1
  have HB : Blk w9 p true r A n c (n : Nat) (sp - 1) false := by rw [e9]; exact Blk.other (Blk.other HB3.out (grown_cell _ _ _ _) hne) (grown_drew (grown_cell _ _ _ _)) hne
  have HS : Stays (fun k => k = p) w w9 := by rw [e9]; exact ((HS2.out.cell _ (Or.inr (Nat.le_refl _))).cell _ (Or.inr (Nat.le_refl _))).drew
  clear e9
  simp [Leaves, settle, results, Try.results23, go_sem, c9]
  exact ⟨HB, HS⟩
theorem sync_many {p : Nat} {r : Int} {A : Option Addr} {n c : Nat} {sf : Int} {sp : Int} {w : World} (h : Blk w p true r A n c sf sp false) (hp : sp < 0) :
    Calls Try.prog 23 #[.pointer (some ⟨p, 0, none⟩)] w fun e w' => e = .returned (.int .i64 0) ∧ Blk w' p true r A n c (n : Nat) sp false ∧ Stays (fun k => k = p) w w' := by
  have hmf : ∀ (fn : Fn) (first cap : Array Value) (w : World), (Instr.makeFunc fn first cap).run Try.prog w = .ok (.func fn first cap) w := fun _ _ _ _ => rfl
  have hne : p ≠ w.heap.size := Nat.ne_of_lt (row_lt h)
  have hnq : w.heap.size ≠ p := fun e => hne e.symm
  have H1 := Lib.hid (row_alloc h (.cells #[.int .i64 0] 24))
  have HO := Lib.hid h
  clear h
  go_enter_defers Try.func23, Try.ntmps23
  go_wp2_with fail
  refine (ready_raw H1.out).mono ?_
  rintro e w1 ⟨rfl, rfl⟩
  go_wp2_with fail
  refine (spark_many H1.out hp).mono ?_
  rintro e w2 ⟨rfl, e2⟩
  have B2 : Blk w2 p true r A n c sf sp false := by rw [e2]; exact H1.out
  have g2 : (w.alloc (.cells #[.int .i64 0] 24)).grownBy w2 (some p) := by rw [e2]; exact ⟨rfl, rfl, rfl, Nat.le_refl _, fun _ _ _ => rfl⟩
  clear e2
  have hB3 := heap_setCell_same w2 p 3 _ _ (.int .i64 (n : Nat)) B2
  have HB3 := Lib.hid (show Blk (w2.setCell ⟨p, 3, none⟩ (.int .i64 (n : Nat))) p true r A n c (n : Nat) sp false from hB3)
  have HQ := Lib.hid (show Res (w2.setCell ⟨p, 3, none⟩ (.int .i64 (n : Nat))) w.heap.size 0 from (grown_cell w2 p 3 _).row hnq (g2.row hnq (Res.new w 0)))
  obtain ⟨_, _, c2, c3, _, _⟩ := row6 B2
  obtain ⟨_, _, _, f3, _, _⟩ := free6 B2
  obtain ⟨cq, fq⟩ := HQ.out.cell
  have HS2 := Lib.hid ((((Stays.refl (fun k => k = p) w).alloc (.cells #[.int .i64 0] 24)).grown g2 (Or.inl rfl)).cell (p := p) (i := 3) (.int .i64 (n : Nat)) (Or.inl rfl))
  clear B2 g2 hB3
  go_wp2_with fail
  refine leaves_cons (f := 37) (args := #[.pointer (some ⟨w.heap.size, 0, none⟩)]) (by simp) (by simp [go_sem]) ?_
  refine (sync_idle w.heap.size 0  _ (HQ.out.set 0).cell.1 (HQ.out.set 0).cell.2).mono ?_
  rintro e u' w9 ⟨rfl, rfl, e9⟩
  have c9 : w9.cell? ⟨w.heap.size, 0, none⟩ = some (.int .i64 0) := by rw [e9]; exact ((HQ.out.set 0).set 0).cell.1
  have HB : Blk w9 p true r A n c (n : Nat) sp false := by rw [e9]; exact Blk.other (Blk.other HB3.out (grown_cell _ _ _ _) hne) (grown_drew (grown_cell _ _ _ _)) hne
  have HS : Stays (fun k => k = p) w w9 := by rw [e9]; exact ((HS2.out.cell _ (Or.inr (Nat.le_refl _))).cell _ (Or.inr (Nat.le_refl _))).drew
  clear e9
  simp [Leaves, settle, results, Try.results23, go_sem, c9]
  exact ⟨HB, HS⟩
theorem cut_nil (z : Int) {w : World} : Calls Try.prog 24 #[.pointer none, .int .i64 z] w fun e w' => e = .returned (.int .i64 1) ∧ Below w.heap.size w w' := by
  have hmf : ∀ (fn : Fn) (first cap : Array Value) (w : World), (Instr.makeFunc fn first cap).run Try.prog w = .ok (.func fn first cap) w := fun _ _ _ _ => rfl
  go_enter_defers Try.func24, Try.ntmps24
  go_wp2_with fail
  refine (ready_nil _).mono ?_
  rintro e w1 ⟨rfl, rfl⟩
  go_wp2_with fail
  have HQ := Lib.hid (Res.new w 1)
  refine leaves_cons (f := 38) (args := #[.pointer (some ⟨w.heap.size, 0, none⟩)]) (by simp) (by simp [go_sem]) ?_
  refine (cut_idle w.heap.size 1  _ HQ.out.cell.1 HQ.out.cell.2).mono ?_
  rintro e u' w9 ⟨rfl, rfl, e9⟩
  have c9 : w9.cell? ⟨w.heap.size, 0, none⟩ = some (.int .i64 1) := by rw [e9]; exact (HQ.out.set 1).cell.1
  have HB : Below w.heap.size w w9 := by rw [e9]; exact (((Below.refl _ w).new _).setCell (Nat.le_refl _) _).drew
  clear e9
  simp [Leaves, settle, results, Try.results24, go_sem, c9]
  exact HB
theorem cut_zero (z : Int) {p : Nat} {r : Int} {A : Option Addr} {n c : Nat} {sf sp : Int} {o : Bool} {w : World} (h : Blk w p false r A n c sf sp o) : Calls Try.prog 24 #[.pointer (some ⟨p, 0, none⟩), .int .i64 z] w fun e w' => e = .returned (.int .i64 1) ∧ Below w.heap.size w w' := by
  have hmf : ∀ (fn : Fn) (first cap : Array Value) (w : World), (Instr.makeFunc fn first cap).run Try.prog w = .ok (.func fn first cap) w := fun _ _ _ _ => rfl
  have H1 := Lib.hid (row_alloc h (.cells #[.int .i64 0] 24))
  clear h
  go_enter_defers Try.func24, Try.ntmps24
  go_wp2_with fail
  refine (ready_raw H1.out).mono ?_
  rintro e w1 ⟨rfl, rfl⟩
  go_wp2_with fail
  have HQ := Lib.hid (Res.new w 1)
  refine leaves_cons (f := 38) (args := #[.pointer (some ⟨w.heap.size, 0, none⟩)]) (by simp) (by simp [go_sem]) ?_
  refine (cut_idle w.heap.size 1  _ HQ.out.cell.1 HQ.out.cell.2).mono ?_
  rintro e u' w9 ⟨rfl, rfl, e9⟩
  have c9 : w9.cell? ⟨w.heap.size, 0, none⟩ = some (.int .i64 1) := by rw [e9]; exact (HQ.out.set 1).cell.1
  have HB : Below w.heap.size w w9 := by rw [e9]; exact (((Below.refl _ w).new _).setCell (Nat.le_refl _) _).drew
  clear e9
  simp [Leaves, settle, results, Try.results24, go_sem, c9]
  exact HB
theorem cut_off (z : Int) {p : Nat} {r : Int} {A : Option Addr} {n c : Nat} {sf : Int} {sp : Int} {w : World} (h : Blk w p true r A n c sf sp true) :
    Calls Try.prog 24 #[.pointer (some ⟨p, 0, none⟩), .int .i64 z] w fun e w' => e = .returned (.int .i64 6) ∧ Blk w' p true r A n c sf sp true ∧ Stays (fun k => k = p) w w' := by
  have hmf : ∀ (fn : Fn) (first cap : Array Value) (w : World), (Instr.makeFunc fn first cap).run Try.prog w = .ok (.func fn first cap) w := fun _ _ _ _ => rfl
  have hne : p ≠ w.heap.size := Nat.ne_of_lt (row_lt h)
  have hnq : w.heap.size ≠ p := fun e => hne e.symm
  have H1 := Lib.hid (row_alloc h (.cells #[.int .i64 0] 24))
  have HO := Lib.hid h
  clear h
  go_enter_defers Try.func24, Try.ntmps24
  go_wp2_with fail
  refine (ready_raw H1.out).mono ?_
  rintro e w1 ⟨rfl, rfl⟩
  go_wp2_with fail
  have HQ := Lib.hid (Res.new w 6)
  refine leaves_cons (f := 38) (args := #[.pointer (some ⟨w.heap.size, 0, none⟩)]) (by simp) (by simp [go_sem]) ?_
  refine (cut_idle w.heap.size 6  _ HQ.out.cell.1 HQ.out.cell.2).mono ?_
  rintro e u' w9 ⟨rfl, rfl, e9⟩
  have c9 : w9.cell? ⟨w.heap.size, 0, none⟩ = some (.int .i64 6) := by rw [e9]; exact (HQ.out.set 6).cell.1
  have HB : Blk w9 p true r A n c sf sp true := by rw [e9]; exact Blk.other (row_alloc HO.out _) (grown_drew (grown_cell _ _ _ _)) hne
  have HS : Stays (fun k => k = p) w w9 := by rw [e9]; exact (((Stays.refl (fun k => k = p) w).alloc _).cell _ (Or.inr (Nat.le_refl _))).drew
  clear e9
  simp [Leaves, settle, results, Try.results24, go_sem, c9]
  exact ⟨HB, HS⟩
theorem cut_low (z : Int) {p : Nat} {r : Int} {A : Option Addr} {n c : Nat} {sf : Int} {sp : Int} {w : World} (h : Blk w p true r A n c sf sp false) (hz : z < 0) :
    Calls Try.prog 24 #[.pointer (some ⟨p, 0, none⟩), .int .i64 z] w fun e w' => e = .returned (.int .i64 2) ∧ Blk w' p true r A n c sf sp false ∧ Stays (fun k => k = p) w w' := by
  have hmf : ∀ (fn : Fn) (first cap : Array Value) (w : World), (Instr.makeFunc fn first cap).run Try.prog w = .ok (.func fn first cap) w := fun _ _ _ _ => rfl
  have hne : p ≠ w.heap.size := Nat.ne_of_lt (row_lt h)
  have hnq : w.heap.size ≠ p := fun e => hne e.symm
  have H1 := Lib.hid (row_alloc h (.cells #[.int .i64 0] 24))
  have HO := Lib.hid h
  clear h
  obtain ⟨_, _, c2, _, _, _⟩ := row6 H1.out
  go_enter_defers Try.func24, Try.ntmps24
  go_wp2_with fail
  refine (ready_raw H1.out).mono ?_
  rintro e w1 ⟨rfl, rfl⟩
  go_wp2_with fail
  have HQ := Lib.hid (Res.new w 2)
  refine leaves_cons (f := 38) (args := #[.pointer (some ⟨w.heap.size, 0, none⟩)]) (by simp) (by simp [go_sem]) ?_
  refine (cut_idle w.heap.size 2  _ HQ.out.cell.1 HQ.out.cell.2).mono ?_
  rintro e u' w9 ⟨rfl, rfl, e9⟩
  have c9 : w9.cell? ⟨w.heap.size, 0, none⟩ = some (.int .i64 2) := by rw [e9]; exact (HQ.out.set 2).cell.1
  have HB : Blk w9 p true r A n c sf sp false := by rw [e9]; exact Blk.other (row_alloc HO.out _) (grown_drew (grown_cell _ _ _ _)) hne
  have HS : Stays (fun k => k = p) w w9 := by rw [e9]; exact (((Stays.refl (fun k => k = p) w).alloc _).cell _ (Or.inr (Nat.le_refl _))).drew
  clear e9
  simp [Leaves, settle, results, Try.results24, go_sem, c9]
  exact ⟨HB, HS⟩
theorem cut_high (z : Int) {p : Nat} {r : Int} {A : Option Addr} {n c : Nat} {sf : Int} {sp : Int} {w : World} (h : Blk w p true r A n c sf sp false) (hz : ¬ z < 0) (hn : (n : Int) < z) :
    Calls Try.prog 24 #[.pointer (some ⟨p, 0, none⟩), .int .i64 z] w fun e w' => e = .returned (.int .i64 2) ∧ Blk w' p true r A n c sf sp false ∧ Stays (fun k => k = p) w w' := by
  have hmf : ∀ (fn : Fn) (first cap : Array Value) (w : World), (Instr.makeFunc fn first cap).run Try.prog w = .ok (.func fn first cap) w := fun _ _ _ _ => rfl
  have hne : p ≠ w.heap.size := Nat.ne_of_lt (row_lt h)
  have hnq : w.heap.size ≠ p := fun e => hne e.symm
  have H1 := Lib.hid (row_alloc h (.cells #[.int .i64 0] 24))
  have HO := Lib.hid h
  clear h
  obtain ⟨_, _, c2, _, _, _⟩ := row6 H1.out
  go_enter_defers Try.func24, Try.ntmps24
  go_wp2_with fail
  refine (ready_raw H1.out).mono ?_
  rintro e w1 ⟨rfl, rfl⟩
  go_wp2_with fail
  have HQ := Lib.hid (Res.new w 2)
  refine leaves_cons (f := 38) (args := #[.pointer (some ⟨w.heap.size, 0, none⟩)]) (by simp) (by simp [go_sem]) ?_
  refine (cut_idle w.heap.size 2  _ HQ.out.cell.1 HQ.out.cell.2).mono ?_
  rintro e u' w9 ⟨rfl, rfl, e9⟩
  have c9 : w9.cell? ⟨w.heap.size, 0, none⟩ = some (.int .i64 2) := by rw [e9]; exact (HQ.out.set 2).cell.1
  have HB : Blk w9 p true r A n c sf sp false := by rw [e9]; exact Blk.other (row_alloc HO.out _) (grown_drew (grown_cell _ _ _ _)) hne
  have HS : Stays (fun k => k = p) w w9 := by rw [e9]; exact (((Stays.refl (fun k => k = p) w).alloc _).cell _ (Or.inr (Nat.le_refl _))).drew
  clear e9
  simp [Leaves, settle, results, Try.results24, go_sem, c9]
  exact ⟨HB, HS⟩
theorem cut_none (z : Int) {p : Nat} {r : Int} {A : Option Addr} {n c : Nat} {sf : Int} {w : World} (h : Blk w p true r A n c sf 0 false) (hz : ¬ z < 0) (hn : ¬ (n : Int) < z) :
    Calls Try.prog 24 #[.pointer (some ⟨p, 0, none⟩), .int .i64 z] w fun e w' => e = .returned (.int .i64 6) ∧ Blk w' p true r A n c sf 0 true ∧ Stays (fun k => k = p) w w' := by
  have hmf : ∀ (fn : Fn) (first cap : Array Value) (w : World), (Instr.makeFunc fn first cap).run Try.prog w = .ok (.func fn first cap) w := fun _ _ _ _ => rfl
  have hne : p ≠ w.heap.size := Nat.ne_of_lt (row_lt h)
  have hnq : w.heap.size ≠ p := fun e => hne e.symm
  have H1 := Lib.hid (row_alloc h (.cells #[.int .i64 0] 24))
  have HO := Lib.hid h
  clear h
  obtain ⟨_, _, c2, _, _, _⟩ := row6 H1.out
  go_enter_defers Try.func24, Try.ntmps24
  go_wp2_with fail
  refine (ready_raw H1.out).mono ?_
  rintro e w1 ⟨rfl, rfl⟩
  go_wp2_with fail
  refine (spark_none H1.out).mono ?_
  rintro e w2 ⟨rfl, B2, g2, s2⟩
  have HQ := Lib.hid (show Res w2 w.heap.size 0 from g2.row hnq (Res.new w 0))
  go_wp2_with fail
  refine leaves_cons (f := 38) (args := #[.pointer (some ⟨w.heap.size, 0, none⟩)]) (by simp) (by simp [go_sem]) ?_
  refine (cut_bad w.heap.size 0 [] _ HQ.out.cell.1 HQ.out.cell.2).mono ?_
  rintro e u' w9 ⟨rfl, rfl, e9⟩
  have c9 : w9.cell? ⟨w.heap.size, 0, none⟩ = some (.int .i64 6) := by rw [e9]; exact (HQ.out.set 6).cell.1
  have HB : Blk w9 p true r A n c sf 0 true := by rw [e9]; exact Blk.other B2 (grown_drew (grown_cell _ _ _ _)) hne
  have HS : Stays (fun k => k = p) w w9 := by rw [e9]; exact ((((Stays.refl (fun k => k = p) w).alloc _).grown g2 (Or.inl rfl)).cell _ (Or.inr (Nat.le_refl _))).drew
  clear e9
  simp [Leaves, settle, results, Try.results24, go_sem, c9]
  exact ⟨HB, HS⟩
theorem cut_one (k : Nat) {p : Nat} {r : Int} {A : Option Addr} {n c : Nat} {sf : Nat} {sp : Int} {w : World} (h : Blk w p true r A n c sf sp false) (hk : k ≤ n) (hc : n ≤ c) (hp : 0 < sp) (hs : sp ≤ 9223372036854775807) :
    Calls Try.prog 24 #[.pointer (some ⟨p, 0, none⟩), .int .i64 (k : Nat)] w fun e w' => e = .returned (.int .i64 0) ∧ Blk w' p true r A k c ((min sf k : Nat) : Int) (sp - 1) false ∧ Stays (fun k => k = p) w w' := by
  have hmf : ∀ (fn : Fn) (first cap : Array Value) (w : World), (Instr.makeFunc fn first cap).run Try.prog w = .ok (.func fn first cap) w := fun _ _ _ _ => rfl
  have hne : p ≠ w.heap.size := Nat.ne_of_lt (row_lt h)
  have hnq : w.heap.size ≠ p := fun e => hne e.symm
  have H1 := Lib.hid (row_alloc h (.cells #[.int .i64 0] 24))
  have HO := Lib.hid h
  clear h
  obtain ⟨_, _, c2, _, _, _⟩ := row6 H1.out
  have hz : ¬ ((k : Nat) : Int) < 0 := by omega
  have hn : ¬ (n : Int) < (k : Int) := by omega
  go_enter_defers Try.func24, Try.ntmps24
  go_wp2_with fail
  refine (ready_raw H1.out).mono ?_
  rintro e w1 ⟨rfl, rfl⟩
  go_wp2_with fail
  refine (spark_one H1.out hp hs).mono ?_
  rintro e w2 ⟨rfl, B2, g2, s2⟩
  go_wp2_with fail
  refine (leave_any k B2 (Nat.le_trans hk hc)).mono ?_
  rintro e w3 ⟨rfl, B3, g3, s3⟩
  have HB3 := Lib.hid B3
  have HQ := Lib.hid (show Res w3 w.heap.size 0 from g3.row hnq (g2.row hnq (Res.new w 0)))
  obtain ⟨cq, fq⟩ := HQ.out.cell
  have HS2 := Lib.hid ((((Stays.refl (fun k => k = p) w).alloc (.cells #[.int .i64 0] 24)).grown g2 (Or.inl rfl)).grown g3 (Or.inl rfl))
  clear B2 g2 B3 g3
  go_wp2_with fail
  refine leaves_cons (f := 38) (args := #[.pointer (some ⟨w.heap.size, 0, none⟩)]) (by simp) (by simp [go_sem]) ?_
  refine (cut_idle w.heap.size 0  _ (HQ.out.set 0).cell.1 (HQ.out.set 0).cell.2).mono ?_
  rintro e u' w9 ⟨rfl, rfl, e9⟩
  have c9 : w9.cell? ⟨w.heap.size, 0, none⟩ = some (.int .i64 0) := by rw [e9]; exact ((HQ.out.set 0).set 0).cell.1
  have HB : Blk w9 p true r A k c ((min sf k : Nat) : Int) (sp - 1) false := by rw [e9]; exact Blk.other (Blk.other HB3.out (grown_cell _ _ _ _) hne) (grown_drew (grown_cell _ _ _ _)) hne
  have HS : Stays (fun k => k = p) w w9 := by rw [e9]; exact ((HS2.out.cell _ (Or.inr (Nat.le_refl _))).cell _ (Or.inr (Nat.le_refl _))).drew
  clear e9
  simp [Leaves, settle, results, Try.results24, go_sem, c9]
  exact ⟨HB, HS⟩
theorem cut_many (k : Nat) {p : Nat} {r : Int} {A : Option Addr} {n c : Nat} {sf : Nat} {sp : Int} {w : World} (h : Blk w p true r A n c sf sp false) (hk : k ≤ n) (hc : n ≤ c) (hp : sp < 0) :
    Calls Try.prog 24 #[.pointer (some ⟨p, 0, none⟩), .int .i64 (k : Nat)] w fun e w' => e = .returned (.int .i64 0) ∧ Blk w' p true r A k c ((min sf k : Nat) : Int) sp false ∧ Stays (fun k => k = p) w w' := by
  have hmf : ∀ (fn : Fn) (first cap : Array Value) (w : World), (Instr.makeFunc fn first cap).run Try.prog w = .ok (.func fn first cap) w := fun _ _ _ _ => rfl
  have hne : p ≠ w.heap.size := Nat.ne_of_lt (row_lt h)
  have hnq : w.heap.size ≠ p := fun e => hne e.symm
  have H1 := Lib.hid (row_alloc h (.cells #[.int .i64 0] 24))
  have HO := Lib.hid h
  clear h
  obtain ⟨_, _, c2, _, _, _⟩ := row6 H1.out
  have hz : ¬ ((k : Nat) : Int) < 0 := by omega
  have hn : ¬ (n : Int) < (k : Int) := by omega
  go_enter_defers Try.func24, Try.ntmps24
  go_wp2_with fail
  refine (ready_raw H1.out).mono ?_
  rintro e w1 ⟨rfl, rfl⟩
  go_wp2_with fail
  refine (spark_many H1.out hp).mono ?_
  rintro e w2 ⟨rfl, e2⟩
  have B2 : Blk w2 p true r A n c sf sp false := by rw [e2]; exact H1.out
  have g2 : (w.alloc (.cells #[.int .i64 0] 24)).grownBy w2 (some p) := by rw [e2]; exact ⟨rfl, rfl, rfl, Nat.le_refl _, fun _ _ _ => rfl⟩
  clear e2
  go_wp2_with fail
  refine (leave_any k B2 (Nat.le_trans hk hc)).mono ?_
  rintro e w3 ⟨rfl, B3, g3, s3⟩
  have HB3 := Lib.hid B3
  have HQ := Lib.hid (show Res w3 w.heap.size 0 from g3.row hnq (g2.row hnq (Res.new w 0)))
  obtain ⟨cq, fq⟩ := HQ.out.cell
  have HS2 := Lib.hid ((((Stays.refl (fun k => k = p) w).alloc (.cells #[.int .i64 0] 24)).grown g2 (Or.inl rfl)).grown g3 (Or.inl rfl))
  clear B2 g2 B3 g3
  go_wp2_with fail
  refine leaves_cons (f := 38) (args := #[.pointer (some ⟨w.heap.size, 0, none⟩)]) (by simp) (by simp [go_sem]) ?_
  refine (cut_idle w.heap.size 0  _ (HQ.out.set 0).cell.1 (HQ.out.set 0).cell.2).mono ?_
  rintro e u' w9 ⟨rfl, rfl, e9⟩
  have c9 : w9.cell? ⟨w.heap.size, 0, none⟩ = some (.int .i64 0) := by rw [e9]; exact ((HQ.out.set 0).set 0).cell.1
  have HB : Blk w9 p true r A k c ((min sf k : Nat) : Int) sp false := by rw [e9]; exact Blk.other (Blk.other HB3.out (grown_cell _ _ _ _) hne) (grown_drew (grown_cell _ _ _ _)) hne
  have HS : Stays (fun k => k = p) w w9 := by rw [e9]; exact ((HS2.out.cell _ (Or.inr (Nat.le_refl _))).cell _ (Or.inr (Nat.le_refl _))).drew
  clear e9
  simp [Leaves, settle, results, Try.results24, go_sem, c9]
  exact ⟨HB, HS⟩
end Go.Proofs.Ytljiehnpknbohaa.DkW
