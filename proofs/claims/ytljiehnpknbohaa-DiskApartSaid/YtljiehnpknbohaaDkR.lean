/- The walks of layer 9's reference: New, spark, Sync, Sparks. -/
import Derived.Test.YtljiehnpknbohaaChecked
import Derived.Test.YtljiehnpknbohaaDkMath
import Derived.Test.YtljiehnpknbohaaBase
import Derived.WalkKit
import Derived.Below
import Derived.Lib.Hide
import Derived.Deep.DeepCutAuto
set_option linter.unusedVariables false
set_option linter.unusedSimpArgs false
namespace Go.Proofs.Ytljiehnpknbohaa.DkW
open Go.RowKit Go.Proofs.Ytljiehnpknbohaa Go.Proofs.Ytljiehnpknbohaa.Dk
/-- A disk of the document's own, its bytes in the slice A n c. -/
def rdC (d : D) (A : Option Addr) (n c : Nat) : Array Value := #[.int .i64 (d.room : Nat), .int .i64 (d.safe : Nat), .int .i64 d.left, .slice A n c, .bool d.off]
theorem u8 : Elem Try.prog 30 5 1 := .mk' (z := .int .u8 0) Try.underlying30 (by kernel_rfl) rfl
theorem ret_i64 {a b : Int} (h : a = b) : Ending.returned (.int .i64 a) = .returned (.int .i64 b) := by rw [h]
/-- The slice lies in a block of the call's own, or is the one that was there. -/
def From (B : Nat) (A : Option Addr) (n : Nat) (A' : Option Addr) (n' : Nat) : Prop := (A' = A ∧ n' = n) ∨ ∀ b o, A' = some (⟨b, o, none⟩ : Addr) → B ≤ b
theorem From.refl (B : Nat) (A : Option Addr) (n : Nat) : From B A n A n := Or.inl ⟨rfl, rfl⟩
theorem row5 {w : World} {g : Nat} {v0 v1 v2 v3 v4 : Value} {t : TypeId} (h : w.heap[g]? = some (.cells #[v0, v1, v2, v3, v4] t (0, 0))) :
    w.cell? ⟨g, 0, none⟩ = some v0 ∧ w.cell? ⟨g, 1, none⟩ = some v1 ∧ w.cell? ⟨g, 2, none⟩ = some v2 ∧ w.cell? ⟨g, 3, none⟩ = some v3 ∧ w.cell? ⟨g, 4, none⟩ = some v4 :=
  ⟨cell_of_row w g 0 _ _ _ h, cell_of_row w g 1 _ _ _ h, cell_of_row w g 2 _ _ _ h, cell_of_row w g 3 _ _ _ h, cell_of_row w g 4 _ _ _ h⟩
theorem free5 {w : World} {g : Nat} {cs : Array Value} {t : TypeId} (h : w.heap[g]? = some (.cells cs t (0, 0))) :
    w.frozen? ⟨g, 0, none⟩ = false ∧ w.frozen? ⟨g, 1, none⟩ = false ∧ w.frozen? ⟨g, 2, none⟩ = false ∧ w.frozen? ⟨g, 3, none⟩ = false ∧ w.frozen? ⟨g, 4, none⟩ = false :=
  ⟨frozen_of_row w g 0 _ _ h, frozen_of_row w g 1 _ _ h, frozen_of_row w g 2 _ _ h, frozen_of_row w g 3 _ _ h, frozen_of_row w g 4 _ _ h⟩
theorem info_rd : (Try.prog.info? 32).map (·.size) = some 5 := by kernel_rfl
theorem refNew9_any (room : Nat) (w : World) :
    Calls Try.prog 11 #[.int .i64 (room : Nat)] w fun e w' => e = .returned (.agg (rdC (new room) none 0 0)) ∧ Below w.heap.size w w' := by
  go_enter Try.func11, Try.ntmps11
  go_wp2_with fail
  exact bodyPost_row rfl w.heap.size 32 _ (0, 0) _ rfl (heap_alloc_new _ _) Try.underlying32 rfl (by kernel_rfl) rfl ⟨rfl, (Below.refl _ _).new _⟩
theorem spend_zero : spend 0 = 0 := rfl
theorem spend_pos {l : Int} (h : 0 < l) : spend l = l - 1 := by unfold spend; rw [if_pos h]
theorem spend_neg {l : Int} (h : ¬ 0 < l) : spend l = l := by unfold spend; rw [if_neg h]
theorem refSpark_any (room safe : Nat) (left : Int) (off : Bool) (A : Option Addr) (n c : Nat) (w : World) (hl : -1 ≤ left) (hh : left ≤ 9223372036854775807) :
    Calls Try.prog 40 #[.agg #[.int .i64 (room : Nat), .int .i64 (safe : Nat), .int .i64 left, .slice A n c, .bool off]] w fun e w' =>
      e = .returned (.tuple #[.agg #[.int .i64 (room : Nat), .int .i64 (safe : Nat), .int .i64 (spend left), .slice A n c, .bool (if left = 0 then true else off)], .bool (decide (left ≠ 0))]) ∧ Below w.heap.size w w' := by
  by_cases h0 : left = 0
  · subst h0
    go_enter Try.func40, Try.ntmps40
    go_wp2_with fail
    exact bodyPost_row_tmp rfl (w.heap.size + 1) 32 _ (0, 0) _ _ rfl (heap_alloc2_new _ _ _) Try.underlying32 rfl (by kernel_rfl) rfl rfl ⟨rfl, ((Below.refl _ _).new _).new _⟩
  · have hne : (left == 0) = false := beq_eq_false_iff_ne.2 h0
    rw [if_neg h0, decide_eq_true h0]
    by_cases hp : 0 < left
    · have hw : IntKind.i64.wrap (left - 1) = left - 1 := by rw [IntKind.wrap_i64]; omega
      rw [spend_pos hp]
      clear h0
      go_enter Try.func40, Try.ntmps40
      go_wp2_with fail
      exact bodyPost_row_tmp rfl (w.heap.size + 1) 32 _ (0, 0) _ _ rfl (heap_alloc2_new _ _ _) Try.underlying32 rfl (by kernel_rfl) rfl rfl ⟨rfl, ((Below.refl _ _).new _).new _⟩
    · rw [spend_neg hp]
      clear h0
      go_enter Try.func40, Try.ntmps40
      go_wp2_with fail
      exact bodyPost_row_tmp rfl (w.heap.size + 1) 32 _ (0, 0) _ _ rfl (heap_alloc2_new _ _ _) Try.underlying32 rfl (by kernel_rfl) rfl rfl ⟨rfl, ((Below.refl _ _).new _).new _⟩
theorem refSpark_none (room safe : Nat) (off : Bool) (A : Option Addr) (n c : Nat) (w : World) :
    Calls Try.prog 40 #[.agg #[.int .i64 (room : Nat), .int .i64 (safe : Nat), .int .i64 0, .slice A n c, .bool off]] w fun e w' =>
      e = .returned (.tuple #[.agg #[.int .i64 (room : Nat), .int .i64 (safe : Nat), .int .i64 0, .slice A n c, .bool true], .bool false]) ∧ Below w.heap.size w w' := refSpark_any room safe 0 off A n c w (by decide) (by decide)
theorem refSpark_some (room safe : Nat) (left l' : Int) (off : Bool) (A : Option Addr) (n c : Nat) (w : World) (hl : -1 ≤ left) (hh : left ≤ 9223372036854775807) (h0 : ¬ left = 0) (hl' : l' = spend left) :
    Calls Try.prog 40 #[.agg #[.int .i64 (room : Nat), .int .i64 (safe : Nat), .int .i64 left, .slice A n c, .bool off]] w fun e w' =>
      e = .returned (.tuple #[.agg #[.int .i64 (room : Nat), .int .i64 (safe : Nat), .int .i64 l', .slice A n c, .bool off], .bool true]) ∧ Below w.heap.size w w' := by
  have h := refSpark_any room safe left off A n c w hl hh
  rw [if_neg h0, decide_eq_true h0, ← hl'] at h
  exact h
/-- What the document's own hand back: a disk whose bytes lie in A' n' c', and an error. -/
def RetD (w : World) (A : Option Addr) (n : Nat) (d : D) (x : Int) (e : Ending) (w' : World) : Prop :=
  ∃ A' n' c', e = .returned (.tuple #[.agg (rdC d A' n' c'), .int .i64 x]) ∧ Sl w' w'.heap.size A' n' (bs d.b) ∧ From w.heap.size A n A' n' ∧ n' ≤ c' ∧ Below w.heap.size w w'
theorem put5 {X : World} {g i : Nat} {cs : Array Value} {t : TypeId} (h : X.heap[g]? = some (.cells cs t (0, 0))) (v : Value) :
    ∃ Y, Y = X.setCell ⟨g, i, none⟩ v ∧ Y.heap[g]? = some (.cells (cs.setIfInBounds i v) t (0, 0)) ∧ X.grownBy Y (some g) ∧ Y.heap.size = X.heap.size :=
  ⟨_, rfl, heap_setCell_same _ _ _ _ _ _ h, ⟨rfl, rfl, rfl, by simp [World.setCell], fun j _ hne => Below.heap_setCell _ _ _ _ (fun e => hne (by rw [e]))⟩, by simp [World.setCell]⟩
theorem Sl.past {X Y : World} {k : Nat} {A : Option Addr} {n : Nat} {xs : List Value} (h : Sl X X.heap.size A n xs) (g : X.grownBy Y (some k)) (o : ∀ b o, A = some (⟨b, o, none⟩ : Addr) → b ≠ k) : Sl Y Y.heap.size A n xs :=
  h.grown g (fun b o' e e' => by injection e' with e'; exact o b o' e e'.symm)
theorem Has.newA {w w' : World} {e : TypeId} {A : Option Addr} {n c : Nat} {xs : List Value} (h : Has w w' e (.slice A n c) n xs) : ∀ b o, A = some (⟨b, o, none⟩ : Addr) → w.heap.size ≤ b := fun b o e => by
  obtain ⟨A2, c2, e2, _, _, h2⟩ := h.slice
  cases e2
  subst e
  exact h2 b rfl
theorem refSync9_any (d : D) (A : Option Addr) (n c : Nat) (w : World) (hd : d.Ok) (hs : Sl w w.heap.size A n (bs d.b)) (hc : n ≤ c) :
    Calls Try.prog 27 #[.agg (rdC d A n c)] w (RetD w A n (sync d).1 (sync d).2) := by
  obtain ⟨room, safe, left, b, off⟩ := d
  have hn : b.length = n := by simpa using hs.len
  have HS := Lib.hid hs
  have hl := hd.left
  have hh := hd.hi
  have hsf := hd.safe
  dsimp only at hl hh hs hsf
  rw [hn] at hsf
  clear hs
  cases off
  · by_cases h0 : left = 0
    · have e : sync ⟨room, safe, left, b, false⟩ = (⟨room, safe, left, b, true⟩, 6) := by simp [sync, h0]
      rw [e]
      subst h0
      clear e hd hl hh
      have KS := Lib.hid (fun X => refSpark_none room safe false A n c X)
      go_enter Try.func27, Try.ntmps27
      simp only [rdC]
      go_wp2_with fail
      refine (KS.out _).mono ?_
      rintro e w1 ⟨rfl, b1⟩
      have r0 := b1.row (by simp; omega) (row_alloc (heap_alloc_new w _) _)
      have r1 := b1.row (by simp) (heap_alloc2_new w _ _)
      have B1 := (((Below.refl _ w).new _).new _).call b1
      have l1 : w.heap.size + 2 ≤ w1.heap.size := by have h := b1.size; simp at h; omega
      clear b1
      go_wp2_with (refine wpList_store_row rfl 32 _ _ rfl (w.heap.size + 1) #[.int .i64 (room : Nat), .int .i64 (safe : Nat), .int .i64 0, .slice A n c, .bool true] rfl rfl 32 _ (row_alloc r1 _) (by kernel_rfl) rfl (by simp [Value.oneCell']) ?_)
      have bf := fun o cs => below_setRow (B1.new o) (show w.heap.size ≤ w.heap.size + 1 by omega) cs
      exact bodyPost_row_tmp rfl (w.heap.size + 1) 32 _ (0, 0) _ _ rfl (setRow_heap _ _ _ _ _ _ (row_alloc r1 _)) Try.underlying32 rfl (by kernel_rfl) rfl rfl ⟨A, n, c, rfl, HS.out.to (bf _ _), From.refl _ _ _, hc, bf _ _⟩
    · have e : sync ⟨room, safe, left, b, false⟩ = (⟨room, b.length, spend left, b, false⟩, 0) := by simp [sync, h0]
      rw [e]
      clear e
      obtain ⟨l', hl'⟩ : ∃ l', l' = spend left := ⟨_, rfl⟩
      have KS := Lib.hid (fun X => refSpark_some room safe left l' false A n c X hl hh h0 hl')
      rw [← hl']
      clear hl' hd hl hh h0
      subst hn
      go_enter Try.func27, Try.ntmps27
      simp only [rdC]
      go_wp2_with fail
      refine (KS.out _).mono ?_
      rintro e w1 ⟨rfl, b1⟩
      have r0 := b1.row (by simp; omega) (row_alloc (heap_alloc_new w _) _)
      have r1 := b1.row (by simp) (heap_alloc2_new w _ _)
      have B1 := (((Below.refl _ w).new _).new _).call b1
      have l1 : w.heap.size + 2 ≤ w1.heap.size := by have h := b1.size; simp at h; omega
      clear b1
      go_wp2_with (refine wpList_store_row rfl 32 _ _ rfl (w.heap.size + 1) #[.int .i64 (room : Nat), .int .i64 (b.length : Nat), .int .i64 l', .slice A b.length c, .bool false] rfl rfl 32 _ (row_alloc r1 _) (by kernel_rfl) rfl (by simp [Value.oneCell']) ?_)
      have bf := fun o cs => below_setRow (B1.new o) (show w.heap.size ≤ w.heap.size + 1 by omega) cs
      exact bodyPost_row_tmp rfl (w.heap.size + 1) 32 _ (0, 0) _ _ rfl (setRow_heap _ _ _ _ _ _ (row_alloc r1 _)) Try.underlying32 rfl (by kernel_rfl) rfl rfl ⟨A, _, c, rfl, HS.out.to (bf _ _), From.refl _ _ _, hc, bf _ _⟩
  · have e : sync ⟨room, safe, left, b, true⟩ = (⟨room, safe, left, b, true⟩, 6) := by simp [sync]
    rw [e]
    clear e hd hl hh
    go_enter Try.func27, Try.ntmps27
    simp only [rdC]
    go_wp2_with fail
    exact bodyPost_row_tmp rfl (w.heap.size + 1) 32 _ (0, 0) _ _ rfl (heap_alloc2_new _ _ _) Try.underlying32 rfl (by kernel_rfl) rfl rfl ⟨A, n, c, rfl, HS.out.to (((Below.refl _ w).new _).new _), From.refl _ _ _, hc, ((Below.refl _ w).new _).new _⟩
/-- A disk of the document's own is handed back. -/
def RetS (w : World) (A : Option Addr) (n : Nat) (d : D) (e : Ending) (w' : World) : Prop :=
  ∃ A' n' c', e = .returned (.agg (rdC d A' n' c')) ∧ Sl w' w'.heap.size A' n' (bs d.b) ∧ From w.heap.size A n A' n' ∧ n' ≤ c' ∧ Below w.heap.size w w'
theorem refSparks9_any (d : D) (m : Int) (A : Option Addr) (n c : Nat) (w : World) (hs : Sl w w.heap.size A n (bs d.b)) (hc : n ≤ c) :
    Calls Try.prog 29 #[.agg (rdC d A n c), .int .i64 m] w (RetS w A n (sparks d m)) := by
  obtain ⟨room, safe, left, b, off⟩ := d
  have HS := Lib.hid hs
  clear hs
  by_cases hm : m < 0
  · have e : sparks ⟨room, safe, left, b, off⟩ m = ⟨room, safe, -1, b, off⟩ := by simp [sparks, hm]
    rw [e]
    clear e
    go_enter Try.func29, Try.ntmps29
    simp only [rdC]
    go_wp2_with fail
    exact bodyPost_row rfl (w.heap.size + 1) 32 _ (0, 0) _ rfl (heap_alloc2_new _ _ _) Try.underlying32 rfl (by kernel_rfl) rfl ⟨A, n, c, rfl, HS.out.to (((Below.refl _ w).new _).new _), From.refl _ _ _, hc, ((Below.refl _ w).new _).new _⟩
  · have e : sparks ⟨room, safe, left, b, off⟩ m = ⟨room, safe, m, b, off⟩ := by simp [sparks, hm]
    rw [e]
    clear e
    go_enter Try.func29, Try.ntmps29
    simp only [rdC]
    go_wp2_with fail
    exact bodyPost_row rfl (w.heap.size + 1) 32 _ (0, 0) _ rfl (heap_alloc2_new _ _ _) Try.underlying32 rfl (by kernel_rfl) rfl ⟨A, n, c, rfl, HS.out.to (((Below.refl _ w).new _).new _), From.refl _ _ _, hc, ((Below.refl _ w).new _).new _⟩
theorem refCrash9_any (d : D) (m : Int) (A : Option Addr) (n c : Nat) (w : World) (hd : d.Ok) (hs : Sl w w.heap.size A n (bs d.b)) (hc : n ≤ c) :
    Calls Try.prog 30 #[.agg (rdC d A n c), .int .i64 m] w (RetS w A n (crash d m)) := by
  obtain ⟨room, safe, left, b, off⟩ := d
  have hn : b.length = n := by simpa using hs.len
  have hsf := hd.safe
  have hln := hd.len
  have hrm := hd.room
  dsimp only at hs hsf hln hrm
  rw [hn] at hsf hln
  have HS := Lib.hid hs
  have HN := Lib.hid hn
  obtain ⟨k, hk⟩ : ∃ k, k = keepN ⟨room, safe, left, b, off⟩ m := ⟨_, rfl⟩
  have hk2 : k = safe + (min (max m 0) ((n : Int) - safe)).toNat := by rw [hk]; simp only [keepN]; rw [hn]
  have e : crash ⟨room, safe, left, b, off⟩ m = ⟨room, k, -1, b.take k, false⟩ := by rw [hk]; rfl
  rw [e]
  have hkn : k ≤ n := by omega
  obtain ⟨y, hy⟩ : ∃ y : Int, y = min (max m 0) ((n : Int) - safe) := ⟨_, rfl⟩
  have hky : (safe : Int) + y = (k : Int) := by omega
  have hwk : IntKind.i64.wrap ((safe : Int) + y) = (k : Int) := by rw [hky, IntKind.wrap_i64]; omega
  have hwd : IntKind.i64.wrap ((n : Int) - (safe : Int)) = (n : Int) - (safe : Int) := by rw [IntKind.wrap_i64]; omega
  have HB := Lib.hid (show (b.take k).length = k by rw [List.length_take]; omega)
  have z0 : (0 : Int) ≤ (k : Int) := by omega
  have z1 : (k : Int) ≤ (c : Int) := by omega
  have HY := Lib.hid hy
  have hkk : k ≤ 262144 := by omega
  clear e hk hk2 hs hn hky hy hd
  by_cases h1 : m < 0
  · have hy0 : y = 0 := by have := HY.out; omega
    have hd1 : ¬ ((n : Int) - (safe : Int) < 0) := by omega
    subst hy0
    obtain rfl : safe = k := by rw [Int.add_zero, IntKind.wrap_i64] at hwk; omega
    go_enter Try.func30, Try.ntmps30
    simp only [rdC]
    go_upto_region 5 with fail
    obtain ⟨X, hX⟩ : ∃ X, X = ((w.alloc (.cells #[.int .i64 (room : Nat), .int .i64 (safe : Nat), .int .i64 left, .slice A n c, .bool off] 32)).alloc (.cells #[.int .i64 0, .int .i64 0, .int .i64 0, .slice none 0 0, .bool false] 32)) := ⟨_, rfl⟩
    rw [← hX]
    have R : X.heap[w.heap.size]? = some (.cells #[.int .i64 (room : Nat), .int .i64 (safe : Nat), .int .i64 left, .slice A n c, .bool off] 32 (0, 0)) := by rw [hX]; exact row_alloc (heap_alloc_new w _) _
    have R1 : X.heap[w.heap.size + 1]? = some (.cells #[.int .i64 0, .int .i64 0, .int .i64 0, .slice none 0 0, .bool false] 32 (0, 0)) := by rw [hX]; exact heap_alloc2_new w _ _
    have BX : Below w.heap.size w X := by rw [hX]; exact ((Below.refl _ w).new _).new _
    have lX : w.heap.size + 2 ≤ X.heap.size := by rw [hX]; simp
    clear hX
    have SS := (HS.out.to (BX.new (.cells #[] 5))).take hkn
    rw [bs_take] at SS
    have RA := row_alloc R (.cells #[] 5)
    obtain ⟨a0, a1, a2, a3, a4⟩ := row5 RA
    obtain ⟨af0, af1, af2, af3, af4⟩ := free5 RA
    go_upto_region 6 with (first
      | (at_builtin; refine wpList_app u8 rfl (.tmp 21) (.tmp 28) rfl (Has.made0 (Below.refl _ X) _) rfl SS rfl (bs_one _) (by omega) (by simp only [maxLen]; omega) ?_; intro v2 w2 H2 g2 _; rw [List.nil_append, Nat.zero_add] at H2; obtain ⟨A2, c2, rfl, hc2, S2, -⟩ := H2.slice; have R := g2.row (show w.heap.size ≠ X.heap.size by omega) (row_alloc R _); have R1 := g2.row (show w.heap.size + 1 ≠ X.heap.size by omega) (row_alloc R1 _); clear a0 a1 a2 a3 a4 af0 af1 af2 af3 af4; obtain ⟨b0, b1, b2, b3, b4⟩ := row5 R; obtain ⟨bf0, bf1, bf2, bf3, bf4⟩ := free5 R)
      | fail)
    clear b0 b1 b2 b3 b4 bf0 bf1 bf2 bf3 bf4 SS RA g2
    have N2 := Has.newA H2
    have B2 := BX.call H2.bel
    clear H2
    obtain ⟨Y0, eY0, Q0, gY0, sY0⟩ := put5 (i := 3) R (.slice A2 safe c2)
    rw [← eY0]
    clear eY0
    have Q0 : Y0.heap[w.heap.size]? = some (.cells #[.int .i64 (room : Nat), .int .i64 (safe : Nat), .int .i64 left, .slice A2 safe c2, .bool off] 32 (0, 0)) := Q0
    have P0 := gY0.row (show w.heap.size + 1 ≠ w.heap.size by omega) R1
    have S3 := Sl.past S2 gY0 (fun b o e => by have := N2 b o e; omega)
    have B3 := B2.grown gY0 B2.size (fun j e => by injection e with e; omega)
    clear gY0 sY0 S2 B2 R R1
    obtain ⟨b0, b1, b2, b3, b4⟩ := row5 Q0
    obtain ⟨bf0, bf1, bf2, bf3, bf4⟩ := free5 Q0
    go_upto_region 7 with fail
    clear b0 bf0 b1 bf1 b2 bf2 b3 bf3 b4 bf4
    obtain ⟨Y1, eY1, Q1, gY1, sY1⟩ := put5 (i := 1) Q0 (.int .i64 (safe : Nat))
    rw [← eY1]
    clear eY1
    have Q1 : Y1.heap[w.heap.size]? = some (.cells #[.int .i64 (room : Nat), .int .i64 (safe : Nat), .int .i64 left, .slice A2 safe c2, .bool off] 32 (0, 0)) := Q1
    have P1 := gY1.row (show w.heap.size + 1 ≠ w.heap.size by omega) P0
    have S4 := Sl.past S3 gY1 (fun b o e => by have := N2 b o e; omega)
    have B4 := B3.grown gY1 B3.size (fun j e => by injection e with e; omega)
    clear gY1 sY1 S3 B3 Q0 P0
    obtain ⟨b0, b1, b2, b3, b4⟩ := row5 Q1
    obtain ⟨bf0, bf1, bf2, bf3, bf4⟩ := free5 Q1
    go_upto_region 8 with fail
    clear b0 bf0 b1 bf1 b2 bf2 b3 bf3 b4 bf4
    obtain ⟨Y2, eY2, Q2, gY2, sY2⟩ := put5 (i := 2) Q1 (.int .i64 (-1))
    rw [← eY2]
    clear eY2
    have Q2 : Y2.heap[w.heap.size]? = some (.cells #[.int .i64 (room : Nat), .int .i64 (safe : Nat), .int .i64 (-1), .slice A2 safe c2, .bool off] 32 (0, 0)) := Q2
    have P2 := gY2.row (show w.heap.size + 1 ≠ w.heap.size by omega) P1
    have S5 := Sl.past S4 gY2 (fun b o e => by have := N2 b o e; omega)
    have B5 := B4.grown gY2 B4.size (fun j e => by injection e with e; omega)
    clear gY2 sY2 S4 B4 Q1 P1
    obtain ⟨b0, b1, b2, b3, b4⟩ := row5 Q2
    obtain ⟨bf0, bf1, bf2, bf3, bf4⟩ := free5 Q2
    go_upto_region 9 with fail
    clear b0 bf0 b1 bf1 b2 bf2 b3 bf3 b4 bf4
    obtain ⟨Y3, eY3, Q3, gY3, sY3⟩ := put5 (i := 4) Q2 (.bool false)
    rw [← eY3]
    clear eY3
    have Q3 : Y3.heap[w.heap.size]? = some (.cells #[.int .i64 (room : Nat), .int .i64 (safe : Nat), .int .i64 (-1), .slice A2 safe c2, .bool false] 32 (0, 0)) := Q3
    have P3 := gY3.row (show w.heap.size + 1 ≠ w.heap.size by omega) P2
    have S6 := Sl.past S5 gY3 (fun b o e => by have := N2 b o e; omega)
    have B6 := B5.grown gY3 B5.size (fun j e => by injection e with e; omega)
    clear gY3 sY3 S5 B5 Q2 P2
    obtain ⟨b0, b1, b2, b3, b4⟩ := row5 Q3
    obtain ⟨bf0, bf1, bf2, bf3, bf4⟩ := free5 Q3
    go_wp2_with (refine wpList_store_row rfl 32 _ _ rfl (w.heap.size + 1) #[.int .i64 (room : Nat), .int .i64 (safe : Nat), .int .i64 (-1), .slice A2 safe c2, .bool false] rfl rfl 32 _ (P3) (by kernel_rfl) rfl (by simp [Value.oneCell']) ?_)
    have gf := grown_setRow (w := Y3) (g := w.heap.size + 1) #[.int .i64 (room : Nat), .int .i64 (safe : Nat), .int .i64 (-1), .slice A2 safe c2, .bool false]
    exact bodyPost_row rfl (w.heap.size + 1) 32 _ (0, 0) _ rfl (setRow_heap _ _ _ _ _ _ P3) Try.underlying32 rfl (by kernel_rfl) rfl ⟨A2, safe, c2, rfl, Sl.past S6 gf (fun b o e => by have := N2 b o e; omega), Or.inr (fun b o e => by have := N2 b o e; omega), hc2, B6.grown gf B6.size (fun j e => by injection e with e; omega)⟩
  · by_cases h2 : (n : Int) - (safe : Int) < m
    · have hy0 : y = (n : Int) - (safe : Int) := by have := HY.out; omega
      subst hy0
      obtain rfl : n = k := by rw [IntKind.wrap_i64] at hwk; omega
      have hwn : IntKind.i64.wrap (n : Int) = (n : Int) := by rw [IntKind.wrap_i64]; omega
      go_enter Try.func30, Try.ntmps30
      simp only [rdC]
      go_upto_region 5 with fail
      obtain ⟨X, hX⟩ : ∃ X, X = ((w.alloc (.cells #[.int .i64 (room : Nat), .int .i64 (safe : Nat), .int .i64 left, .slice A n c, .bool off] 32)).alloc (.cells #[.int .i64 0, .int .i64 0, .int .i64 0, .slice none 0 0, .bool false] 32)) := ⟨_, rfl⟩
      rw [← hX]
      have R : X.heap[w.heap.size]? = some (.cells #[.int .i64 (room : Nat), .int .i64 (safe : Nat), .int .i64 left, .slice A n c, .bool off] 32 (0, 0)) := by rw [hX]; exact row_alloc (heap_alloc_new w _) _
      have R1 : X.heap[w.heap.size + 1]? = some (.cells #[.int .i64 0, .int .i64 0, .int .i64 0, .slice none 0 0, .bool false] 32 (0, 0)) := by rw [hX]; exact heap_alloc2_new w _ _
      have BX : Below w.heap.size w X := by rw [hX]; exact ((Below.refl _ w).new _).new _
      have lX : w.heap.size + 2 ≤ X.heap.size := by rw [hX]; simp
      clear hX
      have SS := (HS.out.to (BX.new (.cells #[] 5))).take hkn
      rw [bs_take] at SS
      have RA := row_alloc R (.cells #[] 5)
      obtain ⟨a0, a1, a2, a3, a4⟩ := row5 RA
      obtain ⟨af0, af1, af2, af3, af4⟩ := free5 RA
      go_upto_region 6 with (first
        | (at_builtin; refine wpList_app u8 rfl (.tmp 21) (.tmp 28) rfl (Has.made0 (Below.refl _ X) _) rfl SS rfl (bs_one _) (by omega) (by simp only [maxLen]; omega) ?_; intro v2 w2 H2 g2 _; rw [List.nil_append, Nat.zero_add] at H2; obtain ⟨A2, c2, rfl, hc2, S2, -⟩ := H2.slice; have R := g2.row (show w.heap.size ≠ X.heap.size by omega) (row_alloc R _); have R1 := g2.row (show w.heap.size + 1 ≠ X.heap.size by omega) (row_alloc R1 _); clear a0 a1 a2 a3 a4 af0 af1 af2 af3 af4; obtain ⟨b0, b1, b2, b3, b4⟩ := row5 R; obtain ⟨bf0, bf1, bf2, bf3, bf4⟩ := free5 R)
        | fail)
      clear b0 b1 b2 b3 b4 bf0 bf1 bf2 bf3 bf4 SS RA g2
      have N2 := Has.newA H2
      have B2 := BX.call H2.bel
      clear H2
      obtain ⟨Y0, eY0, Q0, gY0, sY0⟩ := put5 (i := 3) R (.slice A2 n c2)
      rw [← eY0]
      clear eY0
      have Q0 : Y0.heap[w.heap.size]? = some (.cells #[.int .i64 (room : Nat), .int .i64 (safe : Nat), .int .i64 left, .slice A2 n c2, .bool off] 32 (0, 0)) := Q0
      have P0 := gY0.row (show w.heap.size + 1 ≠ w.heap.size by omega) R1
      have S3 := Sl.past S2 gY0 (fun b o e => by have := N2 b o e; omega)
      have B3 := B2.grown gY0 B2.size (fun j e => by injection e with e; omega)
      clear gY0 sY0 S2 B2 R R1
      obtain ⟨b0, b1, b2, b3, b4⟩ := row5 Q0
      obtain ⟨bf0, bf1, bf2, bf3, bf4⟩ := free5 Q0
      go_upto_region 7 with fail
      clear b0 bf0 b1 bf1 b2 bf2 b3 bf3 b4 bf4
      obtain ⟨Y1, eY1, Q1, gY1, sY1⟩ := put5 (i := 1) Q0 (.int .i64 (n : Nat))
      rw [← eY1]
      clear eY1
      have Q1 : Y1.heap[w.heap.size]? = some (.cells #[.int .i64 (room : Nat), .int .i64 (n : Nat), .int .i64 left, .slice A2 n c2, .bool off] 32 (0, 0)) := Q1
      have P1 := gY1.row (show w.heap.size + 1 ≠ w.heap.size by omega) P0
      have S4 := Sl.past S3 gY1 (fun b o e => by have := N2 b o e; omega)
      have B4 := B3.grown gY1 B3.size (fun j e => by injection e with e; omega)
      clear gY1 sY1 S3 B3 Q0 P0
      obtain ⟨b0, b1, b2, b3, b4⟩ := row5 Q1
      obtain ⟨bf0, bf1, bf2, bf3, bf4⟩ := free5 Q1
      go_upto_region 8 with fail
      clear b0 bf0 b1 bf1 b2 bf2 b3 bf3 b4 bf4
      obtain ⟨Y2, eY2, Q2, gY2, sY2⟩ := put5 (i := 2) Q1 (.int .i64 (-1))
      rw [← eY2]
      clear eY2
      have Q2 : Y2.heap[w.heap.size]? = some (.cells #[.int .i64 (room : Nat), .int .i64 (n : Nat), .int .i64 (-1), .slice A2 n c2, .bool off] 32 (0, 0)) := Q2
      have P2 := gY2.row (show w.heap.size + 1 ≠ w.heap.size by omega) P1
      have S5 := Sl.past S4 gY2 (fun b o e => by have := N2 b o e; omega)
      have B5 := B4.grown gY2 B4.size (fun j e => by injection e with e; omega)
      clear gY2 sY2 S4 B4 Q1 P1
      obtain ⟨b0, b1, b2, b3, b4⟩ := row5 Q2
      obtain ⟨bf0, bf1, bf2, bf3, bf4⟩ := free5 Q2
      go_upto_region 9 with fail
      clear b0 bf0 b1 bf1 b2 bf2 b3 bf3 b4 bf4
      obtain ⟨Y3, eY3, Q3, gY3, sY3⟩ := put5 (i := 4) Q2 (.bool false)
      rw [← eY3]
      clear eY3
      have Q3 : Y3.heap[w.heap.size]? = some (.cells #[.int .i64 (room : Nat), .int .i64 (n : Nat), .int .i64 (-1), .slice A2 n c2, .bool false] 32 (0, 0)) := Q3
      have P3 := gY3.row (show w.heap.size + 1 ≠ w.heap.size by omega) P2
      have S6 := Sl.past S5 gY3 (fun b o e => by have := N2 b o e; omega)
      have B6 := B5.grown gY3 B5.size (fun j e => by injection e with e; omega)
      clear gY3 sY3 S5 B5 Q2 P2
      obtain ⟨b0, b1, b2, b3, b4⟩ := row5 Q3
      obtain ⟨bf0, bf1, bf2, bf3, bf4⟩ := free5 Q3
      go_wp2_with (refine wpList_store_row rfl 32 _ _ rfl (w.heap.size + 1) #[.int .i64 (room : Nat), .int .i64 (n : Nat), .int .i64 (-1), .slice A2 n c2, .bool false] rfl rfl 32 _ (P3) (by kernel_rfl) rfl (by simp [Value.oneCell']) ?_)
      have gf := grown_setRow (w := Y3) (g := w.heap.size + 1) #[.int .i64 (room : Nat), .int .i64 (n : Nat), .int .i64 (-1), .slice A2 n c2, .bool false]
      exact bodyPost_row rfl (w.heap.size + 1) 32 _ (0, 0) _ rfl (setRow_heap _ _ _ _ _ _ P3) Try.underlying32 rfl (by kernel_rfl) rfl ⟨A2, n, c2, rfl, Sl.past S6 gf (fun b o e => by have := N2 b o e; omega), Or.inr (fun b o e => by have := N2 b o e; omega), hc2, B6.grown gf B6.size (fun j e => by injection e with e; omega)⟩
    · have hy0 : y = m := by have := HY.out; omega
      subst hy0
      go_enter Try.func30, Try.ntmps30
      simp only [rdC]
      go_upto_region 5 with fail
      obtain ⟨X, hX⟩ : ∃ X, X = ((w.alloc (.cells #[.int .i64 (room : Nat), .int .i64 (safe : Nat), .int .i64 left, .slice A n c, .bool off] 32)).alloc (.cells #[.int .i64 0, .int .i64 0, .int .i64 0, .slice none 0 0, .bool false] 32)) := ⟨_, rfl⟩
      rw [← hX]
      have R : X.heap[w.heap.size]? = some (.cells #[.int .i64 (room : Nat), .int .i64 (safe : Nat), .int .i64 left, .slice A n c, .bool off] 32 (0, 0)) := by rw [hX]; exact row_alloc (heap_alloc_new w _) _
      have R1 : X.heap[w.heap.size + 1]? = some (.cells #[.int .i64 0, .int .i64 0, .int .i64 0, .slice none 0 0, .bool false] 32 (0, 0)) := by rw [hX]; exact heap_alloc2_new w _ _
      have BX : Below w.heap.size w X := by rw [hX]; exact ((Below.refl _ w).new _).new _
      have lX : w.heap.size + 2 ≤ X.heap.size := by rw [hX]; simp
      clear hX
      have SS := (HS.out.to (BX.new (.cells #[] 5))).take hkn
      rw [bs_take] at SS
      have RA := row_alloc R (.cells #[] 5)
      obtain ⟨a0, a1, a2, a3, a4⟩ := row5 RA
      obtain ⟨af0, af1, af2, af3, af4⟩ := free5 RA
      go_upto_region 6 with (first
        | (at_builtin; refine wpList_app u8 rfl (.tmp 21) (.tmp 28) rfl (Has.made0 (Below.refl _ X) _) rfl SS rfl (bs_one _) (by omega) (by simp only [maxLen]; omega) ?_; intro v2 w2 H2 g2 _; rw [List.nil_append, Nat.zero_add] at H2; obtain ⟨A2, c2, rfl, hc2, S2, -⟩ := H2.slice; have R := g2.row (show w.heap.size ≠ X.heap.size by omega) (row_alloc R _); have R1 := g2.row (show w.heap.size + 1 ≠ X.heap.size by omega) (row_alloc R1 _); clear a0 a1 a2 a3 a4 af0 af1 af2 af3 af4; obtain ⟨b0, b1, b2, b3, b4⟩ := row5 R; obtain ⟨bf0, bf1, bf2, bf3, bf4⟩ := free5 R)
        | fail)
      clear b0 b1 b2 b3 b4 bf0 bf1 bf2 bf3 bf4 SS RA g2
      have N2 := Has.newA H2
      have B2 := BX.call H2.bel
      clear H2
      obtain ⟨Y0, eY0, Q0, gY0, sY0⟩ := put5 (i := 3) R (.slice A2 k c2)
      rw [← eY0]
      clear eY0
      have Q0 : Y0.heap[w.heap.size]? = some (.cells #[.int .i64 (room : Nat), .int .i64 (safe : Nat), .int .i64 left, .slice A2 k c2, .bool off] 32 (0, 0)) := Q0
      have P0 := gY0.row (show w.heap.size + 1 ≠ w.heap.size by omega) R1
      have S3 := Sl.past S2 gY0 (fun b o e => by have := N2 b o e; omega)
      have B3 := B2.grown gY0 B2.size (fun j e => by injection e with e; omega)
      clear gY0 sY0 S2 B2 R R1
      obtain ⟨b0, b1, b2, b3, b4⟩ := row5 Q0
      obtain ⟨bf0, bf1, bf2, bf3, bf4⟩ := free5 Q0
      go_upto_region 7 with fail
      clear b0 bf0 b1 bf1 b2 bf2 b3 bf3 b4 bf4
      obtain ⟨Y1, eY1, Q1, gY1, sY1⟩ := put5 (i := 1) Q0 (.int .i64 (k : Nat))
      rw [← eY1]
      clear eY1
      have Q1 : Y1.heap[w.heap.size]? = some (.cells #[.int .i64 (room : Nat), .int .i64 (k : Nat), .int .i64 left, .slice A2 k c2, .bool off] 32 (0, 0)) := Q1
      have P1 := gY1.row (show w.heap.size + 1 ≠ w.heap.size by omega) P0
      have S4 := Sl.past S3 gY1 (fun b o e => by have := N2 b o e; omega)
      have B4 := B3.grown gY1 B3.size (fun j e => by injection e with e; omega)
      clear gY1 sY1 S3 B3 Q0 P0
      obtain ⟨b0, b1, b2, b3, b4⟩ := row5 Q1
      obtain ⟨bf0, bf1, bf2, bf3, bf4⟩ := free5 Q1
      go_upto_region 8 with fail
      clear b0 bf0 b1 bf1 b2 bf2 b3 bf3 b4 bf4
      obtain ⟨Y2, eY2, Q2, gY2, sY2⟩ := put5 (i := 2) Q1 (.int .i64 (-1))
      rw [← eY2]
      clear eY2
      have Q2 : Y2.heap[w.heap.size]? = some (.cells #[.int .i64 (room : Nat), .int .i64 (k : Nat), .int .i64 (-1), .slice A2 k c2, .bool off] 32 (0, 0)) := Q2
      have P2 := gY2.row (show w.heap.size + 1 ≠ w.heap.size by omega) P1
      have S5 := Sl.past S4 gY2 (fun b o e => by have := N2 b o e; omega)
      have B5 := B4.grown gY2 B4.size (fun j e => by injection e with e; omega)
      clear gY2 sY2 S4 B4 Q1 P1
      obtain ⟨b0, b1, b2, b3, b4⟩ := row5 Q2
      obtain ⟨bf0, bf1, bf2, bf3, bf4⟩ := free5 Q2
      go_upto_region 9 with fail
      clear b0 bf0 b1 bf1 b2 bf2 b3 bf3 b4 bf4
      obtain ⟨Y3, eY3, Q3, gY3, sY3⟩ := put5 (i := 4) Q2 (.bool false)
      rw [← eY3]
      clear eY3
      have Q3 : Y3.heap[w.heap.size]? = some (.cells #[.int .i64 (room : Nat), .int .i64 (k : Nat), .int .i64 (-1), .slice A2 k c2, .bool false] 32 (0, 0)) := Q3
      have P3 := gY3.row (show w.heap.size + 1 ≠ w.heap.size by omega) P2
      have S6 := Sl.past S5 gY3 (fun b o e => by have := N2 b o e; omega)
      have B6 := B5.grown gY3 B5.size (fun j e => by injection e with e; omega)
      clear gY3 sY3 S5 B5 Q2 P2
      obtain ⟨b0, b1, b2, b3, b4⟩ := row5 Q3
      obtain ⟨bf0, bf1, bf2, bf3, bf4⟩ := free5 Q3
      go_wp2_with (refine wpList_store_row rfl 32 _ _ rfl (w.heap.size + 1) #[.int .i64 (room : Nat), .int .i64 (k : Nat), .int .i64 (-1), .slice A2 k c2, .bool false] rfl rfl 32 _ (P3) (by kernel_rfl) rfl (by simp [Value.oneCell']) ?_)
      have gf := grown_setRow (w := Y3) (g := w.heap.size + 1) #[.int .i64 (room : Nat), .int .i64 (k : Nat), .int .i64 (-1), .slice A2 k c2, .bool false]
      exact bodyPost_row rfl (w.heap.size + 1) 32 _ (0, 0) _ rfl (setRow_heap _ _ _ _ _ _ P3) Try.underlying32 rfl (by kernel_rfl) rfl ⟨A2, k, c2, rfl, Sl.past S6 gf (fun b o e => by have := N2 b o e; omega), Or.inr (fun b o e => by have := N2 b o e; omega), hc2, B6.grown gf B6.size (fun j e => by injection e with e; omega)⟩
theorem refCut9_any (d : D) (m : Int) (A : Option Addr) (n c : Nat) (w : World) (hd : d.Ok) (hs : Sl w w.heap.size A n (bs d.b)) (hc : n ≤ c) :
    Calls Try.prog 28 #[.agg (rdC d A n c), .int .i64 m] w (RetD w A n (cut d m).1 (cut d m).2) := by
  obtain ⟨room, safe, left, b, off⟩ := d
  have hn : b.length = n := by simpa using hs.len
  have HS := Lib.hid hs
  have hl := hd.left
  have hh := hd.hi
  have hsf := hd.safe
  have hln := hd.len
  have hrm := hd.room
  dsimp only at hl hh hs hsf hln hrm
  rw [hn] at hsf hln
  clear hs
  cases off
  · by_cases h1 : m < 0
    · have e : cut ⟨room, safe, left, b, false⟩ m = (⟨room, safe, left, b, false⟩, 2) := by simp [cut, h1]
      rw [e]
      clear e hd hl hh
      go_enter Try.func28, Try.ntmps28
      simp only [rdC]
      go_wp2_with fail
      exact bodyPost_row_tmp rfl (w.heap.size + 1) 32 _ (0, 0) _ _ rfl (heap_alloc2_new _ _ _) Try.underlying32 rfl (by kernel_rfl) rfl rfl ⟨A, n, c, rfl, HS.out.to (((Below.refl _ w).new _).new _), From.refl _ _ _, hc, ((Below.refl _ w).new _).new _⟩
    · by_cases h2 : (n : Int) < m
      · have e : cut ⟨room, safe, left, b, false⟩ m = (⟨room, safe, left, b, false⟩, 2) := by simp [cut, h1, hn, h2]
        rw [e]
        clear e hd hl hh
        go_enter Try.func28, Try.ntmps28
        simp only [rdC]
        go_wp2_with fail
        exact bodyPost_row_tmp rfl (w.heap.size + 1) 32 _ (0, 0) _ _ rfl (heap_alloc2_new _ _ _) Try.underlying32 rfl (by kernel_rfl) rfl rfl ⟨A, n, c, rfl, HS.out.to (((Below.refl _ w).new _).new _), From.refl _ _ _, hc, ((Below.refl _ w).new _).new _⟩
      · obtain ⟨k, rfl⟩ : ∃ k : Nat, m = k := ⟨m.toNat, by omega⟩
        have hkn : k ≤ n := by omega
        by_cases h0 : left = 0
        · have e : cut ⟨room, safe, left, b, false⟩ (k : Int) = (⟨room, safe, left, b, true⟩, 6) := by simp [cut, h0, hn, hkn]
          rw [e]
          subst h0
          clear e hd hl hh
          have KS := Lib.hid (fun X => refSpark_none room safe false A n c X)
          go_enter Try.func28, Try.ntmps28
          simp only [rdC]
          go_wp2_with fail
          refine (KS.out _).mono ?_
          rintro e w1 ⟨rfl, b1⟩
          have r0 := b1.row (by simp; omega) (row_alloc (heap_alloc_new w _) _)
          have r1 := b1.row (by simp) (heap_alloc2_new w _ _)
          have B1 := (((Below.refl _ w).new _).new _).call b1
          have l1 : w.heap.size + 2 ≤ w1.heap.size := by have h := b1.size; simp at h; omega
          clear b1
          go_wp2_with (refine wpList_store_row rfl 32 _ _ rfl (w.heap.size + 1) #[.int .i64 (room : Nat), .int .i64 (safe : Nat), .int .i64 0, .slice A n c, .bool true] rfl rfl 32 _ (row_alloc r1 _) (by kernel_rfl) rfl (by simp [Value.oneCell']) ?_)
          have bf := fun o cs => below_setRow (B1.new o) (show w.heap.size ≤ w.heap.size + 1 by omega) cs
          exact bodyPost_row_tmp rfl (w.heap.size + 1) 32 _ (0, 0) _ _ rfl (setRow_heap _ _ _ _ _ _ (row_alloc r1 _)) Try.underlying32 rfl (by kernel_rfl) rfl rfl ⟨A, n, c, rfl, HS.out.to (bf _ _), From.refl _ _ _, hc, bf _ _⟩
        · by_cases hks : k < safe
          · have hks2 : (k : Int) < (safe : Int) := by omega
            have e : cut ⟨room, safe, left, b, false⟩ (k : Int) = (⟨room, k, spend left, b.take k, false⟩, 0) := by
              have hmin : min safe k = k := by omega
              simp [cut, h0, hn, hkn, hmin]
            rw [e]
            clear e
            obtain ⟨l', hl'⟩ : ∃ l', l' = spend left := ⟨_, rfl⟩
            have KS := Lib.hid (fun X => refSpark_some room safe left l' false A n c X hl hh h0 hl')
            rw [← hl']
            clear hl' hd hl hh h0
            have z0 : (0 : Int) ≤ (k : Int) := by omega
            have z1 : (k : Int) ≤ (c : Int) := by omega
            have z2 : ¬ (k : Int) < 0 := by omega
            go_enter Try.func28, Try.ntmps28
            simp only [rdC]
            go_wp2_with fail
            refine (KS.out _).mono ?_
            rintro e w1 ⟨rfl, b1⟩
            have r0 := b1.row (by simp; omega) (row_alloc (heap_alloc_new w _) _)
            have r1 := b1.row (by simp) (heap_alloc2_new w _ _)
            have B1 := (((Below.refl _ w).new _).new _).call b1
            have l1 : w.heap.size + 2 ≤ w1.heap.size := by have h := b1.size; simp at h; omega
            clear b1
            go_upto_region 8 with fail
            obtain ⟨X, hX⟩ : ∃ X, X = w1.alloc (.cells #[.int .i64 (room : Nat), .int .i64 (safe : Nat), .int .i64 l', .slice A n c, .bool false] 32) := ⟨_, rfl⟩
            rw [← hX]
            have R6 : X.heap[w1.heap.size]? = some (.cells #[.int .i64 (room : Nat), .int .i64 (safe : Nat), .int .i64 l', .slice A n c, .bool false] 32 (0, 0)) := by rw [hX]; exact heap_alloc_new _ _
            have R0 := row_alloc r0 (.cells #[.int .i64 (room : Nat), .int .i64 (safe : Nat), .int .i64 l', .slice A n c, .bool false] 32)
            have R1 := row_alloc r1 (.cells #[.int .i64 (room : Nat), .int .i64 (safe : Nat), .int .i64 l', .slice A n c, .bool false] 32)
            rw [← hX] at R0 R1
            have BX : Below w.heap.size w X := by rw [hX]; exact B1.new _
            have lX : w1.heap.size < X.heap.size := row_lt R6
            clear hX r0 r1 B1
            have SS := (HS.out.to (BX.new (.cells #[] 5))).take hkn
            rw [bs_take] at SS
            have RA := row_alloc R0 (.cells #[] 5)
            obtain ⟨a0, a1, a2, a3, a4⟩ := row5 RA
            obtain ⟨af0, af1, af2, af3, af4⟩ := free5 RA
            go_upto_region 9 with (first
              | (at_builtin; refine wpList_app u8 rfl (.tmp 29) (.tmp 33) rfl (Has.made0 (Below.refl _ X) _) rfl SS rfl (bs_one _) (by omega) (by simp only [maxLen]; omega) ?_; intro v2 w2 H2 g2 _; rw [List.nil_append, Nat.zero_add] at H2; obtain ⟨A2, c2, rfl, hc2, S2, -⟩ := H2.slice; have R6 := g2.row (show w1.heap.size ≠ X.heap.size by omega) (row_alloc R6 _); have R1 := g2.row (show w.heap.size + 1 ≠ X.heap.size by omega) (row_alloc R1 _); clear a0 a1 a2 a3 a4 af0 af1 af2 af3 af4; obtain ⟨b0, b1, b2, b3, b4⟩ := row5 R6; obtain ⟨bf0, bf1, bf2, bf3, bf4⟩ := free5 R6)
              | fail)
            clear b0 b1 b2 b3 b4 bf0 bf1 bf2 bf3 bf4 SS RA g2 R0
            have N2 := Has.newA H2
            have B2 := BX.call H2.bel
            clear H2
            obtain ⟨Y0, eY0, Q0, gY0, sY0⟩ := put5 (i := 3) R6 (.slice A2 k c2)
            rw [← eY0]
            clear eY0
            have Q0 : Y0.heap[w1.heap.size]? = some (.cells #[.int .i64 (room : Nat), .int .i64 (safe : Nat), .int .i64 l', .slice A2 k c2, .bool false] 32 (0, 0)) := Q0
            have P0 := gY0.row (show w.heap.size + 1 ≠ w1.heap.size by omega) R1
            have S3 := Sl.past S2 gY0 (fun b o e => by have := N2 b o e; omega)
            have B3 := B2.grown gY0 B2.size (fun j e => by injection e with e; omega)
            clear gY0 sY0 S2 B2 R6 R1
            obtain ⟨b0, b1, b2, b3, b4⟩ := row5 Q0
            obtain ⟨bf0, bf1, bf2, bf3, bf4⟩ := free5 Q0
            go_upto_region 11 with fail
            clear b0 bf0 b1 bf1 b2 bf2 b3 bf3 b4 bf4
            obtain ⟨Y1, eY1, Q1, gY1, sY1⟩ := put5 (i := 1) Q0 (.int .i64 (k : Nat))
            rw [← eY1]
            clear eY1
            have Q1 : Y1.heap[w1.heap.size]? = some (.cells #[.int .i64 (room : Nat), .int .i64 (k : Nat), .int .i64 l', .slice A2 k c2, .bool false] 32 (0, 0)) := Q1
            have P1 := gY1.row (show w.heap.size + 1 ≠ w1.heap.size by omega) P0
            have S4 := Sl.past S3 gY1 (fun b o e => by have := N2 b o e; omega)
            have B4 := B3.grown gY1 B3.size (fun j e => by injection e with e; omega)
            clear gY1 sY1 S3 B3 Q0 P0
            obtain ⟨b0, b1, b2, b3, b4⟩ := row5 Q1
            obtain ⟨bf0, bf1, bf2, bf3, bf4⟩ := free5 Q1
            go_wp2_with (refine wpList_store_row rfl 32 _ _ rfl (w.heap.size + 1) #[.int .i64 (room : Nat), .int .i64 (k : Nat), .int .i64 l', .slice A2 k c2, .bool false] rfl rfl 32 _ (P1) (by kernel_rfl) rfl (by simp [Value.oneCell']) ?_)
            have gf := grown_setRow (w := Y1) (g := w.heap.size + 1) #[.int .i64 (room : Nat), .int .i64 (k : Nat), .int .i64 l', .slice A2 k c2, .bool false]
            exact bodyPost_row_tmp rfl (w.heap.size + 1) 32 _ (0, 0) _ _ rfl (setRow_heap _ _ _ _ _ _ P1) Try.underlying32 rfl (by kernel_rfl) rfl rfl ⟨A2, k, c2, rfl, Sl.past S4 gf (fun b o e => by have := N2 b o e; omega), Or.inr (fun b o e => by have := N2 b o e; omega), hc2, B4.grown gf B4.size (fun j e => by injection e with e; omega)⟩
          · have hks2 : ¬ (k : Int) < (safe : Int) := by omega
            have e : cut ⟨room, safe, left, b, false⟩ (k : Int) = (⟨room, safe, spend left, b.take k, false⟩, 0) := by
              have hmin : min safe k = safe := by omega
              simp [cut, h0, hn, hkn, hmin]
            rw [e]
            clear e
            obtain ⟨l', hl'⟩ : ∃ l', l' = spend left := ⟨_, rfl⟩
            have KS := Lib.hid (fun X => refSpark_some room safe left l' false A n c X hl hh h0 hl')
            rw [← hl']
            clear hl' hd hl hh h0
            have z0 : (0 : Int) ≤ (k : Int) := by omega
            have z1 : (k : Int) ≤ (c : Int) := by omega
            have z2 : ¬ (k : Int) < 0 := by omega
            go_enter Try.func28, Try.ntmps28
            simp only [rdC]
            go_wp2_with fail
            refine (KS.out _).mono ?_
            rintro e w1 ⟨rfl, b1⟩
            have r0 := b1.row (by simp; omega) (row_alloc (heap_alloc_new w _) _)
            have r1 := b1.row (by simp) (heap_alloc2_new w _ _)
            have B1 := (((Below.refl _ w).new _).new _).call b1
            have l1 : w.heap.size + 2 ≤ w1.heap.size := by have h := b1.size; simp at h; omega
            clear b1
            go_upto_region 8 with fail
            obtain ⟨X, hX⟩ : ∃ X, X = w1.alloc (.cells #[.int .i64 (room : Nat), .int .i64 (safe : Nat), .int .i64 l', .slice A n c, .bool false] 32) := ⟨_, rfl⟩
            rw [← hX]
            have R6 : X.heap[w1.heap.size]? = some (.cells #[.int .i64 (room : Nat), .int .i64 (safe : Nat), .int .i64 l', .slice A n c, .bool false] 32 (0, 0)) := by rw [hX]; exact heap_alloc_new _ _
            have R0 := row_alloc r0 (.cells #[.int .i64 (room : Nat), .int .i64 (safe : Nat), .int .i64 l', .slice A n c, .bool false] 32)
            have R1 := row_alloc r1 (.cells #[.int .i64 (room : Nat), .int .i64 (safe : Nat), .int .i64 l', .slice A n c, .bool false] 32)
            rw [← hX] at R0 R1
            have BX : Below w.heap.size w X := by rw [hX]; exact B1.new _
            have lX : w1.heap.size < X.heap.size := row_lt R6
            clear hX r0 r1 B1
            have SS := (HS.out.to (BX.new (.cells #[] 5))).take hkn
            rw [bs_take] at SS
            have RA := row_alloc R0 (.cells #[] 5)
            obtain ⟨a0, a1, a2, a3, a4⟩ := row5 RA
            obtain ⟨af0, af1, af2, af3, af4⟩ := free5 RA
            go_upto_region 9 with (first
              | (at_builtin; refine wpList_app u8 rfl (.tmp 29) (.tmp 33) rfl (Has.made0 (Below.refl _ X) _) rfl SS rfl (bs_one _) (by omega) (by simp only [maxLen]; omega) ?_; intro v2 w2 H2 g2 _; rw [List.nil_append, Nat.zero_add] at H2; obtain ⟨A2, c2, rfl, hc2, S2, -⟩ := H2.slice; have R6 := g2.row (show w1.heap.size ≠ X.heap.size by omega) (row_alloc R6 _); have R1 := g2.row (show w.heap.size + 1 ≠ X.heap.size by omega) (row_alloc R1 _); clear a0 a1 a2 a3 a4 af0 af1 af2 af3 af4; obtain ⟨b0, b1, b2, b3, b4⟩ := row5 R6; obtain ⟨bf0, bf1, bf2, bf3, bf4⟩ := free5 R6)
              | fail)
            clear b0 b1 b2 b3 b4 bf0 bf1 bf2 bf3 bf4 SS RA g2 R0
            have N2 := Has.newA H2
            have B2 := BX.call H2.bel
            clear H2
            obtain ⟨Y0, eY0, Q0, gY0, sY0⟩ := put5 (i := 3) R6 (.slice A2 k c2)
            rw [← eY0]
            clear eY0
            have Q0 : Y0.heap[w1.heap.size]? = some (.cells #[.int .i64 (room : Nat), .int .i64 (safe : Nat), .int .i64 l', .slice A2 k c2, .bool false] 32 (0, 0)) := Q0
            have P0 := gY0.row (show w.heap.size + 1 ≠ w1.heap.size by omega) R1
            have S3 := Sl.past S2 gY0 (fun b o e => by have := N2 b o e; omega)
            have B3 := B2.grown gY0 B2.size (fun j e => by injection e with e; omega)
            clear gY0 sY0 S2 B2 R6 R1
            obtain ⟨b0, b1, b2, b3, b4⟩ := row5 Q0
            obtain ⟨bf0, bf1, bf2, bf3, bf4⟩ := free5 Q0
            go_wp2_with (refine wpList_store_row rfl 32 _ _ rfl (w.heap.size + 1) #[.int .i64 (room : Nat), .int .i64 (safe : Nat), .int .i64 l', .slice A2 k c2, .bool false] rfl rfl 32 _ (P0) (by kernel_rfl) rfl (by simp [Value.oneCell']) ?_)
            have gf := grown_setRow (w := Y0) (g := w.heap.size + 1) #[.int .i64 (room : Nat), .int .i64 (safe : Nat), .int .i64 l', .slice A2 k c2, .bool false]
            exact bodyPost_row_tmp rfl (w.heap.size + 1) 32 _ (0, 0) _ _ rfl (setRow_heap _ _ _ _ _ _ P0) Try.underlying32 rfl (by kernel_rfl) rfl rfl ⟨A2, k, c2, rfl, Sl.past S3 gf (fun b o e => by have := N2 b o e; omega), Or.inr (fun b o e => by have := N2 b o e; omega), hc2, B3.grown gf B3.size (fun j e => by injection e with e; omega)⟩
  · have e : cut ⟨room, safe, left, b, true⟩ m = (⟨room, safe, left, b, true⟩, 6) := by simp [cut]
    rw [e]
    clear e hd hl hh
    go_enter Try.func28, Try.ntmps28
    simp only [rdC]
    go_wp2_with fail
    exact bodyPost_row_tmp rfl (w.heap.size + 1) 32 _ (0, 0) _ _ rfl (heap_alloc2_new _ _ _) Try.underlying32 rfl (by kernel_rfl) rfl rfl ⟨A, n, c, rfl, HS.out.to (((Below.refl _ w).new _).new _), From.refl _ _ _, hc, ((Below.refl _ w).new _).new _⟩
end Go.Proofs.Ytljiehnpknbohaa.DkW
