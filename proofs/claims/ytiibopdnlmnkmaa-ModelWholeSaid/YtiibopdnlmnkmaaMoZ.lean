/- The walk of ModelWhole. -/
import Derived.Test.YtiibopdnlmnkmaaMoT
import Derived.Test.YtiibopdnlmnkmaaMoV
set_option linter.unusedVariables false
set_option linter.unusedSimpArgs false
namespace Go.Proofs.Ytiibopdnlmnkmaa.MoW
open Go.RowKit Go.Proofs.Ytiibopdnlmnkmaa Go.Proofs.Ytiibopdnlmnkmaa.Mo Go.Proofs.Ytiibopdnlmnkmaa.Ask Go.Proofs.Ytiibopdnlmnkmaa.AskW
theorem row5 {w : World} {g : Nat} {v0 v1 v2 v3 v4 : Value} {t : TypeId} (h : w.heap[g]? = some (.cells #[v0, v1, v2, v3, v4] t (0, 0))) :
    w.cell? ⟨g, 0, none⟩ = some v0 ∧ w.cell? ⟨g, 1, none⟩ = some v1 ∧ w.cell? ⟨g, 2, none⟩ = some v2 ∧ w.cell? ⟨g, 3, none⟩ = some v3 ∧ w.cell? ⟨g, 4, none⟩ = some v4 :=
  ⟨cell_of_row w g 0 _ _ _ h, cell_of_row w g 1 _ _ _ h, cell_of_row w g 2 _ _ _ h, cell_of_row w g 3 _ _ _ h, cell_of_row w g 4 _ _ _ h⟩
/-- The blocks that are made ahead of the first request. -/
structure Wh (w X : World) (A L n c : Nat) (pw ph : Bool) (D : Array Value) : Prop where
  a : X.heap[w.heap.size]? = some (.cells #[.int .i64 (A : Nat), .int .i64 (L : Nat), .bool true, .bool pw, .bool ph] 49 (0, 0))
  b : X.heap[w.heap.size + 1]? = some (.cells #[.int .i64 (A : Nat), .int .i64 (L : Nat), .bool true, .bool pw, .bool ph] 49 (0, 0))
  s : X.heap[w.heap.size + 1 + 1]? = some (.cells #[.slice none 0 0, .slice none 0 0, .slice (some ⟨w.heap.size + 1, 0, none⟩) 1 1, .slice none 0 0] 24 (0, 0))
  h : X.heap[w.heap.size + 1 + 1 + 1]? = some (.cells (Array.replicate n (.int .u16 0)) 29 (0, 0))
  m : X.heap[w.heap.size + 1 + 1 + 1 + 1]? = some (.cells #[.slice none 0 0, .slice none 0 0, .slice (some ⟨w.heap.size + 1 + 1 + 1, 0, none⟩) n n, .slice none 0 0] 28 (0, 0))
  d : X.heap[w.heap.size + 1 + 1 + 1 + 1 + 1]? = some (.cells D 29 (0, 0))
  bel : Below w.heap.size w X
theorem six_rows (w : World) (a b s h m d : Obj) : ((((((w.alloc a).alloc b).alloc s).alloc h).alloc m).alloc d).heap[w.heap.size]? = some a ∧ ((((((w.alloc a).alloc b).alloc s).alloc h).alloc m).alloc d).heap[w.heap.size + 1]? = some b ∧ ((((((w.alloc a).alloc b).alloc s).alloc h).alloc m).alloc d).heap[w.heap.size + 1 + 1]? = some s ∧
    ((((((w.alloc a).alloc b).alloc s).alloc h).alloc m).alloc d).heap[w.heap.size + 1 + 1 + 1]? = some h ∧ ((((((w.alloc a).alloc b).alloc s).alloc h).alloc m).alloc d).heap[w.heap.size + 1 + 1 + 1 + 1]? = some m ∧ ((((((w.alloc a).alloc b).alloc s).alloc h).alloc m).alloc d).heap[w.heap.size + 1 + 1 + 1 + 1 + 1]? = some d := by
  refine ⟨row_alloc (row_alloc (row_alloc (row_alloc (row_alloc (heap_alloc_new w a) b) s) h) m) d, row_alloc (row_alloc (row_alloc (row_alloc (heap_alloc2_new w a b) s) h) m) d, row_alloc (row_alloc (row_alloc (row_third w a b s) h) m) d, ?_, ?_, ?_⟩
  · refine row_alloc (row_alloc ?_ _) _
    rw [show w.heap.size + 1 + 1 + 1 = (((w.alloc a).alloc b).alloc s).heap.size from by simp]; exact heap_alloc_new _ _
  · refine row_alloc ?_ _
    rw [show w.heap.size + 1 + 1 + 1 + 1 = ((((w.alloc a).alloc b).alloc s).alloc h).heap.size from by simp]; exact heap_alloc_new _ _
  · rw [show w.heap.size + 1 + 1 + 1 + 1 + 1 = (((((w.alloc a).alloc b).alloc s).alloc h).alloc m).heap.size from by simp]; exact heap_alloc_new _ _
def upTo (c : Nat) : List Nat := (List.range c).map fun j => j + 1
theorem upTo_length (c : Nat) : (upTo c).length = c := by simp [upTo]
def upCells (c i : Nat) : Array Value := fillTo (.int .u16 0) (fun j => .int .u16 ((j : Int) + 1)) c i
theorem upCells_full (c : Nat) : (upCells c c).toList = ws (upTo c) := by
  unfold upCells
  rw [fillTo_full]
  unfold ws upTo
  rw [List.map_map]
  rfl
theorem Wh.put {w X : World} {A L n c i : Nat} {pw ph : Bool} (E : Wh w X A L n c pw ph (upCells c i)) :
    Wh w (X.setCell ⟨w.heap.size + 1 + 1 + 1 + 1 + 1, i, none⟩ (.int .u16 ((i : Int) + 1))) A L n c pw ph (upCells c (i + 1)) := by
  have g := grown_setCell X (w.heap.size + 1 + 1 + 1 + 1 + 1) i (.int .u16 ((i : Int) + 1))
  refine ⟨g.row (by omega) E.a, g.row (by omega) E.b, g.row (by omega) E.s, g.row (by omega) E.h, g.row (by omega) E.m, ?_, E.bel.setCell (by show _ ≤ w.heap.size + 1 + 1 + 1 + 1 + 1; omega) _⟩
  have h := heap_setCell_same X (w.heap.size + 1 + 1 + 1 + 1 + 1) i _ _ (.int .u16 ((i : Int) + 1)) E.d
  rw [h]
  unfold upCells
  rw [← fillTo_set]
theorem keep44 {X : World} {g1 g2 : Nat} {t1 t2 : TypeId} {y0 y1 y2 y3 u0 u1 u2 u3 : Value} (r0 : X.heap[g1]? = some (.cells #[y0, y1, y2, y3] t1 (0, 0))) (r1 : X.heap[g2]? = some (.cells #[u0, u1, u2, u3] t2 (0, 0))) :
    X.cell? ⟨g1, 0, none⟩ = some y0 ∧ X.cell? ⟨g1, 1, none⟩ = some y1 ∧ X.cell? ⟨g1, 2, none⟩ = some y2 ∧ X.cell? ⟨g1, 3, none⟩ = some y3 ∧ X.cell? ⟨g2, 0, none⟩ = some u0 ∧ X.cell? ⟨g2, 1, none⟩ = some u1 ∧ X.cell? ⟨g2, 2, none⟩ = some u2 ∧ X.cell? ⟨g2, 3, none⟩ = some u3 := by
  obtain ⟨y0, y1, y2, y3⟩ := row4 r0
  obtain ⟨h0, h1, h2, h3⟩ := row4 r1
  exact ⟨y0, y1, y2, y3, h0, h1, h2, h3⟩
theorem upTo_one (i : Nat) (h : 1 ≤ i) : (ws (upTo i)).take 1 = ws [1] := by
  obtain ⟨j, rfl⟩ : ∃ j, i = j + 1 := ⟨i - 1, by omega⟩
  simp [upTo, ws, List.range_succ_eq_map]
def FarW (k : Nat) (A : Option Addr) (n : Nat) : Prop := 0 < n → ∀ b o, A = some (⟨b, o, none⟩ : Addr) → b ≠ k
def FarM (k : Nat) (y : Sp) : Prop := FarW k y.a.A y.a.n ∧ FarW k y.b.A y.b.n ∧ FarW k y.c.A y.c.n ∧ FarW k y.d.A y.d.n
theorem FarW.new {X : World} {A : Option Addr} {n : Nat} {xs : List Value} (h : Sl X X.heap.size A n xs) : FarW X.heap.size A n := fun hn b o e => by
  obtain ⟨b', o', e', hb, _⟩ := h.2 hn
  rw [e] at e'
  injection e' with e'
  injection e' with e1 _ _
  omega
theorem FarM.new {X : World} {y : Sp} {M : Mem} (h : MmOk X y M) : FarM X.heap.size y := ⟨FarW.new h.coils, FarW.new h.inputs, FarW.new h.holding, FarW.new h.words⟩
theorem FarM.old {B k : Nat} {y : Sp} (h1 : New B y.a.A) (h2 : New B y.b.A) (h3 : New B y.c.A) (h4 : New B y.d.A) (hk : k < B) : FarM k y :=
  ⟨fun _ b o e => by have := h1 b o e; omega, fun _ b o e => by have := h2 b o e; omega, fun _ b o e => by have := h3 b o e; omega, fun _ b o e => by have := h4 b o e; omega⟩
theorem Sl.past {X Y : World} {k : Nat} {A : Option Addr} {n : Nat} {xs : List Value} (h : Sl X X.heap.size A n xs) (g : X.grownBy Y (some k)) (o : FarW k A n) : Sl Y Y.heap.size A n xs := by
  by_cases hn : 0 < n
  · exact h.grown g (fun b o' e e' => by injection e' with e'; exact o hn b o' e e'.symm)
  · exact ⟨h.1, fun h0 => absurd h0 (by omega)⟩
theorem MmOk.past {X Y : World} {k : Nat} {y : Sp} {M : Mem} (h : MmOk X y M) (g : X.grownBy Y (some k)) (o : FarM k y) : MmOk Y y M :=
  ⟨Sl.past h.coils g o.1, Sl.past h.inputs g o.2.1, Sl.past h.holding g o.2.2.1, Sl.past h.words g o.2.2.2⟩
set_option maxRecDepth 10000 in
set_option maxHeartbeats 4000000 in
theorem modelWhole_any (lo a0 m0 : Nat) (ph pw : Bool) (f0 c0 : Nat) (w : World) (h0 : lo < 256) (h1 : a0 < 256) (h2 : m0 < 256) (h3 : f0 < 256) (h4 : c0 < 256) :
    Calls Try.prog 6 #[.int .u8 (lo : Nat), .int .u8 (a0 : Nat), .int .u8 (m0 : Nat), .bool ph, .bool pw, .int .u8 (f0 : Nat), .int .u8 (c0 : Nat)] w fun e w' => e = .returned (.bool true) ∧ Below w.heap.size w w' := by
  obtain ⟨n, hn⟩ : ∃ n, n = 20 + lo % 41 := ⟨_, rfl⟩
  obtain ⟨A, hA⟩ : ∃ A, A = a0 % 10 := ⟨_, rfl⟩
  obtain ⟨L, hL⟩ : ∃ L, L = 1 + m0 % 10 := ⟨_, rfl⟩
  have hn0 : 20 ≤ n ∧ n ≤ 60 := by omega
  obtain ⟨k, hk⟩ : ∃ k, k = f0 % n := ⟨_, rfl⟩
  obtain ⟨c, hc⟩ : ∃ c, c = 1 + c0 % 20 := ⟨_, rfl⟩
  have hk0 : k < n := by rw [hk]; exact Nat.mod_lt _ (by omega)
  have hA0 : A ≤ 9 := by omega
  have hL0 : 1 ≤ L ∧ L ≤ 10 := by omega
  have hc0 : 1 ≤ c ∧ c ≤ 20 := by omega
  have HN := Lib.hid (show 20 + (lo : Int) % 41 = (n : Int) by omega)
  have HA := Lib.hid (show (a0 : Int) % 10 = (A : Int) by omega)
  have HL := Lib.hid (show 1 + (m0 : Int) % 10 = (L : Int) by omega)
  have HC := Lib.hid (show 1 + (c0 : Int) % 20 = (c : Int) by omega)
  have hkm : Int.tmod (f0 : Int) (n : Int) = (k : Int) := by rw [hk, Int.tmod_eq_emod_of_nonneg (by omega)]; first | rfl | exact (Int.natCast_emod f0 n).symm | (push_cast; rfl) | simp
  have HK := Lib.hid (show (f0 : Int) % (n : Int) = (k : Int) by rw [hk]; first | rfl | exact (Int.natCast_emod f0 n).symm | (push_cast; rfl) | simp)
  have hnz : ¬ ((n : Int) = 0) := by omega
  clear hn hA hL hk hc
  go_enter Try.func6, Try.ntmps6
  go_upto_region 2 with fail
  rw [HN.out]
  go_upto_region 3 with fail
  rw [HA.out, HL.out]
  go_upto_region 5 with (first
    | (at_make; refine wpList_makeN (z := .int .u16 0) Try.underlying26 (i := _) rfl rfl rfl rfl rfl (.tmp 46) (.tmp 46) rfl n rfl rfl (by show 2 * n ≤ _; omega) (by omega) ?_)
    | fail)
  go_upto_region 6 with fail
  first | rw [HK.out, HC.out] | rw [HC.out]
  go_upto_region 7 with (first
    | (at_make; refine wpList_makeN (z := .int .u16 0) Try.underlying26 (i := _) rfl rfl rfl rfl rfl (.tmp 57) (.tmp 57) rfl c rfl rfl (by show 2 * c ≤ _; omega) (by omega) ?_)
    | fail)
  obtain ⟨W6, hW6⟩ : ∃ W6, W6 = (((((w.alloc (.cells #[.int .i64 (A : Nat), .int .i64 (L : Nat), .bool true, .bool pw, .bool ph] 49)).alloc (.cells #[.int .i64 (A : Nat), .int .i64 (L : Nat), .bool true, .bool pw, .bool ph] 49)).alloc (.cells #[.slice none 0 0, .slice none 0 0, .slice (some ⟨w.heap.size + 1, 0, none⟩) 1 1, .slice none 0 0] 24)).alloc (.cells (Array.replicate n (.int .u16 0)) 29)).alloc (.cells #[.slice none 0 0, .slice none 0 0, .slice (some ⟨w.heap.size + 1 + 1 + 1, 0, none⟩) n n, .slice none 0 0] 28)).alloc (.cells (Array.replicate c (.int .u16 0)) 29) := ⟨_, rfl⟩
  rw [← hW6]
  have E0 : Wh w W6 A L n c pw ph (upCells c 0) := by
    rw [hW6]
    obtain ⟨r0, r1, r2, r3, r4, r5⟩ := six_rows w (.cells #[.int .i64 (A : Nat), .int .i64 (L : Nat), .bool true, .bool pw, .bool ph] 49) (.cells #[.int .i64 (A : Nat), .int .i64 (L : Nat), .bool true, .bool pw, .bool ph] 49) (.cells #[.slice none 0 0, .slice none 0 0, .slice (some ⟨w.heap.size + 1, 0, none⟩) 1 1, .slice none 0 0] 24) (.cells (Array.replicate n (.int .u16 0)) 29) (.cells #[.slice none 0 0, .slice none 0 0, .slice (some ⟨w.heap.size + 1 + 1 + 1, 0, none⟩) n n, .slice none 0 0] 28) (.cells (Array.replicate c (.int .u16 0)) 29)
    exact ⟨r0, r1, r2, r3, r4, by rw [r5]; unfold upCells; rw [fillTo_zero], ((((((Below.refl _ w).new _).new _).new _).new _).new _).new _⟩
  clear hW6 hkm hnz
  go_wp2_with fail
  go_loopw [61] (fun iv X => ∃ i : Nat, i ≤ c ∧ iv = .int .i64 i ∧ Wh w X A L n c pw ph (upCells c i)) (fun iv _ => c - (intOf iv).toNat)
  case atStart => exact ⟨0, by omega, rfl, E0⟩
  case round =>
    obtain ⟨i, hi, rfl, E⟩ := hrel
    by_cases hlt : (i : Int) < (c : Int)
    · have gd := (cell_of_row wr (w.heap.size + 1 + 1 + 1 + 1 + 1) i _ _ _ E.d).trans (fillTo_get _ _ c i i (by omega))
      have gf := frozen_of_row wr (w.heap.size + 1 + 1 + 1 + 1 + 1) i _ _ E.d
      have z0 : (0 : Int) ≤ (i : Int) := by omega
      have wi : IntKind.u16.wrap ((i : Int) + 1) = (i : Int) + 1 := by rw [IntKind.wrap_u16]; omega
      have EP := Lib.hid E.put
      clear E E0
      go_wp2_with fail
      go_roundw
      case rel => exact ⟨i + 1, by omega, by go_num, EP.out⟩
      case measure => simp [intOf]; omega
    · obtain rfl : i = c := by omega
      clear E0
      obtain ⟨OK, hOK⟩ : ∃ b, b = (pw && (decide (A ≤ k ∧ k + i ≤ A + L) && (!ph || decide (A = k ∧ L = i)))) := ⟨_, rfl⟩
      have HOK := Lib.hid hOK
      obtain ⟨a_0, a_1, a_2, a_3, a_4⟩ := row5 E.a
      go_upto_region 12 with fail
      go_cut [23] (fun s23 wx => s23 = .bool OK ∧ wr = wx)
      case first =>
        clear hOK
        have wk : IntKind.i64.wrap ((k : Int) + (i : Int)) = (k : Int) + (i : Int) := by rw [IntKind.wrap_i64]; omega
        have wl : IntKind.i64.wrap ((A : Int) + (L : Int)) = (A : Int) + (L : Int) := by rw [IntKind.wrap_i64]; omega
        obtain ⟨t3, e3⟩ : ∃ t, ((k : Int) == (A : Int)) = t := ⟨_, rfl⟩
        obtain ⟨t4, e4⟩ : ∃ t, ((i : Int) == (L : Int)) = t := ⟨_, rfl⟩
        have E3 := Lib.hid (show t3 = decide (A = k) by rw [← e3, Bool.eq_iff_iff]; simp; omega)
        have E4 := Lib.hid (show t4 = decide (L = i) by rw [← e4, Bool.eq_iff_iff]; simp; omega)
        cases pw <;> cases ph <;> cases t3 <;> cases t4 <;> (
          go_wp2_with fail
          all_goals (
            go_meet
            refine ⟨?_, rfl⟩
            rw [HOK.out, Bool.decide_and (A = k), ← E3.out, ← E4.out]
            first
              | rfl
              | (congr 1; simp; omega)
              | (congr 1; rw [Bool.eq_iff_iff]; simp; omega)
              | (simp_all; done)
              | fail))
      case rest =>
        obtain ⟨rfl, hwx⟩ := hcut
        subst hwx
        clear hOK a_0 a_1 a_2 a_3 a_4
        have bw := E.bel
        have HS := Lib.hid (show SpOk wr ⟨sv0, sv0, ⟨some ⟨w.heap.size + 1, 0, none⟩, 1, 1⟩, sv0⟩ (⟨[], [], [⟨(A : Int), (L : Int), true, pw, ph⟩], []⟩ : Space) from ⟨Ar.nil _ _, Ar.nil _ _, ⟨Sl.of_block E.b (row_lt E.b)⟩, Ar.nil _ _⟩)
        have HM := Lib.hid (show MmOk wr ⟨sv0, sv0, ⟨some ⟨w.heap.size + 1 + 1 + 1, 0, none⟩, n, n⟩, sv0⟩ (⟨[], [], List.replicate n 0, []⟩ : Mem) from ⟨Sl.empty _ _ _, Sl.empty _ _ _, by have h := Sl.of_block E.h (row_lt E.h); simpa [ws] using h, Sl.empty _ _ _⟩)
        have HWd := Lib.hid (show Sl wr wr.heap.size (some ⟨w.heap.size + 1 + 1 + 1 + 1 + 1, 0, none⟩) i (ws (upTo i)) from by have h := Sl.of_block E.d (row_lt E.d); rw [upCells_full] at h; simpa [upCells, fillTo_size] using h)
        have Bs := Lib.hid E.s
        have Bm := Lib.hid E.m
        have Ba := Lib.hid E.a
        have hso : Space.Ok (⟨[], [], [⟨(A : Int), (L : Int), true, pw, ph⟩], []⟩ : Space) := by
          refine ⟨?_, ?_, ?_, ?_⟩ <;> intro x hx <;> simp at hx
          subst hx
          exact ⟨by show (-9223372036854775808 : Int) ≤ (A : Int); omega, by show (A : Int) ≤ 9223372036854775807; omega, by show (-9223372036854775808 : Int) ≤ (L : Int); omega, by show (L : Int) ≤ 9223372036854775807; omega⟩
        have hup : ∀ x ∈ upTo i, x ≠ 0 ∧ x < 65536 := fun x hx => by
          unfold upTo at hx
          rw [List.mem_map] at hx
          obtain ⟨j, hj, rfl⟩ := hx
          have := List.mem_range.1 hj
          omega
        have hrm : rightM (⟨[], [], [⟨(A : Int), (L : Int), true, pw, ph⟩], []⟩ : Space) (⟨[], [], List.replicate n 0, []⟩ : Mem) = true := whole_right (by omega) hL0.1 (by omega)
        have hq1 : Req.Wf ⟨16, k, i, 0, upTo i, []⟩ := ⟨by show (16 : Nat) < 256; omega, by show k < 65536; omega, by show i < 65536; omega, by show (0 : Nat) < 65536; omega, fun x hx => (hup x hx).2⟩
        have hw1 := whole_is (s := (⟨[], [], [⟨(A : Int), (L : Int), true, pw, ph⟩], []⟩ : Space)) (n := n) (f := 16) (k := k) (W := upTo i) (q := i) (.inl ⟨rfl, (upTo_length i).symm⟩) (by rw [upTo_length]; omega) (by rw [upTo_length]; omega) (fun x hx => (hup x hx).1) hrm
        rw [upTo_length] at hw1
        have ew1 : writesOk [⟨(A : Int), (L : Int), true, pw, ph⟩] k i = OK := by rw [write_one hc0.1, HOK.out]
        dsimp only at hw1
        rw [ew1] at hw1
        have hq2 : Req.Wf ⟨6, k, 0, 0, [1], []⟩ := ⟨by show (6 : Nat) < 256; omega, by show k < 65536; omega, by show (0 : Nat) < 65536; omega, by show (0 : Nat) < 65536; omega, fun x hx => by simp at hx; omega⟩
        have hw2 := whole_is (s := (⟨[], [], [⟨(A : Int), (L : Int), true, pw, ph⟩], []⟩ : Space)) (n := n) (f := 6) (k := k) (W := [1]) (q := 0) (.inr ⟨rfl, rfl, rfl⟩) (by show (1 : Nat) ≤ 1; omega) (by show (1 : Nat) ≤ 121; omega) (fun x hx => by simp at hx; omega) hrm
        obtain ⟨ON, hON⟩ : ∃ b, b = writesOk [⟨(A : Int), (L : Int), true, pw, ph⟩] k 1 := ⟨_, rfl⟩
        have HON := Lib.hid (show ON = (pw && (decide (A ≤ k ∧ k + 1 ≤ A + L) && (!ph || decide (A = k ∧ L = 1)))) by rw [hON, write_one (by omega)])
        dsimp only at hw2
        rw [show ([1] : List Nat).length = 1 from rfl, ← hON] at hw2
        obtain ⟨⟨M1, ⟨f1, x1, B1, W1, a1, m1⟩⟩, e1⟩ : ∃ D, D = doM (⟨[], [], [⟨(A : Int), (L : Int), true, pw, ph⟩], []⟩ : Space) (⟨[], [], List.replicate n 0, []⟩ : Mem) ⟨16, k, i, 0, upTo i, []⟩ := ⟨_, rfl⟩
        obtain ⟨⟨M2, ⟨f2, x2, B2, W2, a2, m2⟩⟩, e2⟩ : ∃ D, D = doM (⟨[], [], [⟨(A : Int), (L : Int), true, pw, ph⟩], []⟩ : Space) (⟨[], [], List.replicate n 0, []⟩ : Mem) ⟨6, k, 0, 0, [1], []⟩ := ⟨_, rfl⟩
        rw [← e1] at hw1
        rw [← e2] at hw2
        dsimp only at hw1 hw2
        have HE1 := Lib.hid e1
        have HE2 := Lib.hid e2
        have hMl : ∀ N : Mem, (∃ r, N = (doM (⟨[], [], [⟨(A : Int), (L : Int), true, pw, ph⟩], []⟩ : Space) (⟨[], [], List.replicate n 0, []⟩ : Mem) r).1) → N.coils.length ≤ 100000 ∧ N.inputs.length ≤ 100000 ∧ N.holding.length ≤ 100000 ∧ N.words.length ≤ 100000 := fun N ⟨r, hr⟩ => by
          subst hr
          have hl := do_len (⟨[], [], [⟨(A : Int), (L : Int), true, pw, ph⟩], []⟩ : Space) (⟨[], [], List.replicate n 0, []⟩ : Mem) r
          rw [hl.1, hl.2.1, hl.2.2.1, hl.2.2.2]
          exact ⟨Nat.zero_le _, Nat.zero_le _, by show (List.replicate n 0).length ≤ _; rw [List.length_replicate]; omega, Nat.zero_le _⟩
        have HM1 := Lib.hid (hMl M1 ⟨_, congrArg Prod.fst e1⟩)
        have HM2 := Lib.hid (hMl M2 ⟨_, congrArg Prod.fst e2⟩)
        have X1 := Lib.hid (show ((x1 : Int) == 0) = OK by
          cases OK
          · rw [beq_eq_false_iff_ne]; intro h; have h0 : x1 = 0 := by omega
            exact absurd (hw1.1.1 h0) (by decide)
          · have h0 := hw1.1.2 rfl; rw [h0]; rfl)
        have X2 := Lib.hid (show ((x2 : Int) == 0) = ON by
          cases ON
          · rw [beq_eq_false_iff_ne]; intro h; have h0 : x2 = 0 := by omega
            exact absurd (hw2.1.1 h0) (by decide)
          · have h0 := hw2.1.2 rfl; rw [h0]; rfl)
        have Y1 := Lib.hid (show sameM M1 (⟨[], [], List.replicate n 0, []⟩ : Mem) = !OK by
          cases OK
          · exact (sameM_iff _ _).2 (hw1.2.2 rfl)
          · show sameM M1 _ = false; rw [Bool.eq_false_iff]; intro h; exact absurd (hw1.2.1 ((sameM_iff _ _).1 h)) (by decide))
        have Y2 := Lib.hid (show sameM M2 (⟨[], [], List.replicate n 0, []⟩ : Mem) = !ON by
          cases ON
          · exact (sameM_iff _ _).2 (hw2.2.2 rfl)
          · show sameM M2 _ = false; rw [Bool.eq_false_iff]; intro h; exact absurd (hw2.2.1 ((sameM_iff _ _).1 h)) (by decide))
        have wk16 : IntKind.u16.wrap (k : Int) = k := by rw [IntKind.wrap_u16]; omega
        have wi16 : IntKind.u16.wrap (i : Int) = i := by rw [IntKind.wrap_u16]; omega
        clear e1 e2 hw1 hw2 ew1 hON hup hrm hMl E
        obtain ⟨Bs_0, Bs_1, Bs_2, Bs_3⟩ := row4 Bs.out
        obtain ⟨Bm_0, Bm_1, Bm_2, Bm_3⟩ := row4 Bm.out
        go_wp2_with fail
        refine (modDo_any ⟨sv0, sv0, ⟨some ⟨w.heap.size + 1, 0, none⟩, 1, 1⟩, sv0⟩ ⟨sv0, sv0, ⟨some ⟨w.heap.size + 1 + 1 + 1, 0, none⟩, n, n⟩, sv0⟩ (⟨[], [], [⟨(A : Int), (L : Int), true, pw, ph⟩], []⟩ : Space) (⟨[], [], List.replicate n 0, []⟩ : Mem) 16 k i 0 (some ⟨w.heap.size + 1 + 1 + 1 + 1 + 1, 0, none⟩) i i none 0 0 (upTo i) [] _ HS.out HM.out hso ⟨Nat.zero_le _, Nat.zero_le _, by show (1 : Nat) ≤ 100000; omega, Nat.zero_le _⟩ ⟨Nat.zero_le _, Nat.zero_le _, by show n ≤ 100000; omega, Nat.zero_le _⟩ HWd.out (Sl.empty _ _ _) hq1 (by omega) (by decide)).mono ?_
        rw [← HE1.out]
        rintro e w2 ⟨yo, A6o, n6o, c6o, A7o, n7o, c7o, rfl, YMo, S6o, S7o, k6o, k7o, bo⟩
        clear Bs_0 Bs_1 Bs_2 Bs_3 Bm_0 Bm_1 Bm_2 Bm_3
        have HS := Lib.hid (HS.out.to bo)
        have HM := Lib.hid (HM.out.to bo)
        have HWd := Lib.hid (HWd.out.to bo)
        have Bs := Lib.hid (bo.row (row_lt Bs.out) Bs.out)
        have Bm := Lib.hid (bo.row (row_lt Bm.out) Bm.out)
        have Ba := Lib.hid (bo.row (row_lt Ba.out) Ba.out)
        have bw := bw.call bo
        have HYo := Lib.hid YMo
        have HBo := Lib.hid S6o
        have HWo := Lib.hid S7o
        clear YMo S6o S7o
        clear bo
        go_upto_region 14 with (first
          | (refine wpList_store_grown rfl 28 (.tmp 24) _ rfl w2.heap.size #[.slice yo.a.A yo.a.n yo.a.c, .slice yo.b.A yo.b.n yo.b.c, .slice yo.c.A yo.c.n yo.c.c, .slice yo.d.A yo.d.n yo.d.c] rfl rfl 28 _ (row_alloc (heap_alloc_new w2 _) _) (by kernel_rfl) rfl (by simp [Value.oneCell']) ?_; intro Woa hoa goa soa)
          | (refine wpList_store_grown rfl 36 (.tmp 25) _ rfl (w2.heap.size + 1) #[.int .u8 (f1 : Nat), .int .u8 (x1 : Nat), .slice A6o n6o c6o, .slice A7o n7o c7o, .int .u16 (a1 : Nat), .int .u16 (m1 : Nat)] rfl rfl 36 _ (goa.row (by omega) (heap_alloc2_new w2 _ _)) (by kernel_rfl) rfl (by simp [Value.oneCell']) ?_; intro Wo hob gob sob; have Bmo := Lib.hid (gob.row (k := w2.heap.size) (by omega) hoa); have Bro := Lib.hid hob; have Co := below_two goa gob soa; clear goa gob soa sob hoa hob; have HS := Lib.hid (HS.out.to Co); have HM := Lib.hid (HM.out.to Co); have HWd := Lib.hid (HWd.out.to Co); have HYo := Lib.hid (HYo.out.to Co); have HBo := Lib.hid (HBo.out.to Co); have HWo := Lib.hid (HWo.out.to Co); have Bs := Lib.hid (Co.row (row_lt Bs.out) Bs.out); have Bm := Lib.hid (Co.row (row_lt Bm.out) Bm.out); have Ba := Lib.hid (Co.row (row_lt Ba.out) Ba.out); have bw := bw.call Co; clear Co; obtain ⟨Bs_0, Bs_1, Bs_2, Bs_3⟩ := row4 Bs.out; obtain ⟨Bm_0, Bm_1, Bm_2, Bm_3⟩ := row4 Bm.out)
          | fail)
        have HW1 := Lib.hid (show Sl Wo Wo.heap.size (some ⟨w.heap.size + 1 + 1 + 1 + 1 + 1, 0, none⟩) 1 (ws [1]) from by rw [← upTo_one i hc0.1]; exact HWd.out.take hc0.1)
        clear wi16
        simp only [Act.put]
        go_cut [26, 27] from 117 to 127 (fun s26 s27 wx => ∃ k1 k2 yp A6 n6 c6 A7 n7 c7, s26 = .pointer (some ⟨k1, 0, none⟩) ∧ s27 = .pointer (some ⟨k2, 0, none⟩) ∧ wx.heap[k1]? = some (.cells #[.slice yp.a.A yp.a.n yp.a.c, .slice yp.b.A yp.b.n yp.b.c, .slice yp.c.A yp.c.n yp.c.c, .slice yp.d.A yp.d.n yp.d.c] 28 (0, 0)) ∧ wx.heap[k2]? = some (.cells #[.int .u8 (f2 : Nat), .int .u8 (x2 : Nat), .slice A6 n6 c6, .slice A7 n7 c7, .int .u16 (a2 : Nat), .int .u16 (m2 : Nat)] 36 (0, 0)) ∧ MmOk wx yp M2 ∧ Below Wo.heap.size Wo wx)
        case first =>
          have BT := (Below.refl Wo.heap.size Wo).drew
          have z1i : (1 : Int) ≤ (i : Int) := by omega
          have lbs := row_lt Bs.out
          have lbm := row_lt Bm.out
          refine wp_region_held_drew (S := (fun w' => w'.cell? ⟨w.heap.size + 1 + 1, 0, none⟩ = some (.slice none 0 0) ∧ w'.cell? ⟨w.heap.size + 1 + 1, 1, none⟩ = some (.slice none 0 0) ∧ w'.cell? ⟨w.heap.size + 1 + 1, 2, none⟩ = some (.slice (some ⟨w.heap.size + 1, 0, none⟩) 1 1) ∧ w'.cell? ⟨w.heap.size + 1 + 1, 3, none⟩ = some (.slice none 0 0) ∧ w'.cell? ⟨w.heap.size + 1 + 1 + 1 + 1, 0, none⟩ = some (.slice none 0 0) ∧ w'.cell? ⟨w.heap.size + 1 + 1 + 1 + 1, 1, none⟩ = some (.slice none 0 0) ∧ w'.cell? ⟨w.heap.size + 1 + 1 + 1 + 1, 2, none⟩ = some (.slice (some ⟨w.heap.size + 1 + 1 + 1, 0, none⟩) n n) ∧ w'.cell? ⟨w.heap.size + 1 + 1 + 1 + 1, 3, none⟩ = some (.slice none 0 0))) (by kernel_rfl) (keep44 (BT.row (row_lt Bs.out) Bs.out) (BT.row (row_lt Bm.out) Bm.out)) (fun hHeld => ?_)
          obtain ⟨Wd, eWd⟩ : ∃ X, X = Wo.drew := ⟨_, rfl⟩
          rw [← eWd] at BT hHeld ⊢
          clear eWd
          refine wpAnyH_take (i := 0) (v := ?_) (by simp only [List.getElem?_toArray, List.getElem?_cons_succ, List.getElem?_cons_zero]; rfl) (by kernel_rfl) (by kernel_rfl) (by kernel_rfl) (by exact fun _ _ _ h => h) (Or.inl ⟨by kernel_rfl, ?_⟩) (by assumption) ?_
          rotate_left
          · intro w hSw
            (try dsimp only at hSw)
            go_simp
            try with_reducible rfl
          simp only [Act.put, List.setIfInBounds_toArray, List.set_cons_zero, List.set_cons_succ]
          refine wpAnyH_take (i := 1) (v := ?_) (by simp only [List.getElem?_toArray, List.getElem?_cons_succ, List.getElem?_cons_zero]; rfl) (by kernel_rfl) (by kernel_rfl) (by kernel_rfl) (by exact fun _ _ _ h => h) (Or.inl ⟨by kernel_rfl, ?_⟩) (by assumption) ?_
          rotate_left
          · intro w hSw
            (try dsimp only at hSw)
            go_simp
            try with_reducible rfl
          simp only [Act.put, List.setIfInBounds_toArray, List.set_cons_zero, List.set_cons_succ]
          refine wpAnyH_take (i := 2) (v := ?_) (by simp only [List.getElem?_toArray, List.getElem?_cons_succ, List.getElem?_cons_zero]; rfl) (by kernel_rfl) (by kernel_rfl) (by kernel_rfl) (by exact fun _ _ _ h => h) (Or.inl ⟨by kernel_rfl, ?_⟩) (by assumption) ?_
          rotate_left
          · intro w hSw
            (try dsimp only at hSw)
            go_simp
            try with_reducible rfl
          simp only [Act.put, List.setIfInBounds_toArray, List.set_cons_zero, List.set_cons_succ]
          refine wpAnyH_take (i := 3) (v := ?_) (by simp only [List.getElem?_toArray, List.getElem?_cons_succ, List.getElem?_cons_zero]; rfl) (by kernel_rfl) (by kernel_rfl) (by kernel_rfl) (by exact fun _ _ _ h => h) (Or.inl ⟨by kernel_rfl, ?_⟩) (by assumption) ?_
          rotate_left
          · intro w hSw
            (try dsimp only at hSw)
            go_simp
            try with_reducible rfl
          simp only [Act.put, List.setIfInBounds_toArray, List.set_cons_zero, List.set_cons_succ]
          refine wpAnyH_take (i := 4) (v := ?_) (by simp only [List.getElem?_toArray, List.getElem?_cons_succ, List.getElem?_cons_zero]; rfl) (by kernel_rfl) (by kernel_rfl) (by kernel_rfl) (by exact fun _ _ _ h => h) (Or.inl ⟨by kernel_rfl, ?_⟩) (by assumption) ?_
          rotate_left
          · intro w hSw
            (try dsimp only at hSw)
            go_simp
            try with_reducible rfl
          simp only [Act.put, List.setIfInBounds_toArray, List.set_cons_zero, List.set_cons_succ]
          refine wpAnyH_take (i := 5) (v := ?_) (by simp only [List.getElem?_toArray, List.getElem?_cons_succ, List.getElem?_cons_zero]; rfl) (by kernel_rfl) (by kernel_rfl) (by kernel_rfl) (by exact fun _ _ _ h => h) (Or.inl ⟨by kernel_rfl, ?_⟩) (by assumption) ?_
          rotate_left
          · intro w hSw
            (try dsimp only at hSw)
            go_simp
            try with_reducible rfl
          simp only [Act.put, List.setIfInBounds_toArray, List.set_cons_zero, List.set_cons_succ]
          refine wpAnyH_take (i := 6) (v := ?_) (by simp only [List.getElem?_toArray, List.getElem?_cons_succ, List.getElem?_cons_zero]; rfl) (by kernel_rfl) (by kernel_rfl) (by kernel_rfl) (by exact fun _ _ _ h => h) (Or.inl ⟨by kernel_rfl, ?_⟩) (by assumption) ?_
          rotate_left
          · intro w hSw
            (try dsimp only at hSw)
            go_simp
            try with_reducible rfl
          simp only [Act.put, List.setIfInBounds_toArray, List.set_cons_zero, List.set_cons_succ]
          refine wpAnyH_ready (rs := [7, 11, 12]) (by kernel_rfl) (by simp) ?_
          refine AllReadyH.cons (by simp only [List.getElem?_toArray, List.getElem?_cons_succ, List.getElem?_cons_zero]; rfl) (fun K hK => ?_) ?_
          · rw [if_pos (by kernel_rfl)]
            go_simp
            go_at_call 11
            refine (modDoN_any ⟨sv0, sv0, ⟨some ⟨w.heap.size + 1, 0, none⟩, 1, 1⟩, sv0⟩ ⟨sv0, sv0, ⟨some ⟨w.heap.size + 1 + 1 + 1, 0, none⟩, n, n⟩, sv0⟩ (⟨[], [], [⟨(A : Int), (L : Int), true, pw, ph⟩], []⟩ : Space) (⟨[], [], List.replicate n 0, []⟩ : Mem) 6 k 0 0 (some ⟨w.heap.size + 1 + 1 + 1 + 1 + 1, 0, none⟩) 1 i none 0 0 [1] [] _ (HS.out.to BT) (HM.out.to BT) hso ⟨Nat.zero_le _, Nat.zero_le _, by show (1 : Nat) ≤ 100000; omega, Nat.zero_le _⟩ ⟨Nat.zero_le _, Nat.zero_le _, by show n ≤ 100000; omega, Nat.zero_le _⟩ (HW1.out.to BT) (Sl.empty _ _ _) hq2 (by omega) (by decide)).mono ?_
            rw [← HE2.out]
            rintro e wj ⟨yp, A6, n6, c6, A7, n7, c7, rfl, YP, S6, S7, k6, k7, bt, N1, N2, N3, N4, N5, N6⟩
            clear S6 S7 k6 k7 N5 N6
            clear N1 N2 N3 N4
            have BT := BT.call bt
            clear bt
            go_wp2_with fail
            refine hK.out _ _ ?_ (fun hHeld => ?_)
            · exact keep44 (BT.row (row_lt Bs.out) Bs.out) (BT.row (row_lt Bm.out) Bm.out)
            clear hK K
            try simp only [Act.put, List.setIfInBounds_toArray, List.set_cons_zero, List.set_cons_succ]
            refine wpAnyH_take (i := 8) (v := ?_) (by simp only [List.getElem?_toArray, List.getElem?_cons_succ, List.getElem?_cons_zero]; rfl) (by kernel_rfl) (by kernel_rfl) (by kernel_rfl) (by exact fun _ _ _ h => h) (Or.inl ⟨by kernel_rfl, ?_⟩) (by assumption) ?_
            rotate_left
            · intro w hSw
              (try dsimp only at hSw)
              go_simp
              try with_reducible rfl
            simp only [Act.put, List.setIfInBounds_toArray, List.set_cons_zero, List.set_cons_succ]
            refine wpAnyH_take (i := 9) (v := ?_) (by simp only [List.getElem?_toArray, List.getElem?_cons_succ, List.getElem?_cons_zero]; rfl) (by kernel_rfl) (by kernel_rfl) (by kernel_rfl) (by exact fun _ _ _ h => h) (Or.inl ⟨by kernel_rfl, ?_⟩) (by assumption) ?_
            rotate_left
            · intro w hSw
              (try dsimp only at hSw)
              go_simp
              try with_reducible rfl
            simp only [Act.put, List.setIfInBounds_toArray, List.set_cons_zero, List.set_cons_succ]
            refine wpAnyH_take (i := 10) (v := ?_) (by simp only [List.getElem?_toArray, List.getElem?_cons_succ, List.getElem?_cons_zero]; rfl) (by kernel_rfl) (by kernel_rfl) (by kernel_rfl) (by exact fun _ _ _ h => h) (Or.inl ⟨by kernel_rfl, ?_⟩) (by assumption) ?_
            rotate_left
            · intro w hSw
              (try dsimp only at hSw)
              go_simp
              try with_reducible rfl
            simp only [Act.put, List.setIfInBounds_toArray, List.set_cons_zero, List.set_cons_succ]
            refine wpAnyH_ready (rs := [11, 12]) (by kernel_rfl) (by simp) ?_
            refine AllReadyH.cons (by simp only [List.getElem?_toArray, List.getElem?_cons_succ, List.getElem?_cons_zero]; rfl) (fun K hK => ?_) ?_
            · rw [if_pos (by kernel_rfl)]
              go_simp
              obtain ⟨k1, ek⟩ : ∃ k, k = (wj).heap.size := ⟨_, rfl⟩
              obtain ⟨Z1, eZ⟩ : ∃ Z, Z = (wj).alloc (.cells #[.slice none 0 0, .slice none 0 0, .slice none 0 0, .slice none 0 0] 28) := ⟨_, rfl⟩
              have hk1 : Z1.heap[k1]? = some (.cells #[.slice none 0 0, .slice none 0 0, .slice none 0 0, .slice none 0 0] 28 (0, 0)) := by rw [eZ, ek]; exact heap_alloc_new _ _
              have gk1 : Wo.heap.size ≤ k1 := by rw [ek]; exact BT.size
              have O1 : FarM k1 yp := by rw [ek]; exact FarM.new YP
              have bz : Below (wj).heap.size (wj) Z1 := by rw [eZ]; exact (Below.refl _ _).new _
              have YP := YP.to bz
              have BT := BT.call bz
              rw [← eZ, ← ek]
              clear eZ ek bz
              refine hK.out _ _ ?_ (fun hHeld => ?_)
              · exact keep44 (BT.row (row_lt Bs.out) Bs.out) (BT.row (row_lt Bm.out) Bm.out)
              clear hK K
              try simp only [Act.put, List.setIfInBounds_toArray, List.set_cons_zero, List.set_cons_succ]
              refine wpAnyH_ready (rs := [12]) (by kernel_rfl) (by simp) ?_
              refine AllReadyH.cons (by simp only [List.getElem?_toArray, List.getElem?_cons_succ, List.getElem?_cons_zero]; rfl) (fun K hK => ?_) AllReadyH.nil
              rw [if_pos (by kernel_rfl)]
              go_simp
              obtain ⟨k2, ek⟩ : ∃ k, k = (Z1).heap.size := ⟨_, rfl⟩
              obtain ⟨Z2, eZ⟩ : ∃ Z, Z = (Z1).alloc (.cells #[.int .u8 0, .int .u8 0, .slice none 0 0, .slice none 0 0, .int .u16 0, .int .u16 0] 36) := ⟨_, rfl⟩
              have hk2 : Z2.heap[k2]? = some (.cells #[.int .u8 0, .int .u8 0, .slice none 0 0, .slice none 0 0, .int .u16 0, .int .u16 0] 36 (0, 0)) := by rw [eZ, ek]; exact heap_alloc_new _ _
              have gk2 : Wo.heap.size ≤ k2 := by rw [ek]; exact BT.size
              have O2 : FarM k2 yp := by rw [ek]; exact FarM.new YP
              have bz : Below (Z1).heap.size (Z1) Z2 := by rw [eZ]; exact (Below.refl _ _).new _
              have YP := YP.to bz
              have ne12 : k1 ≠ k2 := by have := row_lt hk1; omega
              have hk1 := bz.row (row_lt hk1) hk1
              have BT := BT.call bz
              rw [← eZ, ← ek]
              clear eZ ek bz
              refine hK.out _ _ ?_ (fun hHeld => ?_)
              · exact keep44 (BT.row (row_lt Bs.out) Bs.out) (BT.row (row_lt Bm.out) Bm.out)
              clear hK K
              try simp only [Act.put, List.setIfInBounds_toArray, List.set_cons_zero, List.set_cons_succ]
              have Hm3 := ((grown_setRow1 (Z2) k1 #[.slice yp.a.A yp.a.n yp.a.c, .slice yp.b.A yp.b.n yp.b.c, .slice yp.c.A yp.c.n yp.c.c, .slice yp.d.A yp.d.n yp.d.c]).row (by omega) hk2)
              refine wpAnyH_ready (rs := [13]) (by kernel_rfl) (by simp) ?_
              refine AllReadyH.cons (by simp only [List.getElem?_toArray, List.getElem?_cons_succ, List.getElem?_cons_zero]; rfl) (fun K hK => ?_) AllReadyH.nil
              rw [if_pos (by kernel_rfl)]
              refine wp_store_row 28 (.tmp 26) (.tmp 126) rfl (k1) #[.slice yp.a.A yp.a.n yp.a.c, .slice yp.b.A yp.b.n yp.b.c, .slice yp.c.A yp.c.n yp.c.c, .slice yp.d.A yp.d.n yp.d.c] rfl rfl 28 _ hk1 (by kernel_rfl) rfl (by simp [Value.oneCell']) ?_
              refine hK.out _ _ ?_ (fun hHeld => ?_)
              · exact keep44 ((grown_setRow1 _ _ _).row (by omega) (BT.row (row_lt Bs.out) Bs.out)) ((grown_setRow1 _ _ _).row (by omega) (BT.row (row_lt Bm.out) Bm.out))
              clear hK K
              try simp only [Act.put, List.setIfInBounds_toArray, List.set_cons_zero, List.set_cons_succ]
              refine wpAnyH_ready (rs := [14]) (by kernel_rfl) (by simp) ?_
              refine AllReadyH.cons (by simp only [List.getElem?_toArray, List.getElem?_cons_succ, List.getElem?_cons_zero]; rfl) (fun K hK => ?_) AllReadyH.nil
              rw [if_pos (by kernel_rfl)]
              refine wp_store_row 36 (.tmp 27) (.tmp 127) rfl (k2) #[.int .u8 (f2 : Nat), .int .u8 (x2 : Nat), .slice A6 n6 c6, .slice A7 n7 c7, .int .u16 (a2 : Nat), .int .u16 (m2 : Nat)] rfl rfl 36 _ Hm3 (by kernel_rfl) rfl (by simp [Value.oneCell']) ?_
              refine hK.out _ _ ?_ (fun hHeld => ?_)
              · exact keep44 ((grown_setRow1 _ _ _).row (by omega) ((grown_setRow1 _ _ _).row (by omega) (BT.row (row_lt Bs.out) Bs.out))) ((grown_setRow1 _ _ _).row (by omega) ((grown_setRow1 _ _ _).row (by omega) (BT.row (row_lt Bm.out) Bm.out)))
              clear hK K
              try simp only [Act.put, List.setIfInBounds_toArray, List.set_cons_zero, List.set_cons_succ]
              refine wpAnyH_done (by kernel_rfl) ?_ _
              go_wp2_with fail
              go_meet
              refine ⟨k1, k2, yp, A6, n6, c6, A7, n7, c7, rfl, rfl, (grown_setRow1 _ _ _).row (by omega) (setRow_heap _ _ _ _ _ _ hk1), setRow_heap _ _ _ _ _ _ Hm3, MmOk.past (MmOk.past YP (grown_setRow1 _ _ _) O1) (grown_setRow1 _ _ _) O2, ?_⟩
              have b1 := BT.grown (grown_setRow1 (Z2) k1 #[.slice yp.a.A yp.a.n yp.a.c, .slice yp.b.A yp.b.n yp.b.c, .slice yp.c.A yp.c.n yp.c.c, .slice yp.d.A yp.d.n yp.d.c]) BT.size (fun j e => by injection e with e; omega)
              exact b1.grown (grown_setRow1 _ k2 _) b1.size (fun j e => by injection e with e; omega)
            refine AllReadyH.cons (by simp only [List.getElem?_toArray, List.getElem?_cons_succ, List.getElem?_cons_zero]; rfl) (fun K hK => ?_) AllReadyH.nil
            rw [if_pos (by kernel_rfl)]
            go_simp
            obtain ⟨k2, ek⟩ : ∃ k, k = (wj).heap.size := ⟨_, rfl⟩
            obtain ⟨Z2, eZ⟩ : ∃ Z, Z = (wj).alloc (.cells #[.int .u8 0, .int .u8 0, .slice none 0 0, .slice none 0 0, .int .u16 0, .int .u16 0] 36) := ⟨_, rfl⟩
            have hk2 : Z2.heap[k2]? = some (.cells #[.int .u8 0, .int .u8 0, .slice none 0 0, .slice none 0 0, .int .u16 0, .int .u16 0] 36 (0, 0)) := by rw [eZ, ek]; exact heap_alloc_new _ _
            have gk2 : Wo.heap.size ≤ k2 := by rw [ek]; exact BT.size
            have O2 : FarM k2 yp := by rw [ek]; exact FarM.new YP
            have bz : Below (wj).heap.size (wj) Z2 := by rw [eZ]; exact (Below.refl _ _).new _
            have YP := YP.to bz
            have BT := BT.call bz
            rw [← eZ, ← ek]
            clear eZ ek bz
            refine hK.out _ _ ?_ (fun hHeld => ?_)
            · exact keep44 (BT.row (row_lt Bs.out) Bs.out) (BT.row (row_lt Bm.out) Bm.out)
            clear hK K
            try simp only [Act.put, List.setIfInBounds_toArray, List.set_cons_zero, List.set_cons_succ]
            refine wpAnyH_ready (rs := [11]) (by kernel_rfl) (by simp) ?_
            refine AllReadyH.cons (by simp only [List.getElem?_toArray, List.getElem?_cons_succ, List.getElem?_cons_zero]; rfl) (fun K hK => ?_) AllReadyH.nil
            rw [if_pos (by kernel_rfl)]
            go_simp
            obtain ⟨k1, ek⟩ : ∃ k, k = (Z2).heap.size := ⟨_, rfl⟩
            obtain ⟨Z1, eZ⟩ : ∃ Z, Z = (Z2).alloc (.cells #[.slice none 0 0, .slice none 0 0, .slice none 0 0, .slice none 0 0] 28) := ⟨_, rfl⟩
            have hk1 : Z1.heap[k1]? = some (.cells #[.slice none 0 0, .slice none 0 0, .slice none 0 0, .slice none 0 0] 28 (0, 0)) := by rw [eZ, ek]; exact heap_alloc_new _ _
            have gk1 : Wo.heap.size ≤ k1 := by rw [ek]; exact BT.size
            have O1 : FarM k1 yp := by rw [ek]; exact FarM.new YP
            have bz : Below (Z2).heap.size (Z2) Z1 := by rw [eZ]; exact (Below.refl _ _).new _
            have YP := YP.to bz
            have ne12 : k1 ≠ k2 := by have := row_lt hk2; omega
            have hk2 := bz.row (row_lt hk2) hk2
            have BT := BT.call bz
            rw [← eZ, ← ek]
            clear eZ ek bz
            refine hK.out _ _ ?_ (fun hHeld => ?_)
            · exact keep44 (BT.row (row_lt Bs.out) Bs.out) (BT.row (row_lt Bm.out) Bm.out)
            clear hK K
            try simp only [Act.put, List.setIfInBounds_toArray, List.set_cons_zero, List.set_cons_succ]
            have Hm3 := ((grown_setRow1 (Z1) k1 #[.slice yp.a.A yp.a.n yp.a.c, .slice yp.b.A yp.b.n yp.b.c, .slice yp.c.A yp.c.n yp.c.c, .slice yp.d.A yp.d.n yp.d.c]).row (by omega) hk2)
            refine wpAnyH_ready (rs := [13]) (by kernel_rfl) (by simp) ?_
            refine AllReadyH.cons (by simp only [List.getElem?_toArray, List.getElem?_cons_succ, List.getElem?_cons_zero]; rfl) (fun K hK => ?_) AllReadyH.nil
            rw [if_pos (by kernel_rfl)]
            refine wp_store_row 28 (.tmp 26) (.tmp 126) rfl (k1) #[.slice yp.a.A yp.a.n yp.a.c, .slice yp.b.A yp.b.n yp.b.c, .slice yp.c.A yp.c.n yp.c.c, .slice yp.d.A yp.d.n yp.d.c] rfl rfl 28 _ hk1 (by kernel_rfl) rfl (by simp [Value.oneCell']) ?_
            refine hK.out _ _ ?_ (fun hHeld => ?_)
            · exact keep44 ((grown_setRow1 _ _ _).row (by omega) (BT.row (row_lt Bs.out) Bs.out)) ((grown_setRow1 _ _ _).row (by omega) (BT.row (row_lt Bm.out) Bm.out))
            clear hK K
            try simp only [Act.put, List.setIfInBounds_toArray, List.set_cons_zero, List.set_cons_succ]
            refine wpAnyH_ready (rs := [14]) (by kernel_rfl) (by simp) ?_
            refine AllReadyH.cons (by simp only [List.getElem?_toArray, List.getElem?_cons_succ, List.getElem?_cons_zero]; rfl) (fun K hK => ?_) AllReadyH.nil
            rw [if_pos (by kernel_rfl)]
            refine wp_store_row 36 (.tmp 27) (.tmp 127) rfl (k2) #[.int .u8 (f2 : Nat), .int .u8 (x2 : Nat), .slice A6 n6 c6, .slice A7 n7 c7, .int .u16 (a2 : Nat), .int .u16 (m2 : Nat)] rfl rfl 36 _ Hm3 (by kernel_rfl) rfl (by simp [Value.oneCell']) ?_
            refine hK.out _ _ ?_ (fun hHeld => ?_)
            · exact keep44 ((grown_setRow1 _ _ _).row (by omega) ((grown_setRow1 _ _ _).row (by omega) (BT.row (row_lt Bs.out) Bs.out))) ((grown_setRow1 _ _ _).row (by omega) ((grown_setRow1 _ _ _).row (by omega) (BT.row (row_lt Bm.out) Bm.out)))
            clear hK K
            try simp only [Act.put, List.setIfInBounds_toArray, List.set_cons_zero, List.set_cons_succ]
            refine wpAnyH_done (by kernel_rfl) ?_ _
            go_wp2_with fail
            go_meet
            refine ⟨k1, k2, yp, A6, n6, c6, A7, n7, c7, rfl, rfl, (grown_setRow1 _ _ _).row (by omega) (setRow_heap _ _ _ _ _ _ hk1), setRow_heap _ _ _ _ _ _ Hm3, MmOk.past (MmOk.past YP (grown_setRow1 _ _ _) O1) (grown_setRow1 _ _ _) O2, ?_⟩
            have b1 := BT.grown (grown_setRow1 (Z1) k1 #[.slice yp.a.A yp.a.n yp.a.c, .slice yp.b.A yp.b.n yp.b.c, .slice yp.c.A yp.c.n yp.c.c, .slice yp.d.A yp.d.n yp.d.c]) BT.size (fun j e => by injection e with e; omega)
            exact b1.grown (grown_setRow1 _ k2 _) b1.size (fun j e => by injection e with e; omega)
          refine AllReadyH.cons (by simp only [List.getElem?_toArray, List.getElem?_cons_succ, List.getElem?_cons_zero]; rfl) (fun K hK => ?_) ?_
          · rw [if_pos (by kernel_rfl)]
            go_simp
            obtain ⟨k1, ek⟩ : ∃ k, k = (Wd).heap.size := ⟨_, rfl⟩
            obtain ⟨Z1, eZ⟩ : ∃ Z, Z = (Wd).alloc (.cells #[.slice none 0 0, .slice none 0 0, .slice none 0 0, .slice none 0 0] 28) := ⟨_, rfl⟩
            have hk1 : Z1.heap[k1]? = some (.cells #[.slice none 0 0, .slice none 0 0, .slice none 0 0, .slice none 0 0] 28 (0, 0)) := by rw [eZ, ek]; exact heap_alloc_new _ _
            have gk1 : Wo.heap.size ≤ k1 := by rw [ek]; exact BT.size
            have bz : Below (Wd).heap.size (Wd) Z1 := by rw [eZ]; exact (Below.refl _ _).new _
            have BT := BT.call bz
            rw [← eZ, ← ek]
            clear eZ ek bz
            refine hK.out _ _ ?_ (fun hHeld => ?_)
            · exact keep44 (BT.row (row_lt Bs.out) Bs.out) (BT.row (row_lt Bm.out) Bm.out)
            clear hK K
            try simp only [Act.put, List.setIfInBounds_toArray, List.set_cons_zero, List.set_cons_succ]
            refine wpAnyH_ready (rs := [7, 12]) (by kernel_rfl) (by simp) ?_
            refine AllReadyH.cons (by simp only [List.getElem?_toArray, List.getElem?_cons_succ, List.getElem?_cons_zero]; rfl) (fun K hK => ?_) ?_
            · rw [if_pos (by kernel_rfl)]
              go_simp
              go_at_call 11
              refine (modDoN_any ⟨sv0, sv0, ⟨some ⟨w.heap.size + 1, 0, none⟩, 1, 1⟩, sv0⟩ ⟨sv0, sv0, ⟨some ⟨w.heap.size + 1 + 1 + 1, 0, none⟩, n, n⟩, sv0⟩ (⟨[], [], [⟨(A : Int), (L : Int), true, pw, ph⟩], []⟩ : Space) (⟨[], [], List.replicate n 0, []⟩ : Mem) 6 k 0 0 (some ⟨w.heap.size + 1 + 1 + 1 + 1 + 1, 0, none⟩) 1 i none 0 0 [1] [] _ (HS.out.to BT) (HM.out.to BT) hso ⟨Nat.zero_le _, Nat.zero_le _, by show (1 : Nat) ≤ 100000; omega, Nat.zero_le _⟩ ⟨Nat.zero_le _, Nat.zero_le _, by show n ≤ 100000; omega, Nat.zero_le _⟩ (HW1.out.to BT) (Sl.empty _ _ _) hq2 (by omega) (by decide)).mono ?_
              rw [← HE2.out]
              rintro e wj ⟨yp, A6, n6, c6, A7, n7, c7, rfl, YP, S6, S7, k6, k7, bt, N1, N2, N3, N4, N5, N6⟩
              clear S6 S7 k6 k7 N5 N6
              have O1 := FarM.old N1 N2 N3 N4 (row_lt hk1)
              have hk1 := bt.row (row_lt hk1) hk1
              clear N1 N2 N3 N4
              have BT := BT.call bt
              clear bt
              go_wp2_with fail
              refine hK.out _ _ ?_ (fun hHeld => ?_)
              · exact keep44 (BT.row (row_lt Bs.out) Bs.out) (BT.row (row_lt Bm.out) Bm.out)
              clear hK K
              try simp only [Act.put, List.setIfInBounds_toArray, List.set_cons_zero, List.set_cons_succ]
              refine wpAnyH_take (i := 8) (v := ?_) (by simp only [List.getElem?_toArray, List.getElem?_cons_succ, List.getElem?_cons_zero]; rfl) (by kernel_rfl) (by kernel_rfl) (by kernel_rfl) (by exact fun _ _ _ h => h) (Or.inl ⟨by kernel_rfl, ?_⟩) (by assumption) ?_
              rotate_left
              · intro w hSw
                (try dsimp only at hSw)
                go_simp
                try with_reducible rfl
              simp only [Act.put, List.setIfInBounds_toArray, List.set_cons_zero, List.set_cons_succ]
              refine wpAnyH_take (i := 9) (v := ?_) (by simp only [List.getElem?_toArray, List.getElem?_cons_succ, List.getElem?_cons_zero]; rfl) (by kernel_rfl) (by kernel_rfl) (by kernel_rfl) (by exact fun _ _ _ h => h) (Or.inl ⟨by kernel_rfl, ?_⟩) (by assumption) ?_
              rotate_left
              · intro w hSw
                (try dsimp only at hSw)
                go_simp
                try with_reducible rfl
              simp only [Act.put, List.setIfInBounds_toArray, List.set_cons_zero, List.set_cons_succ]
              refine wpAnyH_take (i := 10) (v := ?_) (by simp only [List.getElem?_toArray, List.getElem?_cons_succ, List.getElem?_cons_zero]; rfl) (by kernel_rfl) (by kernel_rfl) (by kernel_rfl) (by exact fun _ _ _ h => h) (Or.inl ⟨by kernel_rfl, ?_⟩) (by assumption) ?_
              rotate_left
              · intro w hSw
                (try dsimp only at hSw)
                go_simp
                try with_reducible rfl
              simp only [Act.put, List.setIfInBounds_toArray, List.set_cons_zero, List.set_cons_succ]
              refine wpAnyH_ready (rs := [12]) (by kernel_rfl) (by simp) ?_
              refine AllReadyH.cons (by simp only [List.getElem?_toArray, List.getElem?_cons_succ, List.getElem?_cons_zero]; rfl) (fun K hK => ?_) AllReadyH.nil
              rw [if_pos (by kernel_rfl)]
              go_simp
              obtain ⟨k2, ek⟩ : ∃ k, k = (wj).heap.size := ⟨_, rfl⟩
              obtain ⟨Z2, eZ⟩ : ∃ Z, Z = (wj).alloc (.cells #[.int .u8 0, .int .u8 0, .slice none 0 0, .slice none 0 0, .int .u16 0, .int .u16 0] 36) := ⟨_, rfl⟩
              have hk2 : Z2.heap[k2]? = some (.cells #[.int .u8 0, .int .u8 0, .slice none 0 0, .slice none 0 0, .int .u16 0, .int .u16 0] 36 (0, 0)) := by rw [eZ, ek]; exact heap_alloc_new _ _
              have gk2 : Wo.heap.size ≤ k2 := by rw [ek]; exact BT.size
              have O2 : FarM k2 yp := by rw [ek]; exact FarM.new YP
              have bz : Below (wj).heap.size (wj) Z2 := by rw [eZ]; exact (Below.refl _ _).new _
              have YP := YP.to bz
              have ne12 : k1 ≠ k2 := by have := row_lt hk1; omega
              have hk1 := bz.row (row_lt hk1) hk1
              have BT := BT.call bz
              rw [← eZ, ← ek]
              clear eZ ek bz
              refine hK.out _ _ ?_ (fun hHeld => ?_)
              · exact keep44 (BT.row (row_lt Bs.out) Bs.out) (BT.row (row_lt Bm.out) Bm.out)
              clear hK K
              try simp only [Act.put, List.setIfInBounds_toArray, List.set_cons_zero, List.set_cons_succ]
              have Hm3 := ((grown_setRow1 (Z2) k1 #[.slice yp.a.A yp.a.n yp.a.c, .slice yp.b.A yp.b.n yp.b.c, .slice yp.c.A yp.c.n yp.c.c, .slice yp.d.A yp.d.n yp.d.c]).row (by omega) hk2)
              refine wpAnyH_ready (rs := [13]) (by kernel_rfl) (by simp) ?_
              refine AllReadyH.cons (by simp only [List.getElem?_toArray, List.getElem?_cons_succ, List.getElem?_cons_zero]; rfl) (fun K hK => ?_) AllReadyH.nil
              rw [if_pos (by kernel_rfl)]
              refine wp_store_row 28 (.tmp 26) (.tmp 126) rfl (k1) #[.slice yp.a.A yp.a.n yp.a.c, .slice yp.b.A yp.b.n yp.b.c, .slice yp.c.A yp.c.n yp.c.c, .slice yp.d.A yp.d.n yp.d.c] rfl rfl 28 _ hk1 (by kernel_rfl) rfl (by simp [Value.oneCell']) ?_
              refine hK.out _ _ ?_ (fun hHeld => ?_)
              · exact keep44 ((grown_setRow1 _ _ _).row (by omega) (BT.row (row_lt Bs.out) Bs.out)) ((grown_setRow1 _ _ _).row (by omega) (BT.row (row_lt Bm.out) Bm.out))
              clear hK K
              try simp only [Act.put, List.setIfInBounds_toArray, List.set_cons_zero, List.set_cons_succ]
              refine wpAnyH_ready (rs := [14]) (by kernel_rfl) (by simp) ?_
              refine AllReadyH.cons (by simp only [List.getElem?_toArray, List.getElem?_cons_succ, List.getElem?_cons_zero]; rfl) (fun K hK => ?_) AllReadyH.nil
              rw [if_pos (by kernel_rfl)]
              refine wp_store_row 36 (.tmp 27) (.tmp 127) rfl (k2) #[.int .u8 (f2 : Nat), .int .u8 (x2 : Nat), .slice A6 n6 c6, .slice A7 n7 c7, .int .u16 (a2 : Nat), .int .u16 (m2 : Nat)] rfl rfl 36 _ Hm3 (by kernel_rfl) rfl (by simp [Value.oneCell']) ?_
              refine hK.out _ _ ?_ (fun hHeld => ?_)
              · exact keep44 ((grown_setRow1 _ _ _).row (by omega) ((grown_setRow1 _ _ _).row (by omega) (BT.row (row_lt Bs.out) Bs.out))) ((grown_setRow1 _ _ _).row (by omega) ((grown_setRow1 _ _ _).row (by omega) (BT.row (row_lt Bm.out) Bm.out)))
              clear hK K
              try simp only [Act.put, List.setIfInBounds_toArray, List.set_cons_zero, List.set_cons_succ]
              refine wpAnyH_done (by kernel_rfl) ?_ _
              go_wp2_with fail
              go_meet
              refine ⟨k1, k2, yp, A6, n6, c6, A7, n7, c7, rfl, rfl, (grown_setRow1 _ _ _).row (by omega) (setRow_heap _ _ _ _ _ _ hk1), setRow_heap _ _ _ _ _ _ Hm3, MmOk.past (MmOk.past YP (grown_setRow1 _ _ _) O1) (grown_setRow1 _ _ _) O2, ?_⟩
              have b1 := BT.grown (grown_setRow1 (Z2) k1 #[.slice yp.a.A yp.a.n yp.a.c, .slice yp.b.A yp.b.n yp.b.c, .slice yp.c.A yp.c.n yp.c.c, .slice yp.d.A yp.d.n yp.d.c]) BT.size (fun j e => by injection e with e; omega)
              exact b1.grown (grown_setRow1 _ k2 _) b1.size (fun j e => by injection e with e; omega)
            refine AllReadyH.cons (by simp only [List.getElem?_toArray, List.getElem?_cons_succ, List.getElem?_cons_zero]; rfl) (fun K hK => ?_) AllReadyH.nil
            rw [if_pos (by kernel_rfl)]
            go_simp
            obtain ⟨k2, ek⟩ : ∃ k, k = (Z1).heap.size := ⟨_, rfl⟩
            obtain ⟨Z2, eZ⟩ : ∃ Z, Z = (Z1).alloc (.cells #[.int .u8 0, .int .u8 0, .slice none 0 0, .slice none 0 0, .int .u16 0, .int .u16 0] 36) := ⟨_, rfl⟩
            have hk2 : Z2.heap[k2]? = some (.cells #[.int .u8 0, .int .u8 0, .slice none 0 0, .slice none 0 0, .int .u16 0, .int .u16 0] 36 (0, 0)) := by rw [eZ, ek]; exact heap_alloc_new _ _
            have gk2 : Wo.heap.size ≤ k2 := by rw [ek]; exact BT.size
            have bz : Below (Z1).heap.size (Z1) Z2 := by rw [eZ]; exact (Below.refl _ _).new _
            have ne12 : k1 ≠ k2 := by have := row_lt hk1; omega
            have hk1 := bz.row (row_lt hk1) hk1
            have BT := BT.call bz
            rw [← eZ, ← ek]
            clear eZ ek bz
            refine hK.out _ _ ?_ (fun hHeld => ?_)
            · exact keep44 (BT.row (row_lt Bs.out) Bs.out) (BT.row (row_lt Bm.out) Bm.out)
            clear hK K
            try simp only [Act.put, List.setIfInBounds_toArray, List.set_cons_zero, List.set_cons_succ]
            refine wpAnyH_ready (rs := [7]) (by kernel_rfl) (by simp) ?_
            refine AllReadyH.cons (by simp only [List.getElem?_toArray, List.getElem?_cons_succ, List.getElem?_cons_zero]; rfl) (fun K hK => ?_) AllReadyH.nil
            rw [if_pos (by kernel_rfl)]
            go_simp
            go_at_call 11
            refine (modDoN_any ⟨sv0, sv0, ⟨some ⟨w.heap.size + 1, 0, none⟩, 1, 1⟩, sv0⟩ ⟨sv0, sv0, ⟨some ⟨w.heap.size + 1 + 1 + 1, 0, none⟩, n, n⟩, sv0⟩ (⟨[], [], [⟨(A : Int), (L : Int), true, pw, ph⟩], []⟩ : Space) (⟨[], [], List.replicate n 0, []⟩ : Mem) 6 k 0 0 (some ⟨w.heap.size + 1 + 1 + 1 + 1 + 1, 0, none⟩) 1 i none 0 0 [1] [] _ (HS.out.to BT) (HM.out.to BT) hso ⟨Nat.zero_le _, Nat.zero_le _, by show (1 : Nat) ≤ 100000; omega, Nat.zero_le _⟩ ⟨Nat.zero_le _, Nat.zero_le _, by show n ≤ 100000; omega, Nat.zero_le _⟩ (HW1.out.to BT) (Sl.empty _ _ _) hq2 (by omega) (by decide)).mono ?_
            rw [← HE2.out]
            rintro e wj ⟨yp, A6, n6, c6, A7, n7, c7, rfl, YP, S6, S7, k6, k7, bt, N1, N2, N3, N4, N5, N6⟩
            clear S6 S7 k6 k7 N5 N6
            have O1 := FarM.old N1 N2 N3 N4 (row_lt hk1)
            have hk1 := bt.row (row_lt hk1) hk1
            have O2 := FarM.old N1 N2 N3 N4 (row_lt hk2)
            have hk2 := bt.row (row_lt hk2) hk2
            clear N1 N2 N3 N4
            have BT := BT.call bt
            clear bt
            go_wp2_with fail
            refine hK.out _ _ ?_ (fun hHeld => ?_)
            · exact keep44 (BT.row (row_lt Bs.out) Bs.out) (BT.row (row_lt Bm.out) Bm.out)
            clear hK K
            try simp only [Act.put, List.setIfInBounds_toArray, List.set_cons_zero, List.set_cons_succ]
            refine wpAnyH_take (i := 8) (v := ?_) (by simp only [List.getElem?_toArray, List.getElem?_cons_succ, List.getElem?_cons_zero]; rfl) (by kernel_rfl) (by kernel_rfl) (by kernel_rfl) (by exact fun _ _ _ h => h) (Or.inl ⟨by kernel_rfl, ?_⟩) (by assumption) ?_
            rotate_left
            · intro w hSw
              (try dsimp only at hSw)
              go_simp
              try with_reducible rfl
            simp only [Act.put, List.setIfInBounds_toArray, List.set_cons_zero, List.set_cons_succ]
            refine wpAnyH_take (i := 9) (v := ?_) (by simp only [List.getElem?_toArray, List.getElem?_cons_succ, List.getElem?_cons_zero]; rfl) (by kernel_rfl) (by kernel_rfl) (by kernel_rfl) (by exact fun _ _ _ h => h) (Or.inl ⟨by kernel_rfl, ?_⟩) (by assumption) ?_
            rotate_left
            · intro w hSw
              (try dsimp only at hSw)
              go_simp
              try with_reducible rfl
            simp only [Act.put, List.setIfInBounds_toArray, List.set_cons_zero, List.set_cons_succ]
            refine wpAnyH_take (i := 10) (v := ?_) (by simp only [List.getElem?_toArray, List.getElem?_cons_succ, List.getElem?_cons_zero]; rfl) (by kernel_rfl) (by kernel_rfl) (by kernel_rfl) (by exact fun _ _ _ h => h) (Or.inl ⟨by kernel_rfl, ?_⟩) (by assumption) ?_
            rotate_left
            · intro w hSw
              (try dsimp only at hSw)
              go_simp
              try with_reducible rfl
            simp only [Act.put, List.setIfInBounds_toArray, List.set_cons_zero, List.set_cons_succ]
            have Hm3 := ((grown_setRow1 (wj) k1 #[.slice yp.a.A yp.a.n yp.a.c, .slice yp.b.A yp.b.n yp.b.c, .slice yp.c.A yp.c.n yp.c.c, .slice yp.d.A yp.d.n yp.d.c]).row (by omega) hk2)
            refine wpAnyH_ready (rs := [13]) (by kernel_rfl) (by simp) ?_
            refine AllReadyH.cons (by simp only [List.getElem?_toArray, List.getElem?_cons_succ, List.getElem?_cons_zero]; rfl) (fun K hK => ?_) AllReadyH.nil
            rw [if_pos (by kernel_rfl)]
            refine wp_store_row 28 (.tmp 26) (.tmp 126) rfl (k1) #[.slice yp.a.A yp.a.n yp.a.c, .slice yp.b.A yp.b.n yp.b.c, .slice yp.c.A yp.c.n yp.c.c, .slice yp.d.A yp.d.n yp.d.c] rfl rfl 28 _ hk1 (by kernel_rfl) rfl (by simp [Value.oneCell']) ?_
            refine hK.out _ _ ?_ (fun hHeld => ?_)
            · exact keep44 ((grown_setRow1 _ _ _).row (by omega) (BT.row (row_lt Bs.out) Bs.out)) ((grown_setRow1 _ _ _).row (by omega) (BT.row (row_lt Bm.out) Bm.out))
            clear hK K
            try simp only [Act.put, List.setIfInBounds_toArray, List.set_cons_zero, List.set_cons_succ]
            refine wpAnyH_ready (rs := [14]) (by kernel_rfl) (by simp) ?_
            refine AllReadyH.cons (by simp only [List.getElem?_toArray, List.getElem?_cons_succ, List.getElem?_cons_zero]; rfl) (fun K hK => ?_) AllReadyH.nil
            rw [if_pos (by kernel_rfl)]
            refine wp_store_row 36 (.tmp 27) (.tmp 127) rfl (k2) #[.int .u8 (f2 : Nat), .int .u8 (x2 : Nat), .slice A6 n6 c6, .slice A7 n7 c7, .int .u16 (a2 : Nat), .int .u16 (m2 : Nat)] rfl rfl 36 _ Hm3 (by kernel_rfl) rfl (by simp [Value.oneCell']) ?_
            refine hK.out _ _ ?_ (fun hHeld => ?_)
            · exact keep44 ((grown_setRow1 _ _ _).row (by omega) ((grown_setRow1 _ _ _).row (by omega) (BT.row (row_lt Bs.out) Bs.out))) ((grown_setRow1 _ _ _).row (by omega) ((grown_setRow1 _ _ _).row (by omega) (BT.row (row_lt Bm.out) Bm.out)))
            clear hK K
            try simp only [Act.put, List.setIfInBounds_toArray, List.set_cons_zero, List.set_cons_succ]
            refine wpAnyH_done (by kernel_rfl) ?_ _
            go_wp2_with fail
            go_meet
            refine ⟨k1, k2, yp, A6, n6, c6, A7, n7, c7, rfl, rfl, (grown_setRow1 _ _ _).row (by omega) (setRow_heap _ _ _ _ _ _ hk1), setRow_heap _ _ _ _ _ _ Hm3, MmOk.past (MmOk.past YP (grown_setRow1 _ _ _) O1) (grown_setRow1 _ _ _) O2, ?_⟩
            have b1 := BT.grown (grown_setRow1 (wj) k1 #[.slice yp.a.A yp.a.n yp.a.c, .slice yp.b.A yp.b.n yp.b.c, .slice yp.c.A yp.c.n yp.c.c, .slice yp.d.A yp.d.n yp.d.c]) BT.size (fun j e => by injection e with e; omega)
            exact b1.grown (grown_setRow1 _ k2 _) b1.size (fun j e => by injection e with e; omega)
          refine AllReadyH.cons (by simp only [List.getElem?_toArray, List.getElem?_cons_succ, List.getElem?_cons_zero]; rfl) (fun K hK => ?_) AllReadyH.nil
          rw [if_pos (by kernel_rfl)]
          go_simp
          obtain ⟨k2, ek⟩ : ∃ k, k = (Wd).heap.size := ⟨_, rfl⟩
          obtain ⟨Z2, eZ⟩ : ∃ Z, Z = (Wd).alloc (.cells #[.int .u8 0, .int .u8 0, .slice none 0 0, .slice none 0 0, .int .u16 0, .int .u16 0] 36) := ⟨_, rfl⟩
          have hk2 : Z2.heap[k2]? = some (.cells #[.int .u8 0, .int .u8 0, .slice none 0 0, .slice none 0 0, .int .u16 0, .int .u16 0] 36 (0, 0)) := by rw [eZ, ek]; exact heap_alloc_new _ _
          have gk2 : Wo.heap.size ≤ k2 := by rw [ek]; exact BT.size
          have bz : Below (Wd).heap.size (Wd) Z2 := by rw [eZ]; exact (Below.refl _ _).new _
          have BT := BT.call bz
          rw [← eZ, ← ek]
          clear eZ ek bz
          refine hK.out _ _ ?_ (fun hHeld => ?_)
          · exact keep44 (BT.row (row_lt Bs.out) Bs.out) (BT.row (row_lt Bm.out) Bm.out)
          clear hK K
          try simp only [Act.put, List.setIfInBounds_toArray, List.set_cons_zero, List.set_cons_succ]
          refine wpAnyH_ready (rs := [7, 11]) (by kernel_rfl) (by simp) ?_
          refine AllReadyH.cons (by simp only [List.getElem?_toArray, List.getElem?_cons_succ, List.getElem?_cons_zero]; rfl) (fun K hK => ?_) ?_
          · rw [if_pos (by kernel_rfl)]
            go_simp
            go_at_call 11
            refine (modDoN_any ⟨sv0, sv0, ⟨some ⟨w.heap.size + 1, 0, none⟩, 1, 1⟩, sv0⟩ ⟨sv0, sv0, ⟨some ⟨w.heap.size + 1 + 1 + 1, 0, none⟩, n, n⟩, sv0⟩ (⟨[], [], [⟨(A : Int), (L : Int), true, pw, ph⟩], []⟩ : Space) (⟨[], [], List.replicate n 0, []⟩ : Mem) 6 k 0 0 (some ⟨w.heap.size + 1 + 1 + 1 + 1 + 1, 0, none⟩) 1 i none 0 0 [1] [] _ (HS.out.to BT) (HM.out.to BT) hso ⟨Nat.zero_le _, Nat.zero_le _, by show (1 : Nat) ≤ 100000; omega, Nat.zero_le _⟩ ⟨Nat.zero_le _, Nat.zero_le _, by show n ≤ 100000; omega, Nat.zero_le _⟩ (HW1.out.to BT) (Sl.empty _ _ _) hq2 (by omega) (by decide)).mono ?_
            rw [← HE2.out]
            rintro e wj ⟨yp, A6, n6, c6, A7, n7, c7, rfl, YP, S6, S7, k6, k7, bt, N1, N2, N3, N4, N5, N6⟩
            clear S6 S7 k6 k7 N5 N6
            have O2 := FarM.old N1 N2 N3 N4 (row_lt hk2)
            have hk2 := bt.row (row_lt hk2) hk2
            clear N1 N2 N3 N4
            have BT := BT.call bt
            clear bt
            go_wp2_with fail
            refine hK.out _ _ ?_ (fun hHeld => ?_)
            · exact keep44 (BT.row (row_lt Bs.out) Bs.out) (BT.row (row_lt Bm.out) Bm.out)
            clear hK K
            try simp only [Act.put, List.setIfInBounds_toArray, List.set_cons_zero, List.set_cons_succ]
            refine wpAnyH_take (i := 8) (v := ?_) (by simp only [List.getElem?_toArray, List.getElem?_cons_succ, List.getElem?_cons_zero]; rfl) (by kernel_rfl) (by kernel_rfl) (by kernel_rfl) (by exact fun _ _ _ h => h) (Or.inl ⟨by kernel_rfl, ?_⟩) (by assumption) ?_
            rotate_left
            · intro w hSw
              (try dsimp only at hSw)
              go_simp
              try with_reducible rfl
            simp only [Act.put, List.setIfInBounds_toArray, List.set_cons_zero, List.set_cons_succ]
            refine wpAnyH_take (i := 9) (v := ?_) (by simp only [List.getElem?_toArray, List.getElem?_cons_succ, List.getElem?_cons_zero]; rfl) (by kernel_rfl) (by kernel_rfl) (by kernel_rfl) (by exact fun _ _ _ h => h) (Or.inl ⟨by kernel_rfl, ?_⟩) (by assumption) ?_
            rotate_left
            · intro w hSw
              (try dsimp only at hSw)
              go_simp
              try with_reducible rfl
            simp only [Act.put, List.setIfInBounds_toArray, List.set_cons_zero, List.set_cons_succ]
            refine wpAnyH_take (i := 10) (v := ?_) (by simp only [List.getElem?_toArray, List.getElem?_cons_succ, List.getElem?_cons_zero]; rfl) (by kernel_rfl) (by kernel_rfl) (by kernel_rfl) (by exact fun _ _ _ h => h) (Or.inl ⟨by kernel_rfl, ?_⟩) (by assumption) ?_
            rotate_left
            · intro w hSw
              (try dsimp only at hSw)
              go_simp
              try with_reducible rfl
            simp only [Act.put, List.setIfInBounds_toArray, List.set_cons_zero, List.set_cons_succ]
            refine wpAnyH_ready (rs := [11]) (by kernel_rfl) (by simp) ?_
            refine AllReadyH.cons (by simp only [List.getElem?_toArray, List.getElem?_cons_succ, List.getElem?_cons_zero]; rfl) (fun K hK => ?_) AllReadyH.nil
            rw [if_pos (by kernel_rfl)]
            go_simp
            obtain ⟨k1, ek⟩ : ∃ k, k = (wj).heap.size := ⟨_, rfl⟩
            obtain ⟨Z1, eZ⟩ : ∃ Z, Z = (wj).alloc (.cells #[.slice none 0 0, .slice none 0 0, .slice none 0 0, .slice none 0 0] 28) := ⟨_, rfl⟩
            have hk1 : Z1.heap[k1]? = some (.cells #[.slice none 0 0, .slice none 0 0, .slice none 0 0, .slice none 0 0] 28 (0, 0)) := by rw [eZ, ek]; exact heap_alloc_new _ _
            have gk1 : Wo.heap.size ≤ k1 := by rw [ek]; exact BT.size
            have O1 : FarM k1 yp := by rw [ek]; exact FarM.new YP
            have bz : Below (wj).heap.size (wj) Z1 := by rw [eZ]; exact (Below.refl _ _).new _
            have YP := YP.to bz
            have ne12 : k1 ≠ k2 := by have := row_lt hk2; omega
            have hk2 := bz.row (row_lt hk2) hk2
            have BT := BT.call bz
            rw [← eZ, ← ek]
            clear eZ ek bz
            refine hK.out _ _ ?_ (fun hHeld => ?_)
            · exact keep44 (BT.row (row_lt Bs.out) Bs.out) (BT.row (row_lt Bm.out) Bm.out)
            clear hK K
            try simp only [Act.put, List.setIfInBounds_toArray, List.set_cons_zero, List.set_cons_succ]
            have Hm3 := ((grown_setRow1 (Z1) k1 #[.slice yp.a.A yp.a.n yp.a.c, .slice yp.b.A yp.b.n yp.b.c, .slice yp.c.A yp.c.n yp.c.c, .slice yp.d.A yp.d.n yp.d.c]).row (by omega) hk2)
            refine wpAnyH_ready (rs := [13]) (by kernel_rfl) (by simp) ?_
            refine AllReadyH.cons (by simp only [List.getElem?_toArray, List.getElem?_cons_succ, List.getElem?_cons_zero]; rfl) (fun K hK => ?_) AllReadyH.nil
            rw [if_pos (by kernel_rfl)]
            refine wp_store_row 28 (.tmp 26) (.tmp 126) rfl (k1) #[.slice yp.a.A yp.a.n yp.a.c, .slice yp.b.A yp.b.n yp.b.c, .slice yp.c.A yp.c.n yp.c.c, .slice yp.d.A yp.d.n yp.d.c] rfl rfl 28 _ hk1 (by kernel_rfl) rfl (by simp [Value.oneCell']) ?_
            refine hK.out _ _ ?_ (fun hHeld => ?_)
            · exact keep44 ((grown_setRow1 _ _ _).row (by omega) (BT.row (row_lt Bs.out) Bs.out)) ((grown_setRow1 _ _ _).row (by omega) (BT.row (row_lt Bm.out) Bm.out))
            clear hK K
            try simp only [Act.put, List.setIfInBounds_toArray, List.set_cons_zero, List.set_cons_succ]
            refine wpAnyH_ready (rs := [14]) (by kernel_rfl) (by simp) ?_
            refine AllReadyH.cons (by simp only [List.getElem?_toArray, List.getElem?_cons_succ, List.getElem?_cons_zero]; rfl) (fun K hK => ?_) AllReadyH.nil
            rw [if_pos (by kernel_rfl)]
            refine wp_store_row 36 (.tmp 27) (.tmp 127) rfl (k2) #[.int .u8 (f2 : Nat), .int .u8 (x2 : Nat), .slice A6 n6 c6, .slice A7 n7 c7, .int .u16 (a2 : Nat), .int .u16 (m2 : Nat)] rfl rfl 36 _ Hm3 (by kernel_rfl) rfl (by simp [Value.oneCell']) ?_
            refine hK.out _ _ ?_ (fun hHeld => ?_)
            · exact keep44 ((grown_setRow1 _ _ _).row (by omega) ((grown_setRow1 _ _ _).row (by omega) (BT.row (row_lt Bs.out) Bs.out))) ((grown_setRow1 _ _ _).row (by omega) ((grown_setRow1 _ _ _).row (by omega) (BT.row (row_lt Bm.out) Bm.out)))
            clear hK K
            try simp only [Act.put, List.setIfInBounds_toArray, List.set_cons_zero, List.set_cons_succ]
            refine wpAnyH_done (by kernel_rfl) ?_ _
            go_wp2_with fail
            go_meet
            refine ⟨k1, k2, yp, A6, n6, c6, A7, n7, c7, rfl, rfl, (grown_setRow1 _ _ _).row (by omega) (setRow_heap _ _ _ _ _ _ hk1), setRow_heap _ _ _ _ _ _ Hm3, MmOk.past (MmOk.past YP (grown_setRow1 _ _ _) O1) (grown_setRow1 _ _ _) O2, ?_⟩
            have b1 := BT.grown (grown_setRow1 (Z1) k1 #[.slice yp.a.A yp.a.n yp.a.c, .slice yp.b.A yp.b.n yp.b.c, .slice yp.c.A yp.c.n yp.c.c, .slice yp.d.A yp.d.n yp.d.c]) BT.size (fun j e => by injection e with e; omega)
            exact b1.grown (grown_setRow1 _ k2 _) b1.size (fun j e => by injection e with e; omega)
          refine AllReadyH.cons (by simp only [List.getElem?_toArray, List.getElem?_cons_succ, List.getElem?_cons_zero]; rfl) (fun K hK => ?_) AllReadyH.nil
          rw [if_pos (by kernel_rfl)]
          go_simp
          obtain ⟨k1, ek⟩ : ∃ k, k = (Z2).heap.size := ⟨_, rfl⟩
          obtain ⟨Z1, eZ⟩ : ∃ Z, Z = (Z2).alloc (.cells #[.slice none 0 0, .slice none 0 0, .slice none 0 0, .slice none 0 0] 28) := ⟨_, rfl⟩
          have hk1 : Z1.heap[k1]? = some (.cells #[.slice none 0 0, .slice none 0 0, .slice none 0 0, .slice none 0 0] 28 (0, 0)) := by rw [eZ, ek]; exact heap_alloc_new _ _
          have gk1 : Wo.heap.size ≤ k1 := by rw [ek]; exact BT.size
          have bz : Below (Z2).heap.size (Z2) Z1 := by rw [eZ]; exact (Below.refl _ _).new _
          have ne12 : k1 ≠ k2 := by have := row_lt hk2; omega
          have hk2 := bz.row (row_lt hk2) hk2
          have BT := BT.call bz
          rw [← eZ, ← ek]
          clear eZ ek bz
          refine hK.out _ _ ?_ (fun hHeld => ?_)
          · exact keep44 (BT.row (row_lt Bs.out) Bs.out) (BT.row (row_lt Bm.out) Bm.out)
          clear hK K
          try simp only [Act.put, List.setIfInBounds_toArray, List.set_cons_zero, List.set_cons_succ]
          refine wpAnyH_ready (rs := [7]) (by kernel_rfl) (by simp) ?_
          refine AllReadyH.cons (by simp only [List.getElem?_toArray, List.getElem?_cons_succ, List.getElem?_cons_zero]; rfl) (fun K hK => ?_) AllReadyH.nil
          rw [if_pos (by kernel_rfl)]
          go_simp
          go_at_call 11
          refine (modDoN_any ⟨sv0, sv0, ⟨some ⟨w.heap.size + 1, 0, none⟩, 1, 1⟩, sv0⟩ ⟨sv0, sv0, ⟨some ⟨w.heap.size + 1 + 1 + 1, 0, none⟩, n, n⟩, sv0⟩ (⟨[], [], [⟨(A : Int), (L : Int), true, pw, ph⟩], []⟩ : Space) (⟨[], [], List.replicate n 0, []⟩ : Mem) 6 k 0 0 (some ⟨w.heap.size + 1 + 1 + 1 + 1 + 1, 0, none⟩) 1 i none 0 0 [1] [] _ (HS.out.to BT) (HM.out.to BT) hso ⟨Nat.zero_le _, Nat.zero_le _, by show (1 : Nat) ≤ 100000; omega, Nat.zero_le _⟩ ⟨Nat.zero_le _, Nat.zero_le _, by show n ≤ 100000; omega, Nat.zero_le _⟩ (HW1.out.to BT) (Sl.empty _ _ _) hq2 (by omega) (by decide)).mono ?_
          rw [← HE2.out]
          rintro e wj ⟨yp, A6, n6, c6, A7, n7, c7, rfl, YP, S6, S7, k6, k7, bt, N1, N2, N3, N4, N5, N6⟩
          clear S6 S7 k6 k7 N5 N6
          have O1 := FarM.old N1 N2 N3 N4 (row_lt hk1)
          have hk1 := bt.row (row_lt hk1) hk1
          have O2 := FarM.old N1 N2 N3 N4 (row_lt hk2)
          have hk2 := bt.row (row_lt hk2) hk2
          clear N1 N2 N3 N4
          have BT := BT.call bt
          clear bt
          go_wp2_with fail
          refine hK.out _ _ ?_ (fun hHeld => ?_)
          · exact keep44 (BT.row (row_lt Bs.out) Bs.out) (BT.row (row_lt Bm.out) Bm.out)
          clear hK K
          try simp only [Act.put, List.setIfInBounds_toArray, List.set_cons_zero, List.set_cons_succ]
          refine wpAnyH_take (i := 8) (v := ?_) (by simp only [List.getElem?_toArray, List.getElem?_cons_succ, List.getElem?_cons_zero]; rfl) (by kernel_rfl) (by kernel_rfl) (by kernel_rfl) (by exact fun _ _ _ h => h) (Or.inl ⟨by kernel_rfl, ?_⟩) (by assumption) ?_
          rotate_left
          · intro w hSw
            (try dsimp only at hSw)
            go_simp
            try with_reducible rfl
          simp only [Act.put, List.setIfInBounds_toArray, List.set_cons_zero, List.set_cons_succ]
          refine wpAnyH_take (i := 9) (v := ?_) (by simp only [List.getElem?_toArray, List.getElem?_cons_succ, List.getElem?_cons_zero]; rfl) (by kernel_rfl) (by kernel_rfl) (by kernel_rfl) (by exact fun _ _ _ h => h) (Or.inl ⟨by kernel_rfl, ?_⟩) (by assumption) ?_
          rotate_left
          · intro w hSw
            (try dsimp only at hSw)
            go_simp
            try with_reducible rfl
          simp only [Act.put, List.setIfInBounds_toArray, List.set_cons_zero, List.set_cons_succ]
          refine wpAnyH_take (i := 10) (v := ?_) (by simp only [List.getElem?_toArray, List.getElem?_cons_succ, List.getElem?_cons_zero]; rfl) (by kernel_rfl) (by kernel_rfl) (by kernel_rfl) (by exact fun _ _ _ h => h) (Or.inl ⟨by kernel_rfl, ?_⟩) (by assumption) ?_
          rotate_left
          · intro w hSw
            (try dsimp only at hSw)
            go_simp
            try with_reducible rfl
          simp only [Act.put, List.setIfInBounds_toArray, List.set_cons_zero, List.set_cons_succ]
          have Hm3 := ((grown_setRow1 (wj) k1 #[.slice yp.a.A yp.a.n yp.a.c, .slice yp.b.A yp.b.n yp.b.c, .slice yp.c.A yp.c.n yp.c.c, .slice yp.d.A yp.d.n yp.d.c]).row (by omega) hk2)
          refine wpAnyH_ready (rs := [13]) (by kernel_rfl) (by simp) ?_
          refine AllReadyH.cons (by simp only [List.getElem?_toArray, List.getElem?_cons_succ, List.getElem?_cons_zero]; rfl) (fun K hK => ?_) AllReadyH.nil
          rw [if_pos (by kernel_rfl)]
          refine wp_store_row 28 (.tmp 26) (.tmp 126) rfl (k1) #[.slice yp.a.A yp.a.n yp.a.c, .slice yp.b.A yp.b.n yp.b.c, .slice yp.c.A yp.c.n yp.c.c, .slice yp.d.A yp.d.n yp.d.c] rfl rfl 28 _ hk1 (by kernel_rfl) rfl (by simp [Value.oneCell']) ?_
          refine hK.out _ _ ?_ (fun hHeld => ?_)
          · exact keep44 ((grown_setRow1 _ _ _).row (by omega) (BT.row (row_lt Bs.out) Bs.out)) ((grown_setRow1 _ _ _).row (by omega) (BT.row (row_lt Bm.out) Bm.out))
          clear hK K
          try simp only [Act.put, List.setIfInBounds_toArray, List.set_cons_zero, List.set_cons_succ]
          refine wpAnyH_ready (rs := [14]) (by kernel_rfl) (by simp) ?_
          refine AllReadyH.cons (by simp only [List.getElem?_toArray, List.getElem?_cons_succ, List.getElem?_cons_zero]; rfl) (fun K hK => ?_) AllReadyH.nil
          rw [if_pos (by kernel_rfl)]
          refine wp_store_row 36 (.tmp 27) (.tmp 127) rfl (k2) #[.int .u8 (f2 : Nat), .int .u8 (x2 : Nat), .slice A6 n6 c6, .slice A7 n7 c7, .int .u16 (a2 : Nat), .int .u16 (m2 : Nat)] rfl rfl 36 _ Hm3 (by kernel_rfl) rfl (by simp [Value.oneCell']) ?_
          refine hK.out _ _ ?_ (fun hHeld => ?_)
          · exact keep44 ((grown_setRow1 _ _ _).row (by omega) ((grown_setRow1 _ _ _).row (by omega) (BT.row (row_lt Bs.out) Bs.out))) ((grown_setRow1 _ _ _).row (by omega) ((grown_setRow1 _ _ _).row (by omega) (BT.row (row_lt Bm.out) Bm.out)))
          clear hK K
          try simp only [Act.put, List.setIfInBounds_toArray, List.set_cons_zero, List.set_cons_succ]
          refine wpAnyH_done (by kernel_rfl) ?_ _
          go_wp2_with fail
          go_meet
          refine ⟨k1, k2, yp, A6, n6, c6, A7, n7, c7, rfl, rfl, (grown_setRow1 _ _ _).row (by omega) (setRow_heap _ _ _ _ _ _ hk1), setRow_heap _ _ _ _ _ _ Hm3, MmOk.past (MmOk.past YP (grown_setRow1 _ _ _) O1) (grown_setRow1 _ _ _) O2, ?_⟩
          have b1 := BT.grown (grown_setRow1 (wj) k1 #[.slice yp.a.A yp.a.n yp.a.c, .slice yp.b.A yp.b.n yp.b.c, .slice yp.c.A yp.c.n yp.c.c, .slice yp.d.A yp.d.n yp.d.c]) BT.size (fun j e => by injection e with e; omega)
          exact b1.grown (grown_setRow1 _ k2 _) b1.size (fun j e => by injection e with e; omega)
        case rest =>
          obtain ⟨k1, k2, yp, A6, n6, c6, A7, n7, c7, rfl, rfl, hk1, hk2, YP, BT⟩ := hcut
          have sp : yp.Small := small_of YP HM2.out
          have so : yo.Small := small_of HYo.out HM1.out
          have HM := Lib.hid (HM.out.to BT)
          have HYo := Lib.hid (HYo.out.to BT)
          have HYp := Lib.hid YP
          have Ba := Lib.hid (BT.row (row_lt Ba.out) Ba.out)
          have Bm := Lib.hid (BT.row (row_lt Bm.out) Bm.out)
          have Bmo := Lib.hid (BT.row (row_lt Bmo.out) Bmo.out)
          have Bro := Lib.hid (BT.row (row_lt Bro.out) Bro.out)
          have Bmp := Lib.hid hk1
          have Brp := Lib.hid hk2
          have bw := bw.call BT
          clear BT hk1 hk2 YP HS HWd HW1 HBo HWo Bs hso hq1 hq2 HM1 HM2 HE1 HE2 HN HA HL HK HOK wk16
          obtain ⟨a_0, a_1, a_2, a_3, a_4⟩ := row5 Ba.out
          go_upto_region 15 with fail
          go_cut [28] (fun s28 wx => s28 = .bool ON ∧ wc = wx)
          case first =>
            have wl : IntKind.i64.wrap ((A : Int) + (L : Int)) = (A : Int) + (L : Int) := by rw [IntKind.wrap_i64]; omega
            obtain ⟨t5, e5⟩ : ∃ t, ((L : Int) == 1) = t := ⟨_, rfl⟩
            have E5 := Lib.hid (show t5 = decide (L = 1) by rw [← e5, Bool.eq_iff_iff]; simp; omega)
            cases pw <;> cases ph <;> cases t5 <;> (
              go_wp2_with fail
              all_goals (
                go_meet
                refine ⟨?_, rfl⟩
                have h5 := E5.out
                simp at h5
                rw [HON.out]
                first
                  | rfl
                  | (congr 1; simp; omega)
                  | (congr 1; rw [Bool.eq_iff_iff]; simp; omega)
                  | fail))
          case rest =>
            obtain ⟨rfl, hwx⟩ := hcut
            subst hwx
            clear a_0 a_1 a_2 a_3 a_4 HON
            have x1f := X1.out
            have x2f := X2.out
            obtain ⟨Bro_0, Bro_1, Bro_2, Bro_3, Bro_4, Bro_5⟩ := row6 Bro.out
            obtain ⟨Brp_0, Brp_1, Brp_2, Brp_3, Brp_4, Brp_5⟩ := row6 Brp.out
            obtain ⟨Bmo_0, Bmo_1, Bmo_2, Bmo_3⟩ := row4 Bmo.out
            obtain ⟨Bm_0, Bm_1, Bm_2, Bm_3⟩ := row4 Bm.out
            go_wp2_with fail
            refine (lawSame7_any yo ⟨sv0, sv0, ⟨some ⟨w.heap.size + 1 + 1 + 1, 0, none⟩, n, n⟩, sv0⟩ M1 (⟨[], [], List.replicate n 0, []⟩ : Mem) _ HYo.out HM.out so ⟨Nat.zero_le _, Nat.zero_le _, by show n ≤ 100000; omega, Nat.zero_le _⟩).mono ?_
            rw [Y1.out]
            rintro e w4 ⟨rfl, b4⟩
            clear Bmo_0 Bmo_1 Bmo_2 Bmo_3 Bm_0 Bm_1 Bm_2 Bm_3 Bro_0 Bro_1 Bro_2 Bro_3 Bro_4 Bro_5 Brp_0 Brp_1 Brp_2 Brp_3 Brp_4 Brp_5
            have HM := Lib.hid (HM.out.to b4)
            have HYp := Lib.hid (HYp.out.to b4)
            have Bm := Lib.hid (b4.row (row_lt Bm.out) Bm.out)
            have Bmp := Lib.hid (b4.row (row_lt Bmp.out) Bmp.out)
            have bw := bw.call b4
            clear b4
            obtain ⟨Bmp_0, Bmp_1, Bmp_2, Bmp_3⟩ := row4 Bmp.out
            obtain ⟨Bm_0, Bm_1, Bm_2, Bm_3⟩ := row4 Bm.out
            go_wp2_with fail
            refine (lawSame7_any yp ⟨sv0, sv0, ⟨some ⟨w.heap.size + 1 + 1 + 1, 0, none⟩, n, n⟩, sv0⟩ M2 (⟨[], [], List.replicate n 0, []⟩ : Mem) _ HYp.out HM.out sp ⟨Nat.zero_le _, Nat.zero_le _, by show n ≤ 100000; omega, Nat.zero_le _⟩).mono ?_
            rw [Y2.out]
            rintro e w5 ⟨rfl, b5⟩
            clear Bmp_0 Bmp_1 Bmp_2 Bmp_3 Bm_0 Bm_1 Bm_2 Bm_3
            have bw := bw.call b5
            clear b5
            go_wp2_with (go_at_call 10; refine (awake7_any _).mono ?_; rintro e wa ⟨rfl, ba⟩)
            go_ret
            exact ⟨rfl, bw.call ba⟩
end Go.Proofs.Ytiibopdnlmnkmaa.MoW
