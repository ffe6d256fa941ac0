/- The walk of saucierlaw07.awake. -/
import Derived.Test.YtiibopdnlmnkmaaMG9
set_option linter.unusedVariables false
set_option linter.unusedSimpArgs false
namespace Go.Proofs.Ytiibopdnlmnkmaa.MoW
open Go.RowKit Go.Proofs.Ytiibopdnlmnkmaa Go.Proofs.Ytiibopdnlmnkmaa.Mo Go.Proofs.Ytiibopdnlmnkmaa.Ask Go.Proofs.Ytiibopdnlmnkmaa.AskW
def exS : Space := ⟨[⟨0, 10, true, false, false⟩], [], [⟨0, 4, true, false, false⟩, ⟨4, 4, false, true, true⟩], []⟩
def exM : Mem := ⟨List.replicate 10 false, [], List.replicate 8 0, []⟩
theorem exA : doM exS exM ⟨16, 4, 4, 0, [1, 2, 3, 4], []⟩ = (⟨List.replicate 10 false, [], [0, 0, 0, 0, 1, 2, 3, 4], []⟩, ⟨16, 0, [], [], 4, 4⟩) := by decide +kernel
theorem exB : doM exS exM ⟨16, 4, 2, 0, [1, 2], []⟩ = (exM, ⟨16, 2, [], [], 0, 0⟩) := by decide +kernel
theorem exC : doM exS exM ⟨3, 2, 4, 0, [], []⟩ = (exM, ⟨3, 2, [], [], 0, 0⟩) := by decide +kernel
theorem exD : doM exS exM ⟨1, 0, 10, 0, [], []⟩ = (exM, ⟨1, 0, List.replicate 16 false, [], 0, 0⟩) := by decide +kernel
theorem exR : rightM exS exM = true := by decide +kernel
theorem below_two {X Y Z : World} {o o2 : Obj} (g1 : ((X.alloc o).alloc o2).grownBy Y (some X.heap.size)) (g2 : Y.grownBy Z (some (X.heap.size + 1))) (s1 : Y.heap.size = ((X.alloc o).alloc o2).heap.size) : Below X.heap.size X Z :=
  ((((Below.refl X.heap.size X).new _).new _).grown g1 (by simp; omega) (fun j e => by injection e with e; omega)).grown g2 (by rw [s1]; simp; omega) (fun j e => by injection e with e; omega)
theorem exS_ok : exS.Ok := by
  refine ⟨?_, ?_, ?_, ?_⟩ <;> intro a ha <;> simp [exS] at ha
  · subst ha; exact ⟨by decide, by decide, by decide, by decide⟩
  · rcases ha with rfl | rfl <;> exact ⟨by decide, by decide, by decide, by decide⟩
theorem exQ {r : Req} (h : (decide (r.f < 256) && (decide (r.at' < 65536) && (decide (r.many < 65536) && (decide (r.to < 65536) && r.words.all (fun x => decide (x < 65536)))))) = true) : r.Wf := by
  simp only [Bool.and_eq_true, decide_eq_true_iff, List.all_eq_true] at h
  exact ⟨h.1, h.2.1, h.2.2.1, h.2.2.2.1, h.2.2.2.2⟩
def z4 : Array Value := #[.slice none 0 0, .slice none 0 0, .slice none 0 0, .slice none 0 0]
/-- A memory of 10 coils and 8 registers, in a box. -/
structure Exm (W1 wc : World) (g gb gw : Nat) : Prop where
  g : wc.heap[g]? = some (.cells #[.slice (some ⟨gb, 0, none⟩) 10 10, .slice none 0 0, .slice (some ⟨gw, 0, none⟩) 8 8, .slice none 0 0] 28 (0, 0))
  b : wc.heap[gb]? = some (.cells (Array.replicate 10 (.bool false)) 4 (0, 0))
  w : wc.heap[gw]? = some (.cells (Array.replicate 8 (.int .u16 0)) 29 (0, 0))
  bel : Below W1.heap.size W1 wc
theorem row_third (w : World) (a b c : Obj) : (((w.alloc a).alloc b).alloc c).heap[w.heap.size + 1 + 1]? = some c := by
  rw [show w.heap.size + 1 + 1 = ((w.alloc a).alloc b).heap.size from by simp]
  exact heap_alloc_new _ _
set_option maxRecDepth 10000 in
set_option maxHeartbeats 4000000 in
theorem awake7_any (w : World) : Calls Try.prog 10 #[] w fun e w' => e = .returned (.bool true) ∧ Below w.heap.size w w' := by
  obtain ⟨i0, hi0, hz0, hs0, hb0⟩ := info_parts (P := Try.prog) (e := 4) (z := .bool false) (size := 1) (bytes := 1) (by kernel_rfl)
  obtain ⟨i1, hi1, hz1, hs1, hb1⟩ := info_parts (P := Try.prog) (e := 29) (z := .int .u16 0) (size := 1) (bytes := 2) (by kernel_rfl)
  go_enter Try.func10, Try.ntmps10
  have kb := fun (W : World) => run_make (P := Try.prog) W 25 4 i0 (.bool false) Try.underlying25 hi0 hz0 .i64 .i64 10 10 (by omega) (by omega) (by rw [hb0]; omega) (by omega)
  have kw := fun (W : World) => run_make (P := Try.prog) W 26 29 i1 (.int .u16 0) Try.underlying26 hi1 hz1 .i64 .i64 8 8 (by omega) (by omega) (by rw [hb1]; omega) (by omega)
  simp only [hs0, hs1, Nat.mul_one, show (10 : Int).toNat = 10 from rfl, show (8 : Int).toNat = 8 from rfl, show (Value.bool false).cells = #[.bool false] from rfl, show (Value.int .u16 0).cells = #[.int .u16 0] from rfl, made_one] at kb kw
  clear hi0 hz0 hs0 hb0 hi1 hz1 hs1 hb1
  go_upto_region 2 with fail
  obtain ⟨W1, hW1⟩ : ∃ W1, W1 = (((w.alloc (.cells #[.int .i64 0, .int .i64 10, .bool true, .bool false, .bool false] 49)).alloc (.cells #[.int .i64 0, .int .i64 4, .bool true, .bool false, .bool false, .int .i64 4, .int .i64 4, .bool false, .bool true, .bool true] 49)).alloc (.cells #[.slice (some ⟨w.heap.size, 0, none⟩) 1 1, .slice none 0 0, .slice (some ⟨w.heap.size + 1, 0, none⟩) 2 2, .slice none 0 0] 24)) := ⟨_, rfl⟩
  have rs := row_third w (.cells #[.int .i64 0, .int .i64 10, .bool true, .bool false, .bool false] 49) (.cells #[.int .i64 0, .int .i64 4, .bool true, .bool false, .bool false, .int .i64 4, .int .i64 4, .bool false, .bool true, .bool true] 49) (.cells #[.slice (some ⟨w.heap.size, 0, none⟩) 1 1, .slice none 0 0, .slice (some ⟨w.heap.size + 1, 0, none⟩) 2 2, .slice none 0 0] 24)
  have ra := row_alloc (row_alloc (heap_alloc_new w (.cells #[.int .i64 0, .int .i64 10, .bool true, .bool false, .bool false] 49)) (.cells #[.int .i64 0, .int .i64 4, .bool true, .bool false, .bool false, .int .i64 4, .int .i64 4, .bool false, .bool true, .bool true] 49)) (.cells #[.slice (some ⟨w.heap.size, 0, none⟩) 1 1, .slice none 0 0, .slice (some ⟨w.heap.size + 1, 0, none⟩) 2 2, .slice none 0 0] 24)
  have rb := row_alloc (heap_alloc2_new w (.cells #[.int .i64 0, .int .i64 10, .bool true, .bool false, .bool false] 49) (.cells #[.int .i64 0, .int .i64 4, .bool true, .bool false, .bool false, .int .i64 4, .int .i64 4, .bool false, .bool true, .bool true] 49)) (.cells #[.slice (some ⟨w.heap.size, 0, none⟩) 1 1, .slice none 0 0, .slice (some ⟨w.heap.size + 1, 0, none⟩) 2 2, .slice none 0 0] 24)
  have bw : Below w.heap.size w W1 := by rw [hW1]; exact (((Below.refl _ w).new _).new _).new _
  rw [← hW1] at rs ra rb ⊢
  clear hW1
  obtain ⟨gs, hgs⟩ : ∃ gs, gs = w.heap.size + 1 + 1 := ⟨_, rfl⟩
  rw [← hgs] at rs ⊢
  clear hgs
  go_cut [2] (fun p wx => ∃ g gb gw : Nat, p = .pointer (some ⟨g, 0, none⟩) ∧ Exm W1 wx g gb gw)
  case first =>
    go_region
    all_goals (
      go_wp2_with fail
      go_meet
      with_reducible first
        | exact ⟨(W1.heap.size + 1 + 1), W1.heap.size, (W1.heap.size + 1), rfl, ⟨row_third _ _ _ _, row_alloc (row_alloc (heap_alloc_new _ _) _) _, row_alloc (heap_alloc2_new _ _ _) _, ((((Below.refl _ _).new _).new _).new _).drew⟩⟩
        | exact ⟨(W1.heap.size + 1), W1.heap.size, (W1.heap.size + 1 + 1), rfl, ⟨row_alloc (heap_alloc2_new _ _ _) _, row_alloc (row_alloc (heap_alloc_new _ _) _) _, row_third _ _ _ _, ((((Below.refl _ _).new _).new _).new _).drew⟩⟩
        | exact ⟨(W1.heap.size + 1 + 1), (W1.heap.size + 1), W1.heap.size, rfl, ⟨row_third _ _ _ _, row_alloc (heap_alloc2_new _ _ _) _, row_alloc (row_alloc (heap_alloc_new _ _) _) _, ((((Below.refl _ _).new _).new _).new _).drew⟩⟩
        | exact ⟨W1.heap.size, (W1.heap.size + 1), (W1.heap.size + 1 + 1), rfl, ⟨row_alloc (row_alloc (heap_alloc_new _ _) _) _, row_alloc (heap_alloc2_new _ _ _) _, row_third _ _ _ _, ((((Below.refl _ _).new _).new _).new _).drew⟩⟩
        | exact ⟨(W1.heap.size + 1), (W1.heap.size + 1 + 1), W1.heap.size, rfl, ⟨row_alloc (heap_alloc2_new _ _ _) _, row_third _ _ _ _, row_alloc (row_alloc (heap_alloc_new _ _) _) _, ((((Below.refl _ _).new _).new _).new _).drew⟩⟩
        | exact ⟨W1.heap.size, (W1.heap.size + 1 + 1), (W1.heap.size + 1), rfl, ⟨row_alloc (row_alloc (heap_alloc_new _ _) _) _, row_third _ _ _ _, row_alloc (heap_alloc2_new _ _ _) _, ((((Below.refl _ _).new _).new _).new _).drew⟩⟩)
  case rest =>
    obtain ⟨g, gb, gw, rfl, E⟩ := hcut
    clear kb kw
    have bw := bw.call E.bel
    have HS := Lib.hid (show SpOk wc ⟨⟨some ⟨w.heap.size, 0, none⟩, 1, 1⟩, sv0, ⟨some ⟨w.heap.size + 1, 0, none⟩, 2, 2⟩, sv0⟩ exS from ⟨⟨Sl.of_block (E.bel.row (row_lt ra) ra) (row_lt (E.bel.row (row_lt ra) ra))⟩, Ar.nil _ _, ⟨Sl.of_block (E.bel.row (row_lt rb) rb) (row_lt (E.bel.row (row_lt rb) rb))⟩, Ar.nil _ _⟩)
    have HM := Lib.hid (show MmOk wc ⟨⟨some ⟨gb, 0, none⟩, 10, 10⟩, sv0, ⟨some ⟨gw, 0, none⟩, 8, 8⟩, sv0⟩ exM from ⟨Sl.of_block E.b (row_lt E.b), Sl.empty _ _ _, Sl.of_block E.w (row_lt E.w), Sl.empty _ _ _⟩)
    have Bs := Lib.hid (E.bel.row (row_lt rs) rs)
    have Bm := Lib.hid E.g
    clear E ra rb rs
    obtain ⟨Bs_0, Bs_1, Bs_2, Bs_3⟩ := row4 Bs.out
    obtain ⟨Bm_0, Bm_1, Bm_2, Bm_3⟩ := row4 Bm.out
    go_wp2_with fail
    have HS := Lib.hid (HS.out.to ((Below.refl wc.heap.size wc).new (.cells (ws [1, 2, 3, 4]).toArray 29)))
    have HM := Lib.hid (HM.out.to ((Below.refl wc.heap.size wc).new (.cells (ws [1, 2, 3, 4]).toArray 29)))
    have Bs := Lib.hid (((Below.refl wc.heap.size wc).new (.cells (ws [1, 2, 3, 4]).toArray 29)).row (row_lt Bs.out) Bs.out)
    have Bm := Lib.hid (((Below.refl wc.heap.size wc).new (.cells (ws [1, 2, 3, 4]).toArray 29)).row (row_lt Bm.out) Bm.out)
    have bw := bw.call ((Below.refl wc.heap.size wc).new (.cells (ws [1, 2, 3, 4]).toArray 29))
    refine (modDo_any ⟨⟨some ⟨w.heap.size, 0, none⟩, 1, 1⟩, sv0, ⟨some ⟨w.heap.size + 1, 0, none⟩, 2, 2⟩, sv0⟩ ⟨⟨some ⟨gb, 0, none⟩, 10, 10⟩, sv0, ⟨some ⟨gw, 0, none⟩, 8, 8⟩, sv0⟩ exS exM 16 4 4 0 (some ⟨wc.heap.size, 0, none⟩) 4 4 none 0 0 [1, 2, 3, 4] [] _ HS.out HM.out exS_ok ⟨Nat.le_of_ble_eq_true rfl, Nat.le_of_ble_eq_true rfl, Nat.le_of_ble_eq_true rfl, Nat.le_of_ble_eq_true rfl⟩ ⟨Nat.le_of_ble_eq_true rfl, Nat.le_of_ble_eq_true rfl, Nat.le_of_ble_eq_true rfl, Nat.le_of_ble_eq_true rfl⟩ (Sl.new wc (ws [1, 2, 3, 4]).toArray 29 _ (by simp)) (Sl.empty _ _ _) (exQ (by decide)) (by decide) (by decide)).mono ?_
    rw [exA]
    rintro e w1 ⟨ya, A6a, n6a, c6a, A7a, n7a, c7a, rfl, YMa, S6a, S7a, k6a, k7a, ba⟩
    clear Bs_0 Bs_1 Bs_2 Bs_3 Bm_0 Bm_1 Bm_2 Bm_3
    have HS := Lib.hid (HS.out.to ba)
    have HM := Lib.hid (HM.out.to ba)
    have Bs := Lib.hid (ba.row (row_lt Bs.out) Bs.out)
    have Bm := Lib.hid (ba.row (row_lt Bm.out) Bm.out)
    have bw := bw.call ba
    have HYa := Lib.hid YMa
    have HBa := Lib.hid S6a
    have HWa := Lib.hid S7a
    clear YMa S6a S7a
    clear ba
    go_wp2_with (first
      | (refine wpList_store_grown rfl 28 (.tmp 3) _ rfl w1.heap.size #[.slice ya.a.A ya.a.n ya.a.c, .slice ya.b.A ya.b.n ya.b.c, .slice ya.c.A ya.c.n ya.c.c, .slice ya.d.A ya.d.n ya.d.c] rfl rfl 28 _ (row_alloc (heap_alloc_new w1 _) _) (by kernel_rfl) rfl (by simp [Value.oneCell']) ?_; intro Waa haa gaa saa)
      | (refine wpList_store_grown rfl 36 (.tmp 4) _ rfl (w1.heap.size + 1) #[.int .u8 16, .int .u8 0, .slice A6a n6a c6a, .slice A7a n7a c7a, .int .u16 4, .int .u16 4] rfl rfl 36 _ (gaa.row (by omega) (heap_alloc2_new w1 _ _)) (by kernel_rfl) rfl (by simp [Value.oneCell']) ?_; intro Wa hab gab sab; have Bma := Lib.hid (gab.row (k := w1.heap.size) (by omega) haa); have Bra := Lib.hid hab; have Ca := below_two gaa gab saa; clear gaa gab saa sab haa hab; have HS := Lib.hid (HS.out.to Ca); have HM := Lib.hid (HM.out.to Ca); have HYa := Lib.hid (HYa.out.to Ca); have HBa := Lib.hid (HBa.out.to Ca); have HWa := Lib.hid (HWa.out.to Ca); have Bs := Lib.hid (Ca.row (row_lt Bs.out) Bs.out); have Bm := Lib.hid (Ca.row (row_lt Bm.out) Bm.out); have bw := bw.call Ca; clear Ca; obtain ⟨Bs_0, Bs_1, Bs_2, Bs_3⟩ := row4 Bs.out; obtain ⟨Bm_0, Bm_1, Bm_2, Bm_3⟩ := row4 Bm.out)
      | fail)
    have HS := Lib.hid (HS.out.to ((Below.refl Wa.heap.size Wa).new (.cells (ws [1, 2]).toArray 29)))
    have HM := Lib.hid (HM.out.to ((Below.refl Wa.heap.size Wa).new (.cells (ws [1, 2]).toArray 29)))
    have HYa := Lib.hid (HYa.out.to ((Below.refl Wa.heap.size Wa).new (.cells (ws [1, 2]).toArray 29)))
    have HBa := Lib.hid (HBa.out.to ((Below.refl Wa.heap.size Wa).new (.cells (ws [1, 2]).toArray 29)))
    have HWa := Lib.hid (HWa.out.to ((Below.refl Wa.heap.size Wa).new (.cells (ws [1, 2]).toArray 29)))
    have Bs := Lib.hid (((Below.refl Wa.heap.size Wa).new (.cells (ws [1, 2]).toArray 29)).row (row_lt Bs.out) Bs.out)
    have Bm := Lib.hid (((Below.refl Wa.heap.size Wa).new (.cells (ws [1, 2]).toArray 29)).row (row_lt Bm.out) Bm.out)
    have Bma := Lib.hid (((Below.refl Wa.heap.size Wa).new (.cells (ws [1, 2]).toArray 29)).row (row_lt Bma.out) Bma.out)
    have Bra := Lib.hid (((Below.refl Wa.heap.size Wa).new (.cells (ws [1, 2]).toArray 29)).row (row_lt Bra.out) Bra.out)
    have bw := bw.call ((Below.refl Wa.heap.size Wa).new (.cells (ws [1, 2]).toArray 29))
    refine (modDo_any ⟨⟨some ⟨w.heap.size, 0, none⟩, 1, 1⟩, sv0, ⟨some ⟨w.heap.size + 1, 0, none⟩, 2, 2⟩, sv0⟩ ⟨⟨some ⟨gb, 0, none⟩, 10, 10⟩, sv0, ⟨some ⟨gw, 0, none⟩, 8, 8⟩, sv0⟩ exS exM 16 4 2 0 (some ⟨Wa.heap.size, 0, none⟩) 2 2 none 0 0 [1, 2] [] _ HS.out HM.out exS_ok ⟨Nat.le_of_ble_eq_true rfl, Nat.le_of_ble_eq_true rfl, Nat.le_of_ble_eq_true rfl, Nat.le_of_ble_eq_true rfl⟩ ⟨Nat.le_of_ble_eq_true rfl, Nat.le_of_ble_eq_true rfl, Nat.le_of_ble_eq_true rfl, Nat.le_of_ble_eq_true rfl⟩ (Sl.new Wa (ws [1, 2]).toArray 29 _ (by simp)) (Sl.empty _ _ _) (exQ (by decide)) (by decide) (by decide)).mono ?_
    rw [exB]
    rintro e w2 ⟨yb, A6b, n6b, c6b, A7b, n7b, c7b, rfl, YMb, S6b, S7b, k6b, k7b, bb⟩
    clear Bs_0 Bs_1 Bs_2 Bs_3 Bm_0 Bm_1 Bm_2 Bm_3
    have HS := Lib.hid (HS.out.to bb)
    have HM := Lib.hid (HM.out.to bb)
    have HYa := Lib.hid (HYa.out.to bb)
    have HBa := Lib.hid (HBa.out.to bb)
    have HWa := Lib.hid (HWa.out.to bb)
    have Bs := Lib.hid (bb.row (row_lt Bs.out) Bs.out)
    have Bm := Lib.hid (bb.row (row_lt Bm.out) Bm.out)
    have Bma := Lib.hid (bb.row (row_lt Bma.out) Bma.out)
    have Bra := Lib.hid (bb.row (row_lt Bra.out) Bra.out)
    have bw := bw.call bb
    have HYb := Lib.hid YMb
    have HBb := Lib.hid S6b
    have HWb := Lib.hid S7b
    clear YMb S6b S7b
    clear bb
    go_wp2_with (first
      | (refine wpList_store_grown rfl 28 (.tmp 5) _ rfl w2.heap.size #[.slice yb.a.A yb.a.n yb.a.c, .slice yb.b.A yb.b.n yb.b.c, .slice yb.c.A yb.c.n yb.c.c, .slice yb.d.A yb.d.n yb.d.c] rfl rfl 28 _ (row_alloc (heap_alloc_new w2 _) _) (by kernel_rfl) rfl (by simp [Value.oneCell']) ?_; intro Wba hba gba sba)
      | (refine wpList_store_grown rfl 36 (.tmp 6) _ rfl (w2.heap.size + 1) #[.int .u8 16, .int .u8 2, .slice A6b n6b c6b, .slice A7b n7b c7b, .int .u16 0, .int .u16 0] rfl rfl 36 _ (gba.row (by omega) (heap_alloc2_new w2 _ _)) (by kernel_rfl) rfl (by simp [Value.oneCell']) ?_; intro Wb hbb gbb sbb; have Bmb := Lib.hid (gbb.row (k := w2.heap.size) (by omega) hba); have Brb := Lib.hid hbb; have Cb := below_two gba gbb sba; clear gba gbb sba sbb hba hbb; have HS := Lib.hid (HS.out.to Cb); have HM := Lib.hid (HM.out.to Cb); have HYa := Lib.hid (HYa.out.to Cb); have HBa := Lib.hid (HBa.out.to Cb); have HWa := Lib.hid (HWa.out.to Cb); have HYb := Lib.hid (HYb.out.to Cb); have HBb := Lib.hid (HBb.out.to Cb); have HWb := Lib.hid (HWb.out.to Cb); have Bs := Lib.hid (Cb.row (row_lt Bs.out) Bs.out); have Bm := Lib.hid (Cb.row (row_lt Bm.out) Bm.out); have Bma := Lib.hid (Cb.row (row_lt Bma.out) Bma.out); have Bra := Lib.hid (Cb.row (row_lt Bra.out) Bra.out); have bw := bw.call Cb; clear Cb; obtain ⟨Bs_0, Bs_1, Bs_2, Bs_3⟩ := row4 Bs.out; obtain ⟨Bm_0, Bm_1, Bm_2, Bm_3⟩ := row4 Bm.out)
      | fail)
    refine (modDo_any ⟨⟨some ⟨w.heap.size, 0, none⟩, 1, 1⟩, sv0, ⟨some ⟨w.heap.size + 1, 0, none⟩, 2, 2⟩, sv0⟩ ⟨⟨some ⟨gb, 0, none⟩, 10, 10⟩, sv0, ⟨some ⟨gw, 0, none⟩, 8, 8⟩, sv0⟩ exS exM 3 2 4 0 none 0 0 none 0 0 [] [] _ HS.out HM.out exS_ok ⟨Nat.le_of_ble_eq_true rfl, Nat.le_of_ble_eq_true rfl, Nat.le_of_ble_eq_true rfl, Nat.le_of_ble_eq_true rfl⟩ ⟨Nat.le_of_ble_eq_true rfl, Nat.le_of_ble_eq_true rfl, Nat.le_of_ble_eq_true rfl, Nat.le_of_ble_eq_true rfl⟩ (Sl.empty _ _ _) (Sl.empty _ _ _) (exQ (by decide)) (by decide) (by decide)).mono ?_
    rw [exC]
    rintro e w3 ⟨yc, A6c, n6c, c6c, A7c, n7c, c7c, rfl, YMc, S6c, S7c, k6c, k7c, bc⟩
    clear Bs_0 Bs_1 Bs_2 Bs_3 Bm_0 Bm_1 Bm_2 Bm_3
    have HS := Lib.hid (HS.out.to bc)
    have HM := Lib.hid (HM.out.to bc)
    have HYa := Lib.hid (HYa.out.to bc)
    have HBa := Lib.hid (HBa.out.to bc)
    have HWa := Lib.hid (HWa.out.to bc)
    have HYb := Lib.hid (HYb.out.to bc)
    have HBb := Lib.hid (HBb.out.to bc)
    have HWb := Lib.hid (HWb.out.to bc)
    have Bs := Lib.hid (bc.row (row_lt Bs.out) Bs.out)
    have Bm := Lib.hid (bc.row (row_lt Bm.out) Bm.out)
    have Bma := Lib.hid (bc.row (row_lt Bma.out) Bma.out)
    have Bra := Lib.hid (bc.row (row_lt Bra.out) Bra.out)
    have Bmb := Lib.hid (bc.row (row_lt Bmb.out) Bmb.out)
    have Brb := Lib.hid (bc.row (row_lt Brb.out) Brb.out)
    have bw := bw.call bc
    have HYc := Lib.hid YMc
    have HBc := Lib.hid S6c
    have HWc := Lib.hid S7c
    clear YMc S6c S7c
    clear bc
    go_wp2_with (first
      | (refine wpList_store_grown rfl 28 (.tmp 7) _ rfl w3.heap.size #[.slice yc.a.A yc.a.n yc.a.c, .slice yc.b.A yc.b.n yc.b.c, .slice yc.c.A yc.c.n yc.c.c, .slice yc.d.A yc.d.n yc.d.c] rfl rfl 28 _ (row_alloc (heap_alloc_new w3 _) _) (by kernel_rfl) rfl (by simp [Value.oneCell']) ?_; intro Wca hca gca sca)
      | (refine wpList_store_grown rfl 36 (.tmp 8) _ rfl (w3.heap.size + 1) #[.int .u8 3, .int .u8 2, .slice A6c n6c c6c, .slice A7c n7c c7c, .int .u16 0, .int .u16 0] rfl rfl 36 _ (gca.row (by omega) (heap_alloc2_new w3 _ _)) (by kernel_rfl) rfl (by simp [Value.oneCell']) ?_; intro Wc hcb gcb scb; have Bmc := Lib.hid (gcb.row (k := w3.heap.size) (by omega) hca); have Brc := Lib.hid hcb; have Cc := below_two gca gcb sca; clear gca gcb sca scb hca hcb; have HS := Lib.hid (HS.out.to Cc); have HM := Lib.hid (HM.out.to Cc); have HYa := Lib.hid (HYa.out.to Cc); have HBa := Lib.hid (HBa.out.to Cc); have HWa := Lib.hid (HWa.out.to Cc); have HYb := Lib.hid (HYb.out.to Cc); have HBb := Lib.hid (HBb.out.to Cc); have HWb := Lib.hid (HWb.out.to Cc); have HYc := Lib.hid (HYc.out.to Cc); have HBc := Lib.hid (HBc.out.to Cc); have HWc := Lib.hid (HWc.out.to Cc); have Bs := Lib.hid (Cc.row (row_lt Bs.out) Bs.out); have Bm := Lib.hid (Cc.row (row_lt Bm.out) Bm.out); have Bma := Lib.hid (Cc.row (row_lt Bma.out) Bma.out); have Bra := Lib.hid (Cc.row (row_lt Bra.out) Bra.out); have Bmb := Lib.hid (Cc.row (row_lt Bmb.out) Bmb.out); have Brb := Lib.hid (Cc.row (row_lt Brb.out) Brb.out); have bw := bw.call Cc; clear Cc; obtain ⟨Bs_0, Bs_1, Bs_2, Bs_3⟩ := row4 Bs.out; obtain ⟨Bm_0, Bm_1, Bm_2, Bm_3⟩ := row4 Bm.out)
      | fail)
    refine (modDo_any ⟨⟨some ⟨w.heap.size, 0, none⟩, 1, 1⟩, sv0, ⟨some ⟨w.heap.size + 1, 0, none⟩, 2, 2⟩, sv0⟩ ⟨⟨some ⟨gb, 0, none⟩, 10, 10⟩, sv0, ⟨some ⟨gw, 0, none⟩, 8, 8⟩, sv0⟩ exS exM 1 0 10 0 none 0 0 none 0 0 [] [] _ HS.out HM.out exS_ok ⟨Nat.le_of_ble_eq_true rfl, Nat.le_of_ble_eq_true rfl, Nat.le_of_ble_eq_true rfl, Nat.le_of_ble_eq_true rfl⟩ ⟨Nat.le_of_ble_eq_true rfl, Nat.le_of_ble_eq_true rfl, Nat.le_of_ble_eq_true rfl, Nat.le_of_ble_eq_true rfl⟩ (Sl.empty _ _ _) (Sl.empty _ _ _) (exQ (by decide)) (by decide) (by decide)).mono ?_
    rw [exD]
    rintro e w4 ⟨yd, A6d, n6d, c6d, A7d, n7d, c7d, rfl, YMd, S6d, S7d, k6d, k7d, bd⟩
    clear Bs_0 Bs_1 Bs_2 Bs_3 Bm_0 Bm_1 Bm_2 Bm_3
    have HS := Lib.hid (HS.out.to bd)
    have HM := Lib.hid (HM.out.to bd)
    have HYa := Lib.hid (HYa.out.to bd)
    have HBa := Lib.hid (HBa.out.to bd)
    have HWa := Lib.hid (HWa.out.to bd)
    have HYb := Lib.hid (HYb.out.to bd)
    have HBb := Lib.hid (HBb.out.to bd)
    have HWb := Lib.hid (HWb.out.to bd)
    have HYc := Lib.hid (HYc.out.to bd)
    have HBc := Lib.hid (HBc.out.to bd)
    have HWc := Lib.hid (HWc.out.to bd)
    have Bs := Lib.hid (bd.row (row_lt Bs.out) Bs.out)
    have Bm := Lib.hid (bd.row (row_lt Bm.out) Bm.out)
    have Bma := Lib.hid (bd.row (row_lt Bma.out) Bma.out)
    have Bra := Lib.hid (bd.row (row_lt Bra.out) Bra.out)
    have Bmb := Lib.hid (bd.row (row_lt Bmb.out) Bmb.out)
    have Brb := Lib.hid (bd.row (row_lt Brb.out) Brb.out)
    have Bmc := Lib.hid (bd.row (row_lt Bmc.out) Bmc.out)
    have Brc := Lib.hid (bd.row (row_lt Brc.out) Brc.out)
    have bw := bw.call bd
    have HYd := Lib.hid YMd
    have HBd := Lib.hid S6d
    have HWd := Lib.hid S7d
    clear YMd S6d S7d
    clear bd
    go_wp2_with (first
      | (refine wpList_store_grown rfl 28 (.tmp 9) _ rfl w4.heap.size #[.slice yd.a.A yd.a.n yd.a.c, .slice yd.b.A yd.b.n yd.b.c, .slice yd.c.A yd.c.n yd.c.c, .slice yd.d.A yd.d.n yd.d.c] rfl rfl 28 _ (row_alloc (heap_alloc_new w4 _) _) (by kernel_rfl) rfl (by simp [Value.oneCell']) ?_; intro Wda hda gda sda)
      | (refine wpList_store_grown rfl 36 (.tmp 10) _ rfl (w4.heap.size + 1) #[.int .u8 1, .int .u8 0, .slice A6d n6d c6d, .slice A7d n7d c7d, .int .u16 0, .int .u16 0] rfl rfl 36 _ (gda.row (by omega) (heap_alloc2_new w4 _ _)) (by kernel_rfl) rfl (by simp [Value.oneCell']) ?_; intro Wd hdb gdb sdb; have Bmd := Lib.hid (gdb.row (k := w4.heap.size) (by omega) hda); have Brd := Lib.hid hdb; have Cd := below_two gda gdb sda; clear gda gdb sda sdb hda hdb; have HS := Lib.hid (HS.out.to Cd); have HM := Lib.hid (HM.out.to Cd); have HYa := Lib.hid (HYa.out.to Cd); have HBa := Lib.hid (HBa.out.to Cd); have HWa := Lib.hid (HWa.out.to Cd); have HYb := Lib.hid (HYb.out.to Cd); have HBb := Lib.hid (HBb.out.to Cd); have HWb := Lib.hid (HWb.out.to Cd); have HYc := Lib.hid (HYc.out.to Cd); have HBc := Lib.hid (HBc.out.to Cd); have HWc := Lib.hid (HWc.out.to Cd); have HYd := Lib.hid (HYd.out.to Cd); have HBd := Lib.hid (HBd.out.to Cd); have HWd := Lib.hid (HWd.out.to Cd); have Bs := Lib.hid (Cd.row (row_lt Bs.out) Bs.out); have Bm := Lib.hid (Cd.row (row_lt Bm.out) Bm.out); have Bma := Lib.hid (Cd.row (row_lt Bma.out) Bma.out); have Bra := Lib.hid (Cd.row (row_lt Bra.out) Bra.out); have Bmb := Lib.hid (Cd.row (row_lt Bmb.out) Bmb.out); have Brb := Lib.hid (Cd.row (row_lt Brb.out) Brb.out); have Bmc := Lib.hid (Cd.row (row_lt Bmc.out) Bmc.out); have Brc := Lib.hid (Cd.row (row_lt Brc.out) Brc.out); have bw := bw.call Cd; clear Cd; obtain ⟨Bs_0, Bs_1, Bs_2, Bs_3⟩ := row4 Bs.out; obtain ⟨Bm_0, Bm_1, Bm_2, Bm_3⟩ := row4 Bm.out)
      | fail)
    refine (modRight_any ⟨⟨some ⟨w.heap.size, 0, none⟩, 1, 1⟩, sv0, ⟨some ⟨w.heap.size + 1, 0, none⟩, 2, 2⟩, sv0⟩ ⟨⟨some ⟨gb, 0, none⟩, 10, 10⟩, sv0, ⟨some ⟨gw, 0, none⟩, 8, 8⟩, sv0⟩ exS exM _ HS.out HM.out exS_ok ⟨Nat.le_of_ble_eq_true rfl, Nat.le_of_ble_eq_true rfl, Nat.le_of_ble_eq_true rfl, Nat.le_of_ble_eq_true rfl⟩ ⟨Nat.le_of_ble_eq_true rfl, Nat.le_of_ble_eq_true rfl, Nat.le_of_ble_eq_true rfl, Nat.le_of_ble_eq_true rfl⟩).mono ?_
    rw [exR]
    rintro e w5 ⟨rfl, b5⟩
    clear Bs_0 Bs_1 Bs_2 Bs_3 Bm_0 Bm_1 Bm_2 Bm_3
    have HS := Lib.hid (HS.out.to b5)
    have HM := Lib.hid (HM.out.to b5)
    have HYa := Lib.hid (HYa.out.to b5)
    have HBa := Lib.hid (HBa.out.to b5)
    have HWa := Lib.hid (HWa.out.to b5)
    have HYb := Lib.hid (HYb.out.to b5)
    have HBb := Lib.hid (HBb.out.to b5)
    have HWb := Lib.hid (HWb.out.to b5)
    have HYc := Lib.hid (HYc.out.to b5)
    have HBc := Lib.hid (HBc.out.to b5)
    have HWc := Lib.hid (HWc.out.to b5)
    have HYd := Lib.hid (HYd.out.to b5)
    have HBd := Lib.hid (HBd.out.to b5)
    have HWd := Lib.hid (HWd.out.to b5)
    have Bs := Lib.hid (b5.row (row_lt Bs.out) Bs.out)
    have Bm := Lib.hid (b5.row (row_lt Bm.out) Bm.out)
    have Bma := Lib.hid (b5.row (row_lt Bma.out) Bma.out)
    have Bra := Lib.hid (b5.row (row_lt Bra.out) Bra.out)
    have Bmb := Lib.hid (b5.row (row_lt Bmb.out) Bmb.out)
    have Brb := Lib.hid (b5.row (row_lt Brb.out) Brb.out)
    have Bmc := Lib.hid (b5.row (row_lt Bmc.out) Bmc.out)
    have Brc := Lib.hid (b5.row (row_lt Brc.out) Brc.out)
    have Bmd := Lib.hid (b5.row (row_lt Bmd.out) Bmd.out)
    have Brd := Lib.hid (b5.row (row_lt Brd.out) Brd.out)
    have bw := bw.call b5
    clear b5
    have hya := HYa.out.lens
    have hn8 : ya.c.n = 8 := hya.2.2.1.symm
    obtain ⟨b, o, hA, hbl, hd⟩ := HYa.out.holding.2 (by omega)
    have g7 : w5.cell? ⟨b, o + 7, none⟩ = some (.int .u16 4) := hd 7 (by omega)
    clear hd
    obtain ⟨Bma_0, Bma_1, Bma_2, Bma_3⟩ := row4 Bma.out
    obtain ⟨Bra_0, Bra_1, Bra_2, Bra_3, Bra_4, Bra_5⟩ := row6 Bra.out
    obtain ⟨Brb_0, Brb_1, Brb_2, Brb_3, Brb_4, Brb_5⟩ := row6 Brb.out
    obtain ⟨Brc_0, Brc_1, Brc_2, Brc_3, Brc_4, Brc_5⟩ := row6 Brc.out
    obtain ⟨Brd_0, Brd_1, Brd_2, Brd_3, Brd_4, Brd_5⟩ := row6 Brd.out
    rw [hA, hn8] at Bma_2
    have hz16 : n6d = 16 := by have h := HBd.out.len; rw [bl_length] at h; exact h.symm
    rw [hz16] at Brd_2
    have HZ := Lib.hid hz16
    clear hz16 hya hn8
    go_wp2_with fail
    have e1 : n7a ≤ 1000000 := by have h := HWa.out.len; rw [ws_length] at h; rw [← h]; exact Nat.zero_le _
    have e2 : n6a ≤ 1000000 := by have h := HBa.out.len; rw [bl_length] at h; rw [← h]; exact Nat.zero_le _
    refine (repSame_any 16 0 A6a n6a c6a A7a n7a c7a 4 4 16 0 none 0 0 none 0 0 4 4 [] [] [] [] _ HWa.out HBa.out (Sl.empty _ _ _) (Sl.empty _ _ _) e1 e2 (Nat.zero_le _) (Nat.zero_le _)).mono ?_
    rw [show ((16 == 16) && ((0 : Nat) == 0) && ((4 : Nat) == 4) && ((4 : Nat) == 4) && (([] : List Bool) == []) && (([] : List Nat) == [])) = true from by decide]
    rintro e w6 ⟨rfl, b6⟩
    clear Bma_0 Bma_1 Bma_2 Bma_3 Bra_0 Bra_1 Bra_2 Bra_3 Bra_4 Bra_5 Brb_0 Brb_1 Brb_2 Brb_3 Brb_4 Brb_5 Brc_0 Brc_1 Brc_2 Brc_3 Brc_4 Brc_5 Brd_0 Brd_1 Brd_2 Brd_3 Brd_4 Brd_5
    have HS := Lib.hid (HS.out.to b6)
    have HM := Lib.hid (HM.out.to b6)
    have HYa := Lib.hid (HYa.out.to b6)
    have HBa := Lib.hid (HBa.out.to b6)
    have HWa := Lib.hid (HWa.out.to b6)
    have HYb := Lib.hid (HYb.out.to b6)
    have HBb := Lib.hid (HBb.out.to b6)
    have HWb := Lib.hid (HWb.out.to b6)
    have HYc := Lib.hid (HYc.out.to b6)
    have HBc := Lib.hid (HBc.out.to b6)
    have HWc := Lib.hid (HWc.out.to b6)
    have HYd := Lib.hid (HYd.out.to b6)
    have HBd := Lib.hid (HBd.out.to b6)
    have HWd := Lib.hid (HWd.out.to b6)
    have Bs := Lib.hid (b6.row (row_lt Bs.out) Bs.out)
    have Bm := Lib.hid (b6.row (row_lt Bm.out) Bm.out)
    have Bma := Lib.hid (b6.row (row_lt Bma.out) Bma.out)
    have Bra := Lib.hid (b6.row (row_lt Bra.out) Bra.out)
    have Bmb := Lib.hid (b6.row (row_lt Bmb.out) Bmb.out)
    have Brb := Lib.hid (b6.row (row_lt Brb.out) Brb.out)
    have Bmc := Lib.hid (b6.row (row_lt Bmc.out) Bmc.out)
    have Brc := Lib.hid (b6.row (row_lt Brc.out) Brc.out)
    have Bmd := Lib.hid (b6.row (row_lt Bmd.out) Bmd.out)
    have Brd := Lib.hid (b6.row (row_lt Brd.out) Brd.out)
    have bw := bw.call b6
    clear b6
    obtain ⟨Brb_0, Brb_1, Brb_2, Brb_3, Brb_4, Brb_5⟩ := row6 Brb.out
    obtain ⟨Brc_0, Brc_1, Brc_2, Brc_3, Brc_4, Brc_5⟩ := row6 Brc.out
    obtain ⟨Brd_0, Brd_1, Brd_2, Brd_3, Brd_4, Brd_5⟩ := row6 Brd.out
    rw [HZ.out] at Brd_2
    clear hbl hA g7
    go_wp2_with fail
    go_ret
    exact ⟨rfl, bw⟩
end Go.Proofs.Ytiibopdnlmnkmaa.MoW
