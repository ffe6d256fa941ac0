/- Merged: MoWA MoWB. -/
import Derived.Test.YtiibopdnlmnkmaaMG1
/- The walks of model's tables: area, readable, writable, right, fixed. Written by gen_mowa.py. -/
set_option linter.unusedVariables false
set_option linter.unusedSimpArgs false
namespace Go.Proofs.Ytiibopdnlmnkmaa.MoW
open Go.RowKit Go.Proofs.Ytiibopdnlmnkmaa Go.Proofs.Ytiibopdnlmnkmaa.Mo
def area0 : Area := ⟨0, 0, false, false, false⟩
def areaAt (L : List Area) (x : Nat) : Area := (findA L x).getD area0
def acell (a : Area) : Value := .agg #[.int .i64 a.at', .int .i64 a.many, .bool a.rd, .bool a.wr, .bool a.whole]
theorem areaAt_some {L : List Area} {x : Nat} {a : Area} (h : findA L x = some a) : areaAt L x = a := by unfold areaAt; rw [h]; rfl
theorem areaAt_none {L : List Area} {x : Nat} (h : findA L x = none) : areaAt L x = area0 := by unfold areaAt; rw [h]; rfl
theorem areaAt_read (L : List Area) (x : Nat) : readAt L x = (areaAt L x).rd := by
  unfold readAt areaAt
  cases findA L x <;> rfl
theorem areaAt_write (L : List Area) (at' many x : Nat) : writeAt L at' many x = ((areaAt L x).wr && !((areaAt L x).whole && ((areaAt L x).at' != (at' : Int) || (areaAt L x).many != (many : Int)))) := by
  unfold writeAt areaAt
  cases findA L x <;> rfl
set_option maxHeartbeats 4000000 in
theorem areaB_any (g o : Nat) (A : Option Addr) (n c : Nat) (L : List Area) (x : Nat) (w : World) (hp : w.cell? ⟨g, o, none⟩ = some (.slice A n c)) (hg : g < w.heap.size) (h : Ar w A n L) (hok : AOk L) (hn : n ≤ 1000000) (hx : x ≤ 1000000) :
    Calls Try.prog 69 #[.pointer (some ⟨g, o, none⟩), .int .i64 (x : Nat)] w fun e w' => e = .returned (acell (areaAt L x)) ∧ Below w.heap.size w w' := by
  have hlen := h.len
  obtain ⟨F, hF⟩ : ∃ F, F = findA L x := ⟨_, rfl⟩
  have HF := Lib.hid hF
  have HR0 := Lib.hid (show F = findA (L.drop 0) x from by rw [hF]; rfl)
  have HL := Lib.hid hlen
  have HO := Lib.hid hok
  have HH := Lib.hid h
  have hp0 : (w.alloc (.cells #[.int .i64 0, .int .i64 0, .bool false, .bool false, .bool false] 49)).cell? ⟨g, o, none⟩ = some (.slice A n c) := by
    rw [((Below.refl _ w).new (.cells #[.int .i64 0, .int .i64 0, .bool false, .bool false, .bool false] 49)).cell (p := ⟨g, o, none⟩) hg]; exact hp
  have wx : IntKind.u64.wrap (x : Int) = (x : Int) := by rw [IntKind.wrap_u64]; omega
  clear hF hlen hok h hp
  go_enter Try.func69, Try.ntmps69
  go_wp2_with fail
  go_loopw [12] (fun iv wr => ∃ (i : Nat), i ≤ n ∧ iv = .int .i64 i ∧ F = findA (L.drop i) x ∧ Below w.heap.size w wr ∧ w.heap.size < wr.heap.size ∧ wr.heap[w.heap.size]? = some (.cells #[.int .i64 0, .int .i64 0, .bool false, .bool false, .bool false] 49 (0, 0))) (fun iv _ => n - (intOf iv).toNat)
  case atStart => exact ⟨0, by omega, rfl, HR0.out, (Below.refl _ _).new _, by simp, heap_alloc_new w _⟩
  case round =>
    obtain ⟨i, hi, rfl, hR, hb, hsz, hrow⟩ := hrel
    by_cases hlt : (i : Int) < (n : Int)
    · obtain ⟨b, o', a, eA, hbl, ha, g0, g1, g2, g3, g4⟩ := (HH.out.to hb).at (i := i) (by omega)
      subst eA
      have HS := Lib.hid (hR.trans (find_step ha))
      have hao := HO.out a (List.mem_of_getElem? ha)
      have HA := Lib.hid ha
      have hy0 := hao.at0
      have hy1 := hao.at1
      have hm0 := hao.many0
      have hm1 := hao.many1
      have HHas := Lib.hid (show a.has x = (decide (a.at' ≤ (x : Int)) && (decide (0 < a.many) && decide ((x : Int) - a.at' < a.many))) from rfl)
      have HC := Lib.hid (show acell a = .agg #[.int .i64 a.at', .int .i64 a.many, .bool a.rd, .bool a.wr, .bool a.whole] from rfl)
      obtain ⟨y, ey⟩ : ∃ y, y = a.at' := ⟨_, rfl⟩
      obtain ⟨m, em⟩ : ∃ m, m = a.many := ⟨_, rfl⟩
      obtain ⟨p, ep⟩ : ∃ p, p = a.rd := ⟨_, rfl⟩
      obtain ⟨q, eq⟩ : ∃ q, q = a.wr := ⟨_, rfl⟩
      obtain ⟨r, er⟩ : ∃ r, r = a.whole := ⟨_, rfl⟩
      rw [← ey] at g0 hy0 hy1 HHas HC
      rw [← em] at g1 hm0 hm1 HHas HC
      rw [← ep] at g2 HC
      rw [← eq] at g3 HC
      rw [← er] at g4 HC
      have z0 : (0 : Int) ≤ (i : Int) := by omega
      clear hR ha ey em ep eq er
      by_cases p2 : 0 < m
      · by_cases p1 : y ≤ (x : Int)
        · have w1 : IntKind.u64.wrap ((x : Int) - IntKind.u64.wrap y) = (x : Int) - y := by rw [IntKind.wrap_u64, IntKind.wrap_u64]; omega
          have w2 : IntKind.u64.wrap m = m := by rw [IntKind.wrap_u64]; omega
          by_cases p3 : (x : Int) - y < m
          · have hh : a.has x = true := by rw [HHas.out]; simp [p1, p2, p3]
            go_wp2_with (first
              | (refine wpList_store_row rfl 49 (.tmp 4) _ rfl w.heap.size #[.int .i64 y, .int .i64 m, .bool p, .bool q, .bool r] rfl rfl 49 _ (row_alloc hrow _) (by kernel_rfl) rfl (by simp [Value.oneCell']) ?_)
              | fail)
            refine bodyPost_row rfl w.heap.size 49 #[.int .i64 y, .int .i64 m, .bool p, .bool q, .bool r] (0, 0) _ rfl (setRow_heap _ _ _ _ _ _ (row_alloc hrow _)) Try.underlying49 rfl (by kernel_rfl) rfl ?_
            refine ⟨?_, below_setRow (hb.new _) (Nat.le_refl _) _⟩
            rw [areaAt_some (a := a) (by rw [← HF.out, HS.out, if_pos hh]), HC.out]
          · have hh : a.has x = false := by rw [HHas.out]; simp [p1, p2, p3]
            have d3 : decide ((x : Int) - y < m) = false := decide_eq_false p3
            go_wp2_with fail
            go_roundw
            case rel => exact ⟨i + 1, by omega, by go_num, by rw [HS.out, if_neg (by rw [hh]; decide)], hb.new _, by simp; omega, row_alloc hrow _⟩
            case measure => simp [intOf]; omega
        · have hh : a.has x = false := by rw [HHas.out]; simp [p1]
          have d1 : decide (y ≤ (x : Int)) = false := decide_eq_false p1
          go_wp2_with fail
          go_roundw
          case rel => exact ⟨i + 1, by omega, by go_num, by rw [HS.out, if_neg (by rw [hh]; decide)], hb.new _, by simp; omega, row_alloc hrow _⟩
          case measure => simp [intOf]; omega
      · have hh : a.has x = false := by rw [HHas.out]; simp [p2]
        have d2 : decide (0 < m) = false := decide_eq_false p2
        go_wp2_with fail
        go_roundw
        case rel => exact ⟨i + 1, by omega, by go_num, by rw [HS.out, if_neg (by rw [hh]; decide)], hb.new _, by simp; omega, row_alloc hrow _⟩
        case measure => simp [intOf]; omega
    · have HE := Lib.hid (hR.trans (find_end (by rw [HL.out]; omega)))
      clear hR
      go_wp2_with (first
        | (refine wpList_store_row rfl 49 (.tmp 4) _ rfl w.heap.size #[.int .i64 0, .int .i64 0, .bool false, .bool false, .bool false] rfl rfl 49 _ hrow (by kernel_rfl) rfl (by simp [Value.oneCell']) ?_)
        | fail)
      refine bodyPost_row rfl w.heap.size 49 #[.int .i64 0, .int .i64 0, .bool false, .bool false, .bool false] (0, 0) _ rfl (setRow_heap _ _ _ _ _ _ hrow) Try.underlying49 rfl (by kernel_rfl) rfl ?_
      refine ⟨?_, below_setRow hb (Nat.le_refl _) _⟩
      rw [areaAt_none (by rw [← HF.out, HE.out])]; rfl
set_option maxHeartbeats 4000000 in
theorem readableB_nil (x many : Nat) (w : World) :
    Calls Try.prog 53 #[.pointer none, .int .i64 (x : Nat), .int .i64 (many : Nat)] w fun e w' => e = .returned (.bool true) ∧ Below w.heap.size w w' := by
  go_enter Try.func53, Try.ntmps53
  go_wp2_with fail
  go_ret
  exact ⟨rfl, Below.refl _ _⟩
set_option maxHeartbeats 4000000 in
theorem readableB_any (g o : Nat) (A : Option Addr) (n c : Nat) (L : List Area) (x many : Nat) (w : World) (hp : w.cell? ⟨g, o, none⟩ = some (.slice A n c)) (hg : g < w.heap.size) (h : Ar w A n L) (hok : AOk L) (hn : n ≤ 1000000) (hx : x ≤ 200000) (hmany : many ≤ 200000) :
    Calls Try.prog 53 #[.pointer (some ⟨g, o, none⟩), .int .i64 (x : Nat), .int .i64 (many : Nat)] w fun e w' => e = .returned (.bool (readsOk L x many)) ∧ Below w.heap.size w w' := by
  obtain ⟨R, hR⟩ : ∃ R, R = readsOk L x many := ⟨_, rfl⟩
  rw [← hR]
  have HR := Lib.hid hR
  have KI := Lib.hid (fun w1 (b : Below w.heap.size w w1) (j : Nat) (hj : j ≤ 1000000) => areaB_any g o A n c L j w1 ((b.cell (p := ⟨g, o, none⟩) hg).trans hp) (Nat.lt_of_lt_of_le hg b.size) (h.to b) hok hn hj)
  clear hR hok h hp
  go_enter Try.func53, Try.ntmps53
  go_wp2_with fail
  go_loopw [11] (fun iv wr => ∃ (j : Nat), j ≤ many ∧ iv = .int .i64 j ∧ (∀ k, k < j → readAt L ((x + k : Nat) : Int) = true) ∧ Below w.heap.size w wr) (fun iv _ => many - (intOf iv).toNat)
  case atStart => exact ⟨0, by omega, rfl, fun k hk => by omega, Below.refl _ _⟩
  case round =>
    obtain ⟨j, hj, rfl, hall, hb⟩ := hrel
    have HALL := Lib.hid hall
    have wj : IntKind.i64.wrap ((x : Int) + (j : Int)) = ((x + j : Nat) : Int) := by rw [IntKind.wrap_i64]; omega
    clear hall
    by_cases hlt : (j : Int) < (many : Int)
    · go_wp2_with fail
      refine (KI.out wr hb (x + j) (by omega)).mono ?_
      rintro e w1 ⟨rfl, b1⟩
      have hb := hb.call b1
      have HAT := Lib.hid (areaAt_read L (x + j))
      unfold acell
      obtain ⟨y, ey⟩ : ∃ y, y = (areaAt L (x + j)).at' := ⟨_, rfl⟩
      obtain ⟨m, em⟩ : ∃ m, m = (areaAt L (x + j)).many := ⟨_, rfl⟩
      obtain ⟨v, ev⟩ : ∃ u, u = (areaAt L (x + j)).rd := ⟨_, rfl⟩
      obtain ⟨p, ep⟩ : ∃ p, p = (areaAt L (x + j)).wr := ⟨_, rfl⟩
      obtain ⟨q, eq⟩ : ∃ q, q = (areaAt L (x + j)).whole := ⟨_, rfl⟩
      rw [← ev] at HAT
      rw [← ey, ← em, ← ev, ← ep, ← eq]
      clear ey em ev ep eq
      have hfld : ∀ X : World, (Instr.field 49 (.agg #[.int .i64 y, .int .i64 m, .bool v, .bool p, .bool q]) 2).run Try.prog X = .ok (.bool v) X := fun X => by kernel_rfl
      cases v
      case false =>
        have HF := Lib.hid (show R = false from by
          rw [HR.out]; exact reads_no (by omega) HAT.out)
        go_wp2_with fail
        go_ret
        rw [HF.out]
        exact ⟨rfl, hb⟩
      case true =>
        go_wp2_with fail
        go_roundw
        case rel =>
          refine ⟨j + 1, by omega, by go_num, fun k hk => ?_, hb⟩
          rcases Nat.lt_or_ge k j with h1 | h1
          · exact HALL.out k h1
          · rw [show x + k = x + j by omega, HAT.out]
        case measure => simp [intOf]; omega
    · obtain rfl : j = many := by omega
      have HE := Lib.hid (show R = true from by
        rw [HR.out]; exact (reads_iff L x j).2 (fun k hk => HALL.out k hk))
      go_wp2_with fail
      go_ret
      rw [HE.out]
      exact ⟨rfl, hb⟩
set_option maxHeartbeats 4000000 in
theorem writableB_nil (x many : Nat) (w : World) :
    Calls Try.prog 55 #[.pointer none, .int .i64 (x : Nat), .int .i64 (many : Nat)] w fun e w' => e = .returned (.bool true) ∧ Below w.heap.size w w' := by
  go_enter Try.func55, Try.ntmps55
  go_wp2_with fail
  go_ret
  exact ⟨rfl, Below.refl _ _⟩
set_option maxHeartbeats 4000000 in
theorem writableB_any (g o : Nat) (A : Option Addr) (n c : Nat) (L : List Area) (x many : Nat) (w : World) (hp : w.cell? ⟨g, o, none⟩ = some (.slice A n c)) (hg : g < w.heap.size) (h : Ar w A n L) (hok : AOk L) (hn : n ≤ 1000000) (hx : x ≤ 200000) (hmany : many ≤ 200000) :
    Calls Try.prog 55 #[.pointer (some ⟨g, o, none⟩), .int .i64 (x : Nat), .int .i64 (many : Nat)] w fun e w' => e = .returned (.bool (writesOk L x many)) ∧ Below w.heap.size w w' := by
  obtain ⟨R, hR⟩ : ∃ R, R = writesOk L x many := ⟨_, rfl⟩
  rw [← hR]
  have HR := Lib.hid hR
  have KI := Lib.hid (fun w1 (b : Below w.heap.size w w1) (j : Nat) (hj : j ≤ 1000000) => areaB_any g o A n c L j w1 ((b.cell (p := ⟨g, o, none⟩) hg).trans hp) (Nat.lt_of_lt_of_le hg b.size) (h.to b) hok hn hj)
  clear hR hok h hp
  go_enter Try.func55, Try.ntmps55
  go_wp2_with fail
  go_loopw [12] (fun iv wr => ∃ (j : Nat), j ≤ many ∧ iv = .int .i64 j ∧ (∀ k, k < j → writeAt L x many ((x + k : Nat) : Int) = true) ∧ Below w.heap.size w wr) (fun iv _ => many - (intOf iv).toNat)
  case atStart => exact ⟨0, by omega, rfl, fun k hk => by omega, Below.refl _ _⟩
  case round =>
    obtain ⟨j, hj, rfl, hall, hb⟩ := hrel
    have HALL := Lib.hid hall
    have wj : IntKind.i64.wrap ((x : Int) + (j : Int)) = ((x + j : Nat) : Int) := by rw [IntKind.wrap_i64]; omega
    clear hall
    by_cases hlt : (j : Int) < (many : Int)
    · go_wp2_with fail
      refine (KI.out wr hb (x + j) (by omega)).mono ?_
      rintro e w1 ⟨rfl, b1⟩
      have hb := hb.call b1
      have HAT := Lib.hid (areaAt_write L x many (x + j))
      unfold acell
      obtain ⟨y, ey⟩ : ∃ y, y = (areaAt L (x + j)).at' := ⟨_, rfl⟩
      obtain ⟨m, em⟩ : ∃ m, m = (areaAt L (x + j)).many := ⟨_, rfl⟩
      obtain ⟨u, eu⟩ : ∃ u, u = (areaAt L (x + j)).rd := ⟨_, rfl⟩
      obtain ⟨p, ep⟩ : ∃ p, p = (areaAt L (x + j)).wr := ⟨_, rfl⟩
      obtain ⟨q, eq⟩ : ∃ q, q = (areaAt L (x + j)).whole := ⟨_, rfl⟩
      rw [← ey, ← em, ← ep, ← eq] at HAT
      rw [← ey, ← em, ← eu, ← ep, ← eq]
      clear ey em eu ep eq
      cases p
      case false =>
        have HF := Lib.hid (show R = false from by
          rw [HR.out]; exact writes_no (k := j) (by omega) (by rw [HAT.out]; rfl))
        go_wp2_with fail
        go_ret
        rw [HF.out]
        exact ⟨rfl, hb.new _⟩
      case true =>
        cases q
        case false =>
          go_wp2_with fail
          go_roundw
          case rel =>
            refine ⟨j + 1, by omega, by go_num, fun k hk => ?_, hb.new _⟩
            rcases Nat.lt_or_ge k j with h1 | h1
            · exact HALL.out k h1
            · rw [show x + k = x + j by omega, HAT.out]; rfl
          case measure => simp [intOf]; omega
        case true =>
          by_cases h1 : y = (x : Int)
          · have hn1 : (y != (x : Int)) = false := by rw [h1]; simp
            rw [hn1] at HAT
            by_cases h2 : m = (many : Int)
            · have hn2 : (m != (many : Int)) = false := by rw [h2]; simp
              rw [hn2] at HAT
              clear h1 h2
              go_wp2_with fail
              go_roundw
              case rel =>
                refine ⟨j + 1, by omega, by go_num, fun k hk => ?_, hb.new _⟩
                rcases Nat.lt_or_ge k j with h1 | h1
                · exact HALL.out k h1
                · rw [show x + k = x + j by omega, HAT.out]; rfl
              case measure => simp [intOf]; omega
            · have hn2 : (m != (many : Int)) = true := by rw [bne_iff_ne]; exact h2
              rw [hn2] at HAT
              clear h1 h2
              have HF := Lib.hid (show R = false from by
                rw [HR.out]; exact writes_no (k := j) (by omega) (by rw [HAT.out]; rfl))
              go_wp2_with fail
              go_ret
              rw [HF.out]
              exact ⟨rfl, hb.new _⟩
          · have hn1 : (y != (x : Int)) = true := by rw [bne_iff_ne]; exact h1
            rw [hn1] at HAT
            clear h1
            have HF := Lib.hid (show R = false from by
              rw [HR.out]; exact writes_no (k := j) (by omega) (by rw [HAT.out]; rfl))
            go_wp2_with fail
            go_ret
            rw [HF.out]
            exact ⟨rfl, hb.new _⟩
    · obtain rfl : j = many := by omega
      have HE := Lib.hid (show R = true from by
        rw [HR.out]; exact (writes_iff L x j).2 (fun k hk => HALL.out k hk))
      go_wp2_with fail
      go_ret
      rw [HE.out]
      exact ⟨rfl, hb⟩
set_option maxHeartbeats 4000000 in
theorem areaW_any (g o : Nat) (A : Option Addr) (n c : Nat) (L : List Area) (x : Nat) (w : World) (hp : w.cell? ⟨g, o, none⟩ = some (.slice A n c)) (hg : g < w.heap.size) (h : Ar w A n L) (hok : AOk L) (hn : n ≤ 1000000) (hx : x ≤ 1000000) :
    Calls Try.prog 70 #[.pointer (some ⟨g, o, none⟩), .int .i64 (x : Nat)] w fun e w' => e = .returned (acell (areaAt L x)) ∧ Below w.heap.size w w' := by
  have hlen := h.len
  obtain ⟨F, hF⟩ : ∃ F, F = findA L x := ⟨_, rfl⟩
  have HF := Lib.hid hF
  have HR0 := Lib.hid (show F = findA (L.drop 0) x from by rw [hF]; rfl)
  have HL := Lib.hid hlen
  have HO := Lib.hid hok
  have HH := Lib.hid h
  have hp0 : (w.alloc (.cells #[.int .i64 0, .int .i64 0, .bool false, .bool false, .bool false] 49)).cell? ⟨g, o, none⟩ = some (.slice A n c) := by
    rw [((Below.refl _ w).new (.cells #[.int .i64 0, .int .i64 0, .bool false, .bool false, .bool false] 49)).cell (p := ⟨g, o, none⟩) hg]; exact hp
  have wx : IntKind.u64.wrap (x : Int) = (x : Int) := by rw [IntKind.wrap_u64]; omega
  clear hF hlen hok h hp
  go_enter Try.func70, Try.ntmps70
  go_wp2_with fail
  go_loopw [12] (fun iv wr => ∃ (i : Nat), i ≤ n ∧ iv = .int .i64 i ∧ F = findA (L.drop i) x ∧ Below w.heap.size w wr ∧ w.heap.size < wr.heap.size ∧ wr.heap[w.heap.size]? = some (.cells #[.int .i64 0, .int .i64 0, .bool false, .bool false, .bool false] 49 (0, 0))) (fun iv _ => n - (intOf iv).toNat)
  case atStart => exact ⟨0, by omega, rfl, HR0.out, (Below.refl _ _).new _, by simp, heap_alloc_new w _⟩
  case round =>
    obtain ⟨i, hi, rfl, hR, hb, hsz, hrow⟩ := hrel
    by_cases hlt : (i : Int) < (n : Int)
    · obtain ⟨b, o', a, eA, hbl, ha, g0, g1, g2, g3, g4⟩ := (HH.out.to hb).at (i := i) (by omega)
      subst eA
      have HS := Lib.hid (hR.trans (find_step ha))
      have hao := HO.out a (List.mem_of_getElem? ha)
      have HA := Lib.hid ha
      have hy0 := hao.at0
      have hy1 := hao.at1
      have hm0 := hao.many0
      have hm1 := hao.many1
      have HHas := Lib.hid (show a.has x = (decide (a.at' ≤ (x : Int)) && (decide (0 < a.many) && decide ((x : Int) - a.at' < a.many))) from rfl)
      have HC := Lib.hid (show acell a = .agg #[.int .i64 a.at', .int .i64 a.many, .bool a.rd, .bool a.wr, .bool a.whole] from rfl)
      obtain ⟨y, ey⟩ : ∃ y, y = a.at' := ⟨_, rfl⟩
      obtain ⟨m, em⟩ : ∃ m, m = a.many := ⟨_, rfl⟩
      obtain ⟨p, ep⟩ : ∃ p, p = a.rd := ⟨_, rfl⟩
      obtain ⟨q, eq⟩ : ∃ q, q = a.wr := ⟨_, rfl⟩
      obtain ⟨r, er⟩ : ∃ r, r = a.whole := ⟨_, rfl⟩
      rw [← ey] at g0 hy0 hy1 HHas HC
      rw [← em] at g1 hm0 hm1 HHas HC
      rw [← ep] at g2 HC
      rw [← eq] at g3 HC
      rw [← er] at g4 HC
      have z0 : (0 : Int) ≤ (i : Int) := by omega
      clear hR ha ey em ep eq er
      by_cases p2 : 0 < m
      · by_cases p1 : y ≤ (x : Int)
        · have w1 : IntKind.u64.wrap ((x : Int) - IntKind.u64.wrap y) = (x : Int) - y := by rw [IntKind.wrap_u64, IntKind.wrap_u64]; omega
          have w2 : IntKind.u64.wrap m = m := by rw [IntKind.wrap_u64]; omega
          by_cases p3 : (x : Int) - y < m
          · have hh : a.has x = true := by rw [HHas.out]; simp [p1, p2, p3]
            go_wp2_with (first
              | (refine wpList_store_row rfl 49 (.tmp 4) _ rfl w.heap.size #[.int .i64 y, .int .i64 m, .bool p, .bool q, .bool r] rfl rfl 49 _ (row_alloc hrow _) (by kernel_rfl) rfl (by simp [Value.oneCell']) ?_)
              | fail)
            refine bodyPost_row rfl w.heap.size 49 #[.int .i64 y, .int .i64 m, .bool p, .bool q, .bool r] (0, 0) _ rfl (setRow_heap _ _ _ _ _ _ (row_alloc hrow _)) Try.underlying49 rfl (by kernel_rfl) rfl ?_
            refine ⟨?_, below_setRow (hb.new _) (Nat.le_refl _) _⟩
            rw [areaAt_some (a := a) (by rw [← HF.out, HS.out, if_pos hh]), HC.out]
          · have hh : a.has x = false := by rw [HHas.out]; simp [p1, p2, p3]
            have d3 : decide ((x : Int) - y < m) = false := decide_eq_false p3
            go_wp2_with fail
            go_roundw
            case rel => exact ⟨i + 1, by omega, by go_num, by rw [HS.out, if_neg (by rw [hh]; decide)], hb.new _, by simp; omega, row_alloc hrow _⟩
            case measure => simp [intOf]; omega
        · have hh : a.has x = false := by rw [HHas.out]; simp [p1]
          have d1 : decide (y ≤ (x : Int)) = false := decide_eq_false p1
          go_wp2_with fail
          go_roundw
          case rel => exact ⟨i + 1, by omega, by go_num, by rw [HS.out, if_neg (by rw [hh]; decide)], hb.new _, by simp; omega, row_alloc hrow _⟩
          case measure => simp [intOf]; omega
      · have hh : a.has x = false := by rw [HHas.out]; simp [p2]
        have d2 : decide (0 < m) = false := decide_eq_false p2
        go_wp2_with fail
        go_roundw
        case rel => exact ⟨i + 1, by omega, by go_num, by rw [HS.out, if_neg (by rw [hh]; decide)], hb.new _, by simp; omega, row_alloc hrow _⟩
        case measure => simp [intOf]; omega
    · have HE := Lib.hid (hR.trans (find_end (by rw [HL.out]; omega)))
      clear hR
      go_wp2_with (first
        | (refine wpList_store_row rfl 49 (.tmp 4) _ rfl w.heap.size #[.int .i64 0, .int .i64 0, .bool false, .bool false, .bool false] rfl rfl 49 _ hrow (by kernel_rfl) rfl (by simp [Value.oneCell']) ?_)
        | fail)
      refine bodyPost_row rfl w.heap.size 49 #[.int .i64 0, .int .i64 0, .bool false, .bool false, .bool false] (0, 0) _ rfl (setRow_heap _ _ _ _ _ _ hrow) Try.underlying49 rfl (by kernel_rfl) rfl ?_
      refine ⟨?_, below_setRow hb (Nat.le_refl _) _⟩
      rw [areaAt_none (by rw [← HF.out, HE.out])]; rfl
set_option maxHeartbeats 4000000 in
theorem readableW_nil (x many : Nat) (w : World) :
    Calls Try.prog 54 #[.pointer none, .int .i64 (x : Nat), .int .i64 (many : Nat)] w fun e w' => e = .returned (.bool true) ∧ Below w.heap.size w w' := by
  go_enter Try.func54, Try.ntmps54
  go_wp2_with fail
  go_ret
  exact ⟨rfl, Below.refl _ _⟩
set_option maxHeartbeats 4000000 in
theorem readableW_any (g o : Nat) (A : Option Addr) (n c : Nat) (L : List Area) (x many : Nat) (w : World) (hp : w.cell? ⟨g, o, none⟩ = some (.slice A n c)) (hg : g < w.heap.size) (h : Ar w A n L) (hok : AOk L) (hn : n ≤ 1000000) (hx : x ≤ 200000) (hmany : many ≤ 200000) :
    Calls Try.prog 54 #[.pointer (some ⟨g, o, none⟩), .int .i64 (x : Nat), .int .i64 (many : Nat)] w fun e w' => e = .returned (.bool (readsOk L x many)) ∧ Below w.heap.size w w' := by
  obtain ⟨R, hR⟩ : ∃ R, R = readsOk L x many := ⟨_, rfl⟩
  rw [← hR]
  have HR := Lib.hid hR
  have KI := Lib.hid (fun w1 (b : Below w.heap.size w w1) (j : Nat) (hj : j ≤ 1000000) => areaW_any g o A n c L j w1 ((b.cell (p := ⟨g, o, none⟩) hg).trans hp) (Nat.lt_of_lt_of_le hg b.size) (h.to b) hok hn hj)
  clear hR hok h hp
  go_enter Try.func54, Try.ntmps54
  go_wp2_with fail
  go_loopw [11] (fun iv wr => ∃ (j : Nat), j ≤ many ∧ iv = .int .i64 j ∧ (∀ k, k < j → readAt L ((x + k : Nat) : Int) = true) ∧ Below w.heap.size w wr) (fun iv _ => many - (intOf iv).toNat)
  case atStart => exact ⟨0, by omega, rfl, fun k hk => by omega, Below.refl _ _⟩
  case round =>
    obtain ⟨j, hj, rfl, hall, hb⟩ := hrel
    have HALL := Lib.hid hall
    have wj : IntKind.i64.wrap ((x : Int) + (j : Int)) = ((x + j : Nat) : Int) := by rw [IntKind.wrap_i64]; omega
    clear hall
    by_cases hlt : (j : Int) < (many : Int)
    · go_wp2_with fail
      refine (KI.out wr hb (x + j) (by omega)).mono ?_
      rintro e w1 ⟨rfl, b1⟩
      have hb := hb.call b1
      have HAT := Lib.hid (areaAt_read L (x + j))
      unfold acell
      obtain ⟨y, ey⟩ : ∃ y, y = (areaAt L (x + j)).at' := ⟨_, rfl⟩
      obtain ⟨m, em⟩ : ∃ m, m = (areaAt L (x + j)).many := ⟨_, rfl⟩
      obtain ⟨v, ev⟩ : ∃ u, u = (areaAt L (x + j)).rd := ⟨_, rfl⟩
      obtain ⟨p, ep⟩ : ∃ p, p = (areaAt L (x + j)).wr := ⟨_, rfl⟩
      obtain ⟨q, eq⟩ : ∃ q, q = (areaAt L (x + j)).whole := ⟨_, rfl⟩
      rw [← ev] at HAT
      rw [← ey, ← em, ← ev, ← ep, ← eq]
      clear ey em ev ep eq
      have hfld : ∀ X : World, (Instr.field 49 (.agg #[.int .i64 y, .int .i64 m, .bool v, .bool p, .bool q]) 2).run Try.prog X = .ok (.bool v) X := fun X => by kernel_rfl
      cases v
      case false =>
        have HF := Lib.hid (show R = false from by
          rw [HR.out]; exact reads_no (by omega) HAT.out)
        go_wp2_with fail
        go_ret
        rw [HF.out]
        exact ⟨rfl, hb⟩
      case true =>
        go_wp2_with fail
        go_roundw
        case rel =>
          refine ⟨j + 1, by omega, by go_num, fun k hk => ?_, hb⟩
          rcases Nat.lt_or_ge k j with h1 | h1
          · exact HALL.out k h1
          · rw [show x + k = x + j by omega, HAT.out]
        case measure => simp [intOf]; omega
    · obtain rfl : j = many := by omega
      have HE := Lib.hid (show R = true from by
        rw [HR.out]; exact (reads_iff L x j).2 (fun k hk => HALL.out k hk))
      go_wp2_with fail
      go_ret
      rw [HE.out]
      exact ⟨rfl, hb⟩
set_option maxHeartbeats 4000000 in
theorem writableW_nil (x many : Nat) (w : World) :
    Calls Try.prog 56 #[.pointer none, .int .i64 (x : Nat), .int .i64 (many : Nat)] w fun e w' => e = .returned (.bool true) ∧ Below w.heap.size w w' := by
  go_enter Try.func56, Try.ntmps56
  go_wp2_with fail
  go_ret
  exact ⟨rfl, Below.refl _ _⟩
set_option maxHeartbeats 4000000 in
theorem writableW_any (g o : Nat) (A : Option Addr) (n c : Nat) (L : List Area) (x many : Nat) (w : World) (hp : w.cell? ⟨g, o, none⟩ = some (.slice A n c)) (hg : g < w.heap.size) (h : Ar w A n L) (hok : AOk L) (hn : n ≤ 1000000) (hx : x ≤ 200000) (hmany : many ≤ 200000) :
    Calls Try.prog 56 #[.pointer (some ⟨g, o, none⟩), .int .i64 (x : Nat), .int .i64 (many : Nat)] w fun e w' => e = .returned (.bool (writesOk L x many)) ∧ Below w.heap.size w w' := by
  obtain ⟨R, hR⟩ : ∃ R, R = writesOk L x many := ⟨_, rfl⟩
  rw [← hR]
  have HR := Lib.hid hR
  have KI := Lib.hid (fun w1 (b : Below w.heap.size w w1) (j : Nat) (hj : j ≤ 1000000) => areaW_any g o A n c L j w1 ((b.cell (p := ⟨g, o, none⟩) hg).trans hp) (Nat.lt_of_lt_of_le hg b.size) (h.to b) hok hn hj)
  clear hR hok h hp
  go_enter Try.func56, Try.ntmps56
  go_wp2_with fail
  go_loopw [12] (fun iv wr => ∃ (j : Nat), j ≤ many ∧ iv = .int .i64 j ∧ (∀ k, k < j → writeAt L x many ((x + k : Nat) : Int) = true) ∧ Below w.heap.size w wr) (fun iv _ => many - (intOf iv).toNat)
  case atStart => exact ⟨0, by omega, rfl, fun k hk => by omega, Below.refl _ _⟩
  case round =>
    obtain ⟨j, hj, rfl, hall, hb⟩ := hrel
    have HALL := Lib.hid hall
    have wj : IntKind.i64.wrap ((x : Int) + (j : Int)) = ((x + j : Nat) : Int) := by rw [IntKind.wrap_i64]; omega
    clear hall
    by_cases hlt : (j : Int) < (many : Int)
    · go_wp2_with fail
      refine (KI.out wr hb (x + j) (by omega)).mono ?_
      rintro e w1 ⟨rfl, b1⟩
      have hb := hb.call b1
      have HAT := Lib.hid (areaAt_write L x many (x + j))
      unfold acell
      obtain ⟨y, ey⟩ : ∃ y, y = (areaAt L (x + j)).at' := ⟨_, rfl⟩
      obtain ⟨m, em⟩ : ∃ m, m = (areaAt L (x + j)).many := ⟨_, rfl⟩
      obtain ⟨u, eu⟩ : ∃ u, u = (areaAt L (x + j)).rd := ⟨_, rfl⟩
      obtain ⟨p, ep⟩ : ∃ p, p = (areaAt L (x + j)).wr := ⟨_, rfl⟩
      obtain ⟨q, eq⟩ : ∃ q, q = (areaAt L (x + j)).whole := ⟨_, rfl⟩
      rw [← ey, ← em, ← ep, ← eq] at HAT
      rw [← ey, ← em, ← eu, ← ep, ← eq]
      clear ey em eu ep eq
      cases p
      case false =>
        have HF := Lib.hid (show R = false from by
          rw [HR.out]; exact writes_no (k := j) (by omega) (by rw [HAT.out]; rfl))
        go_wp2_with fail
        go_ret
        rw [HF.out]
        exact ⟨rfl, hb.new _⟩
      case true =>
        cases q
        case false =>
          go_wp2_with fail
          go_roundw
          case rel =>
            refine ⟨j + 1, by omega, by go_num, fun k hk => ?_, hb.new _⟩
            rcases Nat.lt_or_ge k j with h1 | h1
            · exact HALL.out k h1
            · rw [show x + k = x + j by omega, HAT.out]; rfl
          case measure => simp [intOf]; omega
        case true =>
          by_cases h1 : y = (x : Int)
          · have hn1 : (y != (x : Int)) = false := by rw [h1]; simp
            rw [hn1] at HAT
            by_cases h2 : m = (many : Int)
            · have hn2 : (m != (many : Int)) = false := by rw [h2]; simp
              rw [hn2] at HAT
              clear h1 h2
              go_wp2_with fail
              go_roundw
              case rel =>
                refine ⟨j + 1, by omega, by go_num, fun k hk => ?_, hb.new _⟩
                rcases Nat.lt_or_ge k j with h1 | h1
                · exact HALL.out k h1
                · rw [show x + k = x + j by omega, HAT.out]; rfl
              case measure => simp [intOf]; omega
            · have hn2 : (m != (many : Int)) = true := by rw [bne_iff_ne]; exact h2
              rw [hn2] at HAT
              clear h1 h2
              have HF := Lib.hid (show R = false from by
                rw [HR.out]; exact writes_no (k := j) (by omega) (by rw [HAT.out]; rfl))
              go_wp2_with fail
              go_ret
              rw [HF.out]
              exact ⟨rfl, hb.new _⟩
          · have hn1 : (y != (x : Int)) = true := by rw [bne_iff_ne]; exact h1
            rw [hn1] at HAT
            clear h1
            have HF := Lib.hid (show R = false from by
              rw [HR.out]; exact writes_no (k := j) (by omega) (by rw [HAT.out]; rfl))
            go_wp2_with fail
            go_ret
            rw [HF.out]
            exact ⟨rfl, hb.new _⟩
    · obtain rfl : j = many := by omega
      have HE := Lib.hid (show R = true from by
        rw [HR.out]; exact (writes_iff L x j).2 (fun k hk => HALL.out k hk))
      go_wp2_with fail
      go_ret
      rw [HE.out]
      exact ⟨rfl, hb⟩
end Go.Proofs.Ytiibopdnlmnkmaa.MoW
/- The walks of model's tables: right, fixed. Written by gen_mowb.py. -/
set_option linter.unusedVariables false
set_option linter.unusedSimpArgs false
namespace Go.Proofs.Ytiibopdnlmnkmaa.MoW
open Go.RowKit Go.Proofs.Ytiibopdnlmnkmaa Go.Proofs.Ytiibopdnlmnkmaa.Mo
theorem areas_long {E : Int} {L : List Area} {long : Nat} {fixed : Bool} (h : 65536 < long) : areasFrom E L long fixed = false := by
  induction L generalizing E with
  | nil => unfold areasFrom; exact decide_eq_false (by omega)
  | cons a l ih => unfold areasFrom; rw [ih, Bool.and_false]
theorem areas_next {E : Int} {a : Area} {l : List Area} {long : Nat} (h0 : 0 ≤ E) (h1 : E ≤ a.at') (h2 : 1 ≤ a.many) (h3 : a.many ≤ (long : Int) - a.at') : (a.fits E long false && areasFrom (a.at' + a.many) l long false) = areasFrom (a.at' + a.many) l long false := by
  rcases Nat.lt_or_ge 65536 long with h | h
  · rw [areas_long h, Bool.and_false]
  · rw [fits_yes (by omega) (by omega) (by omega) (by omega) (by omega) (by omega) rfl, Bool.true_and]
def allFixed (L : List Area) : Bool := L.all fun a => !a.wr
theorem fixed_step {L : List Area} {i : Nat} {a : Area} (h : L[i]? = some a) : allFixed (L.drop i) = (!a.wr && allFixed (L.drop (i + 1))) := by
  have hi := (List.getElem?_eq_some_iff.1 h).1
  have hd : L.drop i = a :: L.drop (i + 1) := by
    rw [List.drop_eq_getElem_cons hi]
    congr 1
    exact (List.getElem?_eq_some_iff.1 h).2
  rw [hd]
  rfl
theorem fixed_end {L : List Area} {i : Nat} (h : L.length ≤ i) : allFixed (L.drop i) = true := by
  rw [List.drop_eq_nil_of_le h]; rfl
theorem areas_fixed (E : Int) (L : List Area) (long : Nat) : areasFrom E L long true = (areasFrom E L long false && allFixed L) := by
  induction L generalizing E with
  | nil => simp [areasFrom, allFixed]
  | cons a l ih =>
    have e1 : allFixed (a :: l) = (!a.wr && allFixed l) := rfl
    have e2 : a.fits E long true = (a.fits E long false && !a.wr) := by
      unfold Area.fits
      simp only [Bool.false_and, Bool.true_and, Bool.not_false, Bool.and_true, Bool.and_assoc]
    unfold areasFrom
    rw [ih, e1, e2]
    cases a.fits E long false <;> cases a.wr <;> simp
set_option maxHeartbeats 4000000 in
theorem rightB_any (g o : Nat) (A : Option Addr) (n c : Nat) (B : Option Addr) (long d : Nat) (L : List Area) (w : World) (hp : w.cell? ⟨g, o, none⟩ = some (.slice A n c)) (hq : w.cell? ⟨g, o + 1, none⟩ = some (.slice B long d)) (hg : g < w.heap.size) (h : Ar w A n L) (hok : AOk L) (hn : n ≤ 1000000) (hl : long ≤ 1000000000) :
    Calls Try.prog 30 #[.pointer (some ⟨g, o, none⟩)] w fun e w' => e = .returned (.bool (areasFrom 0 L long false)) ∧ Below w.heap.size w w' := by
  have hlen := h.len
  obtain ⟨R, hR⟩ : ∃ R, R = areasFrom 0 L long false := ⟨_, rfl⟩
  rw [← hR]
  have HR0 := Lib.hid (show R = areasFrom 0 (L.drop 0) long false from by rw [hR]; rfl)
  have HL := Lib.hid hlen
  have HO := Lib.hid hok
  have HH := Lib.hid h
  have HQ := Lib.hid hq
  clear hR hlen hok h hq
  go_enter Try.func30, Try.ntmps30
  go_wp2_with fail
  go_loopw [3, 11] (fun ev iv wr => ∃ (i : Nat) (E : Int), i ≤ n ∧ iv = .int .i64 i ∧ ev = .int .i64 E ∧ 0 ≤ E ∧ E ≤ 1000000000 ∧ R = areasFrom E (L.drop i) long false ∧ Below w.heap.size w wr) (fun _ iv _ => n - (intOf iv).toNat)
  case atStart => exact ⟨0, 0, by omega, rfl, rfl, by omega, by omega, HR0.out, Below.refl _ _⟩
  case round =>
    obtain ⟨i, E, hi, rfl, rfl, hE0, hE1, hR, hb⟩ := hrel
    by_cases hlt : (i : Int) < (n : Int)
    · obtain ⟨b, o', a, eA, hbl, ha, g0, g1, g2, g3, g4⟩ := (HH.out.to hb).at (i := i) (by omega)
      subst eA
      have HS := Lib.hid (hR.trans (areas_step ha))
      have hao := HO.out a (List.mem_of_getElem? ha)
      have hy0 := hao.at0
      have hy1 := hao.at1
      have hm0 := hao.many0
      have hm1 := hao.many1
      have HNO := Lib.hid (fun (q : 0 ≤ a.at' → 1 ≤ a.many → a.at' ≤ 65536 → a.many ≤ 65536 → E ≤ a.at' → a.at' + a.many ≤ (long : Int) → (false && a.wr) = false → False) (x : Bool) => fits_no (x := x) q)
      have HNX := Lib.hid (fun (l : List Area) (h1 : E ≤ a.at') (h2 : 1 ≤ a.many) (h3 : a.many ≤ (long : Int) - a.at') => areas_next (l := l) hE0 h1 h2 h3)
      obtain ⟨F, hF⟩ : ∃ F, F = a.fits E long false := ⟨_, rfl⟩
      rw [← hF] at HS HNO HNX
      clear hF
      obtain ⟨y, ey⟩ : ∃ y, y = a.at' := ⟨_, rfl⟩
      obtain ⟨m, em⟩ : ∃ m, m = a.many := ⟨_, rfl⟩
      obtain ⟨p, ep⟩ : ∃ p, p = a.rd := ⟨_, rfl⟩
      obtain ⟨q, eq⟩ : ∃ q, q = a.wr := ⟨_, rfl⟩
      obtain ⟨r, er⟩ : ∃ r, r = a.whole := ⟨_, rfl⟩
      rw [← ey] at g0 hy0 hy1 HS HNO HNX
      rw [← em] at g1 hm0 hm1 HS HNO HNX
      rw [← ep] at g2
      rw [← eq] at g3 HNO
      rw [← er] at g4
      have z0 : (0 : Int) ≤ (i : Int) := by omega
      have hq1 : (wr.alloc (.cells #[.int .i64 y, .int .i64 m, .bool p, .bool q, .bool r] 49)).cell? ⟨g, o + 1, none⟩ = some (.slice B long d) := by
        rw [(hb.new (.cells #[.int .i64 y, .int .i64 m, .bool p, .bool q, .bool r] 49)).cell (p := ⟨g, o + 1, none⟩) hg]; exact HQ.out
      clear hR ha ey em ep eq er
      by_cases p1 : y < E
      · have d1 : decide (y < E) = true := decide_eq_true p1
        go_wp2_with fail
        go_quiet (fail)
        go_wp2_with fail
        go_ret
        refine ⟨ret_bool ?_, (hb.new _).drewN _⟩
        rw [HS.out]
        exact (HNO.out (fun _ _ _ _ k _ _ => by omega) _).symm
      · have d1 : decide (y < E) = false := decide_eq_false p1
        by_cases p2 : m < 1
        · have d2 : decide (m < 1) = true := decide_eq_true p2
          go_wp2_with fail
          go_quiet (fail)
          go_wp2_with fail
          go_ret
          refine ⟨ret_bool ?_, (hb.new _).drewN _⟩
          rw [HS.out]
          exact (HNO.out (fun _ k _ _ _ _ _ => by omega) _).symm
        · have d2 : decide (m < 1) = false := decide_eq_false p2
          have w1 : IntKind.i64.wrap ((long : Int) - y) = (long : Int) - y := by rw [IntKind.wrap_i64]; omega
          by_cases p3 : (long : Int) - y < m
          · have d3 : decide ((long : Int) - y < m) = true := decide_eq_true p3
            go_wp2_with fail
            go_quiet (fail)
            go_wp2_with fail
            go_ret
            refine ⟨ret_bool ?_, (hb.new _).drewN _⟩
            rw [HS.out]
            exact (HNO.out (fun _ _ _ _ _ k _ => by omega) _).symm
          · have d3 : decide ((long : Int) - y < m) = false := decide_eq_false p3
            have w2 : IntKind.i64.wrap (y + m) = y + m := by rw [IntKind.wrap_i64]; omega
            go_wp2_with fail
            go_quiet (fail)
            go_wp2_with fail
            go_roundw
            case rel =>
              refine ⟨i + 1, y + m, by omega, by go_num, rfl, by omega, by omega, ?_, (hb.new _).drewN _⟩
              rw [HS.out, HNX.out _ (by omega) (by omega) (by omega)]
            case measure => simp [intOf]; omega
    · have HE := Lib.hid (hR.trans (areas_end (by rw [HL.out]; omega)))
      have hq1 : wr.cell? ⟨g, o + 1, none⟩ = some (.slice B long d) := by rw [hb.cell (p := ⟨g, o + 1, none⟩) hg]; exact HQ.out
      clear hR
      go_wp2_with fail
      all_goals (
        go_ret
        refine ⟨ret_bool ?_, hb⟩
        rw [HE.out]
        rw [Bool.eq_iff_iff, decide_eq_true_iff, decide_eq_true_iff]; omega)
set_option maxHeartbeats 4000000 in
theorem fixedB_any (g o : Nat) (A : Option Addr) (n c : Nat) (L : List Area) (w : World) (hp : w.cell? ⟨g, o, none⟩ = some (.slice A n c)) (hg : g < w.heap.size) (h : Ar w A n L) (hn : n ≤ 1000000) :
    Calls Try.prog 32 #[.pointer (some ⟨g, o, none⟩)] w fun e w' => e = .returned (.bool (allFixed L)) ∧ Below w.heap.size w w' := by
  have hlen := h.len
  obtain ⟨R, hR⟩ : ∃ R, R = allFixed L := ⟨_, rfl⟩
  rw [← hR]
  have HR0 := Lib.hid (show R = allFixed (L.drop 0) from by rw [hR]; rfl)
  have HL := Lib.hid hlen
  have HH := Lib.hid h
  clear hR hlen h
  go_enter Try.func32, Try.ntmps32
  go_wp2_with fail
  go_loopw [10] (fun iv wr => ∃ (i : Nat), i ≤ n ∧ iv = .int .i64 i ∧ R = allFixed (L.drop i) ∧ Below w.heap.size w wr) (fun iv _ => n - (intOf iv).toNat)
  case atStart => exact ⟨0, by omega, rfl, HR0.out, Below.refl _ _⟩
  case round =>
    obtain ⟨i, hi, rfl, hR, hb⟩ := hrel
    by_cases hlt : (i : Int) < (n : Int)
    · obtain ⟨b, o', a, eA, hbl, ha, g0, g1, g2, g3, g4⟩ := (HH.out.to hb).at (i := i) (by omega)
      subst eA
      have HS := Lib.hid (hR.trans (fixed_step ha))
      obtain ⟨q, eq⟩ : ∃ q, q = a.wr := ⟨_, rfl⟩
      rw [← eq] at g3 HS
      have z0 : (0 : Int) ≤ (i : Int) := by omega
      clear hR ha eq
      cases q
      case true =>
        go_wp2_with fail
        go_ret
        refine ⟨ret_bool ?_, hb.new _⟩
        rw [HS.out]; rfl
      case false =>
        go_wp2_with fail
        go_roundw
        case rel =>
          refine ⟨i + 1, by omega, by go_num, ?_, hb.new _⟩
          rw [HS.out]; rfl
        case measure => simp [intOf]; omega
    · have HE := Lib.hid (hR.trans (fixed_end (by rw [HL.out]; omega)))
      clear hR
      go_wp2_with fail
      go_ret
      refine ⟨ret_bool ?_, hb⟩
      rw [HE.out]
set_option maxHeartbeats 4000000 in
theorem rightW_any (g o : Nat) (A : Option Addr) (n c : Nat) (B : Option Addr) (long d : Nat) (L : List Area) (w : World) (hp : w.cell? ⟨g, o, none⟩ = some (.slice A n c)) (hq : w.cell? ⟨g, o + 1, none⟩ = some (.slice B long d)) (hg : g < w.heap.size) (h : Ar w A n L) (hok : AOk L) (hn : n ≤ 1000000) (hl : long ≤ 1000000000) :
    Calls Try.prog 31 #[.pointer (some ⟨g, o, none⟩)] w fun e w' => e = .returned (.bool (areasFrom 0 L long false)) ∧ Below w.heap.size w w' := by
  have hlen := h.len
  obtain ⟨R, hR⟩ : ∃ R, R = areasFrom 0 L long false := ⟨_, rfl⟩
  rw [← hR]
  have HR0 := Lib.hid (show R = areasFrom 0 (L.drop 0) long false from by rw [hR]; rfl)
  have HL := Lib.hid hlen
  have HO := Lib.hid hok
  have HH := Lib.hid h
  have HQ := Lib.hid hq
  clear hR hlen hok h hq
  go_enter Try.func31, Try.ntmps31
  go_wp2_with fail
  go_loopw [3, 11] (fun ev iv wr => ∃ (i : Nat) (E : Int), i ≤ n ∧ iv = .int .i64 i ∧ ev = .int .i64 E ∧ 0 ≤ E ∧ E ≤ 1000000000 ∧ R = areasFrom E (L.drop i) long false ∧ Below w.heap.size w wr) (fun _ iv _ => n - (intOf iv).toNat)
  case atStart => exact ⟨0, 0, by omega, rfl, rfl, by omega, by omega, HR0.out, Below.refl _ _⟩
  case round =>
    obtain ⟨i, E, hi, rfl, rfl, hE0, hE1, hR, hb⟩ := hrel
    by_cases hlt : (i : Int) < (n : Int)
    · obtain ⟨b, o', a, eA, hbl, ha, g0, g1, g2, g3, g4⟩ := (HH.out.to hb).at (i := i) (by omega)
      subst eA
      have HS := Lib.hid (hR.trans (areas_step ha))
      have hao := HO.out a (List.mem_of_getElem? ha)
      have hy0 := hao.at0
      have hy1 := hao.at1
      have hm0 := hao.many0
      have hm1 := hao.many1
      have HNO := Lib.hid (fun (q : 0 ≤ a.at' → 1 ≤ a.many → a.at' ≤ 65536 → a.many ≤ 65536 → E ≤ a.at' → a.at' + a.many ≤ (long : Int) → (false && a.wr) = false → False) (x : Bool) => fits_no (x := x) q)
      have HNX := Lib.hid (fun (l : List Area) (h1 : E ≤ a.at') (h2 : 1 ≤ a.many) (h3 : a.many ≤ (long : Int) - a.at') => areas_next (l := l) hE0 h1 h2 h3)
      obtain ⟨F, hF⟩ : ∃ F, F = a.fits E long false := ⟨_, rfl⟩
      rw [← hF] at HS HNO HNX
      clear hF
      obtain ⟨y, ey⟩ : ∃ y, y = a.at' := ⟨_, rfl⟩
      obtain ⟨m, em⟩ : ∃ m, m = a.many := ⟨_, rfl⟩
      obtain ⟨p, ep⟩ : ∃ p, p = a.rd := ⟨_, rfl⟩
      obtain ⟨q, eq⟩ : ∃ q, q = a.wr := ⟨_, rfl⟩
      obtain ⟨r, er⟩ : ∃ r, r = a.whole := ⟨_, rfl⟩
      rw [← ey] at g0 hy0 hy1 HS HNO HNX
      rw [← em] at g1 hm0 hm1 HS HNO HNX
      rw [← ep] at g2
      rw [← eq] at g3 HNO
      rw [← er] at g4
      have z0 : (0 : Int) ≤ (i : Int) := by omega
      have hq1 : (wr.alloc (.cells #[.int .i64 y, .int .i64 m, .bool p, .bool q, .bool r] 49)).cell? ⟨g, o + 1, none⟩ = some (.slice B long d) := by
        rw [(hb.new (.cells #[.int .i64 y, .int .i64 m, .bool p, .bool q, .bool r] 49)).cell (p := ⟨g, o + 1, none⟩) hg]; exact HQ.out
      clear hR ha ey em ep eq er
      by_cases p1 : y < E
      · have d1 : decide (y < E) = true := decide_eq_true p1
        go_wp2_with fail
        go_quiet (fail)
        go_wp2_with fail
        go_ret
        refine ⟨ret_bool ?_, (hb.new _).drewN _⟩
        rw [HS.out]
        exact (HNO.out (fun _ _ _ _ k _ _ => by omega) _).symm
      · have d1 : decide (y < E) = false := decide_eq_false p1
        by_cases p2 : m < 1
        · have d2 : decide (m < 1) = true := decide_eq_true p2
          go_wp2_with fail
          go_quiet (fail)
          go_wp2_with fail
          go_ret
          refine ⟨ret_bool ?_, (hb.new _).drewN _⟩
          rw [HS.out]
          exact (HNO.out (fun _ k _ _ _ _ _ => by omega) _).symm
        · have d2 : decide (m < 1) = false := decide_eq_false p2
          have w1 : IntKind.i64.wrap ((long : Int) - y) = (long : Int) - y := by rw [IntKind.wrap_i64]; omega
          by_cases p3 : (long : Int) - y < m
          · have d3 : decide ((long : Int) - y < m) = true := decide_eq_true p3
            go_wp2_with fail
            go_quiet (fail)
            go_wp2_with fail
            go_ret
            refine ⟨ret_bool ?_, (hb.new _).drewN _⟩
            rw [HS.out]
            exact (HNO.out (fun _ _ _ _ _ k _ => by omega) _).symm
          · have d3 : decide ((long : Int) - y < m) = false := decide_eq_false p3
            have w2 : IntKind.i64.wrap (y + m) = y + m := by rw [IntKind.wrap_i64]; omega
            go_wp2_with fail
            go_quiet (fail)
            go_wp2_with fail
            go_roundw
            case rel =>
              refine ⟨i + 1, y + m, by omega, by go_num, rfl, by omega, by omega, ?_, (hb.new _).drewN _⟩
              rw [HS.out, HNX.out _ (by omega) (by omega) (by omega)]
            case measure => simp [intOf]; omega
    · have HE := Lib.hid (hR.trans (areas_end (by rw [HL.out]; omega)))
      have hq1 : wr.cell? ⟨g, o + 1, none⟩ = some (.slice B long d) := by rw [hb.cell (p := ⟨g, o + 1, none⟩) hg]; exact HQ.out
      clear hR
      go_wp2_with fail
      all_goals (
        go_ret
        refine ⟨ret_bool ?_, hb⟩
        rw [HE.out]
        rw [Bool.eq_iff_iff, decide_eq_true_iff, decide_eq_true_iff]; omega)
set_option maxHeartbeats 4000000 in
theorem fixedW_any (g o : Nat) (A : Option Addr) (n c : Nat) (L : List Area) (w : World) (hp : w.cell? ⟨g, o, none⟩ = some (.slice A n c)) (hg : g < w.heap.size) (h : Ar w A n L) (hn : n ≤ 1000000) :
    Calls Try.prog 33 #[.pointer (some ⟨g, o, none⟩)] w fun e w' => e = .returned (.bool (allFixed L)) ∧ Below w.heap.size w w' := by
  have hlen := h.len
  obtain ⟨R, hR⟩ : ∃ R, R = allFixed L := ⟨_, rfl⟩
  rw [← hR]
  have HR0 := Lib.hid (show R = allFixed (L.drop 0) from by rw [hR]; rfl)
  have HL := Lib.hid hlen
  have HH := Lib.hid h
  clear hR hlen h
  go_enter Try.func33, Try.ntmps33
  go_wp2_with fail
  go_loopw [10] (fun iv wr => ∃ (i : Nat), i ≤ n ∧ iv = .int .i64 i ∧ R = allFixed (L.drop i) ∧ Below w.heap.size w wr) (fun iv _ => n - (intOf iv).toNat)
  case atStart => exact ⟨0, by omega, rfl, HR0.out, Below.refl _ _⟩
  case round =>
    obtain ⟨i, hi, rfl, hR, hb⟩ := hrel
    by_cases hlt : (i : Int) < (n : Int)
    · obtain ⟨b, o', a, eA, hbl, ha, g0, g1, g2, g3, g4⟩ := (HH.out.to hb).at (i := i) (by omega)
      subst eA
      have HS := Lib.hid (hR.trans (fixed_step ha))
      obtain ⟨q, eq⟩ : ∃ q, q = a.wr := ⟨_, rfl⟩
      rw [← eq] at g3 HS
      have z0 : (0 : Int) ≤ (i : Int) := by omega
      clear hR ha eq
      cases q
      case true =>
        go_wp2_with fail
        go_ret
        refine ⟨ret_bool ?_, hb.new _⟩
        rw [HS.out]; rfl
      case false =>
        go_wp2_with fail
        go_roundw
        case rel =>
          refine ⟨i + 1, by omega, by go_num, ?_, hb.new _⟩
          rw [HS.out]; rfl
        case measure => simp [intOf]; omega
    · have HE := Lib.hid (hR.trans (fixed_end (by rw [HL.out]; omega)))
      clear hR
      go_wp2_with fail
      go_ret
      refine ⟨ret_bool ?_, hb⟩
      rw [HE.out]
end Go.Proofs.Ytiibopdnlmnkmaa.MoW
