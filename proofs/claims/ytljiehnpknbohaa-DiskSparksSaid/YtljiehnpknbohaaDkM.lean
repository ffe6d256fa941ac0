/- The walks of the law's model and light (layer 9). -/
import Derived.Test.YtljiehnpknbohaaDkA
import Derived.Test.YtljiehnpknbohaaDkOps
set_option linter.unusedVariables false
set_option linter.unusedSimpArgs false
namespace Go.Proofs.Ytljiehnpknbohaa.DkW
open Go.RowKit Go.Proofs.Ytljiehnpknbohaa Go.Proofs.Ytljiehnpknbohaa.Dk
theorem From.mono {B B' n n' : Nat} {A A' : Option Addr} (h : From B A n A' n') (hB : B' ≤ B) : From B' A n A' n' := by
  rcases h with h | h
  · exact Or.inl h
  · exact Or.inr fun b o e => Nat.le_trans hB (h b o e)
theorem row_third' (w : World) (a b c : Obj) : (((w.alloc a).alloc b).alloc c).heap[w.heap.size + 1 + 1]? = some c := by
  rw [show w.heap.size + 1 + 1 = ((w.alloc a).alloc b).heap.size from by simp]; exact heap_alloc_new _ _
theorem rdC_one (d : D) (A : Option Addr) (n c : Nat) : (rdC d A n c).all (·.oneCell') = true := by simp [rdC, Value.oneCell']
theorem rdC_info (d : D) (A : Option Addr) (n c : Nat) : (Try.prog.info? 32).map (·.size) = some (rdC d A n c).size := info_rd
theorem from_ne {w W w1 : World} {A A' : Option Addr} {n n' : Nat} {xs ys : List Value} (F : From W.heap.size A n A' n') (h : Sl w w.heap.size A n xs) (B : Below w.heap.size w W) (hg : w.heap.size + 1 + 1 < W.heap.size) (S : Sl w1 w1.heap.size A' n' ys) : 0 < n' → ∀ b o, A' = some (⟨b, o, none⟩ : Addr) → b ≠ w.heap.size + 1 + 1 := fun hn b o e => by
  rcases F with ⟨rfl, rfl⟩ | F
  · obtain ⟨b', o', e', hb', _⟩ := h.2 hn
    rw [e] at e'
    injection e' with e'
    injection e' with e1 _ _
    omega
  · have := F b o e
    omega
theorem Sl.past2 {X Y : World} {k : Nat} {A : Option Addr} {n : Nat} {xs : List Value} (h : Sl X X.heap.size A n xs) (g : X.grownBy Y (some k)) (o : 0 < n → ∀ b o, A = some (⟨b, o, none⟩ : Addr) → b ≠ k) : Sl Y Y.heap.size A n xs := by
  by_cases hn : 0 < n
  · exact Sl.past h g (o hn)
  · exact ⟨h.1, fun h0 => absurd h0 hn⟩
theorem model_any (d : D) (q : Deed) (A : Option Addr) (n c : Nat) (X : Option Addr) (m cx : Nat) (w : World) (hd : d.Ok) (hq : q.Ok) (hs : Sl w w.heap.size A n (bs d.b)) (hc : n ≤ c) (hx : Sl w w.heap.size X m (bs q.b)) (hm : m ≤ 100000) :
    Calls Try.prog 12 #[.agg (rdC d A n c), .agg #[.int .u8 (q.what : Nat), .slice X m cx, .int .i64 q.n]] w (RetD w A n (act d q).1 (act d q).2) := by
  obtain ⟨what, xs, z⟩ := q
  have hb := hq.b
  dsimp only at hb hx
  have HS := Lib.hid hs
  have HX := Lib.hid hx
  clear hs hx hq
  have BX := ((((Below.refl _ w).new (.cells (rdC d A n c) 32)).new (.cells #[.int .u8 (what : Nat), .slice X m cx, .int .i64 z] 35)).new (.cells #[.int .i64 0, .int .i64 0, .int .i64 0, .slice none 0 0, .bool false] 32))
  have rr := row_third' w (.cells (rdC d A n c) 32) (.cells #[.int .u8 (what : Nat), .slice X m cx, .int .i64 z] 35) (.cells #[.int .i64 0, .int .i64 0, .int .i64 0, .slice none 0 0, .bool false] 32)
  obtain ⟨W, hW⟩ : ∃ W, W = ((w.alloc (.cells (rdC d A n c) 32)).alloc (.cells #[.int .u8 (what : Nat), .slice X m cx, .int .i64 z] 35)).alloc (.cells #[.int .i64 0, .int .i64 0, .int .i64 0, .slice none 0 0, .bool false] 32) := ⟨_, rfl⟩
  rw [← hW] at BX rr
  have HWE := Lib.hid hW
  clear hW
  have KA := Lib.hid (refAppend9_any d xs A n c X m cx W hd (HS.out.to BX) hc (HX.out.to BX) hb hm)
  have KS := Lib.hid (refSync9_any d A n c W hd (HS.out.to BX) hc)
  have KC := Lib.hid (refCut9_any d z A n c W hd (HS.out.to BX) hc)
  have KP := Lib.hid (refSparks9_any d z A n c W (HS.out.to BX) hc)
  have KK := Lib.hid (refCrash9_any d z A n c W hd (HS.out.to BX) hc)
  have HE := Lib.hid (show act d ⟨what, xs, z⟩ = if what % 5 = 0 then append d xs else if what % 5 = 1 then sync d else if what % 5 = 2 then cut d z else if what % 5 = 3 then (sparks d z, 0) else (crash d z, 0) from rfl)
  rw [HE.out]
  have hlt : what % 5 < 5 := Nat.mod_lt _ (by omega)
  obtain ⟨j, ej⟩ : ∃ j, j = what % 5 := ⟨_, rfl⟩
  have hw5 : (what : Int) % 5 = (j : Int) := by omega
  rw [← ej] at hlt ⊢
  obtain ⟨C, eC⟩ : ∃ C, C = rdC d A n c := ⟨_, rfl⟩
  have EC := Lib.hid eC
  obtain ⟨room, safe, left, b, off⟩ := d
  clear ej HE eC
  rcases show j = 0 ∨ j = 1 ∨ j = 2 ∨ j = 3 ∨ j = 4 from by omega with rfl | rfl | rfl | rfl | rfl
  · simp only [Nat.reduceEqDiff, if_false, if_true, reduceCtorEq]
    obtain ⟨R, hR⟩ : ∃ R, R = append ⟨room, safe, left, b, off⟩ xs := ⟨_, rfl⟩
    rw [← hR] at KA ⊢
    clear hR
    obtain ⟨d', x'⟩ := R
    dsimp only at KA ⊢
    go_enter Try.func12, Try.ntmps12
    simp only [rdC] at HWE ⊢
    go_wp2_with fail
    rw [← HWE.out]
    refine KA.out.mono ?_
    rintro e w1 ⟨A', n', c', rfl, S', F', hc', b1⟩
    have r1 := b1.row (row_lt rr) rr
    have B1 := BX.call b1
    go_wp2_with (refine wpList_store_row rfl 32 _ _ rfl (w.heap.size + 1 + 1) (rdC d' A' n' c') rfl rfl 32 _ r1 (rdC_info _ _ _ _) rfl (rdC_one _ _ _ _) ?_)
    have bf := below_setRow B1 (show w.heap.size ≤ w.heap.size + 1 + 1 by omega) (rdC d' A' n' c')
    have gf := grown_setRow (w := w1) (g := w.heap.size + 1 + 1) (rdC d' A' n' c')
    have hne := from_ne F' HS.out BX (row_lt rr) S'
    refine bodyPost_row_tmp rfl (w.heap.size + 1 + 1) 32 (rdC d' A' n' c') (0, 0) _ _ rfl (setRow_heap _ _ _ _ _ _ r1) Try.underlying32 rfl (rdC_info d' A' n' c') rfl rfl ⟨A', n', c', rfl, ?_, F'.mono BX.size, hc', bf⟩
    exact Sl.past2 S' gf hne
  · simp only [Nat.reduceEqDiff, if_false, if_true, reduceCtorEq]
    obtain ⟨R, hR⟩ : ∃ R, R = sync ⟨room, safe, left, b, off⟩ := ⟨_, rfl⟩
    rw [← hR] at KS ⊢
    clear hR
    obtain ⟨d', x'⟩ := R
    dsimp only at KS ⊢
    go_enter Try.func12, Try.ntmps12
    simp only [rdC] at HWE ⊢
    go_wp2_with fail
    rw [← HWE.out]
    refine KS.out.mono ?_
    rintro e w1 ⟨A', n', c', rfl, S', F', hc', b1⟩
    have r1 := b1.row (row_lt rr) rr
    have B1 := BX.call b1
    go_wp2_with (refine wpList_store_row rfl 32 _ _ rfl (w.heap.size + 1 + 1) (rdC d' A' n' c') rfl rfl 32 _ r1 (rdC_info _ _ _ _) rfl (rdC_one _ _ _ _) ?_)
    have bf := below_setRow B1 (show w.heap.size ≤ w.heap.size + 1 + 1 by omega) (rdC d' A' n' c')
    have gf := grown_setRow (w := w1) (g := w.heap.size + 1 + 1) (rdC d' A' n' c')
    have hne := from_ne F' HS.out BX (row_lt rr) S'
    refine bodyPost_row_tmp rfl (w.heap.size + 1 + 1) 32 (rdC d' A' n' c') (0, 0) _ _ rfl (setRow_heap _ _ _ _ _ _ r1) Try.underlying32 rfl (rdC_info d' A' n' c') rfl rfl ⟨A', n', c', rfl, ?_, F'.mono BX.size, hc', bf⟩
    exact Sl.past2 S' gf hne
  · simp only [Nat.reduceEqDiff, if_false, if_true, reduceCtorEq]
    obtain ⟨R, hR⟩ : ∃ R, R = cut ⟨room, safe, left, b, off⟩ z := ⟨_, rfl⟩
    rw [← hR] at KC ⊢
    clear hR
    obtain ⟨d', x'⟩ := R
    dsimp only at KC ⊢
    go_enter Try.func12, Try.ntmps12
    simp only [rdC] at HWE ⊢
    go_wp2_with fail
    rw [← HWE.out]
    refine KC.out.mono ?_
    rintro e w1 ⟨A', n', c', rfl, S', F', hc', b1⟩
    have r1 := b1.row (row_lt rr) rr
    have B1 := BX.call b1
    go_wp2_with (refine wpList_store_row rfl 32 _ _ rfl (w.heap.size + 1 + 1) (rdC d' A' n' c') rfl rfl 32 _ r1 (rdC_info _ _ _ _) rfl (rdC_one _ _ _ _) ?_)
    have bf := below_setRow B1 (show w.heap.size ≤ w.heap.size + 1 + 1 by omega) (rdC d' A' n' c')
    have gf := grown_setRow (w := w1) (g := w.heap.size + 1 + 1) (rdC d' A' n' c')
    have hne := from_ne F' HS.out BX (row_lt rr) S'
    refine bodyPost_row_tmp rfl (w.heap.size + 1 + 1) 32 (rdC d' A' n' c') (0, 0) _ _ rfl (setRow_heap _ _ _ _ _ _ r1) Try.underlying32 rfl (rdC_info d' A' n' c') rfl rfl ⟨A', n', c', rfl, ?_, F'.mono BX.size, hc', bf⟩
    exact Sl.past2 S' gf hne
  · simp only [Nat.reduceEqDiff, if_false, if_true, reduceCtorEq]
    obtain ⟨R, hR⟩ : ∃ R, R = sparks ⟨room, safe, left, b, off⟩ z := ⟨_, rfl⟩
    rw [← hR] at KP ⊢
    clear hR
    obtain ⟨d', hd'⟩ : ∃ d', d' = R := ⟨R, rfl⟩
    rw [← hd'] at KP ⊢
    clear hd' R
    go_enter Try.func12, Try.ntmps12
    simp only [rdC] at HWE ⊢
    go_wp2_with fail
    rw [← HWE.out]
    refine KP.out.mono ?_
    rintro e w1 ⟨A', n', c', rfl, S', F', hc', b1⟩
    have r1 := b1.row (row_lt rr) rr
    have B1 := BX.call b1
    go_wp2_with (refine wpList_store_row rfl 32 _ _ rfl (w.heap.size + 1 + 1) (rdC d' A' n' c') rfl rfl 32 _ r1 (rdC_info _ _ _ _) rfl (rdC_one _ _ _ _) ?_)
    have bf := below_setRow B1 (show w.heap.size ≤ w.heap.size + 1 + 1 by omega) (rdC d' A' n' c')
    have gf := grown_setRow (w := w1) (g := w.heap.size + 1 + 1) (rdC d' A' n' c')
    have hne := from_ne F' HS.out BX (row_lt rr) S'
    refine bodyPost_row_tmp rfl (w.heap.size + 1 + 1) 32 (rdC d' A' n' c') (0, 0) _ _ rfl (setRow_heap _ _ _ _ _ _ r1) Try.underlying32 rfl (rdC_info d' A' n' c') rfl rfl ⟨A', n', c', rfl, ?_, F'.mono BX.size, hc', bf⟩
    exact Sl.past2 S' gf hne
  · simp only [Nat.reduceEqDiff, if_false, if_true, reduceCtorEq]
    obtain ⟨R, hR⟩ : ∃ R, R = crash ⟨room, safe, left, b, off⟩ z := ⟨_, rfl⟩
    rw [← hR] at KK ⊢
    clear hR
    obtain ⟨d', hd'⟩ : ∃ d', d' = R := ⟨R, rfl⟩
    rw [← hd'] at KK ⊢
    clear hd' R
    go_enter Try.func12, Try.ntmps12
    simp only [rdC] at HWE ⊢
    go_wp2_with fail
    rw [← HWE.out]
    refine KK.out.mono ?_
    rintro e w1 ⟨A', n', c', rfl, S', F', hc', b1⟩
    have r1 := b1.row (row_lt rr) rr
    have B1 := BX.call b1
    go_wp2_with (refine wpList_store_row rfl 32 _ _ rfl (w.heap.size + 1 + 1) (rdC d' A' n' c') rfl rfl 32 _ r1 (rdC_info _ _ _ _) rfl (rdC_one _ _ _ _) ?_)
    have bf := below_setRow B1 (show w.heap.size ≤ w.heap.size + 1 + 1 by omega) (rdC d' A' n' c')
    have gf := grown_setRow (w := w1) (g := w.heap.size + 1 + 1) (rdC d' A' n' c')
    have hne := from_ne F' HS.out BX (row_lt rr) S'
    refine bodyPost_row_tmp rfl (w.heap.size + 1 + 1) 32 (rdC d' A' n' c') (0, 0) _ _ rfl (setRow_heap _ _ _ _ _ _ r1) Try.underlying32 rfl (rdC_info d' A' n' c') rfl rfl ⟨A', n', c', rfl, ?_, F'.mono BX.size, hc', bf⟩
    exact Sl.past2 S' gf hne
end Go.Proofs.Ytljiehnpknbohaa.DkW
