/- The walks of the kinds' read, but words'. -/
import Derived.Test.YtiibopdnlmnkmaaRepA
import Derived.Test.YtiibopdnlmnkmaaRepD
import Derived.Test.YtiibopdnlmnkmaaAG2
import Derived.Deep.RegionHeld3
import Derived.Deep.RegionLaw
import Derived.Deep.DeepCutAuto
set_option linter.unusedVariables false
set_option linter.unusedSimpArgs false
namespace Go.Proofs.Ytiibopdnlmnkmaa.AskW
open Go.RowKit Go.Proofs.Ytiibopdnlmnkmaa Go.Proofs.Ytiibopdnlmnkmaa.Ask
/-- A reply is handed back, in memory of its own. -/
def RetRep (w : World) (r : Rep) (e : Ending) (w' : World) : Prop := ∃ Ab nb cb Aw nw cw, e = .returned (.agg #[.int .u8 (r.f : Nat), .int .u8 (r.x : Nat), .slice Ab nb cb, .slice Aw nw cw, .int .u16 (r.at' : Nat), .int .u16 (r.many : Nat)]) ∧
  Sl w' w'.heap.size Ab nb (bl r.bits) ∧ Sl w' w'.heap.size Aw nw (ws r.words) ∧ nb ≤ cb ∧ nw ≤ cw ∧ (∀ b o, Ab = some (⟨b, o, none⟩ : Addr) → w.heap.size ≤ b) ∧ (∀ b o, Aw = some (⟨b, o, none⟩ : Addr) → w.heap.size ≤ b) ∧ Below w.heap.size w w'
/-- The world while a reply is laid at block k. -/
structure Rt (w W : World) (k : Nat) (cs : Array Value) : Prop where
  bel : Below w.heap.size w W
  ra : W.heap[k]? = some (.cells cs 36 (0, 0))
  hk : w.heap.size ≤ k
section
variable {w W W' : World} {k : Nat} {cs CS : Array Value}
theorem Rt.eq (S : Rt w W k cs) (h : cs = CS) : W.heap[k]? = some (.cells CS 36 (0, 0)) := h ▸ S.ra
theorem Rt.call (S : Rt w W k cs) (b : Below W.heap.size W W') : Rt w W' k cs := ⟨S.bel.call b, b.row (row_lt S.ra) S.ra, S.hk⟩
theorem Rt.new (S : Rt w W k cs) (o : Obj) : Rt w (W.alloc o) k cs := ⟨S.bel.new o, row_alloc S.ra o, S.hk⟩
theorem Rt.drewN (S : Rt w W k cs) (d : Nat) : Rt w (W.drewN d) k cs := ⟨S.bel.drewN d, S.ra, S.hk⟩
theorem Rt.drew (S : Rt w W k cs) : Rt w W.drew k cs := ⟨S.bel.drew, S.ra, S.hk⟩
theorem Rt.set (S : Rt w W k cs) (i : Nat) (v : Value) : Rt w (W.setCell ⟨k, i, none⟩ v) k (cs.setIfInBounds i v) :=
  ⟨S.bel.setCell S.hk v, heap_setCell_same W _ i _ _ _ S.ra, S.hk⟩
theorem Rt.grown (S : Rt w W k cs) {v : Value} (g : W.grownBy W' v.ownBlock) (h : ∀ b, v.ownBlock = some b → w.heap.size ≤ b ∧ b ≠ k) : Rt w W' k cs :=
  ⟨S.bel.grown g S.bel.size (fun k hk => (h k hk).1), (g.block _ (row_lt S.ra) (fun e => (h _ e.symm).2 rfl)).trans S.ra, S.hk⟩
theorem Sl.setOther {A : Option Addr} {n i : Nat} {xs : List Value} {v : Value} (h : Sl W W.heap.size A n xs) (hne : ∀ b o, A = some (⟨b, o, none⟩ : Addr) → b ≠ k) : Sl (W.setCell ⟨k, i, none⟩ v) (W.setCell ⟨k, i, none⟩ v).heap.size A n xs :=
  h.grown (grown_setCell W k i v) (fun b o e h => hne b o e (by injection h with h; exact h.symm))
end
set_option maxRecDepth 100000 in
set_option maxHeartbeats 8000000 in
theorem kread_exc (A : Option Addr) (n c : Nat) (xs : List Nat) (w : World) (hs : Sl w w.heap.size A n (bs xs)) (hx : Bytes xs) (hn : 1 ≤ n) (hn2 : n ≤ 300) (hc : n ≤ c) :
    Calls Try.prog 88 #[.agg #[], .slice A n c] w (RetRep w (Kd.read .exc xs)) := by
  have q1 : xs.length = n := by simpa using hs.len
  obtain ⟨P, hP⟩ : ∃ P, P = Kd.read .exc xs := ⟨_, rfl⟩
  rw [← hP]
  obtain ⟨f, ef⟩ : ∃ f, f = xs[0]?.getD 0 := ⟨_, rfl⟩
  have HP : Hid (P = ⟨(f + 128) % 256, xs[1]?.getD 0, [], [], 0, 0⟩) := by rw [hP, ef]; exact Lib.hid rfl
  have h8 : IntKind.u8.wrap ((f : Int) - 128) = (((f + 128) % 256 : Nat) : Int) := by rw [IntKind.wrap_u8]; omega
  obtain ⟨q, eq⟩ : ∃ q, q = (f + 128) % 256 := ⟨_, rfl⟩
  rw [← eq] at h8 HP
  clear eq
  obtain ⟨b, o, rfl, hbl, d1⟩ := hs.2 (by omega)
  have g1 : w.cell? ⟨b, o, none⟩ = some (.int .u8 (f : Nat)) := (d1 0 (by omega)).trans (by rw [bs_get (by omega), ← ef])
  have HS := Lib.hid hs
  have HX := Lib.hid hx
  have z1 : (0 : Int) < (n : Int) := by omega
  have z1n : 0 < n := by omega
  have z1c : (0 : Int) ≤ (n : Int) := by omega
  obtain ⟨y, ey⟩ : ∃ y, y = xs[1]?.getD 0 := ⟨_, rfl⟩
  rw [← ey] at HP
  have rz := row_alloc (heap_alloc2_new w (.cells #[] 110) (.cells #[.int .u8 0, .int .u8 0, .slice none 0 0, .slice none 0 0, .int .u16 0, .int .u16 0] 36)) (.cells #[.int .u8 (q : Nat), .int .u8 0, .slice none 0 0, .slice none 0 0, .int .u16 0, .int .u16 0] 36)
  have rq : (((w.alloc (.cells #[] 110)).alloc (.cells #[.int .u8 0, .int .u8 0, .slice none 0 0, .slice none 0 0, .int .u16 0, .int .u16 0] 36)).alloc (.cells #[.int .u8 (q : Nat), .int .u8 0, .slice none 0 0, .slice none 0 0, .int .u16 0, .int .u16 0] 36)).heap[w.heap.size + 2]? = some (.cells #[.int .u8 (q : Nat), .int .u8 0, .slice none 0 0, .slice none 0 0, .int .u16 0, .int .u16 0] 36 (0, 0)) := by simpa using heap_alloc_new ((w.alloc (.cells #[] 110)).alloc (.cells #[.int .u8 0, .int .u8 0, .slice none 0 0, .slice none 0 0, .int .u16 0, .int .u16 0] 36)) (.cells #[.int .u8 (q : Nat), .int .u8 0, .slice none 0 0, .slice none 0 0, .int .u16 0, .int .u16 0] 36)
  have hbw : Below w.heap.size w (((w.alloc (.cells #[] 110)).alloc (.cells #[.int .u8 0, .int .u8 0, .slice none 0 0, .slice none 0 0, .int .u16 0, .int .u16 0] 36)).alloc (.cells #[.int .u8 (q : Nat), .int .u8 0, .slice none 0 0, .slice none 0 0, .int .u16 0, .int .u16 0] 36)) := (((Below.refl _ _).new _).new _).new _
  by_cases h1 : (n : Int) ≤ 1
  · obtain rfl : y = 0 := by rw [ey, List.getElem?_eq_none (by omega)]; rfl
    clear hP hs hx d1 ef ey q1
    go_enter Try.func88, Try.ntmps88
    go_wp2_with (first
      | (refine wpList_load_row rfl 36 (.tmp 5) rfl (w.heap.size + 2) rfl 36 #[.int .u8 (q : Nat), .int .u8 0, .slice none 0 0, .slice none 0 0, .int .u16 0, .int .u16 0] (0, 0) _ rq Try.underlying36 rfl (by kernel_rfl) ?_)
      | (refine wpList_store_grown rfl 36 (.tmp 4) _ rfl (w.heap.size + 1) #[.int .u8 (q : Nat), .int .u8 0, .slice none 0 0, .slice none 0 0, .int .u16 0, .int .u16 0] rfl rfl 36 _ rz (by kernel_rfl) rfl (by simp [Value.oneCell']) ?_; intro w9 h9 g9 s9))
    refine bodyPost_row rfl (w.heap.size + 1) 36 #[.int .u8 (q : Nat), .int .u8 0, .slice none 0 0, .slice none 0 0, .int .u16 0, .int .u16 0] (0, 0) _ rfl h9 Try.underlying36 rfl (by kernel_rfl) rfl ?_
    rw [HP.out]
    exact ⟨none, 0, 0, none, 0, 0, rfl, Sl.empty _ _ _, Sl.empty _ _ _, Nat.le_refl _, Nat.le_refl _, (fun _ _ h => by cases h), (fun _ _ h => by cases h), hbw.grown g9 hbw.size (fun k hk => by injection hk with hk; omega)⟩
  · have g3 : w.cell? ⟨b, o + 1, none⟩ = some (.int .u8 (y : Nat)) := (d1 1 (by omega)).trans (by rw [bs_get (by omega), ey])
    have z2 : (1 : Int) < (n : Int) := by omega
    obtain ⟨W3, hW3⟩ : ∃ W3, W3 = (((w.alloc (.cells #[] 110)).alloc (.cells #[.int .u8 0, .int .u8 0, .slice none 0 0, .slice none 0 0, .int .u16 0, .int .u16 0] 36)).alloc (.cells #[.int .u8 (q : Nat), .int .u8 0, .slice none 0 0, .slice none 0 0, .int .u16 0, .int .u16 0] 36)) := ⟨_, rfl⟩
    rw [← hW3] at rz rq hbw
    have g4 := (hbw.cell (p := ⟨b, o + 1, none⟩) hbl).trans g3
    have fz := frozen_of_row W3 _ 1 _ _ rq
    have cz : W3.cell? ⟨w.heap.size + 2, 1, none⟩ = some (.int .u8 0) := cell_of_row W3 _ 1 _ _ _ rq
    have rq' := heap_setCell_same W3 (w.heap.size + 2) 1 _ _ (Value.int .u8 (y : Nat)) rq
    have rz' := (grown_setCell W3 (w.heap.size + 2) 1 (.int .u8 (y : Nat))).row (by omega) rz
    have hbw' : Below w.heap.size w (W3.setCell ⟨w.heap.size + 2, 1, none⟩ (.int .u8 (y : Nat))) := hbw.setCell (by show w.heap.size ≤ w.heap.size + 2; omega) _
    have e3 : Array.setIfInBounds (α := Value) #[.int .u8 (q : Nat), .int .u8 0, .slice none 0 0, .slice none 0 0, .int .u16 0, .int .u16 0] 1 (.int .u8 (y : Nat)) = #[.int .u8 (q : Nat), .int .u8 (y : Nat), .slice none 0 0, .slice none 0 0, .int .u16 0, .int .u16 0] := rfl
    rw [e3] at rq'
    clear hP hs hx d1 ef ey q1 e3
    go_enter Try.func88, Try.ntmps88
    go_upto_region 2 with fail
    rw [← hW3]
    clear hW3
    go_wp2_with (first
      | (refine wpList_load_row rfl 36 (.tmp 5) rfl (w.heap.size + 2) rfl 36 #[.int .u8 (q : Nat), .int .u8 (y : Nat), .slice none 0 0, .slice none 0 0, .int .u16 0, .int .u16 0] (0, 0) _ rq' Try.underlying36 rfl (by kernel_rfl) ?_)
      | (refine wpList_store_grown rfl 36 (.tmp 4) _ rfl (w.heap.size + 1) #[.int .u8 (q : Nat), .int .u8 (y : Nat), .slice none 0 0, .slice none 0 0, .int .u16 0, .int .u16 0] rfl rfl 36 _ rz' (by kernel_rfl) rfl (by simp [Value.oneCell']) ?_; intro w9 h9 g9 s9))
    refine bodyPost_row rfl (w.heap.size + 1) 36 #[.int .u8 (q : Nat), .int .u8 (y : Nat), .slice none 0 0, .slice none 0 0, .int .u16 0, .int .u16 0] (0, 0) _ rfl h9 Try.underlying36 rfl (by kernel_rfl) rfl ?_
    rw [HP.out]
    exact ⟨none, 0, 0, none, 0, 0, rfl, Sl.empty _ _ _, Sl.empty _ _ _, Nat.le_refl _, Nat.le_refl _, (fun _ _ h => by cases h), (fun _ _ h => by cases h), hbw'.grown g9 hbw'.size (fun k hk => by injection hk with hk; omega)⟩
set_option maxRecDepth 100000 in
set_option maxHeartbeats 8000000 in
theorem kread_bitsR (A : Option Addr) (n c : Nat) (xs : List Nat) (w : World) (hs : Sl w w.heap.size A n (bs xs)) (hx : Bytes xs) (hn : 1 ≤ n) (hn2 : n ≤ 300) (hc : n ≤ c) :
    Calls Try.prog 91 #[.agg #[], .slice A n c] w (RetRep w (Kd.read .bitsR xs)) := by
  have q1 : xs.length = n := by simpa using hs.len
  obtain ⟨P, hP⟩ : ∃ P, P = Kd.read .bitsR xs := ⟨_, rfl⟩
  rw [← hP]
  obtain ⟨f, ef⟩ : ∃ f, f = xs[0]?.getD 0 := ⟨_, rfl⟩
  have HP : Hid (P = ⟨f, 0, unpack (xs.drop 2), [], 0, 0⟩) := by rw [hP, ef]; exact Lib.hid rfl
  have KL := Lib.hid (fun X (bb : Below w.heap.size w X) => listed_any A n c xs X (hs.to bb) (by omega) hc)
  have KU := Lib.hid (fun X A' c' (h : Sl X X.heap.size A' (n - 2) (bs (xs.drop 2))) => unpack_any A' (n - 2) c' (xs.drop 2) X h (hx.drop 2) (by omega))
  obtain ⟨b, o, rfl, hbl, d1⟩ := hs.2 (by omega)
  have g1 : w.cell? ⟨b, o, none⟩ = some (.int .u8 (f : Nat)) := (d1 0 (by omega)).trans (by rw [bs_get (by omega), ← ef])
  have HS := Lib.hid hs
  have HX := Lib.hid hx
  have z1 : (0 : Int) < (n : Int) := by omega
  have z1n : 0 < n := by omega
  have z1c : (0 : Int) ≤ (n : Int) := by omega
  clear hP hs hx d1 ef q1
  go_enter Try.func91, Try.ntmps91
  go_wp2_with fail
  obtain ⟨W1, hW1⟩ : ∃ W1, W1 = ((w.alloc (.cells #[] 111)).alloc (.cells #[.int .u8 0, .int .u8 0, .slice none 0 0, .slice none 0 0, .int .u16 0, .int .u16 0] 36)) := ⟨_, rfl⟩
  have hb : Below w.heap.size w W1 := by rw [hW1]; exact ((Below.refl _ _).new _).new _
  have R0 : Rt w W1 (w.heap.size + 1) #[.int .u8 0, .int .u8 0, .slice none 0 0, .slice none 0 0, .int .u16 0, .int .u16 0] := ⟨hb, hW1 ▸ heap_alloc2_new w _ _, Nat.le_succ _⟩
  rw [← hW1]
  clear hW1
  obtain ⟨k, ek⟩ : ∃ k, k = w.heap.size + 1 := ⟨_, rfl⟩
  rw [← ek] at R0 ⊢
  clear ek
  have hk0 := R0.hk
  have slt := row_lt R0.ra
  have sne : ¬ W1.heap.size = k := by omega
  have sne2 : ¬ k = W1.heap.size := by omega
  have hblk : ¬ b = k := by omega
  have hblk2 : ¬ k = b := by omega
  have g2 := (hb.cell (p := ⟨b, o, none⟩) hbl).trans g1
  obtain ⟨c0, c1, c2, c3, c4, c5⟩ := row6 R0.ra
  obtain ⟨f0, f1, f2, f3, f4, f5⟩ := free6 R0.ra
  have hbd := hb.drew
  go_region_held3 (fun w' => Below w.heap.size w w' ∧ w'.cell? ⟨b, o, none⟩ = some (.int .u8 (f : Nat)))
    (exact keepB hbl g1 (by repeat (first | with_reducible assumption | with_reducible apply Below.new | with_reducible apply Below.drewN | with_reducible apply Below.drew | with_reducible refine Below.setCell ?_ hk0 _)))
    (first
      | (go_at_call 94; refine (KL.out _ hbd).mono ?_; rintro e w1 ⟨⟨A', c', rfl, SL, hcl, -⟩, rfl⟩)
      | (go_at_call 71; refine (KU.out _ _ _ SL).mono ?_; rintro e w2 ⟨vu, rfl, HU⟩; obtain ⟨Au, cu, rfl, hcu, SU, oU⟩ := HU.slice; have R2 := R0.drew.call HU.bel; have hbd := R2.bel; obtain ⟨c0, c1, c2, c3, c4, c5⟩ := row6 R2.ra; obtain ⟨f0, f1, f2, f3, f4, f5⟩ := free6 R2.ra; have bU := HU.bel.size; clear HU R0)
      | fail)
  go_wp2_with fail
  refine bodyPost_row rfl k 36 #[.int .u8 (f : Nat), .int .u8 0, .slice Au (8 * (n - 2)) cu, .slice none 0 0, .int .u16 0, .int .u16 0] (0, 0) _ rfl ?hg Try.underlying36 rfl (by kernel_rfl) rfl ?hR
  case hg =>
    apply Rt.eq (w := w)
    · repeat (first | with_reducible assumption | with_reducible apply Rt.new | with_reducible apply Rt.drewN | with_reducible apply Rt.drew | with_reducible apply Rt.set)
    · rfl
  case hR =>
    rw [HP.out]
    have oB : ∀ b o, Au = some (⟨b, o, none⟩ : Addr) → W1.heap.size ≤ b := fun b o h => oU b (by rw [h]; rfl)
    exact ⟨Au, _, cu, none, 0, 0, rfl, by repeat (first | with_reducible exact SU | refine Sl.setOther ?_ (fun b o h => by have := oB b o h; omega)), Sl.empty _ _ _, hcu, Nat.le_refl _, (fun b o h => by have := oB b o h; have := hb.size; omega), (fun _ _ h => by cases h), by repeat (first | with_reducible assumption | with_reducible apply Below.new | with_reducible apply Below.drewN | with_reducible apply Below.drew | with_reducible refine Below.setCell ?_ hk0 _)⟩
theorem sl_row {W : World} {g : Nat} {v : Value} {t : TypeId} (h : W.heap[g]? = some (.cells #[v] t (0, 0))) : Sl W W.heap.size (some ⟨g, 0, none⟩) 1 [v] :=
  ⟨rfl, fun _ => ⟨g, 0, rfl, row_lt h, fun j hj => by (have e : j = 0 := (by omega)); subst e; exact cell_of_row W g 0 _ _ _ h⟩⟩
theorem row_set {W : World} {g k i : Nat} {v : Value} {o : Obj} (hne : g ≠ k) (h : W.heap[g]? = some o) : (W.setCell ⟨k, i, none⟩ v).heap[g]? = some o := (grown_setCell W k i v).row hne h
theorem row_last {W : World} {o : Obj} {g : Nat} (h : W.heap.size = g) : (W.alloc o).heap[g]? = some o := by rw [← h]; exact heap_alloc_new W o
set_option maxRecDepth 100000 in
set_option maxHeartbeats 8000000 in
theorem kread_bitW (A : Option Addr) (n c : Nat) (xs : List Nat) (w : World) (hs : Sl w w.heap.size A n (bs xs)) (hx : Bytes xs) (hn : 1 ≤ n) (hn2 : n ≤ 300) (hc : n ≤ c) :
    Calls Try.prog 101 #[.agg #[], .slice A n c] w (RetRep w (Kd.read .bitW xs)) := by
  have q1 : xs.length = n := by simpa using hs.len
  obtain ⟨P, hP⟩ : ∃ P, P = Kd.read .bitW xs := ⟨_, rfl⟩
  rw [← hP]
  obtain ⟨f, ef⟩ : ∃ f, f = xs[0]?.getD 0 := ⟨_, rfl⟩
  have HP : Hid (P = ⟨f, 0, [atF xs 3 == 65280], [], atF xs 1, 0⟩) := by rw [hP, ef]; exact Lib.hid rfl
  obtain ⟨a, ea⟩ : ∃ x, x = atF xs 1 := ⟨_, rfl⟩
  have Ka := Lib.hid (fun X (bb : Below w.heap.size w X) => (show Calls Try.prog 99 #[.slice A n c, .int .i64 1] X (fun e W => e = .returned (.int .u16 (atF xs 1 : Nat)) ∧ ∃ d, W = X.drewN d) from rnum_any A n c xs 1 X (hs.to bb) hx (by omega) (by omega)))
  have ha : a < 65536 := by rw [ea]; exact atF_lt hx 1
  rw [← ea] at Ka
  obtain ⟨m, em⟩ : ∃ x, x = atF xs 3 := ⟨_, rfl⟩
  have Km := Lib.hid (fun X (bb : Below w.heap.size w X) => (show Calls Try.prog 99 #[.slice A n c, .int .i64 3] X (fun e W => e = .returned (.int .u16 (atF xs 3 : Nat)) ∧ ∃ d, W = X.drewN d) from rnum_any A n c xs 3 X (hs.to bb) hx (by omega) (by omega)))
  have hm : m < 65536 := by rw [em]; exact atF_lt hx 3
  rw [← em] at Km
  rw [← ea, ← em] at HP
  have hmb : ((m : Int) == 65280) = (m == 65280) := by rw [Bool.eq_iff_iff]; simp; omega
  obtain ⟨z, ez⟩ : ∃ z, z = (m == 65280) := ⟨_, rfl⟩
  rw [← ez] at hmb HP
  clear ez
  obtain ⟨b, o, rfl, hbl, d1⟩ := hs.2 (by omega)
  have g1 : w.cell? ⟨b, o, none⟩ = some (.int .u8 (f : Nat)) := (d1 0 (by omega)).trans (by rw [bs_get (by omega), ← ef])
  have HS := Lib.hid hs
  have HX := Lib.hid hx
  have z1 : (0 : Int) < (n : Int) := by omega
  have z1n : 0 < n := by omega
  have z1c : (0 : Int) ≤ (n : Int) := by omega
  clear hP hs hx d1 ef q1 ea em
  go_enter Try.func101, Try.ntmps101
  go_wp2_with fail
  obtain ⟨W1, hW1⟩ : ∃ W1, W1 = ((w.alloc (.cells #[] 113)).alloc (.cells #[.int .u8 0, .int .u8 0, .slice none 0 0, .slice none 0 0, .int .u16 0, .int .u16 0] 36)) := ⟨_, rfl⟩
  have hb : Below w.heap.size w W1 := by rw [hW1]; exact ((Below.refl _ _).new _).new _
  have R0 : Rt w W1 (w.heap.size + 1) #[.int .u8 0, .int .u8 0, .slice none 0 0, .slice none 0 0, .int .u16 0, .int .u16 0] := ⟨hb, hW1 ▸ heap_alloc2_new w _ _, Nat.le_succ _⟩
  rw [← hW1]
  clear hW1
  obtain ⟨k, ek⟩ : ∃ k, k = w.heap.size + 1 := ⟨_, rfl⟩
  rw [← ek] at R0 ⊢
  clear ek
  have hk0 := R0.hk
  have slt := row_lt R0.ra
  have sne : ¬ W1.heap.size = k := by omega
  have sne2 : ¬ k = W1.heap.size := by omega
  have hblk : ¬ b = k := by omega
  have hblk2 : ¬ k = b := by omega
  have g2 := (hb.cell (p := ⟨b, o, none⟩) hbl).trans g1
  obtain ⟨c0, c1, c2, c3, c4, c5⟩ := row6 R0.ra
  obtain ⟨f0, f1, f2, f3, f4, f5⟩ := free6 R0.ra
  have hbd := hb
  have cq : ∀ (d : Nat) (o : Obj) (i : Nat), ((W1.drewN d).alloc o).cell? ⟨k, i, none⟩ = W1.cell? ⟨k, i, none⟩ := fun d o i => World.cell?_of_block (w := W1) (a := ⟨k, i, none⟩) (Below.heap_alloc (W1.drewN d) o k slt)
  have fq : ∀ (d : Nat) (o : Obj) (i : Nat), ((W1.drewN d).alloc o).frozen? ⟨k, i, none⟩ = W1.frozen? ⟨k, i, none⟩ := fun d o i => World.frozen?_of_block (w := W1) (a := ⟨k, i, none⟩) (Below.heap_alloc (W1.drewN d) o k slt)
  go_region_held3 (fun w' => Below w.heap.size w w' ∧ w'.cell? ⟨b, o, none⟩ = some (.int .u8 (f : Nat)))
    (exact keepB hbl g1 (by repeat (first | with_reducible assumption | with_reducible apply Below.new | with_reducible apply Below.drewN | with_reducible apply Below.drew | with_reducible refine Below.setCell ?_ hk0 _)))
    (first
      | (go_at_call 99; (with_reducible refine (Ka.out _ (by repeat (first | with_reducible assumption | with_reducible apply Below.new | with_reducible apply Below.drewN | with_reducible apply Below.drew | with_reducible refine Below.setCell ?_ hk0 _))).mono ?_); rintro e w1 ⟨rfl, d, rfl⟩)
      | (go_at_call 99; (with_reducible refine (Km.out _ (by repeat (first | with_reducible assumption | with_reducible apply Below.new | with_reducible apply Below.drewN | with_reducible apply Below.drew | with_reducible refine Below.setCell ?_ hk0 _))).mono ?_); rintro e w1 ⟨rfl, d, rfl⟩)
      | fail)
  all_goals (
    go_wp2_with fail
    refine bodyPost_row rfl k 36 #[.int .u8 (f : Nat), .int .u8 0, .slice (some ⟨W1.heap.size, 0, none⟩) 1 1, .slice none 0 0, .int .u16 (a : Nat), .int .u16 0] (0, 0) _ rfl ?hg Try.underlying36 rfl (by kernel_rfl) rfl ?hR
    case hg =>
      apply Rt.eq (w := w)
      · repeat (first | with_reducible assumption | with_reducible apply Rt.new | with_reducible apply Rt.drewN | with_reducible apply Rt.drew | with_reducible apply Rt.set)
      · rfl
    case hR =>
      rw [HP.out]
      exact ⟨_, _, _, _, _, _, rfl, sl_row (by repeat (first | (refine row_set (by omega) ?_) | (refine row_last (by simp [World.setCell])))), Sl.empty _ _ _, by omega, by omega, (fun b o h => by first | (cases h; done) | (injection h with h; injection h with h _; omega)), (fun b o h => by first | (cases h; done) | (injection h with h; injection h with h _; omega)), by repeat (first | with_reducible assumption | with_reducible apply Below.new | with_reducible apply Below.drewN | with_reducible apply Below.drew | with_reducible refine Below.setCell ?_ hk0 _)⟩)
set_option maxRecDepth 100000 in
set_option maxHeartbeats 8000000 in
theorem kread_wordW (A : Option Addr) (n c : Nat) (xs : List Nat) (w : World) (hs : Sl w w.heap.size A n (bs xs)) (hx : Bytes xs) (hn : 1 ≤ n) (hn2 : n ≤ 300) (hc : n ≤ c) :
    Calls Try.prog 104 #[.agg #[], .slice A n c] w (RetRep w (Kd.read .wordW xs)) := by
  have q1 : xs.length = n := by simpa using hs.len
  obtain ⟨P, hP⟩ : ∃ P, P = Kd.read .wordW xs := ⟨_, rfl⟩
  rw [← hP]
  obtain ⟨f, ef⟩ : ∃ f, f = xs[0]?.getD 0 := ⟨_, rfl⟩
  have HP : Hid (P = ⟨f, 0, [], [atF xs 3], atF xs 1, 0⟩) := by rw [hP, ef]; exact Lib.hid rfl
  obtain ⟨a, ea⟩ : ∃ x, x = atF xs 1 := ⟨_, rfl⟩
  have Ka := Lib.hid (fun X (bb : Below w.heap.size w X) => (show Calls Try.prog 99 #[.slice A n c, .int .i64 1] X (fun e W => e = .returned (.int .u16 (atF xs 1 : Nat)) ∧ ∃ d, W = X.drewN d) from rnum_any A n c xs 1 X (hs.to bb) hx (by omega) (by omega)))
  have ha : a < 65536 := by rw [ea]; exact atF_lt hx 1
  rw [← ea] at Ka
  obtain ⟨m, em⟩ : ∃ x, x = atF xs 3 := ⟨_, rfl⟩
  have Km := Lib.hid (fun X (bb : Below w.heap.size w X) => (show Calls Try.prog 99 #[.slice A n c, .int .i64 3] X (fun e W => e = .returned (.int .u16 (atF xs 3 : Nat)) ∧ ∃ d, W = X.drewN d) from rnum_any A n c xs 3 X (hs.to bb) hx (by omega) (by omega)))
  have hm : m < 65536 := by rw [em]; exact atF_lt hx 3
  rw [← em] at Km
  rw [← ea, ← em] at HP
  obtain ⟨b, o, rfl, hbl, d1⟩ := hs.2 (by omega)
  have g1 : w.cell? ⟨b, o, none⟩ = some (.int .u8 (f : Nat)) := (d1 0 (by omega)).trans (by rw [bs_get (by omega), ← ef])
  have HS := Lib.hid hs
  have HX := Lib.hid hx
  have z1 : (0 : Int) < (n : Int) := by omega
  have z1n : 0 < n := by omega
  have z1c : (0 : Int) ≤ (n : Int) := by omega
  clear hP hs hx d1 ef q1 ea em
  go_enter Try.func104, Try.ntmps104
  go_wp2_with fail
  obtain ⟨W1, hW1⟩ : ∃ W1, W1 = ((w.alloc (.cells #[] 114)).alloc (.cells #[.int .u8 0, .int .u8 0, .slice none 0 0, .slice none 0 0, .int .u16 0, .int .u16 0] 36)) := ⟨_, rfl⟩
  have hb : Below w.heap.size w W1 := by rw [hW1]; exact ((Below.refl _ _).new _).new _
  have R0 : Rt w W1 (w.heap.size + 1) #[.int .u8 0, .int .u8 0, .slice none 0 0, .slice none 0 0, .int .u16 0, .int .u16 0] := ⟨hb, hW1 ▸ heap_alloc2_new w _ _, Nat.le_succ _⟩
  rw [← hW1]
  clear hW1
  obtain ⟨k, ek⟩ : ∃ k, k = w.heap.size + 1 := ⟨_, rfl⟩
  rw [← ek] at R0 ⊢
  clear ek
  have hk0 := R0.hk
  have slt := row_lt R0.ra
  have sne : ¬ W1.heap.size = k := by omega
  have sne2 : ¬ k = W1.heap.size := by omega
  have hblk : ¬ b = k := by omega
  have hblk2 : ¬ k = b := by omega
  have g2 := (hb.cell (p := ⟨b, o, none⟩) hbl).trans g1
  obtain ⟨c0, c1, c2, c3, c4, c5⟩ := row6 R0.ra
  obtain ⟨f0, f1, f2, f3, f4, f5⟩ := free6 R0.ra
  have hbd := hb
  have cq : ∀ (d : Nat) (o : Obj) (i : Nat), ((W1.drewN d).alloc o).cell? ⟨k, i, none⟩ = W1.cell? ⟨k, i, none⟩ := fun d o i => World.cell?_of_block (w := W1) (a := ⟨k, i, none⟩) (Below.heap_alloc (W1.drewN d) o k slt)
  have fq : ∀ (d : Nat) (o : Obj) (i : Nat), ((W1.drewN d).alloc o).frozen? ⟨k, i, none⟩ = W1.frozen? ⟨k, i, none⟩ := fun d o i => World.frozen?_of_block (w := W1) (a := ⟨k, i, none⟩) (Below.heap_alloc (W1.drewN d) o k slt)
  go_region_held3 (fun w' => Below w.heap.size w w' ∧ w'.cell? ⟨b, o, none⟩ = some (.int .u8 (f : Nat)))
    (exact keepB hbl g1 (by repeat (first | with_reducible assumption | with_reducible apply Below.new | with_reducible apply Below.drewN | with_reducible apply Below.drew | with_reducible refine Below.setCell ?_ hk0 _)))
    (first
      | (go_at_call 99; (with_reducible refine (Ka.out _ (by repeat (first | with_reducible assumption | with_reducible apply Below.new | with_reducible apply Below.drewN | with_reducible apply Below.drew | with_reducible refine Below.setCell ?_ hk0 _))).mono ?_); rintro e w1 ⟨rfl, d, rfl⟩)
      | (go_at_call 99; (with_reducible refine (Km.out _ (by repeat (first | with_reducible assumption | with_reducible apply Below.new | with_reducible apply Below.drewN | with_reducible apply Below.drew | with_reducible refine Below.setCell ?_ hk0 _))).mono ?_); rintro e w1 ⟨rfl, d, rfl⟩)
      | fail)
  all_goals (
    go_wp2_with fail
    refine bodyPost_row rfl k 36 #[.int .u8 (f : Nat), .int .u8 0, .slice none 0 0, .slice (some ⟨W1.heap.size, 0, none⟩) 1 1, .int .u16 (a : Nat), .int .u16 0] (0, 0) _ rfl ?hg Try.underlying36 rfl (by kernel_rfl) rfl ?hR
    case hg =>
      apply Rt.eq (w := w)
      · repeat (first | with_reducible assumption | with_reducible apply Rt.new | with_reducible apply Rt.drewN | with_reducible apply Rt.drew | with_reducible apply Rt.set)
      · rfl
    case hR =>
      rw [HP.out]
      exact ⟨_, _, _, _, _, _, rfl, Sl.empty _ _ _, sl_row (by repeat (first | (refine row_set (by omega) ?_) | (refine row_last (by simp [World.setCell])))), by omega, by omega, (fun b o h => by first | (cases h; done) | (injection h with h; injection h with h _; omega)), (fun b o h => by first | (cases h; done) | (injection h with h; injection h with h _; omega)), by repeat (first | with_reducible assumption | with_reducible apply Below.new | with_reducible apply Below.drewN | with_reducible apply Below.drew | with_reducible refine Below.setCell ?_ hk0 _)⟩)
set_option maxRecDepth 100000 in
set_option maxHeartbeats 8000000 in
theorem kread_manyW (mo : Nat) (A : Option Addr) (n c : Nat) (xs : List Nat) (w : World) (hs : Sl w w.heap.size A n (bs xs)) (hx : Bytes xs) (hn : 1 ≤ n) (hn2 : n ≤ 300) (hc : n ≤ c) :
    Calls Try.prog 107 #[.agg #[.int .u16 (mo : Nat)], .slice A n c] w (RetRep w (Kd.read (.manyW mo) xs)) := by
  have q1 : xs.length = n := by simpa using hs.len
  obtain ⟨P, hP⟩ : ∃ P, P = Kd.read (.manyW mo) xs := ⟨_, rfl⟩
  rw [← hP]
  obtain ⟨f, ef⟩ : ∃ f, f = xs[0]?.getD 0 := ⟨_, rfl⟩
  have HP : Hid (P = ⟨f, 0, [], [], atF xs 1, atF xs 3⟩) := by rw [hP, ef]; exact Lib.hid rfl
  obtain ⟨a, ea⟩ : ∃ x, x = atF xs 1 := ⟨_, rfl⟩
  have Ka := Lib.hid (fun X (bb : Below w.heap.size w X) => (show Calls Try.prog 99 #[.slice A n c, .int .i64 1] X (fun e W => e = .returned (.int .u16 (atF xs 1 : Nat)) ∧ ∃ d, W = X.drewN d) from rnum_any A n c xs 1 X (hs.to bb) hx (by omega) (by omega)))
  have ha : a < 65536 := by rw [ea]; exact atF_lt hx 1
  rw [← ea] at Ka
  obtain ⟨m, em⟩ : ∃ x, x = atF xs 3 := ⟨_, rfl⟩
  have Km := Lib.hid (fun X (bb : Below w.heap.size w X) => (show Calls Try.prog 99 #[.slice A n c, .int .i64 3] X (fun e W => e = .returned (.int .u16 (atF xs 3 : Nat)) ∧ ∃ d, W = X.drewN d) from rnum_any A n c xs 3 X (hs.to bb) hx (by omega) (by omega)))
  have hm : m < 65536 := by rw [em]; exact atF_lt hx 3
  rw [← em] at Km
  rw [← ea, ← em] at HP
  obtain ⟨b, o, rfl, hbl, d1⟩ := hs.2 (by omega)
  have g1 : w.cell? ⟨b, o, none⟩ = some (.int .u8 (f : Nat)) := (d1 0 (by omega)).trans (by rw [bs_get (by omega), ← ef])
  have HS := Lib.hid hs
  have HX := Lib.hid hx
  have z1 : (0 : Int) < (n : Int) := by omega
  have z1n : 0 < n := by omega
  have z1c : (0 : Int) ≤ (n : Int) := by omega
  clear hP hs hx d1 ef q1 ea em
  go_enter Try.func107, Try.ntmps107
  go_wp2_with fail
  obtain ⟨W1, hW1⟩ : ∃ W1, W1 = ((w.alloc (.cells #[.int .u16 (mo : Nat)] 116)).alloc (.cells #[.int .u8 0, .int .u8 0, .slice none 0 0, .slice none 0 0, .int .u16 0, .int .u16 0] 36)) := ⟨_, rfl⟩
  have hb : Below w.heap.size w W1 := by rw [hW1]; exact ((Below.refl _ _).new _).new _
  have R0 : Rt w W1 (w.heap.size + 1) #[.int .u8 0, .int .u8 0, .slice none 0 0, .slice none 0 0, .int .u16 0, .int .u16 0] := ⟨hb, hW1 ▸ heap_alloc2_new w _ _, Nat.le_succ _⟩
  rw [← hW1]
  clear hW1
  obtain ⟨k, ek⟩ : ∃ k, k = w.heap.size + 1 := ⟨_, rfl⟩
  rw [← ek] at R0 ⊢
  clear ek
  have hk0 := R0.hk
  have slt := row_lt R0.ra
  have sne : ¬ W1.heap.size = k := by omega
  have sne2 : ¬ k = W1.heap.size := by omega
  have hblk : ¬ b = k := by omega
  have hblk2 : ¬ k = b := by omega
  have g2 := (hb.cell (p := ⟨b, o, none⟩) hbl).trans g1
  obtain ⟨c0, c1, c2, c3, c4, c5⟩ := row6 R0.ra
  obtain ⟨f0, f1, f2, f3, f4, f5⟩ := free6 R0.ra
  have hbd := hb
  have cq : ∀ (d : Nat) (o : Obj) (i : Nat), ((W1.drewN d).alloc o).cell? ⟨k, i, none⟩ = W1.cell? ⟨k, i, none⟩ := fun d o i => World.cell?_of_block (w := W1) (a := ⟨k, i, none⟩) (Below.heap_alloc (W1.drewN d) o k slt)
  have fq : ∀ (d : Nat) (o : Obj) (i : Nat), ((W1.drewN d).alloc o).frozen? ⟨k, i, none⟩ = W1.frozen? ⟨k, i, none⟩ := fun d o i => World.frozen?_of_block (w := W1) (a := ⟨k, i, none⟩) (Below.heap_alloc (W1.drewN d) o k slt)
  go_region_held3 (fun w' => Below w.heap.size w w' ∧ w'.cell? ⟨b, o, none⟩ = some (.int .u8 (f : Nat)))
    (exact keepB hbl g1 (by repeat (first | with_reducible assumption | with_reducible apply Below.new | with_reducible apply Below.drewN | with_reducible apply Below.drew | with_reducible refine Below.setCell ?_ hk0 _)))
    (first
      | (go_at_call 99; (with_reducible refine (Ka.out _ (by repeat (first | with_reducible assumption | with_reducible apply Below.new | with_reducible apply Below.drewN | with_reducible apply Below.drew | with_reducible refine Below.setCell ?_ hk0 _))).mono ?_); rintro e w1 ⟨rfl, d, rfl⟩)
      | (go_at_call 99; (with_reducible refine (Km.out _ (by repeat (first | with_reducible assumption | with_reducible apply Below.new | with_reducible apply Below.drewN | with_reducible apply Below.drew | with_reducible refine Below.setCell ?_ hk0 _))).mono ?_); rintro e w1 ⟨rfl, d, rfl⟩)
      | fail)
  all_goals (
    go_wp2_with fail
    refine bodyPost_row rfl k 36 #[.int .u8 (f : Nat), .int .u8 0, .slice none 0 0, .slice none 0 0, .int .u16 (a : Nat), .int .u16 (m : Nat)] (0, 0) _ rfl ?hg Try.underlying36 rfl (by kernel_rfl) rfl ?hR
    case hg =>
      apply Rt.eq (w := w)
      · repeat (first | with_reducible assumption | with_reducible apply Rt.new | with_reducible apply Rt.drewN | with_reducible apply Rt.drew | with_reducible apply Rt.set)
      · rfl
    case hR =>
      rw [HP.out]
      exact ⟨_, _, _, _, _, _, rfl, Sl.empty _ _ _, Sl.empty _ _ _, by omega, by omega, (fun b o h => by first | (cases h; done) | (injection h with h; injection h with h _; omega)), (fun b o h => by first | (cases h; done) | (injection h with h; injection h with h _; omega)), by repeat (first | with_reducible assumption | with_reducible apply Below.new | with_reducible apply Below.drewN | with_reducible apply Below.drew | with_reducible refine Below.setCell ?_ hk0 _)⟩)
end Go.Proofs.Ytiibopdnlmnkmaa.AskW
