/- The walk of AskLooks. -/
import Derived.Test.YtpajpcaninjhfaaAskU
import Derived.Test.YtpajpcaninjhfaaAskRT
import Derived.Deep.RegionHeld3
import Derived.RegionTactic
set_option linter.unusedVariables false
set_option linter.unusedSimpArgs false
namespace Go.Proofs.Ytpajpcaninjhfaa.AskW
open Go.RowKit Go.Proofs.Ytpajpcaninjhfaa Go.Proofs.Ytpajpcaninjhfaa.Ask
theorem keep13 {X w' : World} {g1 g2 b o : Nat} {t1 t2 : TypeId} {x u0 u1 u2 u3 u4 u5 v0 v1 v2 v3 v4 v5 : Value} (h : Below X.heap.size X w') (r1 : X.heap[g1]? = some (.cells #[u0, u1, u2, u3, u4, u5] t1 (0, 0))) (r2 : X.heap[g2]? = some (.cells #[v0, v1, v2, v3, v4, v5] t2 (0, 0))) (hb : b < X.heap.size) (hx : X.cell? ⟨b, o, none⟩ = some x) :
    Below X.heap.size X w' ∧ w'.cell? ⟨b, o, none⟩ = some x ∧ w'.cell? ⟨g1, 0, none⟩ = some u0 ∧ w'.cell? ⟨g1, 1, none⟩ = some u1 ∧ w'.cell? ⟨g1, 2, none⟩ = some u2 ∧ w'.cell? ⟨g1, 3, none⟩ = some u3 ∧ w'.cell? ⟨g1, 4, none⟩ = some u4 ∧ w'.cell? ⟨g1, 5, none⟩ = some u5 ∧
      w'.cell? ⟨g2, 0, none⟩ = some v0 ∧ w'.cell? ⟨g2, 1, none⟩ = some v1 ∧ w'.cell? ⟨g2, 2, none⟩ = some v2 ∧ w'.cell? ⟨g2, 3, none⟩ = some v3 ∧ w'.cell? ⟨g2, 4, none⟩ = some v4 ∧ w'.cell? ⟨g2, 5, none⟩ = some v5 := by
  obtain ⟨h0, h1, h2, h3, h4, h5⟩ := row6 (h.row (row_lt r1) r1)
  obtain ⟨k0, k1, k2, k3, k4, k5⟩ := row6 (h.row (row_lt r2) r2)
  exact ⟨h, (h.cell (p := ⟨b, o, none⟩) hb).trans hx, h0, h1, h2, h3, h4, h5, k0, k1, k2, k3, k4, k5⟩
theorem Sl.set0 {w : World} {g n y : Nat} {cur : Array Value} {e : TypeId} {xs : List Nat} (hg : w.heap[g]? = some (.cells cur e (0, 0))) (hn : 0 < n) (hl : xs.length = n) (hcur : cur.toList.take n = bs xs) :
    Sl (w.setCell ⟨g, 0, none⟩ (.int .u8 (y : Nat))) (w.setCell ⟨g, 0, none⟩ (.int .u8 (y : Nat))).heap.size (some ⟨g, 0, none⟩) n (bs (y :: xs.drop 1)) := by
  have h : (w.setCell ⟨g, 0, none⟩ (.int .u8 (y : Nat))).heap[g]? = some (.cells (cur.setIfInBounds 0 (.int .u8 (y : Nat))) e (0, 0)) := heap_setCell_same w g 0 _ _ _ hg
  refine ⟨by simp; omega, fun _ => ⟨g, 0, rfl, row_lt h, fun j hj => ?_⟩⟩
  rw [Nat.zero_add, cell_of_row _ g j _ e (0, 0) h, Array.getElem?_setIfInBounds]
  have hsz : n ≤ cur.size := by
    have := congrArg List.length hcur
    simp at this
    omega
  by_cases h0 : 0 = j
  · subst h0
    rw [if_pos rfl, if_pos (by omega)]; rfl
  · rw [if_neg h0]
    have e1 : cur[j]? = (bs xs)[j]? := by
      rw [← hcur, List.getElem?_take, if_pos hj]; simp
    rw [e1]
    obtain ⟨i, rfl⟩ : ∃ i, j = i + 1 := ⟨j - 1, by omega⟩
    simp [bs, Nat.add_comm]
theorem cur0 {cur : Array Value} {n : Nat} {xs : List Nat} (hn : 0 < n) (hl : xs.length = n) (h : cur.toList.take ((0 + n) * 1) = [] ++ bs xs) : cur[0]? = some (.int .u8 ((xs[0]?.getD 0 : Nat) : Int)) := by
  have e : cur.toList[0]? = (bs xs)[0]? := by
    rw [← List.nil_append (bs xs), ← h, List.getElem?_take, if_pos (by omega)]
  rw [bs_get (by omega)] at e
  simpa using e
/-- Of the first k bytes so many are functions. -/
def cnt : Nat → Nat
  | 0 => 0
  | k + 1 => cnt k + if (fld k).isSome then 1 else 0
theorem cnt_256 : cnt 256 = 9 := by decide +kernel
theorem cnt_le (k : Nat) : cnt k ≤ k := by
  induction k with
  | zero => exact Nat.le_refl _
  | succ k ih => unfold cnt; split <;> omega
theorem look_one (f : Nat) (t : List Nat) : ((lookF (f :: t)).2 = 1 ↔ (fld f).isSome = false) ∧ ((lookF (f :: t)).2 = 0 ∨ (lookF (f :: t)).2 = 1 ∨ (lookF (f :: t)).2 = 3) := by
  unfold lookF
  rw [if_neg (by simp)]
  simp only [List.getElem?_cons_zero, Option.getD_some]
  by_cases h : (fld f).isSome = false
  · rw [if_pos h]; simp [h]
  · rw [if_neg h]
    split
    · simp [h]
    · split <;> simp [h]
theorem look_wrong {xs : List Nat} (h : (lookF xs).2 ≠ 0) (hl : xs.length ≠ 0) : (lookF xs).1 = bare (xs[0]?.getD 0) := by
  unfold lookF at h ⊢
  rw [if_neg hl] at h ⊢
  split
  · rfl
  · rename_i h1
    rw [if_neg h1] at h
    split
    · rfl
    · rename_i h2
      rw [if_neg h2] at h
      split
      · rename_i h3
        rw [if_pos h3] at h; exact absurd rfl h
      · rfl
theorem req_small {r : Req} (hr : right r = true) : r.words.length ≤ 1000000 ∧ r.bits.length ≤ 1000000 := by
  cases shape_of hr with
  | ask m h hf hm hb => rw [h]; simp
  | bit x h hb => rw [h]; simp
  | word x h hb => rw [h]; simp
  | bits h hm hb => rw [h]; dsimp only; exact ⟨by simp, by omega⟩
  | words h hm hb => rw [h]; dsimp only; exact ⟨by omega, by simp⟩
  | swap h hm hw hb => rw [h]; dsimp only; exact ⟨by omega, by simp⟩
/-- What is looked at: three ways. -/
theorem look_ways {xs : List Nat} (hx : Bytes xs) (hl : xs.length ≠ 0) : (∃ r, r.f = xs[0]?.getD 0 ∧ lookF xs = (r, 0) ∧ parseF xs = (r, 0)) ∨ (lookF xs = (bare (xs[0]?.getD 0), 1) ∧ parseF xs = (bare 0, 12)) ∨ (lookF xs = (bare (xs[0]?.getD 0), 3) ∧ parseF xs = (bare 0, 12)) := by
  rcases parse_cases xs with ⟨r, hr, hb, hp, hl'⟩ | ⟨hp, hne⟩
  · exact Or.inl ⟨r, by rw [← bytes_f r, hb], hl', hp⟩
  · have h1 := look_wrong hne hl
    match xs, hl with
    | f :: t, _ =>
      rcases (look_one f t).2 with h | h | h
      · exact absurd h hne
      · exact Or.inr (Or.inl ⟨Prod.ext h1 h, hp⟩)
      · exact Or.inr (Or.inr ⟨Prod.ext h1 h, hp⟩)
set_option maxRecDepth 100000 in
set_option maxHeartbeats 16000000 in
theorem askLooks_any (A : Option Addr) (n c : Nat) (xs : List Nat) (w : World) (hs : Sl w w.heap.size A n (bs xs)) (hx : Bytes xs) (hc : n ≤ c) :
    Calls Try.prog 6 #[.slice A n c] w fun e w' => e = .returned (.bool true) ∧ Below w.heap.size w w' := by
  by_cases h0 : n = 0
  · have z0 : ((n : Int) == 0) = true := by rw [h0]; rfl
    clear hs
    go_enter Try.func6, Try.ntmps6
    go_wp2_with (go_at_call 10; refine (awake_any _).mono ?_; rintro e wa ⟨rfl, ba⟩)
    go_ret
    exact ⟨rfl, ba⟩
  have z0 : ((n : Int) == 0) = false := by rw [beq_eq_false_iff_ne]; omega
  by_cases h3 : (300 : Int) < n
  · clear hs h0
    go_enter Try.func6, Try.ntmps6
    go_wp2_with (go_at_call 10; refine (awake_any _).mono ?_; rintro e wa ⟨rfl, ba⟩)
    go_ret
    exact ⟨rfl, ba⟩
  have qn : xs.length = n := by simpa using hs.len
  obtain ⟨b, o, rfl, hbl, d1⟩ := hs.2 (by omega)
  have g1 : w.cell? ⟨b, o, none⟩ = _ := (d1 0 (by omega)).trans (bs_get (by omega))
  have KL := Lib.hid (fun Y (hb : Below w.heap.size w Y) => look_any (some ⟨b, o, none⟩) n c xs Y (hs.to hb) hx (by omega) hc)
  have KP := Lib.hid (fun Y (hb : Below w.heap.size w Y) => parse_any (some ⟨b, o, none⟩) n c xs Y (hs.to hb) hx (by omega) hc)
  have HWY0 := look_ways hx (by omega)
  have z1 : (0 : Int) < (n : Int) := by omega
  have z1n : 0 < n := by omega
  have hx0 := hx.at 0
  have HX := Lib.hid hx
  have HS := Lib.hid hs
  have HQ := Lib.hid qn
  obtain ⟨x, ex⟩ : ∃ x, x = xs[0]?.getD 0 := ⟨_, rfl⟩
  rw [← ex] at g1 HWY0 hx0
  have HEX := Lib.hid ex
  have HWY := Lib.hid HWY0
  clear hs hx qn d1 ex HWY0 h0
  rcases HWY.out with ⟨⟨g, ga, gm, gt, gW, gB⟩, hg, hl, hp⟩ | ⟨hl, hp⟩ | ⟨hl, hp⟩
  · dsimp only at hg
    have hg := hg.symm
    subst hg
    have HGL : Hid (gW.length ≤ 1000000 ∧ gB.length ≤ 1000000) := by
      rcases parse_cases xs with ⟨r, hr, hb, hp', _⟩ | ⟨hp', _⟩
      · rw [hp] at hp'
        have e : r = _ := (congrArg Prod.fst hp').symm
        dsimp only at e
        have := req_small hr
        rw [e] at this
        exact this
      · rw [hp] at hp'
        have := congrArg Prod.snd hp'
        simp at this
    have HLK := Lib.hid (congrArg Prod.snd hl)
    rw [hl] at KL
    rw [hp] at KP
    go_enter Try.func6, Try.ntmps6
    go_wp2_with fail
    refine (KL.out _ (Below.refl _ _)).mono ?_
    rintro e w1 ⟨Aw, nw, cw, Ab, nb, cb, rfl, SW, SB, hcw, hcb, oW, oB, b1⟩
    dsimp only [bare] at SW SB ⊢
    have r3 := heap_alloc_new w1 (.cells #[.int .u8 (x : Nat), .int .u16 (ga : Nat), .int .u16 (gm : Nat), .int .u16 (gt : Nat), .slice Aw nw cw, .slice Ab nb cb] 26)
    have hb := b1.new (.cells #[.int .u8 (x : Nat), .int .u16 (ga : Nat), .int .u16 (gm : Nat), .int .u16 (gt : Nat), .slice Aw nw cw, .slice Ab nb cb] 26)
    have b1n := (Below.refl w1.heap.size w1).new (.cells #[.int .u8 (x : Nat), .int .u16 (ga : Nat), .int .u16 (gm : Nat), .int .u16 (gt : Nat), .slice Aw nw cw, .slice Ab nb cb] 26)
    have SW := SW.to b1n
    have SB := SB.to b1n
    clear b1 b1n hcw hcb oW oB
    go_wp2_with fail
    refine (KP.out _ hb).mono ?_
    rintro e w2 ⟨Aw2, nw2, cw2, Ab2, nb2, cb2, rfl, SW2, SB2, hcw, hcb, oW, oB, b2⟩
    dsimp only [bare] at SW2 SB2 ⊢
    have r3 := b2.row (row_lt r3) r3
    have SW := SW.to b2
    have SB := SB.to b2
    have hb := hb.call b2
    have lt3 := row_lt r3
    have r5 := heap_alloc_new w2 (.cells #[.int .u8 (x : Nat), .int .u16 (ga : Nat), .int .u16 (gm : Nat), .int .u16 (gt : Nat), .slice Aw2 nw2 cw2, .slice Ab2 nb2 cb2] 26)
    have r3 := row_alloc r3 (.cells #[.int .u8 (x : Nat), .int .u16 (ga : Nat), .int .u16 (gm : Nat), .int .u16 (gt : Nat), .slice Aw2 nw2 cw2, .slice Ab2 nb2 cb2] 26)
    have b2n := (Below.refl w2.heap.size w2).new (.cells #[.int .u8 (x : Nat), .int .u16 (ga : Nat), .int .u16 (gm : Nat), .int .u16 (gt : Nat), .slice Aw2 nw2 cw2, .slice Ab2 nb2 cb2] 26)
    have SW := SW.to b2n
    have SB := SB.to b2n
    have SW2 := SW2.to b2n
    have SB2 := SB2.to b2n
    have hb := hb.call b2n
    clear b2 b2n hcw hcb oW oB
    go_wp2_with fail
    obtain ⟨X, hX⟩ : ∃ X, X = w2.alloc (.cells #[.int .u8 (x : Nat), .int .u16 (ga : Nat), .int .u16 (gm : Nat), .int .u16 (gt : Nat), .slice Aw2 nw2 cw2, .slice Ab2 nb2 cb2] 26) := ⟨_, rfl⟩
    rw [← hX] at r3 r5 SW SB SW2 SB2 hb ⊢
    obtain ⟨k3, e3⟩ : ∃ k, k = w1.heap.size := ⟨_, rfl⟩
    rw [← e3] at r3 lt3 ⊢
    obtain ⟨k5, e5⟩ : ∃ k, k = w2.heap.size := ⟨_, rfl⟩
    rw [← e5] at r5 lt3 ⊢
    clear hX e3 e5
    have gX : X.cell? ⟨b, o, none⟩ = _ := (hb.cell (p := ⟨b, o, none⟩) hbl).trans g1
    have hbX : b < X.heap.size := Nat.lt_of_lt_of_le hbl hb.size
    have R3 := Lib.hid r3
    have R5 := Lib.hid r5
    have GX := Lib.hid gX
    clear r3 r5 gX
    have KT := Lib.hid (fun Y (h : Below X.heap.size X Y) => same_any x ga gm gt Aw nw cw Ab nb cb x ga gm gt Aw2 nw2 cw2 Ab2 nb2 cb2 gW gW gB gB Y (SW.to h) (SB.to h) (SW2.to h) (SB2.to h) (by have := SW.len; have := HGL.out.1; simp at *; omega) (by have := SB.len; have := HGL.out.2; simp at *; omega) (by have := SW2.len; have := HGL.out.1; simp at *; omega) (by have := SB2.len; have := HGL.out.2; simp at *; omega))
    clear SW SB SW2 SB2
    refine wp_region_held_drew (S := fun w' => Below X.heap.size X w' ∧ w'.cell? ⟨b, o, none⟩ = some (.int .u8 (x : Nat)) ∧ w'.cell? ⟨k3, 0, none⟩ = some (.int .u8 (x : Nat)) ∧ w'.cell? ⟨k3, 1, none⟩ = some (.int .u16 (ga : Nat)) ∧ w'.cell? ⟨k3, 2, none⟩ = some (.int .u16 (gm : Nat)) ∧ w'.cell? ⟨k3, 3, none⟩ = some (.int .u16 (gt : Nat)) ∧ w'.cell? ⟨k3, 4, none⟩ = some (.slice Aw nw cw) ∧ w'.cell? ⟨k3, 5, none⟩ = some (.slice Ab nb cb) ∧ w'.cell? ⟨k5, 0, none⟩ = some (.int .u8 (x : Nat)) ∧ w'.cell? ⟨k5, 1, none⟩ = some (.int .u16 (ga : Nat)) ∧ w'.cell? ⟨k5, 2, none⟩ = some (.int .u16 (gm : Nat)) ∧ w'.cell? ⟨k5, 3, none⟩ = some (.int .u16 (gt : Nat)) ∧ w'.cell? ⟨k5, 4, none⟩ = some (.slice Aw2 nw2 cw2) ∧ w'.cell? ⟨k5, 5, none⟩ = some (.slice Ab2 nb2 cb2)) (by kernel_rfl) (keep13 (Below.refl _ _).drew R3.out R5.out hbX GX.out) (fun hHeld => ?_)
    refine wpAnyH_take (i := 0) (v := ?_) (by simp only [List.getElem?_toArray, List.getElem?_cons_succ, List.getElem?_cons_zero]; rfl) (by kernel_rfl) (by kernel_rfl) (by kernel_rfl) (by exact fun _ _ _ h => h) (Or.inl ⟨by kernel_rfl, ?_⟩) (by assumption) ?_
    rotate_left
    · intro w hSw
      (try dsimp only at hSw)
      go_simp
      try with_reducible rfl
    simp only [Act.put, List.setIfInBounds_toArray, List.set_cons_zero, List.set_cons_succ]
    refine wpAnyH_take (i := 1) (v := ?_) (by simp only [List.getElem?_toArray, List.getElem?_cons_succ, List.getElem?_cons_zero]; rfl) (by kernel_rfl) (by kernel_rfl) (by kernel_rfl) (by exact fun _ _ _ h => h) (Or.inl ⟨by kernel_rfl, ?_⟩) (by assumption) ?_
    rotate_left
    · intro w hSw
      (try dsimp only at hSw)
      go_simp
      try with_reducible rfl
    simp only [Act.put, List.setIfInBounds_toArray, List.set_cons_zero, List.set_cons_succ]
    refine wpAnyH_take (i := 2) (v := ?_) (by simp only [List.getElem?_toArray, List.getElem?_cons_succ, List.getElem?_cons_zero]; rfl) (by kernel_rfl) (by kernel_rfl) (by kernel_rfl) (by exact fun _ _ _ h => h) (Or.inl ⟨by kernel_rfl, ?_⟩) (by assumption) ?_
    rotate_left
    · intro w hSw
      (try dsimp only at hSw)
      go_simp
      try with_reducible rfl
    simp only [Act.put, List.setIfInBounds_toArray, List.set_cons_zero, List.set_cons_succ]
    refine wpAnyH_take (i := 3) (v := ?_) (by simp only [List.getElem?_toArray, List.getElem?_cons_succ, List.getElem?_cons_zero]; rfl) (by kernel_rfl) (by kernel_rfl) (by kernel_rfl) (by exact fun _ _ _ h => h) (Or.inl ⟨by kernel_rfl, ?_⟩) (by assumption) ?_
    rotate_left
    · intro w hSw
      (try dsimp only at hSw)
      go_simp
      try with_reducible rfl
    simp only [Act.put, List.setIfInBounds_toArray, List.set_cons_zero, List.set_cons_succ]
    refine wpAnyH_take (i := 4) (v := ?_) (by simp only [List.getElem?_toArray, List.getElem?_cons_succ, List.getElem?_cons_zero]; rfl) (by kernel_rfl) (by kernel_rfl) (by kernel_rfl) (by exact fun _ _ _ h => h) (Or.inl ⟨by kernel_rfl, ?_⟩) (by assumption) ?_
    rotate_left
    · intro w hSw
      (try dsimp only at hSw)
      go_simp
      try with_reducible rfl
    simp only [Act.put, List.setIfInBounds_toArray, List.set_cons_zero, List.set_cons_succ]
    refine wpAnyH_take (i := 5) (v := ?_) (by simp only [List.getElem?_toArray, List.getElem?_cons_succ, List.getElem?_cons_zero]; rfl) (by kernel_rfl) (by kernel_rfl) (by kernel_rfl) (by exact fun _ _ _ h => h) (Or.inl ⟨by kernel_rfl, ?_⟩) (by assumption) ?_
    rotate_left
    · intro w hSw
      (try dsimp only at hSw)
      go_simp
      try with_reducible rfl
    simp only [Act.put, List.setIfInBounds_toArray, List.set_cons_zero, List.set_cons_succ]
    refine wpAnyH_take (i := 6) (v := ?_) (by simp only [List.getElem?_toArray, List.getElem?_cons_succ, List.getElem?_cons_zero]; rfl) (by kernel_rfl) (by kernel_rfl) (by kernel_rfl) (by exact fun _ _ _ h => h) (Or.inl ⟨by kernel_rfl, ?_⟩) (by assumption) ?_
    rotate_left
    · intro w hSw
      (try dsimp only at hSw)
      go_simp
      try with_reducible rfl
    simp only [Act.put, List.setIfInBounds_toArray, List.set_cons_zero, List.set_cons_succ]
    refine wpAnyH_take (i := 7) (v := ?_) (by simp only [List.getElem?_toArray, List.getElem?_cons_succ, List.getElem?_cons_zero]; rfl) (by kernel_rfl) (by kernel_rfl) (by kernel_rfl) (by exact fun _ _ _ h => h) (Or.inl ⟨by kernel_rfl, ?_⟩) (by assumption) ?_
    rotate_left
    · intro w hSw
      (try dsimp only at hSw)
      go_simp
      try with_reducible rfl
    simp only [Act.put, List.setIfInBounds_toArray, List.set_cons_zero, List.set_cons_succ]
    refine wpAnyH_take (i := 8) (v := ?_) (by simp only [List.getElem?_toArray, List.getElem?_cons_succ, List.getElem?_cons_zero]; rfl) (by kernel_rfl) (by kernel_rfl) (by kernel_rfl) (by exact fun _ _ _ h => h) (Or.inl ⟨by kernel_rfl, ?_⟩) (by assumption) ?_
    rotate_left
    · intro w hSw
      (try dsimp only at hSw)
      go_simp
      try with_reducible rfl
    simp only [Act.put, List.setIfInBounds_toArray, List.set_cons_zero, List.set_cons_succ]
    refine wpAnyH_take (i := 9) (v := ?_) (by simp only [List.getElem?_toArray, List.getElem?_cons_succ, List.getElem?_cons_zero]; rfl) (by kernel_rfl) (by kernel_rfl) (by kernel_rfl) (by exact fun _ _ _ h => h) (Or.inl ⟨by kernel_rfl, ?_⟩) (by assumption) ?_
    rotate_left
    · intro w hSw
      (try dsimp only at hSw)
      go_simp
      try with_reducible rfl
    simp only [Act.put, List.setIfInBounds_toArray, List.set_cons_zero, List.set_cons_succ]
    refine wpAnyH_take (i := 10) (v := ?_) (by simp only [List.getElem?_toArray, List.getElem?_cons_succ, List.getElem?_cons_zero]; rfl) (by kernel_rfl) (by kernel_rfl) (by kernel_rfl) (by exact fun _ _ _ h => h) (Or.inl ⟨by kernel_rfl, ?_⟩) (by assumption) ?_
    rotate_left
    · intro w hSw
      (try dsimp only at hSw)
      go_simp
      try with_reducible rfl
    simp only [Act.put, List.setIfInBounds_toArray, List.set_cons_zero, List.set_cons_succ]
    refine wpAnyH_take (i := 11) (v := ?_) (by simp only [List.getElem?_toArray, List.getElem?_cons_succ, List.getElem?_cons_zero]; rfl) (by kernel_rfl) (by kernel_rfl) (by kernel_rfl) (by exact fun _ _ _ h => h) (Or.inl ⟨by kernel_rfl, ?_⟩) (by assumption) ?_
    rotate_left
    · intro w hSw
      (try dsimp only at hSw)
      go_simp
      try with_reducible rfl
    simp only [Act.put, List.setIfInBounds_toArray, List.set_cons_zero, List.set_cons_succ]
    refine wpAnyH_take (i := 12) (v := ?_) (by simp only [List.getElem?_toArray, List.getElem?_cons_succ, List.getElem?_cons_zero]; rfl) (by kernel_rfl) (by kernel_rfl) (by kernel_rfl) (by exact fun _ _ _ h => h) (Or.inl ⟨by kernel_rfl, ?_⟩) (by assumption) ?_
    rotate_left
    · intro w hSw
      (try dsimp only at hSw)
      go_simp
      try with_reducible rfl
    simp only [Act.put, List.setIfInBounds_toArray, List.set_cons_zero, List.set_cons_succ]
    refine wpAnyH_take (i := 13) (v := ?_) (by simp only [List.getElem?_toArray, List.getElem?_cons_succ, List.getElem?_cons_zero]; rfl) (by kernel_rfl) (by kernel_rfl) (by kernel_rfl) (by exact fun _ _ _ h => h) (Or.inl ⟨by kernel_rfl, ?_⟩) (by assumption) ?_
    rotate_left
    · intro w hSw
      (try dsimp only at hSw)
      go_simp
      try with_reducible rfl
    simp only [Act.put, List.setIfInBounds_toArray, List.set_cons_zero, List.set_cons_succ]
    refine wpAnyH_take (i := 14) (v := ?_) (by simp only [List.getElem?_toArray, List.getElem?_cons_succ, List.getElem?_cons_zero]; rfl) (by kernel_rfl) (by kernel_rfl) (by kernel_rfl) (by exact fun _ _ _ h => h) (Or.inl ⟨by kernel_rfl, ?_⟩) (by assumption) ?_
    rotate_left
    · intro w hSw
      (try dsimp only at hSw)
      go_simp
      try with_reducible rfl
    simp only [Act.put, List.setIfInBounds_toArray, List.set_cons_zero, List.set_cons_succ]
    refine wpAnyH_take (i := 15) (v := ?_) (by simp only [List.getElem?_toArray, List.getElem?_cons_succ, List.getElem?_cons_zero]; rfl) (by kernel_rfl) (by kernel_rfl) (by kernel_rfl) (by exact fun _ _ _ h => h) (Or.inl ⟨by kernel_rfl, ?_⟩) (by assumption) ?_
    rotate_left
    · intro w hSw
      (try dsimp only at hSw)
      go_simp
      try with_reducible rfl
    simp only [Act.put, List.setIfInBounds_toArray, List.set_cons_zero, List.set_cons_succ]
    refine wpAnyH_take (i := 16) (v := ?_) (by simp only [List.getElem?_toArray, List.getElem?_cons_succ, List.getElem?_cons_zero]; rfl) (by kernel_rfl) (by kernel_rfl) (by kernel_rfl) (by exact fun _ _ _ h => h) (Or.inl ⟨by kernel_rfl, ?_⟩) (by assumption) ?_
    rotate_left
    · intro w hSw
      (try dsimp only at hSw)
      go_simp
      try with_reducible rfl
    simp only [Act.put, List.setIfInBounds_toArray, List.set_cons_zero, List.set_cons_succ]
    refine wpAnyH_take (i := 17) (v := ?_) (by simp only [List.getElem?_toArray, List.getElem?_cons_succ, List.getElem?_cons_zero]; rfl) (by kernel_rfl) (by kernel_rfl) (by kernel_rfl) (by exact fun _ _ _ h => h) (Or.inl ⟨by kernel_rfl, ?_⟩) (by assumption) ?_
    rotate_left
    · intro w hSw
      (try dsimp only at hSw)
      go_simp
      try with_reducible rfl
    simp only [Act.put, List.setIfInBounds_toArray, List.set_cons_zero, List.set_cons_succ]
    refine wpAnyH_take (i := 18) (v := ?_) (by simp only [List.getElem?_toArray, List.getElem?_cons_succ, List.getElem?_cons_zero]; rfl) (by kernel_rfl) (by kernel_rfl) (by kernel_rfl) (by exact fun _ _ _ h => h) (Or.inl ⟨by kernel_rfl, ?_⟩) (by assumption) ?_
    rotate_left
    · intro w hSw
      (try dsimp only at hSw)
      go_simp
      try with_reducible rfl
    simp only [Act.put, List.setIfInBounds_toArray, List.set_cons_zero, List.set_cons_succ]
    refine wpAnyH_ready (rs := [19]) (by kernel_rfl) (by simp) ?_
    refine AllReadyH.cons (by simp only [List.getElem?_toArray, List.getElem?_cons_succ, List.getElem?_cons_zero]; rfl) (fun K hK => ?_) AllReadyH.nil
    rw [if_pos (by kernel_rfl)]
    go_simp
    refine (KT.out _ ((Below.refl _ _).drew)).mono ?_
    rintro e wt ⟨rfl, bt⟩
    have hbd := Below.call (a := X) (Below.refl _ _).drew bt
    simp only [beq_self_eq_true, Bool.and_true]
    go_wp2_with fail
    refine hK.out _ _ ?_ (fun hHeld => ?_)
    · exact keep13 hbd R3.out R5.out hbX GX.out
    clear hK K
    try simp only [Act.put, List.setIfInBounds_toArray, List.set_cons_zero, List.set_cons_succ]
    refine wpAnyH_take (i := 20) (v := ?_) (by simp only [List.getElem?_toArray, List.getElem?_cons_succ, List.getElem?_cons_zero]; rfl) (by kernel_rfl) (by kernel_rfl) (by kernel_rfl) (by exact fun _ _ _ h => h) (Or.inl ⟨by kernel_rfl, ?_⟩) (by assumption) ?_
    rotate_left
    · intro w hSw
      (try dsimp only at hSw)
      go_simp
      try with_reducible rfl
    simp only [Act.put, List.setIfInBounds_toArray, List.set_cons_zero, List.set_cons_succ]
    refine wpAnyH_take (i := 21) (v := ?_) (by simp only [List.getElem?_toArray, List.getElem?_cons_succ, List.getElem?_cons_zero]; rfl) (by kernel_rfl) (by kernel_rfl) (by kernel_rfl) (by exact fun _ _ _ h => h) (Or.inl ⟨by kernel_rfl, ?_⟩) (by assumption) ?_
    rotate_left
    · intro w hSw
      (try dsimp only at hSw)
      go_simp
      try with_reducible rfl
    simp only [Act.put, List.setIfInBounds_toArray, List.set_cons_zero, List.set_cons_succ]
    refine wpAnyH_take (i := 22) (v := ?_) (by simp only [List.getElem?_toArray, List.getElem?_cons_succ, List.getElem?_cons_zero]; rfl) (by kernel_rfl) (by kernel_rfl) (by kernel_rfl) (by exact fun _ _ _ h => h) (Or.inl ⟨by kernel_rfl, ?_⟩) (by assumption) ?_
    rotate_left
    · intro w hSw
      (try dsimp only at hSw)
      go_simp
      try with_reducible rfl
    simp only [Act.put, List.setIfInBounds_toArray, List.set_cons_zero, List.set_cons_succ]
    refine wpAnyH_take (i := 23) (v := ?_) (by simp only [List.getElem?_toArray, List.getElem?_cons_succ, List.getElem?_cons_zero]; rfl) (by kernel_rfl) (by kernel_rfl) (by kernel_rfl) (by exact fun _ _ _ h => h) (Or.inl ⟨by kernel_rfl, ?_⟩) (by assumption) ?_
    rotate_left
    · intro w hSw
      (try dsimp only at hSw)
      go_simp
      try with_reducible rfl
    simp only [Act.put, List.setIfInBounds_toArray, List.set_cons_zero, List.set_cons_succ]
    refine wpAnyH_take (i := 24) (v := ?_) (by simp only [List.getElem?_toArray, List.getElem?_cons_succ, List.getElem?_cons_zero]; rfl) (by kernel_rfl) (by kernel_rfl) (by kernel_rfl) (by exact fun _ _ _ h => h) (Or.inl ⟨by kernel_rfl, ?_⟩) (by assumption) ?_
    rotate_left
    · intro w hSw
      (try dsimp only at hSw)
      go_simp
      try with_reducible rfl
    simp only [Act.put, List.setIfInBounds_toArray, List.set_cons_zero, List.set_cons_succ]
    refine wpAnyH_take (i := 25) (v := ?_) (by simp only [List.getElem?_toArray, List.getElem?_cons_succ, List.getElem?_cons_zero]; rfl) (by kernel_rfl) (by kernel_rfl) (by kernel_rfl) (by exact fun _ _ _ h => h) (Or.inl ⟨by kernel_rfl, ?_⟩) (by assumption) ?_
    rotate_left
    · intro w hSw
      (try dsimp only at hSw)
      go_simp
      try with_reducible rfl
    simp only [Act.put, List.setIfInBounds_toArray, List.set_cons_zero, List.set_cons_succ]
    refine wpAnyH_take (i := 26) (v := ?_) (by simp only [List.getElem?_toArray, List.getElem?_cons_succ, List.getElem?_cons_zero]; rfl) (by kernel_rfl) (by kernel_rfl) (by kernel_rfl) (by exact fun _ _ _ h => h) (Or.inl ⟨by kernel_rfl, ?_⟩) (by assumption) ?_
    rotate_left
    · intro w hSw
      (try dsimp only at hSw)
      go_simp
      try with_reducible rfl
    simp only [Act.put, List.setIfInBounds_toArray, List.set_cons_zero, List.set_cons_succ]
    refine wpAnyH_take (i := 27) (v := undef) (by simp only [List.getElem?_toArray, List.getElem?_cons_succ, List.getElem?_cons_zero]; rfl) (by kernel_rfl) (by kernel_rfl) (by kernel_rfl) (by exact fun _ _ _ h => h) (Or.inr ⟨by kernel_rfl, rfl⟩) (by assumption) ?_
    simp only [Act.put, List.setIfInBounds_toArray, List.set_cons_zero, List.set_cons_succ]
    refine wpAnyH_take (i := 28) (v := undef) (by simp only [List.getElem?_toArray, List.getElem?_cons_succ, List.getElem?_cons_zero]; rfl) (by kernel_rfl) (by kernel_rfl) (by kernel_rfl) (by exact fun _ _ _ h => h) (Or.inr ⟨by kernel_rfl, rfl⟩) (by assumption) ?_
    simp only [Act.put, List.setIfInBounds_toArray, List.set_cons_zero, List.set_cons_succ]
    refine wpAnyH_take (i := 29) (v := undef) (by simp only [List.getElem?_toArray, List.getElem?_cons_succ, List.getElem?_cons_zero]; rfl) (by kernel_rfl) (by kernel_rfl) (by kernel_rfl) (by exact fun _ _ _ h => h) (Or.inr ⟨by kernel_rfl, rfl⟩) (by assumption) ?_
    simp only [Act.put, List.setIfInBounds_toArray, List.set_cons_zero, List.set_cons_succ]
    refine wpAnyH_take (i := 30) (v := undef) (by simp only [List.getElem?_toArray, List.getElem?_cons_succ, List.getElem?_cons_zero]; rfl) (by kernel_rfl) (by kernel_rfl) (by kernel_rfl) (by exact fun _ _ _ h => h) (Or.inr ⟨by kernel_rfl, rfl⟩) (by assumption) ?_
    simp only [Act.put, List.setIfInBounds_toArray, List.set_cons_zero, List.set_cons_succ]
    refine wpAnyH_take (i := 31) (v := undef) (by simp only [List.getElem?_toArray, List.getElem?_cons_succ, List.getElem?_cons_zero]; rfl) (by kernel_rfl) (by kernel_rfl) (by kernel_rfl) (by exact fun _ _ _ h => h) (Or.inr ⟨by kernel_rfl, rfl⟩) (by assumption) ?_
    simp only [Act.put, List.setIfInBounds_toArray, List.set_cons_zero, List.set_cons_succ]
    refine wpAnyH_take (i := 32) (v := undef) (by simp only [List.getElem?_toArray, List.getElem?_cons_succ, List.getElem?_cons_zero]; rfl) (by kernel_rfl) (by kernel_rfl) (by kernel_rfl) (by exact fun _ _ _ h => h) (Or.inr ⟨by kernel_rfl, rfl⟩) (by assumption) ?_
    simp only [Act.put, List.setIfInBounds_toArray, List.set_cons_zero, List.set_cons_succ]
    refine wpAnyH_take (i := 33) (v := undef) (by simp only [List.getElem?_toArray, List.getElem?_cons_succ, List.getElem?_cons_zero]; rfl) (by kernel_rfl) (by kernel_rfl) (by kernel_rfl) (by exact fun _ _ _ h => h) (Or.inr ⟨by kernel_rfl, rfl⟩) (by assumption) ?_
    simp only [Act.put, List.setIfInBounds_toArray, List.set_cons_zero, List.set_cons_succ]
    refine wpAnyH_take (i := 34) (v := ?_) (by simp only [List.getElem?_toArray, List.getElem?_cons_succ, List.getElem?_cons_zero]; rfl) (by kernel_rfl) (by kernel_rfl) (by kernel_rfl) (by exact fun _ _ _ h => h) (Or.inl ⟨by kernel_rfl, ?_⟩) (by assumption) ?_
    rotate_left
    · intro w hSw
      (try dsimp only at hSw)
      go_simp
      try with_reducible rfl
    simp only [Act.put, List.setIfInBounds_toArray, List.set_cons_zero, List.set_cons_succ]
    refine wpAnyH_take (i := 35) (v := ?_) (by simp only [List.getElem?_toArray, List.getElem?_cons_succ, List.getElem?_cons_zero]; rfl) (by kernel_rfl) (by kernel_rfl) (by kernel_rfl) (by exact fun _ _ _ h => h) (Or.inl ⟨by kernel_rfl, ?_⟩) (by assumption) ?_
    rotate_left
    · intro w hSw
      (try dsimp only at hSw)
      go_simp
      try with_reducible rfl
    simp only [Act.put, List.setIfInBounds_toArray, List.set_cons_zero, List.set_cons_succ]
    refine wpAnyH_take (i := 36) (v := ?_) (by simp only [List.getElem?_toArray, List.getElem?_cons_succ, List.getElem?_cons_zero]; rfl) (by kernel_rfl) (by kernel_rfl) (by kernel_rfl) (by exact fun _ _ _ h => h) (Or.inl ⟨by kernel_rfl, ?_⟩) (by assumption) ?_
    rotate_left
    · intro w hSw
      (try dsimp only at hSw)
      go_simp
      try with_reducible rfl
    simp only [Act.put, List.setIfInBounds_toArray, List.set_cons_zero, List.set_cons_succ]
    refine wpAnyH_take (i := 37) (v := ?_) (by simp only [List.getElem?_toArray, List.getElem?_cons_succ, List.getElem?_cons_zero]; rfl) (by kernel_rfl) (by kernel_rfl) (by kernel_rfl) (by exact fun _ _ _ h => h) (Or.inl ⟨by kernel_rfl, ?_⟩) (by assumption) ?_
    rotate_left
    · intro w hSw
      (try dsimp only at hSw)
      go_simp
      try with_reducible rfl
    simp only [Act.put, List.setIfInBounds_toArray, List.set_cons_zero, List.set_cons_succ]
    refine wpAnyH_take (i := 38) (v := ?_) (by simp only [List.getElem?_toArray, List.getElem?_cons_succ, List.getElem?_cons_zero]; rfl) (by kernel_rfl) (by kernel_rfl) (by kernel_rfl) (by exact fun _ _ _ h => h) (Or.inl ⟨by kernel_rfl, ?_⟩) (by assumption) ?_
    rotate_left
    · intro w hSw
      (try dsimp only at hSw)
      go_simp
      try with_reducible rfl
    simp only [Act.put, List.setIfInBounds_toArray, List.set_cons_zero, List.set_cons_succ]
    refine wpAnyH_take (i := 39) (v := ?_) (by simp only [List.getElem?_toArray, List.getElem?_cons_succ, List.getElem?_cons_zero]; rfl) (by kernel_rfl) (by kernel_rfl) (by kernel_rfl) (by exact fun _ _ _ h => h) (Or.inl ⟨by kernel_rfl, ?_⟩) (by assumption) ?_
    rotate_left
    · intro w hSw
      (try dsimp only at hSw)
      go_simp
      try with_reducible rfl
    simp only [Act.put, List.setIfInBounds_toArray, List.set_cons_zero, List.set_cons_succ]
    refine wpAnyH_take (i := 40) (v := undef) (by simp only [List.getElem?_toArray, List.getElem?_cons_succ, List.getElem?_cons_zero]; rfl) (by kernel_rfl) (by kernel_rfl) (by kernel_rfl) (by exact fun _ _ _ h => h) (Or.inr ⟨by kernel_rfl, rfl⟩) (by assumption) ?_
    simp only [Act.put, List.setIfInBounds_toArray, List.set_cons_zero, List.set_cons_succ]
    refine wpAnyH_take (i := 41) (v := undef) (by simp only [List.getElem?_toArray, List.getElem?_cons_succ, List.getElem?_cons_zero]; rfl) (by kernel_rfl) (by kernel_rfl) (by kernel_rfl) (by exact fun _ _ _ h => h) (Or.inr ⟨by kernel_rfl, rfl⟩) (by assumption) ?_
    simp only [Act.put, List.setIfInBounds_toArray, List.set_cons_zero, List.set_cons_succ]
    refine wpAnyH_take (i := 42) (v := ?_) (by simp only [List.getElem?_toArray, List.getElem?_cons_succ, List.getElem?_cons_zero]; rfl) (by kernel_rfl) (by kernel_rfl) (by kernel_rfl) (by exact fun _ _ _ h => h) (Or.inl ⟨by kernel_rfl, ?_⟩) (by assumption) ?_
    rotate_left
    · intro w hSw
      (try dsimp only at hSw)
      go_simp
      try with_reducible rfl
    simp only [Act.put, List.setIfInBounds_toArray, List.set_cons_zero, List.set_cons_succ]
    refine wpAnyH_take (i := 43) (v := ?_) (by simp only [List.getElem?_toArray, List.getElem?_cons_succ, List.getElem?_cons_zero]; rfl) (by kernel_rfl) (by kernel_rfl) (by kernel_rfl) (by exact fun _ _ _ h => h) (Or.inl ⟨by kernel_rfl, ?_⟩) (by assumption) ?_
    rotate_left
    · intro w hSw
      (try dsimp only at hSw)
      go_simp
      try with_reducible rfl
    simp only [Act.put, List.setIfInBounds_toArray, List.set_cons_zero, List.set_cons_succ]
    refine wpAnyH_take (i := 44) (v := undef) (by simp only [List.getElem?_toArray, List.getElem?_cons_succ, List.getElem?_cons_zero]; rfl) (by kernel_rfl) (by kernel_rfl) (by kernel_rfl) (by exact fun _ _ _ h => h) (Or.inr ⟨by kernel_rfl, rfl⟩) (by assumption) ?_
    simp only [Act.put, List.setIfInBounds_toArray, List.set_cons_zero, List.set_cons_succ]
    refine wpAnyH_take (i := 45) (v := undef) (by simp only [List.getElem?_toArray, List.getElem?_cons_succ, List.getElem?_cons_zero]; rfl) (by kernel_rfl) (by kernel_rfl) (by kernel_rfl) (by exact fun _ _ _ h => h) (Or.inr ⟨by kernel_rfl, rfl⟩) (by assumption) ?_
    simp only [Act.put, List.setIfInBounds_toArray, List.set_cons_zero, List.set_cons_succ]
    refine wpAnyH_take (i := 46) (v := ?_) (by simp only [List.getElem?_toArray, List.getElem?_cons_succ, List.getElem?_cons_zero]; rfl) (by kernel_rfl) (by kernel_rfl) (by kernel_rfl) (by exact fun _ _ _ h => h) (Or.inl ⟨by kernel_rfl, ?_⟩) (by assumption) ?_
    rotate_left
    · intro w hSw
      (try dsimp only at hSw)
      go_simp
      try with_reducible rfl
    simp only [Act.put, List.setIfInBounds_toArray, List.set_cons_zero, List.set_cons_succ]
    refine wpAnyH_take (i := 47) (v := ?_) (by simp only [List.getElem?_toArray, List.getElem?_cons_succ, List.getElem?_cons_zero]; rfl) (by kernel_rfl) (by kernel_rfl) (by kernel_rfl) (by exact fun _ _ _ h => h) (Or.inl ⟨by kernel_rfl, ?_⟩) (by assumption) ?_
    rotate_left
    · intro w hSw
      (try dsimp only at hSw)
      go_simp
      try with_reducible rfl
    simp only [Act.put, List.setIfInBounds_toArray, List.set_cons_zero, List.set_cons_succ]
    refine wpAnyH_done (by kernel_rfl) ?_ _
    have hbw : Below w.heap.size w _ := hb.trans (hbd.mono hb.size)
    obtain ⟨Z, eZ⟩ : ∃ Z : World, Z = Z := ⟨X, rfl⟩
    clear eZ Z KT
    go_wp2_with fail
    go_loopw [7, 79] (fun u i wr => ∃ k : Nat, k ≤ 256 ∧ i = .int .i64 k ∧ u = .int .i64 (cnt k : Nat) ∧ Below w.heap.size w wr) (fun _ i _ => 256 - (intOf i).toNat)
    case atStart => exact ⟨0, by omega, rfl, rfl, hbw⟩
    case round =>
      obtain ⟨k, hk, rfl, rfl, bk⟩ := hrel
      by_cases hlt : k < 256
      · have hkw : IntKind.u8.wrap (k : Int) = k := by rw [IntKind.wrap_u8]; omega
        have hcw : IntKind.i64.wrap (((cnt k : Nat) : Int) + 1) = ((cnt k : Nat) : Int) + 1 := by rw [IntKind.wrap_i64]; have := cnt_le k; omega
        have hcs := Lib.hid (show cnt (k + 1) = cnt k + if (fld k).isSome then 1 else 0 from rfl)
        obtain ⟨ck, ecn⟩ : ∃ c, c = cnt k := ⟨_, rfl⟩
        rw [← ecn] at hcs hcw ⊢
        clear ecn
        have S0 := (HS.out.to bk).to ((Below.refl _ _).new (.cells #[] 5))
        go_wp2_with (at_builtin; go_loud (refine wpList_app _root_.Go.Proofs.Ytpajpcaninjhfaa.AskW.u8 rfl (.tmp 82) (.tmp 83) rfl (Has.made0 (Below.refl wr.heap.size wr) _) rfl S0 rfl (bs_one _) (by omega) (by simp only [maxLen]; omega) ?_; intro v2 w2 H2 g2 o2; obtain ⟨g, cap, cur, rfl, hge, hg, hcap, hmax, hsz, hcur⟩ := Or.resolve_left H2.own.2 (fun h => absurd h.2 (by omega)); have gx := (cell_of_row w2 g 0 _ _ _ hg).trans (cur0 z1n HQ.out hcur); have fx := frozen_of_row w2 g 0 _ _ hg; have bw2 := H2.bel; have HG := Lib.hid hg; have HCUR := Lib.hid hcur; have HCAP := Lib.hid hcap; clear H2 hg hcur hcap g2 o2 hmax hsz S0))
        have S1 := Sl.set0 (y := k) HG.out z1n HQ.out (by have := HCUR.out; simpa using this)
        have bw3 := bw2.setCell (p := ⟨g, 0, none⟩) hge (.int .u8 (k : Nat))
        have hx9 : Bytes (k :: xs.drop 1) := by
          intro c9 hc9
          rcases List.mem_cons.1 hc9 with rfl | hc9
          · omega
          · exact HX.out.drop 1 c9 hc9
        have K9 := look_any (some ⟨g, 0, none⟩) n cap (k :: xs.drop 1) _ S1 hx9 (by omega) (by have := HCAP.out; omega)
        have hone := (look_one k (xs.drop 1)).1
        have hsame : k = x → (lookF (k :: xs.drop 1)).2 = 0 := by
          intro hkx
          have : k :: xs.drop 1 = xs := by
            rw [hkx, HEX.out]
            match xs, HQ.out with
            | y :: r, _ => rfl
            | [], h => simp at h; omega
          rw [this, HLK.out]
        obtain ⟨Y, hY⟩ : ∃ Y, Y = (lookF (k :: xs.drop 1)).2 := ⟨_, rfl⟩
        obtain ⟨RQ, hRQ⟩ : ∃ Y, Y = (lookF (k :: xs.drop 1)).1 := ⟨_, rfl⟩
        rw [← hY] at K9 hone hsame
        rw [← hRQ] at K9
        have K9H := Lib.hid K9
        have HONE := Lib.hid hone
        have HSAME := Lib.hid hsame
        have bw4 := bk.call bw3
        clear K9 hone hsame hY hRQ S1 hx9 bw2
        go_wp2_with fail
        refine K9H.out.mono ?_
        rintro e w4 ⟨qAw, qnw, qcw, qAb, qnb, qcb, rfl, _, _, _, _, _, _, b4⟩
        have bw5 := (bw4.call b4).new (.cells #[.int .u8 (RQ.f : Nat), .int .u16 (RQ.at' : Nat), .int .u16 (RQ.many : Nat), .int .u16 (RQ.to : Nat), .slice qAw qnw qcw, .slice qAb qnb qcb] 26)
        have gb := (bw5.cell (p := ⟨b, o, none⟩) hbl).trans g1
        clear bw4 b4 bw3
        by_cases hY1 : Y = 1
        · have hno : (fld k).isSome = false := HONE.out.1 hY1
          have hT : ((Y : Int) != 1) = false := by rw [hY1]; rfl
          by_cases hkx : k = x
          · exact absurd ((HSAME.out hkx).symm.trans hY1) (by decide)
          · have hU : ((k : Int) == (x : Int)) = false := by rw [beq_eq_false_iff_ne]; omega
            have HN := Lib.hid hno
            clear hY1 hkx hno
            go_wp2_with fail
            go_roundw
            case rel => exact ⟨k + 1, by omega, by go_num, by rw [hcs.out, HN.out]; simp, bw5⟩
            case measure => simp [intOf]; omega
        · have hyes : (fld k).isSome = true := by
            cases hh : (fld k).isSome
            · exact absurd (HONE.out.2 hh) hY1
            · rfl
          have hT : ((Y : Int) != 1) = true := by rw [bne_iff_ne]; omega
          by_cases hkx : k = x
          · have hU : ((k : Int) == (x : Int)) = true := by rw [hkx]; simp
            have hV : ((Y : Int) != 0) = false := by rw [HSAME.out hkx]; rfl
            have HN := Lib.hid hyes
            clear hY1 hkx hyes
            go_wp2_with fail
            go_roundw
            case rel => exact ⟨k + 1, by omega, by go_num, by rw [hcs.out, HN.out]; simp, bw5⟩
            case measure => simp [intOf]; omega
          · have hU : ((k : Int) == (x : Int)) = false := by rw [beq_eq_false_iff_ne]; omega
            have HN := Lib.hid hyes
            clear hY1 hkx hyes
            go_wp2_with fail
            go_roundw
            case rel => exact ⟨k + 1, by omega, by go_num, by rw [hcs.out, HN.out]; simp, bw5⟩
            case measure => simp [intOf]; omega
      · obtain rfl : k = 256 := by omega
        have hc9 : ((cnt 256 : Nat) : Int) = 9 := by rw [cnt_256]; rfl
        go_wp2_with (go_at_call 10; refine (awake_any _).mono ?_; rintro e wa ⟨rfl, ba⟩)
        go_ret
        exact ⟨rfl, bk.call ba⟩
  · have HLK := Lib.hid (congrArg Prod.snd hl)
    rw [hl] at KL
    rw [hp] at KP
    go_enter Try.func6, Try.ntmps6
    go_wp2_with fail
    refine (KL.out _ (Below.refl _ _)).mono ?_
    rintro e w1 ⟨Aw, nw, cw, Ab, nb, cb, rfl, SW, SB, hcw, hcb, oW, oB, b1⟩
    dsimp only [bare] at SW SB ⊢
    have r3 := heap_alloc_new w1 (.cells #[.int .u8 (x : Nat), .int .u16 0, .int .u16 0, .int .u16 0, .slice Aw nw cw, .slice Ab nb cb] 26)
    have hb := b1.new (.cells #[.int .u8 (x : Nat), .int .u16 0, .int .u16 0, .int .u16 0, .slice Aw nw cw, .slice Ab nb cb] 26)
    have b1n := (Below.refl w1.heap.size w1).new (.cells #[.int .u8 (x : Nat), .int .u16 0, .int .u16 0, .int .u16 0, .slice Aw nw cw, .slice Ab nb cb] 26)
    have SW := SW.to b1n
    have SB := SB.to b1n
    clear b1 b1n hcw hcb oW oB
    go_wp2_with fail
    refine (KP.out _ hb).mono ?_
    rintro e w2 ⟨Aw2, nw2, cw2, Ab2, nb2, cb2, rfl, SW2, SB2, hcw, hcb, oW, oB, b2⟩
    dsimp only [bare] at SW2 SB2 ⊢
    have r3 := b2.row (row_lt r3) r3
    have SW := SW.to b2
    have SB := SB.to b2
    have hb := hb.call b2
    have lt3 := row_lt r3
    have r5 := heap_alloc_new w2 (.cells #[.int .u8 0, .int .u16 0, .int .u16 0, .int .u16 0, .slice Aw2 nw2 cw2, .slice Ab2 nb2 cb2] 26)
    have r3 := row_alloc r3 (.cells #[.int .u8 0, .int .u16 0, .int .u16 0, .int .u16 0, .slice Aw2 nw2 cw2, .slice Ab2 nb2 cb2] 26)
    have b2n := (Below.refl w2.heap.size w2).new (.cells #[.int .u8 0, .int .u16 0, .int .u16 0, .int .u16 0, .slice Aw2 nw2 cw2, .slice Ab2 nb2 cb2] 26)
    have SW := SW.to b2n
    have SB := SB.to b2n
    have SW2 := SW2.to b2n
    have SB2 := SB2.to b2n
    have hb := hb.call b2n
    clear b2 b2n hcw hcb oW oB
    go_wp2_with fail
    obtain ⟨X, hX⟩ : ∃ X, X = w2.alloc (.cells #[.int .u8 0, .int .u16 0, .int .u16 0, .int .u16 0, .slice Aw2 nw2 cw2, .slice Ab2 nb2 cb2] 26) := ⟨_, rfl⟩
    rw [← hX] at r3 r5 SW SB SW2 SB2 hb ⊢
    obtain ⟨k3, e3⟩ : ∃ k, k = w1.heap.size := ⟨_, rfl⟩
    rw [← e3] at r3 lt3 ⊢
    obtain ⟨k5, e5⟩ : ∃ k, k = w2.heap.size := ⟨_, rfl⟩
    rw [← e5] at r5 lt3 ⊢
    clear hX e3 e5
    have gX : X.cell? ⟨b, o, none⟩ = _ := (hb.cell (p := ⟨b, o, none⟩) hbl).trans g1
    have hbX : b < X.heap.size := Nat.lt_of_lt_of_le hbl hb.size
    have R3 := Lib.hid r3
    have R5 := Lib.hid r5
    have GX := Lib.hid gX
    clear r3 r5 gX
    have KT := Lib.hid (fun Y (h : Below X.heap.size X Y) => same_any x 0 0 0 Aw nw cw Ab nb cb x 0 0 0 none 0 0 none 0 0 [] [] [] [] Y (SW.to h) (SB.to h) (Sl.empty _ _ _) (Sl.empty _ _ _) (by have := SW.len; simp at this; omega) (by have := SB.len; simp at this; omega) (by omega) (by omega))
    clear SW SB SW2 SB2
    refine wp_region_held_drew (S := fun w' => Below X.heap.size X w' ∧ w'.cell? ⟨b, o, none⟩ = some (.int .u8 (x : Nat)) ∧ w'.cell? ⟨k3, 0, none⟩ = some (.int .u8 (x : Nat)) ∧ w'.cell? ⟨k3, 1, none⟩ = some (.int .u16 0) ∧ w'.cell? ⟨k3, 2, none⟩ = some (.int .u16 0) ∧ w'.cell? ⟨k3, 3, none⟩ = some (.int .u16 0) ∧ w'.cell? ⟨k3, 4, none⟩ = some (.slice Aw nw cw) ∧ w'.cell? ⟨k3, 5, none⟩ = some (.slice Ab nb cb) ∧ w'.cell? ⟨k5, 0, none⟩ = some (.int .u8 0) ∧ w'.cell? ⟨k5, 1, none⟩ = some (.int .u16 0) ∧ w'.cell? ⟨k5, 2, none⟩ = some (.int .u16 0) ∧ w'.cell? ⟨k5, 3, none⟩ = some (.int .u16 0) ∧ w'.cell? ⟨k5, 4, none⟩ = some (.slice Aw2 nw2 cw2) ∧ w'.cell? ⟨k5, 5, none⟩ = some (.slice Ab2 nb2 cb2)) (by kernel_rfl) (keep13 (Below.refl _ _).drew R3.out R5.out hbX GX.out) (fun hHeld => ?_)
    refine wpAnyH_take (i := 0) (v := ?_) (by simp only [List.getElem?_toArray, List.getElem?_cons_succ, List.getElem?_cons_zero]; rfl) (by kernel_rfl) (by kernel_rfl) (by kernel_rfl) (by exact fun _ _ _ h => h) (Or.inl ⟨by kernel_rfl, ?_⟩) (by assumption) ?_
    rotate_left
    · intro w hSw
      (try dsimp only at hSw)
      go_simp
      try with_reducible rfl
    simp only [Act.put, List.setIfInBounds_toArray, List.set_cons_zero, List.set_cons_succ]
    refine wpAnyH_take (i := 1) (v := ?_) (by simp only [List.getElem?_toArray, List.getElem?_cons_succ, List.getElem?_cons_zero]; rfl) (by kernel_rfl) (by kernel_rfl) (by kernel_rfl) (by exact fun _ _ _ h => h) (Or.inl ⟨by kernel_rfl, ?_⟩) (by assumption) ?_
    rotate_left
    · intro w hSw
      (try dsimp only at hSw)
      go_simp
      try with_reducible rfl
    simp only [Act.put, List.setIfInBounds_toArray, List.set_cons_zero, List.set_cons_succ]
    refine wpAnyH_take (i := 2) (v := ?_) (by simp only [List.getElem?_toArray, List.getElem?_cons_succ, List.getElem?_cons_zero]; rfl) (by kernel_rfl) (by kernel_rfl) (by kernel_rfl) (by exact fun _ _ _ h => h) (Or.inl ⟨by kernel_rfl, ?_⟩) (by assumption) ?_
    rotate_left
    · intro w hSw
      (try dsimp only at hSw)
      go_simp
      try with_reducible rfl
    simp only [Act.put, List.setIfInBounds_toArray, List.set_cons_zero, List.set_cons_succ]
    refine wpAnyH_take (i := 3) (v := ?_) (by simp only [List.getElem?_toArray, List.getElem?_cons_succ, List.getElem?_cons_zero]; rfl) (by kernel_rfl) (by kernel_rfl) (by kernel_rfl) (by exact fun _ _ _ h => h) (Or.inl ⟨by kernel_rfl, ?_⟩) (by assumption) ?_
    rotate_left
    · intro w hSw
      (try dsimp only at hSw)
      go_simp
      try with_reducible rfl
    simp only [Act.put, List.setIfInBounds_toArray, List.set_cons_zero, List.set_cons_succ]
    refine wpAnyH_take (i := 4) (v := ?_) (by simp only [List.getElem?_toArray, List.getElem?_cons_succ, List.getElem?_cons_zero]; rfl) (by kernel_rfl) (by kernel_rfl) (by kernel_rfl) (by exact fun _ _ _ h => h) (Or.inl ⟨by kernel_rfl, ?_⟩) (by assumption) ?_
    rotate_left
    · intro w hSw
      (try dsimp only at hSw)
      go_simp
      try with_reducible rfl
    simp only [Act.put, List.setIfInBounds_toArray, List.set_cons_zero, List.set_cons_succ]
    refine wpAnyH_take (i := 5) (v := ?_) (by simp only [List.getElem?_toArray, List.getElem?_cons_succ, List.getElem?_cons_zero]; rfl) (by kernel_rfl) (by kernel_rfl) (by kernel_rfl) (by exact fun _ _ _ h => h) (Or.inl ⟨by kernel_rfl, ?_⟩) (by assumption) ?_
    rotate_left
    · intro w hSw
      (try dsimp only at hSw)
      go_simp
      try with_reducible rfl
    simp only [Act.put, List.setIfInBounds_toArray, List.set_cons_zero, List.set_cons_succ]
    refine wpAnyH_take (i := 6) (v := ?_) (by simp only [List.getElem?_toArray, List.getElem?_cons_succ, List.getElem?_cons_zero]; rfl) (by kernel_rfl) (by kernel_rfl) (by kernel_rfl) (by exact fun _ _ _ h => h) (Or.inl ⟨by kernel_rfl, ?_⟩) (by assumption) ?_
    rotate_left
    · intro w hSw
      (try dsimp only at hSw)
      go_simp
      try with_reducible rfl
    simp only [Act.put, List.setIfInBounds_toArray, List.set_cons_zero, List.set_cons_succ]
    refine wpAnyH_take (i := 7) (v := ?_) (by simp only [List.getElem?_toArray, List.getElem?_cons_succ, List.getElem?_cons_zero]; rfl) (by kernel_rfl) (by kernel_rfl) (by kernel_rfl) (by exact fun _ _ _ h => h) (Or.inl ⟨by kernel_rfl, ?_⟩) (by assumption) ?_
    rotate_left
    · intro w hSw
      (try dsimp only at hSw)
      go_simp
      try with_reducible rfl
    simp only [Act.put, List.setIfInBounds_toArray, List.set_cons_zero, List.set_cons_succ]
    refine wpAnyH_take (i := 8) (v := ?_) (by simp only [List.getElem?_toArray, List.getElem?_cons_succ, List.getElem?_cons_zero]; rfl) (by kernel_rfl) (by kernel_rfl) (by kernel_rfl) (by exact fun _ _ _ h => h) (Or.inl ⟨by kernel_rfl, ?_⟩) (by assumption) ?_
    rotate_left
    · intro w hSw
      (try dsimp only at hSw)
      go_simp
      try with_reducible rfl
    simp only [Act.put, List.setIfInBounds_toArray, List.set_cons_zero, List.set_cons_succ]
    refine wpAnyH_take (i := 9) (v := ?_) (by simp only [List.getElem?_toArray, List.getElem?_cons_succ, List.getElem?_cons_zero]; rfl) (by kernel_rfl) (by kernel_rfl) (by kernel_rfl) (by exact fun _ _ _ h => h) (Or.inl ⟨by kernel_rfl, ?_⟩) (by assumption) ?_
    rotate_left
    · intro w hSw
      (try dsimp only at hSw)
      go_simp
      try with_reducible rfl
    simp only [Act.put, List.setIfInBounds_toArray, List.set_cons_zero, List.set_cons_succ]
    refine wpAnyH_take (i := 10) (v := ?_) (by simp only [List.getElem?_toArray, List.getElem?_cons_succ, List.getElem?_cons_zero]; rfl) (by kernel_rfl) (by kernel_rfl) (by kernel_rfl) (by exact fun _ _ _ h => h) (Or.inl ⟨by kernel_rfl, ?_⟩) (by assumption) ?_
    rotate_left
    · intro w hSw
      (try dsimp only at hSw)
      go_simp
      try with_reducible rfl
    simp only [Act.put, List.setIfInBounds_toArray, List.set_cons_zero, List.set_cons_succ]
    refine wpAnyH_take (i := 11) (v := ?_) (by simp only [List.getElem?_toArray, List.getElem?_cons_succ, List.getElem?_cons_zero]; rfl) (by kernel_rfl) (by kernel_rfl) (by kernel_rfl) (by exact fun _ _ _ h => h) (Or.inl ⟨by kernel_rfl, ?_⟩) (by assumption) ?_
    rotate_left
    · intro w hSw
      (try dsimp only at hSw)
      go_simp
      try with_reducible rfl
    simp only [Act.put, List.setIfInBounds_toArray, List.set_cons_zero, List.set_cons_succ]
    refine wpAnyH_take (i := 12) (v := ?_) (by simp only [List.getElem?_toArray, List.getElem?_cons_succ, List.getElem?_cons_zero]; rfl) (by kernel_rfl) (by kernel_rfl) (by kernel_rfl) (by exact fun _ _ _ h => h) (Or.inl ⟨by kernel_rfl, ?_⟩) (by assumption) ?_
    rotate_left
    · intro w hSw
      (try dsimp only at hSw)
      go_simp
      try with_reducible rfl
    simp only [Act.put, List.setIfInBounds_toArray, List.set_cons_zero, List.set_cons_succ]
    refine wpAnyH_take (i := 13) (v := ?_) (by simp only [List.getElem?_toArray, List.getElem?_cons_succ, List.getElem?_cons_zero]; rfl) (by kernel_rfl) (by kernel_rfl) (by kernel_rfl) (by exact fun _ _ _ h => h) (Or.inl ⟨by kernel_rfl, ?_⟩) (by assumption) ?_
    rotate_left
    · intro w hSw
      (try dsimp only at hSw)
      go_simp
      try with_reducible rfl
    simp only [Act.put, List.setIfInBounds_toArray, List.set_cons_zero, List.set_cons_succ]
    refine wpAnyH_take (i := 14) (v := ?_) (by simp only [List.getElem?_toArray, List.getElem?_cons_succ, List.getElem?_cons_zero]; rfl) (by kernel_rfl) (by kernel_rfl) (by kernel_rfl) (by exact fun _ _ _ h => h) (Or.inl ⟨by kernel_rfl, ?_⟩) (by assumption) ?_
    rotate_left
    · intro w hSw
      (try dsimp only at hSw)
      go_simp
      try with_reducible rfl
    simp only [Act.put, List.setIfInBounds_toArray, List.set_cons_zero, List.set_cons_succ]
    refine wpAnyH_take (i := 15) (v := ?_) (by simp only [List.getElem?_toArray, List.getElem?_cons_succ, List.getElem?_cons_zero]; rfl) (by kernel_rfl) (by kernel_rfl) (by kernel_rfl) (by exact fun _ _ _ h => h) (Or.inl ⟨by kernel_rfl, ?_⟩) (by assumption) ?_
    rotate_left
    · intro w hSw
      (try dsimp only at hSw)
      go_simp
      try with_reducible rfl
    simp only [Act.put, List.setIfInBounds_toArray, List.set_cons_zero, List.set_cons_succ]
    refine wpAnyH_take (i := 16) (v := ?_) (by simp only [List.getElem?_toArray, List.getElem?_cons_succ, List.getElem?_cons_zero]; rfl) (by kernel_rfl) (by kernel_rfl) (by kernel_rfl) (by exact fun _ _ _ h => h) (Or.inl ⟨by kernel_rfl, ?_⟩) (by assumption) ?_
    rotate_left
    · intro w hSw
      (try dsimp only at hSw)
      go_simp
      try with_reducible rfl
    simp only [Act.put, List.setIfInBounds_toArray, List.set_cons_zero, List.set_cons_succ]
    refine wpAnyH_take (i := 17) (v := undef) (by simp only [List.getElem?_toArray, List.getElem?_cons_succ, List.getElem?_cons_zero]; rfl) (by kernel_rfl) (by kernel_rfl) (by kernel_rfl) (by exact fun _ _ _ h => h) (Or.inr ⟨by kernel_rfl, rfl⟩) (by assumption) ?_
    simp only [Act.put, List.setIfInBounds_toArray, List.set_cons_zero, List.set_cons_succ]
    refine wpAnyH_take (i := 18) (v := undef) (by simp only [List.getElem?_toArray, List.getElem?_cons_succ, List.getElem?_cons_zero]; rfl) (by kernel_rfl) (by kernel_rfl) (by kernel_rfl) (by exact fun _ _ _ h => h) (Or.inr ⟨by kernel_rfl, rfl⟩) (by assumption) ?_
    simp only [Act.put, List.setIfInBounds_toArray, List.set_cons_zero, List.set_cons_succ]
    refine wpAnyH_take (i := 19) (v := undef) (by simp only [List.getElem?_toArray, List.getElem?_cons_succ, List.getElem?_cons_zero]; rfl) (by kernel_rfl) (by kernel_rfl) (by kernel_rfl) (by exact fun _ _ _ h => h) (Or.inr ⟨by kernel_rfl, rfl⟩) (by assumption) ?_
    simp only [Act.put, List.setIfInBounds_toArray, List.set_cons_zero, List.set_cons_succ]
    refine wpAnyH_take (i := 20) (v := undef) (by simp only [List.getElem?_toArray, List.getElem?_cons_succ, List.getElem?_cons_zero]; rfl) (by kernel_rfl) (by kernel_rfl) (by kernel_rfl) (by exact fun _ _ _ h => h) (Or.inr ⟨by kernel_rfl, rfl⟩) (by assumption) ?_
    simp only [Act.put, List.setIfInBounds_toArray, List.set_cons_zero, List.set_cons_succ]
    refine wpAnyH_take (i := 21) (v := ?_) (by simp only [List.getElem?_toArray, List.getElem?_cons_succ, List.getElem?_cons_zero]; rfl) (by kernel_rfl) (by kernel_rfl) (by kernel_rfl) (by exact fun _ _ _ h => h) (Or.inl ⟨by kernel_rfl, ?_⟩) (by assumption) ?_
    rotate_left
    · intro w hSw
      (try dsimp only at hSw)
      go_simp
      try with_reducible rfl
    simp only [Act.put, List.setIfInBounds_toArray, List.set_cons_zero, List.set_cons_succ]
    refine wpAnyH_take (i := 22) (v := ?_) (by simp only [List.getElem?_toArray, List.getElem?_cons_succ, List.getElem?_cons_zero]; rfl) (by kernel_rfl) (by kernel_rfl) (by kernel_rfl) (by exact fun _ _ _ h => h) (Or.inl ⟨by kernel_rfl, ?_⟩) (by assumption) ?_
    rotate_left
    · intro w hSw
      (try dsimp only at hSw)
      go_simp
      try with_reducible rfl
    simp only [Act.put, List.setIfInBounds_toArray, List.set_cons_zero, List.set_cons_succ]
    refine wpAnyH_take (i := 23) (v := ?_) (by simp only [List.getElem?_toArray, List.getElem?_cons_succ, List.getElem?_cons_zero]; rfl) (by kernel_rfl) (by kernel_rfl) (by kernel_rfl) (by exact fun _ _ _ h => h) (Or.inl ⟨by kernel_rfl, ?_⟩) (by assumption) ?_
    rotate_left
    · intro w hSw
      (try dsimp only at hSw)
      go_simp
      try with_reducible rfl
    simp only [Act.put, List.setIfInBounds_toArray, List.set_cons_zero, List.set_cons_succ]
    refine wpAnyH_take (i := 24) (v := ?_) (by simp only [List.getElem?_toArray, List.getElem?_cons_succ, List.getElem?_cons_zero]; rfl) (by kernel_rfl) (by kernel_rfl) (by kernel_rfl) (by exact fun _ _ _ h => h) (Or.inl ⟨by kernel_rfl, ?_⟩) (by assumption) ?_
    rotate_left
    · intro w hSw
      (try dsimp only at hSw)
      go_simp
      try with_reducible rfl
    simp only [Act.put, List.setIfInBounds_toArray, List.set_cons_zero, List.set_cons_succ]
    refine wpAnyH_take (i := 25) (v := ?_) (by simp only [List.getElem?_toArray, List.getElem?_cons_succ, List.getElem?_cons_zero]; rfl) (by kernel_rfl) (by kernel_rfl) (by kernel_rfl) (by exact fun _ _ _ h => h) (Or.inl ⟨by kernel_rfl, ?_⟩) (by assumption) ?_
    rotate_left
    · intro w hSw
      (try dsimp only at hSw)
      go_simp
      try with_reducible rfl
    simp only [Act.put, List.setIfInBounds_toArray, List.set_cons_zero, List.set_cons_succ]
    refine wpAnyH_take (i := 26) (v := ?_) (by simp only [List.getElem?_toArray, List.getElem?_cons_succ, List.getElem?_cons_zero]; rfl) (by kernel_rfl) (by kernel_rfl) (by kernel_rfl) (by exact fun _ _ _ h => h) (Or.inl ⟨by kernel_rfl, ?_⟩) (by assumption) ?_
    rotate_left
    · intro w hSw
      (try dsimp only at hSw)
      go_simp
      try with_reducible rfl
    simp only [Act.put, List.setIfInBounds_toArray, List.set_cons_zero, List.set_cons_succ]
    refine wpAnyH_take (i := 27) (v := ?_) (by simp only [List.getElem?_toArray, List.getElem?_cons_succ, List.getElem?_cons_zero]; rfl) (by kernel_rfl) (by kernel_rfl) (by kernel_rfl) (by exact fun _ _ _ h => h) (Or.inl ⟨by kernel_rfl, ?_⟩) (by assumption) ?_
    rotate_left
    · intro w hSw
      (try dsimp only at hSw)
      go_simp
      try with_reducible rfl
    simp only [Act.put, List.setIfInBounds_toArray, List.set_cons_zero, List.set_cons_succ]
    refine wpAnyH_take (i := 28) (v := ?_) (by simp only [List.getElem?_toArray, List.getElem?_cons_succ, List.getElem?_cons_zero]; rfl) (by kernel_rfl) (by kernel_rfl) (by kernel_rfl) (by exact fun _ _ _ h => h) (Or.inl ⟨by kernel_rfl, ?_⟩) (by assumption) ?_
    rotate_left
    · intro w hSw
      (try dsimp only at hSw)
      go_simp
      try with_reducible rfl
    simp only [Act.put, List.setIfInBounds_toArray, List.set_cons_zero, List.set_cons_succ]
    refine wpAnyH_take (i := 29) (v := ?_) (by simp only [List.getElem?_toArray, List.getElem?_cons_succ, List.getElem?_cons_zero]; rfl) (by kernel_rfl) (by kernel_rfl) (by kernel_rfl) (by exact fun _ _ _ h => h) (Or.inl ⟨by kernel_rfl, ?_⟩) (by assumption) ?_
    rotate_left
    · intro w hSw
      (try dsimp only at hSw)
      go_simp
      try with_reducible rfl
    simp only [Act.put, List.setIfInBounds_toArray, List.set_cons_zero, List.set_cons_succ]
    refine wpAnyH_take (i := 30) (v := ?_) (by simp only [List.getElem?_toArray, List.getElem?_cons_succ, List.getElem?_cons_zero]; rfl) (by kernel_rfl) (by kernel_rfl) (by kernel_rfl) (by exact fun _ _ _ h => h) (Or.inl ⟨by kernel_rfl, ?_⟩) (by assumption) ?_
    rotate_left
    · intro w hSw
      (try dsimp only at hSw)
      go_simp
      try with_reducible rfl
    simp only [Act.put, List.setIfInBounds_toArray, List.set_cons_zero, List.set_cons_succ]
    refine wpAnyH_take (i := 31) (v := ?_) (by simp only [List.getElem?_toArray, List.getElem?_cons_succ, List.getElem?_cons_zero]; rfl) (by kernel_rfl) (by kernel_rfl) (by kernel_rfl) (by exact fun _ _ _ h => h) (Or.inl ⟨by kernel_rfl, ?_⟩) (by assumption) ?_
    rotate_left
    · intro w hSw
      (try dsimp only at hSw)
      go_simp
      try with_reducible rfl
    simp only [Act.put, List.setIfInBounds_toArray, List.set_cons_zero, List.set_cons_succ]
    refine wpAnyH_ready (rs := [32]) (by kernel_rfl) (by simp) ?_
    refine AllReadyH.cons (by simp only [List.getElem?_toArray, List.getElem?_cons_succ, List.getElem?_cons_zero]; rfl) (fun K hK => ?_) AllReadyH.nil
    rw [if_pos (by kernel_rfl)]
    go_simp
    refine (KT.out _ ((Below.refl _ _).drew)).mono ?_
    rintro e wt ⟨rfl, bt⟩
    have hbd := Below.call (a := X) (Below.refl _ _).drew bt
    simp only [beq_self_eq_true, Bool.and_true]
    go_wp2_with fail
    refine hK.out _ _ ?_ (fun hHeld => ?_)
    · exact keep13 hbd R3.out R5.out hbX GX.out
    clear hK K
    try simp only [Act.put, List.setIfInBounds_toArray, List.set_cons_zero, List.set_cons_succ]
    refine wpAnyH_take (i := 33) (v := ?_) (by simp only [List.getElem?_toArray, List.getElem?_cons_succ, List.getElem?_cons_zero]; rfl) (by kernel_rfl) (by kernel_rfl) (by kernel_rfl) (by exact fun _ _ _ h => h) (Or.inl ⟨by kernel_rfl, ?_⟩) (by assumption) ?_
    rotate_left
    · intro w hSw
      (try dsimp only at hSw)
      go_simp
      try with_reducible rfl
    simp only [Act.put, List.setIfInBounds_toArray, List.set_cons_zero, List.set_cons_succ]
    refine wpAnyH_take (i := 34) (v := ?_) (by simp only [List.getElem?_toArray, List.getElem?_cons_succ, List.getElem?_cons_zero]; rfl) (by kernel_rfl) (by kernel_rfl) (by kernel_rfl) (by exact fun _ _ _ h => h) (Or.inl ⟨by kernel_rfl, ?_⟩) (by assumption) ?_
    rotate_left
    · intro w hSw
      (try dsimp only at hSw)
      go_simp
      try with_reducible rfl
    simp only [Act.put, List.setIfInBounds_toArray, List.set_cons_zero, List.set_cons_succ]
    refine wpAnyH_take (i := 35) (v := ?_) (by simp only [List.getElem?_toArray, List.getElem?_cons_succ, List.getElem?_cons_zero]; rfl) (by kernel_rfl) (by kernel_rfl) (by kernel_rfl) (by exact fun _ _ _ h => h) (Or.inl ⟨by kernel_rfl, ?_⟩) (by assumption) ?_
    rotate_left
    · intro w hSw
      (try dsimp only at hSw)
      go_simp
      try with_reducible rfl
    simp only [Act.put, List.setIfInBounds_toArray, List.set_cons_zero, List.set_cons_succ]
    refine wpAnyH_take (i := 36) (v := ?_) (by simp only [List.getElem?_toArray, List.getElem?_cons_succ, List.getElem?_cons_zero]; rfl) (by kernel_rfl) (by kernel_rfl) (by kernel_rfl) (by exact fun _ _ _ h => h) (Or.inl ⟨by kernel_rfl, ?_⟩) (by assumption) ?_
    rotate_left
    · intro w hSw
      (try dsimp only at hSw)
      go_simp
      try with_reducible rfl
    simp only [Act.put, List.setIfInBounds_toArray, List.set_cons_zero, List.set_cons_succ]
    refine wpAnyH_take (i := 37) (v := ?_) (by simp only [List.getElem?_toArray, List.getElem?_cons_succ, List.getElem?_cons_zero]; rfl) (by kernel_rfl) (by kernel_rfl) (by kernel_rfl) (by exact fun _ _ _ h => h) (Or.inl ⟨by kernel_rfl, ?_⟩) (by assumption) ?_
    rotate_left
    · intro w hSw
      (try dsimp only at hSw)
      go_simp
      try with_reducible rfl
    simp only [Act.put, List.setIfInBounds_toArray, List.set_cons_zero, List.set_cons_succ]
    refine wpAnyH_take (i := 38) (v := ?_) (by simp only [List.getElem?_toArray, List.getElem?_cons_succ, List.getElem?_cons_zero]; rfl) (by kernel_rfl) (by kernel_rfl) (by kernel_rfl) (by exact fun _ _ _ h => h) (Or.inl ⟨by kernel_rfl, ?_⟩) (by assumption) ?_
    rotate_left
    · intro w hSw
      (try dsimp only at hSw)
      go_simp
      try with_reducible rfl
    simp only [Act.put, List.setIfInBounds_toArray, List.set_cons_zero, List.set_cons_succ]
    refine wpAnyH_take (i := 39) (v := ?_) (by simp only [List.getElem?_toArray, List.getElem?_cons_succ, List.getElem?_cons_zero]; rfl) (by kernel_rfl) (by kernel_rfl) (by kernel_rfl) (by exact fun _ _ _ h => h) (Or.inl ⟨by kernel_rfl, ?_⟩) (by assumption) ?_
    rotate_left
    · intro w hSw
      (try dsimp only at hSw)
      go_simp
      try with_reducible rfl
    simp only [Act.put, List.setIfInBounds_toArray, List.set_cons_zero, List.set_cons_succ]
    refine wpAnyH_take (i := 40) (v := ?_) (by simp only [List.getElem?_toArray, List.getElem?_cons_succ, List.getElem?_cons_zero]; rfl) (by kernel_rfl) (by kernel_rfl) (by kernel_rfl) (by exact fun _ _ _ h => h) (Or.inl ⟨by kernel_rfl, ?_⟩) (by assumption) ?_
    rotate_left
    · intro w hSw
      (try dsimp only at hSw)
      go_simp
      try with_reducible rfl
    simp only [Act.put, List.setIfInBounds_toArray, List.set_cons_zero, List.set_cons_succ]
    refine wpAnyH_take (i := 41) (v := ?_) (by simp only [List.getElem?_toArray, List.getElem?_cons_succ, List.getElem?_cons_zero]; rfl) (by kernel_rfl) (by kernel_rfl) (by kernel_rfl) (by exact fun _ _ _ h => h) (Or.inl ⟨by kernel_rfl, ?_⟩) (by assumption) ?_
    rotate_left
    · intro w hSw
      (try dsimp only at hSw)
      go_simp
      try with_reducible rfl
    simp only [Act.put, List.setIfInBounds_toArray, List.set_cons_zero, List.set_cons_succ]
    refine wpAnyH_take (i := 42) (v := ?_) (by simp only [List.getElem?_toArray, List.getElem?_cons_succ, List.getElem?_cons_zero]; rfl) (by kernel_rfl) (by kernel_rfl) (by kernel_rfl) (by exact fun _ _ _ h => h) (Or.inl ⟨by kernel_rfl, ?_⟩) (by assumption) ?_
    rotate_left
    · intro w hSw
      (try dsimp only at hSw)
      go_simp
      try with_reducible rfl
    simp only [Act.put, List.setIfInBounds_toArray, List.set_cons_zero, List.set_cons_succ]
    refine wpAnyH_take (i := 43) (v := ?_) (by simp only [List.getElem?_toArray, List.getElem?_cons_succ, List.getElem?_cons_zero]; rfl) (by kernel_rfl) (by kernel_rfl) (by kernel_rfl) (by exact fun _ _ _ h => h) (Or.inl ⟨by kernel_rfl, ?_⟩) (by assumption) ?_
    rotate_left
    · intro w hSw
      (try dsimp only at hSw)
      go_simp
      try with_reducible rfl
    simp only [Act.put, List.setIfInBounds_toArray, List.set_cons_zero, List.set_cons_succ]
    refine wpAnyH_take (i := 44) (v := undef) (by simp only [List.getElem?_toArray, List.getElem?_cons_succ, List.getElem?_cons_zero]; rfl) (by kernel_rfl) (by kernel_rfl) (by kernel_rfl) (by exact fun _ _ _ h => h) (Or.inr ⟨by kernel_rfl, rfl⟩) (by assumption) ?_
    simp only [Act.put, List.setIfInBounds_toArray, List.set_cons_zero, List.set_cons_succ]
    refine wpAnyH_take (i := 45) (v := undef) (by simp only [List.getElem?_toArray, List.getElem?_cons_succ, List.getElem?_cons_zero]; rfl) (by kernel_rfl) (by kernel_rfl) (by kernel_rfl) (by exact fun _ _ _ h => h) (Or.inr ⟨by kernel_rfl, rfl⟩) (by assumption) ?_
    simp only [Act.put, List.setIfInBounds_toArray, List.set_cons_zero, List.set_cons_succ]
    refine wpAnyH_take (i := 46) (v := ?_) (by simp only [List.getElem?_toArray, List.getElem?_cons_succ, List.getElem?_cons_zero]; rfl) (by kernel_rfl) (by kernel_rfl) (by kernel_rfl) (by exact fun _ _ _ h => h) (Or.inl ⟨by kernel_rfl, ?_⟩) (by assumption) ?_
    rotate_left
    · intro w hSw
      (try dsimp only at hSw)
      go_simp
      try with_reducible rfl
    simp only [Act.put, List.setIfInBounds_toArray, List.set_cons_zero, List.set_cons_succ]
    refine wpAnyH_take (i := 47) (v := ?_) (by simp only [List.getElem?_toArray, List.getElem?_cons_succ, List.getElem?_cons_zero]; rfl) (by kernel_rfl) (by kernel_rfl) (by kernel_rfl) (by exact fun _ _ _ h => h) (Or.inl ⟨by kernel_rfl, ?_⟩) (by assumption) ?_
    rotate_left
    · intro w hSw
      (try dsimp only at hSw)
      go_simp
      try with_reducible rfl
    simp only [Act.put, List.setIfInBounds_toArray, List.set_cons_zero, List.set_cons_succ]
    refine wpAnyH_done (by kernel_rfl) ?_ _
    have hbw : Below w.heap.size w _ := hb.trans (hbd.mono hb.size)
    obtain ⟨Z, eZ⟩ : ∃ Z : World, Z = Z := ⟨X, rfl⟩
    clear eZ Z KT
    go_wp2_with fail
    go_loopw [7, 79] (fun u i wr => ∃ k : Nat, k ≤ 256 ∧ i = .int .i64 k ∧ u = .int .i64 (cnt k : Nat) ∧ Below w.heap.size w wr) (fun _ i _ => 256 - (intOf i).toNat)
    case atStart => exact ⟨0, by omega, rfl, rfl, hbw⟩
    case round =>
      obtain ⟨k, hk, rfl, rfl, bk⟩ := hrel
      by_cases hlt : k < 256
      · have hkw : IntKind.u8.wrap (k : Int) = k := by rw [IntKind.wrap_u8]; omega
        have hcw : IntKind.i64.wrap (((cnt k : Nat) : Int) + 1) = ((cnt k : Nat) : Int) + 1 := by rw [IntKind.wrap_i64]; have := cnt_le k; omega
        have hcs := Lib.hid (show cnt (k + 1) = cnt k + if (fld k).isSome then 1 else 0 from rfl)
        obtain ⟨ck, ecn⟩ : ∃ c, c = cnt k := ⟨_, rfl⟩
        rw [← ecn] at hcs hcw ⊢
        clear ecn
        have S0 := (HS.out.to bk).to ((Below.refl _ _).new (.cells #[] 5))
        go_wp2_with (at_builtin; go_loud (refine wpList_app _root_.Go.Proofs.Ytpajpcaninjhfaa.AskW.u8 rfl (.tmp 82) (.tmp 83) rfl (Has.made0 (Below.refl wr.heap.size wr) _) rfl S0 rfl (bs_one _) (by omega) (by simp only [maxLen]; omega) ?_; intro v2 w2 H2 g2 o2; obtain ⟨g, cap, cur, rfl, hge, hg, hcap, hmax, hsz, hcur⟩ := Or.resolve_left H2.own.2 (fun h => absurd h.2 (by omega)); have gx := (cell_of_row w2 g 0 _ _ _ hg).trans (cur0 z1n HQ.out hcur); have fx := frozen_of_row w2 g 0 _ _ hg; have bw2 := H2.bel; have HG := Lib.hid hg; have HCUR := Lib.hid hcur; have HCAP := Lib.hid hcap; clear H2 hg hcur hcap g2 o2 hmax hsz S0))
        have S1 := Sl.set0 (y := k) HG.out z1n HQ.out (by have := HCUR.out; simpa using this)
        have bw3 := bw2.setCell (p := ⟨g, 0, none⟩) hge (.int .u8 (k : Nat))
        have hx9 : Bytes (k :: xs.drop 1) := by
          intro c9 hc9
          rcases List.mem_cons.1 hc9 with rfl | hc9
          · omega
          · exact HX.out.drop 1 c9 hc9
        have K9 := look_any (some ⟨g, 0, none⟩) n cap (k :: xs.drop 1) _ S1 hx9 (by omega) (by have := HCAP.out; omega)
        have hone := (look_one k (xs.drop 1)).1
        have hsame : k = x → (lookF (k :: xs.drop 1)).2 = 1 := by
          intro hkx
          have : k :: xs.drop 1 = xs := by
            rw [hkx, HEX.out]
            match xs, HQ.out with
            | y :: r, _ => rfl
            | [], h => simp at h; omega
          rw [this, HLK.out]
        obtain ⟨Y, hY⟩ : ∃ Y, Y = (lookF (k :: xs.drop 1)).2 := ⟨_, rfl⟩
        obtain ⟨RQ, hRQ⟩ : ∃ Y, Y = (lookF (k :: xs.drop 1)).1 := ⟨_, rfl⟩
        rw [← hY] at K9 hone hsame
        rw [← hRQ] at K9
        have K9H := Lib.hid K9
        have HONE := Lib.hid hone
        have HSAME := Lib.hid hsame
        have bw4 := bk.call bw3
        clear K9 hone hsame hY hRQ S1 hx9 bw2
        go_wp2_with fail
        refine K9H.out.mono ?_
        rintro e w4 ⟨qAw, qnw, qcw, qAb, qnb, qcb, rfl, _, _, _, _, _, _, b4⟩
        have bw5 := (bw4.call b4).new (.cells #[.int .u8 (RQ.f : Nat), .int .u16 (RQ.at' : Nat), .int .u16 (RQ.many : Nat), .int .u16 (RQ.to : Nat), .slice qAw qnw qcw, .slice qAb qnb qcb] 26)
        have gb := (bw5.cell (p := ⟨b, o, none⟩) hbl).trans g1
        clear bw4 b4 bw3
        by_cases hY1 : Y = 1
        · have hno : (fld k).isSome = false := HONE.out.1 hY1
          have hT : ((Y : Int) != 1) = false := by rw [hY1]; rfl
          by_cases hkx : k = x
          · have hU : ((k : Int) == (x : Int)) = true := by rw [hkx]; simp
            have hV : ((Y : Int) != 1) = false := by rw [HSAME.out hkx]; rfl
            have HN := Lib.hid hno
            clear hY1 hkx hno
            go_wp2_with fail
            go_roundw
            case rel => exact ⟨k + 1, by omega, by go_num, by rw [hcs.out, HN.out]; simp, bw5⟩
            case measure => simp [intOf]; omega
          · have hU : ((k : Int) == (x : Int)) = false := by rw [beq_eq_false_iff_ne]; omega
            have HN := Lib.hid hno
            clear hY1 hkx hno
            go_wp2_with fail
            go_roundw
            case rel => exact ⟨k + 1, by omega, by go_num, by rw [hcs.out, HN.out]; simp, bw5⟩
            case measure => simp [intOf]; omega
        · have hyes : (fld k).isSome = true := by
            cases hh : (fld k).isSome
            · exact absurd (HONE.out.2 hh) hY1
            · rfl
          have hT : ((Y : Int) != 1) = true := by rw [bne_iff_ne]; omega
          by_cases hkx : k = x
          · exact absurd (HSAME.out hkx) hY1
          · have hU : ((k : Int) == (x : Int)) = false := by rw [beq_eq_false_iff_ne]; omega
            have HN := Lib.hid hyes
            clear hY1 hkx hyes
            go_wp2_with fail
            go_roundw
            case rel => exact ⟨k + 1, by omega, by go_num, by rw [hcs.out, HN.out]; simp, bw5⟩
            case measure => simp [intOf]; omega
      · obtain rfl : k = 256 := by omega
        have hc9 : ((cnt 256 : Nat) : Int) = 9 := by rw [cnt_256]; rfl
        go_wp2_with (go_at_call 10; refine (awake_any _).mono ?_; rintro e wa ⟨rfl, ba⟩)
        go_ret
        exact ⟨rfl, bk.call ba⟩
  · have HLK := Lib.hid (congrArg Prod.snd hl)
    rw [hl] at KL
    rw [hp] at KP
    go_enter Try.func6, Try.ntmps6
    go_wp2_with fail
    refine (KL.out _ (Below.refl _ _)).mono ?_
    rintro e w1 ⟨Aw, nw, cw, Ab, nb, cb, rfl, SW, SB, hcw, hcb, oW, oB, b1⟩
    dsimp only [bare] at SW SB ⊢
    have r3 := heap_alloc_new w1 (.cells #[.int .u8 (x : Nat), .int .u16 0, .int .u16 0, .int .u16 0, .slice Aw nw cw, .slice Ab nb cb] 26)
    have hb := b1.new (.cells #[.int .u8 (x : Nat), .int .u16 0, .int .u16 0, .int .u16 0, .slice Aw nw cw, .slice Ab nb cb] 26)
    have b1n := (Below.refl w1.heap.size w1).new (.cells #[.int .u8 (x : Nat), .int .u16 0, .int .u16 0, .int .u16 0, .slice Aw nw cw, .slice Ab nb cb] 26)
    have SW := SW.to b1n
    have SB := SB.to b1n
    clear b1 b1n hcw hcb oW oB
    go_wp2_with fail
    refine (KP.out _ hb).mono ?_
    rintro e w2 ⟨Aw2, nw2, cw2, Ab2, nb2, cb2, rfl, SW2, SB2, hcw, hcb, oW, oB, b2⟩
    dsimp only [bare] at SW2 SB2 ⊢
    have r3 := b2.row (row_lt r3) r3
    have SW := SW.to b2
    have SB := SB.to b2
    have hb := hb.call b2
    have lt3 := row_lt r3
    have r5 := heap_alloc_new w2 (.cells #[.int .u8 0, .int .u16 0, .int .u16 0, .int .u16 0, .slice Aw2 nw2 cw2, .slice Ab2 nb2 cb2] 26)
    have r3 := row_alloc r3 (.cells #[.int .u8 0, .int .u16 0, .int .u16 0, .int .u16 0, .slice Aw2 nw2 cw2, .slice Ab2 nb2 cb2] 26)
    have b2n := (Below.refl w2.heap.size w2).new (.cells #[.int .u8 0, .int .u16 0, .int .u16 0, .int .u16 0, .slice Aw2 nw2 cw2, .slice Ab2 nb2 cb2] 26)
    have SW := SW.to b2n
    have SB := SB.to b2n
    have SW2 := SW2.to b2n
    have SB2 := SB2.to b2n
    have hb := hb.call b2n
    clear b2 b2n hcw hcb oW oB
    go_wp2_with fail
    obtain ⟨X, hX⟩ : ∃ X, X = w2.alloc (.cells #[.int .u8 0, .int .u16 0, .int .u16 0, .int .u16 0, .slice Aw2 nw2 cw2, .slice Ab2 nb2 cb2] 26) := ⟨_, rfl⟩
    rw [← hX] at r3 r5 SW SB SW2 SB2 hb ⊢
    obtain ⟨k3, e3⟩ : ∃ k, k = w1.heap.size := ⟨_, rfl⟩
    rw [← e3] at r3 lt3 ⊢
    obtain ⟨k5, e5⟩ : ∃ k, k = w2.heap.size := ⟨_, rfl⟩
    rw [← e5] at r5 lt3 ⊢
    clear hX e3 e5
    have gX : X.cell? ⟨b, o, none⟩ = _ := (hb.cell (p := ⟨b, o, none⟩) hbl).trans g1
    have hbX : b < X.heap.size := Nat.lt_of_lt_of_le hbl hb.size
    have R3 := Lib.hid r3
    have R5 := Lib.hid r5
    have GX := Lib.hid gX
    clear r3 r5 gX
    have KT := Lib.hid (fun Y (h : Below X.heap.size X Y) => same_any x 0 0 0 Aw nw cw Ab nb cb x 0 0 0 none 0 0 none 0 0 [] [] [] [] Y (SW.to h) (SB.to h) (Sl.empty _ _ _) (Sl.empty _ _ _) (by have := SW.len; simp at this; omega) (by have := SB.len; simp at this; omega) (by omega) (by omega))
    clear SW SB SW2 SB2
    refine wp_region_held_drew (S := fun w' => Below X.heap.size X w' ∧ w'.cell? ⟨b, o, none⟩ = some (.int .u8 (x : Nat)) ∧ w'.cell? ⟨k3, 0, none⟩ = some (.int .u8 (x : Nat)) ∧ w'.cell? ⟨k3, 1, none⟩ = some (.int .u16 0) ∧ w'.cell? ⟨k3, 2, none⟩ = some (.int .u16 0) ∧ w'.cell? ⟨k3, 3, none⟩ = some (.int .u16 0) ∧ w'.cell? ⟨k3, 4, none⟩ = some (.slice Aw nw cw) ∧ w'.cell? ⟨k3, 5, none⟩ = some (.slice Ab nb cb) ∧ w'.cell? ⟨k5, 0, none⟩ = some (.int .u8 0) ∧ w'.cell? ⟨k5, 1, none⟩ = some (.int .u16 0) ∧ w'.cell? ⟨k5, 2, none⟩ = some (.int .u16 0) ∧ w'.cell? ⟨k5, 3, none⟩ = some (.int .u16 0) ∧ w'.cell? ⟨k5, 4, none⟩ = some (.slice Aw2 nw2 cw2) ∧ w'.cell? ⟨k5, 5, none⟩ = some (.slice Ab2 nb2 cb2)) (by kernel_rfl) (keep13 (Below.refl _ _).drew R3.out R5.out hbX GX.out) (fun hHeld => ?_)
    refine wpAnyH_take (i := 0) (v := ?_) (by simp only [List.getElem?_toArray, List.getElem?_cons_succ, List.getElem?_cons_zero]; rfl) (by kernel_rfl) (by kernel_rfl) (by kernel_rfl) (by exact fun _ _ _ h => h) (Or.inl ⟨by kernel_rfl, ?_⟩) (by assumption) ?_
    rotate_left
    · intro w hSw
      (try dsimp only at hSw)
      go_simp
      try with_reducible rfl
    simp only [Act.put, List.setIfInBounds_toArray, List.set_cons_zero, List.set_cons_succ]
    refine wpAnyH_take (i := 1) (v := ?_) (by simp only [List.getElem?_toArray, List.getElem?_cons_succ, List.getElem?_cons_zero]; rfl) (by kernel_rfl) (by kernel_rfl) (by kernel_rfl) (by exact fun _ _ _ h => h) (Or.inl ⟨by kernel_rfl, ?_⟩) (by assumption) ?_
    rotate_left
    · intro w hSw
      (try dsimp only at hSw)
      go_simp
      try with_reducible rfl
    simp only [Act.put, List.setIfInBounds_toArray, List.set_cons_zero, List.set_cons_succ]
    refine wpAnyH_take (i := 2) (v := ?_) (by simp only [List.getElem?_toArray, List.getElem?_cons_succ, List.getElem?_cons_zero]; rfl) (by kernel_rfl) (by kernel_rfl) (by kernel_rfl) (by exact fun _ _ _ h => h) (Or.inl ⟨by kernel_rfl, ?_⟩) (by assumption) ?_
    rotate_left
    · intro w hSw
      (try dsimp only at hSw)
      go_simp
      try with_reducible rfl
    simp only [Act.put, List.setIfInBounds_toArray, List.set_cons_zero, List.set_cons_succ]
    refine wpAnyH_take (i := 3) (v := ?_) (by simp only [List.getElem?_toArray, List.getElem?_cons_succ, List.getElem?_cons_zero]; rfl) (by kernel_rfl) (by kernel_rfl) (by kernel_rfl) (by exact fun _ _ _ h => h) (Or.inl ⟨by kernel_rfl, ?_⟩) (by assumption) ?_
    rotate_left
    · intro w hSw
      (try dsimp only at hSw)
      go_simp
      try with_reducible rfl
    simp only [Act.put, List.setIfInBounds_toArray, List.set_cons_zero, List.set_cons_succ]
    refine wpAnyH_take (i := 4) (v := ?_) (by simp only [List.getElem?_toArray, List.getElem?_cons_succ, List.getElem?_cons_zero]; rfl) (by kernel_rfl) (by kernel_rfl) (by kernel_rfl) (by exact fun _ _ _ h => h) (Or.inl ⟨by kernel_rfl, ?_⟩) (by assumption) ?_
    rotate_left
    · intro w hSw
      (try dsimp only at hSw)
      go_simp
      try with_reducible rfl
    simp only [Act.put, List.setIfInBounds_toArray, List.set_cons_zero, List.set_cons_succ]
    refine wpAnyH_take (i := 5) (v := ?_) (by simp only [List.getElem?_toArray, List.getElem?_cons_succ, List.getElem?_cons_zero]; rfl) (by kernel_rfl) (by kernel_rfl) (by kernel_rfl) (by exact fun _ _ _ h => h) (Or.inl ⟨by kernel_rfl, ?_⟩) (by assumption) ?_
    rotate_left
    · intro w hSw
      (try dsimp only at hSw)
      go_simp
      try with_reducible rfl
    simp only [Act.put, List.setIfInBounds_toArray, List.set_cons_zero, List.set_cons_succ]
    refine wpAnyH_take (i := 6) (v := ?_) (by simp only [List.getElem?_toArray, List.getElem?_cons_succ, List.getElem?_cons_zero]; rfl) (by kernel_rfl) (by kernel_rfl) (by kernel_rfl) (by exact fun _ _ _ h => h) (Or.inl ⟨by kernel_rfl, ?_⟩) (by assumption) ?_
    rotate_left
    · intro w hSw
      (try dsimp only at hSw)
      go_simp
      try with_reducible rfl
    simp only [Act.put, List.setIfInBounds_toArray, List.set_cons_zero, List.set_cons_succ]
    refine wpAnyH_take (i := 7) (v := ?_) (by simp only [List.getElem?_toArray, List.getElem?_cons_succ, List.getElem?_cons_zero]; rfl) (by kernel_rfl) (by kernel_rfl) (by kernel_rfl) (by exact fun _ _ _ h => h) (Or.inl ⟨by kernel_rfl, ?_⟩) (by assumption) ?_
    rotate_left
    · intro w hSw
      (try dsimp only at hSw)
      go_simp
      try with_reducible rfl
    simp only [Act.put, List.setIfInBounds_toArray, List.set_cons_zero, List.set_cons_succ]
    refine wpAnyH_take (i := 8) (v := ?_) (by simp only [List.getElem?_toArray, List.getElem?_cons_succ, List.getElem?_cons_zero]; rfl) (by kernel_rfl) (by kernel_rfl) (by kernel_rfl) (by exact fun _ _ _ h => h) (Or.inl ⟨by kernel_rfl, ?_⟩) (by assumption) ?_
    rotate_left
    · intro w hSw
      (try dsimp only at hSw)
      go_simp
      try with_reducible rfl
    simp only [Act.put, List.setIfInBounds_toArray, List.set_cons_zero, List.set_cons_succ]
    refine wpAnyH_take (i := 9) (v := ?_) (by simp only [List.getElem?_toArray, List.getElem?_cons_succ, List.getElem?_cons_zero]; rfl) (by kernel_rfl) (by kernel_rfl) (by kernel_rfl) (by exact fun _ _ _ h => h) (Or.inl ⟨by kernel_rfl, ?_⟩) (by assumption) ?_
    rotate_left
    · intro w hSw
      (try dsimp only at hSw)
      go_simp
      try with_reducible rfl
    simp only [Act.put, List.setIfInBounds_toArray, List.set_cons_zero, List.set_cons_succ]
    refine wpAnyH_take (i := 10) (v := ?_) (by simp only [List.getElem?_toArray, List.getElem?_cons_succ, List.getElem?_cons_zero]; rfl) (by kernel_rfl) (by kernel_rfl) (by kernel_rfl) (by exact fun _ _ _ h => h) (Or.inl ⟨by kernel_rfl, ?_⟩) (by assumption) ?_
    rotate_left
    · intro w hSw
      (try dsimp only at hSw)
      go_simp
      try with_reducible rfl
    simp only [Act.put, List.setIfInBounds_toArray, List.set_cons_zero, List.set_cons_succ]
    refine wpAnyH_take (i := 11) (v := ?_) (by simp only [List.getElem?_toArray, List.getElem?_cons_succ, List.getElem?_cons_zero]; rfl) (by kernel_rfl) (by kernel_rfl) (by kernel_rfl) (by exact fun _ _ _ h => h) (Or.inl ⟨by kernel_rfl, ?_⟩) (by assumption) ?_
    rotate_left
    · intro w hSw
      (try dsimp only at hSw)
      go_simp
      try with_reducible rfl
    simp only [Act.put, List.setIfInBounds_toArray, List.set_cons_zero, List.set_cons_succ]
    refine wpAnyH_take (i := 12) (v := ?_) (by simp only [List.getElem?_toArray, List.getElem?_cons_succ, List.getElem?_cons_zero]; rfl) (by kernel_rfl) (by kernel_rfl) (by kernel_rfl) (by exact fun _ _ _ h => h) (Or.inl ⟨by kernel_rfl, ?_⟩) (by assumption) ?_
    rotate_left
    · intro w hSw
      (try dsimp only at hSw)
      go_simp
      try with_reducible rfl
    simp only [Act.put, List.setIfInBounds_toArray, List.set_cons_zero, List.set_cons_succ]
    refine wpAnyH_take (i := 13) (v := ?_) (by simp only [List.getElem?_toArray, List.getElem?_cons_succ, List.getElem?_cons_zero]; rfl) (by kernel_rfl) (by kernel_rfl) (by kernel_rfl) (by exact fun _ _ _ h => h) (Or.inl ⟨by kernel_rfl, ?_⟩) (by assumption) ?_
    rotate_left
    · intro w hSw
      (try dsimp only at hSw)
      go_simp
      try with_reducible rfl
    simp only [Act.put, List.setIfInBounds_toArray, List.set_cons_zero, List.set_cons_succ]
    refine wpAnyH_take (i := 14) (v := ?_) (by simp only [List.getElem?_toArray, List.getElem?_cons_succ, List.getElem?_cons_zero]; rfl) (by kernel_rfl) (by kernel_rfl) (by kernel_rfl) (by exact fun _ _ _ h => h) (Or.inl ⟨by kernel_rfl, ?_⟩) (by assumption) ?_
    rotate_left
    · intro w hSw
      (try dsimp only at hSw)
      go_simp
      try with_reducible rfl
    simp only [Act.put, List.setIfInBounds_toArray, List.set_cons_zero, List.set_cons_succ]
    refine wpAnyH_take (i := 15) (v := ?_) (by simp only [List.getElem?_toArray, List.getElem?_cons_succ, List.getElem?_cons_zero]; rfl) (by kernel_rfl) (by kernel_rfl) (by kernel_rfl) (by exact fun _ _ _ h => h) (Or.inl ⟨by kernel_rfl, ?_⟩) (by assumption) ?_
    rotate_left
    · intro w hSw
      (try dsimp only at hSw)
      go_simp
      try with_reducible rfl
    simp only [Act.put, List.setIfInBounds_toArray, List.set_cons_zero, List.set_cons_succ]
    refine wpAnyH_take (i := 16) (v := ?_) (by simp only [List.getElem?_toArray, List.getElem?_cons_succ, List.getElem?_cons_zero]; rfl) (by kernel_rfl) (by kernel_rfl) (by kernel_rfl) (by exact fun _ _ _ h => h) (Or.inl ⟨by kernel_rfl, ?_⟩) (by assumption) ?_
    rotate_left
    · intro w hSw
      (try dsimp only at hSw)
      go_simp
      try with_reducible rfl
    simp only [Act.put, List.setIfInBounds_toArray, List.set_cons_zero, List.set_cons_succ]
    refine wpAnyH_take (i := 17) (v := undef) (by simp only [List.getElem?_toArray, List.getElem?_cons_succ, List.getElem?_cons_zero]; rfl) (by kernel_rfl) (by kernel_rfl) (by kernel_rfl) (by exact fun _ _ _ h => h) (Or.inr ⟨by kernel_rfl, rfl⟩) (by assumption) ?_
    simp only [Act.put, List.setIfInBounds_toArray, List.set_cons_zero, List.set_cons_succ]
    refine wpAnyH_take (i := 18) (v := undef) (by simp only [List.getElem?_toArray, List.getElem?_cons_succ, List.getElem?_cons_zero]; rfl) (by kernel_rfl) (by kernel_rfl) (by kernel_rfl) (by exact fun _ _ _ h => h) (Or.inr ⟨by kernel_rfl, rfl⟩) (by assumption) ?_
    simp only [Act.put, List.setIfInBounds_toArray, List.set_cons_zero, List.set_cons_succ]
    refine wpAnyH_take (i := 19) (v := undef) (by simp only [List.getElem?_toArray, List.getElem?_cons_succ, List.getElem?_cons_zero]; rfl) (by kernel_rfl) (by kernel_rfl) (by kernel_rfl) (by exact fun _ _ _ h => h) (Or.inr ⟨by kernel_rfl, rfl⟩) (by assumption) ?_
    simp only [Act.put, List.setIfInBounds_toArray, List.set_cons_zero, List.set_cons_succ]
    refine wpAnyH_take (i := 20) (v := undef) (by simp only [List.getElem?_toArray, List.getElem?_cons_succ, List.getElem?_cons_zero]; rfl) (by kernel_rfl) (by kernel_rfl) (by kernel_rfl) (by exact fun _ _ _ h => h) (Or.inr ⟨by kernel_rfl, rfl⟩) (by assumption) ?_
    simp only [Act.put, List.setIfInBounds_toArray, List.set_cons_zero, List.set_cons_succ]
    refine wpAnyH_take (i := 21) (v := ?_) (by simp only [List.getElem?_toArray, List.getElem?_cons_succ, List.getElem?_cons_zero]; rfl) (by kernel_rfl) (by kernel_rfl) (by kernel_rfl) (by exact fun _ _ _ h => h) (Or.inl ⟨by kernel_rfl, ?_⟩) (by assumption) ?_
    rotate_left
    · intro w hSw
      (try dsimp only at hSw)
      go_simp
      try with_reducible rfl
    simp only [Act.put, List.setIfInBounds_toArray, List.set_cons_zero, List.set_cons_succ]
    refine wpAnyH_take (i := 22) (v := ?_) (by simp only [List.getElem?_toArray, List.getElem?_cons_succ, List.getElem?_cons_zero]; rfl) (by kernel_rfl) (by kernel_rfl) (by kernel_rfl) (by exact fun _ _ _ h => h) (Or.inl ⟨by kernel_rfl, ?_⟩) (by assumption) ?_
    rotate_left
    · intro w hSw
      (try dsimp only at hSw)
      go_simp
      try with_reducible rfl
    simp only [Act.put, List.setIfInBounds_toArray, List.set_cons_zero, List.set_cons_succ]
    refine wpAnyH_take (i := 23) (v := ?_) (by simp only [List.getElem?_toArray, List.getElem?_cons_succ, List.getElem?_cons_zero]; rfl) (by kernel_rfl) (by kernel_rfl) (by kernel_rfl) (by exact fun _ _ _ h => h) (Or.inl ⟨by kernel_rfl, ?_⟩) (by assumption) ?_
    rotate_left
    · intro w hSw
      (try dsimp only at hSw)
      go_simp
      try with_reducible rfl
    simp only [Act.put, List.setIfInBounds_toArray, List.set_cons_zero, List.set_cons_succ]
    refine wpAnyH_take (i := 24) (v := ?_) (by simp only [List.getElem?_toArray, List.getElem?_cons_succ, List.getElem?_cons_zero]; rfl) (by kernel_rfl) (by kernel_rfl) (by kernel_rfl) (by exact fun _ _ _ h => h) (Or.inl ⟨by kernel_rfl, ?_⟩) (by assumption) ?_
    rotate_left
    · intro w hSw
      (try dsimp only at hSw)
      go_simp
      try with_reducible rfl
    simp only [Act.put, List.setIfInBounds_toArray, List.set_cons_zero, List.set_cons_succ]
    refine wpAnyH_take (i := 25) (v := ?_) (by simp only [List.getElem?_toArray, List.getElem?_cons_succ, List.getElem?_cons_zero]; rfl) (by kernel_rfl) (by kernel_rfl) (by kernel_rfl) (by exact fun _ _ _ h => h) (Or.inl ⟨by kernel_rfl, ?_⟩) (by assumption) ?_
    rotate_left
    · intro w hSw
      (try dsimp only at hSw)
      go_simp
      try with_reducible rfl
    simp only [Act.put, List.setIfInBounds_toArray, List.set_cons_zero, List.set_cons_succ]
    refine wpAnyH_take (i := 26) (v := ?_) (by simp only [List.getElem?_toArray, List.getElem?_cons_succ, List.getElem?_cons_zero]; rfl) (by kernel_rfl) (by kernel_rfl) (by kernel_rfl) (by exact fun _ _ _ h => h) (Or.inl ⟨by kernel_rfl, ?_⟩) (by assumption) ?_
    rotate_left
    · intro w hSw
      (try dsimp only at hSw)
      go_simp
      try with_reducible rfl
    simp only [Act.put, List.setIfInBounds_toArray, List.set_cons_zero, List.set_cons_succ]
    refine wpAnyH_take (i := 27) (v := ?_) (by simp only [List.getElem?_toArray, List.getElem?_cons_succ, List.getElem?_cons_zero]; rfl) (by kernel_rfl) (by kernel_rfl) (by kernel_rfl) (by exact fun _ _ _ h => h) (Or.inl ⟨by kernel_rfl, ?_⟩) (by assumption) ?_
    rotate_left
    · intro w hSw
      (try dsimp only at hSw)
      go_simp
      try with_reducible rfl
    simp only [Act.put, List.setIfInBounds_toArray, List.set_cons_zero, List.set_cons_succ]
    refine wpAnyH_take (i := 28) (v := ?_) (by simp only [List.getElem?_toArray, List.getElem?_cons_succ, List.getElem?_cons_zero]; rfl) (by kernel_rfl) (by kernel_rfl) (by kernel_rfl) (by exact fun _ _ _ h => h) (Or.inl ⟨by kernel_rfl, ?_⟩) (by assumption) ?_
    rotate_left
    · intro w hSw
      (try dsimp only at hSw)
      go_simp
      try with_reducible rfl
    simp only [Act.put, List.setIfInBounds_toArray, List.set_cons_zero, List.set_cons_succ]
    refine wpAnyH_take (i := 29) (v := ?_) (by simp only [List.getElem?_toArray, List.getElem?_cons_succ, List.getElem?_cons_zero]; rfl) (by kernel_rfl) (by kernel_rfl) (by kernel_rfl) (by exact fun _ _ _ h => h) (Or.inl ⟨by kernel_rfl, ?_⟩) (by assumption) ?_
    rotate_left
    · intro w hSw
      (try dsimp only at hSw)
      go_simp
      try with_reducible rfl
    simp only [Act.put, List.setIfInBounds_toArray, List.set_cons_zero, List.set_cons_succ]
    refine wpAnyH_take (i := 30) (v := ?_) (by simp only [List.getElem?_toArray, List.getElem?_cons_succ, List.getElem?_cons_zero]; rfl) (by kernel_rfl) (by kernel_rfl) (by kernel_rfl) (by exact fun _ _ _ h => h) (Or.inl ⟨by kernel_rfl, ?_⟩) (by assumption) ?_
    rotate_left
    · intro w hSw
      (try dsimp only at hSw)
      go_simp
      try with_reducible rfl
    simp only [Act.put, List.setIfInBounds_toArray, List.set_cons_zero, List.set_cons_succ]
    refine wpAnyH_take (i := 31) (v := ?_) (by simp only [List.getElem?_toArray, List.getElem?_cons_succ, List.getElem?_cons_zero]; rfl) (by kernel_rfl) (by kernel_rfl) (by kernel_rfl) (by exact fun _ _ _ h => h) (Or.inl ⟨by kernel_rfl, ?_⟩) (by assumption) ?_
    rotate_left
    · intro w hSw
      (try dsimp only at hSw)
      go_simp
      try with_reducible rfl
    simp only [Act.put, List.setIfInBounds_toArray, List.set_cons_zero, List.set_cons_succ]
    refine wpAnyH_ready (rs := [32]) (by kernel_rfl) (by simp) ?_
    refine AllReadyH.cons (by simp only [List.getElem?_toArray, List.getElem?_cons_succ, List.getElem?_cons_zero]; rfl) (fun K hK => ?_) AllReadyH.nil
    rw [if_pos (by kernel_rfl)]
    go_simp
    refine (KT.out _ ((Below.refl _ _).drew)).mono ?_
    rintro e wt ⟨rfl, bt⟩
    have hbd := Below.call (a := X) (Below.refl _ _).drew bt
    simp only [beq_self_eq_true, Bool.and_true]
    go_wp2_with fail
    refine hK.out _ _ ?_ (fun hHeld => ?_)
    · exact keep13 hbd R3.out R5.out hbX GX.out
    clear hK K
    try simp only [Act.put, List.setIfInBounds_toArray, List.set_cons_zero, List.set_cons_succ]
    refine wpAnyH_take (i := 33) (v := ?_) (by simp only [List.getElem?_toArray, List.getElem?_cons_succ, List.getElem?_cons_zero]; rfl) (by kernel_rfl) (by kernel_rfl) (by kernel_rfl) (by exact fun _ _ _ h => h) (Or.inl ⟨by kernel_rfl, ?_⟩) (by assumption) ?_
    rotate_left
    · intro w hSw
      (try dsimp only at hSw)
      go_simp
      try with_reducible rfl
    simp only [Act.put, List.setIfInBounds_toArray, List.set_cons_zero, List.set_cons_succ]
    refine wpAnyH_take (i := 34) (v := ?_) (by simp only [List.getElem?_toArray, List.getElem?_cons_succ, List.getElem?_cons_zero]; rfl) (by kernel_rfl) (by kernel_rfl) (by kernel_rfl) (by exact fun _ _ _ h => h) (Or.inl ⟨by kernel_rfl, ?_⟩) (by assumption) ?_
    rotate_left
    · intro w hSw
      (try dsimp only at hSw)
      go_simp
      try with_reducible rfl
    simp only [Act.put, List.setIfInBounds_toArray, List.set_cons_zero, List.set_cons_succ]
    refine wpAnyH_take (i := 35) (v := ?_) (by simp only [List.getElem?_toArray, List.getElem?_cons_succ, List.getElem?_cons_zero]; rfl) (by kernel_rfl) (by kernel_rfl) (by kernel_rfl) (by exact fun _ _ _ h => h) (Or.inl ⟨by kernel_rfl, ?_⟩) (by assumption) ?_
    rotate_left
    · intro w hSw
      (try dsimp only at hSw)
      go_simp
      try with_reducible rfl
    simp only [Act.put, List.setIfInBounds_toArray, List.set_cons_zero, List.set_cons_succ]
    refine wpAnyH_take (i := 36) (v := ?_) (by simp only [List.getElem?_toArray, List.getElem?_cons_succ, List.getElem?_cons_zero]; rfl) (by kernel_rfl) (by kernel_rfl) (by kernel_rfl) (by exact fun _ _ _ h => h) (Or.inl ⟨by kernel_rfl, ?_⟩) (by assumption) ?_
    rotate_left
    · intro w hSw
      (try dsimp only at hSw)
      go_simp
      try with_reducible rfl
    simp only [Act.put, List.setIfInBounds_toArray, List.set_cons_zero, List.set_cons_succ]
    refine wpAnyH_take (i := 37) (v := ?_) (by simp only [List.getElem?_toArray, List.getElem?_cons_succ, List.getElem?_cons_zero]; rfl) (by kernel_rfl) (by kernel_rfl) (by kernel_rfl) (by exact fun _ _ _ h => h) (Or.inl ⟨by kernel_rfl, ?_⟩) (by assumption) ?_
    rotate_left
    · intro w hSw
      (try dsimp only at hSw)
      go_simp
      try with_reducible rfl
    simp only [Act.put, List.setIfInBounds_toArray, List.set_cons_zero, List.set_cons_succ]
    refine wpAnyH_take (i := 38) (v := ?_) (by simp only [List.getElem?_toArray, List.getElem?_cons_succ, List.getElem?_cons_zero]; rfl) (by kernel_rfl) (by kernel_rfl) (by kernel_rfl) (by exact fun _ _ _ h => h) (Or.inl ⟨by kernel_rfl, ?_⟩) (by assumption) ?_
    rotate_left
    · intro w hSw
      (try dsimp only at hSw)
      go_simp
      try with_reducible rfl
    simp only [Act.put, List.setIfInBounds_toArray, List.set_cons_zero, List.set_cons_succ]
    refine wpAnyH_take (i := 39) (v := ?_) (by simp only [List.getElem?_toArray, List.getElem?_cons_succ, List.getElem?_cons_zero]; rfl) (by kernel_rfl) (by kernel_rfl) (by kernel_rfl) (by exact fun _ _ _ h => h) (Or.inl ⟨by kernel_rfl, ?_⟩) (by assumption) ?_
    rotate_left
    · intro w hSw
      (try dsimp only at hSw)
      go_simp
      try with_reducible rfl
    simp only [Act.put, List.setIfInBounds_toArray, List.set_cons_zero, List.set_cons_succ]
    refine wpAnyH_take (i := 40) (v := ?_) (by simp only [List.getElem?_toArray, List.getElem?_cons_succ, List.getElem?_cons_zero]; rfl) (by kernel_rfl) (by kernel_rfl) (by kernel_rfl) (by exact fun _ _ _ h => h) (Or.inl ⟨by kernel_rfl, ?_⟩) (by assumption) ?_
    rotate_left
    · intro w hSw
      (try dsimp only at hSw)
      go_simp
      try with_reducible rfl
    simp only [Act.put, List.setIfInBounds_toArray, List.set_cons_zero, List.set_cons_succ]
    refine wpAnyH_take (i := 41) (v := ?_) (by simp only [List.getElem?_toArray, List.getElem?_cons_succ, List.getElem?_cons_zero]; rfl) (by kernel_rfl) (by kernel_rfl) (by kernel_rfl) (by exact fun _ _ _ h => h) (Or.inl ⟨by kernel_rfl, ?_⟩) (by assumption) ?_
    rotate_left
    · intro w hSw
      (try dsimp only at hSw)
      go_simp
      try with_reducible rfl
    simp only [Act.put, List.setIfInBounds_toArray, List.set_cons_zero, List.set_cons_succ]
    refine wpAnyH_take (i := 42) (v := ?_) (by simp only [List.getElem?_toArray, List.getElem?_cons_succ, List.getElem?_cons_zero]; rfl) (by kernel_rfl) (by kernel_rfl) (by kernel_rfl) (by exact fun _ _ _ h => h) (Or.inl ⟨by kernel_rfl, ?_⟩) (by assumption) ?_
    rotate_left
    · intro w hSw
      (try dsimp only at hSw)
      go_simp
      try with_reducible rfl
    simp only [Act.put, List.setIfInBounds_toArray, List.set_cons_zero, List.set_cons_succ]
    refine wpAnyH_take (i := 43) (v := ?_) (by simp only [List.getElem?_toArray, List.getElem?_cons_succ, List.getElem?_cons_zero]; rfl) (by kernel_rfl) (by kernel_rfl) (by kernel_rfl) (by exact fun _ _ _ h => h) (Or.inl ⟨by kernel_rfl, ?_⟩) (by assumption) ?_
    rotate_left
    · intro w hSw
      (try dsimp only at hSw)
      go_simp
      try with_reducible rfl
    simp only [Act.put, List.setIfInBounds_toArray, List.set_cons_zero, List.set_cons_succ]
    refine wpAnyH_take (i := 44) (v := ?_) (by simp only [List.getElem?_toArray, List.getElem?_cons_succ, List.getElem?_cons_zero]; rfl) (by kernel_rfl) (by kernel_rfl) (by kernel_rfl) (by exact fun _ _ _ h => h) (Or.inl ⟨by kernel_rfl, ?_⟩) (by assumption) ?_
    rotate_left
    · intro w hSw
      (try dsimp only at hSw)
      go_simp
      try with_reducible rfl
    simp only [Act.put, List.setIfInBounds_toArray, List.set_cons_zero, List.set_cons_succ]
    refine wpAnyH_take (i := 45) (v := ?_) (by simp only [List.getElem?_toArray, List.getElem?_cons_succ, List.getElem?_cons_zero]; rfl) (by kernel_rfl) (by kernel_rfl) (by kernel_rfl) (by exact fun _ _ _ h => h) (Or.inl ⟨by kernel_rfl, ?_⟩) (by assumption) ?_
    rotate_left
    · intro w hSw
      (try dsimp only at hSw)
      go_simp
      try with_reducible rfl
    simp only [Act.put, List.setIfInBounds_toArray, List.set_cons_zero, List.set_cons_succ]
    refine wpAnyH_take (i := 46) (v := ?_) (by simp only [List.getElem?_toArray, List.getElem?_cons_succ, List.getElem?_cons_zero]; rfl) (by kernel_rfl) (by kernel_rfl) (by kernel_rfl) (by exact fun _ _ _ h => h) (Or.inl ⟨by kernel_rfl, ?_⟩) (by assumption) ?_
    rotate_left
    · intro w hSw
      (try dsimp only at hSw)
      go_simp
      try with_reducible rfl
    simp only [Act.put, List.setIfInBounds_toArray, List.set_cons_zero, List.set_cons_succ]
    refine wpAnyH_take (i := 47) (v := ?_) (by simp only [List.getElem?_toArray, List.getElem?_cons_succ, List.getElem?_cons_zero]; rfl) (by kernel_rfl) (by kernel_rfl) (by kernel_rfl) (by exact fun _ _ _ h => h) (Or.inl ⟨by kernel_rfl, ?_⟩) (by assumption) ?_
    rotate_left
    · intro w hSw
      (try dsimp only at hSw)
      go_simp
      try with_reducible rfl
    simp only [Act.put, List.setIfInBounds_toArray, List.set_cons_zero, List.set_cons_succ]
    refine wpAnyH_done (by kernel_rfl) ?_ _
    have hbw : Below w.heap.size w _ := hb.trans (hbd.mono hb.size)
    obtain ⟨Z, eZ⟩ : ∃ Z : World, Z = Z := ⟨X, rfl⟩
    clear eZ Z KT
    go_wp2_with fail
    go_loopw [7, 79] (fun u i wr => ∃ k : Nat, k ≤ 256 ∧ i = .int .i64 k ∧ u = .int .i64 (cnt k : Nat) ∧ Below w.heap.size w wr) (fun _ i _ => 256 - (intOf i).toNat)
    case atStart => exact ⟨0, by omega, rfl, rfl, hbw⟩
    case round =>
      obtain ⟨k, hk, rfl, rfl, bk⟩ := hrel
      by_cases hlt : k < 256
      · have hkw : IntKind.u8.wrap (k : Int) = k := by rw [IntKind.wrap_u8]; omega
        have hcw : IntKind.i64.wrap (((cnt k : Nat) : Int) + 1) = ((cnt k : Nat) : Int) + 1 := by rw [IntKind.wrap_i64]; have := cnt_le k; omega
        have hcs := Lib.hid (show cnt (k + 1) = cnt k + if (fld k).isSome then 1 else 0 from rfl)
        obtain ⟨ck, ecn⟩ : ∃ c, c = cnt k := ⟨_, rfl⟩
        rw [← ecn] at hcs hcw ⊢
        clear ecn
        have S0 := (HS.out.to bk).to ((Below.refl _ _).new (.cells #[] 5))
        go_wp2_with (at_builtin; go_loud (refine wpList_app _root_.Go.Proofs.Ytpajpcaninjhfaa.AskW.u8 rfl (.tmp 82) (.tmp 83) rfl (Has.made0 (Below.refl wr.heap.size wr) _) rfl S0 rfl (bs_one _) (by omega) (by simp only [maxLen]; omega) ?_; intro v2 w2 H2 g2 o2; obtain ⟨g, cap, cur, rfl, hge, hg, hcap, hmax, hsz, hcur⟩ := Or.resolve_left H2.own.2 (fun h => absurd h.2 (by omega)); have gx := (cell_of_row w2 g 0 _ _ _ hg).trans (cur0 z1n HQ.out hcur); have fx := frozen_of_row w2 g 0 _ _ hg; have bw2 := H2.bel; have HG := Lib.hid hg; have HCUR := Lib.hid hcur; have HCAP := Lib.hid hcap; clear H2 hg hcur hcap g2 o2 hmax hsz S0))
        have S1 := Sl.set0 (y := k) HG.out z1n HQ.out (by have := HCUR.out; simpa using this)
        have bw3 := bw2.setCell (p := ⟨g, 0, none⟩) hge (.int .u8 (k : Nat))
        have hx9 : Bytes (k :: xs.drop 1) := by
          intro c9 hc9
          rcases List.mem_cons.1 hc9 with rfl | hc9
          · omega
          · exact HX.out.drop 1 c9 hc9
        have K9 := look_any (some ⟨g, 0, none⟩) n cap (k :: xs.drop 1) _ S1 hx9 (by omega) (by have := HCAP.out; omega)
        have hone := (look_one k (xs.drop 1)).1
        have hsame : k = x → (lookF (k :: xs.drop 1)).2 = 3 := by
          intro hkx
          have : k :: xs.drop 1 = xs := by
            rw [hkx, HEX.out]
            match xs, HQ.out with
            | y :: r, _ => rfl
            | [], h => simp at h; omega
          rw [this, HLK.out]
        obtain ⟨Y, hY⟩ : ∃ Y, Y = (lookF (k :: xs.drop 1)).2 := ⟨_, rfl⟩
        obtain ⟨RQ, hRQ⟩ : ∃ Y, Y = (lookF (k :: xs.drop 1)).1 := ⟨_, rfl⟩
        rw [← hY] at K9 hone hsame
        rw [← hRQ] at K9
        have K9H := Lib.hid K9
        have HONE := Lib.hid hone
        have HSAME := Lib.hid hsame
        have bw4 := bk.call bw3
        clear K9 hone hsame hY hRQ S1 hx9 bw2
        go_wp2_with fail
        refine K9H.out.mono ?_
        rintro e w4 ⟨qAw, qnw, qcw, qAb, qnb, qcb, rfl, _, _, _, _, _, _, b4⟩
        have bw5 := (bw4.call b4).new (.cells #[.int .u8 (RQ.f : Nat), .int .u16 (RQ.at' : Nat), .int .u16 (RQ.many : Nat), .int .u16 (RQ.to : Nat), .slice qAw qnw qcw, .slice qAb qnb qcb] 26)
        have gb := (bw5.cell (p := ⟨b, o, none⟩) hbl).trans g1
        clear bw4 b4 bw3
        by_cases hY1 : Y = 1
        · have hno : (fld k).isSome = false := HONE.out.1 hY1
          have hT : ((Y : Int) != 1) = false := by rw [hY1]; rfl
          by_cases hkx : k = x
          · exact absurd ((HSAME.out hkx).symm.trans hY1) (by decide)
          · have hU : ((k : Int) == (x : Int)) = false := by rw [beq_eq_false_iff_ne]; omega
            have HN := Lib.hid hno
            clear hY1 hkx hno
            go_wp2_with fail
            go_roundw
            case rel => exact ⟨k + 1, by omega, by go_num, by rw [hcs.out, HN.out]; simp, bw5⟩
            case measure => simp [intOf]; omega
        · have hyes : (fld k).isSome = true := by
            cases hh : (fld k).isSome
            · exact absurd (HONE.out.2 hh) hY1
            · rfl
          have hT : ((Y : Int) != 1) = true := by rw [bne_iff_ne]; omega
          by_cases hkx : k = x
          · have hU : ((k : Int) == (x : Int)) = true := by rw [hkx]; simp
            have hV : ((Y : Int) != 3) = false := by rw [HSAME.out hkx]; rfl
            have HN := Lib.hid hyes
            clear hY1 hkx hyes
            go_wp2_with fail
            go_roundw
            case rel => exact ⟨k + 1, by omega, by go_num, by rw [hcs.out, HN.out]; simp, bw5⟩
            case measure => simp [intOf]; omega
          · have hU : ((k : Int) == (x : Int)) = false := by rw [beq_eq_false_iff_ne]; omega
            have HN := Lib.hid hyes
            clear hY1 hkx hyes
            go_wp2_with fail
            go_roundw
            case rel => exact ⟨k + 1, by omega, by go_num, by rw [hcs.out, HN.out]; simp, bw5⟩
            case measure => simp [intOf]; omega
      · obtain rfl : k = 256 := by omega
        have hc9 : ((cnt 256 : Nat) : Int) = 9 := by rw [cnt_256]; rfl
        go_wp2_with (go_at_call 10; refine (awake_any _).mono ?_; rintro e wa ⟨rfl, ba⟩)
        go_ret
        exact ⟨rfl, bk.call ba⟩
end Go.Proofs.Ytpajpcaninjhfaa.AskW
