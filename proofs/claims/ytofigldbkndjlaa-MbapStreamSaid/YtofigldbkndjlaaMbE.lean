/- The walk of mbap.Cut. -/
import Derived.BigQuiet
import Derived.Test.YtofigldbkndjlaaRound
import Derived.Test.YtofigldbkndjlaaMbD
set_option linter.unusedVariables false
set_option linter.unusedSimpArgs false
namespace Go.Proofs.Ytofigldbkndjlaa.MbW
open Go.RowKit Go.Shelf Go.Proofs.Ytofigldbkndjlaa Go.Proofs.Ytofigldbkndjlaa.Mb
theorem fm3 : Elem3 Try.prog 35 25 32 := .mk' (z := .agg #[.int .u16 0, .int .u8 0, .slice none 0 0]) Try.underlying35 (by kernel_rfl) rfl
/-- Frames of the call's own, a number, and an error. -/
def RetCut (w : World) (r : List Fm × Nat × Int) (e : Ending) (w' : World) : Prop := ∃ v, e = .returned (.tuple #[v, .int .i64 ((r.2.1 : Nat) : Int), .int .i64 r.2.2]) ∧ HasF w w' 25 v r.1.length r.1 (fun b => w.heap.size ≤ b)
def cut (xs : List Nat) : List Fm × Nat × Int := (frames xs, used xs, cutE xs)
/-- How many bytes pieces have. -/
def sumP {w : World} (pre : List (Pc w)) : Nat := (pre.map (·.l)).flatten.length
theorem sumP_snoc {w : World} (pre : List (Pc w)) (x : Pc w) : sumP (pre ++ [x]) = sumP pre + x.l.length := by simp [sumP]
theorem sumP_le {w : World} (pre : List (Pc w)) : sumP pre ≤ 260 * pre.length := by
  induction pre with
  | nil => exact Nat.le_refl _
  | cons x pre ih =>
    have := x.P.2.1
    simp [sumP] at ih ⊢
    omega
structure CutI (w : World) (pre : List (Pc w)) (W : World) : Prop where
  row : ∃ v, Boxed W w.heap.size 35 v ∧ HasF w W 25 v pre.length (pre.map fun x => Mb.read x.l) (fun b => w.heap.size + 3 ≤ b)
  num : Boxed W (w.heap.size + 1) 3 (.int .i64 ((sumP pre : Nat) : Int))
  size : w.heap.size + 3 ≤ W.heap.size
theorem CutI.ownFrom (w : World) : OwnFrom (w.heap.size + 3) (CutI w) := fun pre W W' row h hg hr => by
  have hb : ∀ b t v, Boxed W b t v → some b ≠ row := fun b t v hx e => by
    obtain ⟨_, o, ho, hf⟩ := hr b e.symm
    rw [show W.heap[b]? = _ from hx] at ho
    cases ho
    cases hf
  obtain ⟨v, h1, h2⟩ := h.row
  exact ⟨⟨v, h1.kept hg (hb _ _ _ h1), h2.still hg (fun r e => ⟨by have := (hr r e).1; omega, (hr r e).2⟩)⟩, h.num.kept hg (hb _ _ _ h.num), Nat.le_trans h.size hg.size⟩
set_option maxRecDepth 100000 in
set_option maxHeartbeats 8000000 in
theorem cut_any (A : Option Addr) (n c : Nat) (xs : List Nat) (w : World) (hs : Sl w w.heap.size A n (bs xs)) (hx : Bytes xs) (hc : n ≤ c) (hn : n ≤ 1000000) :
    Calls Try.prog 14 #[.slice A n c] w (RetCut w (cut xs)) := by
  have hlen : xs.length = n := by simpa using hs.len
  have HPL := Lib.hid (pieces_len xs)
  have KB := Lib.hid (fun A n c xs X (hs : Sl w w.heap.size A n (bs xs)) hx hn (b : Below w.heap.size w X) => begins_any A n c xs X (hs.to b) hx hn)
  have KR := Lib.hid (fun (x : Pc w) X (b : Below w.heap.size w X) => read_any x.A x.l.length x.c x.l X (x.S.to b) x.B x.P.1 x.hc (by have := x.P.2.1; omega))
  refine (callsIn_wide (n := 3)).1 (callsIn_of_wp_marks Try.func14 rfl trivial ?_ rfl)
  simp only [Try.ntmps14, List.size_toArray, List.length_cons, List.length_nil, Nat.reduceAdd, Nat.reduceSub, Array.replicate_succ, Array.replicate_zero, List.push_toArray, List.append_toArray, List.nil_append, List.cons_append]
  refine wpIn_wide.2 ?_
  go_wp2_with (go_at_call 21; refine (frames_any A n c _).mono ?_; rintro e w' ⟨rfl, rfl⟩)
  obtain ⟨W0, hW0⟩ : ∃ W0, W0 = (((w.alloc (.cells #[.slice none 0 0] 35)).alloc (.cells #[.int .i64 0] 3)).alloc (.cells #[.slice A n c] 23)) := ⟨_, rfl⟩
  have hsz : W0.heap.size = w.heap.size + 3 := by rw [hW0]; simp
  have bL : Boxed W0 w.heap.size 35 (.slice none 0 0) := by rw [hW0]; exact ((Boxed.new _ _ _).alloc _).alloc _
  have bN : Boxed W0 (w.heap.size + 1) 3 (.int .i64 0) := by
    have h := Boxed.new (w.alloc (.cells #[.slice none 0 0] 35)) 3 (.int .i64 0)
    rw [World.size_alloc] at h
    rw [hW0]; exact h.alloc _
  have bB : W0.cell? ⟨w.heap.size + 1 + 1, 0, none⟩ = some (.slice A n c) := by
    have h := Boxed.new ((w.alloc (.cells #[.slice none 0 0] 35)).alloc (.cells #[.int .i64 0] 3)) 23 (.slice A n c)
    rw [World.size_alloc, World.size_alloc] at h
    rw [hW0]; exact h.cell
  have B0 : Below w.heap.size w W0 := by rw [hW0]; exact (((Below.refl _ _).new _).new _).new _
  rw [← hW0]
  clear hW0
  have HN := Lib.hid hlen
  have HCUT := Lib.hid (show cut xs = ((pieces xs).map Mb.read, (pieces xs).flatten.length, if begins (xs.drop (pieces xs).flatten.length) = true then 0 else 10) from by
    unfold cut cutE frames
    rw [rest_eq, used_eq])
  have HUL := Lib.hid (show (pieces xs).flatten.length ≤ n from by have := used_le xs; rw [used_eq, hlen] at this; exact this)
  refine (wpIn_wide (n := 3)).1 ?_
  refine wpIn_rangeFunc_ownG rfl (by omega) (gf := 25) (lb := #[.pointer (some ⟨w.heap.size + 1 + 1, 0, none⟩)]) rfl trivial (enters_of Try.func25 (by kernel_rfl) rfl)
    (frames1_stops 2 A n c xs w W0 (w.heap.size + 1 + 1) hs hx hc hn B0 (by omega) bB) belowK_t (belowK_b B0.size) (Below.refl _ _) (fun _ => rfl)
    (CutI w) (fun _ _ _ => False) (by rw [hsz]; exact CutI.ownFrom w) (fun _ _ _ _ _ hs _ _ => hs) ⟨⟨_, bL, HasF.nil_ B0 _ _⟩, bN, Nat.le_of_eq hsz.symm⟩
    (fun x => { tmps := #[.slice A n c, undef, .slice none 0 0, .int .i64 0, .int .i64 0, .pointer (some ⟨w.heap.size, 0, none⟩), .pointer (some ⟨w.heap.size + 1, 0, none⟩), .slice x.A x.l.length x.c, .slice A n c, .func (.func 25) #[] #[.pointer (some ⟨w.heap.size + 1 + 1, 0, none⟩)], .slice x.A x.l.length x.c, undef, undef, undef, undef, undef, undef, undef, undef, undef, undef, undef, undef, undef, undef, undef, undef, undef, undef], defers := [] }) ?assign ?body ?done ?stop
  case assign =>
    intro l x W K hK
    dsimp only [Pc.enc]
    refine round_region (noDefer_of (by kernel_rfl)) (fun ⟨_, _, h⟩ => h) ?_
    go_wp2_with fail
    exact hK
  case body =>
    rintro l pre x W ⟨⟨v, bv, hv⟩, bn, hsW⟩ hlt
    rw [hsz]
    have hsz : w.heap.size + 3 ≤ W.heap.size := hsW
    have hpre : pre.length ≤ 125000 := by have := HPL.out; rw [HN.out] at this; omega
    have hsum := sumP_le pre
    have hx260 := x.P.2.1
    have wsum : IntKind.i64.wrap (((sumP pre : Nat) : Int) + ((x.l.length : Nat) : Int)) = ((sumP pre + x.l.length : Nat) : Int) := by rw [IntKind.wrap_i64]; omega
    clear hs hx hlen bL bN bB B0 hsW
    refine wpIn_block ?_
    refine wpIn_seq ?_
    refine round_region_any (by kernel_rfl) (noDefer_of (by kernel_rfl)) (fun ⟨_, _, h⟩ => h) ?_
    change wpAny _ _ _ _ _ _ _ (World.drew _)
    have cv0 : W.drew.cell? ⟨w.heap.size, 0, none⟩ = some v := bv.cell
    refine wpAny_take (i := 1) (v := ?_) (by simp only [List.getElem?_toArray, List.getElem?_cons_succ, List.getElem?_cons_zero]; rfl) (by kernel_rfl) (by kernel_rfl) (by kernel_rfl) (by exact fun _ _ _ h => h) (Or.inl ⟨by kernel_rfl, ?_⟩) ?_
    rotate_left
    · intro w
      go_simp
      try with_reducible rfl
    simp only [Act.put, List.setIfInBounds_toArray, List.set_cons_zero, List.set_cons_succ]
    refine wpAny_ready (rs := [0, 2]) (by kernel_rfl) (by simp) ?_
    refine AllReady.cons (by simp only [List.getElem?_toArray, List.getElem?_cons_succ, List.getElem?_cons_zero]; rfl) (fun K hK => ?_) ?_
    · rw [if_pos (by kernel_rfl)]
      go_simp
      refine hK _ _ ?_
      clear hK K
      try simp only [Act.put, List.setIfInBounds_toArray, List.set_cons_zero, List.set_cons_succ]
      refine wpAny_ready (rs := [2]) (by kernel_rfl) (by simp) ?_
      refine AllReady.cons (by simp only [List.getElem?_toArray, List.getElem?_cons_succ, List.getElem?_cons_zero]; rfl) (fun K hK => ?_) AllReady.nil
      rw [if_pos (by kernel_rfl)]
      go_simp
      refine (KR.out x W.drew (hv.bel.drew)).mono ?_
      rintro e w2 ⟨C, k, cc, rfl, SC, oC, b2⟩
      have bv2 : Boxed w2 w.heap.size 35 v := b2.row bv.lt bv
      have bn2 : Boxed w2 (w.heap.size + 1) 3 (.int .i64 ((sumP pre : Nat) : Int)) := b2.row bn.lt bn
      have hv2 := hv.drew.below b2
      have cv2 := bv2.cell
      have cv3 := (bv2.alloc (.cells #[.int .u16 ((Mb.read x.l).tx : Nat), .int .u8 ((Mb.read x.l).unit : Nat), .slice C k cc] 25)).cell
      have sz2 : W.heap.size ≤ w2.heap.size := b2.size
      dsimp only
      refine hK _ _ ?_
      clear hK K
      try simp only [Act.put, List.setIfInBounds_toArray, List.set_cons_zero, List.set_cons_succ]
      refine wpAny_ready (rs := [3]) (by kernel_rfl) (by simp) ?_
      refine AllReady.cons (by simp only [List.getElem?_toArray, List.getElem?_cons_succ, List.getElem?_cons_zero]; rfl) (fun K hK => ?_) AllReady.nil
      rw [if_pos (by kernel_rfl)]
      go_simp
      refine hK _ _ ?_
      clear hK K
      try simp only [Act.put, List.setIfInBounds_toArray, List.set_cons_zero, List.set_cons_succ]
      refine wpAny_ready (rs := [4]) (by kernel_rfl) (by simp) ?_
      refine AllReady.cons (by simp only [List.getElem?_toArray, List.getElem?_cons_succ, List.getElem?_cons_zero]; rfl) (fun K hK => ?_) AllReady.nil
      rw [if_pos (by kernel_rfl)]
      refine wp_app3 fm3 (.tmp 11) (.tmp 14) rfl (hv2.alloc (.cells #[.int .u16 ((Mb.read x.l).tx : Nat), .int .u8 ((Mb.read x.l).unit : Nat), .slice C k cc] 25)) rfl (Fr.new (P := fun b => W.heap.size ≤ b) w2 (Mb.read x.l) C k cc 25 SC (fun _ b o e => oC b o e)) rfl (fun b hb => ⟨Nat.le_trans hsz hb, fun e => by have := (hv.own b e).2; omega⟩) (by omega) (by simp only [maxLen]; omega) ?_
      intro v4 w4 H4 g4 o4
      obtain ⟨V5, hV5, _⟩ := (hv2.alloc (.cells #[.int .u16 ((Mb.read x.l).tx : Nat), .int .u8 ((Mb.read x.l).unit : Nat), .slice C k cc] 25)).row
      have bv4 := (bv2.alloc (.cells #[.int .u16 ((Mb.read x.l).tx : Nat), .int .u8 ((Mb.read x.l).unit : Nat), .slice C k cc] 25)).kept g4 ((bv2.alloc _).not_row (by decide) hV5)
      have bn4 := (bn2.alloc (.cells #[.int .u16 ((Mb.read x.l).tx : Nat), .int .u8 ((Mb.read x.l).unit : Nat), .slice C k cc] 25)).kept g4 ((bn2.alloc _).not_row (by decide) hV5)
      obtain ⟨V6, hV6, _⟩ := H4.row
      have hne4 := bv4.not_row (by decide) hV6
      have hne5 := bn4.not_row (by decide) hV6
      have bW4 : Below w.heap.size W w4 := (((Below.refl W.heap.size W).drew.call b2).new (.cells #[.int .u16 ((Mb.read x.l).tx : Nat), .int .u8 ((Mb.read x.l).unit : Nat), .slice C k cc] 25)).mono hv.bel.size |>.grown g4 (by simp; omega) (fun j hj => (hv.own j hj).1)
      have kW4 : KeepsFrom (w.heap.size + 3) W w4 := ⟨Nat.le_trans sz2 (Nat.le_trans (by simp) g4.size), fun j o hB hj ho => by
        have hj2 := b2.row (row_lt hj) hj
        have hj3 := row_alloc hj2 (.cells #[.int .u16 ((Mb.read x.l).tx : Nat), .int .u8 ((Mb.read x.l).unit : Nat), .slice C k cc] 25)
        refine (g4.block j (row_lt hj3) (fun e => ?_)).trans hj3
        rcases hV5.2 with ⟨hv0, _⟩ | ⟨gg, cap, cur, hv0, _, hgb, _⟩
        · rw [hv0] at e; simp [Value.ownBlock] at e
        · rw [hv0] at e
          obtain rfl : j = gg := by simpa [Value.ownBlock] using e
          rw [hgb] at hj3
          cases hj3
          cases ho⟩
      obtain ⟨A4, cc4, rfl, _, _⟩ := H4.slice
      have cv4 := bv4.cell
      have fv4 := bv4.frozen
      have bn5 : Boxed (w4.setCell ⟨w.heap.size, 0, none⟩ (.slice A4 (pre.length + 1) cc4)) (w.heap.size + 1) 3 (.int .i64 ((sumP pre : Nat) : Int)) := bn4.other (by omega) _
      have cn5 := bn5.cell
      have fn5 := bn5.frozen
      refine hK _ _ ?_
      clear hK K
      try simp only [Act.put, List.setIfInBounds_toArray, List.set_cons_zero, List.set_cons_succ]
      refine wpAny_ready (rs := [5]) (by kernel_rfl) (by simp) ?_
      refine AllReady.cons (by simp only [List.getElem?_toArray, List.getElem?_cons_succ, List.getElem?_cons_zero]; rfl) (fun K hK => ?_) AllReady.nil
      rw [if_pos (by kernel_rfl)]
      go_simp
      refine hK _ _ ?_
      clear hK K
      try simp only [Act.put, List.setIfInBounds_toArray, List.set_cons_zero, List.set_cons_succ]
      refine wpAny_done (by kernel_rfl) ?_ _
      show Code.wpIn _ _ _ _ _ _ _
      refine round_region (noDefer_of (by kernel_rfl)) (fun ⟨_, _, h⟩ => h) ?_
      go_wp2_with fail
      have g5 := grownBy_setCell' w4 w.heap.size (.slice A4 (pre.length + 1) cc4)
      have g6 := grownBy_setCell' (w4.setCell ⟨w.heap.size, 0, none⟩ (.slice A4 (pre.length + 1) cc4)) (w.heap.size + 1) (.int .i64 ((sumP pre + x.l.length : Nat) : Int))
      have kk : KeepsFrom (w.heap.size + 3) W ((w4.setCell ⟨w.heap.size, 0, none⟩ (.slice A4 (pre.length + 1) cc4)).setCell ⟨w.heap.size + 1, 0, none⟩ (.int .i64 ((sumP pre + x.l.length : Nat) : Int))) := (kW4.trans (KeepsFrom.of_grownBy g5 (fun j e => by injection e with e; omega))).trans (KeepsFrom.of_grownBy g6 (fun j e => by injection e with e; omega))
      have bb : Below w.heap.size W ((w4.setCell ⟨w.heap.size, 0, none⟩ (.slice A4 (pre.length + 1) cc4)).setCell ⟨w.heap.size + 1, 0, none⟩ (.int .i64 ((sumP pre + x.l.length : Nat) : Int))) := (bW4.grown g5 (Nat.le_trans hv.bel.size bW4.size) (fun j e => by injection e with e; omega)).grown g6 (by have := bW4.size; have := g5.size; have := hv.bel.size; omega) (fun j e => by injection e with e; omega)
      have hP := fun b (hb : w.heap.size + 3 ≤ b) => hb
      have H5 := H4.other g5 (Nat.le_refl _) (fun e => hne4 e.symm) (fun b hb => by omega)
      have H6 := H5.other g6 (Nat.le_succ _) (fun e => hne5 e.symm) (fun b hb => by omega)
      refine ⟨kk, bb, ⟨⟨_, (bv4.set _).other (by omega) _, ?_⟩, ?_, Nat.le_trans hsz kk.size⟩⟩
      · rw [List.length_append, List.map_append]
        exact H6
      · rw [sumP_snoc]
        exact bn5.set _
    refine AllReady.cons (by simp only [List.getElem?_toArray, List.getElem?_cons_succ, List.getElem?_cons_zero]; rfl) (fun K hK => ?_) ?_
    · rw [if_pos (by kernel_rfl)]
      go_simp
      refine (KR.out x W.drew (hv.bel.drew)).mono ?_
      rintro e w2 ⟨C, k, cc, rfl, SC, oC, b2⟩
      have bv2 : Boxed w2 w.heap.size 35 v := b2.row bv.lt bv
      have bn2 : Boxed w2 (w.heap.size + 1) 3 (.int .i64 ((sumP pre : Nat) : Int)) := b2.row bn.lt bn
      have hv2 := hv.drew.below b2
      have cv2 := bv2.cell
      have cv3 := (bv2.alloc (.cells #[.int .u16 ((Mb.read x.l).tx : Nat), .int .u8 ((Mb.read x.l).unit : Nat), .slice C k cc] 25)).cell
      have sz2 : W.heap.size ≤ w2.heap.size := b2.size
      dsimp only
      refine hK _ _ ?_
      clear hK K
      try simp only [Act.put, List.setIfInBounds_toArray, List.set_cons_zero, List.set_cons_succ]
      refine wpAny_ready (rs := [0, 3]) (by kernel_rfl) (by simp) ?_
      refine AllReady.cons (by simp only [List.getElem?_toArray, List.getElem?_cons_succ, List.getElem?_cons_zero]; rfl) (fun K hK => ?_) ?_
      · rw [if_pos (by kernel_rfl)]
        go_simp
        refine hK _ _ ?_
        clear hK K
        try simp only [Act.put, List.setIfInBounds_toArray, List.set_cons_zero, List.set_cons_succ]
        refine wpAny_ready (rs := [3]) (by kernel_rfl) (by simp) ?_
        refine AllReady.cons (by simp only [List.getElem?_toArray, List.getElem?_cons_succ, List.getElem?_cons_zero]; rfl) (fun K hK => ?_) AllReady.nil
        rw [if_pos (by kernel_rfl)]
        go_simp
        refine hK _ _ ?_
        clear hK K
        try simp only [Act.put, List.setIfInBounds_toArray, List.set_cons_zero, List.set_cons_succ]
        refine wpAny_ready (rs := [4]) (by kernel_rfl) (by simp) ?_
        refine AllReady.cons (by simp only [List.getElem?_toArray, List.getElem?_cons_succ, List.getElem?_cons_zero]; rfl) (fun K hK => ?_) AllReady.nil
        rw [if_pos (by kernel_rfl)]
        refine wp_app3 fm3 (.tmp 11) (.tmp 14) rfl (hv2.alloc (.cells #[.int .u16 ((Mb.read x.l).tx : Nat), .int .u8 ((Mb.read x.l).unit : Nat), .slice C k cc] 25)) rfl (Fr.new (P := fun b => W.heap.size ≤ b) w2 (Mb.read x.l) C k cc 25 SC (fun _ b o e => oC b o e)) rfl (fun b hb => ⟨Nat.le_trans hsz hb, fun e => by have := (hv.own b e).2; omega⟩) (by omega) (by simp only [maxLen]; omega) ?_
        intro v4 w4 H4 g4 o4
        obtain ⟨V5, hV5, _⟩ := (hv2.alloc (.cells #[.int .u16 ((Mb.read x.l).tx : Nat), .int .u8 ((Mb.read x.l).unit : Nat), .slice C k cc] 25)).row
        have bv4 := (bv2.alloc (.cells #[.int .u16 ((Mb.read x.l).tx : Nat), .int .u8 ((Mb.read x.l).unit : Nat), .slice C k cc] 25)).kept g4 ((bv2.alloc _).not_row (by decide) hV5)
        have bn4 := (bn2.alloc (.cells #[.int .u16 ((Mb.read x.l).tx : Nat), .int .u8 ((Mb.read x.l).unit : Nat), .slice C k cc] 25)).kept g4 ((bn2.alloc _).not_row (by decide) hV5)
        obtain ⟨V6, hV6, _⟩ := H4.row
        have hne4 := bv4.not_row (by decide) hV6
        have hne5 := bn4.not_row (by decide) hV6
        have bW4 : Below w.heap.size W w4 := (((Below.refl W.heap.size W).drew.call b2).new (.cells #[.int .u16 ((Mb.read x.l).tx : Nat), .int .u8 ((Mb.read x.l).unit : Nat), .slice C k cc] 25)).mono hv.bel.size |>.grown g4 (by simp; omega) (fun j hj => (hv.own j hj).1)
        have kW4 : KeepsFrom (w.heap.size + 3) W w4 := ⟨Nat.le_trans sz2 (Nat.le_trans (by simp) g4.size), fun j o hB hj ho => by
          have hj2 := b2.row (row_lt hj) hj
          have hj3 := row_alloc hj2 (.cells #[.int .u16 ((Mb.read x.l).tx : Nat), .int .u8 ((Mb.read x.l).unit : Nat), .slice C k cc] 25)
          refine (g4.block j (row_lt hj3) (fun e => ?_)).trans hj3
          rcases hV5.2 with ⟨hv0, _⟩ | ⟨gg, cap, cur, hv0, _, hgb, _⟩
          · rw [hv0] at e; simp [Value.ownBlock] at e
          · rw [hv0] at e
            obtain rfl : j = gg := by simpa [Value.ownBlock] using e
            rw [hgb] at hj3
            cases hj3
            cases ho⟩
        obtain ⟨A4, cc4, rfl, _, _⟩ := H4.slice
        have cv4 := bv4.cell
        have fv4 := bv4.frozen
        have bn5 : Boxed (w4.setCell ⟨w.heap.size, 0, none⟩ (.slice A4 (pre.length + 1) cc4)) (w.heap.size + 1) 3 (.int .i64 ((sumP pre : Nat) : Int)) := bn4.other (by omega) _
        have cn5 := bn5.cell
        have fn5 := bn5.frozen
        refine hK _ _ ?_
        clear hK K
        try simp only [Act.put, List.setIfInBounds_toArray, List.set_cons_zero, List.set_cons_succ]
        refine wpAny_ready (rs := [5]) (by kernel_rfl) (by simp) ?_
        refine AllReady.cons (by simp only [List.getElem?_toArray, List.getElem?_cons_succ, List.getElem?_cons_zero]; rfl) (fun K hK => ?_) AllReady.nil
        rw [if_pos (by kernel_rfl)]
        go_simp
        refine hK _ _ ?_
        clear hK K
        try simp only [Act.put, List.setIfInBounds_toArray, List.set_cons_zero, List.set_cons_succ]
        refine wpAny_done (by kernel_rfl) ?_ _
        show Code.wpIn _ _ _ _ _ _ _
        refine round_region (noDefer_of (by kernel_rfl)) (fun ⟨_, _, h⟩ => h) ?_
        go_wp2_with fail
        have g5 := grownBy_setCell' w4 w.heap.size (.slice A4 (pre.length + 1) cc4)
        have g6 := grownBy_setCell' (w4.setCell ⟨w.heap.size, 0, none⟩ (.slice A4 (pre.length + 1) cc4)) (w.heap.size + 1) (.int .i64 ((sumP pre + x.l.length : Nat) : Int))
        have kk : KeepsFrom (w.heap.size + 3) W ((w4.setCell ⟨w.heap.size, 0, none⟩ (.slice A4 (pre.length + 1) cc4)).setCell ⟨w.heap.size + 1, 0, none⟩ (.int .i64 ((sumP pre + x.l.length : Nat) : Int))) := (kW4.trans (KeepsFrom.of_grownBy g5 (fun j e => by injection e with e; omega))).trans (KeepsFrom.of_grownBy g6 (fun j e => by injection e with e; omega))
        have bb : Below w.heap.size W ((w4.setCell ⟨w.heap.size, 0, none⟩ (.slice A4 (pre.length + 1) cc4)).setCell ⟨w.heap.size + 1, 0, none⟩ (.int .i64 ((sumP pre + x.l.length : Nat) : Int))) := (bW4.grown g5 (Nat.le_trans hv.bel.size bW4.size) (fun j e => by injection e with e; omega)).grown g6 (by have := bW4.size; have := g5.size; have := hv.bel.size; omega) (fun j e => by injection e with e; omega)
        have hP := fun b (hb : w.heap.size + 3 ≤ b) => hb
        have H5 := H4.other g5 (Nat.le_refl _) (fun e => hne4 e.symm) (fun b hb => by omega)
        have H6 := H5.other g6 (Nat.le_succ _) (fun e => hne5 e.symm) (fun b hb => by omega)
        refine ⟨kk, bb, ⟨⟨_, (bv4.set _).other (by omega) _, ?_⟩, ?_, Nat.le_trans hsz kk.size⟩⟩
        · rw [List.length_append, List.map_append]
          exact H6
        · rw [sumP_snoc]
          exact bn5.set _
      refine AllReady.cons (by simp only [List.getElem?_toArray, List.getElem?_cons_succ, List.getElem?_cons_zero]; rfl) (fun K hK => ?_) ?_
      · rw [if_pos (by kernel_rfl)]
        go_simp
        refine hK _ _ ?_
        clear hK K
        try simp only [Act.put, List.setIfInBounds_toArray, List.set_cons_zero, List.set_cons_succ]
        refine wpAny_ready (rs := [0]) (by kernel_rfl) (by simp) ?_
        refine AllReady.cons (by simp only [List.getElem?_toArray, List.getElem?_cons_succ, List.getElem?_cons_zero]; rfl) (fun K hK => ?_) AllReady.nil
        rw [if_pos (by kernel_rfl)]
        go_simp
        refine hK _ _ ?_
        clear hK K
        try simp only [Act.put, List.setIfInBounds_toArray, List.set_cons_zero, List.set_cons_succ]
        refine wpAny_ready (rs := [4]) (by kernel_rfl) (by simp) ?_
        refine AllReady.cons (by simp only [List.getElem?_toArray, List.getElem?_cons_succ, List.getElem?_cons_zero]; rfl) (fun K hK => ?_) AllReady.nil
        rw [if_pos (by kernel_rfl)]
        refine wp_app3 fm3 (.tmp 11) (.tmp 14) rfl (hv2.alloc (.cells #[.int .u16 ((Mb.read x.l).tx : Nat), .int .u8 ((Mb.read x.l).unit : Nat), .slice C k cc] 25)) rfl (Fr.new (P := fun b => W.heap.size ≤ b) w2 (Mb.read x.l) C k cc 25 SC (fun _ b o e => oC b o e)) rfl (fun b hb => ⟨Nat.le_trans hsz hb, fun e => by have := (hv.own b e).2; omega⟩) (by omega) (by simp only [maxLen]; omega) ?_
        intro v4 w4 H4 g4 o4
        obtain ⟨V5, hV5, _⟩ := (hv2.alloc (.cells #[.int .u16 ((Mb.read x.l).tx : Nat), .int .u8 ((Mb.read x.l).unit : Nat), .slice C k cc] 25)).row
        have bv4 := (bv2.alloc (.cells #[.int .u16 ((Mb.read x.l).tx : Nat), .int .u8 ((Mb.read x.l).unit : Nat), .slice C k cc] 25)).kept g4 ((bv2.alloc _).not_row (by decide) hV5)
        have bn4 := (bn2.alloc (.cells #[.int .u16 ((Mb.read x.l).tx : Nat), .int .u8 ((Mb.read x.l).unit : Nat), .slice C k cc] 25)).kept g4 ((bn2.alloc _).not_row (by decide) hV5)
        obtain ⟨V6, hV6, _⟩ := H4.row
        have hne4 := bv4.not_row (by decide) hV6
        have hne5 := bn4.not_row (by decide) hV6
        have bW4 : Below w.heap.size W w4 := (((Below.refl W.heap.size W).drew.call b2).new (.cells #[.int .u16 ((Mb.read x.l).tx : Nat), .int .u8 ((Mb.read x.l).unit : Nat), .slice C k cc] 25)).mono hv.bel.size |>.grown g4 (by simp; omega) (fun j hj => (hv.own j hj).1)
        have kW4 : KeepsFrom (w.heap.size + 3) W w4 := ⟨Nat.le_trans sz2 (Nat.le_trans (by simp) g4.size), fun j o hB hj ho => by
          have hj2 := b2.row (row_lt hj) hj
          have hj3 := row_alloc hj2 (.cells #[.int .u16 ((Mb.read x.l).tx : Nat), .int .u8 ((Mb.read x.l).unit : Nat), .slice C k cc] 25)
          refine (g4.block j (row_lt hj3) (fun e => ?_)).trans hj3
          rcases hV5.2 with ⟨hv0, _⟩ | ⟨gg, cap, cur, hv0, _, hgb, _⟩
          · rw [hv0] at e; simp [Value.ownBlock] at e
          · rw [hv0] at e
            obtain rfl : j = gg := by simpa [Value.ownBlock] using e
            rw [hgb] at hj3
            cases hj3
            cases ho⟩
        obtain ⟨A4, cc4, rfl, _, _⟩ := H4.slice
        have cv4 := bv4.cell
        have fv4 := bv4.frozen
        have bn5 : Boxed (w4.setCell ⟨w.heap.size, 0, none⟩ (.slice A4 (pre.length + 1) cc4)) (w.heap.size + 1) 3 (.int .i64 ((sumP pre : Nat) : Int)) := bn4.other (by omega) _
        have cn5 := bn5.cell
        have fn5 := bn5.frozen
        refine hK _ _ ?_
        clear hK K
        try simp only [Act.put, List.setIfInBounds_toArray, List.set_cons_zero, List.set_cons_succ]
        refine wpAny_ready (rs := [5]) (by kernel_rfl) (by simp) ?_
        refine AllReady.cons (by simp only [List.getElem?_toArray, List.getElem?_cons_succ, List.getElem?_cons_zero]; rfl) (fun K hK => ?_) AllReady.nil
        rw [if_pos (by kernel_rfl)]
        go_simp
        refine hK _ _ ?_
        clear hK K
        try simp only [Act.put, List.setIfInBounds_toArray, List.set_cons_zero, List.set_cons_succ]
        refine wpAny_done (by kernel_rfl) ?_ _
        show Code.wpIn _ _ _ _ _ _ _
        refine round_region (noDefer_of (by kernel_rfl)) (fun ⟨_, _, h⟩ => h) ?_
        go_wp2_with fail
        have g5 := grownBy_setCell' w4 w.heap.size (.slice A4 (pre.length + 1) cc4)
        have g6 := grownBy_setCell' (w4.setCell ⟨w.heap.size, 0, none⟩ (.slice A4 (pre.length + 1) cc4)) (w.heap.size + 1) (.int .i64 ((sumP pre + x.l.length : Nat) : Int))
        have kk : KeepsFrom (w.heap.size + 3) W ((w4.setCell ⟨w.heap.size, 0, none⟩ (.slice A4 (pre.length + 1) cc4)).setCell ⟨w.heap.size + 1, 0, none⟩ (.int .i64 ((sumP pre + x.l.length : Nat) : Int))) := (kW4.trans (KeepsFrom.of_grownBy g5 (fun j e => by injection e with e; omega))).trans (KeepsFrom.of_grownBy g6 (fun j e => by injection e with e; omega))
        have bb : Below w.heap.size W ((w4.setCell ⟨w.heap.size, 0, none⟩ (.slice A4 (pre.length + 1) cc4)).setCell ⟨w.heap.size + 1, 0, none⟩ (.int .i64 ((sumP pre + x.l.length : Nat) : Int))) := (bW4.grown g5 (Nat.le_trans hv.bel.size bW4.size) (fun j e => by injection e with e; omega)).grown g6 (by have := bW4.size; have := g5.size; have := hv.bel.size; omega) (fun j e => by injection e with e; omega)
        have hP := fun b (hb : w.heap.size + 3 ≤ b) => hb
        have H5 := H4.other g5 (Nat.le_refl _) (fun e => hne4 e.symm) (fun b hb => by omega)
        have H6 := H5.other g6 (Nat.le_succ _) (fun e => hne5 e.symm) (fun b hb => by omega)
        refine ⟨kk, bb, ⟨⟨_, (bv4.set _).other (by omega) _, ?_⟩, ?_, Nat.le_trans hsz kk.size⟩⟩
        · rw [List.length_append, List.map_append]
          exact H6
        · rw [sumP_snoc]
          exact bn5.set _
      exact AllReady.nil
    exact AllReady.nil
  case done =>
    rintro D ys W hD hys ⟨⟨v, bv, hv⟩, bn, hsW⟩ hK
    have hr : (ys.map fun x => Mb.read x.l) = (pieces xs).map Mb.read := by rw [← hys, List.map_map]; rfl
    have hu : sumP ys = (pieces xs).flatten.length := by unfold sumP; rw [hys]
    have hl : ys.length = (pieces xs).length := by rw [← hys, List.length_map]
    rw [hr, hl] at hv
    rw [hu] at bn
    clear hr hu hl hys
    obtain ⟨L, hL⟩ : ∃ L, L = (pieces xs).map Mb.read := ⟨_, rfl⟩
    obtain ⟨U, hU⟩ : ∃ U, U = (pieces xs).flatten.length := ⟨_, rfl⟩
    have hN : (pieces xs).length = L.length := by rw [hL, List.length_map]
    rw [hN, ← hL] at hv
    rw [← hU] at bn
    rw [← hL, ← hU] at HCUT
    rw [← hU] at HUL
    have hUn := HUL.out
    have hd := hs.drop (k := U) hUn hc
    rw [bs_drop] at hd
    have hxd := hx.drop U
    obtain ⟨T, hT⟩ : ∃ T, T = xs.drop U := ⟨_, rfl⟩
    rw [← hT] at HCUT hd hxd
    have KB2 := Lib.hid (fun cc => KB.out _ (n - U) cc T W hd hxd (by omega) hv.bel)
    have HXD := Lib.hid hxd
    obtain ⟨G, hG⟩ : ∃ G, G = begins T := ⟨_, rfl⟩
    rw [← hG] at HCUT KB2
    have cb := bv.cell
    have cn := bn.cell
    have z1 : (U : Int) ≤ (n : Int) := by omega
    have z2 : (U : Int) ≤ (c : Int) := by omega
    have hDw : w.heap.size ≤ D := by omega
    obtain ⟨A4, c4, rfl, _, _⟩ := hv.slice
    have HV := fun q p : Nat => ((hv.drewN q).drewN p).still (grownBy_putObj' ((W.drewN q).drewN p) D (.deferred none)) (fun r e => by injection e with e; subst e; exact ⟨hDw, _, hK, rfl⟩)
    clear hs hx hlen hd hxd hT hG bL bN bB B0 hU hL hN
    by_cases hcU : c = U
    · rw [if_pos hcU] at KB2
      go_wp2_with fail
      refine (KB2.out _).mono ?_
      rintro e w2 ⟨rfl, q, rfl⟩
      cases G
      · go_wp2_with fail
        go_quiet (fail)
        go_wp2_with fail
        refine ⟨by simp, .inl ⟨_, _, rfl, run_takeDeferred (w := (W.drewN q).drewN nq) hK, ?_⟩⟩
        refine ⟨.tuple #[.slice A4 L.length c4, .int .i64 (U : Nat), .int .i64 10], by simp [results, Try.f14, go_sem], ?_⟩
        rw [HCUT.out]
        exact ⟨_, rfl, (HV q nq).imp (fun b hb => by omega)⟩
      · go_wp2_with fail
        go_quiet (fail)
        go_wp2_with fail
        refine ⟨by simp, .inl ⟨_, _, rfl, run_takeDeferred (w := (W.drewN q).drewN nq) hK, ?_⟩⟩
        refine ⟨.tuple #[.slice A4 L.length c4, .int .i64 (U : Nat), .int .i64 0], by simp [results, Try.f14, go_sem], ?_⟩
        rw [HCUT.out]
        exact ⟨_, rfl, (HV q nq).imp (fun b hb => by omega)⟩
    · rw [if_neg hcU] at KB2
      go_wp2_with fail
      refine (KB2.out _).mono ?_
      rintro e w2 ⟨rfl, q, rfl⟩
      cases G
      · go_wp2_with fail
        go_quiet (fail)
        go_wp2_with fail
        refine ⟨by simp, .inl ⟨_, _, rfl, run_takeDeferred (w := (W.drewN q).drewN nq) hK, ?_⟩⟩
        refine ⟨.tuple #[.slice A4 L.length c4, .int .i64 (U : Nat), .int .i64 10], by simp [results, Try.f14, go_sem], ?_⟩
        rw [HCUT.out]
        exact ⟨_, rfl, (HV q nq).imp (fun b hb => by omega)⟩
      · go_wp2_with fail
        go_quiet (fail)
        go_wp2_with fail
        refine ⟨by simp, .inl ⟨_, _, rfl, run_takeDeferred (w := (W.drewN q).drewN nq) hK, ?_⟩⟩
        refine ⟨.tuple #[.slice A4 L.length c4, .int .i64 (U : Nat), .int .i64 0], by simp [results, Try.f14, go_sem], ?_⟩
        rw [HCUT.out]
        exact ⟨_, rfl, (HV q nq).imp (fun b hb => by omega)⟩
  case stop =>
    rintro D c pre W _ _ h _
    exact h.elim
end Go.Proofs.Ytofigldbkndjlaa.MbW
