/- The walk of saucierref03.Echo. -/
import Derived.Test.YtjfhfgchglaoiaaGreatRepJ
import Derived.Test.YtjfhfgchglaoiaaGreatAG7
import Derived.Test.YtjfhfgchglaoiaaGreatAG6
import Derived.Deep.RegionHeld3
set_option linter.unusedVariables false
set_option linter.unusedSimpArgs false
namespace Go.Proofs.YtjfhfgchglaoiaaGreat.AskW
open Go.RowKit Go.Proofs.YtjfhfgchglaoiaaGreat Go.Proofs.YtjfhfgchglaoiaaGreat.Ask
theorem row_drew {W : World} {o : Obj} {g : Nat} (h : W.heap[g]? = some o) : W.drew.heap[g]? = some o := h
theorem below_new {B : Nat} {a w : World} (hB : B ≤ a.heap.size) (h : Below B a w) (o : Obj) : Below B a (w.alloc o) := h.alloc (Nat.le_trans hB h.size) o
set_option maxRecDepth 100000 in
set_option maxHeartbeats 16000000 in
theorem ref3Echo_any (f a m t : Nat) (Aw : Option Addr) (nw cw : Nat) (Ab : Option Addr) (nb cb : Nat) (W : List Nat) (B : List Bool) (w : World)
    (hW : Sl w w.heap.size Aw nw (ws W)) (hB : Sl w w.heap.size Ab nb (bl B)) (hwf : Req.Wf ⟨f, a, m, t, W, B⟩) :
    Calls Tryz.prog 41 #[.agg #[.int .u8 f, .int .u16 a, .int .u16 m, .int .u16 t, .slice Aw nw cw, .slice Ab nb cb]] w (RetRepFlag w (echoF ⟨f, a, m, t, W, B⟩)) := by
  have qW : W.length = nw := by simpa using hW.len
  have qB : B.length = nb := by simpa using hB.len
  have KR0 := fun X => refRight_any f a m t Aw nw cw Ab nb cb W B qW qB hwf.many X
  have HSH : right ⟨f, a, m, t, W, B⟩ = true → (f = 5 → ∃ y, B = [y]) ∧ (f = 6 → ∃ y, W = [y]) := fun h => by
    cases shape_of h with
    | ask m' h' hf' hm' hb => exact ⟨fun e => by simp at hf'; omega, fun e => by simp at hf'; omega⟩
    | bit y h' hb => simp at h'; exact ⟨fun _ => ⟨y, h'.2.2.2.2⟩, fun e => by omega⟩
    | word y h' hb => simp at h'; exact ⟨fun e => by omega, fun _ => ⟨y, h'.2.2.2.1⟩⟩
    | bits h' hm' hb => simp at h'; exact ⟨fun e => by omega, fun e => by omega⟩
    | words h' hm' hb => simp at h'; exact ⟨fun e => by omega, fun e => by omega⟩
    | swap h' hm' hw' hb => simp at h'; exact ⟨fun e => by omega, fun e => by omega⟩
  obtain ⟨P, hP⟩ : ∃ P, P = echoF ⟨f, a, m, t, W, B⟩ := ⟨_, rfl⟩
  rw [← hP]
  obtain ⟨Q, hQ⟩ : ∃ Q, Q = right ⟨f, a, m, t, W, B⟩ := ⟨_, rfl⟩
  rw [← hQ] at KR0 HSH
  have KR := Lib.hid KR0
  have HP0 : P = if Q then (if f = 5 then (⟨f, 0, B, [], a, 0⟩, true) else if f = 6 then (⟨f, 0, [], W, a, 0⟩, true) else if f = 15 ∨ f = 16 then (⟨f, 0, [], [], a, m⟩, true) else (rep0, false)) else (rep0, false) := by
    rw [hP]; unfold echoF; rw [← hQ]
  clear hP hQ KR0 hwf qW qB
  cases Q
  case false =>
    have HP := Lib.hid HP0
    clear HP0 hW hB HSH
    go_enter Tryz.func41, Tryz.ntmps41
    go_wp2_with fail
    refine (KR.out _).mono ?_
    rintro e w1 ⟨rfl, b1⟩
    have ra := b1.row (by simp; omega) (row_alloc (heap_alloc_new w (.cells #[.int .u8 f, .int .u16 a, .int .u16 m, .int .u16 t, .slice Aw nw cw, .slice Ab nb cb] 31)) (.cells #[.int .u8 0, .int .u8 0, .slice none 0 0, .slice none 0 0, .int .u16 0, .int .u16 0] 40))
    have rz := b1.row (by simp) (heap_alloc2_new w (.cells #[.int .u8 f, .int .u16 a, .int .u16 m, .int .u16 t, .slice Aw nw cw, .slice Ab nb cb] 31) (.cells #[.int .u8 0, .int .u8 0, .slice none 0 0, .slice none 0 0, .int .u16 0, .int .u16 0] 40))
    have hb := (((Below.refl _ w).new _).new _).call b1
    obtain ⟨c0, c1, c2, c3, c4, c5⟩ := row6 ra
    have lz := row_lt rz
    clear b1
    go_wp2_with (refine wpList_store_grown rfl 40 (.tmp 2) _ rfl (w.heap.size + 1) #[.int .u8 0, .int .u8 0, .slice none 0 0, .slice none 0 0, .int .u16 0, .int .u16 0] rfl rfl 40 _ rz (by kernel_rfl) rfl (by simp [Value.oneCell']) ?_; intro w9 h9 g9 s9)
    refine bodyPost_row_tmp rfl (w.heap.size + 1) 40 #[.int .u8 0, .int .u8 0, .slice none 0 0, .slice none 0 0, .int .u16 0, .int .u16 0] (0, 0) _ (.bool false) rfl h9 Tryz.underlying40 rfl (by kernel_rfl) rfl rfl ?_
    rw [HP.out]
    exact RetRepFlag.flat 0 0 0 0 false (hb.grown g9 hb.size (fun k hk => by injection hk with hk; omega))
  case true =>
    obtain ⟨HS5, HS6⟩ := HSH rfl
    by_cases h5 : f = 5
    · subst h5
      have HP : Hid (P = (⟨5, 0, B, [], a, 0⟩, true)) := Lib.hid (by rw [HP0, if_pos rfl, if_pos rfl])
      obtain ⟨y, hy⟩ := HS5 rfl
      have hn1 : nb = 1 := by have := hB.len; rw [hy] at this; simpa using this.symm
      have z1 : (0 : Int) < (nb : Int) := by omega
      have z1n : 0 < nb := by omega
      obtain ⟨b, o, rfl, hbl, d1⟩ := hB.2 (by omega)
      have g1 : w.cell? ⟨b, o, none⟩ = some (.bool y) := (d1 0 (by omega)).trans (by rw [hy] <;> rfl)
      rw [hy] at HP
      clear HP0 hW hB HS5 HS6 d1 hy hn1
      go_enter Tryz.func41, Tryz.ntmps41
      go_wp2_with fail
      refine (KR.out _).mono ?_
      rintro e w1 ⟨rfl, b1⟩
      have ra := b1.row (by simp; omega) (row_alloc (heap_alloc_new w (.cells #[.int .u8 5, .int .u16 a, .int .u16 m, .int .u16 t, .slice Aw nw cw, .slice (some ⟨b, o, none⟩) nb cb] 31)) (.cells #[.int .u8 0, .int .u8 0, .slice none 0 0, .slice none 0 0, .int .u16 0, .int .u16 0] 40))
      have rz := b1.row (by simp) (heap_alloc2_new w (.cells #[.int .u8 5, .int .u16 a, .int .u16 m, .int .u16 t, .slice Aw nw cw, .slice (some ⟨b, o, none⟩) nb cb] 31) (.cells #[.int .u8 0, .int .u8 0, .slice none 0 0, .slice none 0 0, .int .u16 0, .int .u16 0] 40))
      have hb := (((Below.refl _ w).new _).new _).call b1
      obtain ⟨c0, c1, c2, c3, c4, c5⟩ := row6 ra
      have lz := row_lt rz
      clear b1
      obtain ⟨k, ek⟩ : ∃ k, k = w.heap.size + 1 := ⟨_, rfl⟩
      have hqk : w.heap.size < k := by omega
      have hk0 : w.heap.size ≤ k := by omega
      rw [← ek] at rz lz ⊢
      clear ek
      have g2 := (hb.cell (p := ⟨b, o, none⟩) hbl).trans g1
      have R0 : Rt w w1 (k) #[.int .u8 0, .int .u8 0, .slice none 0 0, .slice none 0 0, .int .u16 0, .int .u16 0] := ⟨hb, rz, hk0⟩
      have hkB : k ≤ w1.heap.size := Nat.le_of_lt lz
      have hbl1 : b < k := by omega
      have HKP := Lib.hid (fun (X : World) (bb : Below (k) w1 X) => (And.intro bb (And.intro (row6 (bb.row hqk ra)).2.1 (And.intro (row6 (bb.row hqk ra)).2.2.2.2.2 ((bb.cell (p := ⟨b, o, none⟩) hbl1).trans g2))) : Below (k) w1 X ∧ X.cell? ⟨w.heap.size, 1, none⟩ = some (.int .u16 a) ∧ X.cell? ⟨w.heap.size, 5, none⟩ = some (.slice (some ⟨b, o, none⟩) nb cb) ∧ X.cell? ⟨b, o, none⟩ = some (.bool y)))
      have sne : ¬ w1.heap.size = k := by omega
      have sne2 : ¬ k = w1.heap.size := by omega
      obtain ⟨d0, d1, d2, d3, d4, d5⟩ := row6 R0.ra
      obtain ⟨f0, f1, f2, f3, f4, f5⟩ := free6 R0.ra
      have cq : ∀ (d : Nat) (o : Obj) (i : Nat), ((w1.drewN d).alloc o).cell? ⟨k, i, none⟩ = w1.cell? ⟨k, i, none⟩ := fun d o i => World.cell?_of_block (w := w1) (a := ⟨k, i, none⟩) (Below.heap_alloc (w1.drewN d) o (k) lz)
      have fq : ∀ (d : Nat) (o : Obj) (i : Nat), ((w1.drewN d).alloc o).frozen? ⟨k, i, none⟩ = w1.frozen? ⟨k, i, none⟩ := fun d o i => World.frozen?_of_block (w := w1) (a := ⟨k, i, none⟩) (Below.heap_alloc (w1.drewN d) o (k) lz)
      have cq' : ∀ (o : Obj) (i : Nat), (w1.drew.alloc o).cell? ⟨k, i, none⟩ = w1.cell? ⟨k, i, none⟩ := fun o i => World.cell?_of_block (w := w1) (a := ⟨k, i, none⟩) (Below.heap_alloc w1.drew o (k) lz)
      have fq' : ∀ (o : Obj) (i : Nat), (w1.drew.alloc o).frozen? ⟨k, i, none⟩ = w1.frozen? ⟨k, i, none⟩ := fun o i => World.frozen?_of_block (w := w1) (a := ⟨k, i, none⟩) (Below.heap_alloc w1.drew o (k) lz)
      go_wp2_with fail
      go_region_held3 (fun X => Below (k) w1 X ∧ X.cell? ⟨w.heap.size, 1, none⟩ = some (.int .u16 a) ∧ X.cell? ⟨w.heap.size, 5, none⟩ = some (.slice (some ⟨b, o, none⟩) nb cb) ∧ X.cell? ⟨b, o, none⟩ = some (.bool y))
        (exact HKP.out _ (by repeat (first | with_reducible exact Below.refl _ _ | with_reducible assumption | with_reducible refine below_new hkB ?_ _ | with_reducible apply Below.drewN | with_reducible apply Below.drew | with_reducible refine Below.setCell ?_ (Nat.le_refl k) _)))
        (first | fail)
      all_goals (
        go_wp2_with fail
        refine bodyPost_row_tmp rfl (k) 40 #[.int .u8 5, .int .u8 0, .slice (some ⟨w1.heap.size, 0, none⟩) 1 1, .slice none 0 0, .int .u16 (a : Nat), .int .u16 0] (0, 0) _ (.bool true) rfl ?hg Tryz.underlying40 rfl (by kernel_rfl) rfl rfl ?hR
        case hg =>
          apply Rt.eq (w := w)
          · repeat (first | with_reducible assumption | with_reducible apply Rt.new | with_reducible apply Rt.drewN | with_reducible apply Rt.drew | with_reducible apply Rt.set)
          · rfl
        case hR =>
          rw [HP.out]
          refine ⟨some ⟨w1.heap.size, 0, none⟩, 1, 1, none, 0, 0, rfl, ?sb, ?sw, Nat.le_refl _, Nat.le_refl _, ?ob, ?ow, ?bel⟩
          case sb =>
            refine sl_row (v := .bool y) (t := 4) ?_
            repeat (first | with_reducible refine row_drew ?_ | with_reducible refine row_set sne ?_)
            with_reducible exact row_last (by simp [World.setCell])
          case sw => exact Sl.empty _ _ _
          case ob => intro b' o' h; injection h with h; injection h with h _; omega
          case ow => intro b' o' h; cases h
          case bel => repeat (first | with_reducible assumption | with_reducible apply Below.new | with_reducible apply Below.drewN | with_reducible apply Below.drew | with_reducible refine Below.setCell ?_ hk0 _))
    by_cases h6 : f = 6
    · subst h6
      have HP : Hid (P = (⟨6, 0, [], W, a, 0⟩, true)) := Lib.hid (by rw [HP0, if_pos rfl, if_neg (by omega), if_pos rfl])
      obtain ⟨y, hy⟩ := HS6 rfl
      have hn1 : nw = 1 := by have := hW.len; rw [hy] at this; simpa using this.symm
      have z1 : (0 : Int) < (nw : Int) := by omega
      have z1n : 0 < nw := by omega
      obtain ⟨b, o, rfl, hbl, d1⟩ := hW.2 (by omega)
      have g1 : w.cell? ⟨b, o, none⟩ = some (.int .u16 (y : Nat)) := (d1 0 (by omega)).trans (by rw [hy] <;> rfl)
      rw [hy] at HP
      clear HP0 hW hB HS5 HS6 d1 hy hn1
      go_enter Tryz.func41, Tryz.ntmps41
      go_wp2_with fail
      refine (KR.out _).mono ?_
      rintro e w1 ⟨rfl, b1⟩
      have ra := b1.row (by simp; omega) (row_alloc (heap_alloc_new w (.cells #[.int .u8 6, .int .u16 a, .int .u16 m, .int .u16 t, .slice (some ⟨b, o, none⟩) nw cw, .slice Ab nb cb] 31)) (.cells #[.int .u8 0, .int .u8 0, .slice none 0 0, .slice none 0 0, .int .u16 0, .int .u16 0] 40))
      have rz := b1.row (by simp) (heap_alloc2_new w (.cells #[.int .u8 6, .int .u16 a, .int .u16 m, .int .u16 t, .slice (some ⟨b, o, none⟩) nw cw, .slice Ab nb cb] 31) (.cells #[.int .u8 0, .int .u8 0, .slice none 0 0, .slice none 0 0, .int .u16 0, .int .u16 0] 40))
      have hb := (((Below.refl _ w).new _).new _).call b1
      obtain ⟨c0, c1, c2, c3, c4, c5⟩ := row6 ra
      have lz := row_lt rz
      clear b1
      obtain ⟨k, ek⟩ : ∃ k, k = w.heap.size + 1 := ⟨_, rfl⟩
      have hqk : w.heap.size < k := by omega
      have hk0 : w.heap.size ≤ k := by omega
      rw [← ek] at rz lz ⊢
      clear ek
      have g2 := (hb.cell (p := ⟨b, o, none⟩) hbl).trans g1
      have R0 : Rt w w1 (k) #[.int .u8 0, .int .u8 0, .slice none 0 0, .slice none 0 0, .int .u16 0, .int .u16 0] := ⟨hb, rz, hk0⟩
      have hkB : k ≤ w1.heap.size := Nat.le_of_lt lz
      have hbl1 : b < k := by omega
      have HKP := Lib.hid (fun (X : World) (bb : Below (k) w1 X) => (And.intro bb (And.intro (row6 (bb.row hqk ra)).2.1 (And.intro (row6 (bb.row hqk ra)).2.2.2.2.1 ((bb.cell (p := ⟨b, o, none⟩) hbl1).trans g2))) : Below (k) w1 X ∧ X.cell? ⟨w.heap.size, 1, none⟩ = some (.int .u16 a) ∧ X.cell? ⟨w.heap.size, 4, none⟩ = some (.slice (some ⟨b, o, none⟩) nw cw) ∧ X.cell? ⟨b, o, none⟩ = some (.int .u16 (y : Nat))))
      have sne : ¬ w1.heap.size = k := by omega
      have sne2 : ¬ k = w1.heap.size := by omega
      obtain ⟨d0, d1, d2, d3, d4, d5⟩ := row6 R0.ra
      obtain ⟨f0, f1, f2, f3, f4, f5⟩ := free6 R0.ra
      have cq : ∀ (d : Nat) (o : Obj) (i : Nat), ((w1.drewN d).alloc o).cell? ⟨k, i, none⟩ = w1.cell? ⟨k, i, none⟩ := fun d o i => World.cell?_of_block (w := w1) (a := ⟨k, i, none⟩) (Below.heap_alloc (w1.drewN d) o (k) lz)
      have fq : ∀ (d : Nat) (o : Obj) (i : Nat), ((w1.drewN d).alloc o).frozen? ⟨k, i, none⟩ = w1.frozen? ⟨k, i, none⟩ := fun d o i => World.frozen?_of_block (w := w1) (a := ⟨k, i, none⟩) (Below.heap_alloc (w1.drewN d) o (k) lz)
      have cq' : ∀ (o : Obj) (i : Nat), (w1.drew.alloc o).cell? ⟨k, i, none⟩ = w1.cell? ⟨k, i, none⟩ := fun o i => World.cell?_of_block (w := w1) (a := ⟨k, i, none⟩) (Below.heap_alloc w1.drew o (k) lz)
      have fq' : ∀ (o : Obj) (i : Nat), (w1.drew.alloc o).frozen? ⟨k, i, none⟩ = w1.frozen? ⟨k, i, none⟩ := fun o i => World.frozen?_of_block (w := w1) (a := ⟨k, i, none⟩) (Below.heap_alloc w1.drew o (k) lz)
      go_wp2_with fail
      go_region_held3 (fun X => Below (k) w1 X ∧ X.cell? ⟨w.heap.size, 1, none⟩ = some (.int .u16 a) ∧ X.cell? ⟨w.heap.size, 4, none⟩ = some (.slice (some ⟨b, o, none⟩) nw cw) ∧ X.cell? ⟨b, o, none⟩ = some (.int .u16 (y : Nat)))
        (exact HKP.out _ (by repeat (first | with_reducible exact Below.refl _ _ | with_reducible assumption | with_reducible refine below_new hkB ?_ _ | with_reducible apply Below.drewN | with_reducible apply Below.drew | with_reducible refine Below.setCell ?_ (Nat.le_refl k) _)))
        (first | fail)
      all_goals (
        go_wp2_with fail
        refine bodyPost_row_tmp rfl (k) 40 #[.int .u8 6, .int .u8 0, .slice none 0 0, .slice (some ⟨w1.heap.size, 0, none⟩) 1 1, .int .u16 (a : Nat), .int .u16 0] (0, 0) _ (.bool true) rfl ?hg Tryz.underlying40 rfl (by kernel_rfl) rfl rfl ?hR
        case hg =>
          apply Rt.eq (w := w)
          · repeat (first | with_reducible assumption | with_reducible apply Rt.new | with_reducible apply Rt.drewN | with_reducible apply Rt.drew | with_reducible apply Rt.set)
          · rfl
        case hR =>
          rw [HP.out]
          refine ⟨none, 0, 0, some ⟨w1.heap.size, 0, none⟩, 1, 1, rfl, ?sb, ?sw, Nat.le_refl _, Nat.le_refl _, ?ob, ?ow, ?bel⟩
          case sw =>
            refine sl_row (v := .int .u16 (y : Nat)) (t := 29) ?_
            repeat (first | with_reducible refine row_drew ?_ | with_reducible refine row_set sne ?_)
            with_reducible exact row_last (by simp [World.setCell])
          case sb => exact Sl.empty _ _ _
          case ow => intro b' o' h; injection h with h; injection h with h _; omega
          case ob => intro b' o' h; cases h
          case bel => repeat (first | with_reducible assumption | with_reducible apply Below.new | with_reducible apply Below.drewN | with_reducible apply Below.drew | with_reducible refine Below.setCell ?_ hk0 _))
    by_cases h15 : f = 15
    · have HP := Lib.hid (show P = (⟨f, 0, [], [], a, m⟩, true) from by rw [HP0, if_pos rfl, if_neg h5, if_neg h6, if_pos (Or.inl h15)])
      have T5 : ((f : Int) == 5) = false := by first | (rw [beq_eq_false_iff_ne]; omega) | (rw [beq_iff_eq]; omega)
      have T6 : ((f : Int) == 6) = false := by first | (rw [beq_eq_false_iff_ne]; omega) | (rw [beq_iff_eq]; omega)
      have T15 : ((f : Int) == 15) = true := by first | (rw [beq_eq_false_iff_ne]; omega) | (rw [beq_iff_eq]; omega)
      have T16 : ((f : Int) == 16) = false := by first | (rw [beq_eq_false_iff_ne]; omega) | (rw [beq_iff_eq]; omega)
      clear HP0 hW hB HS5 HS6 h5 h6 h15
      go_enter Tryz.func41, Tryz.ntmps41
      go_wp2_with fail
      refine (KR.out _).mono ?_
      rintro e w1 ⟨rfl, b1⟩
      have ra := b1.row (by simp; omega) (row_alloc (heap_alloc_new w (.cells #[.int .u8 f, .int .u16 a, .int .u16 m, .int .u16 t, .slice Aw nw cw, .slice Ab nb cb] 31)) (.cells #[.int .u8 0, .int .u8 0, .slice none 0 0, .slice none 0 0, .int .u16 0, .int .u16 0] 40))
      have rz := b1.row (by simp) (heap_alloc2_new w (.cells #[.int .u8 f, .int .u16 a, .int .u16 m, .int .u16 t, .slice Aw nw cw, .slice Ab nb cb] 31) (.cells #[.int .u8 0, .int .u8 0, .slice none 0 0, .slice none 0 0, .int .u16 0, .int .u16 0] 40))
      have hb := (((Below.refl _ w).new _).new _).call b1
      obtain ⟨c0, c1, c2, c3, c4, c5⟩ := row6 ra
      have lz := row_lt rz
      clear b1
      go_wp2_with (refine wpList_store_grown rfl 40 (.tmp 2) _ rfl (w.heap.size + 1) #[.int .u8 (f : Nat), .int .u8 0, .slice none 0 0, .slice none 0 0, .int .u16 (a : Nat), .int .u16 (m : Nat)] rfl rfl 40 _ rz (by kernel_rfl) rfl (by simp [Value.oneCell']) ?_; intro w9 h9 g9 s9)
      refine bodyPost_row_tmp rfl (w.heap.size + 1) 40 #[.int .u8 (f : Nat), .int .u8 0, .slice none 0 0, .slice none 0 0, .int .u16 (a : Nat), .int .u16 (m : Nat)] (0, 0) _ (.bool true) rfl h9 Tryz.underlying40 rfl (by kernel_rfl) rfl rfl ?_
      rw [HP.out]
      exact RetRepFlag.flat f 0 a m true (hb.grown g9 hb.size (fun k hk => by injection hk with hk; omega))
    by_cases h16 : f = 16
    · have HP := Lib.hid (show P = (⟨f, 0, [], [], a, m⟩, true) from by rw [HP0, if_pos rfl, if_neg h5, if_neg h6, if_pos (Or.inr h16)])
      have T5 : ((f : Int) == 5) = false := by first | (rw [beq_eq_false_iff_ne]; omega) | (rw [beq_iff_eq]; omega)
      have T6 : ((f : Int) == 6) = false := by first | (rw [beq_eq_false_iff_ne]; omega) | (rw [beq_iff_eq]; omega)
      have T15 : ((f : Int) == 15) = false := by first | (rw [beq_eq_false_iff_ne]; omega) | (rw [beq_iff_eq]; omega)
      have T16 : ((f : Int) == 16) = true := by first | (rw [beq_eq_false_iff_ne]; omega) | (rw [beq_iff_eq]; omega)
      clear HP0 hW hB HS5 HS6 h5 h6 h15 h16
      go_enter Tryz.func41, Tryz.ntmps41
      go_wp2_with fail
      refine (KR.out _).mono ?_
      rintro e w1 ⟨rfl, b1⟩
      have ra := b1.row (by simp; omega) (row_alloc (heap_alloc_new w (.cells #[.int .u8 f, .int .u16 a, .int .u16 m, .int .u16 t, .slice Aw nw cw, .slice Ab nb cb] 31)) (.cells #[.int .u8 0, .int .u8 0, .slice none 0 0, .slice none 0 0, .int .u16 0, .int .u16 0] 40))
      have rz := b1.row (by simp) (heap_alloc2_new w (.cells #[.int .u8 f, .int .u16 a, .int .u16 m, .int .u16 t, .slice Aw nw cw, .slice Ab nb cb] 31) (.cells #[.int .u8 0, .int .u8 0, .slice none 0 0, .slice none 0 0, .int .u16 0, .int .u16 0] 40))
      have hb := (((Below.refl _ w).new _).new _).call b1
      obtain ⟨c0, c1, c2, c3, c4, c5⟩ := row6 ra
      have lz := row_lt rz
      clear b1
      go_wp2_with (refine wpList_store_grown rfl 40 (.tmp 2) _ rfl (w.heap.size + 1) #[.int .u8 (f : Nat), .int .u8 0, .slice none 0 0, .slice none 0 0, .int .u16 (a : Nat), .int .u16 (m : Nat)] rfl rfl 40 _ rz (by kernel_rfl) rfl (by simp [Value.oneCell']) ?_; intro w9 h9 g9 s9)
      refine bodyPost_row_tmp rfl (w.heap.size + 1) 40 #[.int .u8 (f : Nat), .int .u8 0, .slice none 0 0, .slice none 0 0, .int .u16 (a : Nat), .int .u16 (m : Nat)] (0, 0) _ (.bool true) rfl h9 Tryz.underlying40 rfl (by kernel_rfl) rfl rfl ?_
      rw [HP.out]
      exact RetRepFlag.flat f 0 a m true (hb.grown g9 hb.size (fun k hk => by injection hk with hk; omega))
    have HP := Lib.hid (show P = (rep0, false) from by rw [HP0, if_pos rfl, if_neg h5, if_neg h6, if_neg (by omega)])
    have T5 : ((f : Int) == 5) = false := by first | (rw [beq_eq_false_iff_ne]; omega) | (rw [beq_iff_eq]; omega)
    have T6 : ((f : Int) == 6) = false := by first | (rw [beq_eq_false_iff_ne]; omega) | (rw [beq_iff_eq]; omega)
    have T15 : ((f : Int) == 15) = false := by first | (rw [beq_eq_false_iff_ne]; omega) | (rw [beq_iff_eq]; omega)
    have T16 : ((f : Int) == 16) = false := by first | (rw [beq_eq_false_iff_ne]; omega) | (rw [beq_iff_eq]; omega)
    clear HP0 hW hB HS5 HS6 h5 h6 h15 h16
    go_enter Tryz.func41, Tryz.ntmps41
    go_wp2_with fail
    refine (KR.out _).mono ?_
    rintro e w1 ⟨rfl, b1⟩
    have ra := b1.row (by simp; omega) (row_alloc (heap_alloc_new w (.cells #[.int .u8 f, .int .u16 a, .int .u16 m, .int .u16 t, .slice Aw nw cw, .slice Ab nb cb] 31)) (.cells #[.int .u8 0, .int .u8 0, .slice none 0 0, .slice none 0 0, .int .u16 0, .int .u16 0] 40))
    have rz := b1.row (by simp) (heap_alloc2_new w (.cells #[.int .u8 f, .int .u16 a, .int .u16 m, .int .u16 t, .slice Aw nw cw, .slice Ab nb cb] 31) (.cells #[.int .u8 0, .int .u8 0, .slice none 0 0, .slice none 0 0, .int .u16 0, .int .u16 0] 40))
    have hb := (((Below.refl _ w).new _).new _).call b1
    obtain ⟨c0, c1, c2, c3, c4, c5⟩ := row6 ra
    have lz := row_lt rz
    clear b1
    go_wp2_with (refine wpList_store_grown rfl 40 (.tmp 2) _ rfl (w.heap.size + 1) #[.int .u8 0, .int .u8 0, .slice none 0 0, .slice none 0 0, .int .u16 0, .int .u16 0] rfl rfl 40 _ rz (by kernel_rfl) rfl (by simp [Value.oneCell']) ?_; intro w9 h9 g9 s9)
    refine bodyPost_row_tmp rfl (w.heap.size + 1) 40 #[.int .u8 0, .int .u8 0, .slice none 0 0, .slice none 0 0, .int .u16 0, .int .u16 0] (0, 0) _ (.bool false) rfl h9 Tryz.underlying40 rfl (by kernel_rfl) rfl rfl ?_
    rw [HP.out]
    exact RetRepFlag.flat 0 0 0 0 false (hb.grown g9 hb.size (fun k hk => by injection hk with hk; omega))
end Go.Proofs.YtjfhfgchglaoiaaGreat.AskW
