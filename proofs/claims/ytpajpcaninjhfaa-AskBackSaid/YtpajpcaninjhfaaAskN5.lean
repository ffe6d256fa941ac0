/- The walk of fields.bytes where one bit is written alone. -/
import Derived.Test.YtpajpcaninjhfaaAskN
set_option linter.unusedVariables false
set_option linter.unusedSimpArgs false
namespace Go.Proofs.Ytpajpcaninjhfaa.AskW
open Go.RowKit Go.Proofs.Ytpajpcaninjhfaa Go.Proofs.Ytpajpcaninjhfaa.Ask
theorem lvl_lt (b : Bool) : (if b then 65280 else 0 : Nat) < 65536 := by cases b <;> decide
set_option maxHeartbeats 8000000 in
theorem fbytes_5 (f a m t : Nat) (Aw : Option Addr) (nw cw : Nat) (Ab : Option Addr) (nb cb : Nat) (W : List Nat) (B : List Bool) (w : World)
    (hW : Sl w w.heap.size Aw nw (ws W)) (hB : Sl w w.heap.size Ab nb (bl B)) (ha : a < 65536) (hnb : 1 ≤ nb) :
    Calls Try.prog 31 #[.agg #[.int .i64 0, .bool false, .int .u8 1, .int .u8 0], .agg #[.int .u8 f, .int .u16 a, .int .u16 m, .int .u16 t, .slice Aw nw cw, .slice Ab nb cb]] w
      fun e w' => ∃ v, e = .returned v ∧ Has w w' 5 v (fbytes 0 false 1 0 ⟨f, a, m, t, W, B⟩).length (bs (fbytes 0 false 1 0 ⟨f, a, m, t, W, B⟩)) := by
  have qB : B.length = nb := by simpa using hB.len
  obtain ⟨x, ex⟩ : ∃ x, x = B[0]?.getD false := ⟨_, rfl⟩
  have HF : Hid (fbytes 0 false 1 0 ⟨f, a, m, t, W, B⟩ = f :: two a ++ two (if x then 65280 else 0)) := by
    show _ = _
    simp [fbytes, ex]
  obtain ⟨F, hF⟩ : ∃ F, F = fbytes 0 false 1 0 ⟨f, a, m, t, W, B⟩ := ⟨_, rfl⟩
  rw [← hF] at HF ⊢
  obtain ⟨b, o, rfl, hbl, d1⟩ := hB.2 (by omega)
  have g1 : w.cell? ⟨b, o, none⟩ = _ := (d1 0 (by omega)).trans (bl_get (by omega))
  rw [← ex] at g1
  have z1 : (0 : Int) < (nb : Int) := by omega
  have hL := Lib.hid (lvl_lt x)
  obtain ⟨L, eL⟩ : ∃ L, L = (if x then 65280 else 0 : Nat) := ⟨_, rfl⟩
  have KL := Lib.hid (fun X => level_any x X)
  rw [← eL] at hL HF KL
  clear hF qB ex d1 hW hB eL
  go_enter Try.func31, Try.ntmps31
  go_wp2_with fail
  refine (put_new1 _ _ (first_new _ f _ (by simp)) a ha (by omega) _ (by simp)).mono ?_
  rintro e w2 ⟨v2, rfl, HB⟩
  obtain ⟨W1, hW1⟩ : ∃ W1, W1 = (w.alloc (.cells #[.int .i64 0, .bool false, .int .u8 1, .int .u8 0] 55)).alloc (.cells #[.int .u8 f, .int .u16 a, .int .u16 m, .int .u16 t, .slice Aw nw cw, .slice (some ⟨b, o, none⟩) nb cb] 26) := ⟨_, rfl⟩
  have r1 : W1.heap[w.heap.size]? = _ := hW1 ▸ row_alloc (heap_alloc_new w _) _
  have r2 : W1.heap[w.heap.size + 1]? = _ := hW1 ▸ heap_alloc2_new w _ _
  have s1 : w.heap.size + 1 < W1.heap.size := by rw [hW1]; simp
  have bW : Below w.heap.size w W1 := by rw [hW1]; exact ((Below.refl _ _).new _).new _
  rw [← hW1] at HB
  clear hW1
  have bW2 : Below w.heap.size w w2 := bW.call HB.bel
  have g2 : w2.cell? ⟨b, o, none⟩ = _ := (bW2.cell (p := ⟨b, o, none⟩) hbl).trans g1
  obtain ⟨p0, p1, p2, p3⟩ := row4 (HB.bel.row (by omega) r1)
  obtain ⟨q0, q1, q2, q3, q4, q5⟩ := row6 (HB.bel.row (by omega) r2)
  clear r1 r2
  go_wp2_with fail
  refine (KL.out _).mono ?_
  rintro e w3 ⟨rfl, rfl⟩
  go_wp2_with fail
  refine (put_new1 _ _ HB L hL.out (by omega) _ (by first | rfl | simp)).mono ?_
  rintro e w4 ⟨v4, rfl, HB4⟩
  go_wp2_with fail
  go_ret
  refine ⟨_, rfl, ?_⟩
  have e : bs ([f] ++ two a ++ two L) = bs F := by rw [HF.out]; simp [bs, two]
  have H := (HB4.cast e).weaken bW
  simpa using H
end Go.Proofs.Ytpajpcaninjhfaa.AskW
