/- The walks of reply.Right, Bytes, Wrong. -/
import Derived.Test.YtiibopdnlmnkmaaRepC
import Derived.Test.YtiibopdnlmnkmaaRepE
import Derived.Test.YtiibopdnlmnkmaaRepG
set_option linter.unusedVariables false
set_option linter.unusedSimpArgs false
namespace Go.Proofs.Ytiibopdnlmnkmaa.AskW
open Go.RowKit Go.Proofs.Ytiibopdnlmnkmaa Go.Proofs.Ytiibopdnlmnkmaa.Ask
set_option maxRecDepth 100000 in
set_option maxHeartbeats 8000000 in
theorem repRight_any (f x : Nat) (Ab : Option Addr) (nb cb : Nat) (Aw : Option Addr) (nw cw : Nat) (a m : Nat) (B : List Bool) (W : List Nat) (w : World) (hB : Sl w w.heap.size Ab nb (bl B)) (hW : Sl w w.heap.size Aw nw (ws W)) (kB : nb ≤ 1000000) (kW : nw ≤ 1000000) :
    Calls Try.prog 34 #[.agg #[.int .u8 f, .int .u8 x, .slice Ab nb cb, .slice Aw nw cw, .int .u16 a, .int .u16 m]] w fun e w' => e = .returned (.bool (rright ⟨f, x, B, W, a, m⟩)) ∧ Below w.heap.size w w' := by
  have K0 := fun X => kindOf_any f x Ab nb cb Aw nw cw a m B W X
  obtain ⟨R, hR⟩ : ∃ R, R = rright ⟨f, x, B, W, a, m⟩ := ⟨_, rfl⟩
  rw [← hR]
  cases hk : kdOf ⟨f, x, B, W, a, m⟩ with
  | none =>
    have HR := Lib.hid (show R = false from by rw [hR]; unfold rright; rw [hk])
    rw [hk] at K0
    have K := Lib.hid K0
    clear hk K0 hR hB hW kB kW
    go_enter Try.func34, Try.ntmps34
    go_wp2_with fail
    refine (K.out _).mono ?_
    rintro e w1 ⟨rfl, b1⟩
    have hb := ((Below.refl _ w).new _).call b1
    dsimp only [kvO, Option.isSome]
    go_wp2_with fail
    go_ret
    exact ⟨ret_bool HR.out.symm, hb⟩
  | some k =>
    rw [hk] at K0
    have HR0 : R = k.right ⟨f, x, B, W, a, m⟩ := by rw [hR]; unfold rright; rw [hk]
    clear hk hR
    cases k with
    | exc =>
      have K := Lib.hid K0
      have KM := Lib.hid (fun X (b : Below w.heap.size w X) => right_exc f x Ab nb cb Aw nw cw a m B W X (hB.to b) (hW.to b) kB kW)
      have hm := m_exc_right
      have HR := Lib.hid HR0
      clear K0 HR0 hB hW kB kW
      go_enter Try.func34, Try.ntmps34
      go_wp2_with fail
      refine (K.out _).mono ?_
      rintro e w1 ⟨rfl, b1⟩
      have ra := b1.row (by simp) (heap_alloc_new w _)
      have hb := ((Below.refl _ w).new _).call b1
      obtain ⟨c0, c1, c2, c3, c4, c5⟩ := row6 ra
      dsimp only [kvO, kv, Option.isSome]
      go_wp2_with (go_at_call 89; refine (KM.out _ hb).mono ?_; rintro e w2 ⟨rfl, b2⟩)
      go_ret
      exact ⟨ret_bool HR.out.symm, hb.call b2⟩
    | bitsR =>
      have K := Lib.hid K0
      have KM := Lib.hid (fun X (b : Below w.heap.size w X) => right_bitsR f x Ab nb cb Aw nw cw a m B W X (hB.to b) (hW.to b) kB kW)
      have hm := m_bitsR_right
      have HR := Lib.hid HR0
      clear K0 HR0 hB hW kB kW
      go_enter Try.func34, Try.ntmps34
      go_wp2_with fail
      refine (K.out _).mono ?_
      rintro e w1 ⟨rfl, b1⟩
      have ra := b1.row (by simp) (heap_alloc_new w _)
      have hb := ((Below.refl _ w).new _).call b1
      obtain ⟨c0, c1, c2, c3, c4, c5⟩ := row6 ra
      dsimp only [kvO, kv, Option.isSome]
      go_wp2_with (go_at_call 92; refine (KM.out _ hb).mono ?_; rintro e w2 ⟨rfl, b2⟩)
      go_ret
      exact ⟨ret_bool HR.out.symm, hb.call b2⟩
    | wordsR =>
      have K := Lib.hid K0
      have KM := Lib.hid (fun X (b : Below w.heap.size w X) => right_wordsR f x Ab nb cb Aw nw cw a m B W X (hB.to b) (hW.to b) kB kW)
      have hm := m_wordsR_right
      have HR := Lib.hid HR0
      clear K0 HR0 hB hW kB kW
      go_enter Try.func34, Try.ntmps34
      go_wp2_with fail
      refine (K.out _).mono ?_
      rintro e w1 ⟨rfl, b1⟩
      have ra := b1.row (by simp) (heap_alloc_new w _)
      have hb := ((Below.refl _ w).new _).call b1
      obtain ⟨c0, c1, c2, c3, c4, c5⟩ := row6 ra
      dsimp only [kvO, kv, Option.isSome]
      go_wp2_with (go_at_call 97; refine (KM.out _ hb).mono ?_; rintro e w2 ⟨rfl, b2⟩)
      go_ret
      exact ⟨ret_bool HR.out.symm, hb.call b2⟩
    | bitW =>
      have K := Lib.hid K0
      have KM := Lib.hid (fun X (b : Below w.heap.size w X) => right_bitW f x Ab nb cb Aw nw cw a m B W X (hB.to b) (hW.to b) kB kW)
      have hm := m_bitW_right
      have HR := Lib.hid HR0
      clear K0 HR0 hB hW kB kW
      go_enter Try.func34, Try.ntmps34
      go_wp2_with fail
      refine (K.out _).mono ?_
      rintro e w1 ⟨rfl, b1⟩
      have ra := b1.row (by simp) (heap_alloc_new w _)
      have hb := ((Below.refl _ w).new _).call b1
      obtain ⟨c0, c1, c2, c3, c4, c5⟩ := row6 ra
      dsimp only [kvO, kv, Option.isSome]
      go_wp2_with (go_at_call 102; refine (KM.out _ hb).mono ?_; rintro e w2 ⟨rfl, b2⟩)
      go_ret
      exact ⟨ret_bool HR.out.symm, hb.call b2⟩
    | wordW =>
      have K := Lib.hid K0
      have KM := Lib.hid (fun X (b : Below w.heap.size w X) => right_wordW f x Ab nb cb Aw nw cw a m B W X (hB.to b) (hW.to b) kB kW)
      have hm := m_wordW_right
      have HR := Lib.hid HR0
      clear K0 HR0 hB hW kB kW
      go_enter Try.func34, Try.ntmps34
      go_wp2_with fail
      refine (K.out _).mono ?_
      rintro e w1 ⟨rfl, b1⟩
      have ra := b1.row (by simp) (heap_alloc_new w _)
      have hb := ((Below.refl _ w).new _).call b1
      obtain ⟨c0, c1, c2, c3, c4, c5⟩ := row6 ra
      dsimp only [kvO, kv, Option.isSome]
      go_wp2_with (go_at_call 105; refine (KM.out _ hb).mono ?_; rintro e w2 ⟨rfl, b2⟩)
      go_ret
      exact ⟨ret_bool HR.out.symm, hb.call b2⟩
    | manyW mo =>
      have K := Lib.hid K0
      have KM := Lib.hid (fun X (b : Below w.heap.size w X) => right_manyW mo f x Ab nb cb Aw nw cw a m B W X (hB.to b) (hW.to b) kB kW)
      have hm := m_manyW_right mo
      have HR := Lib.hid HR0
      clear K0 HR0 hB hW kB kW
      go_enter Try.func34, Try.ntmps34
      go_wp2_with fail
      refine (K.out _).mono ?_
      rintro e w1 ⟨rfl, b1⟩
      have ra := b1.row (by simp) (heap_alloc_new w _)
      have hb := ((Below.refl _ w).new _).call b1
      obtain ⟨c0, c1, c2, c3, c4, c5⟩ := row6 ra
      dsimp only [kvO, kv, Option.isSome]
      go_wp2_with (go_at_call 108; refine (KM.out _ hb).mono ?_; rintro e w2 ⟨rfl, b2⟩)
      go_ret
      exact ⟨ret_bool HR.out.symm, hb.call b2⟩
theorem rwf_small {f x a m : Nat} {B : List Bool} {W : List Nat} {k : Kd} (h : k.right ⟨f, x, B, W, a, m⟩ = true) : B.length ≤ 2000 ∧ W.length ≤ 125 := by
  cases k <;> simp [Kd.right] at h <;> (obtain ⟨_, h⟩ := h; simp_all <;> omega)
set_option maxRecDepth 100000 in
set_option maxHeartbeats 8000000 in
theorem repBytes_any (f x : Nat) (Ab : Option Addr) (nb cb : Nat) (Aw : Option Addr) (nw cw : Nat) (a m : Nat) (B : List Bool) (W : List Nat) (w : World) (hB : Sl w w.heap.size Ab nb (bl B)) (hW : Sl w w.heap.size Aw nw (ws W)) (hwf : Rep.Wf ⟨f, x, B, W, a, m⟩) (kB : nb ≤ 1000000) (kW : nw ≤ 1000000) :
    Calls Try.prog 59 #[.agg #[.int .u8 f, .int .u8 x, .slice Ab nb cb, .slice Aw nw cw, .int .u16 a, .int .u16 m]] w (RetRowErr w 5 (rbytesE ⟨f, x, B, W, a, m⟩)) := by
  have K0 := fun X => kindOf_any f x Ab nb cb Aw nw cw a m B W X
  obtain ⟨E, hE⟩ : ∃ E, E = rbytesE ⟨f, x, B, W, a, m⟩ := ⟨_, rfl⟩
  rw [← hE]
  cases hk : kdOf ⟨f, x, B, W, a, m⟩ with
  | none =>
    have HE := Lib.hid (show E = ([], 13) from by rw [hE]; unfold rbytesE rright; rw [hk]; rfl)
    rw [hk] at K0
    have K := Lib.hid K0
    clear hk K0 hE hB hW hwf kB kW
    go_enter Try.func59, Try.ntmps59
    go_wp2_with fail
    refine (K.out _).mono ?_
    rintro e w1 ⟨rfl, b1⟩
    have hb := ((Below.refl _ w).new _).call b1
    dsimp only [kvO, Option.isSome]
    go_wp2_with fail
    go_ret2
    rw [HE.out]
    exact ⟨_, rfl, Has.nil_ hb _⟩
  | some k =>
    rw [hk] at K0
    have HE0 : E = if k.right ⟨f, x, B, W, a, m⟩ then (k.bytes ⟨f, x, B, W, a, m⟩, 0) else ([], 13) := by rw [hE]; unfold rbytesE rright rbytes; rw [hk]
    clear hk hE
    have qB : B.length = nb := by simpa using hB.len
    have qW : W.length = nw := by simpa using hW.len
    cases k with
    | exc =>
      have K := Lib.hid K0
      have KM0 := fun X (b : Below w.heap.size w X) => right_exc f x Ab nb cb Aw nw cw a m B W X (hB.to b) (hW.to b) kB kW
      have hm := m_exc_right
      have hm2 := m_exc_bytes
      clear K0
      cases hr : Kd.right Kd.exc ⟨f, x, B, W, a, m⟩ with
      | false =>
        rw [hr] at KM0 HE0
        have KM := Lib.hid KM0
        have HE := Lib.hid HE0
        clear KM0 HE0 hr hB hW kB kW hwf qB qW
        go_enter Try.func59, Try.ntmps59
        go_wp2_with fail
        refine (K.out _).mono ?_
        rintro e w1 ⟨rfl, b1⟩
        have ra := b1.row (by simp) (heap_alloc_new w _)
        have hb := ((Below.refl _ w).new _).call b1
        obtain ⟨c0, c1, c2, c3, c4, c5⟩ := row6 ra
        dsimp only [kvO, kv, Option.isSome]
        go_wp2_with (go_at_call 89; refine (KM.out _ hb).mono ?_; rintro e w2 ⟨rfl, b2⟩)
        go_ret2
        rw [HE.out]
        exact ⟨_, rfl, Has.nil_ (hb.call b2) _⟩
      | true =>
        rw [hr] at KM0 HE0
        have KB := Lib.hid (fun X (b : Below w.heap.size w X) => kbytes_exc f x Ab nb cb Aw nw cw a m B W X (hB.to b) (hW.to b) hwf )
        have KM := Lib.hid KM0
        have HE := Lib.hid HE0
        clear KM0 HE0 hr hB hW kB kW hwf qB qW
        go_enter Try.func59, Try.ntmps59
        go_wp2_with fail
        refine (K.out _).mono ?_
        rintro e w1 ⟨rfl, b1⟩
        have ra := b1.row (by simp) (heap_alloc_new w _)
        have hb := ((Below.refl _ w).new _).call b1
        obtain ⟨c0, c1, c2, c3, c4, c5⟩ := row6 ra
        dsimp only [kvO, kv, Option.isSome]
        go_wp2_with (first
          | (go_at_call 89; refine (KM.out _ hb).mono ?_; rintro e w2 ⟨rfl, b2⟩; have hb := hb.call b2; obtain ⟨c0, c1, c2, c3, c4, c5⟩ := row6 (b2.row (row_lt ra) ra))
          | (go_at_call 87; refine (KB.out _ hb).mono ?_; rintro e w3 ⟨v, rfl, H⟩))
        go_ret2
        rw [HE.out]
        exact ⟨_, rfl, H.weaken hb⟩
    | bitsR =>
      have K := Lib.hid K0
      have KM0 := fun X (b : Below w.heap.size w X) => right_bitsR f x Ab nb cb Aw nw cw a m B W X (hB.to b) (hW.to b) kB kW
      have hm := m_bitsR_right
      have hm2 := m_bitsR_bytes
      clear K0
      cases hr : Kd.right Kd.bitsR ⟨f, x, B, W, a, m⟩ with
      | false =>
        rw [hr] at KM0 HE0
        have KM := Lib.hid KM0
        have HE := Lib.hid HE0
        clear KM0 HE0 hr hB hW kB kW hwf qB qW
        go_enter Try.func59, Try.ntmps59
        go_wp2_with fail
        refine (K.out _).mono ?_
        rintro e w1 ⟨rfl, b1⟩
        have ra := b1.row (by simp) (heap_alloc_new w _)
        have hb := ((Below.refl _ w).new _).call b1
        obtain ⟨c0, c1, c2, c3, c4, c5⟩ := row6 ra
        dsimp only [kvO, kv, Option.isSome]
        go_wp2_with (go_at_call 92; refine (KM.out _ hb).mono ?_; rintro e w2 ⟨rfl, b2⟩)
        go_ret2
        rw [HE.out]
        exact ⟨_, rfl, Has.nil_ (hb.call b2) _⟩
      | true =>
        have n1 : nb ≤ 2000 := by simp [Kd.right, qB] at hr; omega
        rw [hr] at KM0 HE0
        have KB := Lib.hid (fun X (b : Below w.heap.size w X) => kbytes_bitsR f x Ab nb cb Aw nw cw a m B W X (hB.to b) (hW.to b) hwf n1)
        have KM := Lib.hid KM0
        have HE := Lib.hid HE0
        clear KM0 HE0 hr hB hW kB kW hwf qB qW
        go_enter Try.func59, Try.ntmps59
        go_wp2_with fail
        refine (K.out _).mono ?_
        rintro e w1 ⟨rfl, b1⟩
        have ra := b1.row (by simp) (heap_alloc_new w _)
        have hb := ((Below.refl _ w).new _).call b1
        obtain ⟨c0, c1, c2, c3, c4, c5⟩ := row6 ra
        dsimp only [kvO, kv, Option.isSome]
        go_wp2_with (first
          | (go_at_call 92; refine (KM.out _ hb).mono ?_; rintro e w2 ⟨rfl, b2⟩; have hb := hb.call b2; obtain ⟨c0, c1, c2, c3, c4, c5⟩ := row6 (b2.row (row_lt ra) ra))
          | (go_at_call 90; refine (KB.out _ hb).mono ?_; rintro e w3 ⟨v, rfl, H⟩))
        go_ret2
        rw [HE.out]
        exact ⟨_, rfl, H.weaken hb⟩
    | wordsR =>
      have K := Lib.hid K0
      have KM0 := fun X (b : Below w.heap.size w X) => right_wordsR f x Ab nb cb Aw nw cw a m B W X (hB.to b) (hW.to b) kB kW
      have hm := m_wordsR_right
      have hm2 := m_wordsR_bytes
      clear K0
      cases hr : Kd.right Kd.wordsR ⟨f, x, B, W, a, m⟩ with
      | false =>
        rw [hr] at KM0 HE0
        have KM := Lib.hid KM0
        have HE := Lib.hid HE0
        clear KM0 HE0 hr hB hW kB kW hwf qB qW
        go_enter Try.func59, Try.ntmps59
        go_wp2_with fail
        refine (K.out _).mono ?_
        rintro e w1 ⟨rfl, b1⟩
        have ra := b1.row (by simp) (heap_alloc_new w _)
        have hb := ((Below.refl _ w).new _).call b1
        obtain ⟨c0, c1, c2, c3, c4, c5⟩ := row6 ra
        dsimp only [kvO, kv, Option.isSome]
        go_wp2_with (go_at_call 97; refine (KM.out _ hb).mono ?_; rintro e w2 ⟨rfl, b2⟩)
        go_ret2
        rw [HE.out]
        exact ⟨_, rfl, Has.nil_ (hb.call b2) _⟩
      | true =>
        have n1 : nw ≤ 1000 := by simp [Kd.right, qW] at hr; omega
        rw [hr] at KM0 HE0
        have KB := Lib.hid (fun X (b : Below w.heap.size w X) => kbytes_wordsR f x Ab nb cb Aw nw cw a m B W X (hB.to b) (hW.to b) hwf n1)
        have KM := Lib.hid KM0
        have HE := Lib.hid HE0
        clear KM0 HE0 hr hB hW kB kW hwf qB qW
        go_enter Try.func59, Try.ntmps59
        go_wp2_with fail
        refine (K.out _).mono ?_
        rintro e w1 ⟨rfl, b1⟩
        have ra := b1.row (by simp) (heap_alloc_new w _)
        have hb := ((Below.refl _ w).new _).call b1
        obtain ⟨c0, c1, c2, c3, c4, c5⟩ := row6 ra
        dsimp only [kvO, kv, Option.isSome]
        go_wp2_with (first
          | (go_at_call 97; refine (KM.out _ hb).mono ?_; rintro e w2 ⟨rfl, b2⟩; have hb := hb.call b2; obtain ⟨c0, c1, c2, c3, c4, c5⟩ := row6 (b2.row (row_lt ra) ra))
          | (go_at_call 95; refine (KB.out _ hb).mono ?_; rintro e w3 ⟨v, rfl, H⟩))
        go_ret2
        rw [HE.out]
        exact ⟨_, rfl, H.weaken hb⟩
    | bitW =>
      have K := Lib.hid K0
      have KM0 := fun X (b : Below w.heap.size w X) => right_bitW f x Ab nb cb Aw nw cw a m B W X (hB.to b) (hW.to b) kB kW
      have hm := m_bitW_right
      have hm2 := m_bitW_bytes
      clear K0
      cases hr : Kd.right Kd.bitW ⟨f, x, B, W, a, m⟩ with
      | false =>
        rw [hr] at KM0 HE0
        have KM := Lib.hid KM0
        have HE := Lib.hid HE0
        clear KM0 HE0 hr hB hW kB kW hwf qB qW
        go_enter Try.func59, Try.ntmps59
        go_wp2_with fail
        refine (K.out _).mono ?_
        rintro e w1 ⟨rfl, b1⟩
        have ra := b1.row (by simp) (heap_alloc_new w _)
        have hb := ((Below.refl _ w).new _).call b1
        obtain ⟨c0, c1, c2, c3, c4, c5⟩ := row6 ra
        dsimp only [kvO, kv, Option.isSome]
        go_wp2_with (go_at_call 102; refine (KM.out _ hb).mono ?_; rintro e w2 ⟨rfl, b2⟩)
        go_ret2
        rw [HE.out]
        exact ⟨_, rfl, Has.nil_ (hb.call b2) _⟩
      | true =>
        have n1 : 1 ≤ nb := by simp [Kd.right, qB] at hr; omega
        rw [hr] at KM0 HE0
        have KB := Lib.hid (fun X (b : Below w.heap.size w X) => kbytes_bitW f x Ab nb cb Aw nw cw a m B W X (hB.to b) (hW.to b) hwf n1)
        have KM := Lib.hid KM0
        have HE := Lib.hid HE0
        clear KM0 HE0 hr hB hW kB kW hwf qB qW
        go_enter Try.func59, Try.ntmps59
        go_wp2_with fail
        refine (K.out _).mono ?_
        rintro e w1 ⟨rfl, b1⟩
        have ra := b1.row (by simp) (heap_alloc_new w _)
        have hb := ((Below.refl _ w).new _).call b1
        obtain ⟨c0, c1, c2, c3, c4, c5⟩ := row6 ra
        dsimp only [kvO, kv, Option.isSome]
        go_wp2_with (first
          | (go_at_call 102; refine (KM.out _ hb).mono ?_; rintro e w2 ⟨rfl, b2⟩; have hb := hb.call b2; obtain ⟨c0, c1, c2, c3, c4, c5⟩ := row6 (b2.row (row_lt ra) ra))
          | (go_at_call 100; refine (KB.out _ hb).mono ?_; rintro e w3 ⟨v, rfl, H⟩))
        go_ret2
        rw [HE.out]
        exact ⟨_, rfl, H.weaken hb⟩
    | wordW =>
      have K := Lib.hid K0
      have KM0 := fun X (b : Below w.heap.size w X) => right_wordW f x Ab nb cb Aw nw cw a m B W X (hB.to b) (hW.to b) kB kW
      have hm := m_wordW_right
      have hm2 := m_wordW_bytes
      clear K0
      cases hr : Kd.right Kd.wordW ⟨f, x, B, W, a, m⟩ with
      | false =>
        rw [hr] at KM0 HE0
        have KM := Lib.hid KM0
        have HE := Lib.hid HE0
        clear KM0 HE0 hr hB hW kB kW hwf qB qW
        go_enter Try.func59, Try.ntmps59
        go_wp2_with fail
        refine (K.out _).mono ?_
        rintro e w1 ⟨rfl, b1⟩
        have ra := b1.row (by simp) (heap_alloc_new w _)
        have hb := ((Below.refl _ w).new _).call b1
        obtain ⟨c0, c1, c2, c3, c4, c5⟩ := row6 ra
        dsimp only [kvO, kv, Option.isSome]
        go_wp2_with (go_at_call 105; refine (KM.out _ hb).mono ?_; rintro e w2 ⟨rfl, b2⟩)
        go_ret2
        rw [HE.out]
        exact ⟨_, rfl, Has.nil_ (hb.call b2) _⟩
      | true =>
        have n1 : 1 ≤ nw := by simp [Kd.right, qW] at hr; omega
        rw [hr] at KM0 HE0
        have KB := Lib.hid (fun X (b : Below w.heap.size w X) => kbytes_wordW f x Ab nb cb Aw nw cw a m B W X (hB.to b) (hW.to b) hwf n1)
        have KM := Lib.hid KM0
        have HE := Lib.hid HE0
        clear KM0 HE0 hr hB hW kB kW hwf qB qW
        go_enter Try.func59, Try.ntmps59
        go_wp2_with fail
        refine (K.out _).mono ?_
        rintro e w1 ⟨rfl, b1⟩
        have ra := b1.row (by simp) (heap_alloc_new w _)
        have hb := ((Below.refl _ w).new _).call b1
        obtain ⟨c0, c1, c2, c3, c4, c5⟩ := row6 ra
        dsimp only [kvO, kv, Option.isSome]
        go_wp2_with (first
          | (go_at_call 105; refine (KM.out _ hb).mono ?_; rintro e w2 ⟨rfl, b2⟩; have hb := hb.call b2; obtain ⟨c0, c1, c2, c3, c4, c5⟩ := row6 (b2.row (row_lt ra) ra))
          | (go_at_call 103; refine (KB.out _ hb).mono ?_; rintro e w3 ⟨v, rfl, H⟩))
        go_ret2
        rw [HE.out]
        exact ⟨_, rfl, H.weaken hb⟩
    | manyW mo =>
      have K := Lib.hid K0
      have KM0 := fun X (b : Below w.heap.size w X) => right_manyW mo f x Ab nb cb Aw nw cw a m B W X (hB.to b) (hW.to b) kB kW
      have hm := m_manyW_right mo
      have hm2 := m_manyW_bytes mo
      clear K0
      cases hr : Kd.right (Kd.manyW mo) ⟨f, x, B, W, a, m⟩ with
      | false =>
        rw [hr] at KM0 HE0
        have KM := Lib.hid KM0
        have HE := Lib.hid HE0
        clear KM0 HE0 hr hB hW kB kW hwf qB qW
        go_enter Try.func59, Try.ntmps59
        go_wp2_with fail
        refine (K.out _).mono ?_
        rintro e w1 ⟨rfl, b1⟩
        have ra := b1.row (by simp) (heap_alloc_new w _)
        have hb := ((Below.refl _ w).new _).call b1
        obtain ⟨c0, c1, c2, c3, c4, c5⟩ := row6 ra
        dsimp only [kvO, kv, Option.isSome]
        go_wp2_with (go_at_call 108; refine (KM.out _ hb).mono ?_; rintro e w2 ⟨rfl, b2⟩)
        go_ret2
        rw [HE.out]
        exact ⟨_, rfl, Has.nil_ (hb.call b2) _⟩
      | true =>
        rw [hr] at KM0 HE0
        have KB := Lib.hid (fun X (b : Below w.heap.size w X) => kbytes_manyW mo f x Ab nb cb Aw nw cw a m B W X (hB.to b) (hW.to b) hwf )
        have KM := Lib.hid KM0
        have HE := Lib.hid HE0
        clear KM0 HE0 hr hB hW kB kW hwf qB qW
        go_enter Try.func59, Try.ntmps59
        go_wp2_with fail
        refine (K.out _).mono ?_
        rintro e w1 ⟨rfl, b1⟩
        have ra := b1.row (by simp) (heap_alloc_new w _)
        have hb := ((Below.refl _ w).new _).call b1
        obtain ⟨c0, c1, c2, c3, c4, c5⟩ := row6 ra
        dsimp only [kvO, kv, Option.isSome]
        go_wp2_with (first
          | (go_at_call 108; refine (KM.out _ hb).mono ?_; rintro e w2 ⟨rfl, b2⟩; have hb := hb.call b2; obtain ⟨c0, c1, c2, c3, c4, c5⟩ := row6 (b2.row (row_lt ra) ra))
          | (go_at_call 106; refine (KB.out _ hb).mono ?_; rintro e w3 ⟨v, rfl, H⟩))
        go_ret2
        rw [HE.out]
        exact ⟨_, rfl, H.weaken hb⟩
theorem wrong2_any (f x : Nat) (hf : f < 256) (w : World) :
    Calls Try.prog 22 #[.int .u8 f, .int .u8 x] w (RetRep w ⟨f % 128, x, [], [], 0, 0⟩) := by
  have hr : Int.tmod (f : Int) 128 = ((f % 128 : Nat) : Int) := by rw [Int.tmod_eq_emod_of_nonneg (by omega)]; omega
  obtain ⟨q, eq⟩ : ∃ q, q = f % 128 := ⟨_, rfl⟩
  have hq8 : IntKind.u8.wrap (q : Int) = q := by rw [IntKind.wrap_u8]; omega
  rw [← eq] at hr ⊢
  clear eq hf
  have rz := heap_alloc_new w (.cells #[.int .u8 (q : Nat), .int .u8 (x : Nat), .slice none 0 0, .slice none 0 0, .int .u16 0, .int .u16 0] 36)
  have hb := (Below.refl _ w).new (.cells #[.int .u8 (q : Nat), .int .u8 (x : Nat), .slice none 0 0, .slice none 0 0, .int .u16 0, .int .u16 0] 36)
  go_enter Try.func22, Try.ntmps22
  go_wp2_with fail
  refine bodyPost_row rfl w.heap.size 36 #[.int .u8 (q : Nat), .int .u8 (x : Nat), .slice none 0 0, .slice none 0 0, .int .u16 0, .int .u16 0] (0, 0) _ rfl rz Try.underlying36 rfl (by kernel_rfl) rfl ?_
  exact ⟨none, 0, 0, none, 0, 0, rfl, Sl.empty _ _ _, Sl.empty _ _ _, Nat.le_refl _, Nat.le_refl _, (fun _ _ h => by cases h), (fun _ _ h => by cases h), hb⟩
end Go.Proofs.Ytiibopdnlmnkmaa.AskW
