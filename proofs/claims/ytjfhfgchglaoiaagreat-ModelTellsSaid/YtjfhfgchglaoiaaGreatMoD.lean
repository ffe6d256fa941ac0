/- The walks of saucierref07: Right, Check. -/
import Derived.Test.YtjfhfgchglaoiaaGreatMG1
import Derived.Test.YtjfhfgchglaoiaaGreatMG3
import Derived.Test.YtjfhfgchglaoiaaGreatAskW14
import Derived.Test.YtjfhfgchglaoiaaGreatRepW8
import Derived.Test.YtjfhfgchglaoiaaGreatRepW3
set_option linter.unusedVariables false
set_option linter.unusedSimpArgs false
namespace Go.Proofs.YtjfhfgchglaoiaaGreat.MoW
open Go.RowKit Go.Proofs.YtjfhfgchglaoiaaGreat Go.Proofs.YtjfhfgchglaoiaaGreat.Mo Go.Proofs.YtjfhfgchglaoiaaGreat.Ask Go.Proofs.YtjfhfgchglaoiaaGreat.AskW
/-- Two boxes that a call has made at its beginning. -/
structure Bx (w w1 : World) (X Y : Obj) : Prop where
  x : w1.heap[w.heap.size]? = some X
  y : w1.heap[w.heap.size + 1]? = some Y
  bel : Below w.heap.size w w1
  sz : w.heap.size + 2 ≤ w1.heap.size
theorem Bx.first {w w1 : World} {X Y : Obj} (b : Below ((w.alloc X).alloc Y).heap.size ((w.alloc X).alloc Y) w1) : Bx w w1 X Y :=
  ⟨b.row (by simp; omega) (row_alloc (heap_alloc_new w X) Y), b.row (by simp) (heap_alloc2_new w X Y), (((Below.refl _ w).new _).new _).call b, by have := b.size; simp at this; omega⟩
theorem Bx.call {w w1 w2 : World} {X Y : Obj} (h : Bx w w1 X Y) (b : Below w1.heap.size w1 w2) : Bx w w2 X Y :=
  ⟨b.row (row_lt h.x) h.x, b.row (row_lt h.y) h.y, h.bel.call b, Nat.le_trans h.sz b.size⟩
theorem Bx.drew {w w1 : World} {X Y : Obj} (h : Bx w w1 X Y) : Bx w w1.drew X Y := ⟨h.x, h.y, h.bel.drew, h.sz⟩
theorem ret_u8 {a b : Int} (h : a = b) : Ending.returned (.int .u8 a) = .returned (.int .u8 b) := by rw [h]
structure _root_.Go.Proofs.YtjfhfgchglaoiaaGreat.Mo.Sp.Small (v : Sp) : Prop where
  a : v.a.n ≤ 100000
  b : v.b.n ≤ 100000
  c : v.c.n ≤ 100000
  d : v.d.n ≤ 100000
set_option maxHeartbeats 4000000 in
theorem refRight7_any (v u : Sp) (s : Space) (M : Mem) (w : World) (hS : SpOk w v s) (hM : MmOk w u M) (ho : s.Ok) (hv : v.Small) (hu : u.Small) :
    Calls Tryz.prog 9 #[.agg #[.slice v.a.A v.a.n v.a.c, .slice v.b.A v.b.n v.b.c, .slice v.c.A v.c.n v.c.c, .slice v.d.A v.d.n v.d.c], .agg #[.slice u.a.A u.a.n u.a.c, .slice u.b.A u.b.n u.b.c, .slice u.c.A u.c.n u.c.c, .slice u.d.A u.d.n u.d.c]] w fun e w' => e = .returned (.bool (rightM s M)) ∧ Below w.heap.size w w' := by
  have hE : rightM s M = (areasFrom 0 s.coils u.a.n false && (areasFrom 0 s.inputs u.b.n true && (areasFrom 0 s.holding u.c.n false && areasFrom 0 s.words u.d.n true))) := by
    unfold rightM; rw [hM.lens.1, hM.lens.2.1, hM.lens.2.2.1, hM.lens.2.2.2]
  rw [hE]
  have ka0 := fun X (b : Below w.heap.size w X) => refAreas_any v.a.A v.a.n v.a.c s.coils u.a.n false X (hS.coils.to b) ho.coils (by have := hv.a; omega) (by have := hu.a; omega)
  obtain ⟨Ra, hRa⟩ : ∃ R, R = areasFrom 0 s.coils u.a.n false := ⟨_, rfl⟩
  rw [← hRa] at ka0 ⊢
  have Ka := Lib.hid ka0
  clear ka0 hRa
  have kb0 := fun X (b : Below w.heap.size w X) => refAreas_any v.b.A v.b.n v.b.c s.inputs u.b.n true X (hS.inputs.to b) ho.inputs (by have := hv.b; omega) (by have := hu.b; omega)
  obtain ⟨Rb, hRb⟩ : ∃ R, R = areasFrom 0 s.inputs u.b.n true := ⟨_, rfl⟩
  rw [← hRb] at kb0 ⊢
  have Kb := Lib.hid kb0
  clear kb0 hRb
  have kc0 := fun X (b : Below w.heap.size w X) => refAreas_any v.c.A v.c.n v.c.c s.holding u.c.n false X (hS.holding.to b) ho.holding (by have := hv.c; omega) (by have := hu.c; omega)
  obtain ⟨Rc, hRc⟩ : ∃ R, R = areasFrom 0 s.holding u.c.n false := ⟨_, rfl⟩
  rw [← hRc] at kc0 ⊢
  have Kc := Lib.hid kc0
  clear kc0 hRc
  have kd0 := fun X (b : Below w.heap.size w X) => refAreas_any v.d.A v.d.n v.d.c s.words u.d.n true X (hS.words.to b) ho.words (by have := hv.d; omega) (by have := hu.d; omega)
  obtain ⟨Rd, hRd⟩ : ∃ R, R = areasFrom 0 s.words u.d.n true := ⟨_, rfl⟩
  rw [← hRd] at kd0 ⊢
  have Kd := Lib.hid kd0
  clear kd0 hRd
  clear hE hS hM ho hv hu
  cases Ra
  case false =>
    go_enter Tryz.func9, Tryz.ntmps9
    go_wp2_with fail
    refine (Ka.out _ (((Below.refl _ w).new _).new _)).mono ?_
    rintro e w1 ⟨rfl, b1⟩
    have B1 := Bx.first b1
    clear b1
    obtain ⟨c0, c1, c2, c3⟩ := row4 B1.x
    obtain ⟨e0, e1, e2, e3⟩ := row4 B1.y
    go_wp2_with fail
    go_ret
    exact ⟨rfl, B1.bel⟩
  case true =>
    cases Rb
    case false =>
      go_enter Tryz.func9, Tryz.ntmps9
      go_wp2_with fail
      refine (Ka.out _ (((Below.refl _ w).new _).new _)).mono ?_
      rintro e w1 ⟨rfl, b1⟩
      have B1 := Bx.first b1
      clear b1
      obtain ⟨c0, c1, c2, c3⟩ := row4 B1.x
      obtain ⟨e0, e1, e2, e3⟩ := row4 B1.y
      go_wp2_with fail
      refine (Kb.out _ B1.bel).mono ?_
      rintro e w2 ⟨rfl, b2⟩
      have B2 := B1.call b2
      clear b2 c0 c1 c2 c3 e0 e1 e2 e3
      obtain ⟨c0, c1, c2, c3⟩ := row4 B2.x
      obtain ⟨e0, e1, e2, e3⟩ := row4 B2.y
      go_wp2_with fail
      go_ret
      exact ⟨rfl, B2.bel⟩
    case true =>
      cases Rc
      case false =>
        go_enter Tryz.func9, Tryz.ntmps9
        go_wp2_with fail
        refine (Ka.out _ (((Below.refl _ w).new _).new _)).mono ?_
        rintro e w1 ⟨rfl, b1⟩
        have B1 := Bx.first b1
        clear b1
        obtain ⟨c0, c1, c2, c3⟩ := row4 B1.x
        obtain ⟨e0, e1, e2, e3⟩ := row4 B1.y
        go_wp2_with fail
        refine (Kb.out _ B1.bel).mono ?_
        rintro e w2 ⟨rfl, b2⟩
        have B2 := B1.call b2
        clear b2 c0 c1 c2 c3 e0 e1 e2 e3
        obtain ⟨c0, c1, c2, c3⟩ := row4 B2.x
        obtain ⟨e0, e1, e2, e3⟩ := row4 B2.y
        go_wp2_with fail
        refine (Kc.out _ B2.bel).mono ?_
        rintro e w3 ⟨rfl, b3⟩
        have B3 := B2.call b3
        clear b3 c0 c1 c2 c3 e0 e1 e2 e3
        obtain ⟨c0, c1, c2, c3⟩ := row4 B3.x
        obtain ⟨e0, e1, e2, e3⟩ := row4 B3.y
        go_wp2_with fail
        go_ret
        exact ⟨rfl, B3.bel⟩
      case true =>
        cases Rd
        case false =>
          go_enter Tryz.func9, Tryz.ntmps9
          go_wp2_with fail
          refine (Ka.out _ (((Below.refl _ w).new _).new _)).mono ?_
          rintro e w1 ⟨rfl, b1⟩
          have B1 := Bx.first b1
          clear b1
          obtain ⟨c0, c1, c2, c3⟩ := row4 B1.x
          obtain ⟨e0, e1, e2, e3⟩ := row4 B1.y
          go_wp2_with fail
          refine (Kb.out _ B1.bel).mono ?_
          rintro e w2 ⟨rfl, b2⟩
          have B2 := B1.call b2
          clear b2 c0 c1 c2 c3 e0 e1 e2 e3
          obtain ⟨c0, c1, c2, c3⟩ := row4 B2.x
          obtain ⟨e0, e1, e2, e3⟩ := row4 B2.y
          go_wp2_with fail
          refine (Kc.out _ B2.bel).mono ?_
          rintro e w3 ⟨rfl, b3⟩
          have B3 := B2.call b3
          clear b3 c0 c1 c2 c3 e0 e1 e2 e3
          obtain ⟨c0, c1, c2, c3⟩ := row4 B3.x
          obtain ⟨e0, e1, e2, e3⟩ := row4 B3.y
          go_wp2_with fail
          refine (Kd.out _ B3.bel).mono ?_
          rintro e w4 ⟨rfl, b4⟩
          have B4 := B3.call b4
          clear b4 c0 c1 c2 c3 e0 e1 e2 e3
          obtain ⟨c0, c1, c2, c3⟩ := row4 B4.x
          obtain ⟨e0, e1, e2, e3⟩ := row4 B4.y
          go_wp2_with fail
          go_ret
          exact ⟨rfl, B4.bel⟩
        case true =>
          go_enter Tryz.func9, Tryz.ntmps9
          go_wp2_with fail
          refine (Ka.out _ (((Below.refl _ w).new _).new _)).mono ?_
          rintro e w1 ⟨rfl, b1⟩
          have B1 := Bx.first b1
          clear b1
          obtain ⟨c0, c1, c2, c3⟩ := row4 B1.x
          obtain ⟨e0, e1, e2, e3⟩ := row4 B1.y
          go_wp2_with fail
          refine (Kb.out _ B1.bel).mono ?_
          rintro e w2 ⟨rfl, b2⟩
          have B2 := B1.call b2
          clear b2 c0 c1 c2 c3 e0 e1 e2 e3
          obtain ⟨c0, c1, c2, c3⟩ := row4 B2.x
          obtain ⟨e0, e1, e2, e3⟩ := row4 B2.y
          go_wp2_with fail
          refine (Kc.out _ B2.bel).mono ?_
          rintro e w3 ⟨rfl, b3⟩
          have B3 := B2.call b3
          clear b3 c0 c1 c2 c3 e0 e1 e2 e3
          obtain ⟨c0, c1, c2, c3⟩ := row4 B3.x
          obtain ⟨e0, e1, e2, e3⟩ := row4 B3.y
          go_wp2_with fail
          refine (Kd.out _ B3.bel).mono ?_
          rintro e w4 ⟨rfl, b4⟩
          have B4 := B3.call b4
          clear b4 c0 c1 c2 c3 e0 e1 e2 e3
          obtain ⟨c0, c1, c2, c3⟩ := row4 B4.x
          obtain ⟨e0, e1, e2, e3⟩ := row4 B4.y
          go_wp2_with fail
          go_ret
          exact ⟨rfl, B4.bel⟩
set_option maxHeartbeats 4000000 in
theorem refCheck_any (v : Sp) (s : Space) (f a m t : Nat) (Aw : Option Addr) (nw cw : Nat) (Ab : Option Addr) (nb cb : Nat) (W : List Nat) (B : List Bool) (w : World) (hS : SpOk w v s) (ho : s.Ok) (hv : v.Small)
    (hW : W.length = nw) (hB : B.length = nb) (hwf : Req.Wf ⟨f, a, m, t, W, B⟩) (kW : nw ≤ 100000) (kB : nb ≤ 100000) :
    Calls Tryz.prog 13 #[.agg #[.slice v.a.A v.a.n v.a.c, .slice v.b.A v.b.n v.b.c, .slice v.c.A v.c.n v.c.c, .slice v.d.A v.d.n v.d.c], .agg #[.int .u8 f, .int .u16 a, .int .u16 m, .int .u16 t, .slice Aw nw cw, .slice Ab nb cb]] w fun e w' => e = .returned (.int .u8 ((checkM s ⟨f, a, m, t, W, B⟩ : Nat) : Int)) ∧ Below w.heap.size w w' := by
  have hf := hwf.f
  have ha := hwf.at'
  have hm := hwf.many
  have ht := hwf.to
  simp only at hf ha hm ht
  have wa := w64 (show a ≤ 9223372036854775807 by omega)
  have wm := w64 (show m ≤ 9223372036854775807 by omega)
  have wt := w64 (show t ≤ 9223372036854775807 by omega)
  have KR0 := fun X => refRight_any f a m t Aw nw cw Ab nb cb W B hW hB hm X
  have hRF := fun h : right ⟨f, a, m, t, W, B⟩ = true => right_fld h
  have hE : checkM s ⟨f, a, m, t, W, B⟩ = if right ⟨f, a, m, t, W, B⟩ then (if allowed s ⟨f, a, m, t, W, B⟩ then 0 else 2) else 3 := rfl
  have hAl : allowed s ⟨f, a, m, t, W, B⟩ = (if f = 1 then readsOk s.coils a m else if f = 2 then readsOk s.inputs a m else if f = 3 then readsOk s.holding a m else if f = 4 then readsOk s.words a m
    else if f = 5 ∨ f = 15 then writesOk s.coils a nb else if f = 6 ∨ f = 16 then writesOk s.holding a nw else readsOk s.holding a m && writesOk s.holding t nw) := by unfold allowed; rw [hW, hB]
  rw [hE, hAl]
  clear hE hAl hW hB
  obtain ⟨Q, hQ⟩ : ∃ Q, Q = right ⟨f, a, m, t, W, B⟩ := ⟨_, rfl⟩
  rw [← hQ] at KR0 hRF ⊢
  have KR := Lib.hid KR0
  clear KR0 hQ hwf
  cases Q
  case false =>
    clear hRF
    go_enter Tryz.func13, Tryz.ntmps13
    go_wp2_with fail
    refine (KR.out _).mono ?_
    rintro e w1 ⟨rfl, b1⟩
    have B1 := Bx.first b1
    clear b1
    go_wp2_with fail
    go_ret
    exact ⟨rfl, B1.bel⟩
  case true =>
    have hf9 := hRF rfl
    clear hRF
    simp only at hf9
    rcases hf9 with rfl | rfl | rfl | rfl | rfl | rfl | rfl | rfl | rfl
    · -- 1
      show Calls _ _ _ _ fun e w' => e = .returned (.int .u8 (((if readsOk s.coils a m then 0 else 2 : Nat)) : Int)) ∧ _
      have k00 := fun X (b : Below w.heap.size w X) => refReads_any v.a.A v.a.n v.a.c s.coils a m X (hS.coils.to b) ho.coils (by have := hv.a; omega) (by omega) (by omega)
      obtain ⟨R0, hR0⟩ : ∃ R, R = readsOk s.coils a m := ⟨_, rfl⟩
      rw [← hR0] at k00 ⊢
      have K0 := Lib.hid k00
      clear k00 hR0
      clear hS ho hv
      cases R0 <;> (
        go_enter Tryz.func13, Tryz.ntmps13
        go_wp2_with fail
        refine (KR.out _).mono ?_
        rintro e w1 ⟨rfl, b1⟩
        have B1 := Bx.first b1
        clear b1
        obtain ⟨c0, c1, c2, c3⟩ := row4 B1.x
        obtain ⟨e0, e1, e2, e3, e4, e5⟩ := row6 B1.y
        go_wp2_with fail
        go_region
        go_wp2_with fail
        refine (K0.out _ (B1.bel.drew)).mono ?_
        rintro e w2 ⟨rfl, b2⟩
        have B2 := B1.drew.call b2
        clear b2 c0 c1 c2 c3 e0 e1 e2 e3 e4 e5
        obtain ⟨c0, c1, c2, c3⟩ := row4 B2.x
        obtain ⟨e0, e1, e2, e3, e4, e5⟩ := row6 B2.y
        go_wp2_with fail
        go_ret
        exact ⟨rfl, B2.bel⟩)
    · -- 2
      show Calls _ _ _ _ fun e w' => e = .returned (.int .u8 (((if readsOk s.inputs a m then 0 else 2 : Nat)) : Int)) ∧ _
      have k00 := fun X (b : Below w.heap.size w X) => refReads_any v.b.A v.b.n v.b.c s.inputs a m X (hS.inputs.to b) ho.inputs (by have := hv.b; omega) (by omega) (by omega)
      obtain ⟨R0, hR0⟩ : ∃ R, R = readsOk s.inputs a m := ⟨_, rfl⟩
      rw [← hR0] at k00 ⊢
      have K0 := Lib.hid k00
      clear k00 hR0
      clear hS ho hv
      cases R0 <;> (
        go_enter Tryz.func13, Tryz.ntmps13
        go_wp2_with fail
        refine (KR.out _).mono ?_
        rintro e w1 ⟨rfl, b1⟩
        have B1 := Bx.first b1
        clear b1
        obtain ⟨c0, c1, c2, c3⟩ := row4 B1.x
        obtain ⟨e0, e1, e2, e3, e4, e5⟩ := row6 B1.y
        go_wp2_with fail
        go_region
        go_wp2_with fail
        refine (K0.out _ (B1.bel.drew)).mono ?_
        rintro e w2 ⟨rfl, b2⟩
        have B2 := B1.drew.call b2
        clear b2 c0 c1 c2 c3 e0 e1 e2 e3 e4 e5
        obtain ⟨c0, c1, c2, c3⟩ := row4 B2.x
        obtain ⟨e0, e1, e2, e3, e4, e5⟩ := row6 B2.y
        go_wp2_with fail
        go_ret
        exact ⟨rfl, B2.bel⟩)
    · -- 3
      show Calls _ _ _ _ fun e w' => e = .returned (.int .u8 (((if readsOk s.holding a m then 0 else 2 : Nat)) : Int)) ∧ _
      have k00 := fun X (b : Below w.heap.size w X) => refReads_any v.c.A v.c.n v.c.c s.holding a m X (hS.holding.to b) ho.holding (by have := hv.c; omega) (by omega) (by omega)
      obtain ⟨R0, hR0⟩ : ∃ R, R = readsOk s.holding a m := ⟨_, rfl⟩
      rw [← hR0] at k00 ⊢
      have K0 := Lib.hid k00
      clear k00 hR0
      clear hS ho hv
      cases R0 <;> (
        go_enter Tryz.func13, Tryz.ntmps13
        go_wp2_with fail
        refine (KR.out _).mono ?_
        rintro e w1 ⟨rfl, b1⟩
        have B1 := Bx.first b1
        clear b1
        obtain ⟨c0, c1, c2, c3⟩ := row4 B1.x
        obtain ⟨e0, e1, e2, e3, e4, e5⟩ := row6 B1.y
        go_wp2_with fail
        go_region
        go_wp2_with fail
        refine (K0.out _ (B1.bel.drew)).mono ?_
        rintro e w2 ⟨rfl, b2⟩
        have B2 := B1.drew.call b2
        clear b2 c0 c1 c2 c3 e0 e1 e2 e3 e4 e5
        obtain ⟨c0, c1, c2, c3⟩ := row4 B2.x
        obtain ⟨e0, e1, e2, e3, e4, e5⟩ := row6 B2.y
        go_wp2_with fail
        go_ret
        exact ⟨rfl, B2.bel⟩)
    · -- 4
      show Calls _ _ _ _ fun e w' => e = .returned (.int .u8 (((if readsOk s.words a m then 0 else 2 : Nat)) : Int)) ∧ _
      have k00 := fun X (b : Below w.heap.size w X) => refReads_any v.d.A v.d.n v.d.c s.words a m X (hS.words.to b) ho.words (by have := hv.d; omega) (by omega) (by omega)
      obtain ⟨R0, hR0⟩ : ∃ R, R = readsOk s.words a m := ⟨_, rfl⟩
      rw [← hR0] at k00 ⊢
      have K0 := Lib.hid k00
      clear k00 hR0
      clear hS ho hv
      cases R0 <;> (
        go_enter Tryz.func13, Tryz.ntmps13
        go_wp2_with fail
        refine (KR.out _).mono ?_
        rintro e w1 ⟨rfl, b1⟩
        have B1 := Bx.first b1
        clear b1
        obtain ⟨c0, c1, c2, c3⟩ := row4 B1.x
        obtain ⟨e0, e1, e2, e3, e4, e5⟩ := row6 B1.y
        go_wp2_with fail
        go_region
        go_wp2_with fail
        refine (K0.out _ (B1.bel.drew)).mono ?_
        rintro e w2 ⟨rfl, b2⟩
        have B2 := B1.drew.call b2
        clear b2 c0 c1 c2 c3 e0 e1 e2 e3 e4 e5
        obtain ⟨c0, c1, c2, c3⟩ := row4 B2.x
        obtain ⟨e0, e1, e2, e3, e4, e5⟩ := row6 B2.y
        go_wp2_with fail
        go_ret
        exact ⟨rfl, B2.bel⟩)
    · -- 5
      show Calls _ _ _ _ fun e w' => e = .returned (.int .u8 (((if writesOk s.coils a nb then 0 else 2 : Nat)) : Int)) ∧ _
      have k00 := fun X (b : Below w.heap.size w X) => refWrites_any v.a.A v.a.n v.a.c s.coils a nb X (hS.coils.to b) ho.coils (by have := hv.a; omega) (by omega) (by omega)
      obtain ⟨R0, hR0⟩ : ∃ R, R = writesOk s.coils a nb := ⟨_, rfl⟩
      rw [← hR0] at k00 ⊢
      have K0 := Lib.hid k00
      clear k00 hR0
      clear hS ho hv
      cases R0 <;> (
        go_enter Tryz.func13, Tryz.ntmps13
        go_wp2_with fail
        refine (KR.out _).mono ?_
        rintro e w1 ⟨rfl, b1⟩
        have B1 := Bx.first b1
        clear b1
        obtain ⟨c0, c1, c2, c3⟩ := row4 B1.x
        obtain ⟨e0, e1, e2, e3, e4, e5⟩ := row6 B1.y
        go_wp2_with fail
        go_region
        go_wp2_with fail
        refine (K0.out _ (B1.bel.drew)).mono ?_
        rintro e w2 ⟨rfl, b2⟩
        have B2 := B1.drew.call b2
        clear b2 c0 c1 c2 c3 e0 e1 e2 e3 e4 e5
        obtain ⟨c0, c1, c2, c3⟩ := row4 B2.x
        obtain ⟨e0, e1, e2, e3, e4, e5⟩ := row6 B2.y
        go_wp2_with fail
        go_ret
        exact ⟨rfl, B2.bel⟩)
    · -- 6
      show Calls _ _ _ _ fun e w' => e = .returned (.int .u8 (((if writesOk s.holding a nw then 0 else 2 : Nat)) : Int)) ∧ _
      have k00 := fun X (b : Below w.heap.size w X) => refWrites_any v.c.A v.c.n v.c.c s.holding a nw X (hS.holding.to b) ho.holding (by have := hv.c; omega) (by omega) (by omega)
      obtain ⟨R0, hR0⟩ : ∃ R, R = writesOk s.holding a nw := ⟨_, rfl⟩
      rw [← hR0] at k00 ⊢
      have K0 := Lib.hid k00
      clear k00 hR0
      clear hS ho hv
      cases R0 <;> (
        go_enter Tryz.func13, Tryz.ntmps13
        go_wp2_with fail
        refine (KR.out _).mono ?_
        rintro e w1 ⟨rfl, b1⟩
        have B1 := Bx.first b1
        clear b1
        obtain ⟨c0, c1, c2, c3⟩ := row4 B1.x
        obtain ⟨e0, e1, e2, e3, e4, e5⟩ := row6 B1.y
        go_wp2_with fail
        go_region
        go_wp2_with fail
        refine (K0.out _ (B1.bel.drew)).mono ?_
        rintro e w2 ⟨rfl, b2⟩
        have B2 := B1.drew.call b2
        clear b2 c0 c1 c2 c3 e0 e1 e2 e3 e4 e5
        obtain ⟨c0, c1, c2, c3⟩ := row4 B2.x
        obtain ⟨e0, e1, e2, e3, e4, e5⟩ := row6 B2.y
        go_wp2_with fail
        go_ret
        exact ⟨rfl, B2.bel⟩)
    · -- 15
      show Calls _ _ _ _ fun e w' => e = .returned (.int .u8 (((if writesOk s.coils a nb then 0 else 2 : Nat)) : Int)) ∧ _
      have k00 := fun X (b : Below w.heap.size w X) => refWrites_any v.a.A v.a.n v.a.c s.coils a nb X (hS.coils.to b) ho.coils (by have := hv.a; omega) (by omega) (by omega)
      obtain ⟨R0, hR0⟩ : ∃ R, R = writesOk s.coils a nb := ⟨_, rfl⟩
      rw [← hR0] at k00 ⊢
      have K0 := Lib.hid k00
      clear k00 hR0
      clear hS ho hv
      cases R0 <;> (
        go_enter Tryz.func13, Tryz.ntmps13
        go_wp2_with fail
        refine (KR.out _).mono ?_
        rintro e w1 ⟨rfl, b1⟩
        have B1 := Bx.first b1
        clear b1
        obtain ⟨c0, c1, c2, c3⟩ := row4 B1.x
        obtain ⟨e0, e1, e2, e3, e4, e5⟩ := row6 B1.y
        go_wp2_with fail
        go_region
        go_wp2_with fail
        refine (K0.out _ (B1.bel.drew)).mono ?_
        rintro e w2 ⟨rfl, b2⟩
        have B2 := B1.drew.call b2
        clear b2 c0 c1 c2 c3 e0 e1 e2 e3 e4 e5
        obtain ⟨c0, c1, c2, c3⟩ := row4 B2.x
        obtain ⟨e0, e1, e2, e3, e4, e5⟩ := row6 B2.y
        go_wp2_with fail
        go_ret
        exact ⟨rfl, B2.bel⟩)
    · -- 16
      show Calls _ _ _ _ fun e w' => e = .returned (.int .u8 (((if writesOk s.holding a nw then 0 else 2 : Nat)) : Int)) ∧ _
      have k00 := fun X (b : Below w.heap.size w X) => refWrites_any v.c.A v.c.n v.c.c s.holding a nw X (hS.holding.to b) ho.holding (by have := hv.c; omega) (by omega) (by omega)
      obtain ⟨R0, hR0⟩ : ∃ R, R = writesOk s.holding a nw := ⟨_, rfl⟩
      rw [← hR0] at k00 ⊢
      have K0 := Lib.hid k00
      clear k00 hR0
      clear hS ho hv
      cases R0 <;> (
        go_enter Tryz.func13, Tryz.ntmps13
        go_wp2_with fail
        refine (KR.out _).mono ?_
        rintro e w1 ⟨rfl, b1⟩
        have B1 := Bx.first b1
        clear b1
        obtain ⟨c0, c1, c2, c3⟩ := row4 B1.x
        obtain ⟨e0, e1, e2, e3, e4, e5⟩ := row6 B1.y
        go_wp2_with fail
        go_region
        go_wp2_with fail
        refine (K0.out _ (B1.bel.drew)).mono ?_
        rintro e w2 ⟨rfl, b2⟩
        have B2 := B1.drew.call b2
        clear b2 c0 c1 c2 c3 e0 e1 e2 e3 e4 e5
        obtain ⟨c0, c1, c2, c3⟩ := row4 B2.x
        obtain ⟨e0, e1, e2, e3, e4, e5⟩ := row6 B2.y
        go_wp2_with fail
        go_ret
        exact ⟨rfl, B2.bel⟩)
    · -- 23
      show Calls _ _ _ _ fun e w' => e = .returned (.int .u8 (((if readsOk s.holding a m && writesOk s.holding t nw then 0 else 2 : Nat)) : Int)) ∧ _
      have k00 := fun X (b : Below w.heap.size w X) => refReads_any v.c.A v.c.n v.c.c s.holding a m X (hS.holding.to b) ho.holding (by have := hv.c; omega) (by omega) (by omega)
      obtain ⟨R0, hR0⟩ : ∃ R, R = readsOk s.holding a m := ⟨_, rfl⟩
      rw [← hR0] at k00 ⊢
      have K0 := Lib.hid k00
      clear k00 hR0
      have k10 := fun X (b : Below w.heap.size w X) => refWrites_any v.c.A v.c.n v.c.c s.holding t nw X (hS.holding.to b) ho.holding (by have := hv.c; omega) (by omega) (by omega)
      obtain ⟨R1, hR1⟩ : ∃ R, R = writesOk s.holding t nw := ⟨_, rfl⟩
      rw [← hR1] at k10 ⊢
      have K1 := Lib.hid k10
      clear k10 hR1
      clear hS ho hv
      cases R0
      case false =>
        go_enter Tryz.func13, Tryz.ntmps13
        go_wp2_with fail
        refine (KR.out _).mono ?_
        rintro e w1 ⟨rfl, b1⟩
        have B1 := Bx.first b1
        clear b1
        obtain ⟨c0, c1, c2, c3⟩ := row4 B1.x
        obtain ⟨e0, e1, e2, e3, e4, e5⟩ := row6 B1.y
        go_wp2_with fail
        go_region
        go_wp2_with fail
        refine (K0.out _ (B1.bel.drew)).mono ?_
        rintro e w2 ⟨rfl, b2⟩
        have B2 := B1.drew.call b2
        clear b2 c0 c1 c2 c3 e0 e1 e2 e3 e4 e5
        obtain ⟨c0, c1, c2, c3⟩ := row4 B2.x
        obtain ⟨e0, e1, e2, e3, e4, e5⟩ := row6 B2.y
        go_wp2_with fail
        go_ret
        exact ⟨rfl, B2.bel⟩
      case true =>
        cases R1 <;> (
          go_enter Tryz.func13, Tryz.ntmps13
          go_wp2_with fail
          refine (KR.out _).mono ?_
          rintro e w1 ⟨rfl, b1⟩
          have B1 := Bx.first b1
          clear b1
          obtain ⟨c0, c1, c2, c3⟩ := row4 B1.x
          obtain ⟨e0, e1, e2, e3, e4, e5⟩ := row6 B1.y
          go_wp2_with fail
          go_region
          go_wp2_with fail
          refine (K0.out _ (B1.bel.drew)).mono ?_
          rintro e w2 ⟨rfl, b2⟩
          have B2 := B1.drew.call b2
          clear b2 c0 c1 c2 c3 e0 e1 e2 e3 e4 e5
          obtain ⟨c0, c1, c2, c3⟩ := row4 B2.x
          obtain ⟨e0, e1, e2, e3, e4, e5⟩ := row6 B2.y
          go_wp2_with fail
          refine (K1.out _ B2.bel).mono ?_
          rintro e w3 ⟨rfl, b3⟩
          have B3 := B2.call b3
          clear b3 c0 c1 c2 c3 e0 e1 e2 e3 e4 e5
          obtain ⟨c0, c1, c2, c3⟩ := row4 B3.x
          obtain ⟨e0, e1, e2, e3, e4, e5⟩ := row6 B3.y
          go_wp2_with fail
          go_ret
          exact ⟨rfl, B3.bel⟩)
end Go.Proofs.YtjfhfgchglaoiaaGreat.MoW
