/- The walk of saucier/saucierref03.Same. -/
import Derived.Test.YtjfhfgchglaoiaaGreatAG7
import Derived.Deep.QuietTactic
import Derived.BigQuiet
set_option linter.unusedVariables false
set_option linter.unusedSimpArgs false
namespace Go.Proofs.YtjfhfgchglaoiaaGreat.AskW
open Go.RowKit Go.Proofs.YtjfhfgchglaoiaaGreat Go.Proofs.YtjfhfgchglaoiaaGreat.Ask
set_option maxHeartbeats 4000000 in
theorem ref3Same_any (f x a m : Nat) (Aw : Option Addr) (nw cw : Nat) (Ab : Option Addr) (nb cb : Nat) (f2 x2 a2 m2 : Nat) (Aw2 : Option Addr) (nw2 cw2 : Nat) (Ab2 : Option Addr) (nb2 cb2 : Nat) (W W2 : List Nat) (B B2 : List Bool) (w : World)
    (h1 : Sl w w.heap.size Aw nw (ws W)) (h2 : Sl w w.heap.size Ab nb (bl B)) (h3 : Sl w w.heap.size Aw2 nw2 (ws W2)) (h4 : Sl w w.heap.size Ab2 nb2 (bl B2)) (k1 : nw ≤ 1000000) (k2 : nb ≤ 1000000) (k3 : nw2 ≤ 1000000) (k4 : nb2 ≤ 1000000) :
    Calls Tryz.prog 18 #[.agg #[.int .u8 f, .int .u8 x, .slice Ab nb cb, .slice Aw nw cw, .int .u16 a, .int .u16 m], .agg #[.int .u8 f2, .int .u8 x2, .slice Ab2 nb2 cb2, .slice Aw2 nw2 cw2, .int .u16 a2, .int .u16 m2]] w
      fun e w' => e = .returned (.bool (f == f2 && x == x2 && a == a2 && m == m2 && W == W2 && B == B2)) ∧ Below w.heap.size w w' := by
  have qW : W.length = nw := by simpa using h1.len
  have qB : B.length = nb := by simpa using h2.len
  have qW2 : W2.length = nw2 := by simpa using h3.len
  have qB2 : B2.length = nb2 := by simpa using h4.len
  have hb : Below w.heap.size w ((w.alloc (.cells #[.int .u8 f, .int .u8 x, .slice Ab nb cb, .slice Aw nw cw, .int .u16 a, .int .u16 m] 40)).alloc (.cells #[.int .u8 f2, .int .u8 x2, .slice Ab2 nb2 cb2, .slice Aw2 nw2 cw2, .int .u16 a2, .int .u16 m2] 40)) := ((Below.refl _ _).new _).new _
  by_cases c0 : f = f2
  case neg =>
    have T0 : ((f : Int) != (f2 : Int)) = true := by rw [bne_iff_ne]; omega
    have HR := Lib.hid (show (f == f2 && x == x2 && a == a2 && m == m2 && W == W2 && B == B2) = false by rw [show (f == f2) = false by rw [beq_eq_false_iff_ne]; exact c0]; simp)
    clear qW qB qW2 qB2 h1 h2 h3 h4 k1 k2 k3 k4 c0
    go_enter Tryz.func18, Tryz.ntmps18
    go_wp2_with fail
    go_ret
    exact ⟨ret_bool HR.out.symm, hb⟩
  have T0 : ((f : Int) != (f2 : Int)) = false := by rw [bne_eq_false_iff_eq]; omega
  have C0 := Lib.hid c0
  clear c0
  by_cases c1 : x = x2
  case neg =>
    have T1 : ((x : Int) != (x2 : Int)) = true := by rw [bne_iff_ne]; omega
    have HR := Lib.hid (show (f == f2 && x == x2 && a == a2 && m == m2 && W == W2 && B == B2) = false by rw [show (x == x2) = false by rw [beq_eq_false_iff_ne]; exact c1]; simp)
    clear qW qB qW2 qB2 h1 h2 h3 h4 k1 k2 k3 k4 c1
    go_enter Tryz.func18, Tryz.ntmps18
    go_wp2_with fail
    go_ret
    exact ⟨ret_bool HR.out.symm, hb⟩
  have T1 : ((x : Int) != (x2 : Int)) = false := by rw [bne_eq_false_iff_eq]; omega
  have C1 := Lib.hid c1
  clear c1
  by_cases c2 : a = a2
  case neg =>
    have T2 : ((a : Int) != (a2 : Int)) = true := by rw [bne_iff_ne]; omega
    have HR := Lib.hid (show (f == f2 && x == x2 && a == a2 && m == m2 && W == W2 && B == B2) = false by rw [show (a == a2) = false by rw [beq_eq_false_iff_ne]; exact c2]; simp)
    clear qW qB qW2 qB2 h1 h2 h3 h4 k1 k2 k3 k4 c2
    go_enter Tryz.func18, Tryz.ntmps18
    go_wp2_with fail
    go_ret
    exact ⟨ret_bool HR.out.symm, hb⟩
  have T2 : ((a : Int) != (a2 : Int)) = false := by rw [bne_eq_false_iff_eq]; omega
  have C2 := Lib.hid c2
  clear c2
  by_cases c3 : m = m2
  case neg =>
    have T3 : ((m : Int) != (m2 : Int)) = true := by rw [bne_iff_ne]; omega
    have HR := Lib.hid (show (f == f2 && x == x2 && a == a2 && m == m2 && W == W2 && B == B2) = false by rw [show (m == m2) = false by rw [beq_eq_false_iff_ne]; exact c3]; simp)
    clear qW qB qW2 qB2 h1 h2 h3 h4 k1 k2 k3 k4 c3
    go_enter Tryz.func18, Tryz.ntmps18
    go_wp2_with fail
    go_ret
    exact ⟨ret_bool HR.out.symm, hb⟩
  have T3 : ((m : Int) != (m2 : Int)) = false := by rw [bne_eq_false_iff_eq]; omega
  have C3 := Lib.hid c3
  clear c3
  by_cases c4 : nw = nw2
  case neg =>
    have T4 : ((nw : Int) != (nw2 : Int)) = true := by rw [bne_iff_ne]; omega
    have HR := Lib.hid (show (f == f2 && x == x2 && a == a2 && m == m2 && W == W2 && B == B2) = false by rw [show (W == W2) = false from ne_of_len (by omega)]; simp)
    clear qW qB qW2 qB2 h1 h2 h3 h4 k1 k2 k3 k4 c4
    go_enter Tryz.func18, Tryz.ntmps18
    go_wp2_with fail
    go_ret
    exact ⟨ret_bool HR.out.symm, hb⟩
  have T4 : ((nw : Int) != (nw2 : Int)) = false := by rw [bne_eq_false_iff_eq]; omega
  have C4 := Lib.hid c4
  clear c4
  by_cases c5 : nb = nb2
  case neg =>
    have T5 : ((nb : Int) != (nb2 : Int)) = true := by rw [bne_iff_ne]; omega
    have HR := Lib.hid (show (f == f2 && x == x2 && a == a2 && m == m2 && W == W2 && B == B2) = false by rw [show (B == B2) = false from ne_of_len (by omega)]; simp)
    clear qW qB qW2 qB2 h1 h2 h3 h4 k1 k2 k3 k4 c5
    go_enter Tryz.func18, Tryz.ntmps18
    go_wp2_with fail
    go_ret
    exact ⟨ret_bool HR.out.symm, hb⟩
  have T5 : ((nb : Int) != (nb2 : Int)) = false := by rw [bne_eq_false_iff_eq]; omega
  have C5 := Lib.hid c5
  clear c5
  have HR := Lib.hid (show (f == f2 && x == x2 && a == a2 && m == m2 && W == W2 && B == B2) = (W == W2 && B == B2) by rw [show (f == f2) = true by rw [beq_iff_eq]; exact C0.out, show (x == x2) = true by rw [beq_iff_eq]; exact C1.out, show (a == a2) = true by rw [beq_iff_eq]; exact C2.out, show (m == m2) = true by rw [beq_iff_eq]; exact C3.out]; simp)
  obtain rfl : nw = nw2 := C4.out
  obtain rfl : nb = nb2 := C5.out
  have Q1 := Lib.hid qW
  have Q2 := Lib.hid qB
  have Q3 := Lib.hid qW2
  have Q4 := Lib.hid qB2
  have r1 := row_alloc (heap_alloc_new w (.cells #[.int .u8 f, .int .u8 x, .slice Ab nb cb, .slice Aw nw cw, .int .u16 a, .int .u16 m] 40)) (.cells #[.int .u8 f2, .int .u8 x2, .slice Ab2 nb cb2, .slice Aw2 nw cw2, .int .u16 a2, .int .u16 m2] 40)
  have r2 := heap_alloc2_new w (.cells #[.int .u8 f, .int .u8 x, .slice Ab nb cb, .slice Aw nw cw, .int .u16 a, .int .u16 m] 40) (.cells #[.int .u8 f2, .int .u8 x2, .slice Ab2 nb cb2, .slice Aw2 nw cw2, .int .u16 a2, .int .u16 m2] 40)
  clear C0 C1 C2 C3 C4 C5 qW qB qW2 qB2 k3 k4
  obtain ⟨RR, hRR⟩ : ∃ RR, RR = (f == f2 && x == x2 && a == a2 && m == m2 && W == W2 && B == B2) := ⟨_, rfl⟩
  rw [← hRR] at HR ⊢
  clear hRR
  go_enter Tryz.func18, Tryz.ntmps18
  go_wp2_with fail
  obtain ⟨W0, hW0⟩ : ∃ W0, W0 = ((w.alloc (.cells #[.int .u8 f, .int .u8 x, .slice Ab nb cb, .slice Aw nw cw, .int .u16 a, .int .u16 m] 40)).alloc (.cells #[.int .u8 f2, .int .u8 x2, .slice Ab2 nb cb2, .slice Aw2 nw cw2, .int .u16 a2, .int .u16 m2] 40)) := ⟨_, rfl⟩
  rw [← hW0] at r1 r2 hb ⊢
  have R1 := Lib.hid r1
  have R2 := Lib.hid r2
  obtain ⟨c0, c1, c2, c3, c4, c5⟩ := row6 r1
  obtain ⟨d0, d1, d2, d3, d4, d5⟩ := row6 r2
  have s2 : w.heap.size + 1 < W0.heap.size := by rw [hW0]; simp
  have s1 : w.heap.size < W0.heap.size := by omega
  clear r1 r2 hW0
  go_loopw [5] (fun i wr => ∃ k : Nat, k ≤ nw ∧ i = .int .i64 k ∧ W.take k = W2.take k ∧ Below W0.heap.size W0 wr) (fun i _ => nw - (intOf i).toNat)
  case atStart => exact ⟨0, by omega, rfl, by simp, Below.refl _ _⟩
  case round =>
    obtain ⟨k, hk, rfl, he, bk⟩ := hrel
    have HE := Lib.hid he
    clear he c0 c1 c2 c3 c4 c5 d0 d1 d2 d3 d4 d5
    obtain ⟨c0, c1, c2, c3, c4, c5⟩ := row6 (bk.row s1 R1.out)
    obtain ⟨d0, d1, d2, d3, d4, d5⟩ := row6 (bk.row s2 R2.out)
    have hbk := hb.call bk
    by_cases hlt : k < nw
    · have p1 := h1.below hbk
      have p2 := h3.below hbk
      obtain ⟨b1, o1, rfl, _, e1⟩ := p1.2 (by omega)
      obtain ⟨b2, o2, rfl, _, e2⟩ := p2.2 (by omega)
      have g1 := (e1 k hlt).trans (ws_get (by rw [Q1.out]; exact hlt))
      have g2 := (e2 k hlt).trans (ws_get (by rw [Q3.out]; exact hlt))
      have HT := Lib.hid (take_eq_snoc 0 (l := W) (r := W2) (k := k) (by rw [Q1.out]; exact hlt) (by rw [Q3.out]; exact hlt))
      have HNE := Lib.hid (ne_of_at (k := k) 0 (l := W) (r := W2))
      obtain ⟨x, ex⟩ : ∃ x, x = W[k]?.getD 0 := ⟨_, rfl⟩
      obtain ⟨y, ey⟩ : ∃ y, y = W2[k]?.getD 0 := ⟨_, rfl⟩
      rw [← ex, ← ey] at HT HNE
      rw [← ex] at g1
      rw [← ey] at g2
      have z0 : (0 : Int) ≤ (k : Int) := by omega
      have z1 : (k : Int) < (nw : Int) := by omega
      clear e1 e2 p1 p2 h1 h2 h3 h4 ex ey
      by_cases hxy : x = y
      · subst hxy
        have HX := Lib.hid (rfl : x = x)
        have tt : ((x : Int) != (x : Int)) = false := by simp
        go_wp2_with fail
        go_quiet (fail)
        go_wp2_with fail
        go_roundw
        case rel => exact ⟨k + 1, by omega, by go_num, HT.out.2 ⟨HE.out, HX.out⟩, bk.drewN _⟩
        case measure => simp [intOf]; omega
      · have HF := Lib.hid (HNE.out hxy)
        have tt : ((x : Int) != (y : Int)) = true := by rw [bne_iff_ne]; omega
        clear hxy HNE HT
        go_wp2_with fail
        go_quiet (fail)
        go_wp2_with fail
        go_ret
        exact ⟨ret_bool (by rw [HR.out, HF.out]; simp), hbk.drewN _⟩
    · obtain rfl : k = nw := by omega
      have HQ := Lib.hid (eq_of_take Q1.out Q3.out HE.out)
      clear hlt
      have HQ1 := Lib.hid HQ.out
      have bk1 := bk
      clear HQ HE bk
      go_wp2_with fail
      go_loopw [6] (fun i wr => ∃ k : Nat, k ≤ nb ∧ i = .int .i64 k ∧ B.take k = B2.take k ∧ Below W0.heap.size W0 wr) (fun i _ => nb - (intOf i).toNat)
      case atStart => exact ⟨0, by omega, rfl, by simp, bk1⟩
      case round =>
        obtain ⟨k, hk, rfl, he, bk⟩ := hrel
        have HE := Lib.hid he
        clear he c0 c1 c2 c3 c4 c5 d0 d1 d2 d3 d4 d5
        obtain ⟨c0, c1, c2, c3, c4, c5⟩ := row6 (bk.row s1 R1.out)
        obtain ⟨d0, d1, d2, d3, d4, d5⟩ := row6 (bk.row s2 R2.out)
        have hbk := hb.call bk
        by_cases hlt : k < nb
        · have p1 := h2.below hbk
          have p2 := h4.below hbk
          obtain ⟨b1, o1, rfl, _, e1⟩ := p1.2 (by omega)
          obtain ⟨b2, o2, rfl, _, e2⟩ := p2.2 (by omega)
          have g1 := (e1 k hlt).trans (bl_get (by rw [Q2.out]; exact hlt))
          have g2 := (e2 k hlt).trans (bl_get (by rw [Q4.out]; exact hlt))
          have HT := Lib.hid (take_eq_snoc false (l := B) (r := B2) (k := k) (by rw [Q2.out]; exact hlt) (by rw [Q4.out]; exact hlt))
          have HNE := Lib.hid (ne_of_at (k := k) false (l := B) (r := B2))
          obtain ⟨x, ex⟩ : ∃ x, x = B[k]?.getD false := ⟨_, rfl⟩
          obtain ⟨y, ey⟩ : ∃ y, y = B2[k]?.getD false := ⟨_, rfl⟩
          rw [← ex, ← ey] at HT HNE
          rw [← ex] at g1
          rw [← ey] at g2
          have z0 : (0 : Int) ≤ (k : Int) := by omega
          have z1 : (k : Int) < (nb : Int) := by omega
          clear e1 e2 p1 p2 h1 h2 h3 h4 ex ey
          by_cases hxy : x = y
          · subst hxy
            have HX := Lib.hid (rfl : x = x)
            cases x <;> (
              go_wp2_with fail
              go_quiet (fail)
              go_wp2_with fail
              go_roundw
              case rel => exact ⟨k + 1, by omega, by go_num, HT.out.2 ⟨HE.out, HX.out⟩, bk.drewN _⟩
              case measure => simp [intOf]; omega)
          · obtain rfl : y = !x := by cases x <;> cases y <;> simp_all
            have HF := Lib.hid (HNE.out hxy)
            clear hxy HNE HT
            cases x <;> (
              go_wp2_with fail
              go_quiet (fail)
              go_wp2_with fail
              go_ret
              exact ⟨ret_bool (by rw [HR.out, HF.out]; simp), hbk.drewN _⟩)
        · obtain rfl : k = nb := by omega
          have HQ := Lib.hid (eq_of_take Q2.out Q4.out HE.out)
          clear hlt
          go_wp2_with fail
          go_ret
          exact ⟨ret_bool (by rw [HR.out, HQ1.out, HQ.out]; rfl), hbk⟩
end Go.Proofs.YtjfhfgchglaoiaaGreat.AskW
