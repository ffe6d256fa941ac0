/- The walks of the law's own words of layer 7: Words, Light, same. -/
import Derived.Test.YtiibopdnlmnkmaaMoD
import Derived.Test.YtiibopdnlmnkmaaAG1
import Derived.Test.YtiibopdnlmnkmaaAG6
import Derived.Deep.QuietTactic
import Derived.BigQuiet
set_option linter.unusedVariables false
set_option linter.unusedSimpArgs false
namespace Go.Proofs.Ytiibopdnlmnkmaa.MoW
open Go.RowKit Go.Proofs.Ytiibopdnlmnkmaa Go.Proofs.Ytiibopdnlmnkmaa.Mo Go.Proofs.Ytiibopdnlmnkmaa.Ask Go.Proofs.Ytiibopdnlmnkmaa.AskW
theorem lowWords_any (A1 A2 : Option Addr) (n1 c1 n2 c2 : Nat) (l r : List Nat) (w : World) (h1 : Sl w w.heap.size A1 n1 (ws l)) (h2 : Sl w w.heap.size A2 n2 (ws r)) (hn : n1 ≤ 9223372036854775807) (hn2 : n2 ≤ 9223372036854775807) :
    Calls Try.prog 17 #[.slice A1 n1 c1, .slice A2 n2 c2] w fun e w' => e = .returned (.bool (l == r)) ∧ Below w.heap.size w w' := by
  have q1 : l.length = n1 := by simpa using h1.len
  have q2 : r.length = n2 := by simpa using h2.len
  by_cases hne : n1 = n2
  · subst hne
    have Q1 := Lib.hid q1
    have Q2 := Lib.hid q2
    clear q1 q2 hn2
    go_enter Try.func17, Try.ntmps17
    go_wp2_with fail
    go_loopw [13] (fun i wr => ∃ k : Nat, k ≤ n1 ∧ i = .int .i64 k ∧ l.take k = r.take k ∧ Below w.heap.size w wr) (fun i _ => n1 - (intOf i).toNat)
    case atStart => exact ⟨0, by omega, rfl, by simp, Below.refl _ _⟩
    case round =>
      obtain ⟨k, hk, rfl, he, hb⟩ := hrel
      have HE := Lib.hid he
      clear he
      by_cases hlt : k < n1
      · have s1 := h1.below hb
        have s2 := h2.below hb
        obtain ⟨b1, o1, rfl, _, d1⟩ := s1.2 (by omega)
        obtain ⟨b2, o2, rfl, _, d2⟩ := s2.2 (by omega)
        have g1 := (d1 k hlt).trans (ws_get (by rw [Q1.out]; exact hlt))
        have g2 := (d2 k hlt).trans (ws_get (by rw [Q2.out]; exact hlt))
        have HT := Lib.hid (take_eq_snoc 0 (l := l) (r := r) (k := k) (by rw [Q1.out]; exact hlt) (by rw [Q2.out]; exact hlt))
        have HNE := Lib.hid (ne_of_at (k := k) 0 (l := l) (r := r))
        obtain ⟨x, ex⟩ : ∃ x, x = l[k]?.getD 0 := ⟨_, rfl⟩
        obtain ⟨y, ey⟩ : ∃ y, y = r[k]?.getD 0 := ⟨_, rfl⟩
        rw [← ex, ← ey] at HT HNE
        rw [← ex] at g1
        rw [← ey] at g2
        have z0 : (0 : Int) ≤ (k : Int) := by omega
        have z1 : (k : Int) < (n1 : Int) := by omega
        clear d1 d2 s1 s2 h1 h2 ex ey
        by_cases hxy : x = y
        · have hT : ((x : Int) != (y : Int)) = false := by rw [hxy]; simp
          have HX := Lib.hid hxy
          clear hxy
          go_wp2_with fail
          go_quiet (fail)
          go_wp2_with fail
          go_roundw
          case rel => exact ⟨k + 1, by omega, by go_num, HT.out.2 ⟨HE.out, HX.out⟩, hb.drewN _⟩
          case measure => simp [intOf]; omega
        · have hT : ((x : Int) != (y : Int)) = true := by rw [bne_iff_ne]; omega
          have HX := Lib.hid hxy
          clear hxy
          go_wp2_with fail
          go_quiet (fail)
          go_wp2_with fail
          go_ret
          exact ⟨ret_bool (HNE.out HX.out).symm, hb.drewN _⟩
      · obtain rfl : k = n1 := by omega
        go_wp2_with fail
        go_ret
        exact ⟨ret_bool (eq_of_take Q1.out Q2.out HE.out).symm, hb⟩
  · have hT : ((n1 : Int) != (n2 : Int)) = true := by rw [bne_iff_ne]; omega
    have HF := Lib.hid (ne_of_len (l := l) (r := r) (by omega))
    clear q1 q2 hne hn hn2
    go_enter Try.func17, Try.ntmps17
    go_wp2_with fail
    go_ret
    exact ⟨ret_bool HF.out.symm, Below.refl _ _⟩
def sameM (M N : Mem) : Bool := (M.coils == N.coils) && ((M.inputs == N.inputs) && ((M.holding == N.holding) && (M.words == N.words)))
theorem sameM_iff (M N : Mem) : sameM M N = true ↔ M = N := by
  unfold sameM
  obtain ⟨a, b, c, d⟩ := M
  obtain ⟨a', b', c', d'⟩ := N
  simp only [Bool.and_eq_true, beq_iff_eq, Mem.mk.injEq]
theorem sameM_self (M : Mem) : sameM M M = true := (sameM_iff M M).2 rfl
def lightF (v u : Sp) : Bool := decide (v.a.n + v.b.n + v.c.n + v.d.n ≤ 40) && (decide (u.a.n ≤ 300) && (decide (u.b.n ≤ 300) && (decide (u.c.n ≤ 300) && decide (u.d.n ≤ 300))))
theorem light_any (v u : Sp) (w : World) (hv : v.a.n ≤ 140737488355328 ∧ v.b.n ≤ 140737488355328 ∧ v.c.n ≤ 140737488355328 ∧ v.d.n ≤ 140737488355328) :
    Calls Try.prog 8 #[.agg #[.slice v.a.A v.a.n v.a.c, .slice v.b.A v.b.n v.b.c, .slice v.c.A v.c.n v.c.c, .slice v.d.A v.d.n v.d.c], .agg #[.slice u.a.A u.a.n u.a.c, .slice u.b.A u.b.n u.b.c, .slice u.c.A u.c.n u.c.c, .slice u.d.A u.d.n u.d.c]] w fun e w' => e = .returned (.bool (lightF v u)) ∧ Below w.heap.size w w' := by
  have w1 : IntKind.i64.wrap ((v.a.n : Int) + (v.b.n : Int)) = ((v.a.n + v.b.n : Nat) : Int) := by rw [IntKind.wrap_i64]; omega
  have w2 : IntKind.i64.wrap (((v.a.n + v.b.n : Nat) : Int) + (v.c.n : Int)) = ((v.a.n + v.b.n + v.c.n : Nat) : Int) := by rw [IntKind.wrap_i64]; omega
  have w3 : IntKind.i64.wrap (((v.a.n + v.b.n + v.c.n : Nat) : Int) + (v.d.n : Int)) = ((v.a.n + v.b.n + v.c.n + v.d.n : Nat) : Int) := by rw [IntKind.wrap_i64]; omega
  have HF0 := Lib.hid (show lightF v u = (decide (v.a.n + v.b.n + v.c.n + v.d.n ≤ 40) && (decide (u.a.n ≤ 300) && (decide (u.b.n ≤ 300) && (decide (u.c.n ≤ 300) && decide (u.d.n ≤ 300))))) from rfl)
  obtain ⟨LF, hLF⟩ : ∃ LF, LF = lightF v u := ⟨_, rfl⟩
  rw [← hLF] at HF0 ⊢
  obtain ⟨T1, h1⟩ : ∃ T1, T1 = v.a.n + v.b.n := ⟨_, rfl⟩
  rw [← h1] at w1 w2 w3 HF0
  obtain ⟨T2, h2⟩ : ∃ T2, T2 = T1 + v.c.n := ⟨_, rfl⟩
  rw [← h2] at w2 w3 HF0
  obtain ⟨T3, h3⟩ : ∃ T3, T3 = T2 + v.d.n := ⟨_, rfl⟩
  rw [← h3] at w3 HF0
  clear hLF h1 h2 h3 hv
  by_cases c0 : T3 ≤ 40
  case neg =>
    have d0 : decide ((T3 : Int) ≤ 40) = false := decide_eq_false (by omega)
    have HF := Lib.hid (show false = LF from by rw [HF0.out, decide_eq_false c0]; simp)
    clear c0 HF0
    go_enter Try.func8, Try.ntmps8
    go_wp2_with fail
    go_ret
    exact ⟨ret_bool HF.out, (((Below.refl _ w).new _).new _)⟩
  case pos =>
    have d0 : decide ((T3 : Int) ≤ 40) = true := decide_eq_true (by omega)
    by_cases c1 : u.a.n ≤ 300
    case neg =>
      have d1 : decide ((u.a.n : Int) ≤ 300) = false := decide_eq_false (by omega)
      have HF := Lib.hid (show false = LF from by rw [HF0.out, decide_eq_true c0, decide_eq_false c1]; simp)
      clear c1 HF0
      go_enter Try.func8, Try.ntmps8
      go_wp2_with fail
      go_ret
      exact ⟨ret_bool HF.out, (((Below.refl _ w).new _).new _)⟩
    case pos =>
      have d1 : decide ((u.a.n : Int) ≤ 300) = true := decide_eq_true (by omega)
      by_cases c2 : u.b.n ≤ 300
      case neg =>
        have d2 : decide ((u.b.n : Int) ≤ 300) = false := decide_eq_false (by omega)
        have HF := Lib.hid (show false = LF from by rw [HF0.out, decide_eq_true c0, decide_eq_true c1, decide_eq_false c2]; simp)
        clear c2 HF0
        go_enter Try.func8, Try.ntmps8
        go_wp2_with fail
        go_ret
        exact ⟨ret_bool HF.out, (((Below.refl _ w).new _).new _)⟩
      case pos =>
        have d2 : decide ((u.b.n : Int) ≤ 300) = true := decide_eq_true (by omega)
        by_cases c3 : u.c.n ≤ 300
        case neg =>
          have d3 : decide ((u.c.n : Int) ≤ 300) = false := decide_eq_false (by omega)
          have HF := Lib.hid (show false = LF from by rw [HF0.out, decide_eq_true c0, decide_eq_true c1, decide_eq_true c2, decide_eq_false c3]; simp)
          clear c3 HF0
          go_enter Try.func8, Try.ntmps8
          go_wp2_with fail
          go_ret
          exact ⟨ret_bool HF.out, (((Below.refl _ w).new _).new _)⟩
        case pos =>
          have d3 : decide ((u.c.n : Int) ≤ 300) = true := decide_eq_true (by omega)
          have HF := Lib.hid (show decide ((u.d.n : Int) ≤ 300) = LF from by rw [HF0.out, decide_eq_true c0, decide_eq_true c1, decide_eq_true c2, decide_eq_true c3]; simp only [Bool.true_and]; rw [decide_eq_decide]; omega)
          clear HF0 c0 c1 c2 c3
          go_enter Try.func8, Try.ntmps8
          go_wp2_with fail
          go_ret
          exact ⟨ret_bool HF.out, (((Below.refl _ w).new _).new _)⟩
set_option maxHeartbeats 4000000 in
theorem lawSame7_any (v u : Sp) (M N : Mem) (w : World) (hM : MmOk w v M) (hN : MmOk w u N) (hv : v.Small) (hu : u.Small) :
    Calls Try.prog 13 #[.agg #[.slice v.a.A v.a.n v.a.c, .slice v.b.A v.b.n v.b.c, .slice v.c.A v.c.n v.c.c, .slice v.d.A v.d.n v.d.c], .agg #[.slice u.a.A u.a.n u.a.c, .slice u.b.A u.b.n u.b.c, .slice u.c.A u.c.n u.c.c, .slice u.d.A u.d.n u.d.c]] w fun e w' => e = .returned (.bool (sameM M N)) ∧ Below w.heap.size w w' := by
  have hE : sameM M N = ((M.coils == N.coils) && ((M.inputs == N.inputs) && ((M.holding == N.holding) && (M.words == N.words)))) := rfl
  rw [hE]
  have ka0 := fun X (b : Below w.heap.size w X) => lowBits_any v.a.A u.a.A v.a.n v.a.c u.a.n u.a.c M.coils N.coils X (hM.coils.to b) (hN.coils.to b) (by have := hv.a; omega) (by have := hu.a; omega)
  obtain ⟨Ra, hRa⟩ : ∃ R, R = (M.coils == N.coils) := ⟨_, rfl⟩
  rw [← hRa] at ka0 ⊢
  have Ka := Lib.hid ka0
  clear ka0 hRa
  have kb0 := fun X (b : Below w.heap.size w X) => lowBits_any v.b.A u.b.A v.b.n v.b.c u.b.n u.b.c M.inputs N.inputs X (hM.inputs.to b) (hN.inputs.to b) (by have := hv.b; omega) (by have := hu.b; omega)
  obtain ⟨Rb, hRb⟩ : ∃ R, R = (M.inputs == N.inputs) := ⟨_, rfl⟩
  rw [← hRb] at kb0 ⊢
  have Kb := Lib.hid kb0
  clear kb0 hRb
  have kc0 := fun X (b : Below w.heap.size w X) => lowWords_any v.c.A u.c.A v.c.n v.c.c u.c.n u.c.c M.holding N.holding X (hM.holding.to b) (hN.holding.to b) (by have := hv.c; omega) (by have := hu.c; omega)
  obtain ⟨Rc, hRc⟩ : ∃ R, R = (M.holding == N.holding) := ⟨_, rfl⟩
  rw [← hRc] at kc0 ⊢
  have Kc := Lib.hid kc0
  clear kc0 hRc
  have kd0 := fun X (b : Below w.heap.size w X) => lowWords_any v.d.A u.d.A v.d.n v.d.c u.d.n u.d.c M.words N.words X (hM.words.to b) (hN.words.to b) (by have := hv.d; omega) (by have := hu.d; omega)
  obtain ⟨Rd, hRd⟩ : ∃ R, R = (M.words == N.words) := ⟨_, rfl⟩
  rw [← hRd] at kd0 ⊢
  have Kd := Lib.hid kd0
  clear kd0 hRd
  clear hE hM hN hv hu
  cases Ra
  case false =>
    go_enter Try.func13, Try.ntmps13
    go_wp2_with fail
    refine (Ka.out _ (((Below.refl _ w).new _).new _)).mono ?_
    rintro e w1 ⟨rfl, b1⟩
    have B1 := Bx.first b1
    clear b1
    obtain ⟨c0, c1, c2, c3⟩ := row4 B1.x
    obtain ⟨e0, e1, e2, e3⟩ := row4 B1.y
    go_wp2_with fail
    go_ret
    exact ⟨rfl, B1.bel⟩
  case true =>
    cases Rb
    case false =>
      go_enter Try.func13, Try.ntmps13
      go_wp2_with fail
      refine (Ka.out _ (((Below.refl _ w).new _).new _)).mono ?_
      rintro e w1 ⟨rfl, b1⟩
      have B1 := Bx.first b1
      clear b1
      obtain ⟨c0, c1, c2, c3⟩ := row4 B1.x
      obtain ⟨e0, e1, e2, e3⟩ := row4 B1.y
      go_wp2_with fail
      refine (Kb.out _ B1.bel).mono ?_
      rintro e w2 ⟨rfl, b2⟩
      have B2 := B1.call b2
      clear b2 c0 c1 c2 c3 e0 e1 e2 e3
      obtain ⟨c0, c1, c2, c3⟩ := row4 B2.x
      obtain ⟨e0, e1, e2, e3⟩ := row4 B2.y
      go_wp2_with fail
      go_ret
      exact ⟨rfl, B2.bel⟩
    case true =>
      cases Rc
      case false =>
        go_enter Try.func13, Try.ntmps13
        go_wp2_with fail
        refine (Ka.out _ (((Below.refl _ w).new _).new _)).mono ?_
        rintro e w1 ⟨rfl, b1⟩
        have B1 := Bx.first b1
        clear b1
        obtain ⟨c0, c1, c2, c3⟩ := row4 B1.x
        obtain ⟨e0, e1, e2, e3⟩ := row4 B1.y
        go_wp2_with fail
        refine (Kb.out _ B1.bel).mono ?_
        rintro e w2 ⟨rfl, b2⟩
        have B2 := B1.call b2
        clear b2 c0 c1 c2 c3 e0 e1 e2 e3
        obtain ⟨c0, c1, c2, c3⟩ := row4 B2.x
        obtain ⟨e0, e1, e2, e3⟩ := row4 B2.y
        go_wp2_with fail
        refine (Kc.out _ B2.bel).mono ?_
        rintro e w3 ⟨rfl, b3⟩
        have B3 := B2.call b3
        clear b3 c0 c1 c2 c3 e0 e1 e2 e3
        obtain ⟨c0, c1, c2, c3⟩ := row4 B3.x
        obtain ⟨e0, e1, e2, e3⟩ := row4 B3.y
        go_wp2_with fail
        go_ret
        exact ⟨rfl, B3.bel⟩
      case true =>
        cases Rd
        case false =>
          go_enter Try.func13, Try.ntmps13
          go_wp2_with fail
          refine (Ka.out _ (((Below.refl _ w).new _).new _)).mono ?_
          rintro e w1 ⟨rfl, b1⟩
          have B1 := Bx.first b1
          clear b1
          obtain ⟨c0, c1, c2, c3⟩ := row4 B1.x
          obtain ⟨e0, e1, e2, e3⟩ := row4 B1.y
          go_wp2_with fail
          refine (Kb.out _ B1.bel).mono ?_
          rintro e w2 ⟨rfl, b2⟩
          have B2 := B1.call b2
          clear b2 c0 c1 c2 c3 e0 e1 e2 e3
          obtain ⟨c0, c1, c2, c3⟩ := row4 B2.x
          obtain ⟨e0, e1, e2, e3⟩ := row4 B2.y
          go_wp2_with fail
          refine (Kc.out _ B2.bel).mono ?_
          rintro e w3 ⟨rfl, b3⟩
          have B3 := B2.call b3
          clear b3 c0 c1 c2 c3 e0 e1 e2 e3
          obtain ⟨c0, c1, c2, c3⟩ := row4 B3.x
          obtain ⟨e0, e1, e2, e3⟩ := row4 B3.y
          go_wp2_with fail
          refine (Kd.out _ B3.bel).mono ?_
          rintro e w4 ⟨rfl, b4⟩
          have B4 := B3.call b4
          clear b4 c0 c1 c2 c3 e0 e1 e2 e3
          obtain ⟨c0, c1, c2, c3⟩ := row4 B4.x
          obtain ⟨e0, e1, e2, e3⟩ := row4 B4.y
          go_wp2_with fail
          go_ret
          exact ⟨rfl, B4.bel⟩
        case true =>
          go_enter Try.func13, Try.ntmps13
          go_wp2_with fail
          refine (Ka.out _ (((Below.refl _ w).new _).new _)).mono ?_
          rintro e w1 ⟨rfl, b1⟩
          have B1 := Bx.first b1
          clear b1
          obtain ⟨c0, c1, c2, c3⟩ := row4 B1.x
          obtain ⟨e0, e1, e2, e3⟩ := row4 B1.y
          go_wp2_with fail
          refine (Kb.out _ B1.bel).mono ?_
          rintro e w2 ⟨rfl, b2⟩
          have B2 := B1.call b2
          clear b2 c0 c1 c2 c3 e0 e1 e2 e3
          obtain ⟨c0, c1, c2, c3⟩ := row4 B2.x
          obtain ⟨e0, e1, e2, e3⟩ := row4 B2.y
          go_wp2_with fail
          refine (Kc.out _ B2.bel).mono ?_
          rintro e w3 ⟨rfl, b3⟩
          have B3 := B2.call b3
          clear b3 c0 c1 c2 c3 e0 e1 e2 e3
          obtain ⟨c0, c1, c2, c3⟩ := row4 B3.x
          obtain ⟨e0, e1, e2, e3⟩ := row4 B3.y
          go_wp2_with fail
          refine (Kd.out _ B3.bel).mono ?_
          rintro e w4 ⟨rfl, b4⟩
          have B4 := B3.call b4
          clear b4 c0 c1 c2 c3 e0 e1 e2 e3
          obtain ⟨c0, c1, c2, c3⟩ := row4 B4.x
          obtain ⟨e0, e1, e2, e3⟩ := row4 B4.y
          go_wp2_with fail
          go_ret
          exact ⟨rfl, B4.bel⟩
end Go.Proofs.Ytiibopdnlmnkmaa.MoW
