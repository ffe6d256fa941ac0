/- The walk of RtuOne. -/
import Derived.Test.YtgjcefgdkhfghaaRtuD
set_option linter.unusedVariables false
set_option linter.unusedSimpArgs false
namespace Go.Proofs.Ytgjcefgdkhfghaa.AskW
open Go.RowKit Go.Proofs.Ytgjcefgdkhfghaa Go.Proofs.Ytgjcefgdkhfghaa.Ask
theorem put_inj {l r : List Nat} (h : CrcW.put l = CrcW.put r) : l = r := by
  have hl := congrArg List.length h
  simp at hl
  unfold CrcW.put at h
  exact (List.append_inj h (by omega)).1
theorem rtuP_back {xs : List Nat} (hx : Bytes xs) (h : (rtuP xs).2 = 0) : rtuB (rtuP xs).1.1 (rtuP xs).1.2 = (xs, 0) ∧ 4 ≤ xs.length ∧ xs.length ≤ 256 := by
  unfold rtuP at h ⊢
  by_cases h1 : xs.length < 4 ∨ 256 < xs.length
  · rw [if_pos h1] at h; simp at h
  rw [if_neg h1] at h ⊢
  by_cases h2 : Crc.sum (xs.take (xs.length - 2)) = xs[xs.length - 2]?.getD 0 + 256 * xs[xs.length - 1]?.getD 0
  · rw [if_pos h2] at h ⊢
    by_cases h3 : isU (xs[0]?.getD 0) = true
    · rw [if_pos h3]
      refine ⟨?_, by omega, by omega⟩
      have e1 : xs[0]?.getD 0 :: (xs.take (xs.length - 2)).drop 1 = xs.take (xs.length - 2) := by
        cases xs with
        | nil => simp at h1
        | cons x r =>
          have : (x :: r).length - 2 = r.length - 1 := by simp
          rw [this]
          simp at h1
          rw [show r.length - 1 = (r.length - 2) + 1 by omega]
          simp
      unfold rtuB
      dsimp only
      rw [if_pos ⟨h3, by simp; omega, by simp; omega⟩, e1]
      have hlt := Crc.sum_lt (xs.take (xs.length - 2)) (hx.take _)
      have b1 := hx.at (xs.length - 2)
      have b2 := hx.at (xs.length - 1)
      unfold CrcW.put
      rw [h2, show (xs[xs.length - 2]?.getD 0 + 256 * xs[xs.length - 1]?.getD 0) % 256 = xs[xs.length - 2]?.getD 0 by omega, show (xs[xs.length - 2]?.getD 0 + 256 * xs[xs.length - 1]?.getD 0) / 256 = xs[xs.length - 1]?.getD 0 by omega]
      have t1 := take_snoc (l := xs) (k := xs.length - 2) (by omega)
      have t2 := take_snoc (l := xs) (k := xs.length - 1) (by omega)
      rw [show xs.length - 2 + 1 = xs.length - 1 by omega] at t1
      rw [show xs.length - 1 + 1 = xs.length by omega, List.take_length] at t2
      rw [show [xs[xs.length - 2]?.getD 0, xs[xs.length - 1]?.getD 0] = [xs[xs.length - 2]?.getD 0] ++ [xs[xs.length - 1]?.getD 0] from rfl, ← List.append_assoc, ← t1, ← t2]
    · rw [if_neg h3] at h; simp at h
  · rw [if_neg h2] at h; simp at h
theorem rtuP_long {xs : List Nat} (h : xs.length < 4 ∨ 256 < xs.length) : rtuP xs = ((0, []), 10) := by unfold rtuP; rw [if_pos h]
theorem rtuB_cases (u : Nat) (l : List Nat) : (rtuB u l = (CrcW.put (u :: l), 0) ∧ isU u = true ∧ 1 ≤ l.length ∧ l.length ≤ 253) ∨ rtuB u l = ([], 2) := by
  unfold rtuB
  split
  · rename_i h; exact Or.inl ⟨rfl, h⟩
  · exact Or.inr rfl
theorem rtuB_lt {u : Nat} {l : List Nat} (hu : u < 256) (hl : Bytes l) : Bytes (rtuB u l).1 := by
  rcases rtuB_cases u l with ⟨h, _⟩ | h <;> rw [h]
  · exact CrcW.put_bytes (fun c hc => by
      rcases List.mem_cons.1 hc with rfl | h
      · exact hu
      · exact hl c h)
  · exact Bytes.nil
theorem rtuB_len (u : Nat) (l : List Nat) : (rtuB u l).1.length ≤ 256 := by
  rcases rtuB_cases u l with ⟨h, _⟩ | h <;> rw [h]
  · simp; omega
  · simp
theorem rtuB_beq (u v : Nat) (p q : List Nat) : (rtuB u p).2 = 2 ∨ ((rtuB u p).2 = 0 ∧ (rtuB v q).2 = 2) ∨ ((rtuB u p).2 = 0 ∧ (rtuB v q).2 = 0 ∧ ((rtuB u p).1 == (rtuB v q).1) = (u == v && p == q)) := by
  rcases rtuB_cases u p with ⟨h, _⟩ | h
  · rcases rtuB_cases v q with ⟨k, _⟩ | k
    · rw [h, k]
      refine Or.inr (Or.inr ⟨rfl, rfl, ?_⟩)
      rw [Bool.eq_iff_iff]
      simp only [beq_iff_eq, Bool.and_eq_true]
      constructor
      · intro e; have := put_inj e; simpa using this
      · rintro ⟨rfl, rfl⟩; rfl
    · rw [h, k]; exact Or.inr (Or.inl ⟨rfl, rfl⟩)
  · rw [h]; exact Or.inl rfl
set_option maxHeartbeats 16000000 in
theorem rtuOne_any (A : Option Addr) (n c : Nat) (xs : List Nat) (u v : Nat) (Ap : Option Addr) (np cp : Nat) (p : List Nat) (Aq : Option Addr) (nq cq : Nat) (q : List Nat) (w : World)
    (hs : Sl w w.heap.size A n (bs xs)) (hx : Bytes xs) (hc : n ≤ c) (hu : u < 256) (hv : v < 256) (hp : Sl w w.heap.size Ap np (bs p)) (hpb : Bytes p) (hq : Sl w w.heap.size Aq nq (bs q)) (hqb : Bytes q) :
    Calls Try.prog 7 #[.slice A n c, .int .u8 (u : Nat), .int .u8 (v : Nat), .slice Ap np cp, .slice Aq nq cq] w fun e w' => e = .returned (.bool true) ∧ Below w.heap.size w w' := by
  by_cases g1 : (300 : Int) < (n : Int)
  · skip
    clear hs hx hc hp hpb hq hqb
    go_enter Try.func7, Try.ntmps7
    go_wp2_with (go_at_call 26; refine (awake4_any _).mono ?_; rintro e wa ⟨rfl, ba⟩)
    go_ret
    exact ⟨rfl, ba⟩
  by_cases g2 : (260 : Int) < (np : Int)
  · skip
    clear hs hx hc hp hpb hq hqb
    go_enter Try.func7, Try.ntmps7
    go_wp2_with (go_at_call 26; refine (awake4_any _).mono ?_; rintro e wa ⟨rfl, ba⟩)
    go_ret
    exact ⟨rfl, ba⟩
  by_cases g3 : (260 : Int) < (nq : Int)
  · skip
    clear hs hx hc hp hpb hq hqb
    go_enter Try.func7, Try.ntmps7
    go_wp2_with (go_at_call 26; refine (awake4_any _).mono ?_; rintro e wa ⟨rfl, ba⟩)
    go_ret
    exact ⟨rfl, ba⟩
  have qn : xs.length = n := by simpa using hs.len
  have qp : p.length = np := by simpa using hp.len
  have qq : q.length = nq := by simpa using hq.len
  have KP0 := rtuParse_any A n c xs w hs hx (by omega) hc
  have KA0 := fun Y (b : Below w.heap.size w Y) => rtuBytes_any u Ap np cp p Y hu (hp.to b) hpb (by omega)
  have KO0 := fun Y (b : Below w.heap.size w Y) => rtuBytes_any v Aq nq cq q Y hv (hq.to b) hqb (by omega)
  have KS0 := fun Y Aa ca Ao co Sa So => lowSame_any Aa Ao (rtuB u p).1.length ca (rtuB v q).1.length co Y.heap.size (rtuB u p).1 (rtuB v q).1 Y Sa (rtuB_lt hu hpb) So (rtuB_lt hv hqb)
  have KPQ := Lib.hid (fun Y (b : Below w.heap.size w Y) => lowSame_any Ap Aq np cp nq cq Y.heap.size p q Y (hp.to b) hpb (hq.to b) hqb)
  have HC0 := rtuB_beq u v p q
  obtain ⟨La, eLa⟩ : ∃ L, L = rtuB u p := ⟨_, rfl⟩
  obtain ⟨Lo, eLo⟩ : ∃ L, L = rtuB v q := ⟨_, rfl⟩
  rw [← eLa] at KA0 KS0 HC0
  rw [← eLo] at KO0 KS0 HC0
  obtain ⟨la, ea⟩ := La
  obtain ⟨lo, eo⟩ := Lo
  dsimp only at KS0 HC0
  have KX := Lib.hid (fun Y A2 c2 (b : Below w.heap.size w Y) (h : Sl Y Y.heap.size A2 xs.length (bs xs)) => lowSame_any A A2 n c xs.length c2 Y.heap.size xs xs Y (hs.to b) hx h hx)
  have HPC0 : (∃ w0 l0, rtuP xs = ((w0, l0), 0) ∧ rtuB w0 l0 = (xs, 0) ∧ w0 < 256 ∧ Bytes l0 ∧ l0.length ≤ 253 ∧ 4 ≤ n ∧ n ≤ 256) ∨ rtuP xs = ((0, []), 10) ∨ (rtuP xs = ((0, []), 11) ∧ 4 ≤ n ∧ n ≤ 256) := by
    rcases rtuP_cases xs with ⟨h0, hl, _⟩ | ⟨h0, hE⟩
    · obtain ⟨k1, k2, k3⟩ := rtuP_back hx h0
      obtain ⟨k4, k5⟩ := rtuP_bytes hx
      refine Or.inl ⟨(rtuP xs).1.1, (rtuP xs).1.2, ?_, k1, k5, k4, hl, by omega, by omega⟩
      rw [← h0]
    · rcases hE with hE | hE
      · exact Or.inr (Or.inl (Prod.ext h0 hE))
      · refine Or.inr (Or.inr ⟨Prod.ext h0 hE, ?_⟩)
        by_cases hl : xs.length < 4 ∨ 256 < xs.length
        · rw [rtuP_long hl] at hE; simp at hE
        · omega
  have KA := Lib.hid KA0
  have KO := Lib.hid KO0
  have KS := Lib.hid KS0
  have HC := Lib.hid HC0
  have HQN := Lib.hid qn
  clear KA0 KO0 KS0 HC0 eLa eLo hs hp hpb hq hqb qn qp qq
  rcases HPC0 with ⟨w0, l0, e0, eB, hw0, hl0, hl1, hn4, hn256⟩ | e0 | ⟨e0, hn4, hn256⟩
  · rw [e0] at KP0
    have KP := Lib.hid KP0
    have KB := Lib.hid (fun A2 c2 Y h => eB ▸ rtuBytes_any w0 A2 l0.length c2 l0 Y hw0 h hl0 (by omega))
    have z1 : ¬ (n : Int) < 4 := by omega
    have z2 : ¬ (256 : Int) < (n : Int) := by omega
    clear KP0 e0 eB hw0 hl0 hl1 hn4 hn256 hx
    go_enter Try.func7, Try.ntmps7
    go_wp2_with fail
    refine KP.out.mono ?_
    rintro e w1 ⟨A1, c1, rfl, S1, hc1, O1, b1⟩
    dsimp only at S1 hc1 ⊢
    go_wp2_with fail
    refine (KB.out _ _ _ S1).mono ?_
    rintro e w2 ⟨v2, rfl, H2⟩
    obtain ⟨A2, c2, rfl, _, S2, _⟩ := H2.slice
    have hb := b1.call H2.bel
    clear H2 O1 S1 b1
    dsimp only at S2 ⊢
    have KX2 := KX.out w2 A2 c2 hb S2
    rw [beq_self_eq_true] at KX2
    have KX3 := Lib.hid KX2
    clear KX2
    go_wp2_with fail
    refine KX3.out.mono ?_
    rintro e w6 ⟨rfl, rfl⟩
    go_wp2_with fail
    refine (KA.out _ hb).mono ?_
    rintro e w5 ⟨va, rfl, Ha⟩
    obtain ⟨Aa, ca, rfl, _, Sa, _⟩ := Ha.slice
    have hb := hb.call Ha.bel
    clear Ha
    go_wp2_with fail
    refine (KO.out _ hb).mono ?_
    rintro e X ⟨vo, rfl, Ho⟩
    obtain ⟨Ao, co, rfl, _, So, _⟩ := Ho.slice
    have Sa := Sa.to Ho.bel
    have hb := hb.call Ho.bel
    clear Ho
    dsimp only at Sa So ⊢
    rcases HC.out with h1 | ⟨h1, h2⟩ | ⟨h1, h2, h3⟩
    · subst h1
      go_wp2_with (go_at_call 26; refine (awake4_any _).mono ?_; rintro e wa ⟨rfl, ba⟩)
      go_ret
      exact ⟨rfl, hb.call ba⟩
    · subst h1 h2
      go_wp2_with (go_at_call 26; refine (awake4_any _).mono ?_; rintro e wa ⟨rfl, ba⟩)
      go_ret
      exact ⟨rfl, hb.call ba⟩
    · subst h1 h2
      have KS2 := KS.out X Aa ca Ao co Sa So
      have KQ2 := KPQ.out X hb
      rw [h3] at KS2
      clear h3
      by_cases huv : u = v
      · subst huv
        rw [beq_self_eq_true, Bool.true_and] at KS2
        obtain ⟨Q, hQ⟩ : ∃ Q, Q = (p == q) := ⟨_, rfl⟩
        rw [← hQ] at KS2 KQ2
        have K1 := Lib.hid KS2
        have K2 := Lib.hid KQ2
        clear hQ KS2 KQ2 Sa So
        go_wp2_with fail
        refine K1.out.mono ?_
        rintro e w6 ⟨rfl, rfl⟩
        go_wp2_with fail
        refine K2.out.mono ?_
        rintro e w6 ⟨rfl, rfl⟩
        go_wp2_with (go_at_call 26; refine (awake4_any _).mono ?_; rintro e wa ⟨rfl, ba⟩)
        go_ret
        exact ⟨rfl, hb.call ba⟩
      · have hF : ((u : Int) == (v : Int)) = false := by rw [beq_eq_false_iff_ne]; omega
        rw [show (u == v) = false from by rw [beq_eq_false_iff_ne]; exact huv, Bool.false_and] at KS2
        have K1 := Lib.hid KS2
        clear KS2 KQ2 Sa So huv
        go_wp2_with fail
        refine K1.out.mono ?_
        rintro e w6 ⟨rfl, rfl⟩
        go_wp2_with (go_at_call 26; refine (awake4_any _).mono ?_; rintro e wa ⟨rfl, ba⟩)
        go_ret
        exact ⟨rfl, hb.call ba⟩
  · rw [e0] at KP0
    have KP := Lib.hid KP0
    clear KP0 e0 hx
    by_cases z1 : (n : Int) < 4
    · skip
      go_enter Try.func7, Try.ntmps7
      go_wp2_with fail
      refine KP.out.mono ?_
      rintro e w1 ⟨A1, c1, rfl, S1, hc1, O1, hb⟩
      dsimp only at S1 hc1 ⊢
      clear S1 hc1 O1
      go_wp2_with fail
      refine (KA.out _ hb).mono ?_
      rintro e w5 ⟨va, rfl, Ha⟩
      obtain ⟨Aa, ca, rfl, _, Sa, _⟩ := Ha.slice
      have hb := hb.call Ha.bel
      clear Ha
      go_wp2_with fail
      refine (KO.out _ hb).mono ?_
      rintro e X ⟨vo, rfl, Ho⟩
      obtain ⟨Ao, co, rfl, _, So, _⟩ := Ho.slice
      have Sa := Sa.to Ho.bel
      have hb := hb.call Ho.bel
      clear Ho
      dsimp only at Sa So ⊢
      rcases HC.out with h1 | ⟨h1, h2⟩ | ⟨h1, h2, h3⟩
      · subst h1
        go_wp2_with (go_at_call 26; refine (awake4_any _).mono ?_; rintro e wa ⟨rfl, ba⟩)
        go_ret
        exact ⟨rfl, hb.call ba⟩
      · subst h1 h2
        go_wp2_with (go_at_call 26; refine (awake4_any _).mono ?_; rintro e wa ⟨rfl, ba⟩)
        go_ret
        exact ⟨rfl, hb.call ba⟩
      · subst h1 h2
        have KS2 := KS.out X Aa ca Ao co Sa So
        have KQ2 := KPQ.out X hb
        rw [h3] at KS2
        clear h3
        by_cases huv : u = v
        · subst huv
          rw [beq_self_eq_true, Bool.true_and] at KS2
          obtain ⟨Q, hQ⟩ : ∃ Q, Q = (p == q) := ⟨_, rfl⟩
          rw [← hQ] at KS2 KQ2
          have K1 := Lib.hid KS2
          have K2 := Lib.hid KQ2
          clear hQ KS2 KQ2 Sa So
          go_wp2_with fail
          refine K1.out.mono ?_
          rintro e w6 ⟨rfl, rfl⟩
          go_wp2_with fail
          refine K2.out.mono ?_
          rintro e w6 ⟨rfl, rfl⟩
          go_wp2_with (go_at_call 26; refine (awake4_any _).mono ?_; rintro e wa ⟨rfl, ba⟩)
          go_ret
          exact ⟨rfl, hb.call ba⟩
        · have hF : ((u : Int) == (v : Int)) = false := by rw [beq_eq_false_iff_ne]; omega
          rw [show (u == v) = false from by rw [beq_eq_false_iff_ne]; exact huv, Bool.false_and] at KS2
          have K1 := Lib.hid KS2
          clear KS2 KQ2 Sa So huv
          go_wp2_with fail
          refine K1.out.mono ?_
          rintro e w6 ⟨rfl, rfl⟩
          go_wp2_with (go_at_call 26; refine (awake4_any _).mono ?_; rintro e wa ⟨rfl, ba⟩)
          go_ret
          exact ⟨rfl, hb.call ba⟩
    · by_cases z2 : (256 : Int) < (n : Int)
      · skip
        go_enter Try.func7, Try.ntmps7
        go_wp2_with fail
        refine KP.out.mono ?_
        rintro e w1 ⟨A1, c1, rfl, S1, hc1, O1, hb⟩
        dsimp only at S1 hc1 ⊢
        clear S1 hc1 O1
        go_wp2_with fail
        refine (KA.out _ hb).mono ?_
        rintro e w5 ⟨va, rfl, Ha⟩
        obtain ⟨Aa, ca, rfl, _, Sa, _⟩ := Ha.slice
        have hb := hb.call Ha.bel
        clear Ha
        go_wp2_with fail
        refine (KO.out _ hb).mono ?_
        rintro e X ⟨vo, rfl, Ho⟩
        obtain ⟨Ao, co, rfl, _, So, _⟩ := Ho.slice
        have Sa := Sa.to Ho.bel
        have hb := hb.call Ho.bel
        clear Ho
        dsimp only at Sa So ⊢
        rcases HC.out with h1 | ⟨h1, h2⟩ | ⟨h1, h2, h3⟩
        · subst h1
          go_wp2_with (go_at_call 26; refine (awake4_any _).mono ?_; rintro e wa ⟨rfl, ba⟩)
          go_ret
          exact ⟨rfl, hb.call ba⟩
        · subst h1 h2
          go_wp2_with (go_at_call 26; refine (awake4_any _).mono ?_; rintro e wa ⟨rfl, ba⟩)
          go_ret
          exact ⟨rfl, hb.call ba⟩
        · subst h1 h2
          have KS2 := KS.out X Aa ca Ao co Sa So
          have KQ2 := KPQ.out X hb
          rw [h3] at KS2
          clear h3
          by_cases huv : u = v
          · subst huv
            rw [beq_self_eq_true, Bool.true_and] at KS2
            obtain ⟨Q, hQ⟩ : ∃ Q, Q = (p == q) := ⟨_, rfl⟩
            rw [← hQ] at KS2 KQ2
            have K1 := Lib.hid KS2
            have K2 := Lib.hid KQ2
            clear hQ KS2 KQ2 Sa So
            go_wp2_with fail
            refine K1.out.mono ?_
            rintro e w6 ⟨rfl, rfl⟩
            go_wp2_with fail
            refine K2.out.mono ?_
            rintro e w6 ⟨rfl, rfl⟩
            go_wp2_with (go_at_call 26; refine (awake4_any _).mono ?_; rintro e wa ⟨rfl, ba⟩)
            go_ret
            exact ⟨rfl, hb.call ba⟩
          · have hF : ((u : Int) == (v : Int)) = false := by rw [beq_eq_false_iff_ne]; omega
            rw [show (u == v) = false from by rw [beq_eq_false_iff_ne]; exact huv, Bool.false_and] at KS2
            have K1 := Lib.hid KS2
            clear KS2 KQ2 Sa So huv
            go_wp2_with fail
            refine K1.out.mono ?_
            rintro e w6 ⟨rfl, rfl⟩
            go_wp2_with (go_at_call 26; refine (awake4_any _).mono ?_; rintro e wa ⟨rfl, ba⟩)
            go_ret
            exact ⟨rfl, hb.call ba⟩
      · skip
        go_enter Try.func7, Try.ntmps7
        go_wp2_with fail
        refine KP.out.mono ?_
        rintro e w1 ⟨A1, c1, rfl, S1, hc1, O1, hb⟩
        dsimp only at S1 hc1 ⊢
        clear S1 hc1 O1
        go_wp2_with fail
        refine (KA.out _ hb).mono ?_
        rintro e w5 ⟨va, rfl, Ha⟩
        obtain ⟨Aa, ca, rfl, _, Sa, _⟩ := Ha.slice
        have hb := hb.call Ha.bel
        clear Ha
        go_wp2_with fail
        refine (KO.out _ hb).mono ?_
        rintro e X ⟨vo, rfl, Ho⟩
        obtain ⟨Ao, co, rfl, _, So, _⟩ := Ho.slice
        have Sa := Sa.to Ho.bel
        have hb := hb.call Ho.bel
        clear Ho
        dsimp only at Sa So ⊢
        rcases HC.out with h1 | ⟨h1, h2⟩ | ⟨h1, h2, h3⟩
        · subst h1
          go_wp2_with (go_at_call 26; refine (awake4_any _).mono ?_; rintro e wa ⟨rfl, ba⟩)
          go_ret
          exact ⟨rfl, hb.call ba⟩
        · subst h1 h2
          go_wp2_with (go_at_call 26; refine (awake4_any _).mono ?_; rintro e wa ⟨rfl, ba⟩)
          go_ret
          exact ⟨rfl, hb.call ba⟩
        · subst h1 h2
          have KS2 := KS.out X Aa ca Ao co Sa So
          have KQ2 := KPQ.out X hb
          rw [h3] at KS2
          clear h3
          by_cases huv : u = v
          · subst huv
            rw [beq_self_eq_true, Bool.true_and] at KS2
            obtain ⟨Q, hQ⟩ : ∃ Q, Q = (p == q) := ⟨_, rfl⟩
            rw [← hQ] at KS2 KQ2
            have K1 := Lib.hid KS2
            have K2 := Lib.hid KQ2
            clear hQ KS2 KQ2 Sa So
            go_wp2_with fail
            refine K1.out.mono ?_
            rintro e w6 ⟨rfl, rfl⟩
            go_wp2_with fail
            refine K2.out.mono ?_
            rintro e w6 ⟨rfl, rfl⟩
            go_wp2_with (go_at_call 26; refine (awake4_any _).mono ?_; rintro e wa ⟨rfl, ba⟩)
            go_ret
            exact ⟨rfl, hb.call ba⟩
          · have hF : ((u : Int) == (v : Int)) = false := by rw [beq_eq_false_iff_ne]; omega
            rw [show (u == v) = false from by rw [beq_eq_false_iff_ne]; exact huv, Bool.false_and] at KS2
            have K1 := Lib.hid KS2
            clear KS2 KQ2 Sa So huv
            go_wp2_with fail
            refine K1.out.mono ?_
            rintro e w6 ⟨rfl, rfl⟩
            go_wp2_with (go_at_call 26; refine (awake4_any _).mono ?_; rintro e wa ⟨rfl, ba⟩)
            go_ret
            exact ⟨rfl, hb.call ba⟩
  · rw [e0] at KP0
    have KP := Lib.hid KP0
    have z1 : ¬ (n : Int) < 4 := by omega
    have z2 : ¬ (256 : Int) < (n : Int) := by omega
    clear KP0 e0 hn4 hn256 hx
    go_enter Try.func7, Try.ntmps7
    go_wp2_with fail
    refine KP.out.mono ?_
    rintro e w1 ⟨A1, c1, rfl, S1, hc1, O1, hb⟩
    dsimp only at S1 hc1 ⊢
    clear S1 hc1 O1
    go_wp2_with fail
    refine (KA.out _ hb).mono ?_
    rintro e w5 ⟨va, rfl, Ha⟩
    obtain ⟨Aa, ca, rfl, _, Sa, _⟩ := Ha.slice
    have hb := hb.call Ha.bel
    clear Ha
    go_wp2_with fail
    refine (KO.out _ hb).mono ?_
    rintro e X ⟨vo, rfl, Ho⟩
    obtain ⟨Ao, co, rfl, _, So, _⟩ := Ho.slice
    have Sa := Sa.to Ho.bel
    have hb := hb.call Ho.bel
    clear Ho
    dsimp only at Sa So ⊢
    rcases HC.out with h1 | ⟨h1, h2⟩ | ⟨h1, h2, h3⟩
    · subst h1
      go_wp2_with (go_at_call 26; refine (awake4_any _).mono ?_; rintro e wa ⟨rfl, ba⟩)
      go_ret
      exact ⟨rfl, hb.call ba⟩
    · subst h1 h2
      go_wp2_with (go_at_call 26; refine (awake4_any _).mono ?_; rintro e wa ⟨rfl, ba⟩)
      go_ret
      exact ⟨rfl, hb.call ba⟩
    · subst h1 h2
      have KS2 := KS.out X Aa ca Ao co Sa So
      have KQ2 := KPQ.out X hb
      rw [h3] at KS2
      clear h3
      by_cases huv : u = v
      · subst huv
        rw [beq_self_eq_true, Bool.true_and] at KS2
        obtain ⟨Q, hQ⟩ : ∃ Q, Q = (p == q) := ⟨_, rfl⟩
        rw [← hQ] at KS2 KQ2
        have K1 := Lib.hid KS2
        have K2 := Lib.hid KQ2
        clear hQ KS2 KQ2 Sa So
        go_wp2_with fail
        refine K1.out.mono ?_
        rintro e w6 ⟨rfl, rfl⟩
        go_wp2_with fail
        refine K2.out.mono ?_
        rintro e w6 ⟨rfl, rfl⟩
        go_wp2_with (go_at_call 26; refine (awake4_any _).mono ?_; rintro e wa ⟨rfl, ba⟩)
        go_ret
        exact ⟨rfl, hb.call ba⟩
      · have hF : ((u : Int) == (v : Int)) = false := by rw [beq_eq_false_iff_ne]; omega
        rw [show (u == v) = false from by rw [beq_eq_false_iff_ne]; exact huv, Bool.false_and] at KS2
        have K1 := Lib.hid KS2
        clear KS2 KQ2 Sa So huv
        go_wp2_with fail
        refine K1.out.mono ?_
        rintro e w6 ⟨rfl, rfl⟩
        go_wp2_with (go_at_call 26; refine (awake4_any _).mono ?_; rintro e wa ⟨rfl, ba⟩)
        go_ret
        exact ⟨rfl, hb.call ba⟩
end Go.Proofs.Ytgjcefgdkhfghaa.AskW
