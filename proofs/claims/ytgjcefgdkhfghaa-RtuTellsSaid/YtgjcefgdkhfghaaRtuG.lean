/- The walk of RtuTells. -/
import Derived.Test.YtgjcefgdkhfghaaRtuC
import Derived.Test.YtgjcefgdkhfghaaRtuO
import Derived.Test.YtgjcefgdkhfghaaRtuF
import Derived.Test.YtgjcefgdkhfghaaRepW1
import Derived.Test.YtgjcefgdkhfghaaRepO1
import Derived.Test.YtgjcefgdkhfghaaAG6
set_option linter.unusedVariables false
set_option linter.unusedSimpArgs false
namespace Go.Proofs.Ytgjcefgdkhfghaa.AskW
open Go.RowKit Go.Proofs.Ytgjcefgdkhfghaa Go.Proofs.Ytgjcefgdkhfghaa.Ask
theorem rtuA_lt {u : Nat} {q : Req} (hu : u < 256) (hwf : q.Wf) (hl : q.words.length < 65536) : Bytes (rtuA u q).1 := by
  unfold rtuA
  split
  · exact rtuB_lt hu (bytes_lt q hwf hl)
  · exact Bytes.nil
theorem rtuR_small (u : Nat) (xs : List Nat) : (rtuR u xs).1.bits.length ≤ 2000 ∧ (rtuR u xs).1.words.length ≤ 2000 := by
  unfold rtuR
  split
  · split
    · rcases rparse_cases (rtuP xs).1.2 with ⟨r, hr, _, hp⟩ | hp <;> rw [hp]
      · have := rright_small hr; dsimp only; omega
      · simp [rep0]
    · simp [rep0]
  · simp [rep0]
set_option maxRecDepth 100000 in
set_option maxHeartbeats 16000000 in
theorem rtuTells_any (u : Nat) (Ap : Option Addr) (np cp : Nat) (p : List Nat) (A : Option Addr) (n c : Nat) (xs : List Nat) (f a m t : Nat) (Aw : Option Addr) (nw cw : Nat) (Ab : Option Addr) (nb cb : Nat) (W : List Nat) (B : List Bool) (w : World)
    (hu : u < 256) (hp : Sl w w.heap.size Ap np (bs p)) (hpb : Bytes p) (hs : Sl w w.heap.size A n (bs xs)) (hx : Bytes xs) (hc : n ≤ c) (hW : Sl w w.heap.size Aw nw (ws W)) (hB : Sl w w.heap.size Ab nb (bl B)) (hwf : Req.Wf ⟨f, a, m, t, W, B⟩) :
    Calls Try.prog 5 #[.int .u8 (u : Nat), .slice Ap np cp, .slice A n c, .agg #[.int .u8 (f : Nat), .int .u16 (a : Nat), .int .u16 (m : Nat), .int .u16 (t : Nat), .slice Aw nw cw, .slice Ab nb cb]] w fun e w' => e = .returned (.bool true) ∧ Below w.heap.size w w' := by
  obtain ⟨X0, hX0⟩ : ∃ X0, X0 = w.alloc (.cells #[.int .u8 (f : Nat), .int .u16 (a : Nat), .int .u16 (m : Nat), .int .u16 (t : Nat), .slice Aw nw cw, .slice Ab nb cb] 28) := ⟨_, rfl⟩
  have hb0 : Below w.heap.size w X0 := hX0 ▸ (Below.refl _ _).new _
  have HX0 := Lib.hid hX0
  have FA0 := few_any Aw Ab nw cw nb cb
  by_cases g1 : (300 : Int) < (np : Int)
  · skip
    clear hX0 hp hpb hs hx hc hW hB hwf
    go_enter Try.func5, Try.ntmps5
    rw [HX0.out] at hb0
    go_wp2_with (go_at_call 26; refine (awake4_any _).mono ?_; rintro e wa ⟨rfl, ba⟩)
    go_ret
    exact ⟨rfl, hb0.call ba⟩
  by_cases g2 : (300 : Int) < (n : Int)
  · skip
    clear hX0 hp hpb hs hx hc hW hB hwf
    go_enter Try.func5, Try.ntmps5
    rw [HX0.out] at hb0
    go_wp2_with (go_at_call 26; refine (awake4_any _).mono ?_; rintro e wa ⟨rfl, ba⟩)
    go_ret
    exact ⟨rfl, hb0.call ba⟩
  by_cases h1 : nw ≤ 200 ∧ nb ≤ 2100
  case neg =>
    rw [show (decide (nw ≤ 200) && decide (nb ≤ 2100)) = false by rw [Bool.and_eq_false_iff, decide_eq_false_iff_not, decide_eq_false_iff_not]; omega] at FA0
    have FA := Lib.hid FA0
    clear FA0 h1
    clear hX0 hp hpb hs hx hc hW hB hwf
    go_enter Try.func5, Try.ntmps5
    go_wp2_with fail
    refine (FA.out _).mono ?_
    rintro e wf ⟨rfl, rfl⟩
    rw [HX0.out] at hb0
    go_wp2_with (go_at_call 26; refine (awake4_any _).mono ?_; rintro e wa ⟨rfl, ba⟩)
    go_ret
    exact ⟨rfl, hb0.call ba⟩
  rw [show (decide (nw ≤ 200) && decide (nb ≤ 2100)) = true by rw [Bool.and_eq_true, decide_eq_true_iff, decide_eq_true_iff]; omega] at FA0
  have FA := Lib.hid FA0
  clear FA0
  have qn : xs.length = n := by simpa using hs.len
  have qp : p.length = np := by simpa using hp.len
  have qW : W.length = nw := by simpa using hW.len
  have qB : B.length = nb := by simpa using hB.len
  have HN3 : n ≤ 300 := by omega
  have KB0 := fun Y (b : Below w.heap.size w Y) => rtuBytes_any u Ap np cp p Y hu (hp.to b) hpb (by omega)
  have KRB0 := fun Y (b : Below w.heap.size w Y) => rtuRB_any u Ap np cp p Y hu (hp.to b) hpb (by omega)
  have KP0 := fun A1 c1 Y (h : Sl Y Y.heap.size A1 n (bs xs)) (hc : n ≤ c1) => rtuParse_any A1 n c1 xs Y h hx (by omega) hc
  have KRP0 := fun Y (b : Below w.heap.size w Y) => rtuRP_any A n c xs Y (hs.to b) hx (by omega) hc
  have KA0 := fun Y (b : Below w.heap.size w Y) => rtuAsk_any u f a m t Aw nw cw Ab nb cb W B Y hu (hW.to b) (hB.to b) hwf (by omega)
  have KRA0 := fun Y (b : Below w.heap.size w Y) => rtuRA_any u f a m t Aw nw cw Ab nb cb W B Y hu (hW.to b) (hB.to b) hwf (by omega)
  have KR0 := fun A1 c1 Y (h : Sl Y Y.heap.size A1 n (bs xs)) (hc : n ≤ c1) => rtuReply_any u A1 n c1 xs Y h hx (by omega) hc
  have KRR0 := fun Y (b : Below w.heap.size w Y) => rtuRR_any u A n c xs Y (hs.to b) hx (by omega) hc
  have hla := rtuB_lt hu hpb
  have hlq := rtuA_lt hu hwf (by dsimp only; omega)
  have hpl := (rtuP_bytes hx).1
  have hsm := rtuR_small u xs
  obtain ⟨Q, hQ⟩ : ∃ Q, Q = (⟨f, a, m, t, W, B⟩ : Req) := ⟨_, rfl⟩
  rw [← hQ] at KA0 KRA0 hlq
  obtain ⟨L1, e1⟩ : ∃ L, L = rtuB u p := ⟨_, rfl⟩
  rw [← e1] at KB0 KRB0 hla
  obtain ⟨L2, e2⟩ : ∃ L, L = rtuP xs := ⟨_, rfl⟩
  rw [← e2] at KP0 KRP0 hpl
  obtain ⟨L3, e3⟩ : ∃ L, L = rtuA u Q := ⟨_, rfl⟩
  rw [← e3] at KA0 KRA0 hlq
  obtain ⟨L4, e4⟩ : ∃ L, L = rtuR u xs := ⟨_, rfl⟩
  rw [← e4] at KR0 KRR0 hsm
  obtain ⟨la, ea⟩ := L1
  obtain ⟨⟨pu, pl⟩, pe⟩ := L2
  obtain ⟨lq, eq⟩ := L3
  obtain ⟨⟨r1, r2, r3, r4, r5, r6⟩, re⟩ := L4
  dsimp only at hla hpl hlq hsm
  have KB := Lib.hid KB0
  have KRB := Lib.hid KRB0
  have KP := Lib.hid KP0
  have KRP := Lib.hid KRP0
  have KA := Lib.hid KA0
  have KRA := Lib.hid KRA0
  have KR := Lib.hid KR0
  have KRR := Lib.hid KRR0
  have KS := Lib.hid (fun (l : List Nat) (hl : Bytes l) Y A1 c1 A2 c2 (h1 : Sl Y Y.heap.size A1 l.length (bs l)) (h2 : Sl Y Y.heap.size A2 l.length (bs l)) => lowSame_any A1 A2 l.length c1 l.length c2 Y.heap.size l l Y h1 hl h2 hl)
  have KX := Lib.hid (fun Y A1 c1 (b : Below w.heap.size w Y) (h1 : Sl Y Y.heap.size A1 n (bs xs)) => lowSame_any A1 A n c1 n c Y.heap.size xs xs Y h1 hx (hs.to b) hx)
  have KT := Lib.hid (fun Y A1 n1 c1 A2 n2 c2 A3 n3 c3 A4 n4 c4 (h1 : Sl Y Y.heap.size A1 n1 (ws r4)) (h2 : Sl Y Y.heap.size A2 n2 (bl r3)) (h3 : Sl Y Y.heap.size A3 n3 (ws r4)) (h4 : Sl Y Y.heap.size A4 n4 (bl r3)) => ref3Same_any r1 r2 r5 r6 A1 n1 c1 A2 n2 c2 r1 r2 r5 r6 A3 n3 c3 A4 n4 c4 r4 r4 r3 r3 Y h1 h2 h3 h4 (by have := h1.len; simp at this; omega) (by have := h2.len; simp at this; omega) (by have := h3.len; simp at this; omega) (by have := h4.len; simp at this; omega))
  have HLA := Lib.hid hla
  have HLQ := Lib.hid hlq
  have HPL := Lib.hid hpl
  have S0 := (hs.to hb0).to ((Below.refl _ _).new (.cells #[] 5))
  have ra0 : X0.heap[w.heap.size]? = some (.cells #[.int .u8 (f : Nat), .int .u16 (a : Nat), .int .u16 (m : Nat), .int .u16 (t : Nat), .slice Aw nw cw, .slice Ab nb cb] 28 (0, 0)) := hX0 ▸ heap_alloc_new w _
  clear KB0 KRB0 KP0 KRP0 KA0 KRA0 KR0 KRR0 hla hlq hpl hsm e1 e2 e3 e4 hQ qn qp qW qB hX0 h1 hp hpb hs hx hc hW hB hwf
  go_enter Try.func5, Try.ntmps5
  go_wp2_with fail
  refine (FA.out _).mono ?_
  rintro e wf ⟨rfl, rfl⟩
  rw [← HX0.out]
  go_wp2_with (at_builtin; refine wpList_app _root_.Go.Proofs.Ytgjcefgdkhfghaa.AskW.u8 rfl (.tmp 45) (.tmp 46) rfl (Has.made0 (Below.refl X0.heap.size X0) _) rfl S0 rfl (bs_one _) (by omega) (by simp only [maxLen]; omega) ?_; intro v3 w3 H3 _ _; obtain ⟨A1, c1, rfl, hc1, S1, _⟩ := H3.slice; have b3 := H3.bel; clear H3 S0)
  rw [List.nil_append, Nat.zero_add] at S1
  rw [Nat.zero_add] at hc1
  have hb := hb0.call b3
  have ra := b3.row (row_lt ra0) ra0
  clear b3 ra0
  refine (KB.out _ hb).mono ?_
  rintro e w4 ⟨vx, rfl, Hx⟩
  obtain ⟨Ax, cx, rfl, _, SX, _⟩ := Hx.slice
  have ra := Hx.bel.row (row_lt ra) ra
  have S1 := S1.to Hx.bel
  have hb := hb.call Hx.bel
  clear Hx
  dsimp only at SX ⊢
  go_wp2_with fail
  refine (KRB.out _ hb).mono ?_
  rintro e w5 ⟨vy, rfl, Hy⟩
  obtain ⟨Ay, cy, rfl, _, SY, _⟩ := Hy.slice
  have ra := Hy.bel.row (row_lt ra) ra
  have S1 := S1.to Hy.bel
  have SX := SX.to Hy.bel
  have hb := hb.call Hy.bel
  clear Hy
  dsimp only at SY ⊢
  go_wp2_with fail
  refine (KP.out _ _ _ S1 hc1).mono ?_
  rintro e w6 ⟨Au, cu, rfl, SU, _, _, b6⟩
  have ra := b6.row (row_lt ra) ra
  have S1 := S1.to b6
  have SX := SX.to b6
  have SY := SY.to b6
  have hb := hb.call b6
  clear b6
  dsimp only at SU ⊢
  go_wp2_with fail
  refine (KRP.out _ hb).mono ?_
  rintro e w7 ⟨Av, cv, rfl, SV, _, _, b7⟩
  have ra := b7.row (row_lt ra) ra
  have S1 := S1.to b7
  have SX := SX.to b7
  have SY := SY.to b7
  have SU := SU.to b7
  have hb := hb.call b7
  clear b7
  dsimp only at SV ⊢
  have K1 := KS.out la HLA.out w7 Ax cx Ay cy SX SY
  have K2 := KS.out pl HPL.out w7 Au cu Av cv SU SV
  rw [beq_self_eq_true] at K1 K2
  have K1 := Lib.hid K1
  have K2 := Lib.hid K2
  clear SX SY SU SV
  go_wp2_with fail
  refine K1.out.mono ?_
  rintro e w8 ⟨rfl, rfl⟩
  go_wp2_with fail
  refine K2.out.mono ?_
  rintro e w8 ⟨rfl, rfl⟩
  obtain ⟨d0, d1, d2, d3, d4, d5⟩ := row6 ra
  go_wp2_with fail
  refine (KA.out _ hb).mono ?_
  rintro e w9 ⟨vs, rfl, Hs⟩
  obtain ⟨As, cs, rfl, _, SS, _⟩ := Hs.slice
  have ra := Hs.bel.row (row_lt ra) ra
  have S1 := S1.to Hs.bel
  have hb := hb.call Hs.bel
  clear Hs d0 d1 d2 d3 d4 d5
  dsimp only at SS ⊢
  obtain ⟨d0, d1, d2, d3, d4, d5⟩ := row6 ra
  go_wp2_with fail
  refine (KRA.out _ hb).mono ?_
  rintro e w10 ⟨vt, rfl, Ht⟩
  obtain ⟨At, ct, rfl, _, ST, _⟩ := Ht.slice
  have S1 := S1.to Ht.bel
  have SS := SS.to Ht.bel
  have hb := hb.call Ht.bel
  clear Ht d0 d1 d2 d3 d4 d5 ra
  dsimp only at ST ⊢
  go_wp2_with fail
  refine (KR.out _ _ _ S1 hc1).mono ?_
  rintro e w11 ⟨pAb, pnb, pcb, pAw, pnw, pcw, rfl, PB, PW, _, _, _, _, b11⟩
  dsimp only at PB PW ⊢
  have bn := b11.new (.cells #[.int .u8 (r1 : Nat), .int .u8 (r2 : Nat), .slice pAb pnb pcb, .slice pAw pnw pcw, .int .u16 (r5 : Nat), .int .u16 (r6 : Nat)] 26)
  have rp := heap_alloc_new w11 (.cells #[.int .u8 (r1 : Nat), .int .u8 (r2 : Nat), .slice pAb pnb pcb, .slice pAw pnw pcw, .int .u16 (r5 : Nat), .int .u16 (r6 : Nat)] 26)
  have PB := PB.to ((Below.refl _ _).new (.cells #[.int .u8 (r1 : Nat), .int .u8 (r2 : Nat), .slice pAb pnb pcb, .slice pAw pnw pcw, .int .u16 (r5 : Nat), .int .u16 (r6 : Nat)] 26))
  have PW := PW.to ((Below.refl _ _).new (.cells #[.int .u8 (r1 : Nat), .int .u8 (r2 : Nat), .slice pAb pnb pcb, .slice pAw pnw pcw, .int .u16 (r5 : Nat), .int .u16 (r6 : Nat)] 26))
  have S1 := S1.to bn
  have SS := SS.to bn
  have ST := ST.to bn
  have hb := hb.call bn
  clear bn b11
  go_wp2_with fail
  refine (KRR.out _ hb).mono ?_
  rintro e w12 ⟨oAb, onb, ocb, oAw, onw, ocw, rfl, OB, OW, _, _, _, _, b12⟩
  dsimp only at OB OW ⊢
  have bn := b12.new (.cells #[.int .u8 (r1 : Nat), .int .u8 (r2 : Nat), .slice oAb onb ocb, .slice oAw onw ocw, .int .u16 (r5 : Nat), .int .u16 (r6 : Nat)] 26)
  have ro := heap_alloc_new w12 (.cells #[.int .u8 (r1 : Nat), .int .u8 (r2 : Nat), .slice oAb onb ocb, .slice oAw onw ocw, .int .u16 (r5 : Nat), .int .u16 (r6 : Nat)] 26)
  have rp := bn.row (row_lt rp) rp
  have OB := OB.to ((Below.refl _ _).new (.cells #[.int .u8 (r1 : Nat), .int .u8 (r2 : Nat), .slice oAb onb ocb, .slice oAw onw ocw, .int .u16 (r5 : Nat), .int .u16 (r6 : Nat)] 26))
  have OW := OW.to ((Below.refl _ _).new (.cells #[.int .u8 (r1 : Nat), .int .u8 (r2 : Nat), .slice oAb onb ocb, .slice oAw onw ocw, .int .u16 (r5 : Nat), .int .u16 (r6 : Nat)] 26))
  have PB := PB.to bn
  have PW := PW.to bn
  have S1 := S1.to bn
  have SS := SS.to bn
  have ST := ST.to bn
  have hb := hb.call bn
  clear bn b12
  have K3 := KS.out lq HLQ.out _ As cs At ct SS ST
  rw [beq_self_eq_true] at K3
  have K3 := Lib.hid K3
  clear SS ST
  obtain ⟨d0, d1, d2, d3, d4, d5⟩ := row6 rp
  obtain ⟨e0, e1, e2, e3, e4, e5⟩ := row6 ro
  go_wp2_with fail
  refine K3.out.mono ?_
  rintro e w13 ⟨rfl, rfl⟩
  go_wp2_with fail
  refine (KT.out _ _ _ _ _ _ _ _ _ _ _ _ _ PW PB OW OB).mono ?_
  rintro e w14 ⟨rfl, b14⟩
  simp only [beq_self_eq_true, Bool.and_true]
  clear d0 d1 d2 d3 d4 d5 e0 e1 e2 e3 e4 e5 rp ro PB PW OB OW
  have S1 := S1.to b14
  have hb := hb.call b14
  clear b14
  have K4 := KX.out _ A1 c1 hb S1
  rw [beq_self_eq_true] at K4
  have K4 := Lib.hid K4
  go_wp2_with fail
  refine K4.out.mono ?_
  rintro e w15 ⟨rfl, rfl⟩
  go_wp2_with (go_at_call 26; refine (awake4_any _).mono ?_; rintro e wa ⟨rfl, ba⟩)
  go_ret
  exact ⟨rfl, hb.call ba⟩
end Go.Proofs.Ytgjcefgdkhfghaa.AskW
