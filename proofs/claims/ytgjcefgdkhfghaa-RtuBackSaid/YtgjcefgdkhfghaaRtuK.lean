/- The walk of RtuBack. -/
import Derived.Test.YtgjcefgdkhfghaaRtuS
import Derived.Test.YtgjcefgdkhfghaaRtuD
import Derived.Test.YtgjcefgdkhfghaaRtuF
set_option linter.unusedVariables false
set_option linter.unusedSimpArgs false
namespace Go.Proofs.Ytgjcefgdkhfghaa.AskW
open Go.RowKit Go.Proofs.Ytgjcefgdkhfghaa Go.Proofs.Ytgjcefgdkhfghaa.Ask
/-- A row whose first L cells are bytes. -/
def ByteRow (W : World) (g L : Nat) : Prop := ∃ cur l, W.heap[g]? = some (.cells cur 5 (0, 0)) ∧ cur.toList.take L = bs l ∧ Bytes l ∧ l.length = L
theorem ByteRow.get {W : World} {g L j : Nat} (h : ByteRow W g L) (hj : j < L) : ∃ x : Nat, x < 256 ∧ W.cell? ⟨g, j, none⟩ = some (.int .u8 (x : Nat)) ∧ W.frozen? ⟨g, j, none⟩ = false := by
  obtain ⟨cur, l, hg, hc, hb, hl⟩ := h
  refine ⟨l[j]?.getD 0, hb.at j, ?_, frozen_of_row W g j _ _ hg⟩
  rw [cell_of_row W g j _ _ _ hg]
  have : cur.toList[j]? = (bs l)[j]? := by rw [← hc, List.getElem?_take, if_pos hj]
  rw [bs_get (by omega)] at this
  simpa using this
theorem ByteRow.set {W : World} {g L j x : Nat} (h : ByteRow W g L) (hx : x < 256) : ByteRow (W.setCell ⟨g, j, none⟩ (.int .u8 (x : Nat))) g L := by
  obtain ⟨cur, l, hg, hc, hb, hl⟩ := h
  refine ⟨cur.setIfInBounds j (.int .u8 (x : Nat)), l.set j x, heap_setCell_same W g j _ _ _ hg, ?_, ?_, by simpa using hl⟩
  · rw [Array.toList_setIfInBounds, List.take_set, hc]; simp [bs, List.map_set]
  · intro c hc'
    rcases List.mem_or_eq_of_mem_set hc' with h | rfl
    · exact hb c h
    · exact hx
theorem flip255 (x : Nat) (hx : x < 256) : ∃ y : Nat, y < 256 ∧ bits .xor .u8 (x : Int) 255 = (y : Int) :=
  ⟨x ^^^ 255, Nat.xor_lt_two_pow (n := 8) hx (by decide), u8_xor_nat x 255 hx (by decide)⟩
theorem rtuB_ways (u : Nat) (l : List Nat) : (rtuB u l = (CrcW.put (u :: l), 0) ∧ isU u = true ∧ 1 ≤ l.length ∧ l.length ≤ 253) ∨ (rtuB u l = ([], 2) ∧ (u = 0 ∨ 247 < u ∨ l.length = 0 ∨ 253 < l.length)) := by
  unfold rtuB
  split
  · rename_i h; exact Or.inl ⟨rfl, h⟩
  · rename_i h
    refine Or.inr ⟨rfl, ?_⟩
    unfold isU at h
    rw [decide_eq_true_iff] at h
    omega
set_option maxRecDepth 100000 in
set_option maxHeartbeats 16000000 in
theorem rtuBack_any (u : Nat) (A : Option Addr) (n c : Nat) (l : List Nat) (p t : Nat) (w : World) (hu : u < 256) (hs : Sl w w.heap.size A n (bs l)) (hl : Bytes l) (hp : p < 65536) (ht : t < 65536) :
    Calls Try.prog 6 #[.int .u8 (u : Nat), .slice A n c, .int .u16 (p : Nat), .int .u16 (t : Nat)] w fun e w' => e = .returned (.bool true) ∧ Below w.heap.size w w' := by
  by_cases g1 : (300 : Int) < (n : Int)
  · clear hs hl
    go_enter Try.func6, Try.ntmps6
    go_wp2_with (go_at_call 26; refine (awake4_any _).mono ?_; rintro e wa ⟨rfl, ba⟩)
    go_ret
    exact ⟨rfl, ba⟩
  have q1 : l.length = n := by simpa using hs.len
  have KB0 := rtuBytes_any u A n c l w hu hs hl (by omega)
  rcases rtuB_ways u l with ⟨hE, hU, hl1, hl2⟩ | ⟨hE, hW⟩
  case inr =>
    rw [hE] at KB0
    have KB := Lib.hid KB0
    rw [q1] at hW
    clear KB0 hE q1 hs hl
    by_cases c1 : u = 0
    · subst c1
      go_enter Try.func6, Try.ntmps6
      go_wp2_with fail
      refine KB.out.mono ?_
      rintro e w1 ⟨va, rfl, Ha⟩
      obtain ⟨Aa, ca, rfl, _, _, _⟩ := Ha.slice
      have hb := Ha.bel
      clear Ha
      dsimp only [List.length_nil]
      go_wp2_with (go_at_call 26; refine (awake4_any _).mono ?_; rintro e wa ⟨rfl, ba⟩)
      go_ret
      exact ⟨rfl, hb.call ba⟩
    have c1i : ((u : Int) == 0) = false := by rw [beq_eq_false_iff_ne]; omega
    by_cases c2 : (247 : Int) < (u : Int)
    · clear hW c1
      go_enter Try.func6, Try.ntmps6
      go_wp2_with fail
      refine KB.out.mono ?_
      rintro e w1 ⟨va, rfl, Ha⟩
      obtain ⟨Aa, ca, rfl, _, _, _⟩ := Ha.slice
      have hb := Ha.bel
      clear Ha
      dsimp only [List.length_nil]
      go_wp2_with (go_at_call 26; refine (awake4_any _).mono ?_; rintro e wa ⟨rfl, ba⟩)
      go_ret
      exact ⟨rfl, hb.call ba⟩
    by_cases c3 : n = 0
    · subst c3
      clear hW c1
      go_enter Try.func6, Try.ntmps6
      go_wp2_with fail
      refine KB.out.mono ?_
      rintro e w1 ⟨va, rfl, Ha⟩
      obtain ⟨Aa, ca, rfl, _, _, _⟩ := Ha.slice
      have hb := Ha.bel
      clear Ha
      dsimp only [List.length_nil]
      go_wp2_with (go_at_call 26; refine (awake4_any _).mono ?_; rintro e wa ⟨rfl, ba⟩)
      go_ret
      exact ⟨rfl, hb.call ba⟩
    have c3i : ((n : Int) == 0) = false := by rw [beq_eq_false_iff_ne]; omega
    have c4 : (253 : Int) < (n : Int) := by omega
    clear hW c1 c3
    go_enter Try.func6, Try.ntmps6
    go_wp2_with fail
    refine KB.out.mono ?_
    rintro e w1 ⟨va, rfl, Ha⟩
    obtain ⟨Aa, ca, rfl, _, _, _⟩ := Ha.slice
    have hb := Ha.bel
    clear Ha
    dsimp only [List.length_nil]
    go_wp2_with (go_at_call 26; refine (awake4_any _).mono ?_; rintro e wa ⟨rfl, ba⟩)
    go_ret
    exact ⟨rfl, hb.call ba⟩
  have hpp := rtuP_put hU hl hl1 hl2
  have hPb := CrcW.put_bytes (unit_cons hu hl)
  have hPl : (CrcW.put (u :: l)).length = n + 3 := by simp; omega
  have hP0 := Crc.sum_put (u :: l)
  rw [hE] at KB0
  obtain ⟨Z, hZ⟩ : ∃ Z, Z = CrcW.put (u :: l) := ⟨_, rfl⟩
  rw [← hZ] at hpp hPb hPl hP0 KB0
  obtain ⟨N, hN⟩ : ∃ N, N = n + 3 := ⟨_, rfl⟩
  rw [← hN] at hPl
  have hp8 : p % (8 * N) < 8 * N := Nat.mod_lt _ (by omega)
  obtain ⟨P, hP⟩ : ∃ P, P = p % (8 * N) := ⟨_, rfl⟩
  have hrem : Int.tmod (p : Int) (8 * (N : Int)) = (P : Int) := by rw [Int.tmod_eq_emod_of_nonneg (by omega), hP, Int.natCast_emod, Int.natCast_mul]; rfl
  rw [← hP] at hp8
  have hw3 : IntKind.i64.wrap ((n : Int) + 3) = (N : Int) := by rw [IntKind.wrap_i64]; omega
  have hw8 : IntKind.i64.wrap (8 * (N : Int)) = 8 * (N : Int) := by rw [IntKind.wrap_i64]; omega
  have hP64 := w64 (show P ≤ 9223372036854775807 by omega)
  have hN0 : ¬ N = 0 := by omega
  have hN256 : N ≤ 256 := by omega
  have h8N : ((8 * (N : Int)) == 0) = false := by rw [beq_eq_false_iff_ne]; omega
  have KS := Lib.hid (fun A2 c2 Y h => spoil_any A2 N c2 Z P t Y h hPb (by omega) (by omega) hp8 ht)
  have KE := Lib.hid (show ∀ x l', x < 65536 → Bytes l' → l'.length = Z.length → Crc.val l' = Crc.val Z ^^^ 2 ^ P * x → ((rtuP l').2 == 11) = decide (x ≠ 0) from fun x l' hx hb' hl' hv => by
    rw [rtuP_eleven hb' (by omega) (by omega)]
    have h := Crc.burst hPb hb' hl' (by omega) hx hv hP0
    by_cases hx0 : x = 0
    · rw [decide_eq_true (h.2 hx0), decide_eq_false (by simpa using hx0)]; rfl
    · rw [decide_eq_false (fun k => hx0 (h.1 k)), decide_eq_true hx0]; rfl)
  have KP := Lib.hid (fun A2 n2 c2 l2 Y h hb' hn hc => rtuParse_any A2 n2 c2 l2 Y h hb' hn hc)
  have KL := Lib.hid (fun Y A2 c2 (b : Below w.heap.size w Y) (h : Sl Y Y.heap.size A2 l.length (bs l)) => lowSame_any A2 A l.length c2 n c Y.heap.size l l Y h hl (by have := hs.to b; exact this) hl)
  have KB := Lib.hid KB0
  have HQ := Lib.hid q1
  have HPP := Lib.hid hpp
  have HPB := Lib.hid hPb
  have HPL := Lib.hid hPl
  have HS := Lib.hid hs
  have hapV0 : ∀ b o, A = some (⟨b, o, none⟩ : Addr) → b < w.heap.size := fun b o h => by
    obtain ⟨b', o', e, hb', _⟩ := hs.2 (by omega)
    rw [e] at h
    injection h with h
    injection h with h _
    omega
  have HAP := Lib.hid hapV0
  have HN := Lib.hid hN
  have HL1 := Lib.hid hl1
  clear KB0 hE hU hl1 hl2 hpp hPb hPl hP0 hZ hN hp8 hP q1 hs hl hapV0
  go_enter Try.func6, Try.ntmps6
  go_wp2_with fail
  refine KB.out.mono ?_
  rintro e w1 ⟨va, rfl, Ha⟩
  dsimp only at Ha ⊢
  rw [HPL.out] at Ha
  obtain ⟨g, cp, cur, rfl, hge, hg, hcap, hmax, hsz, hcur⟩ := Or.resolve_left Ha.own.2 (fun h => absurd h.2 (by omega))
  have hb := Ha.bel
  have Sa := Sl.of_own Ha.own
  rw [Nat.mul_one] at hcur
  have HCUR := Lib.hid hcur
  have HG := Lib.hid hg
  have HCP := Lib.hid hcap
  clear Ha hcur hmax hsz hg hcap
  go_wp2_with fail
  refine (KS.out _ _ _ Sa).mono ?_
  rintro e w2 ⟨v2, x, l', rfl, H2, hb', hl', hx, hv⟩
  have hE := KE.out x l' hx hb' hl' hv
  obtain ⟨A2, c2, rfl, hc2, S2, _⟩ := H2.slice
  have hg2 := H2.bel.row (row_lt HG.out) HG.out
  have hb := hb.call H2.bel
  have Sa := Sa.to H2.bel
  clear H2 hv hx
  obtain ⟨D, hD⟩ : ∃ D, D = decide (x ≠ 0) := ⟨_, rfl⟩
  rw [← hD] at hE ⊢
  clear hD
  rw [HPL.out] at S2 hc2 hl' ⊢
  go_wp2_with fail
  refine (KP.out _ _ _ l' _ S2 hb' (by have := HN.out; omega) hc2).mono ?_
  rintro e w3 ⟨A3, c3, rfl, _, _, _, b3⟩
  have hg3 := b3.row (row_lt hg2) hg2
  have hb := hb.call b3
  have Sa := Sa.to b3
  clear b3 hg2 hb' hl' S2 hc2
  obtain ⟨r3, hr3⟩ : ∃ r, r = rtuP l' := ⟨_, rfl⟩
  rw [← hr3] at hE ⊢
  clear hr3
  obtain ⟨⟨y1, y2⟩, y3⟩ := r3
  dsimp only at hE ⊢
  go_wp2_with fail
  refine (KP.out _ _ _ Z _ Sa HPB.out (by have := HN.out; omega) HCP.out).mono ?_
  rw [HPP.out]
  rintro e X ⟨A4, c4, rfl, S4, hc4, O4, b4⟩
  dsimp only at S4 hc4 ⊢
  have hg4 := b4.row (row_lt hg3) hg3
  have hgl := row_lt hg3
  have hb := hb.call b4
  have Sp := HS.out.to hb
  have hgrow : ByteRow X g N := ⟨cur, Z, hg4, HCUR.out, HPB.out, HPL.out⟩
  have HO4 := Lib.hid O4
  have hSz := b4.size
  clear b4 hg3 hg4 Sa O4 hE
  go_wp2_with fail
  go_loopw [96] (fun i wr => ∃ k : Nat, k ≤ N ∧ i = .int .i64 k ∧ ByteRow wr g N ∧ X.grownBy wr (some g)) (fun i _ => N - (intOf i).toNat)
  case atStart => exact ⟨0, by omega, rfl, hgrow, ⟨rfl, rfl, rfl, Nat.le_refl _, fun _ _ _ => rfl⟩⟩
  case round =>
    obtain ⟨k, hk, rfl, hrow, G⟩ := hrel
    by_cases hlt : k < N
    · obtain ⟨y, hy, gx, fx⟩ := hrow.get hlt
      obtain ⟨z, hz, hxor⟩ := flip255 y hy
      have HROW := Lib.hid (hrow.set (j := k) hz)
      have z0 : (0 : Int) ≤ (k : Int) := by omega
      have z1 : (k : Int) < (N : Int) := by omega
      go_wp2_with fail
      go_roundw
      case rel => exact ⟨k + 1, by omega, by go_num, HROW.out, G.then (grown_setCell wr g k _)⟩
      case measure => simp [intOf]; omega
    · obtain rfl : k = N := by omega
      have hb := hb.grown G hb.size (fun q hq => by injection hq with hq; omega)
      have S4 := S4.grown G (fun b o h e => by have := HO4.out b o h; injection e with e; omega)
      have KL2 := Lib.hid (KL.out wr A4 c4 hb S4)
      clear S4 Sp hrow hgrow G
      go_wp2_with fail
      refine KL2.out.mono ?_
      rintro e w7 ⟨rfl, rfl⟩
      rw [beq_self_eq_true]
      go_wp2_with (go_at_call 26; refine (awake4_any _).mono ?_; rintro e wa ⟨rfl, ba⟩)
      go_ret
      exact ⟨rfl, hb.call ba⟩
end Go.Proofs.Ytgjcefgdkhfghaa.AskW
