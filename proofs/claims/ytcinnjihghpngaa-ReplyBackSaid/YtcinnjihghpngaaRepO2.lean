/- The walk of ReplyBack. -/
import Derived.Test.YtcinnjihghpngaaRepO1
import Derived.Test.YtcinnjihghpngaaRepNP
set_option linter.unusedVariables false
set_option linter.unusedSimpArgs false
namespace Go.Proofs.Ytcinnjihghpngaa.AskW
open Go.RowKit Go.Proofs.Ytcinnjihghpngaa Go.Proofs.Ytcinnjihghpngaa.Ask
/-- A row whose first L cells are bytes. -/
def Row (W : World) (g L : Nat) : Prop := ∃ cur l, W.heap[g]? = some (.cells cur 5 (0, 0)) ∧ cur.toList.take L = bs l ∧ Bytes l ∧ l.length = L
theorem Row.alloc {W : World} {g L : Nat} (h : Row W g L) (o : Obj) : Row (W.alloc o) g L := by
  obtain ⟨cur, l, hg, r⟩ := h
  exact ⟨cur, l, row_alloc hg o, r⟩
theorem Row.get {W : World} {g L j : Nat} (h : Row W g L) (hj : j < L) : ∃ x : Nat, x < 256 ∧ W.cell? ⟨g, j, none⟩ = some (.int .u8 (x : Nat)) ∧ W.frozen? ⟨g, j, none⟩ = false := by
  obtain ⟨cur, l, hg, hc, hb, hl⟩ := h
  refine ⟨l[j]?.getD 0, hb.at j, ?_, frozen_of_row W g j _ _ hg⟩
  rw [cell_of_row W g j _ _ _ hg]
  have : cur.toList[j]? = (bs l)[j]? := by rw [← hc, List.getElem?_take, if_pos hj]
  rw [bs_get (by omega)] at this
  simpa using this
theorem Row.set {W : World} {g L j x : Nat} (h : Row W g L) (hx : x < 256) : Row (W.setCell ⟨g, j, none⟩ (.int .u8 (x : Nat))) g L := by
  obtain ⟨cur, l, hg, hc, hb, hl⟩ := h
  refine ⟨cur.setIfInBounds j (.int .u8 (x : Nat)), l.set j x, heap_setCell_same W g j _ _ _ hg, ?_, ?_, by simpa using hl⟩
  · rw [Array.toList_setIfInBounds, List.take_set, hc]; simp [bs, List.map_set]
  · intro c hc'
    rcases List.mem_or_eq_of_mem_set hc' with h | rfl
    · exact hb c h
    · exact hx
theorem xor255 (x : Nat) (hx : x < 256) : ∃ y : Nat, y < 256 ∧ bits .xor .u8 (x : Int) 255 = (y : Int) := by
  refine ⟨x ^^^ 255, Nat.xor_lt_two_pow (n := 8) hx (by decide), ?_⟩
  exact u8_xor_nat x 255 hx (by decide)
set_option maxRecDepth 100000 in
set_option maxHeartbeats 16000000 in
theorem replyBack_any (f x : Nat) (Ab : Option Addr) (nb cb : Nat) (Aw : Option Addr) (nw cw : Nat) (a m : Nat) (B : List Bool) (W : List Nat) (A : Option Addr) (n c : Nat) (xs : List Nat) (w : World)
    (hW : Sl w w.heap.size Aw nw (ws W)) (hB : Sl w w.heap.size Ab nb (bl B)) (hwf : Rep.Wf ⟨f, x, B, W, a, m⟩) (hs : Sl w w.heap.size A n (bs xs)) (hx : Bytes xs) (hc : n ≤ c) :
    Calls Try.prog 7 #[.agg #[.int .u8 (f : Nat), .int .u8 (x : Nat), .slice Ab nb cb, .slice Aw nw cw, .int .u16 (a : Nat), .int .u16 (m : Nat)], .slice A n c] w fun e w' => e = .returned (.bool true) ∧ Below w.heap.size w w' := by
  have hb0 : Below w.heap.size w (w.alloc (.cells #[.int .u8 (f : Nat), .int .u8 (x : Nat), .slice Ab nb cb, .slice Aw nw cw, .int .u16 (a : Nat), .int .u16 (m : Nat)] 49)) := (Below.refl _ _).new _
  have FA0 := few_any Aw Ab nw cw nb cb
  by_cases h1 : nw ≤ 200 ∧ nb ≤ 2100
  case neg =>
    rw [show (decide (nw ≤ 200) && decide (nb ≤ 2100)) = false by rw [Bool.and_eq_false_iff, decide_eq_false_iff_not, decide_eq_false_iff_not]; omega] at FA0
    have FA := Lib.hid FA0
    clear FA0 h1 hs hx hc hW hB hwf
    go_enter Try.func7, Try.ntmps7
    go_wp2_with fail
    refine (FA.out _).mono ?_
    rintro e wf ⟨rfl, rfl⟩
    go_wp2_with (go_at_call 29; refine (awake3_any _).mono ?_; rintro e wa ⟨rfl, ba⟩)
    go_ret
    exact ⟨rfl, hb0.call ba⟩
  rw [show (decide (nw ≤ 200) && decide (nb ≤ 2100)) = true by rw [Bool.and_eq_true, decide_eq_true_iff, decide_eq_true_iff]; omega] at FA0
  have FA := Lib.hid FA0
  clear FA0
  by_cases h3 : (20 : Int) < n
  · clear h1 hs hx hc hW hB hwf
    go_enter Try.func7, Try.ntmps7
    go_wp2_with fail
    refine (FA.out _).mono ?_
    rintro e wf ⟨rfl, rfl⟩
    go_wp2_with (go_at_call 29; refine (awake3_any _).mono ?_; rintro e wa ⟨rfl, ba⟩)
    go_ret
    exact ⟨rfl, hb0.call ba⟩
  have qW : W.length = nw := by simpa using hW.len
  have qB : B.length = nb := by simpa using hB.len
  have KB0 := fun Y (b : Below w.heap.size w Y) => repBytes_any f x Ab nb cb Aw nw cw a m B W Y (hB.to b) (hW.to b) hwf (by omega) (by omega)
  have KG0 := fun Y (b : Below w.heap.size w Y) => repRight_any f x Ab nb cb Aw nw cw a m B W Y (hB.to b) (hW.to b) (by omega) (by omega)
  have hra := heap_alloc_new w (.cells #[.int .u8 (f : Nat), .int .u8 (x : Nat), .slice Ab nb cb, .slice Aw nw cw, .int .u16 (a : Nat), .int .u16 (m : Nat)] 49)
  rcases rbytesE_cases ⟨f, x, B, W, a, m⟩ with ⟨hr, hE⟩ | ⟨hr, hE⟩
  case inr =>
    rw [hE] at KB0
    rw [hr] at KG0
    have KB := Lib.hid KB0
    have KG := Lib.hid KG0
    clear KB0 KG0 h1 hs hx hc hW hB hwf hE hr qW qB
    go_enter Try.func7, Try.ntmps7
    go_wp2_with fail
    refine (FA.out _).mono ?_
    rintro e wf ⟨rfl, rfl⟩
    go_wp2_with fail
    refine (KB.out _ hb0).mono ?_
    rintro e w1 ⟨v, rfl, H⟩
    obtain ⟨Av, cv, rfl, _, _, _⟩ := H.slice
    have ra := H.bel.row (row_lt hra) hra
    have hb := hb0.call H.bel
    clear H
    obtain ⟨c0, c1, c2, c3, c4, c5⟩ := row6 ra
    go_wp2_with fail
    refine (KG.out _ hb).mono ?_
    rintro e w2 ⟨rfl, b2⟩
    have hb := hb.call b2
    go_wp2_with (go_at_call 29; refine (awake3_any _).mono ?_; rintro e wa ⟨rfl, ba⟩)
    go_ret
    exact ⟨rfl, hb.call ba⟩
  have hlen := rbytes_len hr
  have hby := rbytesE_lt ⟨f, x, B, W, a, m⟩ hwf
  rw [hE] at hby
  dsimp only at hby
  have hpb := rparse_bytes hr
  have HPP := Lib.hid (fun k hk => rparse_prefix hr (k := k) hk)
  have HPM := Lib.hid (fun l hl => rparse_more hr (l := l) hl)
  rw [hE] at KB0
  rw [hr] at KG0
  obtain ⟨Z, hZ⟩ : ∃ Z, Z = rbytes ⟨f, x, B, W, a, m⟩ := ⟨_, rfl⟩
  rw [← hZ] at hlen hby hpb HPP HPM KB0
  obtain ⟨L, hL⟩ : ∃ L, L = Z.length := ⟨_, rfl⟩
  have KB := Lib.hid KB0
  have KG := Lib.hid KG0
  have KP := Lib.hid (fun Y A2 n2 c2 (l : List Nat) S hl h2 h3 => repParse_any A2 n2 c2 l Y S hl h2 h3)
  have KT := Lib.hid (fun Y Aw2 nw2 cw2 Ab2 nb2 cb2 (b : Below w.heap.size w Y) (h3 : Sl Y Y.heap.size Aw2 nw2 (ws W)) (h4 : Sl Y Y.heap.size Ab2 nb2 (bl B)) => repSame_any f x Ab nb cb Aw nw cw a m f x Ab2 nb2 cb2 Aw2 nw2 cw2 a m B B W W Y (hW.to b) (hB.to b) h3 h4 (by omega) (by omega) (by have := h3.len; simp at this; omega) (by have := h4.len; simp at this; omega))
  have HS := Lib.hid hs
  have HX := Lib.hid hx
  have HC := Lib.hid hc
  have HQ := Lib.hid (show xs.length = n by simpa using hs.len)
  have HBY := Lib.hid hby
  have HPB := Lib.hid hpb
  have HLL := Lib.hid hL
  have hL1 : 2 ≤ L := by omega
  have hL2 : L ≤ 253 := by omega
  have HRA := Lib.hid hra
  clear KB0 KG0 h1 hs hx hc hW hB hwf hE hr qW qB hZ hlen hby hpb hL hra
  go_enter Try.func7, Try.ntmps7
  go_wp2_with fail
  refine (FA.out _).mono ?_
  rintro e wf ⟨rfl, rfl⟩
  go_wp2_with fail
  refine (KB.out _ hb0).mono ?_
  rintro e w1 ⟨v, rfl, H⟩
  dsimp only at H ⊢
  rw [← HLL.out] at H
  obtain ⟨Av, cv, rfl, hcv, SV, _⟩ := H.slice
  have ra := H.bel.row (row_lt HRA.out) HRA.out
  have hb := hb0.call H.bel
  clear H
  obtain ⟨c0, c1, c2, c3, c4, c5⟩ := row6 ra
  go_wp2_with fail
  refine (KG.out _ hb).mono ?_
  rintro e w2 ⟨rfl, b2⟩
  have ra := b2.row (row_lt ra) ra
  have hb := hb.call b2
  have SV := SV.to b2
  have hw2 := row_lt ra
  clear b2 c0 c1 c2 c3 c4 c5
  have hapV0 : ∀ b o, Av = some (⟨b, o, none⟩ : Addr) → b < w2.heap.size := fun b o h => by
    obtain ⟨b', o', e, hb', _⟩ := SV.2 (by omega)
    rw [e] at h
    injection h with h
    injection h with h _
    omega
  have hapV := Lib.hid hapV0
  clear hapV0
  have S0 := SV.to ((Below.refl _ _).new (.cells #[] 5))
  go_wp2_with (at_builtin; refine wpList_app _root_.Go.Proofs.Ytcinnjihghpngaa.AskW.u8 rfl (.tmp 46) (.tmp 47) rfl (Has.made0 (Below.refl w2.heap.size w2) _) rfl S0 rfl (bs_one _) (by omega) (by simp only [maxLen]; omega) ?_; intro v3 w3 H3 _ _; obtain ⟨g, cap, cur, rfl, hge, hg, hcap, hmax, hsz, hcur⟩ := Or.resolve_left H3.own.2 (fun h => absurd h.2 (by omega)); have b3 := H3.bel; have HG := Lib.hid hg; have HCUR := Lib.hid hcur; have HCAP := Lib.hid hcap; have S3 := Lib.hid (Sl.of_own H3.own); clear H3 hg hcur hcap hmax hsz S0)
  have hgs := row_lt HG.out
  have ra := b3.row (row_lt ra) ra
  have hb := hb.call b3
  have SV := SV.to b3
  have hbz : bs Z = [] ++ bs Z := rfl
  have S3' := S3.out
  rw [List.nil_append, Nat.zero_add] at S3'
  refine (KP.out _ _ _ _ Z S3' HBY.out (by omega) (by have := HCAP.out; omega)).mono ?_
  rintro e w4 ⟨pAb, pnb, pcb, pAw, pnw, pcw, he, SB, SW, hcb, hcw, oB, oW, b4⟩
  rw [HPB.out] at he SW SB
  obtain rfl := he
  dsimp only at SW SB ⊢
  have hgrow : Row w4 g L := by
    refine ⟨cur, Z, b4.row hgs HG.out, ?_, HBY.out, HLL.out.symm⟩
    have := HCUR.out
    simpa using this
  have ra := b4.row (row_lt ra) ra
  have hb := hb.call b4
  have SV := SV.to b4
  have lta := row_lt ra
  have rq := heap_alloc_new w4 (.cells #[.int .u8 (f : Nat), .int .u8 (x : Nat), .slice pAb pnb pcb, .slice pAw pnw pcw, .int .u16 (a : Nat), .int .u16 (m : Nat)] 49)
  have ra := row_alloc ra (.cells #[.int .u8 (f : Nat), .int .u8 (x : Nat), .slice pAb pnb pcb, .slice pAw pnw pcw, .int .u16 (a : Nat), .int .u16 (m : Nat)] 49)
  have bn := (Below.refl w4.heap.size w4).new (.cells #[.int .u8 (f : Nat), .int .u8 (x : Nat), .slice pAb pnb pcb, .slice pAw pnw pcw, .int .u16 (a : Nat), .int .u16 (m : Nat)] 49)
  have hb := hb.call bn
  have SV := SV.to bn
  have SW := SW.to bn
  have SB := SB.to bn
  have hgrow := hgrow.alloc (.cells #[.int .u8 (f : Nat), .int .u8 (x : Nat), .slice pAb pnb pcb, .slice pAw pnw pcw, .int .u16 (a : Nat), .int .u16 (m : Nat)] 49)
  have hg4 : g < w4.heap.size := Nat.lt_of_lt_of_le hgs b4.size
  have HOW := Lib.hid oW
  have HOB := Lib.hid oB
  clear bn b4 oW oB hcw hcb S3 S3' HG HCUR hbz b3
  go_wp2_with fail
  obtain ⟨X5, hX5⟩ : ∃ X, X = w4.alloc (.cells #[.int .u8 (f : Nat), .int .u8 (x : Nat), .slice pAb pnb pcb, .slice pAw pnw pcw, .int .u16 (a : Nat), .int .u16 (m : Nat)] 49) := ⟨_, rfl⟩
  rw [← hX5] at rq ra hb SV SW SB hgrow ⊢
  clear hX5
  go_loopw [56] (fun i wr => ∃ k : Nat, k ≤ L ∧ i = .int .i64 k ∧ Row wr g L ∧ X5.grownBy wr (some g)) (fun i _ => L - (intOf i).toNat)
  case atStart => exact ⟨0, by omega, rfl, hgrow, ⟨rfl, rfl, rfl, Nat.le_refl _, fun _ _ _ => rfl⟩⟩
  case round =>
    obtain ⟨k, hk, rfl, hrow, G⟩ := hrel
    by_cases hlt : k < L
    · obtain ⟨y, hy, gx, fx⟩ := hrow.get hlt
      obtain ⟨z, hz, hxor⟩ := xor255 y hy
      have HROW := Lib.hid (hrow.set (j := k) hz)
      have z0 : (0 : Int) ≤ (k : Int) := by omega
      have z1 : (k : Int) < (L : Int) := by omega
      go_wp2_with fail
      go_roundw
      case rel => exact ⟨k + 1, by omega, by go_num, HROW.out, G.then (grown_setCell wr g k _)⟩
      case measure => simp [intOf]; omega
    · obtain rfl : k = L := by omega
      have ra := G.row (by omega) ra
      have rq := G.row (by omega) rq
      have hb := hb.grown G hb.size (fun q hq => by injection hq with hq; omega)
      have SV := SV.grown G (fun b o h e => by have := hapV.out b o h; injection e with e; omega)
      have SW := SW.grown G (fun b o h e => by have := HOW.out b o h; injection e with e; omega)
      have SB := SB.grown G (fun b o h e => by have := HOB.out b o h; injection e with e; omega)
      obtain ⟨vb, vo, rfl, hvb, vd⟩ := SV.2 (by omega)
      have zz1 : (0 : Int) < (k : Int) := by omega
      have zz1n : 0 < k := by omega
      have zz1m : (0 : Int) ≤ (k : Int) := by omega
      have zz2 : decide ((k : Int) < 2) = false := decide_eq_false (by omega)
      have zz3 : decide ((253 : Int) < (k : Int)) = false := decide_eq_false (by omega)
      have R3 := Lib.hid ra
      have R5 := Lib.hid rq
      have KT3 := Lib.hid (fun Y (b : Below wr.heap.size wr Y) => KT.out Y _ _ pcw _ _ pcb (hb.trans (b.mono hb.size)) (SW.to b) (SB.to b))
      have SVH := Lib.hid SV
      have HBH := Lib.hid hb
      clear ra rq vd hrow hgrow G SW SB HOW HOB KT
      obtain ⟨c0, c1, c2, c3, c4, c5⟩ := row6 R3.out
      obtain ⟨d0, d1, d2, d3, d4, d5⟩ := row6 R5.out
      go_wp2_with fail
      refine (KT3.out _ (Below.refl _ _)).mono ?_
      rintro e wt ⟨rfl, hbd⟩
      simp only [beq_self_eq_true, Bool.and_true]
      clear c0 c1 c2 c3 c4 c5 d0 d1 d2 d3 d4 d5
      have HB2 := Lib.hid (hb.trans (hbd.mono hb.size))
      have SV2 := SVH.out.to hbd
      have hbX := HB2.out
      clear KT3 R3 R5 SVH HBH hbd hb
      go_wp2_with fail
      go_loopw [90] (fun i wr => ∃ j : Nat, j ≤ k ∧ i = .int .i64 j ∧ Below w.heap.size w wr ∧ Sl wr wr.heap.size (some ⟨vb, vo, none⟩) k (bs Z)) (fun i _ => k - (intOf i).toNat)
      case atStart => exact ⟨0, by omega, rfl, hbX, SV2⟩
      case round =>
        obtain ⟨j, hj, rfl, bX2, SV3⟩ := hrel
        clear hbX SV2 HB2
        by_cases hjk : j < k
        · have SJ := SV3.take (k := j) (by omega)
          rw [bs_take] at SJ
          have HPJ := Lib.hid (HPP.out j (by have := HLL.out; omega))
          have y0 : (0 : Int) ≤ (j : Int) := by omega
          have y1 : (j : Int) ≤ (cv : Int) := by omega
          have y1n : j ≤ cv := by omega
          have y2 : (j : Int) < (k : Int) := by omega
          have ysub : IntKind.i64.wrap ((k : Int) - (j : Int)) = (k : Int) - (j : Int) := by rw [IntKind.wrap_i64]; omega
          have ymod : Int.tmod (j : Int) 9 = ((j % 9 : Nat) : Int) := by rw [Int.tmod_eq_emod_of_nonneg (by omega)]; omega
          have ym64 := w64 (show j % 9 ≤ 9223372036854775807 by omega)
          have KPJ := Lib.hid (fun Y (b : Below wr.heap.size wr Y) => KP.out Y (some ⟨vb, vo, none⟩) j cv (Z.take j) (SJ.to b) (HBY.out.take j) (by omega) (by omega))
          have HSV3 := Lib.hid SV3
          clear SJ SV3 KP
          by_cases c1 : (j : Int) < 8
          · go_wp2_with fail
            refine (KPJ.out _ (Below.refl _ _)).mono ?_
            rintro e w9 ⟨rAb, rnb, rcb, rAw, rnw, rcw, he, _, _, _, _, _, _, b9⟩
            rw [HPJ.out] at he
            obtain rfl := he
            dsimp only [rep0]
            have bX9 := (bX2.call b9).new (.cells #[.int .u8 0, .int .u8 0, .slice rAb rnb rcb, .slice rAw rnw rcw, .int .u16 0, .int .u16 0] 49)
            have SV9 := (HSV3.out.to b9).to ((Below.refl _ _).new (.cells #[.int .u8 0, .int .u8 0, .slice rAb rnb rcb, .slice rAw rnw rcw, .int .u16 0, .int .u16 0] 49))
            clear b9
            go_wp2_with fail
            go_roundw
            case rel => exact ⟨j + 1, by omega, by go_num, bX9, SV9⟩
            case measure => simp [intOf]; omega
          · by_cases c2 : (k : Int) - (j : Int) < 5
            · go_wp2_with fail
              refine (KPJ.out _ (Below.refl _ _)).mono ?_
              rintro e w9 ⟨rAb, rnb, rcb, rAw, rnw, rcw, he, _, _, _, _, _, _, b9⟩
              rw [HPJ.out] at he
              obtain rfl := he
              dsimp only [rep0]
              have bX9 := (bX2.call b9).new (.cells #[.int .u8 0, .int .u8 0, .slice rAb rnb rcb, .slice rAw rnw rcw, .int .u16 0, .int .u16 0] 49)
              have SV9 := (HSV3.out.to b9).to ((Below.refl _ _).new (.cells #[.int .u8 0, .int .u8 0, .slice rAb rnb rcb, .slice rAw rnw rcw, .int .u16 0, .int .u16 0] 49))
              clear b9
              go_wp2_with fail
              go_roundw
              case rel => exact ⟨j + 1, by omega, by go_num, bX9, SV9⟩
              case measure => simp [intOf]; omega
            · obtain ⟨q, hq⟩ : ∃ q, q = j % 9 := ⟨_, rfl⟩
              rw [← hq] at ymod ym64
              clear hq
              by_cases c3 : q = 0
              · subst c3
                go_wp2_with fail
                refine (KPJ.out _ (Below.refl _ _)).mono ?_
                rintro e w9 ⟨rAb, rnb, rcb, rAw, rnw, rcw, he, _, _, _, _, _, _, b9⟩
                rw [HPJ.out] at he
                obtain rfl := he
                dsimp only [rep0]
                have bX9 := (bX2.call b9).new (.cells #[.int .u8 0, .int .u8 0, .slice rAb rnb rcb, .slice rAw rnw rcw, .int .u16 0, .int .u16 0] 49)
                have SV9 := (HSV3.out.to b9).to ((Below.refl _ _).new (.cells #[.int .u8 0, .int .u8 0, .slice rAb rnb rcb, .slice rAw rnw rcw, .int .u16 0, .int .u16 0] 49))
                clear b9
                go_wp2_with fail
                go_roundw
                case rel => exact ⟨j + 1, by omega, by go_num, bX9, SV9⟩
                case measure => simp [intOf]; omega
              · have c4 : ((q : Int) == 0) = false := by rw [beq_eq_false_iff_ne]; omega
                go_wp2_with fail
                go_roundw
                case rel => exact ⟨j + 1, by omega, by go_num, bX2, HSV3.out⟩
                case measure => simp [intOf]; omega
        · obtain rfl : j = k := by omega
          have S0 := SV3.to ((Below.refl _ _).new (.cells #[] 5))
          have HSX := HS.out.to bX2
          go_wp2_with (first
            | (at_builtin; refine wpList_app _root_.Go.Proofs.Ytcinnjihghpngaa.AskW.u8 rfl (.tmp 118) (.tmp 119) rfl (Has.made0 (Below.refl wr.heap.size wr) _) rfl S0 rfl (bs_one _) (by have := HLL.out; omega) (by have := HLL.out; simp only [maxLen]; omega) ?_; intro v6 w6 H6 _ _; have SX6 := HSX.to H6.bel)
            | (at_builtin; refine wpList_app _root_.Go.Proofs.Ytcinnjihghpngaa.AskW.u8 rfl (.tmp 120) (.tmp 121) rfl H6 rfl SX6 rfl (bs_one _) (by have := HLL.out; omega) (by have := HLL.out; simp only [maxLen]; omega) ?_; intro v7 w7 H7 _ _; obtain ⟨A7, c7, rfl, hc7, S7, _⟩ := H7.slice; have b7 := H7.bel; clear H7))
          have S8 : Sl w7 w7.heap.size A7 (j + n) (bs (Z ++ xs)) := by
            have := S7
            rw [List.nil_append, bs_append, Nat.zero_add] at this
            exact this
          refine (KP.out _ _ _ _ (Z ++ xs) S8 (Bytes.app HBY.out HX.out) (by omega) (by omega)).mono ?_
          rintro e w9 ⟨rAb, rnb, rcb, rAw, rnw, rcw, he, _, _, _, _, _, _, b9⟩
          by_cases hn0 : n = 0
          · have hx0 : xs = [] := List.eq_nil_of_length_eq_zero (by have := HQ.out; omega)
            rw [hx0, List.append_nil, HPB.out] at he
            obtain rfl := he
            dsimp only
            have hT : ((n : Int) == 0) = true := by rw [hn0]; rfl
            have bZ := ((bX2.call b7).call b9).new (.cells #[.int .u8 (f : Nat), .int .u8 (x : Nat), .slice rAb rnb rcb, .slice rAw rnw rcw, .int .u16 (a : Nat), .int .u16 (m : Nat)] 49)
            clear hn0
            go_wp2_with (go_at_call 29; refine (awake3_any _).mono ?_; rintro e wa ⟨rfl, ba⟩)
            go_ret
            exact ⟨rfl, bZ.call ba⟩
          · have hx0 : xs ≠ [] := fun h => hn0 (by rw [← HQ.out, h]; rfl)
            rw [HPM.out xs hx0] at he
            obtain rfl := he
            dsimp only [rep0]
            have hT : ((n : Int) == 0) = false := by rw [beq_eq_false_iff_ne]; omega
            have bZ := ((bX2.call b7).call b9).new (.cells #[.int .u8 0, .int .u8 0, .slice rAb rnb rcb, .slice rAw rnw rcw, .int .u16 0, .int .u16 0] 49)
            clear hn0
            go_wp2_with (go_at_call 29; refine (awake3_any _).mono ?_; rintro e wa ⟨rfl, ba⟩)
            go_ret
            exact ⟨rfl, bZ.call ba⟩
end Go.Proofs.Ytcinnjihghpngaa.AskW
