/- The walk of MbapWrong. -/
import Derived.Deep.Cut
import Derived.Deep.DeepCutAuto
import Derived.Test.YtofigldbkndjlaaMbM
set_option linter.unusedVariables false
set_option linter.unusedSimpArgs false
namespace Go.Proofs.Ytofigldbkndjlaa.MbW
open Go.RowKit Go.Proofs.Ytofigldbkndjlaa Go.Proofs.Ytofigldbkndjlaa.Mb
theorem cut_packs_then {M : List Fm} (h : ∀ x ∈ M, right x = true) (ho : Oks M) (r : List Nat) : cut (packs M ++ r) = (M ++ frames r, (packs M).length + used r, cutE r) := by
  obtain ⟨h1, h2⟩ := cut_packs h r
  unfold cut
  rw [frames_packs h ho r, used_eq, h1, List.flatten_append, List.length_append, used_eq]
  unfold cutE
  rw [h2]
  rfl
theorem cut_bad {r : List Nat} (h : begins r = false) : frames r = [] ∧ used r = 0 ∧ cutE r = 10 := by
  have hw : whole r = 0 := by unfold whole; rw [if_neg (by rw [h]; simp)]
  obtain ⟨h1, h2⟩ := cut_none hw
  refine ⟨by unfold frames; rw [h1]; rfl, by rw [used_eq, h1]; rfl, ?_⟩
  unfold cutE
  rw [h2, if_neg (by rw [h]; simp)]
/-- The head of a frame, one byte of it turned, as far as that. -/
def hd (at' c : Nat) : List Nat := (([1, 2, 0, 0, 0, 9] : List Nat).set at' c).take (at' + 1)
theorem hd_bad {at' c : Nat} (more : List Nat) (h : (at' = 2 ∨ at' = 3 ∨ at' = 4) ∧ c ≠ 0 ∨ at' = 5 ∧ (c < 2 ∨ 254 < c)) : begins (hd at' c ++ more) = false := by
  rcases h with ⟨rfl | rfl | rfl, h⟩ | ⟨rfl, h⟩
  · exact begins_not (j := 2) (by omega) (by omega) h
  · exact begins_not (j := 3) (by omega) (by omega) h
  · exact begins_not (j := 4) (by omega) (by omega) h
  · have e : begins (hd 5 c ++ more) = decide (2 ≤ c ∧ c ≤ 254) := by
      simp [begins, hd]
      omega
    rw [e]
    exact decide_eq_false (by omega)
set_option maxRecDepth 10000 in
set_option maxHeartbeats 16000000 in
theorem mbapWrong_any (A : Option Addr) (n cl : Nat) (L : List Fm) (q c : Nat) (Am : Option Addr) (nm cm : Nat) (ms : List Nat) (w : World)
    (hF : Fr w A n L (fun _ => True)) (ho : Oks L) (hc : n ≤ cl) (hn : n ≤ 9223372036854775807) (hq : q < 256) (hcb : c < 256) (hs : Sl w w.heap.size Am nm (bs ms)) (hm : Bytes ms) (hcm : nm ≤ cm) :
    Calls Try.prog 6 #[.slice A n cl, .int .u8 (q : Nat), .int .u8 (c : Nat), .slice Am nm cm] w fun e w' => e = .returned (.bool true) ∧ Below w.heap.size w w' := by
  have hl := hF.len
  have KPK := Lib.hid (fun Y (b : Below w.heap.size w Y) h3 => packed_any A n cl L Y (hF.to b) ho h3 hc hn)
  have HF := Lib.hid hF
  have HL := Lib.hid hl
  have HO := Lib.hid (rights_ok ho)
  have HR := Lib.hid (rights_right L)
  have HRL := Lib.hid (rights_len L)
  have HS := Lib.hid hs
  have HM := Lib.hid hm
  clear hF ho hl hs hm
  go_enter Try.func6, Try.ntmps6
  go_wp2_with fail
  go_loopw [21] (fun i wr => ∃ j : Nat, j ≤ n ∧ i = .int .i64 j ∧ Below w.heap.size w wr ∧ Hid (∀ i, i < j → (L[i]?.getD fm0).pdu.length ≤ 300)) (fun i _ => n - (intOf i).toNat)
  case atStart => exact ⟨0, by omega, rfl, Below.refl _ _, fun i hi => by omega⟩
  case round =>
    obtain ⟨j, hj, rfl, bw, HJ⟩ := hrel
    by_cases hlt : j < n
    · have hlt' : (j : Int) < (n : Int) := by omega
      obtain ⟨b, o, rfl, hbb, C, k, cc, d0, d1, d2, SC, -⟩ := (HF.out.to bw).at hlt
      have hk : (L[j]?.getD fm0).pdu.length = k := by have := SC.len; rw [bs_length] at this; exact this
      have HJ1 := Lib.hid (fun (h : k ≤ 300) i (hi : i < j + 1) => show (L[i]?.getD fm0).pdu.length ≤ 300 from by
        by_cases he : i = j
        · rw [he, hk]; exact h
        · exact HJ.out i (by omega))
      obtain ⟨x, hx⟩ : ∃ x, x = L[j]?.getD fm0 := ⟨_, rfl⟩
      rw [← hx] at d0 d1
      clear hx hk SC
      by_cases h300 : (300 : Int) < (k : Int)
      · clear HJ1
        go_wp2_with (go_at_call 7; refine (awake5_any _).mono ?_; rintro e wa ⟨rfl, ba⟩)
        go_ret
        exact ⟨rfl, (bw.new _).call ba⟩
      · have HJ2 := Lib.hid (HJ1.out (by omega))
        clear HJ1
        go_wp2_with fail
        go_roundw
        case rel => exact ⟨j + 1, by omega, by go_num, bw.new _, HJ2⟩
        case measure => simp [intOf]; omega
    · obtain rfl : n = j := by omega
      have H300 := Lib.hid (show ∀ x ∈ L, x.pdu.length ≤ 300 from fun x hx => by
        obtain ⟨i, hi, rfl⟩ := List.mem_iff_getElem.1 hx
        have h := HJ.out i (by rw [← HL.out]; exact hi)
        rw [List.getElem?_eq_getElem hi] at h
        exact h)
      clear HJ hlt hj
      go_wp2_with fail
      refine (KPK.out _ bw H300.out).mono ?_
      rintro e w2 ⟨v, vb, rfl, H1, H2⟩
      obtain ⟨A1, c1, rfl, -, F1⟩ := H1.slice
      obtain ⟨A2, c2, rfl, -, S2, -⟩ := H2.slice
      have bw := bw.call H1.bel
      clear H1 H2 KPK H300
      obtain ⟨M, hM⟩ : ∃ M, M = rights L := ⟨_, rfl⟩
      rw [← hM] at F1 S2 HO HR HRL ⊢
      have HPB := Lib.hid (packs_bytes HR.out HO.out)
      have hpl := packs_len HR.out
      have hpl3 : (packs M).length ≤ 3120 := by have := HRL.out; omega
      have HRL2 : M.length ≤ 12 := HRL.out
      have HCUT := Lib.hid (fun r => cut_packs_then HR.out HO.out r)
      obtain ⟨B, hB⟩ : ∃ B, B = packs M := ⟨_, rfl⟩
      rw [← hB] at S2 HPB hpl3 HCUT ⊢
      have hMm : Bytes (ms.take 3) := HM.out.take 3
      clear hM hB hpl HR HRL
      obtain ⟨a, ha⟩ : ∃ a, a = 2 + q % 4 := ⟨_, rfl⟩
      have ha1 : (2 : Int) + (q : Int) % 4 = (a : Int) := by omega
      have ha2 : 2 + q % 4 = a := ha.symm
      have a2 : 2 ≤ a := by omega
      have a5 : a ≤ 5 := by omega
      have a6 : (a : Int) < 6 := by omega
      have a6n : a < 6 := by omega
      clear ha
      go_upto_region 11 with fail
      obtain ⟨my, hmy⟩ : ∃ my, my = decide ((a < 5 ∧ c = 0) ∨ (a = 5 ∧ 2 ≤ c ∧ c ≤ 254)) := ⟨_, rfl⟩
      have SH0 : Sl (w2.alloc (.cells (([.int .u8 1, .int .u8 2, .int .u8 0, .int .u8 0, .int .u8 0, .int .u8 9] : List Value).set a (.int .u8 (c : Nat))).toArray 5)) (w2.alloc (.cells (([.int .u8 1, .int .u8 2, .int .u8 0, .int .u8 0, .int .u8 0, .int .u8 9] : List Value).set a (.int .u8 (c : Nat))).toArray 5)).heap.size (some ⟨w2.heap.size, 0, none⟩) 6 (bs (([1, 2, 0, 0, 0, 9] : List Nat).set a c)) := by
        have e : (([.int .u8 1, .int .u8 2, .int .u8 0, .int .u8 0, .int .u8 0, .int .u8 9] : List Value).set a (.int .u8 (c : Nat))) = bs (([1, 2, 0, 0, 0, 9] : List Nat).set a c) := by
          unfold bs
          rw [List.map_set]
          rfl
        rw [e]
        have h := bytes_then w2 (([1, 2, 0, 0, 0, 9] : List Nat).set a c) 5 _ rfl
        rw [List.length_set] at h
        exact h
      obtain ⟨W3, hW3⟩ : ∃ W3, W3 = w2.alloc (.cells (([.int .u8 1, .int .u8 2, .int .u8 0, .int .u8 0, .int .u8 0, .int .u8 9] : List Value).set a (.int .u8 (c : Nat))).toArray 5) := ⟨_, rfl⟩
      rw [← hW3] at SH0 ⊢
      have b23 : Below w2.heap.size w2 W3 := by rw [hW3]; exact (Below.refl _ _).new _
      have S2 := S2.to b23
      have F1 := F1.to b23
      have bw := bw.call b23
      have SH := SH0.take (k := a + 1) (by omega)
      rw [bs_take] at SH
      have SM0 := HS.out.to bw
      have hhd : Bytes (hd a c) := fun y hy => by
        have h := List.mem_of_mem_take hy
        rcases List.mem_or_eq_of_mem_set h with h | h
        · simp at h; omega
        · omega
      have wa1 : IntKind.i64.wrap ((a : Int) + 1) = ((a + 1 : Nat) : Int) := by rw [IntKind.wrap_i64]; omega
      have za1 : ((a + 1 : Nat) : Int) ≤ 6 := by omega
      have za1n : a + 1 ≤ 6 := by omega
      have za2 : (0 : Int) ≤ (a : Int) + 1 := by omega
      have za3 : (a : Int) + 1 ≤ 6 := by omega
      clear hW3 SH0 b23 ha1 ha2 hMm
      obtain ⟨g, hg⟩ : ∃ g, g = w2.heap.size := ⟨_, rfl⟩
      rw [← hg] at SH ⊢
      clear hg
      go_cut [15] (fun m wc => m = .bool my ∧ wc = W3)
      case first =>
        clear S2 F1 bw SH SM0
        by_cases g5 : a < 5
        · have i5 : (a : Int) < 5 := by omega
          by_cases c0 : c = 0
          · have T0 : ((c : Int) == 0) = true := by rw [beq_iff_eq]; omega
            have HY := Lib.hid (show my = true from by rw [hmy]; exact decide_eq_true (by omega))
            clear hmy c0
            go_wp2_with fail
            go_meet
            case rel => exact ⟨by rw [HY.out], rfl⟩
          · have T0 : ((c : Int) == 0) = false := by rw [beq_eq_false_iff_ne]; omega
            have T5 : ((a : Int) == 5) = false := by rw [beq_eq_false_iff_ne]; omega
            have HY := Lib.hid (show my = false from by rw [hmy]; exact decide_eq_false (by omega))
            clear hmy c0
            go_wp2_with fail
            go_meet
            case rel => exact ⟨by rw [HY.out], rfl⟩
        · have i5 : ¬ (a : Int) < 5 := by omega
          have i5d : decide ((a : Int) < 5) = false := decide_eq_false i5
          have T5 : ((a : Int) == 5) = true := by rw [beq_iff_eq]; omega
          by_cases c2 : (2 : Int) ≤ (c : Int)
          · have HY := Lib.hid (show decide ((c : Int) ≤ 254) = my from by rw [hmy, decide_eq_decide]; omega)
            clear hmy
            go_wp2_with fail
            go_meet
            case rel => exact ⟨by rw [← HY.out], rfl⟩
          · have HY := Lib.hid (show my = false from by rw [hmy]; exact decide_eq_false (by omega))
            have c2d : decide ((2 : Int) ≤ (c : Int)) = false := decide_eq_false c2
            clear hmy
            go_wp2_with fail
            go_meet
            case rel => exact ⟨by rw [HY.out], rfl⟩
      case rest =>
        obtain ⟨rfl, rfl⟩ := hcut
        cases my
        · by_cases h3 : (nm : Int) ≤ 3
          · have SM := SM0.take (k := nm) (by omega)
            rw [bs_take] at SM
            have hmb : Bytes (ms.take nm) := HM.out.take nm
            have zm : (nm : Int) ≤ (cm : Int) := by omega
            have zmn : nm ≤ cm := by omega
            have hm3 : nm ≤ 3 := by omega
            have h3n : (if (3 : Int) < (nm : Int) then (3 : Int) else (nm : Int)) = (nm : Int) := if_neg (by omega)
            have hrb : Bytes (B ++ (hd a c ++ ms.take nm)) := fun y hy => by
              rcases List.mem_append.1 hy with h | h
              · exact HPB.out y h
              · rcases List.mem_append.1 h with h | h
                · exact hhd y h
                · exact hmb y h
            have hbb := hd_bad (at' := a) (c := c) (ms.take nm) (by have := of_decide_eq_false hmy.symm; omega)
            obtain ⟨x1, x2, x3⟩ := cut_bad hbb
            have HC := HCUT.out (hd a c ++ ms.take nm)
            rw [x1, x2, x3, List.append_nil, Nat.add_zero] at HC
            have HC := Lib.hid HC
            clear x1 x2 x3 hbb
            obtain ⟨T, hT⟩ : ∃ T, T = hd a c ++ ms.take nm := ⟨_, rfl⟩
            rw [← hT] at HC hrb
            have HT := Lib.hid hT
            clear hmy hmb hT SM0
            go_wp2_with fail
            refine wp_region_any (by kernel_rfl) ?_
            change wpAny _ _ _ _ _ _ _ (World.drew _)
            refine wpAny_take (i := 1) (v := ?_) (by simp only [List.getElem?_toArray, List.getElem?_cons_succ, List.getElem?_cons_zero]; rfl) (by kernel_rfl) (by kernel_rfl) (by kernel_rfl) (by exact fun _ _ _ h => h) (Or.inl ⟨by kernel_rfl, ?_⟩) ?_
            rotate_left
            · intro w
              go_simp
              try with_reducible rfl
            simp only [Act.put, List.setIfInBounds_toArray, List.set_cons_zero, List.set_cons_succ]
            refine wpAny_take (i := 3) (v := ?_) (by simp only [List.getElem?_toArray, List.getElem?_cons_succ, List.getElem?_cons_zero]; rfl) (by kernel_rfl) (by kernel_rfl) (by kernel_rfl) (by exact fun _ _ _ h => h) (Or.inl ⟨by kernel_rfl, ?_⟩) ?_
            rotate_left
            · intro w
              go_simp
              try with_reducible rfl
            simp only [Act.put, List.setIfInBounds_toArray, List.set_cons_zero, List.set_cons_succ]
            refine wpAny_take (i := 4) (v := ?_) (by simp only [List.getElem?_toArray, List.getElem?_cons_succ, List.getElem?_cons_zero]; rfl) (by kernel_rfl) (by kernel_rfl) (by kernel_rfl) (by exact fun _ _ _ h => h) (Or.inl ⟨by kernel_rfl, ?_⟩) ?_
            rotate_left
            · intro w
              go_simp
              try with_reducible rfl
            simp only [Act.put, List.setIfInBounds_toArray, List.set_cons_zero, List.set_cons_succ]
            refine wpAny_take (i := 5) (v := ?_) (by simp only [List.getElem?_toArray, List.getElem?_cons_succ, List.getElem?_cons_zero]; rfl) (by kernel_rfl) (by kernel_rfl) (by kernel_rfl) (by exact fun _ _ _ h => h) (Or.inl ⟨by kernel_rfl, ?_⟩) ?_
            rotate_left
            · intro w
              go_simp
              try with_reducible rfl
            simp only [Act.put, List.setIfInBounds_toArray, List.set_cons_zero, List.set_cons_succ]
            refine wpAny_take (i := 6) (v := ?_) (by simp only [List.getElem?_toArray, List.getElem?_cons_succ, List.getElem?_cons_zero]; rfl) (by kernel_rfl) (by kernel_rfl) (by kernel_rfl) (by exact fun _ _ _ h => h) (Or.inl ⟨by kernel_rfl, ?_⟩) ?_
            rotate_left
            · intro w
              go_simp
              try with_reducible rfl
            simp only [Act.put, List.setIfInBounds_toArray, List.set_cons_zero, List.set_cons_succ]
            refine wpAny_take (i := 8) (v := ?_) (by simp only [List.getElem?_toArray, List.getElem?_cons_succ, List.getElem?_cons_zero]; rfl) (by kernel_rfl) (by kernel_rfl) (by kernel_rfl) (by exact fun _ _ _ h => h) (Or.inl ⟨by kernel_rfl, ?_⟩) ?_
            rotate_left
            · intro w
              go_simp
              try with_reducible rfl
            simp only [Act.put, List.setIfInBounds_toArray, List.set_cons_zero, List.set_cons_succ]
            refine wpAny_take (i := 9) (v := ?_) (by simp only [List.getElem?_toArray, List.getElem?_cons_succ, List.getElem?_cons_zero]; rfl) (by kernel_rfl) (by kernel_rfl) (by kernel_rfl) (by exact fun _ _ _ h => h) (Or.inl ⟨by kernel_rfl, ?_⟩) ?_
            rotate_left
            · intro w
              go_simp
              try with_reducible rfl
            simp only [Act.put, List.setIfInBounds_toArray, List.set_cons_zero, List.set_cons_succ]
            refine wpAny_take (i := 10) (v := ?_) (by simp only [List.getElem?_toArray, List.getElem?_cons_succ, List.getElem?_cons_zero]; rfl) (by kernel_rfl) (by kernel_rfl) (by kernel_rfl) (by exact fun _ _ _ h => h) (Or.inl ⟨by kernel_rfl, ?_⟩) ?_
            rotate_left
            · intro w
              go_simp
              try with_reducible rfl
            simp only [Act.put, List.setIfInBounds_toArray, List.set_cons_zero, List.set_cons_succ]
            refine wpAny_take (i := 11) (v := ?_) (by simp only [List.getElem?_toArray, List.getElem?_cons_succ, List.getElem?_cons_zero]; rfl) (by kernel_rfl) (by kernel_rfl) (by kernel_rfl) (by exact fun _ _ _ h => h) (Or.inl ⟨by kernel_rfl, ?_⟩) ?_
            rotate_left
            · intro w
              go_simp
              try with_reducible rfl
            simp only [Act.put, List.setIfInBounds_toArray, List.set_cons_zero, List.set_cons_succ]
            refine wpAny_take (i := 12) (v := ?_) (by simp only [List.getElem?_toArray, List.getElem?_cons_succ, List.getElem?_cons_zero]; rfl) (by kernel_rfl) (by kernel_rfl) (by kernel_rfl) (by exact fun _ _ _ h => h) (Or.inl ⟨by kernel_rfl, ?_⟩) ?_
            rotate_left
            · intro w
              go_simp
              try with_reducible rfl
            simp only [Act.put, List.setIfInBounds_toArray, List.set_cons_zero, List.set_cons_succ]
            refine wpAny_ready (rs := [0]) (by kernel_rfl) (by simp) ?_
            refine AllReady.cons (by simp only [List.getElem?_toArray, List.getElem?_cons_succ, List.getElem?_cons_zero]; rfl) (fun K hK => ?_) AllReady.nil
            go_simp
            refine hK _ _ ?_
            clear hK K
            try simp only [Act.put, List.setIfInBounds_toArray, List.set_cons_zero, List.set_cons_succ]
            refine wpAny_ready (rs := [2]) (by kernel_rfl) (by simp) ?_
            refine AllReady.cons (by simp only [List.getElem?_toArray, List.getElem?_cons_succ, List.getElem?_cons_zero]; rfl) (fun K hK => ?_) AllReady.nil
            refine step_app _root_.Go.Proofs.Ytofigldbkndjlaa.MbW.u8 rfl (.tmp 64) (.tmp 65) rfl (Has.made0 (w0 := wc) (Below.refl _ _).drew _) rfl (S2.to (((Below.refl _ _).drew).new _)) rfl (bs_one _) (by omega) (by simp only [maxLen]; omega) ?_
            intro v4 w4 H4 _ _
            refine hK _ _ ?_
            clear hK K
            try simp only [Act.put, List.setIfInBounds_toArray, List.set_cons_zero, List.set_cons_succ]
            refine wpAny_ready (rs := [7]) (by kernel_rfl) (by simp) ?_
            refine AllReady.cons (by simp only [List.getElem?_toArray, List.getElem?_cons_succ, List.getElem?_cons_zero]; rfl) (fun K hK => ?_) AllReady.nil
            refine step_app _root_.Go.Proofs.Ytofigldbkndjlaa.MbW.u8 rfl (.tmp 66) (.tmp 70) rfl H4 rfl (SH.to H4.bel) rfl (bs_one _) (by omega) (by simp only [maxLen]; omega) ?_
            intro v5 w5 H5 _ _
            refine hK _ _ ?_
            clear hK K
            try simp only [Act.put, List.setIfInBounds_toArray, List.set_cons_zero, List.set_cons_succ]
            refine wpAny_ready (rs := [13]) (by kernel_rfl) (by simp) ?_
            refine AllReady.cons (by simp only [List.getElem?_toArray, List.getElem?_cons_succ, List.getElem?_cons_zero]; rfl) (fun K hK => ?_) AllReady.nil
            refine step_app _root_.Go.Proofs.Ytofigldbkndjlaa.MbW.u8 rfl (.tmp 71) (.tmp 76) rfl H5 rfl (SM.to H5.bel) rfl (bs_one _) (by omega) (by simp only [maxLen]; omega) ?_
            intro v6 w6 H6 _ _
            obtain ⟨A6, c6, rfl, hc6, S6, -⟩ := H6.slice
            refine hK _ _ ?_
            clear hK K
            try simp only [Act.put, List.setIfInBounds_toArray, List.set_cons_zero, List.set_cons_succ]
            refine wpAny_ready (rs := [14]) (by kernel_rfl) (by simp) ?_
            refine AllReady.cons (by simp only [List.getElem?_toArray, List.getElem?_cons_succ, List.getElem?_cons_zero]; rfl) (fun K hK => ?_) AllReady.nil
            go_simp
            go_at_call 14
            refine (cut_any A6 (B.length + (a + 1) + nm) c6 (B ++ T) w6 (by rw [HT.out, ← bs_append, ← bs_append, ← List.append_assoc]; rw [Nat.zero_add] at S6; exact S6) hrb (by omega) (by omega)).mono ?_
            rw [HC.out]
            rintro e w7 ⟨v7, rfl, H7⟩
            have b37 := H6.bel.call H7.bel
            obtain ⟨A7, c7, rfl, -, F7⟩ := H7.slice
            dsimp only at F7 ⊢
            refine hK _ _ ?_
            clear hK K
            try simp only [Act.put, List.setIfInBounds_toArray, List.set_cons_zero, List.set_cons_succ]
            refine wpAny_take (i := 15) (v := ?_) (by simp only [List.getElem?_toArray, List.getElem?_cons_succ, List.getElem?_cons_zero]; rfl) (by kernel_rfl) (by kernel_rfl) (by kernel_rfl) (by exact fun _ _ _ h => h) (Or.inl ⟨by kernel_rfl, ?_⟩) ?_
            rotate_left
            · intro w
              go_simp
              try with_reducible rfl
            simp only [Act.put, List.setIfInBounds_toArray, List.set_cons_zero, List.set_cons_succ]
            refine wpAny_take (i := 16) (v := ?_) (by simp only [List.getElem?_toArray, List.getElem?_cons_succ, List.getElem?_cons_zero]; rfl) (by kernel_rfl) (by kernel_rfl) (by kernel_rfl) (by exact fun _ _ _ h => h) (Or.inl ⟨by kernel_rfl, ?_⟩) ?_
            rotate_left
            · intro w
              go_simp
              try with_reducible rfl
            simp only [Act.put, List.setIfInBounds_toArray, List.set_cons_zero, List.set_cons_succ]
            refine wpAny_take (i := 17) (v := ?_) (by simp only [List.getElem?_toArray, List.getElem?_cons_succ, List.getElem?_cons_zero]; rfl) (by kernel_rfl) (by kernel_rfl) (by kernel_rfl) (by exact fun _ _ _ h => h) (Or.inl ⟨by kernel_rfl, ?_⟩) ?_
            rotate_left
            · intro w
              go_simp
              try with_reducible rfl
            simp only [Act.put, List.setIfInBounds_toArray, List.set_cons_zero, List.set_cons_succ]
            refine wpAny_take (i := 18) (v := ?_) (by simp only [List.getElem?_toArray, List.getElem?_cons_succ, List.getElem?_cons_zero]; rfl) (by kernel_rfl) (by kernel_rfl) (by kernel_rfl) (by exact fun _ _ _ h => h) (Or.inl ⟨by kernel_rfl, ?_⟩) ?_
            rotate_left
            · intro w
              go_simp
              try with_reducible rfl
            simp only [Act.put, List.setIfInBounds_toArray, List.set_cons_zero, List.set_cons_succ]
            refine wpAny_take (i := 19) (v := ?_) (by simp only [List.getElem?_toArray, List.getElem?_cons_succ, List.getElem?_cons_zero]; rfl) (by kernel_rfl) (by kernel_rfl) (by kernel_rfl) (by exact fun _ _ _ h => h) (Or.inl ⟨by kernel_rfl, ?_⟩) ?_
            rotate_left
            · intro w
              go_simp
              try with_reducible rfl
            simp only [Act.put, List.setIfInBounds_toArray, List.set_cons_zero, List.set_cons_succ]
            refine wpAny_take (i := 20) (v := ?_) (by simp only [List.getElem?_toArray, List.getElem?_cons_succ, List.getElem?_cons_zero]; rfl) (by kernel_rfl) (by kernel_rfl) (by kernel_rfl) (by exact fun _ _ _ h => h) (Or.inl ⟨by kernel_rfl, ?_⟩) ?_
            rotate_left
            · intro w
              go_simp
              try with_reducible rfl
            simp only [Act.put, List.setIfInBounds_toArray, List.set_cons_zero, List.set_cons_succ]
            refine wpAny_take (i := 21) (v := ?_) (by simp only [List.getElem?_toArray, List.getElem?_cons_succ, List.getElem?_cons_zero]; rfl) (by kernel_rfl) (by kernel_rfl) (by kernel_rfl) (by exact fun _ _ _ h => h) (Or.inl ⟨by kernel_rfl, ?_⟩) ?_
            rotate_left
            · intro w
              go_simp
              try with_reducible rfl
            simp only [Act.put, List.setIfInBounds_toArray, List.set_cons_zero, List.set_cons_succ]
            refine wpAny_done (by kernel_rfl) ?_ _
            have F1 := F1.to b37
            have bw := bw.call b37
            clear S2 SH SM H6 S6 H7 b37
            go_wp2_with fail
            refine (same_any A7 A1 M.length c7 M.length c1 M M _ _ _ F7 F1 HO.out HO.out (by omega)).mono ?_
            rw [decide_eq_true rfl]
            rintro e w8 ⟨rfl, b8⟩
            have bw := bw.call b8
            go_wp2_with (go_at_call 7; refine (awake5_any _).mono ?_; rintro e wa ⟨rfl, ba⟩)
            go_ret
            exact ⟨rfl, bw.call ba⟩
          · have SM := SM0.take (k := 3) (by omega)
            rw [bs_take] at SM
            have hmb : Bytes (ms.take 3) := HM.out.take 3
            have zm : (3 : Int) ≤ (cm : Int) := by omega
            have zmn : 3 ≤ cm := by omega
            have hm3 : 3 ≤ 3 := by omega
            have hrb : Bytes (B ++ (hd a c ++ ms.take 3)) := fun y hy => by
              rcases List.mem_append.1 hy with h | h
              · exact HPB.out y h
              · rcases List.mem_append.1 h with h | h
                · exact hhd y h
                · exact hmb y h
            have hbb := hd_bad (at' := a) (c := c) (ms.take 3) (by have := of_decide_eq_false hmy.symm; omega)
            obtain ⟨x1, x2, x3⟩ := cut_bad hbb
            have HC := HCUT.out (hd a c ++ ms.take 3)
            rw [x1, x2, x3, List.append_nil, Nat.add_zero] at HC
            have HC := Lib.hid HC
            clear x1 x2 x3 hbb
            obtain ⟨T, hT⟩ : ∃ T, T = hd a c ++ ms.take 3 := ⟨_, rfl⟩
            rw [← hT] at HC hrb
            have HT := Lib.hid hT
            clear hmy hmb hT SM0
            go_wp2_with fail
            refine wp_region_any (by kernel_rfl) ?_
            change wpAny _ _ _ _ _ _ _ (World.drew _)
            refine wpAny_take (i := 1) (v := ?_) (by simp only [List.getElem?_toArray, List.getElem?_cons_succ, List.getElem?_cons_zero]; rfl) (by kernel_rfl) (by kernel_rfl) (by kernel_rfl) (by exact fun _ _ _ h => h) (Or.inl ⟨by kernel_rfl, ?_⟩) ?_
            rotate_left
            · intro w
              go_simp
              try with_reducible rfl
            simp only [Act.put, List.setIfInBounds_toArray, List.set_cons_zero, List.set_cons_succ]
            refine wpAny_take (i := 3) (v := ?_) (by simp only [List.getElem?_toArray, List.getElem?_cons_succ, List.getElem?_cons_zero]; rfl) (by kernel_rfl) (by kernel_rfl) (by kernel_rfl) (by exact fun _ _ _ h => h) (Or.inl ⟨by kernel_rfl, ?_⟩) ?_
            rotate_left
            · intro w
              go_simp
              try with_reducible rfl
            simp only [Act.put, List.setIfInBounds_toArray, List.set_cons_zero, List.set_cons_succ]
            refine wpAny_take (i := 4) (v := ?_) (by simp only [List.getElem?_toArray, List.getElem?_cons_succ, List.getElem?_cons_zero]; rfl) (by kernel_rfl) (by kernel_rfl) (by kernel_rfl) (by exact fun _ _ _ h => h) (Or.inl ⟨by kernel_rfl, ?_⟩) ?_
            rotate_left
            · intro w
              go_simp
              try with_reducible rfl
            simp only [Act.put, List.setIfInBounds_toArray, List.set_cons_zero, List.set_cons_succ]
            refine wpAny_take (i := 5) (v := ?_) (by simp only [List.getElem?_toArray, List.getElem?_cons_succ, List.getElem?_cons_zero]; rfl) (by kernel_rfl) (by kernel_rfl) (by kernel_rfl) (by exact fun _ _ _ h => h) (Or.inl ⟨by kernel_rfl, ?_⟩) ?_
            rotate_left
            · intro w
              go_simp
              try with_reducible rfl
            simp only [Act.put, List.setIfInBounds_toArray, List.set_cons_zero, List.set_cons_succ]
            refine wpAny_take (i := 6) (v := ?_) (by simp only [List.getElem?_toArray, List.getElem?_cons_succ, List.getElem?_cons_zero]; rfl) (by kernel_rfl) (by kernel_rfl) (by kernel_rfl) (by exact fun _ _ _ h => h) (Or.inl ⟨by kernel_rfl, ?_⟩) ?_
            rotate_left
            · intro w
              go_simp
              try with_reducible rfl
            simp only [Act.put, List.setIfInBounds_toArray, List.set_cons_zero, List.set_cons_succ]
            refine wpAny_take (i := 8) (v := ?_) (by simp only [List.getElem?_toArray, List.getElem?_cons_succ, List.getElem?_cons_zero]; rfl) (by kernel_rfl) (by kernel_rfl) (by kernel_rfl) (by exact fun _ _ _ h => h) (Or.inl ⟨by kernel_rfl, ?_⟩) ?_
            rotate_left
            · intro w
              go_simp
              try with_reducible rfl
            simp only [Act.put, List.setIfInBounds_toArray, List.set_cons_zero, List.set_cons_succ]
            refine wpAny_take (i := 9) (v := ?_) (by simp only [List.getElem?_toArray, List.getElem?_cons_succ, List.getElem?_cons_zero]; rfl) (by kernel_rfl) (by kernel_rfl) (by kernel_rfl) (by exact fun _ _ _ h => h) (Or.inl ⟨by kernel_rfl, ?_⟩) ?_
            rotate_left
            · intro w
              go_simp
              try with_reducible rfl
            simp only [Act.put, List.setIfInBounds_toArray, List.set_cons_zero, List.set_cons_succ]
            refine wpAny_take (i := 10) (v := ?_) (by simp only [List.getElem?_toArray, List.getElem?_cons_succ, List.getElem?_cons_zero]; rfl) (by kernel_rfl) (by kernel_rfl) (by kernel_rfl) (by exact fun _ _ _ h => h) (Or.inl ⟨by kernel_rfl, ?_⟩) ?_
            rotate_left
            · intro w
              go_simp
              try with_reducible rfl
            simp only [Act.put, List.setIfInBounds_toArray, List.set_cons_zero, List.set_cons_succ]
            refine wpAny_take (i := 11) (v := ?_) (by simp only [List.getElem?_toArray, List.getElem?_cons_succ, List.getElem?_cons_zero]; rfl) (by kernel_rfl) (by kernel_rfl) (by kernel_rfl) (by exact fun _ _ _ h => h) (Or.inl ⟨by kernel_rfl, ?_⟩) ?_
            rotate_left
            · intro w
              go_simp
              try with_reducible rfl
            simp only [Act.put, List.setIfInBounds_toArray, List.set_cons_zero, List.set_cons_succ]
            refine wpAny_take (i := 12) (v := ?_) (by simp only [List.getElem?_toArray, List.getElem?_cons_succ, List.getElem?_cons_zero]; rfl) (by kernel_rfl) (by kernel_rfl) (by kernel_rfl) (by exact fun _ _ _ h => h) (Or.inl ⟨by kernel_rfl, ?_⟩) ?_
            rotate_left
            · intro w
              go_simp
              try with_reducible rfl
            simp only [Act.put, List.setIfInBounds_toArray, List.set_cons_zero, List.set_cons_succ]
            refine wpAny_ready (rs := [0]) (by kernel_rfl) (by simp) ?_
            refine AllReady.cons (by simp only [List.getElem?_toArray, List.getElem?_cons_succ, List.getElem?_cons_zero]; rfl) (fun K hK => ?_) AllReady.nil
            go_simp
            refine hK _ _ ?_
            clear hK K
            try simp only [Act.put, List.setIfInBounds_toArray, List.set_cons_zero, List.set_cons_succ]
            refine wpAny_ready (rs := [2]) (by kernel_rfl) (by simp) ?_
            refine AllReady.cons (by simp only [List.getElem?_toArray, List.getElem?_cons_succ, List.getElem?_cons_zero]; rfl) (fun K hK => ?_) AllReady.nil
            refine step_app _root_.Go.Proofs.Ytofigldbkndjlaa.MbW.u8 rfl (.tmp 64) (.tmp 65) rfl (Has.made0 (w0 := wc) (Below.refl _ _).drew _) rfl (S2.to (((Below.refl _ _).drew).new _)) rfl (bs_one _) (by omega) (by simp only [maxLen]; omega) ?_
            intro v4 w4 H4 _ _
            refine hK _ _ ?_
            clear hK K
            try simp only [Act.put, List.setIfInBounds_toArray, List.set_cons_zero, List.set_cons_succ]
            refine wpAny_ready (rs := [7]) (by kernel_rfl) (by simp) ?_
            refine AllReady.cons (by simp only [List.getElem?_toArray, List.getElem?_cons_succ, List.getElem?_cons_zero]; rfl) (fun K hK => ?_) AllReady.nil
            refine step_app _root_.Go.Proofs.Ytofigldbkndjlaa.MbW.u8 rfl (.tmp 66) (.tmp 70) rfl H4 rfl (SH.to H4.bel) rfl (bs_one _) (by omega) (by simp only [maxLen]; omega) ?_
            intro v5 w5 H5 _ _
            refine hK _ _ ?_
            clear hK K
            try simp only [Act.put, List.setIfInBounds_toArray, List.set_cons_zero, List.set_cons_succ]
            refine wpAny_ready (rs := [13]) (by kernel_rfl) (by simp) ?_
            refine AllReady.cons (by simp only [List.getElem?_toArray, List.getElem?_cons_succ, List.getElem?_cons_zero]; rfl) (fun K hK => ?_) AllReady.nil
            refine step_app _root_.Go.Proofs.Ytofigldbkndjlaa.MbW.u8 rfl (.tmp 71) (.tmp 76) rfl H5 rfl (SM.to H5.bel) rfl (bs_one _) (by omega) (by simp only [maxLen]; omega) ?_
            intro v6 w6 H6 _ _
            obtain ⟨A6, c6, rfl, hc6, S6, -⟩ := H6.slice
            refine hK _ _ ?_
            clear hK K
            try simp only [Act.put, List.setIfInBounds_toArray, List.set_cons_zero, List.set_cons_succ]
            refine wpAny_ready (rs := [14]) (by kernel_rfl) (by simp) ?_
            refine AllReady.cons (by simp only [List.getElem?_toArray, List.getElem?_cons_succ, List.getElem?_cons_zero]; rfl) (fun K hK => ?_) AllReady.nil
            go_simp
            go_at_call 14
            refine (cut_any A6 (B.length + (a + 1) + 3) c6 (B ++ T) w6 (by rw [HT.out, ← bs_append, ← bs_append, ← List.append_assoc]; rw [Nat.zero_add] at S6; exact S6) hrb (by omega) (by omega)).mono ?_
            rw [HC.out]
            rintro e w7 ⟨v7, rfl, H7⟩
            have b37 := H6.bel.call H7.bel
            obtain ⟨A7, c7, rfl, -, F7⟩ := H7.slice
            dsimp only at F7 ⊢
            refine hK _ _ ?_
            clear hK K
            try simp only [Act.put, List.setIfInBounds_toArray, List.set_cons_zero, List.set_cons_succ]
            refine wpAny_take (i := 15) (v := ?_) (by simp only [List.getElem?_toArray, List.getElem?_cons_succ, List.getElem?_cons_zero]; rfl) (by kernel_rfl) (by kernel_rfl) (by kernel_rfl) (by exact fun _ _ _ h => h) (Or.inl ⟨by kernel_rfl, ?_⟩) ?_
            rotate_left
            · intro w
              go_simp
              try with_reducible rfl
            simp only [Act.put, List.setIfInBounds_toArray, List.set_cons_zero, List.set_cons_succ]
            refine wpAny_take (i := 16) (v := ?_) (by simp only [List.getElem?_toArray, List.getElem?_cons_succ, List.getElem?_cons_zero]; rfl) (by kernel_rfl) (by kernel_rfl) (by kernel_rfl) (by exact fun _ _ _ h => h) (Or.inl ⟨by kernel_rfl, ?_⟩) ?_
            rotate_left
            · intro w
              go_simp
              try with_reducible rfl
            simp only [Act.put, List.setIfInBounds_toArray, List.set_cons_zero, List.set_cons_succ]
            refine wpAny_take (i := 17) (v := ?_) (by simp only [List.getElem?_toArray, List.getElem?_cons_succ, List.getElem?_cons_zero]; rfl) (by kernel_rfl) (by kernel_rfl) (by kernel_rfl) (by exact fun _ _ _ h => h) (Or.inl ⟨by kernel_rfl, ?_⟩) ?_
            rotate_left
            · intro w
              go_simp
              try with_reducible rfl
            simp only [Act.put, List.setIfInBounds_toArray, List.set_cons_zero, List.set_cons_succ]
            refine wpAny_take (i := 18) (v := ?_) (by simp only [List.getElem?_toArray, List.getElem?_cons_succ, List.getElem?_cons_zero]; rfl) (by kernel_rfl) (by kernel_rfl) (by kernel_rfl) (by exact fun _ _ _ h => h) (Or.inl ⟨by kernel_rfl, ?_⟩) ?_
            rotate_left
            · intro w
              go_simp
              try with_reducible rfl
            simp only [Act.put, List.setIfInBounds_toArray, List.set_cons_zero, List.set_cons_succ]
            refine wpAny_take (i := 19) (v := ?_) (by simp only [List.getElem?_toArray, List.getElem?_cons_succ, List.getElem?_cons_zero]; rfl) (by kernel_rfl) (by kernel_rfl) (by kernel_rfl) (by exact fun _ _ _ h => h) (Or.inl ⟨by kernel_rfl, ?_⟩) ?_
            rotate_left
            · intro w
              go_simp
              try with_reducible rfl
            simp only [Act.put, List.setIfInBounds_toArray, List.set_cons_zero, List.set_cons_succ]
            refine wpAny_take (i := 20) (v := ?_) (by simp only [List.getElem?_toArray, List.getElem?_cons_succ, List.getElem?_cons_zero]; rfl) (by kernel_rfl) (by kernel_rfl) (by kernel_rfl) (by exact fun _ _ _ h => h) (Or.inl ⟨by kernel_rfl, ?_⟩) ?_
            rotate_left
            · intro w
              go_simp
              try with_reducible rfl
            simp only [Act.put, List.setIfInBounds_toArray, List.set_cons_zero, List.set_cons_succ]
            refine wpAny_take (i := 21) (v := ?_) (by simp only [List.getElem?_toArray, List.getElem?_cons_succ, List.getElem?_cons_zero]; rfl) (by kernel_rfl) (by kernel_rfl) (by kernel_rfl) (by exact fun _ _ _ h => h) (Or.inl ⟨by kernel_rfl, ?_⟩) ?_
            rotate_left
            · intro w
              go_simp
              try with_reducible rfl
            simp only [Act.put, List.setIfInBounds_toArray, List.set_cons_zero, List.set_cons_succ]
            refine wpAny_done (by kernel_rfl) ?_ _
            have F1 := F1.to b37
            have bw := bw.call b37
            clear S2 SH SM H6 S6 H7 b37
            go_wp2_with fail
            refine (same_any A7 A1 M.length c7 M.length c1 M M _ _ _ F7 F1 HO.out HO.out (by omega)).mono ?_
            rw [decide_eq_true rfl]
            rintro e w8 ⟨rfl, b8⟩
            have bw := bw.call b8
            go_wp2_with (go_at_call 7; refine (awake5_any _).mono ?_; rintro e wa ⟨rfl, ba⟩)
            go_ret
            exact ⟨rfl, bw.call ba⟩
        · by_cases h3 : (nm : Int) ≤ 3
          · have SM := SM0.take (k := nm) (by omega)
            rw [bs_take] at SM
            have hmb : Bytes (ms.take nm) := HM.out.take nm
            have zm : (nm : Int) ≤ (cm : Int) := by omega
            have zmn : nm ≤ cm := by omega
            have hm3 : nm ≤ 3 := by omega
            have h3n : (if (3 : Int) < (nm : Int) then (3 : Int) else (nm : Int)) = (nm : Int) := if_neg (by omega)
            have hrb : Bytes (B ++ (hd a c ++ ms.take nm)) := fun y hy => by
              rcases List.mem_append.1 hy with h | h
              · exact HPB.out y h
              · rcases List.mem_append.1 h with h | h
                · exact hhd y h
                · exact hmb y h
            have HC0 := HCUT.out (hd a c ++ ms.take nm)
            obtain ⟨fr, hfr⟩ : ∃ fr, fr = M ++ frames (hd a c ++ ms.take nm) := ⟨_, rfl⟩
            obtain ⟨ur, hur⟩ : ∃ ur, ur = B.length + used (hd a c ++ ms.take nm) := ⟨_, rfl⟩
            obtain ⟨er, her⟩ : ∃ er, er = cutE (hd a c ++ ms.take nm) := ⟨_, rfl⟩
            have tU : (B.length : Int) ≤ (ur : Int) := by omega
            have tG : (M.length : Int) ≤ (fr.length : Int) := by rw [hfr, List.length_append]; omega
            rw [← hfr, ← hur, ← her] at HC0
            have HC := Lib.hid HC0
            clear HC0 hfr hur her
            obtain ⟨T, hT⟩ : ∃ T, T = hd a c ++ ms.take nm := ⟨_, rfl⟩
            rw [← hT] at HC hrb
            have HT := Lib.hid hT
            clear hmy hmb hT SM0
            go_wp2_with fail
            refine wp_region_any (by kernel_rfl) ?_
            change wpAny _ _ _ _ _ _ _ (World.drew _)
            refine wpAny_take (i := 1) (v := ?_) (by simp only [List.getElem?_toArray, List.getElem?_cons_succ, List.getElem?_cons_zero]; rfl) (by kernel_rfl) (by kernel_rfl) (by kernel_rfl) (by exact fun _ _ _ h => h) (Or.inl ⟨by kernel_rfl, ?_⟩) ?_
            rotate_left
            · intro w
              go_simp
              try with_reducible rfl
            simp only [Act.put, List.setIfInBounds_toArray, List.set_cons_zero, List.set_cons_succ]
            refine wpAny_take (i := 3) (v := ?_) (by simp only [List.getElem?_toArray, List.getElem?_cons_succ, List.getElem?_cons_zero]; rfl) (by kernel_rfl) (by kernel_rfl) (by kernel_rfl) (by exact fun _ _ _ h => h) (Or.inl ⟨by kernel_rfl, ?_⟩) ?_
            rotate_left
            · intro w
              go_simp
              try with_reducible rfl
            simp only [Act.put, List.setIfInBounds_toArray, List.set_cons_zero, List.set_cons_succ]
            refine wpAny_take (i := 4) (v := ?_) (by simp only [List.getElem?_toArray, List.getElem?_cons_succ, List.getElem?_cons_zero]; rfl) (by kernel_rfl) (by kernel_rfl) (by kernel_rfl) (by exact fun _ _ _ h => h) (Or.inl ⟨by kernel_rfl, ?_⟩) ?_
            rotate_left
            · intro w
              go_simp
              try with_reducible rfl
            simp only [Act.put, List.setIfInBounds_toArray, List.set_cons_zero, List.set_cons_succ]
            refine wpAny_take (i := 5) (v := ?_) (by simp only [List.getElem?_toArray, List.getElem?_cons_succ, List.getElem?_cons_zero]; rfl) (by kernel_rfl) (by kernel_rfl) (by kernel_rfl) (by exact fun _ _ _ h => h) (Or.inl ⟨by kernel_rfl, ?_⟩) ?_
            rotate_left
            · intro w
              go_simp
              try with_reducible rfl
            simp only [Act.put, List.setIfInBounds_toArray, List.set_cons_zero, List.set_cons_succ]
            refine wpAny_take (i := 6) (v := ?_) (by simp only [List.getElem?_toArray, List.getElem?_cons_succ, List.getElem?_cons_zero]; rfl) (by kernel_rfl) (by kernel_rfl) (by kernel_rfl) (by exact fun _ _ _ h => h) (Or.inl ⟨by kernel_rfl, ?_⟩) ?_
            rotate_left
            · intro w
              go_simp
              try with_reducible rfl
            simp only [Act.put, List.setIfInBounds_toArray, List.set_cons_zero, List.set_cons_succ]
            refine wpAny_take (i := 8) (v := ?_) (by simp only [List.getElem?_toArray, List.getElem?_cons_succ, List.getElem?_cons_zero]; rfl) (by kernel_rfl) (by kernel_rfl) (by kernel_rfl) (by exact fun _ _ _ h => h) (Or.inl ⟨by kernel_rfl, ?_⟩) ?_
            rotate_left
            · intro w
              go_simp
              try with_reducible rfl
            simp only [Act.put, List.setIfInBounds_toArray, List.set_cons_zero, List.set_cons_succ]
            refine wpAny_take (i := 9) (v := ?_) (by simp only [List.getElem?_toArray, List.getElem?_cons_succ, List.getElem?_cons_zero]; rfl) (by kernel_rfl) (by kernel_rfl) (by kernel_rfl) (by exact fun _ _ _ h => h) (Or.inl ⟨by kernel_rfl, ?_⟩) ?_
            rotate_left
            · intro w
              go_simp
              try with_reducible rfl
            simp only [Act.put, List.setIfInBounds_toArray, List.set_cons_zero, List.set_cons_succ]
            refine wpAny_take (i := 10) (v := ?_) (by simp only [List.getElem?_toArray, List.getElem?_cons_succ, List.getElem?_cons_zero]; rfl) (by kernel_rfl) (by kernel_rfl) (by kernel_rfl) (by exact fun _ _ _ h => h) (Or.inl ⟨by kernel_rfl, ?_⟩) ?_
            rotate_left
            · intro w
              go_simp
              try with_reducible rfl
            simp only [Act.put, List.setIfInBounds_toArray, List.set_cons_zero, List.set_cons_succ]
            refine wpAny_take (i := 11) (v := ?_) (by simp only [List.getElem?_toArray, List.getElem?_cons_succ, List.getElem?_cons_zero]; rfl) (by kernel_rfl) (by kernel_rfl) (by kernel_rfl) (by exact fun _ _ _ h => h) (Or.inl ⟨by kernel_rfl, ?_⟩) ?_
            rotate_left
            · intro w
              go_simp
              try with_reducible rfl
            simp only [Act.put, List.setIfInBounds_toArray, List.set_cons_zero, List.set_cons_succ]
            refine wpAny_take (i := 12) (v := ?_) (by simp only [List.getElem?_toArray, List.getElem?_cons_succ, List.getElem?_cons_zero]; rfl) (by kernel_rfl) (by kernel_rfl) (by kernel_rfl) (by exact fun _ _ _ h => h) (Or.inl ⟨by kernel_rfl, ?_⟩) ?_
            rotate_left
            · intro w
              go_simp
              try with_reducible rfl
            simp only [Act.put, List.setIfInBounds_toArray, List.set_cons_zero, List.set_cons_succ]
            refine wpAny_ready (rs := [0]) (by kernel_rfl) (by simp) ?_
            refine AllReady.cons (by simp only [List.getElem?_toArray, List.getElem?_cons_succ, List.getElem?_cons_zero]; rfl) (fun K hK => ?_) AllReady.nil
            go_simp
            refine hK _ _ ?_
            clear hK K
            try simp only [Act.put, List.setIfInBounds_toArray, List.set_cons_zero, List.set_cons_succ]
            refine wpAny_ready (rs := [2]) (by kernel_rfl) (by simp) ?_
            refine AllReady.cons (by simp only [List.getElem?_toArray, List.getElem?_cons_succ, List.getElem?_cons_zero]; rfl) (fun K hK => ?_) AllReady.nil
            refine step_app _root_.Go.Proofs.Ytofigldbkndjlaa.MbW.u8 rfl (.tmp 64) (.tmp 65) rfl (Has.made0 (w0 := wc) (Below.refl _ _).drew _) rfl (S2.to (((Below.refl _ _).drew).new _)) rfl (bs_one _) (by omega) (by simp only [maxLen]; omega) ?_
            intro v4 w4 H4 _ _
            refine hK _ _ ?_
            clear hK K
            try simp only [Act.put, List.setIfInBounds_toArray, List.set_cons_zero, List.set_cons_succ]
            refine wpAny_ready (rs := [7]) (by kernel_rfl) (by simp) ?_
            refine AllReady.cons (by simp only [List.getElem?_toArray, List.getElem?_cons_succ, List.getElem?_cons_zero]; rfl) (fun K hK => ?_) AllReady.nil
            refine step_app _root_.Go.Proofs.Ytofigldbkndjlaa.MbW.u8 rfl (.tmp 66) (.tmp 70) rfl H4 rfl (SH.to H4.bel) rfl (bs_one _) (by omega) (by simp only [maxLen]; omega) ?_
            intro v5 w5 H5 _ _
            refine hK _ _ ?_
            clear hK K
            try simp only [Act.put, List.setIfInBounds_toArray, List.set_cons_zero, List.set_cons_succ]
            refine wpAny_ready (rs := [13]) (by kernel_rfl) (by simp) ?_
            refine AllReady.cons (by simp only [List.getElem?_toArray, List.getElem?_cons_succ, List.getElem?_cons_zero]; rfl) (fun K hK => ?_) AllReady.nil
            refine step_app _root_.Go.Proofs.Ytofigldbkndjlaa.MbW.u8 rfl (.tmp 71) (.tmp 76) rfl H5 rfl (SM.to H5.bel) rfl (bs_one _) (by omega) (by simp only [maxLen]; omega) ?_
            intro v6 w6 H6 _ _
            obtain ⟨A6, c6, rfl, hc6, S6, -⟩ := H6.slice
            refine hK _ _ ?_
            clear hK K
            try simp only [Act.put, List.setIfInBounds_toArray, List.set_cons_zero, List.set_cons_succ]
            refine wpAny_ready (rs := [14]) (by kernel_rfl) (by simp) ?_
            refine AllReady.cons (by simp only [List.getElem?_toArray, List.getElem?_cons_succ, List.getElem?_cons_zero]; rfl) (fun K hK => ?_) AllReady.nil
            go_simp
            go_at_call 14
            refine (cut_any A6 (B.length + (a + 1) + nm) c6 (B ++ T) w6 (by rw [HT.out, ← bs_append, ← bs_append, ← List.append_assoc]; rw [Nat.zero_add] at S6; exact S6) hrb (by omega) (by omega)).mono ?_
            rw [HC.out]
            rintro e w7 ⟨v7, rfl, H7⟩
            have b37 := H6.bel.call H7.bel
            obtain ⟨A7, c7, rfl, -, F7⟩ := H7.slice
            dsimp only at F7 ⊢
            refine hK _ _ ?_
            clear hK K
            try simp only [Act.put, List.setIfInBounds_toArray, List.set_cons_zero, List.set_cons_succ]
            refine wpAny_take (i := 15) (v := ?_) (by simp only [List.getElem?_toArray, List.getElem?_cons_succ, List.getElem?_cons_zero]; rfl) (by kernel_rfl) (by kernel_rfl) (by kernel_rfl) (by exact fun _ _ _ h => h) (Or.inl ⟨by kernel_rfl, ?_⟩) ?_
            rotate_left
            · intro w
              go_simp
              try with_reducible rfl
            simp only [Act.put, List.setIfInBounds_toArray, List.set_cons_zero, List.set_cons_succ]
            refine wpAny_take (i := 16) (v := ?_) (by simp only [List.getElem?_toArray, List.getElem?_cons_succ, List.getElem?_cons_zero]; rfl) (by kernel_rfl) (by kernel_rfl) (by kernel_rfl) (by exact fun _ _ _ h => h) (Or.inl ⟨by kernel_rfl, ?_⟩) ?_
            rotate_left
            · intro w
              go_simp
              try with_reducible rfl
            simp only [Act.put, List.setIfInBounds_toArray, List.set_cons_zero, List.set_cons_succ]
            refine wpAny_take (i := 17) (v := ?_) (by simp only [List.getElem?_toArray, List.getElem?_cons_succ, List.getElem?_cons_zero]; rfl) (by kernel_rfl) (by kernel_rfl) (by kernel_rfl) (by exact fun _ _ _ h => h) (Or.inl ⟨by kernel_rfl, ?_⟩) ?_
            rotate_left
            · intro w
              go_simp
              try with_reducible rfl
            simp only [Act.put, List.setIfInBounds_toArray, List.set_cons_zero, List.set_cons_succ]
            refine wpAny_take (i := 18) (v := ?_) (by simp only [List.getElem?_toArray, List.getElem?_cons_succ, List.getElem?_cons_zero]; rfl) (by kernel_rfl) (by kernel_rfl) (by kernel_rfl) (by exact fun _ _ _ h => h) (Or.inl ⟨by kernel_rfl, ?_⟩) ?_
            rotate_left
            · intro w
              go_simp
              try with_reducible rfl
            simp only [Act.put, List.setIfInBounds_toArray, List.set_cons_zero, List.set_cons_succ]
            refine wpAny_take (i := 19) (v := ?_) (by simp only [List.getElem?_toArray, List.getElem?_cons_succ, List.getElem?_cons_zero]; rfl) (by kernel_rfl) (by kernel_rfl) (by kernel_rfl) (by exact fun _ _ _ h => h) (Or.inl ⟨by kernel_rfl, ?_⟩) ?_
            rotate_left
            · intro w
              go_simp
              try with_reducible rfl
            simp only [Act.put, List.setIfInBounds_toArray, List.set_cons_zero, List.set_cons_succ]
            refine wpAny_take (i := 20) (v := ?_) (by simp only [List.getElem?_toArray, List.getElem?_cons_succ, List.getElem?_cons_zero]; rfl) (by kernel_rfl) (by kernel_rfl) (by kernel_rfl) (by exact fun _ _ _ h => h) (Or.inl ⟨by kernel_rfl, ?_⟩) ?_
            rotate_left
            · intro w
              go_simp
              try with_reducible rfl
            simp only [Act.put, List.setIfInBounds_toArray, List.set_cons_zero, List.set_cons_succ]
            refine wpAny_take (i := 21) (v := ?_) (by simp only [List.getElem?_toArray, List.getElem?_cons_succ, List.getElem?_cons_zero]; rfl) (by kernel_rfl) (by kernel_rfl) (by kernel_rfl) (by exact fun _ _ _ h => h) (Or.inl ⟨by kernel_rfl, ?_⟩) ?_
            rotate_left
            · intro w
              go_simp
              try with_reducible rfl
            simp only [Act.put, List.setIfInBounds_toArray, List.set_cons_zero, List.set_cons_succ]
            refine wpAny_done (by kernel_rfl) ?_ _
            have F1 := F1.to b37
            have bw := bw.call b37
            clear S2 SH SM H6 S6 H7 b37
            go_wp2_with (go_at_call 7; refine (awake5_any _).mono ?_; rintro e wa ⟨rfl, ba⟩)
            go_ret
            exact ⟨rfl, bw.call ba⟩
          · have SM := SM0.take (k := 3) (by omega)
            rw [bs_take] at SM
            have hmb : Bytes (ms.take 3) := HM.out.take 3
            have zm : (3 : Int) ≤ (cm : Int) := by omega
            have zmn : 3 ≤ cm := by omega
            have hm3 : 3 ≤ 3 := by omega
            have hrb : Bytes (B ++ (hd a c ++ ms.take 3)) := fun y hy => by
              rcases List.mem_append.1 hy with h | h
              · exact HPB.out y h
              · rcases List.mem_append.1 h with h | h
                · exact hhd y h
                · exact hmb y h
            have HC0 := HCUT.out (hd a c ++ ms.take 3)
            obtain ⟨fr, hfr⟩ : ∃ fr, fr = M ++ frames (hd a c ++ ms.take 3) := ⟨_, rfl⟩
            obtain ⟨ur, hur⟩ : ∃ ur, ur = B.length + used (hd a c ++ ms.take 3) := ⟨_, rfl⟩
            obtain ⟨er, her⟩ : ∃ er, er = cutE (hd a c ++ ms.take 3) := ⟨_, rfl⟩
            have tU : (B.length : Int) ≤ (ur : Int) := by omega
            have tG : (M.length : Int) ≤ (fr.length : Int) := by rw [hfr, List.length_append]; omega
            rw [← hfr, ← hur, ← her] at HC0
            have HC := Lib.hid HC0
            clear HC0 hfr hur her
            obtain ⟨T, hT⟩ : ∃ T, T = hd a c ++ ms.take 3 := ⟨_, rfl⟩
            rw [← hT] at HC hrb
            have HT := Lib.hid hT
            clear hmy hmb hT SM0
            go_wp2_with fail
            refine wp_region_any (by kernel_rfl) ?_
            change wpAny _ _ _ _ _ _ _ (World.drew _)
            refine wpAny_take (i := 1) (v := ?_) (by simp only [List.getElem?_toArray, List.getElem?_cons_succ, List.getElem?_cons_zero]; rfl) (by kernel_rfl) (by kernel_rfl) (by kernel_rfl) (by exact fun _ _ _ h => h) (Or.inl ⟨by kernel_rfl, ?_⟩) ?_
            rotate_left
            · intro w
              go_simp
              try with_reducible rfl
            simp only [Act.put, List.setIfInBounds_toArray, List.set_cons_zero, List.set_cons_succ]
            refine wpAny_take (i := 3) (v := ?_) (by simp only [List.getElem?_toArray, List.getElem?_cons_succ, List.getElem?_cons_zero]; rfl) (by kernel_rfl) (by kernel_rfl) (by kernel_rfl) (by exact fun _ _ _ h => h) (Or.inl ⟨by kernel_rfl, ?_⟩) ?_
            rotate_left
            · intro w
              go_simp
              try with_reducible rfl
            simp only [Act.put, List.setIfInBounds_toArray, List.set_cons_zero, List.set_cons_succ]
            refine wpAny_take (i := 4) (v := ?_) (by simp only [List.getElem?_toArray, List.getElem?_cons_succ, List.getElem?_cons_zero]; rfl) (by kernel_rfl) (by kernel_rfl) (by kernel_rfl) (by exact fun _ _ _ h => h) (Or.inl ⟨by kernel_rfl, ?_⟩) ?_
            rotate_left
            · intro w
              go_simp
              try with_reducible rfl
            simp only [Act.put, List.setIfInBounds_toArray, List.set_cons_zero, List.set_cons_succ]
            refine wpAny_take (i := 5) (v := ?_) (by simp only [List.getElem?_toArray, List.getElem?_cons_succ, List.getElem?_cons_zero]; rfl) (by kernel_rfl) (by kernel_rfl) (by kernel_rfl) (by exact fun _ _ _ h => h) (Or.inl ⟨by kernel_rfl, ?_⟩) ?_
            rotate_left
            · intro w
              go_simp
              try with_reducible rfl
            simp only [Act.put, List.setIfInBounds_toArray, List.set_cons_zero, List.set_cons_succ]
            refine wpAny_take (i := 6) (v := ?_) (by simp only [List.getElem?_toArray, List.getElem?_cons_succ, List.getElem?_cons_zero]; rfl) (by kernel_rfl) (by kernel_rfl) (by kernel_rfl) (by exact fun _ _ _ h => h) (Or.inl ⟨by kernel_rfl, ?_⟩) ?_
            rotate_left
            · intro w
              go_simp
              try with_reducible rfl
            simp only [Act.put, List.setIfInBounds_toArray, List.set_cons_zero, List.set_cons_succ]
            refine wpAny_take (i := 8) (v := ?_) (by simp only [List.getElem?_toArray, List.getElem?_cons_succ, List.getElem?_cons_zero]; rfl) (by kernel_rfl) (by kernel_rfl) (by kernel_rfl) (by exact fun _ _ _ h => h) (Or.inl ⟨by kernel_rfl, ?_⟩) ?_
            rotate_left
            · intro w
              go_simp
              try with_reducible rfl
            simp only [Act.put, List.setIfInBounds_toArray, List.set_cons_zero, List.set_cons_succ]
            refine wpAny_take (i := 9) (v := ?_) (by simp only [List.getElem?_toArray, List.getElem?_cons_succ, List.getElem?_cons_zero]; rfl) (by kernel_rfl) (by kernel_rfl) (by kernel_rfl) (by exact fun _ _ _ h => h) (Or.inl ⟨by kernel_rfl, ?_⟩) ?_
            rotate_left
            · intro w
              go_simp
              try with_reducible rfl
            simp only [Act.put, List.setIfInBounds_toArray, List.set_cons_zero, List.set_cons_succ]
            refine wpAny_take (i := 10) (v := ?_) (by simp only [List.getElem?_toArray, List.getElem?_cons_succ, List.getElem?_cons_zero]; rfl) (by kernel_rfl) (by kernel_rfl) (by kernel_rfl) (by exact fun _ _ _ h => h) (Or.inl ⟨by kernel_rfl, ?_⟩) ?_
            rotate_left
            · intro w
              go_simp
              try with_reducible rfl
            simp only [Act.put, List.setIfInBounds_toArray, List.set_cons_zero, List.set_cons_succ]
            refine wpAny_take (i := 11) (v := ?_) (by simp only [List.getElem?_toArray, List.getElem?_cons_succ, List.getElem?_cons_zero]; rfl) (by kernel_rfl) (by kernel_rfl) (by kernel_rfl) (by exact fun _ _ _ h => h) (Or.inl ⟨by kernel_rfl, ?_⟩) ?_
            rotate_left
            · intro w
              go_simp
              try with_reducible rfl
            simp only [Act.put, List.setIfInBounds_toArray, List.set_cons_zero, List.set_cons_succ]
            refine wpAny_take (i := 12) (v := ?_) (by simp only [List.getElem?_toArray, List.getElem?_cons_succ, List.getElem?_cons_zero]; rfl) (by kernel_rfl) (by kernel_rfl) (by kernel_rfl) (by exact fun _ _ _ h => h) (Or.inl ⟨by kernel_rfl, ?_⟩) ?_
            rotate_left
            · intro w
              go_simp
              try with_reducible rfl
            simp only [Act.put, List.setIfInBounds_toArray, List.set_cons_zero, List.set_cons_succ]
            refine wpAny_ready (rs := [0]) (by kernel_rfl) (by simp) ?_
            refine AllReady.cons (by simp only [List.getElem?_toArray, List.getElem?_cons_succ, List.getElem?_cons_zero]; rfl) (fun K hK => ?_) AllReady.nil
            go_simp
            refine hK _ _ ?_
            clear hK K
            try simp only [Act.put, List.setIfInBounds_toArray, List.set_cons_zero, List.set_cons_succ]
            refine wpAny_ready (rs := [2]) (by kernel_rfl) (by simp) ?_
            refine AllReady.cons (by simp only [List.getElem?_toArray, List.getElem?_cons_succ, List.getElem?_cons_zero]; rfl) (fun K hK => ?_) AllReady.nil
            refine step_app _root_.Go.Proofs.Ytofigldbkndjlaa.MbW.u8 rfl (.tmp 64) (.tmp 65) rfl (Has.made0 (w0 := wc) (Below.refl _ _).drew _) rfl (S2.to (((Below.refl _ _).drew).new _)) rfl (bs_one _) (by omega) (by simp only [maxLen]; omega) ?_
            intro v4 w4 H4 _ _
            refine hK _ _ ?_
            clear hK K
            try simp only [Act.put, List.setIfInBounds_toArray, List.set_cons_zero, List.set_cons_succ]
            refine wpAny_ready (rs := [7]) (by kernel_rfl) (by simp) ?_
            refine AllReady.cons (by simp only [List.getElem?_toArray, List.getElem?_cons_succ, List.getElem?_cons_zero]; rfl) (fun K hK => ?_) AllReady.nil
            refine step_app _root_.Go.Proofs.Ytofigldbkndjlaa.MbW.u8 rfl (.tmp 66) (.tmp 70) rfl H4 rfl (SH.to H4.bel) rfl (bs_one _) (by omega) (by simp only [maxLen]; omega) ?_
            intro v5 w5 H5 _ _
            refine hK _ _ ?_
            clear hK K
            try simp only [Act.put, List.setIfInBounds_toArray, List.set_cons_zero, List.set_cons_succ]
            refine wpAny_ready (rs := [13]) (by kernel_rfl) (by simp) ?_
            refine AllReady.cons (by simp only [List.getElem?_toArray, List.getElem?_cons_succ, List.getElem?_cons_zero]; rfl) (fun K hK => ?_) AllReady.nil
            refine step_app _root_.Go.Proofs.Ytofigldbkndjlaa.MbW.u8 rfl (.tmp 71) (.tmp 76) rfl H5 rfl (SM.to H5.bel) rfl (bs_one _) (by omega) (by simp only [maxLen]; omega) ?_
            intro v6 w6 H6 _ _
            obtain ⟨A6, c6, rfl, hc6, S6, -⟩ := H6.slice
            refine hK _ _ ?_
            clear hK K
            try simp only [Act.put, List.setIfInBounds_toArray, List.set_cons_zero, List.set_cons_succ]
            refine wpAny_ready (rs := [14]) (by kernel_rfl) (by simp) ?_
            refine AllReady.cons (by simp only [List.getElem?_toArray, List.getElem?_cons_succ, List.getElem?_cons_zero]; rfl) (fun K hK => ?_) AllReady.nil
            go_simp
            go_at_call 14
            refine (cut_any A6 (B.length + (a + 1) + 3) c6 (B ++ T) w6 (by rw [HT.out, ← bs_append, ← bs_append, ← List.append_assoc]; rw [Nat.zero_add] at S6; exact S6) hrb (by omega) (by omega)).mono ?_
            rw [HC.out]
            rintro e w7 ⟨v7, rfl, H7⟩
            have b37 := H6.bel.call H7.bel
            obtain ⟨A7, c7, rfl, -, F7⟩ := H7.slice
            dsimp only at F7 ⊢
            refine hK _ _ ?_
            clear hK K
            try simp only [Act.put, List.setIfInBounds_toArray, List.set_cons_zero, List.set_cons_succ]
            refine wpAny_take (i := 15) (v := ?_) (by simp only [List.getElem?_toArray, List.getElem?_cons_succ, List.getElem?_cons_zero]; rfl) (by kernel_rfl) (by kernel_rfl) (by kernel_rfl) (by exact fun _ _ _ h => h) (Or.inl ⟨by kernel_rfl, ?_⟩) ?_
            rotate_left
            · intro w
              go_simp
              try with_reducible rfl
            simp only [Act.put, List.setIfInBounds_toArray, List.set_cons_zero, List.set_cons_succ]
            refine wpAny_take (i := 16) (v := ?_) (by simp only [List.getElem?_toArray, List.getElem?_cons_succ, List.getElem?_cons_zero]; rfl) (by kernel_rfl) (by kernel_rfl) (by kernel_rfl) (by exact fun _ _ _ h => h) (Or.inl ⟨by kernel_rfl, ?_⟩) ?_
            rotate_left
            · intro w
              go_simp
              try with_reducible rfl
            simp only [Act.put, List.setIfInBounds_toArray, List.set_cons_zero, List.set_cons_succ]
            refine wpAny_take (i := 17) (v := ?_) (by simp only [List.getElem?_toArray, List.getElem?_cons_succ, List.getElem?_cons_zero]; rfl) (by kernel_rfl) (by kernel_rfl) (by kernel_rfl) (by exact fun _ _ _ h => h) (Or.inl ⟨by kernel_rfl, ?_⟩) ?_
            rotate_left
            · intro w
              go_simp
              try with_reducible rfl
            simp only [Act.put, List.setIfInBounds_toArray, List.set_cons_zero, List.set_cons_succ]
            refine wpAny_take (i := 18) (v := ?_) (by simp only [List.getElem?_toArray, List.getElem?_cons_succ, List.getElem?_cons_zero]; rfl) (by kernel_rfl) (by kernel_rfl) (by kernel_rfl) (by exact fun _ _ _ h => h) (Or.inl ⟨by kernel_rfl, ?_⟩) ?_
            rotate_left
            · intro w
              go_simp
              try with_reducible rfl
            simp only [Act.put, List.setIfInBounds_toArray, List.set_cons_zero, List.set_cons_succ]
            refine wpAny_take (i := 19) (v := ?_) (by simp only [List.getElem?_toArray, List.getElem?_cons_succ, List.getElem?_cons_zero]; rfl) (by kernel_rfl) (by kernel_rfl) (by kernel_rfl) (by exact fun _ _ _ h => h) (Or.inl ⟨by kernel_rfl, ?_⟩) ?_
            rotate_left
            · intro w
              go_simp
              try with_reducible rfl
            simp only [Act.put, List.setIfInBounds_toArray, List.set_cons_zero, List.set_cons_succ]
            refine wpAny_take (i := 20) (v := ?_) (by simp only [List.getElem?_toArray, List.getElem?_cons_succ, List.getElem?_cons_zero]; rfl) (by kernel_rfl) (by kernel_rfl) (by kernel_rfl) (by exact fun _ _ _ h => h) (Or.inl ⟨by kernel_rfl, ?_⟩) ?_
            rotate_left
            · intro w
              go_simp
              try with_reducible rfl
            simp only [Act.put, List.setIfInBounds_toArray, List.set_cons_zero, List.set_cons_succ]
            refine wpAny_take (i := 21) (v := ?_) (by simp only [List.getElem?_toArray, List.getElem?_cons_succ, List.getElem?_cons_zero]; rfl) (by kernel_rfl) (by kernel_rfl) (by kernel_rfl) (by exact fun _ _ _ h => h) (Or.inl ⟨by kernel_rfl, ?_⟩) ?_
            rotate_left
            · intro w
              go_simp
              try with_reducible rfl
            simp only [Act.put, List.setIfInBounds_toArray, List.set_cons_zero, List.set_cons_succ]
            refine wpAny_done (by kernel_rfl) ?_ _
            have F1 := F1.to b37
            have bw := bw.call b37
            clear S2 SH SM H6 S6 H7 b37
            go_wp2_with (go_at_call 7; refine (awake5_any _).mono ?_; rintro e wa ⟨rfl, ba⟩)
            go_ret
            exact ⟨rfl, bw.call ba⟩
end Go.Proofs.Ytofigldbkndjlaa.MbW
