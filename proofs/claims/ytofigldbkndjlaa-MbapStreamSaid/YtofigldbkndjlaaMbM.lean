/- The walk of saucierlaw05.packed. -/
import Derived.Test.YtofigldbkndjlaaMbK
set_option linter.unusedVariables false
set_option linter.unusedSimpArgs false
namespace Go.Proofs.Ytofigldbkndjlaa.MbW
open Go.RowKit Go.Proofs.Ytofigldbkndjlaa Go.Proofs.Ytofigldbkndjlaa.Mb
/-- The right ones of the first twelve. -/
def rights (L : List Fm) : List Fm := (L.take 12).filter right
theorem rights_right (L : List Fm) : ∀ x ∈ rights L, right x = true := fun x hx => (List.mem_filter.1 hx).2
theorem rights_ok {L : List Fm} (h : Oks L) : Oks (rights L) := fun x hx => h x (List.mem_of_mem_take (List.mem_filter.1 hx).1)
theorem rights_len (L : List Fm) : (rights L).length ≤ 12 := by
  have h1 := List.length_filter_le right (L.take 12)
  unfold rights
  rw [List.length_take] at h1
  omega
theorem packs_len {M : List Fm} (h : ∀ x ∈ M, right x = true) : (packs M).length ≤ 260 * M.length := by
  induction M with
  | nil => simp [packs]
  | cons x M ih =>
    have h1 := h x List.mem_cons_self
    unfold right at h1
    have h1 := of_decide_eq_true h1
    have h2 := ih (fun y hy => h y (List.mem_cons_of_mem _ hy))
    rw [packs_cons, List.length_append, pack_len, List.length_cons]
    omega
theorem packs_bytes {M : List Fm} (h : ∀ x ∈ M, right x = true) (ho : Oks M) : Bytes (packs M) := by
  intro c hc
  simp only [packs, List.mem_flatten, List.mem_map] at hc
  obtain ⟨_, ⟨x, hx, rfl⟩, hc⟩ := hc
  have h1 := h x hx
  unfold right at h1
  have h1 := of_decide_eq_true h1
  exact pack_bytes (ho x hx) (by omega) c hc
/-- The right ones of the first j. -/
def upTo (LL : List Fm) (j : Nat) : List Fm := (LL.take j).filter right
theorem upTo_hit {LL : List Fm} {j : Nat} (hj : j < LL.length) (h : right (LL[j]?.getD fm0) = true) : upTo LL (j + 1) = upTo LL j ++ [LL[j]?.getD fm0] := by
  unfold upTo
  rw [List.take_succ_eq_append_getElem hj, List.filter_append]
  rw [List.getElem?_eq_getElem hj] at h ⊢
  simp at h ⊢
  exact h
theorem upTo_miss {LL : List Fm} {j : Nat} (hj : j < LL.length) (h : right (LL[j]?.getD fm0) = false) : upTo LL (j + 1) = upTo LL j := by
  unfold upTo
  rw [List.take_succ_eq_append_getElem hj, List.filter_append]
  rw [List.getElem?_eq_getElem hj] at h
  simp at h ⊢
  exact h
theorem upTo_len (LL : List Fm) (j : Nat) : (upTo LL j).length ≤ j := by
  have h1 := List.length_filter_le right (LL.take j)
  unfold upTo
  rw [List.length_take] at h1
  omega
theorem upTo_right (LL : List Fm) (j : Nat) : ∀ x ∈ upTo LL j, right x = true := fun x hx => (List.mem_filter.1 hx).2
/-- Two rows of the call's own: frames, and their bytes. -/
def RetPacked (w : World) (M : List Fm) (e : Ending) (w' : World) : Prop := ∃ v vb, e = .returned (.tuple #[v, vb]) ∧ HasF w w' 25 v M.length M (fun b => b < w.heap.size) ∧ Has w w' 5 vb (packs M).length (bs (packs M))
set_option maxHeartbeats 8000000 in
theorem packed_any (A : Option Addr) (n c : Nat) (L : List Fm) (w : World) (hF : Fr w A n L (fun _ => True)) (ho : Oks L) (h3 : ∀ x ∈ L, x.pdu.length ≤ 300) (hc : n ≤ c) (hn : n ≤ 9223372036854775807) :
    Calls Try.prog 17 #[.slice A n c] w (RetPacked w (rights L)) := by
  have hl := hF.len
  by_cases g : (n : Int) ≤ 12
  · have hmn : n ≤ n := Nat.le_refl _
    obtain ⟨LL, hLLd⟩ : ∃ LL, LL = L.take n := ⟨_, rfl⟩
    have hRT : rights L = LL.filter right := by
      unfold rights
      rw [hLLd, List.take_of_length_le (by omega), List.take_of_length_le (by omega)]
    have hLL : LL.length = n := by rw [hLLd, List.length_take]; omega
    have hF2 := hF.lt.take (k := n) hmn
    rw [← hLLd] at hF2
    have HOK := Lib.hid (show Oks LL from fun x hx => ho x (List.mem_of_mem_take (hLLd ▸ hx)))
    have H300 := Lib.hid (show ∀ x ∈ LL, x.pdu.length ≤ 300 from fun x hx => h3 x (List.mem_of_mem_take (hLLd ▸ hx)))
    have HF := Lib.hid hF2
    have HL := Lib.hid hLL
    have HRT := Lib.hid hRT
    obtain ⟨RR, hRR⟩ : ∃ RR, RR = rights L := ⟨_, rfl⟩
    rw [← hRR] at HRT ⊢
    clear hF2 hLL hRT hF ho h3 hLLd hl hRR
    go_enter Try.func17, Try.ntmps17
    go_wp2_with fail
    go_loopw [4, 5, 16] (fun o b i wr => ∃ j : Nat, j ≤ n ∧ i = .int .i64 j ∧ HasF w wr 25 o (upTo LL j).length (upTo LL j) (fun b => b < w.heap.size) ∧ Has w wr 5 b (packs (upTo LL j)).length (bs (packs (upTo LL j))) ∧ (∀ k, o.ownBlock = some k → b.ownBlock ≠ some k)) (fun _ _ i _ => n - (intOf i).toNat)
    case atStart => exact ⟨0, by omega, rfl, HasF.nil_ (Below.refl _ _) _ _, Has.nil_ (Below.refl _ _) _, fun k hk => by simp [Value.ownBlock] at hk⟩
    case round =>
      obtain ⟨j, hj, rfl, HO, HB, hap⟩ := hrel
      by_cases hlt : j < n
      · have hlt' : (j : Int) < (n : Int) := by omega
        obtain ⟨b, o, rfl, hbb, C, k, cc, d0, d1, d2, SC, hP⟩ := (HF.out.to HO.bel).at hlt
        have hjl : j < LL.length := by rw [HL.out]; exact hlt
        have hxo := HOK.out.at j
        have hx3 : (LL[j]?.getD fm0).pdu.length ≤ 300 := by
          rw [List.getElem?_eq_getElem hjl]; exact H300.out _ (List.getElem_mem hjl)
        have hhit := Lib.hid (fun h => upTo_hit hjl h)
        have hmiss := Lib.hid (fun h => upTo_miss hjl h)
        have hql := upTo_len LL j
        have hpl := packs_len (upTo_right LL j)
        obtain ⟨x, hx⟩ : ∃ x, x = LL[j]?.getD fm0 := ⟨_, rfl⟩
        rw [← hx] at d0 d1 SC hxo hx3 hhit hmiss
        have hk : k = x.pdu.length := by have := SC.len; rw [bs_length] at this; omega
        have KX := Lib.hid (fun Y (b : Below wr.heap.size wr Y) => pack_any x C k cc Y (SC.to b) hxo (by omega))
        have hpk := packE_cases x
        have hXL : (pack x).length ≤ 307 := by rw [pack_len]; omega
        obtain ⟨K, hK⟩ : ∃ K, K = packE x := ⟨_, rfl⟩
        rw [← hK] at KX hpk
        obtain ⟨Z, hZ⟩ : ∃ Z, Z = pack x := ⟨_, rfl⟩
        rw [← hZ] at hpk hXL
        have HZ := Lib.hid hZ
        clear hZ
        obtain ⟨tx, u, P⟩ := x
        dsimp only at d0 d1 KX
        have rx := heap_alloc_new wr (.cells #[.int .u16 (tx : Nat), .int .u8 (u : Nat), .slice C k cc] 25)
        have bx := (Below.refl wr.heap.size wr).new (.cells #[.int .u16 (tx : Nat), .int .u8 (u : Nat), .slice C k cc] 25)
        have HSC := Lib.hid SC
        have own1 := HO.own
        have own2 : ∀ b, u5.ownBlock = some b → w.heap.size ≤ b ∧ b < wr.heap.size := fun b hb => HB.own.lt b hb
        clear hx hK SC hk
        go_wp2_with fail
        refine (KX.out _ bx).mono ?_
        rintro e w2 ⟨v2, rfl, H2⟩
        have b2 := bx.call H2.bel
        have rx := H2.bel.row (row_lt rx) rx
        have SC := HSC.out.to b2
        have HO := HO.below b2
        have HB := HB.below b2
        have sz2 := b2.size
        obtain ⟨e0, e1, e2⟩ := row3 rx
        rcases hpk with ⟨hk0, hk1, hk2, hk3⟩ | ⟨hk0, hk1⟩
        · subst hk0
          have HQ := Lib.hid (hhit.out hk3)
          obtain ⟨A2, c2, rfl, -, S2, o2⟩ := H2.slice
          have hsx : wr.heap.size < (wr.alloc (.cells #[.int .u16 (tx : Nat), .int .u8 (u : Nat), .slice C k cc] 25)).heap.size := by simp
          have S2 := S2
          dsimp only at S2 ⊢
          have hk1 : 1 ≤ P.length := hk1
          have hk2 : P.length ≤ 253 := hk2
          clear H2 hhit hmiss hk3
          go_wp2_with (first
            | (at_builtin; refine wpList_app3 fm3 rfl (.tmp 27) (.tmp 29) rfl (HO.alloc _) rfl (Fr.newAt (P := fun b => b < w.heap.size) w2 ⟨tx, u, P⟩ C k cc 25 w2.heap.size rfl SC hP) rfl (fun b hb => ⟨hb, fun e => Nat.not_lt_of_le (own1 b e).1 hb⟩) (by omega) (by simp only [maxLen]; omega) ?_; intro v4 w4 H4 g4 o4; have HB4 := (HB.alloc _).beside g4 (fun k e => ⟨(own1 k e).1, hap k e⟩); have S4 := (S2.to ((Below.refl _ _).new (.cells #[.int .u16 (tx : Nat), .int .u8 (u : Nat), .slice C k cc] 25))).grown g4 (fun b' o' e e' => by have h1 := (own1 b' e').2; have h2 := o2 b' (by rw [e]; rfl); omega); clear S2)
            | (at_builtin; refine wpList_app _root_.Go.Proofs.Ytofigldbkndjlaa.MbW.u8 rfl (.tmp 31) (.tmp 32) rfl HB4 rfl S4 rfl (bs_one _) (by omega) (by simp only [maxLen]; omega) ?_; intro v5 w5 H5 g5 o5))
          go_roundw
          case rel =>
            have hne4 : ∀ k, v4.ownBlock = some k → u5.ownBlock ≠ some k := fun k e1 e2 => by
              rcases o4 with o4 | o4
              · exact hap k (o4 ▸ e1) e2
              · rw [o4] at e1
                injection e1 with e1
                have := (own2 k e2).2
                simp at e1
                omega
            have H6 := H4.beside g5 (fun k e => ⟨(own2 k e).1, fun e' => hne4 k e' e⟩) (fun b k hb e e' => by have := (own2 k e).1; omega)
            refine ⟨j + 1, by omega, by go_num, ?_, ?_, ?_⟩
            · rw [HQ.out, List.length_append]
              exact H6
            · rw [HQ.out, packs_snoc, List.length_append, ← bs_append, ← HZ.out]
              exact H5
            · intro k e1 e2
              have h4 := H4.own k e1
              rcases o5 with o5 | o5
              · exact hne4 k e1 (o5 ▸ e2)
              · rw [o5] at e2
                injection e2 with e2
                omega
          case measure => simp [intOf]; omega
        · subst hk0
          have hk1 : P.length < 1 ∨ 253 < P.length := hk1
          have HQ := Lib.hid (hmiss.out (by unfold right; exact decide_eq_false (by show ¬ (1 ≤ P.length ∧ P.length ≤ 253); omega)))
          obtain ⟨A2, c2, rfl, -, S2, -⟩ := H2.slice
          dsimp only at S2 ⊢
          clear H2 hhit hmiss
          go_wp2_with fail
          go_roundw
          case rel =>
            refine ⟨j + 1, by omega, by go_num, ?_, ?_, hap⟩
            · rw [HQ.out]; exact HO
            · rw [HQ.out]; exact HB
          case measure => simp [intOf]; omega
      · obtain rfl : n = j := by omega
        have HE := Lib.hid (show RR = upTo LL n from by
          rw [HRT.out]; unfold upTo; rw [List.take_of_length_le (by rw [HL.out]; exact Nat.le_refl _)])
        go_wp2_with fail
        go_ret2
        rw [HE.out]
        exact ⟨_, _, rfl, HO, HB⟩
  · have hmn : 12 ≤ n := by omega
    obtain ⟨LL, hLLd⟩ : ∃ LL, LL = L.take 12 := ⟨_, rfl⟩
    have hRT : rights L = LL.filter right := by
      unfold rights
      rw [hLLd]
    have hLL : LL.length = 12 := by rw [hLLd, List.length_take]; omega
    have hF2 := hF.lt.take (k := 12) hmn
    rw [← hLLd] at hF2
    have HOK := Lib.hid (show Oks LL from fun x hx => ho x (List.mem_of_mem_take (hLLd ▸ hx)))
    have H300 := Lib.hid (show ∀ x ∈ LL, x.pdu.length ≤ 300 from fun x hx => h3 x (List.mem_of_mem_take (hLLd ▸ hx)))
    have HF := Lib.hid hF2
    have HL := Lib.hid hLL
    have HRT := Lib.hid hRT
    obtain ⟨RR, hRR⟩ : ∃ RR, RR = rights L := ⟨_, rfl⟩
    rw [← hRR] at HRT ⊢
    clear hF2 hLL hRT hF ho h3 hLLd hl hRR
    go_enter Try.func17, Try.ntmps17
    go_wp2_with fail
    go_loopw [4, 5, 16] (fun o b i wr => ∃ j : Nat, j ≤ 12 ∧ i = .int .i64 j ∧ HasF w wr 25 o (upTo LL j).length (upTo LL j) (fun b => b < w.heap.size) ∧ Has w wr 5 b (packs (upTo LL j)).length (bs (packs (upTo LL j))) ∧ (∀ k, o.ownBlock = some k → b.ownBlock ≠ some k)) (fun _ _ i _ => 12 - (intOf i).toNat)
    case atStart => exact ⟨0, by omega, rfl, HasF.nil_ (Below.refl _ _) _ _, Has.nil_ (Below.refl _ _) _, fun k hk => by simp [Value.ownBlock] at hk⟩
    case round =>
      obtain ⟨j, hj, rfl, HO, HB, hap⟩ := hrel
      by_cases hlt : j < 12
      · have hlt' : (j : Int) < 12 := by omega
        obtain ⟨b, o, rfl, hbb, C, k, cc, d0, d1, d2, SC, hP⟩ := (HF.out.to HO.bel).at hlt
        have hjl : j < LL.length := by rw [HL.out]; exact hlt
        have hxo := HOK.out.at j
        have hx3 : (LL[j]?.getD fm0).pdu.length ≤ 300 := by
          rw [List.getElem?_eq_getElem hjl]; exact H300.out _ (List.getElem_mem hjl)
        have hhit := Lib.hid (fun h => upTo_hit hjl h)
        have hmiss := Lib.hid (fun h => upTo_miss hjl h)
        have hql := upTo_len LL j
        have hpl := packs_len (upTo_right LL j)
        obtain ⟨x, hx⟩ : ∃ x, x = LL[j]?.getD fm0 := ⟨_, rfl⟩
        rw [← hx] at d0 d1 SC hxo hx3 hhit hmiss
        have hk : k = x.pdu.length := by have := SC.len; rw [bs_length] at this; omega
        have KX := Lib.hid (fun Y (b : Below wr.heap.size wr Y) => pack_any x C k cc Y (SC.to b) hxo (by omega))
        have hpk := packE_cases x
        have hXL : (pack x).length ≤ 307 := by rw [pack_len]; omega
        obtain ⟨K, hK⟩ : ∃ K, K = packE x := ⟨_, rfl⟩
        rw [← hK] at KX hpk
        obtain ⟨Z, hZ⟩ : ∃ Z, Z = pack x := ⟨_, rfl⟩
        rw [← hZ] at hpk hXL
        have HZ := Lib.hid hZ
        clear hZ
        obtain ⟨tx, u, P⟩ := x
        dsimp only at d0 d1 KX
        have rx := heap_alloc_new wr (.cells #[.int .u16 (tx : Nat), .int .u8 (u : Nat), .slice C k cc] 25)
        have bx := (Below.refl wr.heap.size wr).new (.cells #[.int .u16 (tx : Nat), .int .u8 (u : Nat), .slice C k cc] 25)
        have HSC := Lib.hid SC
        have own1 := HO.own
        have own2 : ∀ b, u5.ownBlock = some b → w.heap.size ≤ b ∧ b < wr.heap.size := fun b hb => HB.own.lt b hb
        clear hx hK SC hk
        go_wp2_with fail
        refine (KX.out _ bx).mono ?_
        rintro e w2 ⟨v2, rfl, H2⟩
        have b2 := bx.call H2.bel
        have rx := H2.bel.row (row_lt rx) rx
        have SC := HSC.out.to b2
        have HO := HO.below b2
        have HB := HB.below b2
        have sz2 := b2.size
        obtain ⟨e0, e1, e2⟩ := row3 rx
        rcases hpk with ⟨hk0, hk1, hk2, hk3⟩ | ⟨hk0, hk1⟩
        · subst hk0
          have HQ := Lib.hid (hhit.out hk3)
          obtain ⟨A2, c2, rfl, -, S2, o2⟩ := H2.slice
          have hsx : wr.heap.size < (wr.alloc (.cells #[.int .u16 (tx : Nat), .int .u8 (u : Nat), .slice C k cc] 25)).heap.size := by simp
          have S2 := S2
          dsimp only at S2 ⊢
          have hk1 : 1 ≤ P.length := hk1
          have hk2 : P.length ≤ 253 := hk2
          clear H2 hhit hmiss hk3
          go_wp2_with (first
            | (at_builtin; refine wpList_app3 fm3 rfl (.tmp 27) (.tmp 29) rfl (HO.alloc _) rfl (Fr.newAt (P := fun b => b < w.heap.size) w2 ⟨tx, u, P⟩ C k cc 25 w2.heap.size rfl SC hP) rfl (fun b hb => ⟨hb, fun e => Nat.not_lt_of_le (own1 b e).1 hb⟩) (by omega) (by simp only [maxLen]; omega) ?_; intro v4 w4 H4 g4 o4; have HB4 := (HB.alloc _).beside g4 (fun k e => ⟨(own1 k e).1, hap k e⟩); have S4 := (S2.to ((Below.refl _ _).new (.cells #[.int .u16 (tx : Nat), .int .u8 (u : Nat), .slice C k cc] 25))).grown g4 (fun b' o' e e' => by have h1 := (own1 b' e').2; have h2 := o2 b' (by rw [e]; rfl); omega); clear S2)
            | (at_builtin; refine wpList_app _root_.Go.Proofs.Ytofigldbkndjlaa.MbW.u8 rfl (.tmp 31) (.tmp 32) rfl HB4 rfl S4 rfl (bs_one _) (by omega) (by simp only [maxLen]; omega) ?_; intro v5 w5 H5 g5 o5))
          go_roundw
          case rel =>
            have hne4 : ∀ k, v4.ownBlock = some k → u5.ownBlock ≠ some k := fun k e1 e2 => by
              rcases o4 with o4 | o4
              · exact hap k (o4 ▸ e1) e2
              · rw [o4] at e1
                injection e1 with e1
                have := (own2 k e2).2
                simp at e1
                omega
            have H6 := H4.beside g5 (fun k e => ⟨(own2 k e).1, fun e' => hne4 k e' e⟩) (fun b k hb e e' => by have := (own2 k e).1; omega)
            refine ⟨j + 1, by omega, by go_num, ?_, ?_, ?_⟩
            · rw [HQ.out, List.length_append]
              exact H6
            · rw [HQ.out, packs_snoc, List.length_append, ← bs_append, ← HZ.out]
              exact H5
            · intro k e1 e2
              have h4 := H4.own k e1
              rcases o5 with o5 | o5
              · exact hne4 k e1 (o5 ▸ e2)
              · rw [o5] at e2
                injection e2 with e2
                omega
          case measure => simp [intOf]; omega
        · subst hk0
          have hk1 : P.length < 1 ∨ 253 < P.length := hk1
          have HQ := Lib.hid (hmiss.out (by unfold right; exact decide_eq_false (by show ¬ (1 ≤ P.length ∧ P.length ≤ 253); omega)))
          obtain ⟨A2, c2, rfl, -, S2, -⟩ := H2.slice
          dsimp only at S2 ⊢
          clear H2 hhit hmiss
          go_wp2_with fail
          go_roundw
          case rel =>
            refine ⟨j + 1, by omega, by go_num, ?_, ?_, hap⟩
            · rw [HQ.out]; exact HO
            · rw [HQ.out]; exact HB
          case measure => simp [intOf]; omega
      · obtain rfl : 12 = j := by omega
        have HE := Lib.hid (show RR = upTo LL 12 from by
          rw [HRT.out]; unfold upTo; rw [List.take_of_length_le (by rw [HL.out]; exact Nat.le_refl _)])
        go_wp2_with fail
        go_ret2
        rw [HE.out]
        exact ⟨_, _, rfl, HO, HB⟩
end Go.Proofs.Ytofigldbkndjlaa.MbW
