/- Merged: MoWF MoWG MoWH MoWI MoWJ. -/
import Derived.Test.YtiibopdnlmnkmaaMG7
import Derived.Test.YtiibopdnlmnkmaaMG4
import Derived.Test.YtiibopdnlmnkmaaRepJ
import Derived.Laws.CopyOwn
/- Clones of the call's own; the walks of read and write of model's tables. Written by gen_mowf.py. -/
set_option linter.unusedVariables false
set_option linter.unusedSimpArgs false
namespace Go.Proofs.Ytiibopdnlmnkmaa
open Go.RowKit
section
variable {P : Program} {w : World} {ops : Array Oper} {rest : List Oper} {o : Oper} {a : Act} {Q : Exit → Act → World → Prop}
theorem grown_setRow1 (w : World) (g : Nat) (cs : Array Value) : w.grownBy (w.setRow g cs) (some g) :=
  ⟨rfl, rfl, rfl, by simp [World.setRow], fun k _ hk => setRow_other w g k cs (fun e => hk (by rw [e]))⟩
/-- copy into a row that is known whole: the row is laid over, all else is as it was. -/
theorem wpList_copy_grown (hgd : o.guard = none) (d s : Operand) (dT sT : TypeId)
    (ho : o.op = .call { callee := .builtin .copy, args := #[d, s], argTypes := #[dT, sT] }) (elem : TypeId) (hu : P.underlying dT = some (.slice elem)) (hsz : (P.info? elem).map (·.size) = some 1)
    (dp sp : Option Addr) (dLen dCap sLen sCap : Nat) (hd : a.eval d = .slice dp dLen dCap) (hs : a.eval s = .slice sp sLen sCap)
    (g off : Nat) (cur : Array Value) (t : TypeId) (hg : w.heap[g]? = some (.cells cur t (0, 0))) (cs : List Value) (hn : cs.length = Nat.min sLen dLen)
    (hpos : 0 < cs.length → dp = some ⟨g, off, none⟩ ∧ ∃ ad, sp = some ad ∧ ∀ j v, cs[j]? = some v → w.cell? (ad.add j) = some v)
    (hfit : off + cs.length ≤ cur.size) (h1 : ∀ v ∈ cs, v.oneCell' = true)
    (h : ∀ w' cur', w'.heap[g]? = some (.cells cur' t (0, 0)) → cur'.toList = splice cur.toList off cs → w.grownBy w' (some g) → wpList P ops Q rest (a.put o.dst (goInt cs.length)) w') :
    wpList P ops Q (o :: rest) a w := by
  by_cases h0 : cs.length = 0
  · obtain rfl : cs = [] := List.eq_nil_of_length_eq_zero h0
    refine wpList_copy_nothing hgd d s dT sT ho elem hu hsz dp sp dLen dCap sLen sCap hd hs (by simpa using hn.symm) ?_
    exact h w cur hg (by simp [splice]) ⟨rfl, rfl, rfl, Nat.le_refl _, fun _ _ _ => rfl⟩
  · obtain ⟨rfl, ad, rfl, hsrc⟩ := hpos (by omega)
    refine wpList_copy_own hgd d s dT sT ho elem hu hsz g off dLen dCap ad sLen sCap hd hs cur t hg cs hn hsrc hfit h1 ?_
    exact h _ _ (setRow_heap w g _ _ t _ hg) rfl (grown_setRow1 w g _)
end
theorem splice_take {α : Type} {L xs cs : List α} {n off : Nat} (h : L.take n = xs) (hx : xs.length = n) (hf : off + cs.length ≤ n) : (splice L off cs).take n = splice xs off cs := by
  subst h
  have hn : n ≤ L.length := by rw [List.length_take] at hx; omega
  unfold splice
  apply List.ext_getElem?
  intro i
  by_cases hi : i < n
  · rw [List.getElem?_take, if_pos hi]
    have l1 : (L.take off).length = off := by rw [List.length_take]; omega
    have l2 : ((L.take n).take off).length = off := by rw [List.length_take, List.length_take]; omega
    by_cases h1 : i < off
    · rw [List.getElem?_append_left (by rw [l1]; exact h1), List.getElem?_append_left (by rw [l2]; exact h1), List.getElem?_take, if_pos h1, List.getElem?_take, if_pos h1, List.getElem?_take, if_pos hi]
    · have k1 : (L.take off ++ (cs ++ L.drop (off + cs.length)))[i]? = (cs ++ L.drop (off + cs.length))[i - off]? := by rw [List.getElem?_append_right (by rw [l1]; omega), l1]
      have k2 : ((L.take n).take off ++ (cs ++ (L.take n).drop (off + cs.length)))[i]? = (cs ++ (L.take n).drop (off + cs.length))[i - off]? := by rw [List.getElem?_append_right (by rw [l2]; omega), l2]
      rw [k1, k2]
      by_cases h2 : i - off < cs.length
      · rw [List.getElem?_append_left h2, List.getElem?_append_left h2]
      · have k3 : (cs ++ L.drop (off + cs.length))[i - off]? = (L.drop (off + cs.length))[i - off - cs.length]? := List.getElem?_append_right (by omega)
        have k4 : (cs ++ (L.take n).drop (off + cs.length))[i - off]? = ((L.take n).drop (off + cs.length))[i - off - cs.length]? := List.getElem?_append_right (by omega)
        rw [k3, k4, List.getElem?_drop, List.getElem?_drop, List.getElem?_take, if_pos (by omega)]
  · rw [List.getElem?_take, if_neg hi, List.getElem?_eq_none]
    rw [List.length_append, List.length_append, List.length_take, List.length_drop, List.length_take]
    omega
end Go.Proofs.Ytiibopdnlmnkmaa
namespace Go.Proofs.Ytiibopdnlmnkmaa.MoW
open Go.RowKit Go.Proofs.Ytiibopdnlmnkmaa Go.Proofs.Ytiibopdnlmnkmaa.Mo Go.Proofs.Ytiibopdnlmnkmaa.Ask Go.Proofs.Ytiibopdnlmnkmaa.AskW
theorem splice_bl (l : List Bool) (k : Nat) (v : List Bool) : splice (bl l) k (bl v) = bl (over l k v) := by
  unfold splice over bl; rw [List.length_map, ← List.map_take, ← List.map_drop, List.map_append, List.map_append]
theorem splice_ws (l : List Nat) (k : Nat) (v : List Nat) : splice (ws l) k (ws v) = ws (over l k v) := by
  unfold splice over ws; rw [List.length_map, ← List.map_take, ← List.map_drop, List.map_append, List.map_append]
theorem cloneOwnB_any (w0 : World) (A : Option Addr) (n c : Nat) (l : List Bool) (w : World) (hb : Below w0.heap.size w0 w) (hs : Sl w w.heap.size A n (bl l)) (hn : n ≤ 100000) :
    Calls Try.prog 46 #[.slice A n c] w fun e w' => ∃ v, e = .returned v ∧ Has w0 w' 4 v n (bl l) ∧ (∀ b, v.ownBlock = some b → w.heap.size ≤ b) ∧ Below w.heap.size w w' := by
  have q1 : l.length = n := by simpa using hs.len
  have qT : ∀ (w : World) (a : Option Addr) (n c n' c' : Nat), (binOp .eql 25 (.slice a n c) (.slice none n' c')).run Try.prog w = .ok (.bool a.isNone) w := fun w a n c n' c' => Lib.run_eql_slice_nil w _ _ a n c n' c' Try.underlying25
  have S0 := hs.to ((Below.refl _ w).new (.cells #[] 4))
  rcases A with _ | ad
  · have h0 : n = 0 := by
      rcases Nat.eq_zero_or_pos n with h | h
      · exact h
      · obtain ⟨b, o, e, _⟩ := hs.2 h
        cases e
    subst h0
    have hl := List.eq_nil_of_length_eq_zero q1
    subst hl
    have HB := Lib.hid hb
    clear hs S0 q1 hb
    go_enter Try.func46, Try.ntmps46
    go_wp2_with fail
    go_ret
    exact ⟨_, rfl, Has.nil_ HB.out _, (fun b h => by cases h), Below.refl _ _⟩
  · have HB := Lib.hid hb
    clear hs q1 hb
    go_enter Try.func46, Try.ntmps46
    go_wp2_with (at_builtin; refine wpList_app _root_.Go.Proofs.Ytiibopdnlmnkmaa.MoW.eb rfl (.tmp 5) (.tmp 6) rfl (Has.made0 HB.out _) rfl S0 rfl (bl_one _) (by omega) (by simp only [maxLen]; omega) ?_; intro v1 w1 H1 G1 O1)
    go_ret
    rw [Nat.zero_add, List.nil_append] at H1
    have hb1 : Below w.heap.size w w1 := ((Below.refl _ w).new _).grown G1 (by simp) (fun j e => by have e2 : some w.heap.size = some j := e; injection e2 with e2; omega)
    refine ⟨_, rfl, H1, fun b h => ?_, hb1⟩
    have h : v1.ownBlock = some b := h
    rcases O1 with e | e
    · rw [e] at h; have e2 : some w.heap.size = some b := h; injection e2 with e2; omega
    · rw [e] at h; injection h with h; simp at h; omega
set_option maxHeartbeats 4000000 in
theorem writeB_nil (at' : Nat) (Al : Option Addr) (nl cl : Nat) (w : World) :
    Calls Try.prog 48 #[.pointer none, .int .i64 (at' : Nat), .slice Al nl cl] w fun e w' => e = .returned (.tuple #[]) ∧ w' = w := by
  go_enter Try.func48, Try.ntmps48
  go_wp2_with fail
  refine bodyPost_end (results_none rfl _ _ _) rfl ?_
  exact ⟨rfl, rfl⟩
set_option maxRecDepth 20000 in
set_option maxHeartbeats 4000000 in
theorem writeB_any (w0 : World) (g o : Nat) (A : Option Addr) (n c : Nat) (xs : List Bool) (at' : Nat) (Al : Option Addr) (nl cl : Nat) (l : List Bool) (w : World) (hq : w.cell? ⟨g, o + 1, none⟩ = some (.slice A n c)) (hH : Has w0 w 4 (.slice A n c) n (bl xs))
    (hl : Sl w w.heap.size Al nl (bl l)) (hpos : 0 < nl) (hfit : at' + nl ≤ n) (hn : n ≤ 100000) :
    Calls Try.prog 48 #[.pointer (some ⟨g, o, none⟩), .int .i64 (at' : Nat), .slice Al nl cl] w fun e w' => e = .returned (.tuple #[]) ∧ Has w0 w' 4 (.slice A n c) n (bl (over xs at' l)) ∧ w.grownBy w' (Value.slice A n c).ownBlock := by
  have ql : l.length = nl := by simpa using hl.len
  have qx : xs.length = n := by simpa using hH.len
  obtain ⟨b, o', rfl, hbl, hcell⟩ := hl.2 hpos
  have hown := hH.own
  rcases hown.2 with ⟨e, h0⟩ | ⟨gA, cap, cur, e, hb, hg, hc, hm, hsz, htk⟩
  · omega
  · injection e with e1 e2 e3
    subst e1 e3
    clear e2
    rw [Nat.mul_one] at hsz htk
    have z0 : (0 : Int) ≤ (at' : Int) := by omega
    have z1 : (at' : Int) ≤ (n : Int) := by omega
    have z2 : ¬ (c = at') := by omega
    have z4 : Nat.min nl (n - at') = nl := Nat.min_eq_left (by omega)
    have hsrc : ∀ j v, (bl l)[j]? = some v → w.cell? ((⟨b, o', none⟩ : Addr).add j) = some v := fun j v h => by
      have hj : j < nl := by have := (List.getElem?_eq_some_iff.1 h).1; simp at this; omega
      have hadd : (⟨b, o', none⟩ : Addr).add j = ⟨b, o' + j, none⟩ := by unfold Addr.add; split <;> simp_all
      rw [hadd, hcell j hj, h]
    have HH := Lib.hid hH
    have HS := Lib.hid hsrc
    have HTK := Lib.hid htk
    have HQL := Lib.hid ql
    have HSZ := Lib.hid hsz
    have HN := Lib.hid z4
    have HC := Lib.hid hc
    have HX := Lib.hid qx
    have hga := hg
    clear hown hcell hsrc hH htk ql hsz z4 hc hl qx
    go_enter Try.func48, Try.ntmps48
    go_wp2_with (refine wpList_copy_grown rfl (.tmp 13) (.tmp 14) _ _ rfl 4 Try.underlying25 (by kernel_rfl) _ _ _ _ _ _ rfl rfl gA at' cur _ hga (bl l) (by rw [bl_length, HQL.out]; exact HN.out.symm) (fun _ => ⟨rfl, _, rfl, HS.out⟩) (by rw [bl_length, HQL.out, HSZ.out]; have := HC.out; omega) (bl_one _) ?_; intro w1 cur1 hg1 hc1 hgr; have HG1 := Lib.hid hg1; have HC1 := Lib.hid hc1; clear hg1 hc1)
    refine bodyPost_end (results_none rfl _ _ _) rfl ?_
    refine ⟨rfl, ⟨⟨?_, .inr ⟨gA, c, cur1, rfl, hb, HG1.out, HC.out, hm, ?_, ?_⟩⟩, ?_⟩, hgr⟩
    · rw [bl_length, over_length (.inr (by rw [HQL.out, HX.out]; omega)), HX.out, Nat.mul_one]
    · have hsz1 := congrArg List.length HC1.out
      rw [length_splice _ _ _ (by rw [bl_length, HQL.out, Array.length_toList, HSZ.out]; have := HC.out; omega), Array.length_toList, Array.length_toList, HSZ.out] at hsz1
      rw [Nat.mul_one]; exact hsz1
    · rw [Nat.mul_one, HC1.out, splice_take HTK.out (by rw [bl_length, HX.out]) (by rw [bl_length, HQL.out]; omega), splice_bl]
    · exact HH.out.bel.grown hgr HH.out.bel.size (fun j e => by injection e with e; subst e; exact hb)
set_option maxHeartbeats 4000000 in
theorem readB_nil (at' many : Nat) (w : World) :
    Calls Try.prog 51 #[.pointer none, .int .i64 (at' : Nat), .int .i64 (many : Nat), .int .i64 8] w fun e w' => e = .returned (.slice none 0 0) ∧ w' = w := by
  go_enter Try.func51, Try.ntmps51
  go_wp2_with fail
  go_ret
  exact ⟨rfl, rfl⟩
set_option maxRecDepth 20000 in
set_option maxHeartbeats 4000000 in
theorem readB_any (g o : Nat) (A : Option Addr) (n c : Nat) (xs : List Bool) (at' many : Nat) (w : World) (hq : w.cell? ⟨g, o + 1, none⟩ = some (.slice A n c)) (hg : g < w.heap.size) (hs : Sl w w.heap.size A n (bl xs)) (hc : n ≤ c) (h1 : 1 ≤ many) (hfit : at' + many ≤ n) (hn : n ≤ 100000) :
    Calls Try.prog 51 #[.pointer (some ⟨g, o, none⟩), .int .i64 (at' : Nat), .int .i64 (many : Nat), .int .i64 8] w fun e w' => ∃ A' n' c', e = .returned (.slice A' n' c') ∧ Sl w' w'.heap.size A' n' (bl (pad8 (slab xs at' many))) ∧ n' ≤ c' ∧ (∀ b o, A' = some (⟨b, o, none⟩ : Addr) → w.heap.size ≤ b) ∧ Below w.heap.size w w' := by
  have qx : xs.length = n := by simpa using hs.len
  obtain ⟨b, o', rfl, hbl, hcell⟩ := hs.2 (by omega)
  obtain ⟨R, hR⟩ : ∃ R, R = (many + (8 - 1)) / 8 * 8 := ⟨_, rfl⟩
  have hRm : many ≤ R ∧ R ≤ 200000 := by omega

  have z0 : (0 : Int) ≤ (at' : Int) := by omega
  have z1 : (at' : Int) ≤ ((at' + many : Nat) : Int) := by omega
  have z3 : ((at' + many : Nat) : Int) ≤ (c : Int) := by omega
  have z2 : ¬ (c = at') := by omega
  have z5 : IntKind.i64.wrap ((at' : Int) + (many : Int)) = ((at' + many : Nat) : Int) := by rw [IntKind.wrap_i64]; omega
  have hq1 : ∀ k, (w.alloc (.cells (Array.replicate k (.bool false)) 4)).cell? ⟨g, o + 1, none⟩ = some (.slice (some ⟨b, o', none⟩) n c) := fun k => by
    rw [((Below.refl _ w).new (.cells (Array.replicate k (.bool false)) 4)).cell (p := ⟨g, o + 1, none⟩) hg]; exact hq
  have HQ := Lib.hid (hq1 R)
  have HR := Lib.hid hR
  have HC := Lib.hid hcell
  have HX := Lib.hid qx
  clear hR hcell qx hs hq1
  go_enter Try.func51, Try.ntmps51
  have HRI := Lib.hid (show (((many : Int) + 8 - 1) / 8 * 8) = (R : Int) by rw [HR.out]; omega)
  have HSRC := Lib.hid (show ∀ j v, (bl (slab xs at' many))[j]? = some v → (w.alloc (.cells (Array.replicate R (.bool false)) 4)).cell? ((⟨b, o' + at', none⟩ : Addr).add j) = some v from fun j v h => by
    have hj : j < many := by have := (List.getElem?_eq_some_iff.1 h).1; rw [bl_length, slab_length (by rw [HX.out]; exact hfit)] at this; exact this
    have hadd : (⟨b, o' + at', none⟩ : Addr).add j = ⟨b, o' + (at' + j), none⟩ := by unfold Addr.add; split <;> simp_all [Nat.add_assoc]
    rw [hadd, ((Below.refl _ w).new _).cell (p := ⟨b, o' + (at' + j), none⟩) hbl, HC.out (at' + j) (by omega), ← h]
    unfold slab bl
    rw [List.getElem?_map, List.getElem?_map, List.getElem?_take, if_pos hj, List.getElem?_drop])
  have HSL := Lib.hid (show (bl (slab xs at' many)).length = many by rw [bl_length, slab_length (by rw [HX.out]; exact hfit)])
  have HMIN := Lib.hid (show Nat.min many R = many from Nat.min_eq_left hRm.1)
  have HMIN2 := Lib.hid (show Nat.min (at' + many - at') R = many by rw [Nat.add_sub_cancel_left]; exact Nat.min_eq_left hRm.1)
  go_wp2_with (first
    | (at_make; refine wpList_makeN (z := (.bool false)) Try.underlying25 (i := _) rfl rfl rfl rfl rfl (.tmp 19) (.tmp 19) rfl R (by show Value.int .i64 _ = _; rw [HRI.out]) (by show Value.int .i64 _ = _; rw [HRI.out]) (by show 1 * R ≤ _; omega) (by omega) ?_; have hq2 := HQ.out)
    | (refine wpList_copy_grown rfl (.tmp 21) (.tmp 30) _ _ rfl 4 Try.underlying25 (by kernel_rfl) _ _ _ _ _ _ rfl rfl w.heap.size 0 _ _ (heap_alloc_new w _) (bl (slab xs at' many)) (by rw [HSL.out]; first | exact HMIN2.out.symm | exact HMIN.out.symm) (fun _ => ⟨rfl, _, rfl, HSRC.out⟩) (by rw [HSL.out, Array.size_replicate]; omega) (bl_one _) ?_; intro w1 cur1 hg1 hc1 hgr; have HG1 := Lib.hid hg1; have HC1 := Lib.hid hc1; clear hg1 hc1)
    | fail)
  go_ret
  have hb1 : Below w.heap.size w w1 := ((Below.refl _ w).new _).grown hgr (by simp) (fun j e => by injection e with e; omega)
  refine ⟨_, R, _, rfl, ⟨?_, fun _ => ⟨w.heap.size, 0, rfl, ?_, fun j hj => ?_⟩⟩, Nat.le_refl _, fun b o e => by injection e with e; injection e with e; omega, hb1⟩
  · rw [bl_length]
    rw [pad8_length, slab_length (by rw [HX.out]; exact hfit), HR.out]
  · exact row_lt HG1.out
  · rw [Nat.zero_add, cell_of_row w1 w.heap.size j _ _ _ HG1.out, ← Array.getElem?_toList, HC1.out]
    congr 1
    unfold splice
    rw [HSL.out, List.take_zero, List.nil_append, Nat.zero_add, Array.toList_replicate, List.drop_replicate]
    unfold pad8 bl
    rw [List.map_append, List.map_replicate, slab_length (by rw [HX.out]; exact hfit), HR.out]
theorem cloneOwnW_any (w0 : World) (A : Option Addr) (n c : Nat) (l : List Nat) (w : World) (hb : Below w0.heap.size w0 w) (hs : Sl w w.heap.size A n (ws l)) (hn : n ≤ 100000) :
    Calls Try.prog 47 #[.slice A n c] w fun e w' => ∃ v, e = .returned v ∧ Has w0 w' 29 v n (ws l) ∧ (∀ b, v.ownBlock = some b → w.heap.size ≤ b) ∧ Below w.heap.size w w' := by
  have q1 : l.length = n := by simpa using hs.len
  have qT : ∀ (w : World) (a : Option Addr) (n c n' c' : Nat), (binOp .eql 26 (.slice a n c) (.slice none n' c')).run Try.prog w = .ok (.bool a.isNone) w := fun w a n c n' c' => Lib.run_eql_slice_nil w _ _ a n c n' c' Try.underlying26
  have S0 := hs.to ((Below.refl _ w).new (.cells #[] 29))
  rcases A with _ | ad
  · have h0 : n = 0 := by
      rcases Nat.eq_zero_or_pos n with h | h
      · exact h
      · obtain ⟨b, o, e, _⟩ := hs.2 h
        cases e
    subst h0
    have hl := List.eq_nil_of_length_eq_zero q1
    subst hl
    have HB := Lib.hid hb
    clear hs S0 q1 hb
    go_enter Try.func47, Try.ntmps47
    go_wp2_with fail
    go_ret
    exact ⟨_, rfl, Has.nil_ HB.out _, (fun b h => by cases h), Below.refl _ _⟩
  · have HB := Lib.hid hb
    clear hs q1 hb
    go_enter Try.func47, Try.ntmps47
    go_wp2_with (at_builtin; refine wpList_app _root_.Go.Proofs.Ytiibopdnlmnkmaa.MoW.ew rfl (.tmp 5) (.tmp 6) rfl (Has.made0 HB.out _) rfl S0 rfl (ws_one _) (by omega) (by simp only [maxLen]; omega) ?_; intro v1 w1 H1 G1 O1)
    go_ret
    rw [Nat.zero_add, List.nil_append] at H1
    have hb1 : Below w.heap.size w w1 := ((Below.refl _ w).new _).grown G1 (by simp) (fun j e => by have e2 : some w.heap.size = some j := e; injection e2 with e2; omega)
    refine ⟨_, rfl, H1, fun b h => ?_, hb1⟩
    have h : v1.ownBlock = some b := h
    rcases O1 with e | e
    · rw [e] at h; have e2 : some w.heap.size = some b := h; injection e2 with e2; omega
    · rw [e] at h; injection h with h; simp at h; omega
set_option maxHeartbeats 4000000 in
theorem writeW_nil (at' : Nat) (Al : Option Addr) (nl cl : Nat) (w : World) :
    Calls Try.prog 50 #[.pointer none, .int .i64 (at' : Nat), .slice Al nl cl] w fun e w' => e = .returned (.tuple #[]) ∧ w' = w := by
  go_enter Try.func50, Try.ntmps50
  go_wp2_with fail
  refine bodyPost_end (results_none rfl _ _ _) rfl ?_
  exact ⟨rfl, rfl⟩
set_option maxRecDepth 20000 in
set_option maxHeartbeats 4000000 in
theorem writeW_any (w0 : World) (g o : Nat) (A : Option Addr) (n c : Nat) (xs : List Nat) (at' : Nat) (Al : Option Addr) (nl cl : Nat) (l : List Nat) (w : World) (hq : w.cell? ⟨g, o + 1, none⟩ = some (.slice A n c)) (hH : Has w0 w 29 (.slice A n c) n (ws xs))
    (hl : Sl w w.heap.size Al nl (ws l)) (hpos : 0 < nl) (hfit : at' + nl ≤ n) (hn : n ≤ 100000) :
    Calls Try.prog 50 #[.pointer (some ⟨g, o, none⟩), .int .i64 (at' : Nat), .slice Al nl cl] w fun e w' => e = .returned (.tuple #[]) ∧ Has w0 w' 29 (.slice A n c) n (ws (over xs at' l)) ∧ w.grownBy w' (Value.slice A n c).ownBlock := by
  have ql : l.length = nl := by simpa using hl.len
  have qx : xs.length = n := by simpa using hH.len
  obtain ⟨b, o', rfl, hbl, hcell⟩ := hl.2 hpos
  have hown := hH.own
  rcases hown.2 with ⟨e, h0⟩ | ⟨gA, cap, cur, e, hb, hg, hc, hm, hsz, htk⟩
  · omega
  · injection e with e1 e2 e3
    subst e1 e3
    clear e2
    rw [Nat.mul_one] at hsz htk
    have z0 : (0 : Int) ≤ (at' : Int) := by omega
    have z1 : (at' : Int) ≤ (n : Int) := by omega
    have z2 : ¬ (c = at') := by omega
    have z4 : Nat.min nl (n - at') = nl := Nat.min_eq_left (by omega)
    have hsrc : ∀ j v, (ws l)[j]? = some v → w.cell? ((⟨b, o', none⟩ : Addr).add j) = some v := fun j v h => by
      have hj : j < nl := by have := (List.getElem?_eq_some_iff.1 h).1; simp at this; omega
      have hadd : (⟨b, o', none⟩ : Addr).add j = ⟨b, o' + j, none⟩ := by unfold Addr.add; split <;> simp_all
      rw [hadd, hcell j hj, h]
    have HH := Lib.hid hH
    have HS := Lib.hid hsrc
    have HTK := Lib.hid htk
    have HQL := Lib.hid ql
    have HSZ := Lib.hid hsz
    have HN := Lib.hid z4
    have HC := Lib.hid hc
    have HX := Lib.hid qx
    have hga := hg
    clear hown hcell hsrc hH htk ql hsz z4 hc hl qx
    go_enter Try.func50, Try.ntmps50
    go_wp2_with (refine wpList_copy_grown rfl (.tmp 13) (.tmp 14) _ _ rfl 29 Try.underlying26 (by kernel_rfl) _ _ _ _ _ _ rfl rfl gA at' cur _ hga (ws l) (by rw [ws_length, HQL.out]; exact HN.out.symm) (fun _ => ⟨rfl, _, rfl, HS.out⟩) (by rw [ws_length, HQL.out, HSZ.out]; have := HC.out; omega) (ws_one _) ?_; intro w1 cur1 hg1 hc1 hgr; have HG1 := Lib.hid hg1; have HC1 := Lib.hid hc1; clear hg1 hc1)
    refine bodyPost_end (results_none rfl _ _ _) rfl ?_
    refine ⟨rfl, ⟨⟨?_, .inr ⟨gA, c, cur1, rfl, hb, HG1.out, HC.out, hm, ?_, ?_⟩⟩, ?_⟩, hgr⟩
    · rw [ws_length, over_length (.inr (by rw [HQL.out, HX.out]; omega)), HX.out, Nat.mul_one]
    · have hsz1 := congrArg List.length HC1.out
      rw [length_splice _ _ _ (by rw [ws_length, HQL.out, Array.length_toList, HSZ.out]; have := HC.out; omega), Array.length_toList, Array.length_toList, HSZ.out] at hsz1
      rw [Nat.mul_one]; exact hsz1
    · rw [Nat.mul_one, HC1.out, splice_take HTK.out (by rw [ws_length, HX.out]) (by rw [ws_length, HQL.out]; omega), splice_ws]
    · exact HH.out.bel.grown hgr HH.out.bel.size (fun j e => by injection e with e; subst e; exact hb)
set_option maxHeartbeats 4000000 in
theorem readW_nil (at' many : Nat) (w : World) :
    Calls Try.prog 52 #[.pointer none, .int .i64 (at' : Nat), .int .i64 (many : Nat), .int .i64 1] w fun e w' => e = .returned (.slice none 0 0) ∧ w' = w := by
  go_enter Try.func52, Try.ntmps52
  go_wp2_with fail
  go_ret
  exact ⟨rfl, rfl⟩
set_option maxRecDepth 20000 in
set_option maxHeartbeats 4000000 in
theorem readW_any (g o : Nat) (A : Option Addr) (n c : Nat) (xs : List Nat) (at' many : Nat) (w : World) (hq : w.cell? ⟨g, o + 1, none⟩ = some (.slice A n c)) (hg : g < w.heap.size) (hs : Sl w w.heap.size A n (ws xs)) (hc : n ≤ c) (h1 : 1 ≤ many) (hfit : at' + many ≤ n) (hn : n ≤ 100000) :
    Calls Try.prog 52 #[.pointer (some ⟨g, o, none⟩), .int .i64 (at' : Nat), .int .i64 (many : Nat), .int .i64 1] w fun e w' => ∃ A' n' c', e = .returned (.slice A' n' c') ∧ Sl w' w'.heap.size A' n' (ws (slab xs at' many)) ∧ n' ≤ c' ∧ (∀ b o, A' = some (⟨b, o, none⟩ : Addr) → w.heap.size ≤ b) ∧ Below w.heap.size w w' := by
  have qx : xs.length = n := by simpa using hs.len
  obtain ⟨b, o', rfl, hbl, hcell⟩ := hs.2 (by omega)
  obtain ⟨R, hR⟩ : ∃ R, R = (many + (1 - 1)) / 1 * 1 := ⟨_, rfl⟩
  have hRm : many ≤ R ∧ R ≤ 200000 := by omega

  have z0 : (0 : Int) ≤ (at' : Int) := by omega
  have z1 : (at' : Int) ≤ ((at' + many : Nat) : Int) := by omega
  have z3 : ((at' + many : Nat) : Int) ≤ (c : Int) := by omega
  have z2 : ¬ (c = at') := by omega
  have z5 : IntKind.i64.wrap ((at' : Int) + (many : Int)) = ((at' + many : Nat) : Int) := by rw [IntKind.wrap_i64]; omega
  have hq1 : ∀ k, (w.alloc (.cells (Array.replicate k (.int .u16 0)) 29)).cell? ⟨g, o + 1, none⟩ = some (.slice (some ⟨b, o', none⟩) n c) := fun k => by
    rw [((Below.refl _ w).new (.cells (Array.replicate k (.int .u16 0)) 29)).cell (p := ⟨g, o + 1, none⟩) hg]; exact hq
  have HQ := Lib.hid (hq1 R)
  have HR := Lib.hid hR
  have HC := Lib.hid hcell
  have HX := Lib.hid qx
  clear hR hcell qx hs hq1
  go_enter Try.func52, Try.ntmps52
  have HRI := Lib.hid (show R = many by rw [HR.out]; omega)
  have HSRC := Lib.hid (show ∀ j v, (ws (slab xs at' many))[j]? = some v → (w.alloc (.cells (Array.replicate R (.int .u16 0)) 29)).cell? ((⟨b, o' + at', none⟩ : Addr).add j) = some v from fun j v h => by
    have hj : j < many := by have := (List.getElem?_eq_some_iff.1 h).1; rw [ws_length, slab_length (by rw [HX.out]; exact hfit)] at this; exact this
    have hadd : (⟨b, o' + at', none⟩ : Addr).add j = ⟨b, o' + (at' + j), none⟩ := by unfold Addr.add; split <;> simp_all [Nat.add_assoc]
    rw [hadd, ((Below.refl _ w).new _).cell (p := ⟨b, o' + (at' + j), none⟩) hbl, HC.out (at' + j) (by omega), ← h]
    unfold slab ws
    rw [List.getElem?_map, List.getElem?_map, List.getElem?_take, if_pos hj, List.getElem?_drop])
  have HSL := Lib.hid (show (ws (slab xs at' many)).length = many by rw [ws_length, slab_length (by rw [HX.out]; exact hfit)])
  have HMIN := Lib.hid (show Nat.min many R = many from Nat.min_eq_left hRm.1)
  have HMIN2 := Lib.hid (show Nat.min (at' + many - at') R = many by rw [Nat.add_sub_cancel_left]; exact Nat.min_eq_left hRm.1)
  go_wp2_with (first
    | (at_make; refine wpList_makeN (z := (.int .u16 0)) Try.underlying26 (i := _) rfl rfl rfl rfl rfl (.tmp 19) (.tmp 19) rfl R (by show Value.int .i64 _ = _; rw [HRI.out]) (by show Value.int .i64 _ = _; rw [HRI.out]) (by show 2 * R ≤ _; omega) (by omega) ?_; have hq2 := HQ.out)
    | (refine wpList_copy_grown rfl (.tmp 21) (.tmp 30) _ _ rfl 29 Try.underlying26 (by kernel_rfl) _ _ _ _ _ _ rfl rfl w.heap.size 0 _ _ (heap_alloc_new w _) (ws (slab xs at' many)) (by rw [HSL.out]; first | exact HMIN2.out.symm | exact HMIN.out.symm) (fun _ => ⟨rfl, _, rfl, HSRC.out⟩) (by rw [HSL.out, Array.size_replicate]; omega) (ws_one _) ?_; intro w1 cur1 hg1 hc1 hgr; have HG1 := Lib.hid hg1; have HC1 := Lib.hid hc1; clear hg1 hc1)
    | fail)
  go_ret
  have hb1 : Below w.heap.size w w1 := ((Below.refl _ w).new _).grown hgr (by simp) (fun j e => by injection e with e; omega)
  refine ⟨_, R, _, rfl, ⟨?_, fun _ => ⟨w.heap.size, 0, rfl, ?_, fun j hj => ?_⟩⟩, Nat.le_refl _, fun b o e => by injection e with e; injection e with e; omega, hb1⟩
  · rw [ws_length]
    rw [slab_length (by rw [HX.out]; exact hfit), HRI.out]
  · exact row_lt HG1.out
  · rw [Nat.zero_add, cell_of_row w1 w.heap.size j _ _ _ HG1.out, ← Array.getElem?_toList, HC1.out]
    congr 1
    unfold splice
    rw [HSL.out, List.take_zero, List.nil_append, Nat.zero_add, Array.toList_replicate, List.drop_replicate, HRI.out, Nat.sub_self, List.replicate_zero, List.append_nil]
end Go.Proofs.Ytiibopdnlmnkmaa.MoW
/- The walk of model.clone. -/
set_option linter.unusedVariables false
set_option linter.unusedSimpArgs false
namespace Go.Proofs.Ytiibopdnlmnkmaa.MoW
open Go.RowKit Go.Proofs.Ytiibopdnlmnkmaa Go.Proofs.Ytiibopdnlmnkmaa.Mo Go.Proofs.Ytiibopdnlmnkmaa.Ask Go.Proofs.Ytiibopdnlmnkmaa.AskW
theorem keep4 {X : World} {g : Nat} {t : TypeId} {u0 u1 u2 u3 : Value} (r : X.heap[g]? = some (.cells #[u0, u1, u2, u3] t (0, 0))) :
    X.cell? ⟨g, 0, none⟩ = some u0 ∧ X.cell? ⟨g, 1, none⟩ = some u1 ∧ X.cell? ⟨g, 2, none⟩ = some u2 ∧ X.cell? ⟨g, 3, none⟩ = some u3 := row4 r
/-- A row of the call's own, and none of its blocks lies below. -/
theorem fresh_apart {v u : Value} {n : Nat} (hu : ∀ b, u.ownBlock = some b → n ≤ b) (hv : ∀ k, v.ownBlock = some k → k < n) : Apart v u := fun k e e' => by have := hv k e; have := hu k e'; omega
set_option maxHeartbeats 4000000 in
theorem clone_any (u : Sp) (M : Mem) (w : World) (hM : MmOk w u M) (hu : u.Small) :
    Calls Try.prog 23 #[.agg #[.slice u.a.A u.a.n u.a.c, .slice u.b.A u.b.n u.b.c, .slice u.c.A u.c.n u.c.c, .slice u.d.A u.d.n u.d.c]] w (RetMm w M) := by
  have hua := hu.a
  have hub := hu.b
  have huc := hu.c
  have hud := hu.d
  obtain ⟨la, lb, lc, ld⟩ := hM.lens
  have LA := Lib.hid la
  have LB := Lib.hid lb
  have LC := Lib.hid lc
  have LD := Lib.hid ld
  obtain ⟨W0, hW0⟩ : ∃ W0, W0 = (w.alloc (.cells #[.slice u.a.A u.a.n u.a.c, .slice u.b.A u.b.n u.b.c, .slice u.c.A u.c.n u.c.c, .slice u.d.A u.d.n u.d.c] 28)).alloc (.cells #[.slice none 0 0, .slice none 0 0, .slice none 0 0, .slice none 0 0] 28) := ⟨_, rfl⟩
  have B0 : Bx w W0 (.cells #[.slice u.a.A u.a.n u.a.c, .slice u.b.A u.b.n u.b.c, .slice u.c.A u.c.n u.c.c, .slice u.d.A u.d.n u.d.c] 28 (0, 0)) (.cells #[.slice none 0 0, .slice none 0 0, .slice none 0 0, .slice none 0 0] 28 (0, 0)) := by
    rw [hW0]; exact Bx.first (Below.refl _ _)
  have HM := Lib.hid hM
  have HW0 := Lib.hid hW0
  have K0 := Lib.hid (fun X (b : Below w.heap.size w X) => cloneOwnB_any w u.a.A u.a.n u.a.c M.coils X b (hM.coils.to b) hua)
  have K1 := Lib.hid (fun X (b : Below w.heap.size w X) => cloneOwnB_any w u.b.A u.b.n u.b.c M.inputs X b (hM.inputs.to b) hub)
  have K2 := Lib.hid (fun X (b : Below w.heap.size w X) => cloneOwnW_any w u.c.A u.c.n u.c.c M.holding X b (hM.holding.to b) huc)
  have K3 := Lib.hid (fun X (b : Below w.heap.size w X) => cloneOwnW_any w u.d.A u.d.n u.d.c M.words X b (hM.words.to b) hud)
  clear hW0 la lb lc ld hM hu
  go_enter Try.func23, Try.ntmps23
  go_wp2_with fail
  rw [← HW0.out]
  have HB := B0.drew
  clear B0
  have hs0 := HB.sz
  go_region_held3 (fun w' => w'.cell? ⟨w.heap.size, 0, none⟩ = some (.slice u.a.A u.a.n u.a.c) ∧ w'.cell? ⟨w.heap.size, 1, none⟩ = some (.slice u.b.A u.b.n u.b.c) ∧ w'.cell? ⟨w.heap.size, 2, none⟩ = some (.slice u.c.A u.c.n u.c.c) ∧ w'.cell? ⟨w.heap.size, 3, none⟩ = some (.slice u.d.A u.d.n u.d.c))
    (first | exact keep4 HB.x | exact keep4 ((set4 _ _ _ _ HB.y).2.row (by omega) HB.x))
    (first
      | (go_at_call_of 46 (Value.slice u.a.A u.a.n u.a.c); refine (K0.out _ HB.bel).mono ?_; rintro e w1 ⟨v0, rfl, H0, o0, bt⟩; obtain ⟨A0, c0, rfl, -, -, -⟩ := H0.slice; have HB := HB.to bt; have s1 := HB.sz; have H0 := Lib.hid H0; clear bt)
      | (go_at_call_of 46 (Value.slice u.b.A u.b.n u.b.c); refine (K1.out _ HB.bel).mono ?_; rintro e w2 ⟨v1, rfl, H1, o1, bt⟩; obtain ⟨A1, c1, rfl, -, -, -⟩ := H1.slice; have HB := HB.to bt; have s2 := HB.sz; have P01 := fresh_apart o1 (fun k hk => H0.out.lt hk); have H0 := Lib.hid (H0.out.below bt); have H1 := Lib.hid H1; clear bt)
      | (go_at_call_of 47 (Value.slice u.c.A u.c.n u.c.c); refine (K2.out _ HB.bel).mono ?_; rintro e w3 ⟨v2, rfl, H2, o2, bt⟩; obtain ⟨A2, c2, rfl, -, -, -⟩ := H2.slice; have HB := HB.to bt; have s3 := HB.sz; have P02 := fresh_apart o2 (fun k hk => H0.out.lt hk); have P12 := fresh_apart o2 (fun k hk => H1.out.lt hk); have H0 := Lib.hid (H0.out.below bt); have H1 := Lib.hid (H1.out.below bt); have H2 := Lib.hid H2; clear bt)
      | (go_at_call_of 47 (Value.slice u.d.A u.d.n u.d.c); refine (K3.out _ HB.bel).mono ?_; rintro e w4 ⟨v3, rfl, H3, o3, bt⟩; obtain ⟨A3, c3, rfl, -, -, -⟩ := H3.slice; have HB := HB.to bt; have P03 := fresh_apart o3 (fun k hk => H0.out.lt hk); have P13 := fresh_apart o3 (fun k hk => H1.out.lt hk); have P23 := fresh_apart o3 (fun k hk => H2.out.lt hk); have H0 := Lib.hid (H0.out.below bt); have H1 := Lib.hid (H1.out.below bt); have H2 := Lib.hid (H2.out.below bt); have H3 := Lib.hid H3; obtain ⟨p0, p1, p2, p3⟩ := row4 HB.y; obtain ⟨pf0, pf1, pf2, pf3⟩ := free4 HB.y; clear bt)
      | fail)
  all_goals (
    obtain ⟨hz, gz⟩ := set4 (.slice A0 u.a.n c0) (.slice A1 u.b.n c1) (.slice A2 u.c.n c2) (.slice A3 u.d.n c3) HB.y
    have N0 : (Value.slice A0 u.a.n c0).ownBlock ≠ some (w.heap.size + 1) := fun e => by have := o0 _ e; omega
    have N1 : (Value.slice A1 u.b.n c1).ownBlock ≠ some (w.heap.size + 1) := fun e => by have := o1 _ e; omega
    have N2 : (Value.slice A2 u.c.n c2).ownBlock ≠ some (w.heap.size + 1) := fun e => by have := o2 _ e; omega
    have N3 : (Value.slice A3 u.d.n c3).ownBlock ≠ some (w.heap.size + 1) := fun e => by have := o3 _ e; omega
    have F0 := H0.out.other gz (Nat.le_succ _) N0
    have F1 := H1.out.other gz (Nat.le_succ _) N1
    have F2 := H2.out.other gz (Nat.le_succ _) N2
    have F3 := H3.out.other gz (Nat.le_succ _) N3
    have I : MmIs w _ _ _ _ _ M := ⟨by rw [LA.out]; exact F0, by rw [LB.out]; exact F1, by rw [LC.out]; exact F2, by rw [LD.out]; exact F3, P01, P02, P03, P12, P13, P23⟩
    have HI := Lib.hid I
    have HZ := Lib.hid hz
    clear hz gz F0 F1 F2 F3 I
    go_wp2_with fail
    refine bodyPost_row rfl (w.heap.size + 1) 28 #[.slice A0 u.a.n c0, .slice A1 u.b.n c1, .slice A2 u.c.n c2, .slice A3 u.d.n c3] (0, 0) _ rfl HZ.out Try.underlying28 rfl (by kernel_rfl) rfl ?_
    exact ⟨_, _, _, _, rfl, HI.out⟩)
end Go.Proofs.Ytiibopdnlmnkmaa.MoW
/- The walks of use.write and use.answer. -/
set_option linter.unusedVariables false
set_option linter.unusedSimpArgs false
namespace Go.Proofs.Ytiibopdnlmnkmaa.MoW
open Go.RowKit Go.Proofs.Ytiibopdnlmnkmaa Go.Proofs.Ytiibopdnlmnkmaa.Mo Go.Proofs.Ytiibopdnlmnkmaa.Ask Go.Proofs.Ytiibopdnlmnkmaa.AskW
theorem _root_.Go.RowKit.Below.grownBy {w w' : World} (b : Below w.heap.size w w') (og : Option Nat) : w.grownBy w' og := ⟨b.os, b.tape, b.output, b.size, fun k hk _ => b.block k hk⟩
/-- Two boxes that a call has made at its beginning; since then nothing that was there has turned but one row. -/
structure Bg (w X : World) (og : Option Nat) (P Q : Obj) : Prop where
  x : X.heap[w.heap.size]? = some P
  y : X.heap[w.heap.size + 1]? = some Q
  g : w.grownBy X og
  sz : w.heap.size + 2 ≤ X.heap.size
  hog : ∀ j, og = some j → j < w.heap.size
section
variable {w X Y : World} {og : Option Nat} {P Q : Obj}
theorem Bg.first (w : World) (og : Option Nat) (P Q : Obj) (hog : ∀ j, og = some j → j < w.heap.size) : Bg w ((w.alloc P).alloc Q) og P Q :=
  have B := Bx.first (w := w) (X := P) (Y := Q) (Below.refl _ ((w.alloc P).alloc Q))
  ⟨B.x, B.y, B.bel.grownBy og, B.sz, hog⟩
theorem Bg.grown (h : Bg w X og P Q) (g : X.grownBy Y og) : Bg w Y og P Q :=
  ⟨(g.block _ (row_lt h.x) (fun e => by have := h.hog _ e.symm; omega)).trans h.x, (g.block _ (row_lt h.y) (fun e => by have := h.hog _ e.symm; omega)).trans h.y, grown_then' h.g g, Nat.le_trans h.sz g.size, h.hog⟩
theorem Bg.call (h : Bg w X og P Q) (b : Below X.heap.size X Y) : Bg w Y og P Q := h.grown (b.grownBy og)
theorem Bg.drew (h : Bg w X og P Q) : Bg w X.drew og P Q := h.call (Below.refl _ X).drew
end
theorem keep46c {X : World} {g1 g2 : Nat} {t1 t2 : TypeId} {u0 u1 u2 u3 v0 v1 v2 v3 v4 v5 : Value} (r1 : X.heap[g1]? = some (.cells #[u0, u1, u2, u3] t1 (0, 0))) (r2 : X.heap[g2]? = some (.cells #[v0, v1, v2, v3, v4, v5] t2 (0, 0))) :
    X.cell? ⟨g1, 0, none⟩ = some u0 ∧ X.cell? ⟨g1, 1, none⟩ = some u1 ∧ X.cell? ⟨g1, 2, none⟩ = some u2 ∧ X.cell? ⟨g1, 3, none⟩ = some u3 ∧
      X.cell? ⟨g2, 0, none⟩ = some v0 ∧ X.cell? ⟨g2, 1, none⟩ = some v1 ∧ X.cell? ⟨g2, 2, none⟩ = some v2 ∧ X.cell? ⟨g2, 3, none⟩ = some v3 ∧ X.cell? ⟨g2, 4, none⟩ = some v4 ∧ X.cell? ⟨g2, 5, none⟩ = some v5 := by
  obtain ⟨h0, h1, h2, h3⟩ := row4 r1
  obtain ⟨k0, k1, k2, k3, k4, k5⟩ := row6 r2
  exact ⟨h0, h1, h2, h3, k0, k1, k2, k3, k4, k5⟩
set_option maxHeartbeats 4000000 in
theorem useWrite_any (x0 x1 x2 x3 : Option Addr) (f a m t : Nat) (Aw : Option Addr) (nw cw : Nat) (Ab : Option Addr) (nb cb : Nat) (W : List Nat) (B : List Bool) (w : World) (ha : a < 65536) (ht : t < 65536) (og : Option Nat) (hog : ∀ j, og = some j → j < w.heap.size) (J0 J1 J2 : World → Prop)
    (s0 : ∀ X Y, Below X.heap.size X Y → J0 X → J0 Y) (s1 : ∀ X Y, Below X.heap.size X Y → J1 X → J1 Y) (h0 : J0 w)
    (K1 : ∀ X, w.grownBy X og → J0 X → Calls Try.prog 48 #[.pointer x1, .int .i64 ((place ⟨f, a, m, t, W, B⟩ : Nat) : Int), .slice Ab nb cb] X fun e w' => e = .returned (.tuple #[]) ∧ X.grownBy w' og ∧ J1 w')
    (K3 : ∀ X, w.grownBy X og → J1 X → Calls Try.prog 50 #[.pointer x3, .int .i64 ((place ⟨f, a, m, t, W, B⟩ : Nat) : Int), .slice Aw nw cw] X fun e w' => e = .returned (.tuple #[]) ∧ X.grownBy w' og ∧ J2 w') :
    Calls Try.prog 26 #[.agg #[.pointer x0, .pointer x1, .pointer x2, .pointer x3], .agg #[.int .u8 f, .int .u16 a, .int .u16 m, .int .u16 t, .slice Aw nw cw, .slice Ab nb cb]] w fun e w' => e = .returned (.tuple #[]) ∧ w.grownBy w' og ∧ J2 w' := by
  have KT0 := fun X => target_any f a m t Aw nw cw Ab nb cb W B ha ht X
  obtain ⟨T, hT⟩ : ∃ T, T = place ⟨f, a, m, t, W, B⟩ := ⟨_, rfl⟩
  rw [← hT] at K1 K3 KT0
  have KT := Lib.hid KT0
  have L1 := Lib.hid K1
  have L3 := Lib.hid K3
  have S0 := Lib.hid s0
  have S1 := Lib.hid s1
  obtain ⟨W0, hW0⟩ : ∃ W0, W0 = (w.alloc (.cells #[.pointer x0, .pointer x1, .pointer x2, .pointer x3] 65)).alloc (.cells #[.int .u8 f, .int .u16 a, .int .u16 m, .int .u16 t, .slice Aw nw cw, .slice Ab nb cb] 31) := ⟨_, rfl⟩
  have HB : Bg w W0 og (.cells #[.pointer x0, .pointer x1, .pointer x2, .pointer x3] 65 (0, 0)) (.cells #[.int .u8 f, .int .u16 a, .int .u16 m, .int .u16 t, .slice Aw nw cw, .slice Ab nb cb] 31 (0, 0)) := by
    rw [hW0]; exact Bg.first w og _ _ hog
  have J : J0 W0 := s0 _ _ (by rw [hW0]; exact ((Below.refl _ w).new _).new _) h0
  have HW0 := Lib.hid hW0
  clear KT0 K1 K3 hT hW0 ha ht s0 s1 h0 hog
  go_enter Try.func26, Try.ntmps26
  go_wp2_with fail
  rw [← HW0.out]
  have HB := HB.drew
  have J := S0.out _ _ (Below.refl _ W0).drew J
  go_region_held3 (fun w' => w'.cell? ⟨w.heap.size, 0, none⟩ = some (.pointer x0) ∧ w'.cell? ⟨w.heap.size, 1, none⟩ = some (.pointer x1) ∧ w'.cell? ⟨w.heap.size, 2, none⟩ = some (.pointer x2) ∧ w'.cell? ⟨w.heap.size, 3, none⟩ = some (.pointer x3) ∧ w'.cell? ⟨w.heap.size + 1, 0, none⟩ = some (.int .u8 f) ∧ w'.cell? ⟨w.heap.size + 1, 1, none⟩ = some (.int .u16 a) ∧ w'.cell? ⟨w.heap.size + 1, 2, none⟩ = some (.int .u16 m) ∧ w'.cell? ⟨w.heap.size + 1, 3, none⟩ = some (.int .u16 t) ∧ w'.cell? ⟨w.heap.size + 1, 4, none⟩ = some (.slice Aw nw cw) ∧ w'.cell? ⟨w.heap.size + 1, 5, none⟩ = some (.slice Ab nb cb))
    (exact keep46c HB.x HB.y)
    (first
      | (go_at_call 49; refine (KT.out _).mono ?_; rintro e wt ⟨rfl, bt⟩; have HB := HB.call bt; have J := S0.out _ _ bt J)
      | (go_at_call 48; refine (L1.out _ HB.g J).mono ?_; rintro e wt ⟨rfl, gt, J⟩; have HB := HB.grown gt)
      | fail)
  all_goals (
    go_wp2_with fail
    have HB := HB.drew
    have J := S1.out _ _ (Below.refl _ _).drew J
    go_region_held3 (fun w' => w'.cell? ⟨w.heap.size, 0, none⟩ = some (.pointer x0) ∧ w'.cell? ⟨w.heap.size, 1, none⟩ = some (.pointer x1) ∧ w'.cell? ⟨w.heap.size, 2, none⟩ = some (.pointer x2) ∧ w'.cell? ⟨w.heap.size, 3, none⟩ = some (.pointer x3) ∧ w'.cell? ⟨w.heap.size + 1, 0, none⟩ = some (.int .u8 f) ∧ w'.cell? ⟨w.heap.size + 1, 1, none⟩ = some (.int .u16 a) ∧ w'.cell? ⟨w.heap.size + 1, 2, none⟩ = some (.int .u16 m) ∧ w'.cell? ⟨w.heap.size + 1, 3, none⟩ = some (.int .u16 t) ∧ w'.cell? ⟨w.heap.size + 1, 4, none⟩ = some (.slice Aw nw cw) ∧ w'.cell? ⟨w.heap.size + 1, 5, none⟩ = some (.slice Ab nb cb))
      (exact keep46c HB.x HB.y)
      (first
        | (go_at_call 49; refine (KT.out _).mono ?_; rintro e wt ⟨rfl, bt⟩; have HB := HB.call bt; have J := S1.out _ _ bt J)
        | (go_at_call 50; refine (L3.out _ HB.g J).mono ?_; rintro e wt ⟨rfl, gt, J⟩; have HB := HB.grown gt)
        | fail)
    all_goals (
      go_wp2_with fail
      refine bodyPost_end (results_none rfl _ _ _) rfl ?_
      exact ⟨rfl, HB.g, J⟩))
/-- A row of the call's own is answered. -/
def RetSl (w : World) (xs : List Value) (e : Ending) (w' : World) : Prop := ∃ A n c, e = .returned (.slice A n c) ∧ Sl w' w'.heap.size A n xs ∧ n ≤ c ∧ (∀ b o, A = some (⟨b, o, none⟩ : Addr) → w.heap.size ≤ b) ∧ Below w.heap.size w w'
theorem keep466 {X : World} {g1 g2 : Nat} {t1 t2 : TypeId} {u0 u1 u2 u3 v0 v1 v2 v3 v4 v5 : Value} (r1 : X.heap[g1]? = some (.cells #[u0, u1, u2, u3] t1 (0, 0))) (r2 : X.heap[g2]? = some (.cells #[v0, v1, v2, v3, v4, v5] t2 (0, 0))) :
    X.cell? ⟨g1, 0, none⟩ = some u0 ∧ X.cell? ⟨g1, 2, none⟩ = some u2 ∧ X.cell? ⟨g2, 0, none⟩ = some v0 := by
  obtain ⟨h0, h1, h2, h3⟩ := row4 r1
  obtain ⟨k0, k1, k2, k3, k4, k5⟩ := row6 r2
  exact ⟨h0, h2, k0⟩
/-- Three boxes that a call has made at its beginning. -/
structure Bt (w X : World) (P Q R : Obj) : Prop where
  x : X.heap[w.heap.size]? = some P
  y : X.heap[w.heap.size + 1]? = some Q
  z : X.heap[w.heap.size + 1 + 1]? = some R
  bel : Below w.heap.size w X
  sz : w.heap.size + 3 ≤ X.heap.size
section
variable {w X Y : World} {P Q R R' : Obj}
theorem Bt.first (w : World) (P Q R : Obj) : Bt w (((w.alloc P).alloc Q).alloc R) P Q R := by
  have B := Bx.first (w := w) (X := P) (Y := Q) (Below.refl _ ((w.alloc P).alloc Q))
  refine ⟨row_alloc B.x _, row_alloc B.y _, ?_, B.bel.new _, by simp⟩
  have e : w.heap.size + 1 + 1 = ((w.alloc P).alloc Q).heap.size := by simp
  rw [e]
  exact heap_alloc_new _ _
theorem Bt.call (h : Bt w X P Q R) (b : Below X.heap.size X Y) : Bt w Y P Q R := ⟨b.row (row_lt h.x) h.x, b.row (row_lt h.y) h.y, b.row (row_lt h.z) h.z, h.bel.call b, Nat.le_trans h.sz b.size⟩
theorem Bt.drew (h : Bt w X P Q R) : Bt w X.drew P Q R := h.call (Below.refl _ X).drew
theorem Bt.put (h : Bt w X P Q R) (g : X.grownBy Y (some (w.heap.size + 1 + 1))) (hr : Y.heap[w.heap.size + 1 + 1]? = some R') : Bt w Y P Q R' :=
  ⟨g.row (by omega) h.x, g.row (by omega) h.y, hr, h.bel.grown g h.bel.size (fun j e => by injection e with e; omega), Nat.le_trans h.sz g.size⟩
end
end Go.Proofs.Ytiibopdnlmnkmaa.MoW
/- The walk of use.answer. Written by gen_mowi.py. -/
set_option linter.unusedVariables false
set_option linter.unusedSimpArgs false
namespace Go.Proofs.Ytiibopdnlmnkmaa.MoW
open Go.RowKit Go.Proofs.Ytiibopdnlmnkmaa Go.Proofs.Ytiibopdnlmnkmaa.Mo Go.Proofs.Ytiibopdnlmnkmaa.Ask Go.Proofs.Ytiibopdnlmnkmaa.AskW
set_option maxRecDepth 10000 in
set_option maxHeartbeats 4000000 in
theorem useAnswer_any (x0 x1 x2 x3 : Option Addr) (f a m t : Nat) (Aw : Option Addr) (nw cw : Nat) (Ab : Option Addr) (nb cb : Nat) (W : List Nat) (B : List Bool) (w : World)
    (hW : Sl w w.heap.size Aw nw (ws W)) (hB : Sl w w.heap.size Ab nb (bl B)) (hwf : Req.Wf ⟨f, a, m, t, W, B⟩) (kW : nw ≤ 100000) (kB : nb ≤ 100000) (V : List Bool) (U : List Nat)
    (K0 : (echoF ⟨f, a, m, t, W, B⟩).2 = false → ∀ X, Below w.heap.size w X → Calls Try.prog 51 #[.pointer x0, .int .i64 a, .int .i64 m, .int .i64 8] X (RetSl X (bl V)))
    (K2 : (echoF ⟨f, a, m, t, W, B⟩).2 = false → ∀ X, Below w.heap.size w X → Calls Try.prog 52 #[.pointer x2, .int .i64 a, .int .i64 m, .int .i64 1] X (RetSl X (ws U))) :
    Calls Try.prog 27 #[.agg #[.pointer x0, .pointer x1, .pointer x2, .pointer x3], .agg #[.int .u8 f, .int .u16 a, .int .u16 m, .int .u16 t, .slice Aw nw cw, .slice Ab nb cb]] w (RetRep w (if (echoF ⟨f, a, m, t, W, B⟩).2 then (echoF ⟨f, a, m, t, W, B⟩).1 else ⟨f, 0, V, U, 0, 0⟩)) := by
  have ha := hwf.at'
  have hm := hwf.many
  simp only at ha hm
  have wa : IntKind.i64.wrap (a : Int) = a := by rw [IntKind.wrap_i64]; omega
  have wm : IntKind.i64.wrap (m : Int) = m := by rw [IntKind.wrap_i64]; omega
  have KE0 := fun X (b : Below w.heap.size w X) => echo_any f a m t Aw nw cw Ab nb cb W B X (hW.to b) (hB.to b) hwf kW kB
  obtain ⟨⟨⟨ef, ex, eB, eW, ea, em⟩, eb⟩, hP⟩ : ∃ P, P = echoF ⟨f, a, m, t, W, B⟩ := ⟨_, rfl⟩
  rw [← hP] at KE0 K0 K2 ⊢
  have KE := Lib.hid KE0
  obtain ⟨W0, hW0⟩ : ∃ W0, W0 = ((w.alloc (.cells #[.pointer x0, .pointer x1, .pointer x2, .pointer x3] 65)).alloc (.cells #[.int .u8 f, .int .u16 a, .int .u16 m, .int .u16 t, .slice Aw nw cw, .slice Ab nb cb] 31)).alloc (.cells #[.int .u8 0, .int .u8 0, .slice none 0 0, .slice none 0 0, .int .u16 0, .int .u16 0] 36) := ⟨_, rfl⟩
  have HB : Bt w W0 (.cells #[.pointer x0, .pointer x1, .pointer x2, .pointer x3] 65 (0, 0)) (.cells #[.int .u8 f, .int .u16 a, .int .u16 m, .int .u16 t, .slice Aw nw cw, .slice Ab nb cb] 31 (0, 0)) (.cells #[.int .u8 0, .int .u8 0, .slice none 0 0, .slice none 0 0, .int .u16 0, .int .u16 0] 36 (0, 0)) := by
    rw [hW0]; exact Bt.first w _ _ _
  have HW0 := Lib.hid hW0
  have HW0sz := Lib.hid HB.sz
  clear hW0 hP KE0 hwf hW hB ha hm
  obtain ⟨e0, e1, e2, e3, e4, e5⟩ := row6 HB.y
  cases eb
  case true =>
    clear K0 K2
    go_enter Try.func27, Try.ntmps27
    go_wp2_with fail
    rw [← HW0.out]
    refine (KE.out _ HB.bel).mono ?_
    rintro e w1 h1
    obtain ⟨Ab1, nb1, cb1, Aw1, nw1, cw1, rfl, SB1, SW1, kb1, kw1, fb1, fw1, b1⟩ := h1.out
    have HB := HB.call b1
    have SB := Lib.hid SB1
    have SW := Lib.hid SW1
    have hsz := HB.sz
    clear SB1 SW1 h1 b1 e0 e1 e2 e3 e4 e5
    have q1 := row_alloc HB.z (.cells #[.int .u8 (ef : Nat), .int .u8 (ex : Nat), .slice Ab1 nb1 cb1, .slice Aw1 nw1 cw1, .int .u16 (ea : Nat), .int .u16 (em : Nat)] 36)
    go_wp2_with (first
      | (refine wpList_store_row rfl 36 (.tmp 4) _ rfl (w.heap.size + 1 + 1) #[.int .u8 (ef : Nat), .int .u8 (ex : Nat), .slice Ab1 nb1 cb1, .slice Aw1 nw1 cw1, .int .u16 (ea : Nat), .int .u16 (em : Nat)] rfl rfl 36 _ q1 (by kernel_rfl) rfl (by simp [Value.oneCell']) ?_)
      | fail)
    refine bodyPost_row rfl (w.heap.size + 1 + 1) 36 #[.int .u8 (ef : Nat), .int .u8 (ex : Nat), .slice Ab1 nb1 cb1, .slice Aw1 nw1 cw1, .int .u16 (ea : Nat), .int .u16 (em : Nat)] (0, 0) _ rfl (setRow_heap _ _ _ _ _ _ q1) Try.underlying36 rfl (by kernel_rfl) rfl ?_
    have hz0 := HW0sz.out
    refine ⟨Ab1, nb1, cb1, Aw1, nw1, cw1, rfl, (SB.out.to ((Below.refl _ _).new _)).grown (grown_setRow1 _ _ _) (fun b o e e' => by have := fb1 b o e; injection e' with e'; omega), (SW.out.to ((Below.refl _ _).new _)).grown (grown_setRow1 _ _ _) (fun b o e e' => by have := fw1 b o e; injection e' with e'; omega), kb1, kw1, fun b o e => by have := fb1 b o e; omega, fun b o e => by have := fw1 b o e; omega, ?_⟩
    exact (HB.bel.new _).grown (grown_setRow1 _ _ _) (HB.bel.new _).size (fun j e => by injection e with e; omega)
  case false =>
    have L0 := Lib.hid (K0 rfl)
    have L2 := Lib.hid (K2 rfl)
    clear K0 K2
    go_enter Try.func27, Try.ntmps27
    go_wp2_with fail
    rw [← HW0.out]
    refine (KE.out _ HB.bel).mono ?_
    rintro e w1 h1
    obtain ⟨Ab1, nb1, cb1, Aw1, nw1, cw1, rfl, SB1, SW1, kb1, kw1, fb1, fw1, b1⟩ := h1.out
    have HB := HB.call b1
    have hsz := HB.sz
    clear SB1 SW1 h1 b1 e0 e1 e2 e3 e4 e5
    obtain ⟨e0, e1, e2, e3, e4, e5⟩ := row6 (row_alloc HB.y (.cells #[.int .u8 (ef : Nat), .int .u8 (ex : Nat), .slice Ab1 nb1 cb1, .slice Aw1 nw1 cw1, .int .u16 (ea : Nat), .int .u16 (em : Nat)] 36))
    go_upto_region 4 with fail
    go_cut [7, 8] from 16 to 21 (fun s7 s8 wx => s7 = .int .i64 a ∧ s8 = .int .i64 m ∧ Below w1.heap.size w1 wx)
    case first =>
      go_quiet (fail)
      go_wp2_with fail
      go_meet
      exact ⟨rfl, rfl, ((Below.refl _ _).new _).drewN _⟩
    case rest =>
      obtain ⟨rfl, rfl, hbd⟩ := hcut
      have HB := HB.call hbd
      clear hbd e0 e1 e2 e3 e4 e5
      go_wp2_with fail
      have HB := HB.drew
      refine wp_region_held_drew (S := (fun w' => w'.cell? ⟨w.heap.size, 0, none⟩ = some (.pointer x0) ∧ w'.cell? ⟨w.heap.size, 2, none⟩ = some (.pointer x2) ∧ w'.cell? ⟨w.heap.size + 1, 0, none⟩ = some (.int .u8 f))) (by kernel_rfl) (keep466 HB.x HB.y) (fun hHeld => ?_)
      refine wpAnyH_take (i := 0) (v := ?_) (by simp only [List.getElem?_toArray, List.getElem?_cons_succ, List.getElem?_cons_zero]; rfl) (by kernel_rfl) (by kernel_rfl) (by kernel_rfl) (by exact fun _ _ _ h => h) (Or.inl ⟨by kernel_rfl, ?_⟩) (by assumption) ?_
      rotate_left
      · intro w hSw
        (try dsimp only at hSw)
        go_simp
        try with_reducible rfl
      simp only [Act.put, List.setIfInBounds_toArray, List.set_cons_zero, List.set_cons_succ]
      refine wpAnyH_take (i := 1) (v := ?_) (by simp only [List.getElem?_toArray, List.getElem?_cons_succ, List.getElem?_cons_zero]; rfl) (by kernel_rfl) (by kernel_rfl) (by kernel_rfl) (by exact fun _ _ _ h => h) (Or.inl ⟨by kernel_rfl, ?_⟩) (by assumption) ?_
      rotate_left
      · intro w hSw
        (try dsimp only at hSw)
        go_simp
        try with_reducible rfl
      simp only [Act.put, List.setIfInBounds_toArray, List.set_cons_zero, List.set_cons_succ]
      refine wpAnyH_take (i := 2) (v := ?_) (by simp only [List.getElem?_toArray, List.getElem?_cons_succ, List.getElem?_cons_zero]; rfl) (by kernel_rfl) (by kernel_rfl) (by kernel_rfl) (by exact fun _ _ _ h => h) (Or.inl ⟨by kernel_rfl, ?_⟩) (by assumption) ?_
      rotate_left
      · intro w hSw
        (try dsimp only at hSw)
        go_simp
        try with_reducible rfl
      simp only [Act.put, List.setIfInBounds_toArray, List.set_cons_zero, List.set_cons_succ]
      refine wpAnyH_take (i := 3) (v := ?_) (by simp only [List.getElem?_toArray, List.getElem?_cons_succ, List.getElem?_cons_zero]; rfl) (by kernel_rfl) (by kernel_rfl) (by kernel_rfl) (by exact fun _ _ _ h => h) (Or.inl ⟨by kernel_rfl, ?_⟩) (by assumption) ?_
      rotate_left
      · intro w hSw
        (try dsimp only at hSw)
        go_simp
        try with_reducible rfl
      simp only [Act.put, List.setIfInBounds_toArray, List.set_cons_zero, List.set_cons_succ]
      refine wpAnyH_take (i := 4) (v := ?_) (by simp only [List.getElem?_toArray, List.getElem?_cons_succ, List.getElem?_cons_zero]; rfl) (by kernel_rfl) (by kernel_rfl) (by kernel_rfl) (by exact fun _ _ _ h => h) (Or.inl ⟨by kernel_rfl, ?_⟩) (by assumption) ?_
      rotate_left
      · intro w hSw
        (try dsimp only at hSw)
        go_simp
        try with_reducible rfl
      simp only [Act.put, List.setIfInBounds_toArray, List.set_cons_zero, List.set_cons_succ]
      refine wpAnyH_take (i := 5) (v := ?_) (by simp only [List.getElem?_toArray, List.getElem?_cons_succ, List.getElem?_cons_zero]; rfl) (by kernel_rfl) (by kernel_rfl) (by kernel_rfl) (by exact fun _ _ _ h => h) (Or.inl ⟨by kernel_rfl, ?_⟩) (by assumption) ?_
      rotate_left
      · intro w hSw
        (try dsimp only at hSw)
        go_simp
        try with_reducible rfl
      simp only [Act.put, List.setIfInBounds_toArray, List.set_cons_zero, List.set_cons_succ]
      refine wpAnyH_take (i := 7) (v := ?_) (by simp only [List.getElem?_toArray, List.getElem?_cons_succ, List.getElem?_cons_zero]; rfl) (by kernel_rfl) (by kernel_rfl) (by kernel_rfl) (by exact fun _ _ _ h => h) (Or.inl ⟨by kernel_rfl, ?_⟩) (by assumption) ?_
      rotate_left
      · intro w hSw
        (try dsimp only at hSw)
        go_simp
        try with_reducible rfl
      simp only [Act.put, List.setIfInBounds_toArray, List.set_cons_zero, List.set_cons_succ]
      refine wpAnyH_take (i := 8) (v := ?_) (by simp only [List.getElem?_toArray, List.getElem?_cons_succ, List.getElem?_cons_zero]; rfl) (by kernel_rfl) (by kernel_rfl) (by kernel_rfl) (by exact fun _ _ _ h => h) (Or.inl ⟨by kernel_rfl, ?_⟩) (by assumption) ?_
      rotate_left
      · intro w hSw
        (try dsimp only at hSw)
        go_simp
        try with_reducible rfl
      simp only [Act.put, List.setIfInBounds_toArray, List.set_cons_zero, List.set_cons_succ]
      refine wpAnyH_take (i := 9) (v := ?_) (by simp only [List.getElem?_toArray, List.getElem?_cons_succ, List.getElem?_cons_zero]; rfl) (by kernel_rfl) (by kernel_rfl) (by kernel_rfl) (by exact fun _ _ _ h => h) (Or.inl ⟨by kernel_rfl, ?_⟩) (by assumption) ?_
      rotate_left
      · intro w hSw
        (try dsimp only at hSw)
        go_simp
        try with_reducible rfl
      simp only [Act.put, List.setIfInBounds_toArray, List.set_cons_zero, List.set_cons_succ]
      refine wpAnyH_take (i := 10) (v := ?_) (by simp only [List.getElem?_toArray, List.getElem?_cons_succ, List.getElem?_cons_zero]; rfl) (by kernel_rfl) (by kernel_rfl) (by kernel_rfl) (by exact fun _ _ _ h => h) (Or.inl ⟨by kernel_rfl, ?_⟩) (by assumption) ?_
      rotate_left
      · intro w hSw
        (try dsimp only at hSw)
        go_simp
        try with_reducible rfl
      simp only [Act.put, List.setIfInBounds_toArray, List.set_cons_zero, List.set_cons_succ]
      refine wpAnyH_ready (rs := [6]) (by kernel_rfl) (by simp) ?_
      refine AllReadyH.cons (by simp only [List.getElem?_toArray, List.getElem?_cons_succ, List.getElem?_cons_zero]; rfl) (fun K hK => ?_) AllReadyH.nil
      rw [if_pos (by kernel_rfl)]
      go_simp
      go_at_call 51
      have z1 := HB.sz
      refine (L0.out _ HB.bel).mono ?_
      rintro e wt ⟨A2, n2, c2, rfl, S2, k2, f2, bt⟩
      have HB := HB.call bt
      have S2 := Lib.hid S2
      have f2 := Lib.hid f2
      clear bt
      go_wp2_with fail
      refine hK.out _ _ ?_ (fun hHeld => ?_)
      · exact keep466 HB.x HB.y
      clear hK K
      try simp only [Act.put, List.setIfInBounds_toArray, List.set_cons_zero, List.set_cons_succ]
      refine wpAnyH_ready (rs := [11]) (by kernel_rfl) (by simp) ?_
      refine AllReadyH.cons (by simp only [List.getElem?_toArray, List.getElem?_cons_succ, List.getElem?_cons_zero]; rfl) (fun K hK => ?_) AllReadyH.nil
      rw [if_pos (by kernel_rfl)]
      go_simp
      go_at_call 52
      have z2 := HB.sz
      refine (L2.out _ HB.bel).mono ?_
      rintro e wu ⟨A3, n3, c3, rfl, S3, k3, f3, bt⟩
      have HB := HB.call bt
      have S2 := Lib.hid (S2.out.to bt)
      have S3 := Lib.hid S3
      have f3 := Lib.hid f3
      clear bt
      go_wp2_with fail
      refine hK.out _ _ ?_ (fun hHeld => ?_)
      · exact keep466 HB.x HB.y
      clear hK K
      try simp only [Act.put, List.setIfInBounds_toArray, List.set_cons_zero, List.set_cons_succ]
      refine wpAnyH_take (i := 12) (v := ?_) (by simp only [List.getElem?_toArray, List.getElem?_cons_succ, List.getElem?_cons_zero]; rfl) (by kernel_rfl) (by kernel_rfl) (by kernel_rfl) (by exact fun _ _ _ h => h) (Or.inl ⟨by kernel_rfl, ?_⟩) (by assumption) ?_
      rotate_left
      · intro w hSw
        (try dsimp only at hSw)
        go_simp
        try with_reducible rfl
      simp only [Act.put, List.setIfInBounds_toArray, List.set_cons_zero, List.set_cons_succ]
      refine wpAnyH_ready (rs := [13]) (by kernel_rfl) (by simp) ?_
      refine AllReadyH.cons (by simp only [List.getElem?_toArray, List.getElem?_cons_succ, List.getElem?_cons_zero]; rfl) (fun K hK => ?_) AllReadyH.nil
      rw [if_pos (by kernel_rfl)]
      refine wp_store_row 36 (.tmp 4) (.tmp 34) rfl (w.heap.size + 1 + 1) #[.int .u8 f, .int .u8 0, .slice A2 n2 c2, .slice A3 n3 c3, .int .u16 0, .int .u16 0] rfl rfl 36 _ HB.z (by kernel_rfl) rfl (by simp [Value.oneCell']) ?_
      refine hK.out _ _ ?_ (fun hHeld => ?_)
      · exact keep466 ((grown_setRow1 _ _ _).row (by omega) HB.x) ((grown_setRow1 _ _ _).row (by omega) HB.y)
      clear hK K
      try simp only [Act.put, List.setIfInBounds_toArray, List.set_cons_zero, List.set_cons_succ]
      refine wpAnyH_done (by kernel_rfl) ?_ _
      have HZ := Lib.hid (setRow_heap wu (w.heap.size + 1 + 1) _ #[.int .u8 f, .int .u8 0, .slice A2 n2 c2, .slice A3 n3 c3, .int .u16 0, .int .u16 0] _ _ HB.z)
      have GZ := Lib.hid (grown_setRow1 wu (w.heap.size + 1 + 1) #[.int .u8 f, .int .u8 0, .slice A2 n2 c2, .slice A3 n3 c3, .int .u16 0, .int .u16 0])
      go_wp2_with fail
      refine bodyPost_row rfl (w.heap.size + 1 + 1) 36 #[.int .u8 f, .int .u8 0, .slice A2 n2 c2, .slice A3 n3 c3, .int .u16 0, .int .u16 0] (0, 0) _ rfl HZ.out Try.underlying36 rfl (by kernel_rfl) rfl ?_
      refine ⟨A2, n2, c2, A3, n3, c3, rfl, S2.out.grown GZ.out (fun b o e e' => by have := f2.out b o e; injection e' with e'; omega), S3.out.grown GZ.out (fun b o e e' => by have := f3.out b o e; injection e' with e'; omega), k2, k3, fun b o e => by have := f2.out b o e; omega, fun b o e => by have := f3.out b o e; omega, ?_⟩
      exact HB.bel.grown GZ.out HB.bel.size (fun j e => by injection e with e; omega)
end Go.Proofs.Ytiibopdnlmnkmaa.MoW
/- What a possible request does with what its function uses of a server. Written by gen_mowj.py. -/
set_option linter.unusedVariables false
set_option linter.unusedSimpArgs false
namespace Go.Proofs.Ytiibopdnlmnkmaa.MoW
open Go.RowKit Go.Proofs.Ytiibopdnlmnkmaa Go.Proofs.Ytiibopdnlmnkmaa.Mo Go.Proofs.Ytiibopdnlmnkmaa.Ask Go.Proofs.Ytiibopdnlmnkmaa.AskW
theorem _root_.Go.Proofs.Ytiibopdnlmnkmaa.Has.cap {w0 w : World} {e : TypeId} {A : Option Addr} {n c m : Nat} {xs : List Value} (h : Has w0 w e (.slice A n c) m xs) : n ≤ c := by
  obtain ⟨A', c', e1, h1, _⟩ := h.slice
  injection e1 with _ e2 e3
  omega
theorem _root_.Go.Proofs.Ytiibopdnlmnkmaa.Has.keep {w0 w w' : World} {e : TypeId} {v u : Value} {n : Nat} {xs : List Value} (h : Has w0 w e v n xs) (g : w.grownBy w' u.ownBlock) (ha : Apart u v) (hu : ∀ k, u.ownBlock = some k → w0.heap.size ≤ k) : Has w0 w' e v n xs := by
  cases hk : u.ownBlock with
  | none => rw [hk] at g; exact Has.app h g
  | some k => rw [hk] at g; exact h.other g (hu k hk) (ha k hk)
theorem MmIs.setA {w0 X Y : World} {va vb vc vd : Value} {M : Mem} (h : MmIs w0 X va vb vc vd M) (g : X.grownBy Y va.ownBlock) {l : List Bool} (ha : Has w0 Y 4 va l.length (bl l)) : MmIs w0 Y va vb vc vd ⟨l, M.inputs, M.holding, M.words⟩ :=
  have hu : ∀ k, va.ownBlock = some k → w0.heap.size ≤ k := fun k hk => (h.a.own.lt k hk).1
  ⟨ha, h.b.keep g h.ab hu, h.c.keep g h.ac hu, h.d.keep g h.ad hu, h.ab, h.ac, h.ad, h.bc, h.bd, h.cd⟩
theorem MmIs.setC {w0 X Y : World} {va vb vc vd : Value} {M : Mem} (h : MmIs w0 X va vb vc vd M) (g : X.grownBy Y vc.ownBlock) {l : List Nat} (hc : Has w0 Y 29 vc l.length (ws l)) : MmIs w0 Y va vb vc vd ⟨M.coils, M.inputs, l, M.words⟩ :=
  have hu : ∀ k, vc.ownBlock = some k → w0.heap.size ≤ k := fun k hk => (h.c.own.lt k hk).1
  ⟨h.a.keep g h.ac.symm hu, h.b.keep g h.bc.symm hu, hc, h.d.keep g h.cd hu, h.ab, h.ac, h.ad, h.bc, h.bd, h.cd⟩
theorem use_cases {f a m t : Nat} {W : List Nat} {B : List Bool} (hr : right ⟨f, a, m, t, W, B⟩ = true) :
    (f = 1 ∧ W = [] ∧ B = [] ∧ 1 ≤ m) ∨ (f = 2 ∧ W = [] ∧ B = [] ∧ 1 ≤ m) ∨ (f = 3 ∧ W = [] ∧ B = [] ∧ 1 ≤ m) ∨ (f = 4 ∧ W = [] ∧ B = [] ∧ 1 ≤ m) ∨ (f = 5 ∧ W = [] ∧ 0 < B.length) ∨ (f = 6 ∧ B = [] ∧ 0 < W.length) ∨ (f = 15 ∧ W = [] ∧ 0 < B.length) ∨ (f = 16 ∧ B = [] ∧ 0 < W.length) ∨ (f = 23 ∧ B = [] ∧ 0 < W.length ∧ 1 ≤ m) := by
  have hf := right_fld hr
  dsimp only at hf
  rcases hf with rfl | rfl | rfl | rfl | rfl | rfl | rfl | rfl | rfl
  all_goals simp [right, fld, Fld.right, fits] at hr
  · obtain ⟨h1, ⟨h2, h3⟩, h4⟩ := hr; subst h3 h4; exact .inl ⟨rfl, rfl, rfl, by omega⟩
  · obtain ⟨h1, ⟨h2, h3⟩, h4⟩ := hr; subst h3 h4; exact .inr (.inl ⟨rfl, rfl, rfl, by omega⟩)
  · obtain ⟨h1, ⟨h2, h3⟩, h4⟩ := hr; subst h3 h4; exact .inr (.inr (.inl ⟨rfl, rfl, rfl, by omega⟩))
  · obtain ⟨h1, ⟨h2, h3⟩, h4⟩ := hr; subst h3 h4; exact .inr (.inr (.inr (.inl ⟨rfl, rfl, rfl, by omega⟩)))
  · obtain ⟨h1, ⟨h2, h3⟩, h4⟩ := hr; subst h4; exact .inr (.inr (.inr (.inr (.inl ⟨rfl, rfl, by omega⟩))))
  · obtain ⟨h1, ⟨h2, h3⟩, h4⟩ := hr; subst h3; exact .inr (.inr (.inr (.inr (.inr (.inl ⟨rfl, rfl, by omega⟩)))))
  · obtain ⟨h1, ⟨h2, h3⟩, h4⟩ := hr; subst h4; exact .inr (.inr (.inr (.inr (.inr (.inr (.inl ⟨rfl, rfl, by omega⟩))))))
  · obtain ⟨h1, ⟨h2, h3⟩, h4⟩ := hr; subst h3; exact .inr (.inr (.inr (.inr (.inr (.inr (.inr (.inl ⟨rfl, rfl, by omega⟩)))))))
  · obtain ⟨h1, h3, h4⟩ := hr; subst h3; exact .inr (.inr (.inr (.inr (.inr (.inr (.inr (.inr ⟨rfl, rfl, by omega, by omega⟩)))))))
/-- What is done with what is used. -/
structure UseDo (v y : Sp) (M : Mem) (f a m t : Nat) (Aw : Option Addr) (nw cw : Nat) (Ab : Option Addr) (nb cb : Nat) (W : List Nat) (B : List Bool) (gs : Nat) (W5 : World) (x0 x1 x2 x3 : Option Addr) (og : Option Nat) (V : List Bool) (U : List Nat) : Prop where
  uses : uses gs f = .agg #[.pointer x0, .pointer x1, .pointer x2, .pointer x3]
  hog : ∀ j, og = some j → (Value.slice y.a.A y.a.n y.a.c).ownBlock = some j ∨ (Value.slice y.c.A y.c.n y.c.c).ownBlock = some j
  ans : (if (echoF ⟨f, a, m, t, W, B⟩).2 then (echoF ⟨f, a, m, t, W, B⟩).1 else ⟨f, 0, V, U, 0, 0⟩) = answer (wrote M ⟨f, a, m, t, W, B⟩) ⟨f, a, m, t, W, B⟩
  k1 : ∀ X : World, X.heap[gs]? = some (.cells (srv v y) 77 (0, 0)) → MmIs W5 X (.slice y.a.A y.a.n y.a.c) (.slice y.b.A y.b.n y.b.c) (.slice y.c.A y.c.n y.c.c) (.slice y.d.A y.d.n y.d.c) M → Sl X X.heap.size Ab nb (bl B) →
    Calls Try.prog 48 #[.pointer x1, .int .i64 ((place ⟨f, a, m, t, W, B⟩ : Nat) : Int), .slice Ab nb cb] X fun e w' => e = .returned (.tuple #[]) ∧ X.grownBy w' og ∧ MmIs W5 w' (.slice y.a.A y.a.n y.a.c) (.slice y.b.A y.b.n y.b.c) (.slice y.c.A y.c.n y.c.c) (.slice y.d.A y.d.n y.d.c) ⟨over M.coils (place ⟨f, a, m, t, W, B⟩) B, M.inputs, M.holding, M.words⟩
  k3 : ∀ X : World, X.heap[gs]? = some (.cells (srv v y) 77 (0, 0)) → MmIs W5 X (.slice y.a.A y.a.n y.a.c) (.slice y.b.A y.b.n y.b.c) (.slice y.c.A y.c.n y.c.c) (.slice y.d.A y.d.n y.d.c) ⟨over M.coils (place ⟨f, a, m, t, W, B⟩) B, M.inputs, M.holding, M.words⟩ → Sl X X.heap.size Aw nw (ws W) →
    Calls Try.prog 50 #[.pointer x3, .int .i64 ((place ⟨f, a, m, t, W, B⟩ : Nat) : Int), .slice Aw nw cw] X fun e w' => e = .returned (.tuple #[]) ∧ X.grownBy w' og ∧ MmIs W5 w' (.slice y.a.A y.a.n y.a.c) (.slice y.b.A y.b.n y.b.c) (.slice y.c.A y.c.n y.c.c) (.slice y.d.A y.d.n y.d.c) (wrote M ⟨f, a, m, t, W, B⟩)
  k0 : ∀ X : World, X.heap[gs]? = some (.cells (srv v y) 77 (0, 0)) → MmIs W5 X (.slice y.a.A y.a.n y.a.c) (.slice y.b.A y.b.n y.b.c) (.slice y.c.A y.c.n y.c.c) (.slice y.d.A y.d.n y.d.c) (wrote M ⟨f, a, m, t, W, B⟩) →
    Calls Try.prog 51 #[.pointer x0, .int .i64 a, .int .i64 m, .int .i64 8] X (RetSl X (bl V))
  k2 : ∀ X : World, X.heap[gs]? = some (.cells (srv v y) 77 (0, 0)) → MmIs W5 X (.slice y.a.A y.a.n y.a.c) (.slice y.b.A y.b.n y.b.c) (.slice y.c.A y.c.n y.c.c) (.slice y.d.A y.d.n y.d.c) (wrote M ⟨f, a, m, t, W, B⟩) →
    Calls Try.prog 52 #[.pointer x2, .int .i64 a, .int .i64 m, .int .i64 1] X (RetSl X (ws U))
theorem RetSl.nilB {X : World} {e : Ending} {w' : World} (h : e = .returned (.slice none 0 0) ∧ w' = X) : RetSl X (bl []) e w' := by
  obtain ⟨rfl, rfl⟩ := h
  exact ⟨none, 0, 0, rfl, Sl.empty _ _ _, Nat.le_refl _, (fun _ _ h => by cases h), Below.refl _ _⟩
theorem RetSl.nilW {X : World} {e : Ending} {w' : World} (h : e = .returned (.slice none 0 0) ∧ w' = X) : RetSl X (ws []) e w' := by
  obtain ⟨rfl, rfl⟩ := h
  exact ⟨none, 0, 0, rfl, Sl.empty _ _ _, Nat.le_refl _, (fun _ _ h => by cases h), Below.refl _ _⟩
set_option maxHeartbeats 1000000 in
theorem use_do (v y : Sp) (s : Space) (M : Mem) (f a m t : Nat) (Aw : Option Addr) (nw cw : Nat) (Ab : Option Addr) (nb cb : Nat) (W : List Nat) (B : List Bool) (W5 : World) (gs : Nat) (hc : checkM s ⟨f, a, m, t, W, B⟩ = 0) (hm : rightM s M = true)
    (lW : W.length = nw) (lB : B.length = nb) (hy : y.Small) (la : M.coils.length = y.a.n) (lb : M.inputs.length = y.b.n) (lc : M.holding.length = y.c.n) (ld : M.words.length = y.d.n) :
    ∃ x0 x1 x2 x3 og V U, UseDo v y M f a m t Aw nw cw Ab nb cb W B gs W5 x0 x1 x2 x3 og V U := by
  have hsp := span_ok hc hm
  have hr := (check_ok hc).1
  have ya := hy.a
  have yb := hy.b
  have yc := hy.c
  have yd := hy.d
  have oc := over_length hsp.1
  have oh := over_length hsp.2.1
  have hecho := echo_is hr
  have huc := use_cases hr
  clear hc hm hr hy
  subst lW lB
  rcases huc with ⟨rfl, rfl, rfl, hm1⟩ | ⟨rfl, rfl, rfl, hm1⟩ | ⟨rfl, rfl, rfl, hm1⟩ | ⟨rfl, rfl, rfl, hm1⟩ | ⟨rfl, rfl, hb1⟩ | ⟨rfl, rfl, hw1⟩ | ⟨rfl, rfl, hb1⟩ | ⟨rfl, rfl, hw1⟩ | ⟨rfl, rfl, hw1, hm1⟩
  · refine ⟨(some ⟨gs, 0, none⟩), none, none, none, none, (pad8 (slab (wrote M ⟨1, a, m, t, [], []⟩).coils a m)), [], ⟨rfl, (fun j e => by cases e), by unfold answer; rw [if_neg (by rw [hecho]; simp), if_neg (by rw [hecho]; simp)]; rfl, fun X hr I S => ?_, fun X hr I S => ?_, fun X hr I => ?_, fun X hr I => ?_⟩⟩
    · refine (writeB_nil _ _ _ _ X).mono ?_
      rintro e w' ⟨h1, rfl⟩
      exact ⟨h1, World.grownBy.refl _ _, by rw [over_nil]; exact I⟩
    · refine (writeW_nil _ _ _ _ X).mono ?_
      rintro e w' ⟨h1, rfl⟩
      exact ⟨h1, World.grownBy.refl _ _, by unfold wrote; dsimp only; rw [over_nil M.holding]; exact I⟩
    · have hs := hsp.2.2.1 rfl
      dsimp only at hs
      exact readB_any gs 0 y.a.A y.a.n y.a.c _ a m X (srv_cell hr 1) (row_lt hr) (Sl.of_own I.a.own') I.a.cap hm1 (by omega) (by omega)
    · exact (readW_nil _ _ X).mono fun e w' h => RetSl.nilW h
  · refine ⟨(some ⟨gs, 2, none⟩), none, none, none, none, (pad8 (slab (wrote M ⟨2, a, m, t, [], []⟩).inputs a m)), [], ⟨rfl, (fun j e => by cases e), by unfold answer; rw [if_neg (by rw [hecho]; simp), if_neg (by rw [hecho]; simp)]; rfl, fun X hr I S => ?_, fun X hr I S => ?_, fun X hr I => ?_, fun X hr I => ?_⟩⟩
    · refine (writeB_nil _ _ _ _ X).mono ?_
      rintro e w' ⟨h1, rfl⟩
      exact ⟨h1, World.grownBy.refl _ _, by rw [over_nil]; exact I⟩
    · refine (writeW_nil _ _ _ _ X).mono ?_
      rintro e w' ⟨h1, rfl⟩
      exact ⟨h1, World.grownBy.refl _ _, by unfold wrote; dsimp only; rw [over_nil M.holding]; exact I⟩
    · have hs := hsp.2.2.2.1 rfl
      dsimp only at hs
      exact readB_any gs 2 y.b.A y.b.n y.b.c _ a m X (srv_cell hr 3) (row_lt hr) (Sl.of_own I.b.own') I.b.cap hm1 (by omega) (by omega)
    · exact (readW_nil _ _ X).mono fun e w' h => RetSl.nilW h
  · refine ⟨none, none, (some ⟨gs, 4, none⟩), none, none, [], (slab (wrote M ⟨3, a, m, t, [], []⟩).holding a m), ⟨rfl, (fun j e => by cases e), by unfold answer; rw [if_neg (by rw [hecho]; simp), if_neg (by rw [hecho]; simp)]; rfl, fun X hr I S => ?_, fun X hr I S => ?_, fun X hr I => ?_, fun X hr I => ?_⟩⟩
    · refine (writeB_nil _ _ _ _ X).mono ?_
      rintro e w' ⟨h1, rfl⟩
      exact ⟨h1, World.grownBy.refl _ _, by rw [over_nil]; exact I⟩
    · refine (writeW_nil _ _ _ _ X).mono ?_
      rintro e w' ⟨h1, rfl⟩
      exact ⟨h1, World.grownBy.refl _ _, by unfold wrote; dsimp only; rw [over_nil M.holding]; exact I⟩
    · exact (readB_nil _ _ X).mono fun e w' h => RetSl.nilB h
    · have hs := hsp.2.2.2.2.1 (.inl rfl)
      dsimp only at hs
      exact readW_any gs 4 y.c.A y.c.n y.c.c _ a m X (srv_cell hr 5) (row_lt hr) (Sl.of_own I.c.own') I.c.cap hm1 (by omega) (by omega)
  · refine ⟨none, none, (some ⟨gs, 6, none⟩), none, none, [], (slab (wrote M ⟨4, a, m, t, [], []⟩).words a m), ⟨rfl, (fun j e => by cases e), by unfold answer; rw [if_neg (by rw [hecho]; simp), if_neg (by rw [hecho]; simp)]; rfl, fun X hr I S => ?_, fun X hr I S => ?_, fun X hr I => ?_, fun X hr I => ?_⟩⟩
    · refine (writeB_nil _ _ _ _ X).mono ?_
      rintro e w' ⟨h1, rfl⟩
      exact ⟨h1, World.grownBy.refl _ _, by rw [over_nil]; exact I⟩
    · refine (writeW_nil _ _ _ _ X).mono ?_
      rintro e w' ⟨h1, rfl⟩
      exact ⟨h1, World.grownBy.refl _ _, by unfold wrote; dsimp only; rw [over_nil M.holding]; exact I⟩
    · exact (readB_nil _ _ X).mono fun e w' h => RetSl.nilB h
    · have hs := hsp.2.2.2.2.2.2 rfl
      dsimp only at hs
      exact readW_any gs 6 y.d.A y.d.n y.d.c _ a m X (srv_cell hr 7) (row_lt hr) (Sl.of_own I.d.own') I.d.cap hm1 (by omega) (by omega)
  · refine ⟨none, (some ⟨gs, 0, none⟩), none, none, (Value.slice y.a.A y.a.n y.a.c).ownBlock, [], [], ⟨rfl, fun j e => .inl e, by unfold answer; rw [if_pos (by rw [hecho]; simp), if_pos (by rw [hecho]; simp)], fun X hr I S => ?_, fun X hr I S => ?_, fun X hr I => ?_, fun X hr I => ?_⟩⟩
    · have hh := I.a
      rw [la] at hh
      have fitB := hsp.1
      dsimp only at fitB
      have fitB := fitB.resolve_left (fun h => by rw [h] at hb1; simp at hb1)
      rw [la] at fitB
      refine (writeB_any W5 gs 0 y.a.A y.a.n y.a.c M.coils _ Ab B.length cb B X (srv_cell hr 1) hh S hb1 fitB ya).mono ?_
      rintro e w' ⟨h1, h2, h3⟩
      refine ⟨h1, h3, I.setA h3 (by dsimp only at oc; rw [oc, la]; exact h2)⟩
    · refine (writeW_nil _ _ _ _ X).mono ?_
      rintro e w' ⟨h1, rfl⟩
      exact ⟨h1, World.grownBy.refl _ _, by unfold wrote; dsimp only; rw [over_nil M.holding]; exact I⟩
    · exact (readB_nil _ _ X).mono fun e w' h => RetSl.nilB h
    · exact (readW_nil _ _ X).mono fun e w' h => RetSl.nilW h
  · refine ⟨none, none, none, (some ⟨gs, 4, none⟩), (Value.slice y.c.A y.c.n y.c.c).ownBlock, [], [], ⟨rfl, fun j e => .inr e, by unfold answer; rw [if_pos (by rw [hecho]; simp), if_pos (by rw [hecho]; simp)], fun X hr I S => ?_, fun X hr I S => ?_, fun X hr I => ?_, fun X hr I => ?_⟩⟩
    · refine (writeB_nil _ _ _ _ X).mono ?_
      rintro e w' ⟨h1, rfl⟩
      exact ⟨h1, World.grownBy.refl _ _, by rw [over_nil]; exact I⟩
    · rw [over_nil] at I
      have hh := I.c
      dsimp only at hh
      rw [lc] at hh
      have fitW := hsp.2.1
      dsimp only at fitW
      have fitW := fitW.resolve_left (fun h => by rw [h] at hw1; simp at hw1)
      rw [lc] at fitW
      refine (writeW_any W5 gs 4 y.c.A y.c.n y.c.c M.holding _ Aw W.length cw W X (srv_cell hr 5) hh S hw1 fitW yc).mono ?_
      rintro e w' ⟨h1, h2, h3⟩
      refine ⟨h1, h3, ?_⟩
      have := I.setC h3 (l := over M.holding (place ⟨6, a, m, t, W, []⟩) W) (by dsimp only at oh; rw [oh, lc]; exact h2)
      unfold wrote
      dsimp only
      rw [over_nil]
      exact this
    · exact (readB_nil _ _ X).mono fun e w' h => RetSl.nilB h
    · exact (readW_nil _ _ X).mono fun e w' h => RetSl.nilW h
  · refine ⟨none, (some ⟨gs, 0, none⟩), none, none, (Value.slice y.a.A y.a.n y.a.c).ownBlock, [], [], ⟨rfl, fun j e => .inl e, by unfold answer; rw [if_pos (by rw [hecho]; simp), if_pos (by rw [hecho]; simp)], fun X hr I S => ?_, fun X hr I S => ?_, fun X hr I => ?_, fun X hr I => ?_⟩⟩
    · have hh := I.a
      rw [la] at hh
      have fitB := hsp.1
      dsimp only at fitB
      have fitB := fitB.resolve_left (fun h => by rw [h] at hb1; simp at hb1)
      rw [la] at fitB
      refine (writeB_any W5 gs 0 y.a.A y.a.n y.a.c M.coils _ Ab B.length cb B X (srv_cell hr 1) hh S hb1 fitB ya).mono ?_
      rintro e w' ⟨h1, h2, h3⟩
      refine ⟨h1, h3, I.setA h3 (by dsimp only at oc; rw [oc, la]; exact h2)⟩
    · refine (writeW_nil _ _ _ _ X).mono ?_
      rintro e w' ⟨h1, rfl⟩
      exact ⟨h1, World.grownBy.refl _ _, by unfold wrote; dsimp only; rw [over_nil M.holding]; exact I⟩
    · exact (readB_nil _ _ X).mono fun e w' h => RetSl.nilB h
    · exact (readW_nil _ _ X).mono fun e w' h => RetSl.nilW h
  · refine ⟨none, none, none, (some ⟨gs, 4, none⟩), (Value.slice y.c.A y.c.n y.c.c).ownBlock, [], [], ⟨rfl, fun j e => .inr e, by unfold answer; rw [if_pos (by rw [hecho]; simp), if_pos (by rw [hecho]; simp)], fun X hr I S => ?_, fun X hr I S => ?_, fun X hr I => ?_, fun X hr I => ?_⟩⟩
    · refine (writeB_nil _ _ _ _ X).mono ?_
      rintro e w' ⟨h1, rfl⟩
      exact ⟨h1, World.grownBy.refl _ _, by rw [over_nil]; exact I⟩
    · rw [over_nil] at I
      have hh := I.c
      dsimp only at hh
      rw [lc] at hh
      have fitW := hsp.2.1
      dsimp only at fitW
      have fitW := fitW.resolve_left (fun h => by rw [h] at hw1; simp at hw1)
      rw [lc] at fitW
      refine (writeW_any W5 gs 4 y.c.A y.c.n y.c.c M.holding _ Aw W.length cw W X (srv_cell hr 5) hh S hw1 fitW yc).mono ?_
      rintro e w' ⟨h1, h2, h3⟩
      refine ⟨h1, h3, ?_⟩
      have := I.setC h3 (l := over M.holding (place ⟨16, a, m, t, W, []⟩) W) (by dsimp only at oh; rw [oh, lc]; exact h2)
      unfold wrote
      dsimp only
      rw [over_nil]
      exact this
    · exact (readB_nil _ _ X).mono fun e w' h => RetSl.nilB h
    · exact (readW_nil _ _ X).mono fun e w' h => RetSl.nilW h
  · refine ⟨none, none, (some ⟨gs, 4, none⟩), (some ⟨gs, 4, none⟩), (Value.slice y.c.A y.c.n y.c.c).ownBlock, [], (slab (wrote M ⟨23, a, m, t, W, []⟩).holding a m), ⟨rfl, fun j e => .inr e, by unfold answer; rw [if_neg (by rw [hecho]; simp), if_neg (by rw [hecho]; simp)]; rfl, fun X hr I S => ?_, fun X hr I S => ?_, fun X hr I => ?_, fun X hr I => ?_⟩⟩
    · refine (writeB_nil _ _ _ _ X).mono ?_
      rintro e w' ⟨h1, rfl⟩
      exact ⟨h1, World.grownBy.refl _ _, by rw [over_nil]; exact I⟩
    · rw [over_nil] at I
      have hh := I.c
      dsimp only at hh
      rw [lc] at hh
      have fitW := hsp.2.1
      dsimp only at fitW
      have fitW := fitW.resolve_left (fun h => by rw [h] at hw1; simp at hw1)
      rw [lc] at fitW
      refine (writeW_any W5 gs 4 y.c.A y.c.n y.c.c M.holding _ Aw W.length cw W X (srv_cell hr 5) hh S hw1 fitW yc).mono ?_
      rintro e w' ⟨h1, h2, h3⟩
      refine ⟨h1, h3, ?_⟩
      have := I.setC h3 (l := over M.holding (place ⟨23, a, m, t, W, []⟩) W) (by dsimp only at oh; rw [oh, lc]; exact h2)
      unfold wrote
      dsimp only
      rw [over_nil]
      exact this
    · exact (readB_nil _ _ X).mono fun e w' h => RetSl.nilB h
    · have hs := hsp.2.2.2.2.1 (.inr rfl)
      dsimp only at hs
      exact readW_any gs 4 y.c.A y.c.n y.c.c _ a m X (srv_cell hr 5) (row_lt hr) (Sl.of_own I.c.own') I.c.cap hm1 (by omega) (by omega)
end Go.Proofs.Ytiibopdnlmnkmaa.MoW
