/- The walk of DiskApart (layer 9), over the contracts DiskK. -/
import Derived.Test.YtljiehnpknbohaaDkW
import Derived.Test.YtljiehnpknbohaaDkR
import Derived.RegionTactic
set_option linter.unusedVariables false
set_option linter.unusedSimpArgs false
namespace Go.Proofs.Ytljiehnpknbohaa.DkW
open Go.RowKit Go.Proofs.Ytljiehnpknbohaa Go.Proofs.Ytljiehnpknbohaa.Dk
theorem append_new {l : List Nat} (h : l.length ≤ 300) : append (Dk.new 1000) l = (⟨1000, 0, -1, l, false⟩, 0) := by
  have e : put (Dk.new 1000) l l.length = ⟨1000, 0, -1, l, false⟩ := by
    unfold put Dk.new
    simp
  have h1 : ¬ (Dk.new 1000).room < (Dk.new 1000).b.length + l.length := by show ¬ 1000 < 0 + l.length; omega
  have h2 : ¬ (0 ≤ (Dk.new 1000).left ∧ (Dk.new 1000).left < l.length) := by show ¬ ((0 : Int) ≤ -1 ∧ _); omega
  unfold append
  rw [if_neg (by decide), if_neg h1, if_neg h2, e]
theorem apart_big (K : DiskK) (A : Option Addr) (n c : Nat) (w : World) (h : 300 < n) :
    Calls Try.prog 6 #[.slice A n c] w fun e w' => e = .returned (.bool true) ∧ Below w.heap.size w w' := by
  have hd : (300 : Int) < (n : Int) := by omega
  go_enter Try.func6, Try.ntmps6
  go_wp2_with fail
  refine (K.new 1000 _ (by omega)).mono ?_
  rintro e w1 ⟨p, S, rfl, D1, b1⟩
  go_wp2_with fail
  refine (awake9_any K _).mono ?_
  rintro e w2 ⟨rfl, b2⟩
  go_wp2_with fail
  go_ret
  exact ⟨rfl, b1.call b2⟩
set_option maxHeartbeats 4000000 in
theorem apart_core (K : DiskK) (A : Option Addr) (n c : Nat) (l : List Nat) (w : World) (hs : Sl w w.heap.size A n (bs l)) (hl : Bytes l) (hn : n ≤ 300) (h1 : 1 ≤ n) :
    Calls Try.prog 6 #[.slice A n c] w fun e w' => e = .returned (.bool true) ∧ Below w.heap.size w w' := by
  have hd : ¬ (300 : Int) < (n : Int) := by omega
  have q1 : l.length = n := by simpa using hs.len
  have HK := Lib.hid K
  have HS := Lib.hid hs
  have HL := Lib.hid hl
  have HQ := Lib.hid q1
  have HAN := Lib.hid (append_new (l := l) (by omega))
  clear hs q1
  go_enter Try.func6, Try.ntmps6
  go_wp2_with fail
  refine (HK.out.new 1000 _ (by omega)).mono ?_
  rintro e w1 ⟨p, S, rfl, D1, b1⟩
  have S0 := HS.out.to (b1.new (.cells #[] 5))
  go_wp2_with (first
    | (at_builtin; refine wpList_app _root_.Go.Proofs.Ytljiehnpknbohaa.DkW.u8 rfl (.tmp 25) (.tmp 26) rfl (Has.made0 (Below.refl _ w1) _) rfl S0 rfl (bs_one _) (by omega) (by simp only [maxLen]; omega) ?_; intro v3 w3 H3 _ _; rw [Nat.zero_add, List.nil_append] at H3)
    | fail)
  have H3' := H3
  obtain ⟨g, cp, cur, rfl, hge, hg, hcap, hmax, hsz, hcur⟩ := Or.resolve_left H3.own.2 (fun h => absurd h.2 (by omega))
  obtain ⟨A3, c3, e3, -, S3, -⟩ := H3.slice
  cases e3
  have b3 := H3.bel
  have D3 := D1.to b3
  have B3 := b1.call b3
  have hgS1 : ¬ S g := fun hs => by have := D1.hi _ hs; omega
  rw [Nat.mul_one] at hcur
  clear H3 H3' S0 b3 hcap hmax hsz
  go_wp2_with fail
  refine (HK.out.append (Dk.new 1000) w.heap.size S p _ n _ l _ D3 S3 (fun _ b o e hs => by injection e with e; injection e with e1 _ _; subst e1; exact hgS1 hs) HL.out (by omega)).mono ?_
  rw [HAN.out]
  rintro e w4 ⟨rfl, S', D4, st, hS⟩
  have B4 := B3.trans (st.below B3.size D3.lo)
  have hg4 := st.row hgS1 hg
  have hgS := Lib.hid (show ¬ S' g from fun hs => by
    rcases hS g hs with h | h
    · exact hgS1 h
    · have := row_lt hg; omega)
  have hge : w.heap.size ≤ g := Nat.le_trans b1.size hge
  clear st hS D3 D1 B3 b1 S3 hgS1 hg
  go_wp2_with fail
  go_loopw [34] (fun i wr => ∃ kk : Nat, ∃ l' : List Nat, ∃ cur' : Array Value, kk ≤ n ∧ i = .int .i64 kk ∧ Bytes l' ∧ l'.length = n ∧ wr.heap[g]? = some (.cells cur' 5 (0, 0)) ∧ cur'.toList.take n = bs l' ∧ Dk wr w.heap.size S' p ⟨1000, 0, -1, l, false⟩ ∧ Below w.heap.size w wr) (fun i _ => n - (intOf i).toNat)
  case atStart => exact ⟨0, l, cur, by omega, rfl, HL.out, HQ.out, hg4, hcur, D4, B4⟩
  case round =>
    obtain ⟨k, l', cur', hk, rfl, hb', hl', hrow, htake, hD, hbel⟩ := hrel
    clear hg4 hcur D4 B4
    by_cases hlt : k < n
    · have gq : cur'.toList[k]? = some (.int .u8 ((l'[k]?.getD 0 : Nat) : Int)) := by
        have : (cur'.toList.take n)[k]? = (bs l')[k]? := by rw [htake]
        rw [List.getElem?_take, if_pos hlt, bs_get (by omega)] at this
        exact this
      have gx : wr.cell? ⟨g, k, none⟩ = some (.int .u8 ((l'[k]?.getD 0 : Nat) : Int)) := by rw [cell_of_row wr g k _ _ _ hrow]; simpa using gq
      have fx : wr.frozen? ⟨g, k, none⟩ = false := frozen_of_row wr _ k _ _ hrow
      have y0 : (0 : Int) ≤ (k : Int) := by omega
      have y1 : (k : Int) < (n : Int) := by omega
      have hy := hb'.at k
      obtain ⟨y, ey⟩ : ∃ y, y = l'[k]?.getD 0 := ⟨_, rfl⟩
      rw [← ey] at gx hy
      have hwy : IntKind.u8.wrap ((y : Int) + 1) = (((y + 1) % 256 : Nat) : Int) := by rw [IntKind.wrap_u8]; omega
      obtain ⟨y1', ey1⟩ : ∃ z, z = (y + 1) % 256 := ⟨_, rfl⟩
      have hy1 : y1' < 256 := by omega
      rw [← ey1] at hwy
      have HX := Lib.hid hrow
      have HTK := Lib.hid htake
      clear hrow ey gq htake ey1
      go_wp2_with fail
      go_roundw
      case rel =>
        refine ⟨k + 1, l'.set k y1', _, by omega, by go_num, ?_, by rw [List.length_set]; exact hl', heap_setCell_same wr g k _ _ _ HX.out, ?_, hD.other ⟨rfl, rfl, rfl, by simp [World.setCell], fun j _ hne => Below.heap_setCell _ _ _ _ (fun e => hne (by rw [e]))⟩ (fun j e hs => by injection e with e; subst e; exact hgS.out hs), hbel.setCell hge _⟩
        · intro c hc'
          rcases List.mem_or_eq_of_mem_set hc' with h | rfl
          · exact hb' c h
          · exact hy1
        · rw [Array.toList_setIfInBounds, List.take_set, HTK.out]; simp [bs, List.map_set]
      case measure => simp [intOf]; omega
    · obtain rfl : k = n := by omega
      clear hrow htake hb' hl'
      go_wp2_with fail
      refine (HK.out.bytes _ w.heap.size S' p _ hD).mono ?_
      rintro e w5 ⟨v5, rfl, H5⟩
      have H5 : Has wr w5 5 v5 l.length (bs l) := H5
      rw [HQ.out] at H5
      obtain ⟨g2, cp2, cur2, rfl, hge2, hg2, hcap2, hmax2, hsz2, hcur2⟩ := Or.resolve_left H5.own.2 (fun h => absurd h.2 (by omega))
      have b5 := H5.bel
      have D5 := hD.to b5
      have B5 := hbel.call b5
      have hgS := Lib.hid (show ¬ S' g2 from fun hs => by have := hD.hi _ hs; omega)
      have hge : w.heap.size ≤ g2 := Nat.le_trans hbel.size hge2
      rw [Nat.mul_one] at hcur2
      dsimp only [List.length]
      try rw [HQ.out]
      clear H5 b5 hD hbel hcap2 hmax2 hsz2
      go_wp2_with fail
      go_loopw [48] (fun i wr => ∃ kk : Nat, ∃ l' : List Nat, ∃ cur' : Array Value, kk ≤ k ∧ i = .int .i64 kk ∧ Bytes l' ∧ l'.length = k ∧ wr.heap[g2]? = some (.cells cur' 5 (0, 0)) ∧ cur'.toList.take k = bs l' ∧ Dk wr w.heap.size S' p ⟨1000, 0, -1, l, false⟩ ∧ Below w.heap.size w wr) (fun i _ => k - (intOf i).toNat)
      case atStart => exact ⟨0, l, cur2, by omega, rfl, HL.out, HQ.out, hg2, hcur2, D5, B5⟩
      case round =>
        obtain ⟨j, l', cur', hj, rfl, hb', hl', hrow, htake, hD, hbel⟩ := hrel
        clear hg2 hcur2 D5 B5
        by_cases hlt : j < k
        · have gq : cur'.toList[j]? = some (.int .u8 ((l'[j]?.getD 0 : Nat) : Int)) := by
            have : (cur'.toList.take k)[j]? = (bs l')[j]? := by rw [htake]
            rw [List.getElem?_take, if_pos hlt, bs_get (by omega)] at this
            exact this
          have gx : wr.cell? ⟨g2, j, none⟩ = some (.int .u8 ((l'[j]?.getD 0 : Nat) : Int)) := by rw [cell_of_row wr g2 j _ _ _ hrow]; simpa using gq
          have fx : wr.frozen? ⟨g2, j, none⟩ = false := frozen_of_row wr _ j _ _ hrow
          have y0 : (0 : Int) ≤ (j : Int) := by omega
          have y1 : (j : Int) < (k : Int) := by omega
          have hy := hb'.at j
          obtain ⟨y, ey⟩ : ∃ y, y = l'[j]?.getD 0 := ⟨_, rfl⟩
          rw [← ey] at gx hy
          have hwy : IntKind.u8.wrap ((y : Int) + 1) = (((y + 1) % 256 : Nat) : Int) := by rw [IntKind.wrap_u8]; omega
          obtain ⟨y1', ey1⟩ : ∃ z, z = (y + 1) % 256 := ⟨_, rfl⟩
          have hy1 : y1' < 256 := by omega
          rw [← ey1] at hwy
          have HX := Lib.hid hrow
          have HTK := Lib.hid htake
          clear hrow ey gq htake ey1
          go_wp2_with fail
          go_roundw
          case rel =>
            refine ⟨j + 1, l'.set j y1', _, by omega, by go_num, ?_, by rw [List.length_set]; exact hl', heap_setCell_same wr g2 j _ _ _ HX.out, ?_, hD.other ⟨rfl, rfl, rfl, by simp [World.setCell], fun j _ hne => Below.heap_setCell _ _ _ _ (fun e => hne (by rw [e]))⟩ (fun j e hs => by injection e with e; subst e; exact hgS.out hs), hbel.setCell hge _⟩
            · intro c hc'
              rcases List.mem_or_eq_of_mem_set hc' with h | rfl
              · exact hb' c h
              · exact hy1
            · rw [Array.toList_setIfInBounds, List.take_set, HTK.out]; simp [bs, List.map_set]
          case measure => simp [intOf]; omega
        · obtain rfl : j = k := by omega
          clear hrow htake hb' hl'
          go_wp2_with fail
          refine (HK.out.bytes _ w.heap.size S' p _ hD).mono ?_
          rintro e w6 ⟨v6, rfl, H6⟩
          have H6 : Has _ w6 5 v6 l.length (bs l) := H6
          obtain ⟨A6, c6, rfl, -, S6, -⟩ := H6.slice
          have B6 := hbel.call H6.bel
          clear H6
          dsimp only [List.length]
          go_wp2_with fail
          refine (WdW.law6Same_any A6 A _ c6 j c _ l l _ S6 HL.out (HS.out.to B6) HL.out).mono ?_
          rw [beq_self_eq_true]
          rintro e w7 ⟨rfl, rfl⟩
          go_wp2_with fail
          refine (awake9_any HK.out _).mono ?_
          rintro e w8 ⟨rfl, b8⟩
          go_wp2_with fail
          go_ret
          exact ⟨rfl, B6.call b8⟩
theorem apart_none (K : DiskK) (A : Option Addr) (c : Nat) (w : World) :
    Calls Try.prog 6 #[.slice A 0 c] w fun e w' => e = .returned (.bool true) ∧ Below w.heap.size w w' := by
  have HK := Lib.hid K
  have HAN := Lib.hid (append_new (l := []) (by decide))
  go_enter Try.func6, Try.ntmps6
  go_wp2_with fail
  refine (HK.out.new 1000 _ (by omega)).mono ?_
  rintro e w1 ⟨p, S, rfl, D1, b1⟩
  go_wp2_with (first
    | (at_builtin; refine wpList_app _root_.Go.Proofs.Ytljiehnpknbohaa.DkW.u8 rfl (.tmp 25) (.tmp 26) rfl (Has.made0 (Below.refl _ w1) _) rfl (Sl.empty (w1.alloc (.cells #[] 5)) 0 A) rfl (bs_one []) (by omega) (by simp only [maxLen]; omega) ?_; intro v3 w3 H3 _ _; rw [Nat.zero_add, List.nil_append] at H3)
    | fail)
  obtain ⟨A3, c3, rfl, -, S3, -⟩ := H3.slice
  have b3 := H3.bel
  have D3 := D1.to b3
  have B3 := b1.call b3
  clear H3 b3
  go_wp2_with fail
  refine (HK.out.append (Dk.new 1000) w.heap.size S p _ 0 _ [] _ D3 S3 (fun h => absurd h (by omega)) (fun _ h => by cases h) (by omega)).mono ?_
  rw [HAN.out]
  rintro e w4 ⟨rfl, S', D4, st, hS⟩
  have B4 := B3.trans (st.below B3.size D3.lo)
  clear st hS D3 D1 B3 b1 S3
  go_wp2_with fail
  go_loop [34] (fun i => i = .int .i64 0) (fun _ => 0)
  case atStart => rfl
  case round =>
    subst hrel
    go_wp2_with fail
    refine (HK.out.bytes _ w.heap.size S' p _ D4).mono ?_
    rintro e w5 ⟨v5, rfl, H5⟩
    have H5 : Has w4 w5 5 v5 0 (bs []) := H5
    obtain ⟨A5, c5, rfl, -, -, -⟩ := H5.slice
    have D5 := D4.to H5.bel
    have B5 := B4.call H5.bel
    clear H5 D4 B4
    dsimp only [List.length]
    go_wp2_with fail
    go_loop [48] (fun i => i = .int .i64 0) (fun _ => 0)
    case atStart => rfl
    case round =>
      subst hrel
      go_wp2_with fail
      refine (HK.out.bytes _ w.heap.size S' p _ D5).mono ?_
      rintro e w6 ⟨v6, rfl, H6⟩
      have H6 : Has _ w6 5 v6 0 (bs []) := H6
      obtain ⟨A6, c6, rfl, -, S6, -⟩ := H6.slice
      have B6 := B5.call H6.bel
      clear H6
      dsimp only [List.length]
      go_wp2_with fail
      refine (WdW.law6Same_any A6 A 0 c6 0 c _ [] [] _ S6 (fun _ h => by cases h) (Sl.empty _ _ _) (fun _ h => by cases h)).mono ?_
      rw [beq_self_eq_true]
      rintro e w7 ⟨rfl, rfl⟩
      go_wp2_with fail
      refine (awake9_any HK.out _).mono ?_
      rintro e w8 ⟨rfl, b8⟩
      go_wp2_with fail
      go_ret
      exact ⟨rfl, B6.call b8⟩
theorem diskApart_any (K : DiskK) (A : Option Addr) (n c : Nat) (l : List Nat) (w : World) (hs : Sl w w.heap.size A n (bs l)) (hl : Bytes l) :
    Calls Try.prog 6 #[.slice A n c] w fun e w' => e = .returned (.bool true) ∧ Below w.heap.size w w' := by
  by_cases h : 300 < n
  · exact apart_big K A n c w h
  · by_cases h1 : 1 ≤ n
    · exact apart_core K A n c l w hs hl (by omega) h1
    · obtain rfl : n = 0 := by omega
      obtain rfl : l = [] := List.eq_nil_of_length_eq_zero (by simpa using hs.len)
      exact apart_none K A c w
end Go.Proofs.Ytljiehnpknbohaa.DkW
