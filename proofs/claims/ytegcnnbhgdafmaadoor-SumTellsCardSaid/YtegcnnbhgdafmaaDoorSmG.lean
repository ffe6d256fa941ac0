/- The walk of SumTells. -/
import Derived.Test.YtegcnnbhgdafmaaDoorSmB
import Derived.Test.YtegcnnbhgdafmaaDoorSmD
import Derived.WalkLawsBesides
set_option linter.unusedVariables false
set_option linter.unusedSimpArgs false
namespace Go.Proofs.YtegcnnbhgdafmaaDoor.SmW
open Go.RowKit Go.Proofs.YtegcnnbhgdafmaaDoor Go.Proofs.YtegcnnbhgdafmaaDoor.Sm Go.Proofs.YtegcnnbhgdafmaaDoor.Wd
/-- What so many noughts make of a register, none if there are less than none. -/
def zr (a : Int) (s : Nat) : Nat := if a < 0 then s else it (8 * a.toNat) s
theorem zeros_all (s : Nat) (a : Int) (hs : s < 4294967296) (ha : a ≤ 9223372036854775807) (w : World) (ht : TabW w) :
    Calls Tryd.prog 13 #[.int .u32 s, .int .i64 a] w fun e w' => e = .returned (.int .u32 (zr a s : Nat)) ∧ Below w.heap.size w w' := by
  unfold zr
  by_cases h : a < 0
  · rw [if_pos h]; exact zeros_neg s a h w
  · rw [if_neg h]
    obtain ⟨n, rfl⟩ : ∃ n : Nat, a = n := ⟨a.toNat, by omega⟩
    rw [Int.toNat_natCast]
    exact zeros_any s n hs (by omega) w ht
theorem refZeros_all (s : Nat) (a : Int) (hs : s < 4294967296) (ha : a ≤ 9223372036854775807) (w : World) :
    Calls Tryd.prog 14 #[.int .u32 s, .int .i64 a] w fun e w' => e = .returned (.int .u32 (zr a s : Nat)) ∧ w = w' := by
  unfold zr
  by_cases h : a < 0
  · rw [if_pos h]; exact refZeros_neg s a w h
  · rw [if_neg h]
    obtain ⟨n, rfl⟩ : ∃ n : Nat, a = n := ⟨a.toNat, by omega⟩
    rw [Int.toNat_natCast]
    exact refZeros_any s n w hs (by omega)
theorem tells_big (s : Nat) (A A2 : Option Addr) (n c n2 c2 : Nat) (a : Int) (w : World) (hn : 500 < n) :
    Calls Tryd.prog 3 #[.int .u32 s, .slice A n c, .slice A2 n2 c2, .int .i64 a] w fun e w' => e = .returned (.bool true) ∧ Below w.heap.size w w' := by
  have hd : (500 : Int) < (n : Int) := by omega
  go_enter Tryd.func3, Tryd.ntmps3
  go_wp2_with fail
  refine (awake_any _).mono ?_
  rintro e w1 ⟨rfl, b1⟩
  go_wp2_with fail
  go_ret
  exact ⟨rfl, b1⟩
theorem tells_long (s : Nat) (A A2 : Option Addr) (n c n2 c2 : Nat) (a : Int) (w : World) (hn : n ≤ 500) (hn2 : 200 < n2) :
    Calls Tryd.prog 3 #[.int .u32 s, .slice A n c, .slice A2 n2 c2, .int .i64 a] w fun e w' => e = .returned (.bool true) ∧ Below w.heap.size w w' := by
  have hd : ¬ (500 : Int) < (n : Int) := by omega
  have hd2 : (200 : Int) < (n2 : Int) := by omega
  go_enter Tryd.func3, Tryd.ntmps3
  go_wp2_with fail
  refine (awake_any _).mono ?_
  rintro e w1 ⟨rfl, b1⟩
  go_wp2_with fail
  go_ret
  exact ⟨rfl, b1⟩
set_option maxHeartbeats 2000000 in
theorem tells_core (s : Nat) (A A2 : Option Addr) (n c n2 c2 : Nat) (l l2 : List Nat) (a a' : Int) (w : World) (hs : s < 4294967296) (S1 : Sl w w.heap.size A n (bs l)) (C1 : Bytes l) (S2 : Sl w w.heap.size A2 n2 (ws l2)) (C2 : ∀ x ∈ l2, x < 65536)
    (hn : n ≤ 500) (hn2 : n2 ≤ 200) (ha : (500 < a ∧ Int.tmod a 501 = a') ∨ (a ≤ 500 ∧ a = a')) (ha2 : a' ≤ 9223372036854775807) (ha3 : -9223372036854775808 ≤ a') (ht : TabW w) :
    Calls Tryd.prog 3 #[.int .u32 s, .slice A n c, .slice A2 n2 c2, .int .i64 a] w fun e w' => e = .returned (.bool true) ∧ Below w.heap.size w w' := by
  have hd : ¬ (500 : Int) < (n : Int) := by omega
  have hd2 : ¬ (200 : Int) < (n2 : Int) := by omega
  have hl : l.length = n := by simpa using S1.len
  have HL := Lib.hid hl
  have HC1 := Lib.hid C1
  have HC2 := Lib.hid C2
  have HS1 := Lib.hid S1
  have HS2 := Lib.hid S2
  have HA := Lib.hid ha
  have HT := Lib.hid ht
  clear hl C1 C2 S1 S2 ha ht
  go_enter Tryd.func3, Tryd.ntmps3
  go_wp2_with fail
  go_loop [0, 9, 24] (fun x y i => ∃ k : Nat, k ≤ n ∧ i = .int .i64 k ∧ x = .int .u32 (raw s (l.take k) : Nat) ∧ y = .int .u32 (raw s (l.take k) : Nat)) (fun _ _ i => n - (intOf i).toNat)
  case atStart => exact ⟨0, by omega, rfl, rfl, rfl⟩
  case round =>
    obtain ⟨k, hk, rfl, rfl, rfl⟩ := hrel
    have hz : raw s (l.take k) < 4294967296 := raw_lt hs (HC1.out.take k)
    by_cases hlt : k < n
    · obtain ⟨b, o, rfl, hbl, hc⟩ := HS1.out.2 (by omega)
      have hck := (hc k hlt).trans (bs_get (by rw [HL.out]; exact hlt))
      have hby := HC1.out.at k
      have HN := Lib.hid (raw_snoc (s := s) (l := l) (k := k) (by rw [HL.out]; exact hlt))
      clear hc
      obtain ⟨x, hx⟩ : ∃ x, x = l[k]?.getD 0 := ⟨_, rfl⟩
      rw [← hx] at hck hby HN
      have KA := Lib.hid (add_any _ _ hz hby w)
      have KR := Lib.hid (refAdd_any _ _ hz hby w)
      obtain ⟨z, ez⟩ : ∃ z, z = raw s (l.take k) := ⟨_, rfl⟩
      rw [← ez] at KA KR HN ⊢
      obtain ⟨y, ey⟩ : ∃ y, y = ad z x := ⟨_, rfl⟩
      rw [← ey] at KA KR HN
      clear hx hz ez ey
      go_wp2_with fail
      refine KA.out.mono ?_
      rintro e w1 ⟨rfl, rfl⟩
      go_wp2_with fail
      refine KR.out.mono ?_
      rintro e w1 ⟨rfl, rfl⟩
      go_wp2_with fail
      go_round
      case rel => exact ⟨k + 1, by omega, by go_num, by rw [HN.out], by rw [HN.out]⟩
      case measure => simp [intOf]; omega
    · obtain rfl : k = n := by omega
      rw [List.take_of_length_le (by rw [HL.out]; omega)] at hz ⊢
      obtain ⟨z, ez⟩ : ∃ z, z = raw s l := ⟨_, rfl⟩
      rw [← ez] at hz ⊢
      clear hk hlt ez
      have KB := Lib.hid (bytes_any A k c l w HS1.out HC1.out (by omega))
      have KRB := Lib.hid (refBytes_any A k c l w HS1.out HC1.out (by omega))
      have KW := Lib.hid (words_any A2 n2 c2 l2 w HS2.out HC2.out (by omega))
      have KRW := Lib.hid (fun X (b : Below w.heap.size w X) => refWords_any A2 n2 c2 l2 X (HS2.out.to b) HC2.out (by omega))
      have KZ := Lib.hid (fun X (b : Below w.heap.size w X) => zeros_all z a' hz ha2 X (HT.out.to b))
      have KRZ := Lib.hid (fun X => refZeros_all z a' hz ha2 X)
      have hw' : IntKind.i64.wrap a' = a' := by rw [IntKind.wrap_i64]; omega
      rcases HA.out with ⟨h5, hm⟩ | ⟨h5, hm⟩
      · clear HA
        go_wp2_with fail
        refine KB.out.mono ?_
        rintro e w1 ⟨rfl, rfl⟩
        go_wp2_with fail
        refine KRB.out.mono ?_
        rintro e w1 ⟨rfl, rfl⟩
        go_wp2_with fail
        refine KW.out.mono ?_
        rintro e w1 ⟨rfl, b1⟩
        go_wp2_with fail
        refine (KRW.out _ b1).mono ?_
        rintro e w2 ⟨rfl, b2⟩
        have B2 := b1.call b2
        clear b2 b1
        go_wp2_with fail
        refine (KZ.out _ B2).mono ?_
        rintro e w3 ⟨rfl, b3⟩
        have B3 := B2.call b3
        clear b3 B2
        go_wp2_with fail
        refine (KRZ.out _).mono ?_
        rintro e w4 ⟨rfl, rfl⟩
        go_wp2_with fail
        refine (awake_any _).mono ?_
        rintro e w5 ⟨rfl, b5⟩
        go_wp2_with fail
        go_ret
        exact ⟨rfl, B3.call b5⟩
      · subst hm
        clear HA
        have h5' : ¬ (500 : Int) < a := by omega
        go_wp2_with fail
        refine KB.out.mono ?_
        rintro e w1 ⟨rfl, rfl⟩
        go_wp2_with fail
        refine KRB.out.mono ?_
        rintro e w1 ⟨rfl, rfl⟩
        go_wp2_with fail
        refine KW.out.mono ?_
        rintro e w1 ⟨rfl, b1⟩
        go_wp2_with fail
        refine (KRW.out _ b1).mono ?_
        rintro e w2 ⟨rfl, b2⟩
        have B2 := b1.call b2
        clear b2 b1
        go_wp2_with fail
        refine (KZ.out _ B2).mono ?_
        rintro e w3 ⟨rfl, b3⟩
        have B3 := B2.call b3
        clear b3 B2
        go_wp2_with fail
        refine (KRZ.out _).mono ?_
        rintro e w4 ⟨rfl, rfl⟩
        go_wp2_with fail
        refine (awake_any _).mono ?_
        rintro e w5 ⟨rfl, b5⟩
        go_wp2_with fail
        go_ret
        exact ⟨rfl, B3.call b5⟩
theorem sumTells_any (s : Nat) (A A2 : Option Addr) (n c n2 c2 : Nat) (l l2 : List Nat) (a : Int) (w : World) (hs : s < 4294967296) (S1 : Sl w w.heap.size A n (bs l)) (C1 : Bytes l) (S2 : Sl w w.heap.size A2 n2 (ws l2)) (C2 : ∀ x ∈ l2, x < 65536)
    (ha : -9223372036854775808 ≤ a) (ha2 : a ≤ 9223372036854775807) (ht : TabW w) :
    Calls Tryd.prog 3 #[.int .u32 s, .slice A n c, .slice A2 n2 c2, .int .i64 a] w fun e w' => e = .returned (.bool true) ∧ Below w.heap.size w w' := by
  by_cases h1 : 500 < n
  · exact tells_big s A A2 n c n2 c2 a w h1
  by_cases h2 : 200 < n2
  · exact tells_long s A A2 n c n2 c2 a w (by omega) h2
  by_cases h3 : 500 < a
  · have e : Int.tmod a 501 = a % 501 := Int.tmod_eq_emod_of_nonneg (by omega)
    exact tells_core s A A2 n c n2 c2 l l2 a (a % 501) w hs S1 C1 S2 C2 (by omega) (by omega) (.inl ⟨h3, e⟩) (by omega) (by omega) ht
  · exact tells_core s A A2 n c n2 c2 l l2 a a w hs S1 C1 S2 C2 (by omega) (by omega) (.inr ⟨by omega, rfl⟩) (by omega) (by omega) ht
end Go.Proofs.YtegcnnbhgdafmaaDoor.SmW
