/- The walk of SumZeros. -/
import Derived.Test.YtegcnnbhgdafmaaDoorSmB
import Derived.Test.YtegcnnbhgdafmaaDoorSmD
import Derived.WalkLawsBesides
set_option linter.unusedVariables false
set_option linter.unusedSimpArgs false
namespace Go.Proofs.YtegcnnbhgdafmaaDoor.SmW
open Go.RowKit Go.Proofs.YtegcnnbhgdafmaaDoor Go.Proofs.YtegcnnbhgdafmaaDoor.Sm
theorem beq_iff {a b c d : Int} (h : a = b ↔ c = d) : (a == b) = (c == d) := by
  rw [Bool.eq_iff_iff, beq_iff_eq, beq_iff_eq]; exact h
set_option maxHeartbeats 2000000 in
theorem sumZeros_any (s t a b : Nat) (hs : s < 4294967296) (ht : t < 4294967296) (ha : a < 18446744073709551616) (hb : b < 18446744073709551616) (w : World) (hT : TabW w) :
    Calls Tryd.prog 4 #[.int .u32 s, .int .u32 t, .int .u64 a, .int .u64 b] w fun e w' => e = .returned (.bool true) ∧ Below w.heap.size w w' := by
  have m1 : (a : Int) % 1099511627777 = ((a % 1099511627777 : Nat) : Int) := by omega
  have m2 : (b : Int) % 1099511627777 = ((b % 1099511627777 : Nat) : Int) := by omega
  have l1 : a % 1099511627777 < 1099511627777 := Nat.mod_lt _ (by omega)
  have l2 : b % 1099511627777 < 1099511627777 := Nat.mod_lt _ (by omega)
  obtain ⟨n, en⟩ : ∃ n, n = a % 1099511627777 := ⟨_, rfl⟩
  obtain ⟨m, em⟩ : ∃ m, m = b % 1099511627777 := ⟨_, rfl⟩
  rw [← en] at m1 l1
  rw [← em] at m2 l2
  clear en em ha hb
  have wn : IntKind.i64.wrap (n : Int) = (n : Int) := by rw [IntKind.wrap_i64]; omega
  have wm : IntKind.i64.wrap (m : Int) = (m : Int) := by rw [IntKind.wrap_i64]; omega
  have wnm : IntKind.i64.wrap ((n : Int) + (m : Int)) = ((n + m : Nat) : Int) := by rw [IntKind.wrap_i64]; omega
  have wneg : IntKind.i64.wrap (-1 - (n : Int)) = -1 - (n : Int) := by rw [IntKind.wrap_i64]; omega
  obtain ⟨x, hx, KX⟩ : ∃ x : Nat, x < 4294967296 ∧ x = it (8 * n) s := ⟨_, it_lt hs, rfl⟩
  obtain ⟨x2, hx2, KX2⟩ : ∃ x : Nat, x < 4294967296 ∧ x = it (8 * n) t := ⟨_, it_lt ht, rfl⟩
  have hst : s ^^^ t < 4294967296 := Nat.xor_lt_two_pow (n := 32) hs ht
  have e1 : it (8 * m) x = it (8 * (n + m)) s := by rw [KX, ← it_add, Nat.mul_add]
  have e2 : it (8 * 1) s = ad s 0 := by unfold ad; rw [Nat.xor_zero]
  have e3 : it (8 * 0) s = s := rfl
  have e4 : x ^^^ x2 = it (8 * n) (s ^^^ t) := by rw [it_xor, KX, KX2]
  have f1 : ((x : Int) == 0) = ((s : Int) == 0) := by
    apply beq_iff
    constructor
    · intro h
      have h0 : it (8 * n) s = 0 := by omega
      have := it_zero hs h0; omega
    · intro h
      have h0 : s = 0 := by omega
      rw [KX, h0, it_of_zero]; rfl
  have f2 : ((x : Int) == (x2 : Int)) = ((s : Int) == (t : Int)) := by
    apply beq_iff
    constructor
    · intro h
      have h0 : it (8 * n) s = it (8 * n) t := by omega
      have := it_inj hs ht h0; omega
    · intro h
      have h0 : s = t := by omega
      rw [KX, KX2, h0]
  have f3 : bits .xor .u32 (x : Int) (x2 : Int) = ((x ^^^ x2 : Nat) : Int) := u32_xor_nat x x2 hx hx2
  have f4 : bits .xor .u32 (s : Int) (t : Int) = ((s ^^^ t : Nat) : Int) := u32_xor_nat s t hs ht
  have K1 := Lib.hid (fun X (b : Below w.heap.size w X) => zeros_any s n hs (by omega) X (hT.to b))
  have K2 := Lib.hid (fun X (b : Below w.heap.size w X) => zeros_any x m hx (by omega) X (hT.to b))
  have K3 := Lib.hid (fun X (b : Below w.heap.size w X) => zeros_any s (n + m) hs (by omega) X (hT.to b))
  have K4 := Lib.hid (fun X (b : Below w.heap.size w X) => zeros_any s 1 hs (by omega) X (hT.to b))
  have K5 := Lib.hid (fun X (b : Below w.heap.size w X) => zeros_any s 0 hs (by omega) X (hT.to b))
  have K6 := Lib.hid (fun X => zeros_neg s (-1 - (n : Int)) (by omega) X)
  have K7 := Lib.hid (fun X (b : Below w.heap.size w X) => zeros_any t n ht (by omega) X (hT.to b))
  have K8 := Lib.hid (fun X (b : Below w.heap.size w X) => zeros_any (s ^^^ t) n hst (by omega) X (hT.to b))
  have KA := Lib.hid (fun X => add_any s 0 hs (by omega) X)
  rw [← KX] at K1
  rw [← KX2] at K7
  rw [← e4] at K8
  rw [e1] at K2
  rw [e2] at K4
  rw [e3] at K5
  obtain ⟨y, ey⟩ : ∃ y, y = it (8 * (n + m)) s := ⟨_, rfl⟩
  rw [← ey] at K2 K3
  obtain ⟨z, ez⟩ : ∃ z, z = ad s 0 := ⟨_, rfl⟩
  rw [← ez] at K4 KA
  obtain ⟨u, eu⟩ : ∃ u, u = s ^^^ t := ⟨_, rfl⟩
  rw [← eu] at f4 K8
  obtain ⟨v, ev⟩ : ∃ v, v = x ^^^ x2 := ⟨_, rfl⟩
  rw [← ev] at f3 K8
  obtain ⟨N, eN⟩ : ∃ N, N = n + m := ⟨_, rfl⟩
  rw [← eN] at wnm K3
  have B0 := Below.refl w.heap.size w
  clear KX KX2 e1 e2 e3 e4 ey ez eu ev eN hT hst hx hx2 hs ht
  go_enter Tryd.func4, Tryd.ntmps4
  go_wp2_with fail
  refine (K1.out _ B0).mono ?_
  rintro e w1 ⟨rfl, b1⟩
  have B1 := B0.call b1
  clear b1
  go_wp2_with fail
  refine (K2.out _ B1).mono ?_
  rintro e w2 ⟨rfl, b2⟩
  have B2 := B1.call b2
  clear b2
  go_wp2_with fail
  refine (K3.out _ B2).mono ?_
  rintro e w3 ⟨rfl, b3⟩
  have B3 := B2.call b3
  clear b3
  go_wp2_with fail
  refine (K4.out _ B3).mono ?_
  rintro e w4 ⟨rfl, b4⟩
  have B4 := B3.call b4
  clear b4
  go_wp2_with fail
  refine (KA.out _).mono ?_
  rintro e w5 ⟨rfl, rfl⟩
  go_wp2_with fail
  refine (K5.out _ B4).mono ?_
  rintro e w6 ⟨rfl, b6⟩
  have B6 := B4.call b6
  clear b6
  go_wp2_with fail
  refine (K6.out _).mono ?_
  rintro e w7 ⟨rfl, b7⟩
  have B7 := B6.call b7
  clear b7
  go_wp2_with fail
  refine (K7.out _ B7).mono ?_
  rintro e w8 ⟨rfl, b8⟩
  have B8 := B7.call b8
  clear b8
  go_wp2_with fail
  refine (K1.out _ B8).mono ?_
  rintro e w9 ⟨rfl, b9⟩
  have B9 := B8.call b9
  clear b9
  go_wp2_with fail
  refine (K7.out _ B9).mono ?_
  rintro e w10 ⟨rfl, b10⟩
  have B10 := B9.call b10
  clear b10
  go_wp2_with fail
  refine (K8.out _ B10).mono ?_
  rintro e w11 ⟨rfl, b11⟩
  have B11 := B10.call b11
  clear b11
  go_wp2_with fail
  refine (awake_any _).mono ?_
  rintro e w12 ⟨rfl, b12⟩
  have B12 := B11.call b12
  clear b12
  go_wp2_with fail
  go_ret
  exact ⟨rfl, B12⟩
end Go.Proofs.YtegcnnbhgdafmaaDoor.SmW
