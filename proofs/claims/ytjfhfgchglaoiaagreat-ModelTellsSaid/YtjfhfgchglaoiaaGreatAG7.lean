/- Merged: AskW1 AskW2 AskW3 AskW4 AskW5 AskW6. -/
import Derived.Test.YtjfhfgchglaoiaaGreatAG1
import Derived.Test.YtjfhfgchglaoiaaGreatBase
import Derived.Test.YtjfhfgchglaoiaaGreatAG6
import Derived.Deep.QuietTactic
import Derived.BigQuiet
import Derived.Test.YtjfhfgchglaoiaaGreatAG2
/- The walks of saucierref02.Two and Words. -/
set_option linter.unusedVariables false
set_option linter.unusedSimpArgs false
namespace Go.Proofs.YtjfhfgchglaoiaaGreat.AskW
open Go.RowKit Go.Proofs.YtjfhfgchglaoiaaGreat Go.Proofs.YtjfhfgchglaoiaaGreat.Ask
theorem refTwo_any (w0 w : World) (v : Value) (n : Nat) (xs : List Nat) (H : Has w0 w 5 v n (bs xs)) (x : Nat) (hx : x < 65536) (hn : n ≤ 900000) :
    Calls Tryz.prog 69 #[v, .int .i64 x] w fun e w' => ∃ v', e = .returned v' ∧ Has w0 w' 5 v' (n + 2) (bs (xs ++ two x)) := by
  have hq : Int.tdiv (x : Int) 256 = ((x / 256 : Nat) : Int) := by rw [Int.tdiv_eq_ediv_of_nonneg (by omega)]; omega
  have hr : Int.tmod (x : Int) 256 = ((x % 256 : Nat) : Int) := by rw [Int.tmod_eq_emod_of_nonneg (by omega)]; omega
  have hi : IntKind.u8.wrap ((x / 256 : Nat) : Int) = ((x / 256 : Nat) : Int) := by rw [IntKind.wrap_u8]; omega
  have lo : IntKind.u8.wrap ((x % 256 : Nat) : Int) = ((x % 256 : Nat) : Int) := by rw [IntKind.wrap_u8]; omega
  have qi := w64 (show x / 256 ≤ 9223372036854775807 by omega)
  have ri := w64 (show x % 256 ≤ 9223372036854775807 by omega)
  have HT := Lib.hid (show two x = [x / 256, x % 256] from rfl)
  obtain ⟨p, ep⟩ : ∃ p, p = x / 256 := ⟨_, rfl⟩
  obtain ⟨q, eq⟩ : ∃ q, q = x % 256 := ⟨_, rfl⟩
  rw [← ep] at hq hi qi HT
  rw [← eq] at hr lo ri HT
  clear ep eq hx
  go_enter Tryz.func69, Tryz.ntmps69
  go_wp2_with (first
    | (at_builtin; refine wpList_app u8 rfl (.tmp 5) (.tmp 9) rfl (H.alloc _) rfl (Sl.new1 _ _ _) rfl (one1 _ _) (by omega) (by simp only [maxLen]; omega) ?_; intro v3 w3 H3 _ _)
    | (at_builtin; refine wpList_app u8 rfl (.tmp 11) (.tmp 15) rfl (H3.alloc _) rfl (Sl.new1 _ _ _) rfl (one1 _ _) (by omega) (by simp only [maxLen]; omega) ?_; intro v4 w4 H4 _ _))
  go_ret
  refine ⟨_, rfl, ?_⟩
  have e : bs xs ++ [Value.int .u8 (p : Nat)] ++ [Value.int .u8 (q : Nat)] = bs (xs ++ two x) := by rw [HT.out]; simp [bs]
  rw [e] at H4
  exact H4
theorem refWords_any (w0 w : World) (v : Value) (n : Nat) (xs : List Nat) (H : Has w0 w 5 v n (bs xs)) (A : Option Addr) (m c : Nat) (l : List Nat) (hs : Sl w0 w0.heap.size A m (ws l)) (hw : ∀ x ∈ l, x < 65536) (hn : n + 2 * m ≤ 900000) :
    Calls Tryz.prog 68 #[v, .slice A m c] w fun e w' => ∃ v', e = .returned v' ∧ Has w0 w' 5 v' (n + 2 * m) (bs (xs ++ twos l)) := by
  have q1 : l.length = m := by simpa using hs.len
  have Q1 := Lib.hid q1
  have HW := Lib.hid hw
  clear q1 hw
  go_enter Tryz.func68, Tryz.ntmps68
  go_wp2_with fail
  go_loopw [0, 5] (fun x i wr => ∃ k : Nat, k ≤ m ∧ i = .int .i64 k ∧ Has w0 wr 5 x (n + 2 * k) (bs (xs ++ twos (l.take k)))) (fun _ i _ => m - (intOf i).toNat)
  case atStart => exact ⟨0, by omega, rfl, by simpa [twos] using H⟩
  case round =>
    obtain ⟨k, hk, rfl, HX⟩ := hrel
    by_cases hlt : k < m
    · obtain ⟨b, o, rfl, hbl, d1⟩ := (hs.below HX.bel).2 (by omega)
      have g1 := (d1 k hlt).trans (ws_get (by rw [Q1.out]; exact hlt))
      have HT := Lib.hid (twos_snoc (l := l) (k := k) (by rw [Q1.out]; exact hlt))
      have hx : l[k]?.getD 0 < 65536 := by
        rw [List.getElem?_eq_getElem (by rw [Q1.out]; exact hlt)]; exact HW.out _ (List.getElem_mem _)
      obtain ⟨x, ex⟩ : ∃ x, x = l[k]?.getD 0 := ⟨_, rfl⟩
      rw [← ex] at HT g1 hx
      have z0 : (0 : Int) ≤ (k : Int) := by omega
      have z1 : (k : Int) < (m : Int) := by omega
      have hx64 := w64 (show x ≤ 9223372036854775807 by omega)
      have K := Lib.hid (refTwo_any w0 wr _ _ _ HX x hx (by omega))
      clear d1 ex HX
      go_wp2_with (go_at_call 69; refine K.out.mono ?_; rintro e w3 ⟨v3, rfl, H3⟩)
      go_roundw
      case rel =>
        refine ⟨k + 1, by omega, by go_num, ?_⟩
        rw [HT.out, ← List.append_assoc]
        exact H3
      case measure => simp [intOf]; omega
    · obtain rfl : k = m := by omega
      go_wp2_with fail
      go_ret
      refine ⟨_, rfl, ?_⟩
      rw [List.take_of_length_le (by rw [Q1.out]; omega)] at HX
      exact HX
end Go.Proofs.YtjfhfgchglaoiaaGreat.AskW
/- The walk of saucierref02.Unpack. -/
set_option linter.unusedVariables false
set_option linter.unusedSimpArgs false
namespace Go.Proofs.YtjfhfgchglaoiaaGreat.AskW
open Go.RowKit Go.Proofs.YtjfhfgchglaoiaaGreat Go.Proofs.YtjfhfgchglaoiaaGreat.Ask
theorem eb : Elem Tryz.prog 25 4 1 := Elem.mk' (z := .bool false) Tryz.underlying25 (by kernel_rfl) rfl
theorem oneB (x : Bool) : ∀ u ∈ [Value.bool x], u.oneCell' = true := by cases x <;> simp [Value.oneCell']
theorem un_snoc (l : List Nat) (j : Nat) (h : j < 8 * l.length) : bl ((unpack l).take (j + 1)) = bl ((unpack l).take j) ++ [Value.bool ((l[j / 8]?.getD 0).testBit (j % 8))] := by
  have hl : j < (unpack l).length := by rw [unpack_length]; exact h
  have e : (unpack l)[j] = (l[j / 8]?.getD 0).testBit (j % 8) := by
    have := unpack_get h
    rw [List.getElem?_eq_getElem hl] at this
    simpa using this
  rw [List.take_succ_eq_append_getElem hl, e]; simp [bl]
theorem bit_div (y k : Nat) : ((((y / 2 ^ k % 2 : Nat) : Int) == 1) : Bool) = y.testBit k := by
  rw [Nat.testBit_eq_decide_div_mod_eq, Bool.eq_iff_iff]
  obtain ⟨q, hq⟩ : ∃ q, q = y / 2 ^ k % 2 := ⟨_, rfl⟩
  rw [← hq, beq_iff_eq, decide_eq_true_iff]
  omega
set_option maxHeartbeats 2000000 in
theorem refUnpack_any (A : Option Addr) (n c : Nat) (l : List Nat) (w : World) (hs : Sl w w.heap.size A n (bs l)) (hl : Bytes l) (hn : n ≤ 100000) :
    Calls Tryz.prog 83 #[.slice A n c] w fun e w' => ∃ v, e = .returned v ∧ Has w w' 4 v (8 * n) (bl (unpack l)) := by
  have q1 : l.length = n := by simpa using hs.len
  have Q1 := Lib.hid q1
  clear q1
  go_enter Tryz.func83, Tryz.ntmps83
  go_wp2_with fail
  go_loopw [3, 4] (fun v i wr => ∃ k : Nat, k ≤ n ∧ i = .int .i64 k ∧ Has w wr 4 v (8 * k) (bl ((unpack l).take (8 * k)))) (fun _ i _ => n - (intOf i).toNat)
  case atStart => exact ⟨0, by omega, rfl, by simpa [bl] using Has.nil_ (Below.refl _ w) _⟩
  case round =>
    obtain ⟨k, hk, rfl, H⟩ := hrel
    by_cases hlt : k < n
    · obtain ⟨b, o, rfl, hbl, d1⟩ := (hs.below H.bel).2 (by omega)
      have g1 := (d1 k hlt).trans (bs_get (by rw [Q1.out]; exact hlt))
      have hy := hl.at k
      have z0 : (0 : Int) ≤ (k : Int) := by omega
      have z1 : (k : Int) < (n : Int) := by omega
      have HU := Lib.hid (fun j (hj : j < 8) => un_snoc l (8 * k + j) (by rw [Q1.out]; omega))
      obtain ⟨y, ey⟩ : ∃ y, y = l[k]?.getD 0 := ⟨_, rfl⟩
      rw [← ey] at g1 hy
      have HY := Lib.hid ey
      have hy64 := w64 (show y ≤ 9223372036854775807 by omega)
      clear d1 ey
      go_wp2_with fail
      go_loopw [3, 5, 6] (fun v x i wr => ∃ j : Nat, j ≤ 8 ∧ i = .int .i64 j ∧ x = .int .i64 (y / 2 ^ j : Nat) ∧ Has w wr 4 v (8 * k + j) (bl ((unpack l).take (8 * k + j)))) (fun _ _ i _ => 8 - (intOf i).toNat)
      case atStart => exact ⟨0, by omega, rfl, by simp, H⟩
      case round =>
        obtain ⟨j, hj, rfl, rfl, HJ⟩ := hrel
        by_cases hj8 : j < 8
        · have hle : y / 2 ^ j < 256 := Nat.lt_of_le_of_lt (Nat.div_le_self _ _) hy
          have HB := Lib.hid (bit_div y j)
          have HD := Lib.hid (show y / 2 ^ j / 2 = y / 2 ^ (j + 1) from by rw [Nat.div_div_eq_div_mul, Nat.pow_succ])
          obtain ⟨x, ex⟩ : ∃ x, x = y / 2 ^ j := ⟨_, rfl⟩
          rw [← ex] at hle HB HD ⊢
          clear ex
          have hr : Int.tmod (x : Int) 2 = ((x % 2 : Nat) : Int) := by rw [Int.tmod_eq_emod_of_nonneg (by omega)]; omega
          have hq : Int.tdiv (x : Int) 2 = ((x / 2 : Nat) : Int) := by rw [Int.tdiv_eq_ediv_of_nonneg (by omega)]; omega
          have r64 := w64 (show x % 2 ≤ 9223372036854775807 by omega)
          have q64 := w64 (show x / 2 ≤ 9223372036854775807 by omega)
          obtain ⟨p, ep⟩ : ∃ p, p = x % 2 := ⟨_, rfl⟩
          obtain ⟨q, eq⟩ : ∃ q, q = x / 2 := ⟨_, rfl⟩
          rw [← ep] at hr r64 HB
          rw [← eq] at hq q64 HD
          clear ep eq
          have yj : (j : Int) < 8 := by omega
          go_wp2_with (at_builtin; refine wpList_app _root_.Go.Proofs.YtjfhfgchglaoiaaGreat.AskW.eb rfl (.tmp 22) (.tmp 26) rfl (HJ.alloc _) rfl (Sl.new1 _ _ _) rfl (oneB _) (by omega) (by simp only [maxLen]; omega) ?_; intro v3 w3 H3 _ _)
          go_roundw
          case rel =>
            refine ⟨j + 1, by omega, by go_num, by rw [HD.out], ?_⟩
            have e := HU.out j hj8
            rw [show (8 * k + j) / 8 = k by omega, show (8 * k + j) % 8 = j by omega, ← HY.out, ← HB.out] at e
            rw [← Nat.add_assoc, e]
            exact H3
          case measure => simp [intOf]; omega
        · obtain rfl : j = 8 := by omega
          go_wp2_with fail
          go_roundw
          case rel => exact ⟨k + 1, by omega, by go_num, by rw [Nat.mul_succ]; exact HJ⟩
          case measure => simp [intOf]; omega
    · obtain rfl : k = n := by omega
      go_wp2_with fail
      go_ret
      refine ⟨_, rfl, ?_⟩
      rw [List.take_of_length_le (by rw [unpack_length, Q1.out]; omega)] at H
      exact H
end Go.Proofs.YtjfhfgchglaoiaaGreat.AskW
/- The walk of saucierref02.Pack. -/
set_option linter.unusedVariables false
set_option linter.unusedSimpArgs false
namespace Go.Proofs.YtjfhfgchglaoiaaGreat.AskW
open Go.RowKit Go.Proofs.YtjfhfgchglaoiaaGreat Go.Proofs.YtjfhfgchglaoiaaGreat.Ask
/-- A byte's bits from the top: the first j of them. -/
def top (l : List Bool) (q : Nat) : Nat → Nat
  | 0 => 0
  | j + 1 => 2 * top l q j + bitN l (8 * q + (7 - j))
theorem top_lt (l : List Bool) (q : Nat) : ∀ j, top l q j < 2 ^ j
  | 0 => Nat.zero_lt_one
  | j + 1 => by
    have := top_lt l q j
    have := bitN_le l (8 * q + (7 - j))
    rw [top, Nat.pow_succ]; omega
theorem top_8 (l : List Bool) (q : Nat) : top l q 8 = octet l q := by
  simp only [top, octet, Nat.add_zero, Nat.sub_self, Nat.sub_zero, Nat.reduceSub]
  omega
theorem pack_snoc (l : List Bool) (q : Nat) (h : q < (l.length + 7) / 8) : (pack l).take (q + 1) = (pack l).take q ++ [octet l q] := by
  rw [take_snoc (by rw [pack_length]; exact h), pack_get h]
set_option maxHeartbeats 2000000 in
theorem refPack_any (A : Option Addr) (n c : Nat) (l : List Bool) (w : World) (hs : Sl w w.heap.size A n (bl l)) (hn : n ≤ 100000) :
    Calls Tryz.prog 67 #[.slice A n c] w fun e w' => ∃ v, e = .returned v ∧ Has w w' 5 v ((n + 7) / 8) (bs (pack l)) := by
  have q1 : l.length = n := by simpa using hs.len
  have Q1 := Lib.hid q1
  clear q1
  obtain ⟨N, hN⟩ : ∃ N, N = (n + 7) / 8 := ⟨_, rfl⟩
  rw [← hN]
  have HN := Lib.hid hN
  have hN2 : 8 * N ≤ n + 7 := by omega
  have hN3 : n ≤ 8 * N := by omega
  clear hN
  go_enter Tryz.func67, Tryz.ntmps67
  go_wp2_with fail
  go_loopw [3, 4] (fun v i wr => ∃ q I : Nat, q ≤ N ∧ I = 8 * q ∧ i = .int .i64 I ∧ Has w wr 5 v q (bs ((pack l).take q))) (fun _ i _ => 8 * N - (intOf i).toNat)
  case atStart => exact ⟨0, 0, by omega, rfl, rfl, by simpa [bs] using Has.nil_ (Below.refl _ w) _⟩
  case round =>
    obtain ⟨q, I, hq, hI, rfl, H⟩ := hrel
    by_cases hlt : I < n
    · have z1 : (I : Int) < (n : Int) := by omega
      have HI := Lib.hid hI
      clear hI
      go_wp2_with fail
      go_loopw [5, 6] (fun x i wr2 => ∃ j : Nat, j ≤ 8 ∧ i = .int .i64 (7 - (j : Int)) ∧ x = .int .i64 (top l q j : Nat) ∧ wr2 = wr) (fun _ i _ => (intOf i + 1).toNat)
      case atStart => exact ⟨0, by omega, rfl, rfl, rfl⟩
      case round =>
        obtain ⟨j, hj, rfl, rfl, hwr⟩ := hrel
        subst hwr
        by_cases hj8 : j < 8
        · have hT := top_lt l q j
          have hT2 : top l q j < 256 := Nat.lt_of_lt_of_le hT (Nat.pow_le_pow_right (n := 2) (by decide) (by omega : j ≤ 8))
          have HS := Lib.hid (show top l q (j + 1) = 2 * top l q j + bitN l (8 * q + (7 - j)) from rfl)
          have hb := bitN_le l (8 * q + (7 - j))
          obtain ⟨p, ep⟩ : ∃ p, p = 8 * q + (7 - j) := ⟨_, rfl⟩
          rw [← ep] at HS hb
          have hI := HI.out
          have hadd : IntKind.i64.wrap ((I : Int) + (7 - (j : Int))) = (p : Int) := by rw [IntKind.wrap_i64]; omega
          have hsub : IntKind.i64.wrap (7 - (j : Int) - 1) = 7 - (j : Int) - 1 := by rw [IntKind.wrap_i64]; omega
          clear hI
          obtain ⟨T, eT⟩ : ∃ T, T = top l q j := ⟨_, rfl⟩
          rw [← eT] at HS hT2 ⊢
          have hmul : IntKind.i64.wrap ((T : Int) * 2) = (T : Int) * 2 := by rw [IntKind.wrap_i64]; omega
          have hinc : IntKind.i64.wrap ((T : Int) * 2 + 1) = (T : Int) * 2 + 1 := by rw [IntKind.wrap_i64]; omega
          have y0 : (0 : Int) ≤ 7 - (j : Int) := by omega
          have y1 : (0 : Int) ≤ (p : Int) := by omega
          clear hT eT ep
          by_cases hp : (p : Int) < (n : Int)
          · obtain ⟨b, o, rfl, hbl, d1⟩ := (hs.below H.bel).2 (by omega)
            have g1 := (d1 p (by omega)).trans (bl_get (by rw [Q1.out]; omega))
            have HB := Lib.hid (show bitN l p = if l[p]?.getD false then 1 else 0 from rfl)
            obtain ⟨x, ex⟩ : ∃ x, x = l[p]?.getD false := ⟨_, rfl⟩
            rw [← ex] at g1 HB
            clear d1 ex
            cases x
            · go_wp2_with fail
              go_roundw
              case rel => exact ⟨j + 1, by omega, by congr 1; omega, by rw [HS.out, HB.out]; congr 1; simp; omega, by trivial⟩
              case measure => simp [intOf]; omega
            · go_wp2_with fail
              go_roundw
              case rel => exact ⟨j + 1, by omega, by congr 1; omega, by rw [HS.out, HB.out]; congr 1; simp; omega, by trivial⟩
              case measure => simp [intOf]; omega
          · have HB := Lib.hid (bitN_past (l := l) (j := p) (by rw [Q1.out]; omega))
            have hp2 : decide ((p : Int) < (n : Int)) = false := decide_eq_false hp
            go_wp2_with fail
            go_roundw
            case rel => exact ⟨j + 1, by omega, by congr 1; omega, by rw [HS.out, HB.out]; congr 1; simp; omega, by trivial⟩
            case measure => simp [intOf]; omega
        · obtain rfl : j = 8 := by omega
          have HE := Lib.hid (top_8 l q)
          have hlt8 := octet_lt l q
          have HP := Lib.hid (pack_snoc l q (by rw [Q1.out]; have := HI.out; omega))
          obtain ⟨T, eT⟩ : ∃ T, T = octet l q := ⟨_, rfl⟩
          rw [HE.out, ← eT]
          rw [← eT] at hlt8 HP
          clear eT
          have h8 : IntKind.u8.wrap (T : Int) = T := by rw [IntKind.wrap_u8]; omega
          have hI8 : IntKind.i64.wrap ((I : Int) + 8) = (I : Int) + 8 := by rw [IntKind.wrap_i64]; omega
          have hqN := HI.out
          have HQN := Lib.hid hqN
          clear hqN
          go_wp2_with (at_builtin; refine wpList_app _root_.Go.Proofs.YtjfhfgchglaoiaaGreat.AskW.u8 rfl (.tmp 35) (.tmp 38) rfl (H.alloc _) rfl (Sl.new1 _ _ _) rfl (one1 _ _) (by have := HQN.out; omega) (by have := HQN.out; simp only [maxLen]; omega) ?_; intro v3 w3 H3 _ _)
          go_roundw
          case rel =>
            refine ⟨q + 1, I + 8, by have := HQN.out; omega, by have := HQN.out; omega, by congr 1, ?_⟩
            rw [HP.out, ← bs_append]
            exact H3
          case measure => simp [intOf]; have := HQN.out; omega
    · obtain rfl : q = N := by omega
      go_wp2_with fail
      go_ret
      refine ⟨_, rfl, ?_⟩
      rw [List.take_of_length_le (by rw [pack_length, Q1.out, ← HN.out]; exact Nat.le_refl _)] at H
      exact H
end Go.Proofs.YtjfhfgchglaoiaaGreat.AskW
/- The walk of saucierref02.Right. -/
set_option linter.unusedVariables false
set_option linter.unusedSimpArgs false
namespace Go.Proofs.YtjfhfgchglaoiaaGreat.AskW
open Go.RowKit Go.Proofs.YtjfhfgchglaoiaaGreat Go.Proofs.YtjfhfgchglaoiaaGreat.Ask
set_option maxHeartbeats 16000000 in
theorem refRight_any (f a m t : Nat) (Aw : Option Addr) (nw cw : Nat) (Ab : Option Addr) (nb cb : Nat) (W : List Nat) (B : List Bool) (hW : W.length = nw) (hB : B.length = nb) (hm : m < 65536) (w : World) :
    Calls Tryz.prog 34 #[.agg #[.int .u8 f, .int .u16 a, .int .u16 m, .int .u16 t, .slice Aw nw cw, .slice Ab nb cb]] w
      fun e w' => e = .returned (.bool (right ⟨f, a, m, t, W, B⟩)) ∧ Below w.heap.size w w' := by
  have hmw : IntKind.i64.wrap (m : Int) = m := by rw [IntKind.wrap_i64]; omega
  by_cases h1 : f = 1
  · subst h1
    have HR := Lib.hid (show right ⟨1, a, m, t, W, B⟩ = (t == 0 && nb == 0 && nw == 0 && decide (1 ≤ m) && decide (m ≤ 2000)) from by
      rw [Bool.eq_iff_iff]; simp [right, fld, Fld.right, fits, hW, hB] <;> omega)
    obtain ⟨RR, hRR⟩ : ∃ RR, RR = right ⟨1, a, m, t, W, B⟩ := ⟨_, rfl⟩
    rw [← hRR] at HR ⊢
    clear hW hB hm hRR
    by_cases ht : t = 0
    · have hT : ((t : Int) != 0) = false := by rw [ht]; rfl
      have HT := Lib.hid ht
      clear ht
      go_enter Tryz.func34, Tryz.ntmps34
      go_wp2_with fail
      go_quiet (fail)
      go_wp2_with fail
      all_goals (
        go_ret
        refine ⟨ret_bool ?_, ((Below.refl _ _).new _).drewN _⟩
        rw [HR.out, Bool.eq_iff_iff]
        simp
        first | omega | (have := HT.out; omega))
    · have hT : ((t : Int) != 0) = true := by rw [bne_iff_ne]; omega
      have HT := Lib.hid ht
      clear ht
      go_enter Tryz.func34, Tryz.ntmps34
      go_wp2_with fail
      go_quiet (fail)
      go_wp2_with fail
      all_goals (
        go_ret
        refine ⟨ret_bool ?_, ((Below.refl _ _).new _).drewN _⟩
        rw [HR.out, Bool.eq_iff_iff]
        simp
        first | omega | (have := HT.out; omega))
  by_cases h2 : f = 2
  · subst h2
    have HR := Lib.hid (show right ⟨2, a, m, t, W, B⟩ = (t == 0 && nb == 0 && nw == 0 && decide (1 ≤ m) && decide (m ≤ 2000)) from by
      rw [Bool.eq_iff_iff]; simp [right, fld, Fld.right, fits, hW, hB] <;> omega)
    obtain ⟨RR, hRR⟩ : ∃ RR, RR = right ⟨2, a, m, t, W, B⟩ := ⟨_, rfl⟩
    rw [← hRR] at HR ⊢
    clear hW hB hm hRR
    by_cases ht : t = 0
    · have hT : ((t : Int) != 0) = false := by rw [ht]; rfl
      have HT := Lib.hid ht
      clear ht
      go_enter Tryz.func34, Tryz.ntmps34
      go_wp2_with fail
      go_quiet (fail)
      go_wp2_with fail
      all_goals (
        go_ret
        refine ⟨ret_bool ?_, ((Below.refl _ _).new _).drewN _⟩
        rw [HR.out, Bool.eq_iff_iff]
        simp
        first | omega | (have := HT.out; omega))
    · have hT : ((t : Int) != 0) = true := by rw [bne_iff_ne]; omega
      have HT := Lib.hid ht
      clear ht
      go_enter Tryz.func34, Tryz.ntmps34
      go_wp2_with fail
      go_quiet (fail)
      go_wp2_with fail
      all_goals (
        go_ret
        refine ⟨ret_bool ?_, ((Below.refl _ _).new _).drewN _⟩
        rw [HR.out, Bool.eq_iff_iff]
        simp
        first | omega | (have := HT.out; omega))
  by_cases h3 : f = 3
  · subst h3
    have HR := Lib.hid (show right ⟨3, a, m, t, W, B⟩ = (t == 0 && nb == 0 && nw == 0 && decide (1 ≤ m) && decide (m ≤ 125)) from by
      rw [Bool.eq_iff_iff]; simp [right, fld, Fld.right, fits, hW, hB] <;> omega)
    obtain ⟨RR, hRR⟩ : ∃ RR, RR = right ⟨3, a, m, t, W, B⟩ := ⟨_, rfl⟩
    rw [← hRR] at HR ⊢
    clear hW hB hm hRR
    by_cases ht : t = 0
    · have hT : ((t : Int) != 0) = false := by rw [ht]; rfl
      have HT := Lib.hid ht
      clear ht
      go_enter Tryz.func34, Tryz.ntmps34
      go_wp2_with fail
      go_quiet (fail)
      go_wp2_with fail
      all_goals (
        go_ret
        refine ⟨ret_bool ?_, ((Below.refl _ _).new _).drewN _⟩
        rw [HR.out, Bool.eq_iff_iff]
        simp
        first | omega | (have := HT.out; omega))
    · have hT : ((t : Int) != 0) = true := by rw [bne_iff_ne]; omega
      have HT := Lib.hid ht
      clear ht
      go_enter Tryz.func34, Tryz.ntmps34
      go_wp2_with fail
      go_quiet (fail)
      go_wp2_with fail
      all_goals (
        go_ret
        refine ⟨ret_bool ?_, ((Below.refl _ _).new _).drewN _⟩
        rw [HR.out, Bool.eq_iff_iff]
        simp
        first | omega | (have := HT.out; omega))
  by_cases h4 : f = 4
  · subst h4
    have HR := Lib.hid (show right ⟨4, a, m, t, W, B⟩ = (t == 0 && nb == 0 && nw == 0 && decide (1 ≤ m) && decide (m ≤ 125)) from by
      rw [Bool.eq_iff_iff]; simp [right, fld, Fld.right, fits, hW, hB] <;> omega)
    obtain ⟨RR, hRR⟩ : ∃ RR, RR = right ⟨4, a, m, t, W, B⟩ := ⟨_, rfl⟩
    rw [← hRR] at HR ⊢
    clear hW hB hm hRR
    by_cases ht : t = 0
    · have hT : ((t : Int) != 0) = false := by rw [ht]; rfl
      have HT := Lib.hid ht
      clear ht
      go_enter Tryz.func34, Tryz.ntmps34
      go_wp2_with fail
      go_quiet (fail)
      go_wp2_with fail
      all_goals (
        go_ret
        refine ⟨ret_bool ?_, ((Below.refl _ _).new _).drewN _⟩
        rw [HR.out, Bool.eq_iff_iff]
        simp
        first | omega | (have := HT.out; omega))
    · have hT : ((t : Int) != 0) = true := by rw [bne_iff_ne]; omega
      have HT := Lib.hid ht
      clear ht
      go_enter Tryz.func34, Tryz.ntmps34
      go_wp2_with fail
      go_quiet (fail)
      go_wp2_with fail
      all_goals (
        go_ret
        refine ⟨ret_bool ?_, ((Below.refl _ _).new _).drewN _⟩
        rw [HR.out, Bool.eq_iff_iff]
        simp
        first | omega | (have := HT.out; omega))
  by_cases h5 : f = 5
  · subst h5
    have HR := Lib.hid (show right ⟨5, a, m, t, W, B⟩ = (t == 0 && nb == 1 && nw == 0 && m == 0) from by
      rw [Bool.eq_iff_iff]; simp [right, fld, Fld.right, fits, hW, hB] <;> omega)
    obtain ⟨RR, hRR⟩ : ∃ RR, RR = right ⟨5, a, m, t, W, B⟩ := ⟨_, rfl⟩
    rw [← hRR] at HR ⊢
    clear hW hB hm hRR
    by_cases ht : t = 0
    · have hT : ((t : Int) != 0) = false := by rw [ht]; rfl
      have HT := Lib.hid ht
      clear ht
      go_enter Tryz.func34, Tryz.ntmps34
      go_wp2_with fail
      go_quiet (fail)
      go_wp2_with fail
      all_goals (
        go_ret
        refine ⟨ret_bool ?_, ((Below.refl _ _).new _).drewN _⟩
        rw [HR.out, Bool.eq_iff_iff]
        simp
        first | omega | (have := HT.out; omega))
    · have hT : ((t : Int) != 0) = true := by rw [bne_iff_ne]; omega
      have HT := Lib.hid ht
      clear ht
      go_enter Tryz.func34, Tryz.ntmps34
      go_wp2_with fail
      go_quiet (fail)
      go_wp2_with fail
      all_goals (
        go_ret
        refine ⟨ret_bool ?_, ((Below.refl _ _).new _).drewN _⟩
        rw [HR.out, Bool.eq_iff_iff]
        simp
        first | omega | (have := HT.out; omega))
  by_cases h6 : f = 6
  · subst h6
    have HR := Lib.hid (show right ⟨6, a, m, t, W, B⟩ = (t == 0 && nb == 0 && nw == 1 && m == 0) from by
      rw [Bool.eq_iff_iff]; simp [right, fld, Fld.right, fits, hW, hB] <;> omega)
    obtain ⟨RR, hRR⟩ : ∃ RR, RR = right ⟨6, a, m, t, W, B⟩ := ⟨_, rfl⟩
    rw [← hRR] at HR ⊢
    clear hW hB hm hRR
    by_cases ht : t = 0
    · have hT : ((t : Int) != 0) = false := by rw [ht]; rfl
      have HT := Lib.hid ht
      clear ht
      go_enter Tryz.func34, Tryz.ntmps34
      go_wp2_with fail
      go_quiet (fail)
      go_wp2_with fail
      all_goals (
        go_ret
        refine ⟨ret_bool ?_, ((Below.refl _ _).new _).drewN _⟩
        rw [HR.out, Bool.eq_iff_iff]
        simp
        first | omega | (have := HT.out; omega))
    · have hT : ((t : Int) != 0) = true := by rw [bne_iff_ne]; omega
      have HT := Lib.hid ht
      clear ht
      go_enter Tryz.func34, Tryz.ntmps34
      go_wp2_with fail
      go_quiet (fail)
      go_wp2_with fail
      all_goals (
        go_ret
        refine ⟨ret_bool ?_, ((Below.refl _ _).new _).drewN _⟩
        rw [HR.out, Bool.eq_iff_iff]
        simp
        first | omega | (have := HT.out; omega))
  by_cases h15 : f = 15
  · subst h15
    have HR := Lib.hid (show right ⟨15, a, m, t, W, B⟩ = (t == 0 && nb == m && nw == 0 && decide (1 ≤ m) && decide (m ≤ 1968)) from by
      rw [Bool.eq_iff_iff]; simp [right, fld, Fld.right, fits, hW, hB] <;> omega)
    obtain ⟨RR, hRR⟩ : ∃ RR, RR = right ⟨15, a, m, t, W, B⟩ := ⟨_, rfl⟩
    rw [← hRR] at HR ⊢
    clear hW hB hm hRR
    by_cases ht : t = 0
    · have hT : ((t : Int) != 0) = false := by rw [ht]; rfl
      have HT := Lib.hid ht
      clear ht
      go_enter Tryz.func34, Tryz.ntmps34
      go_wp2_with fail
      go_quiet (fail)
      go_wp2_with fail
      all_goals (
        go_ret
        refine ⟨ret_bool ?_, ((Below.refl _ _).new _).drewN _⟩
        rw [HR.out, Bool.eq_iff_iff]
        simp
        first | omega | (have := HT.out; omega))
    · have hT : ((t : Int) != 0) = true := by rw [bne_iff_ne]; omega
      have HT := Lib.hid ht
      clear ht
      go_enter Tryz.func34, Tryz.ntmps34
      go_wp2_with fail
      go_quiet (fail)
      go_wp2_with fail
      all_goals (
        go_ret
        refine ⟨ret_bool ?_, ((Below.refl _ _).new _).drewN _⟩
        rw [HR.out, Bool.eq_iff_iff]
        simp
        first | omega | (have := HT.out; omega))
  by_cases h16 : f = 16
  · subst h16
    have HR := Lib.hid (show right ⟨16, a, m, t, W, B⟩ = (t == 0 && nb == 0 && nw == m && decide (1 ≤ m) && decide (m ≤ 123)) from by
      rw [Bool.eq_iff_iff]; simp [right, fld, Fld.right, fits, hW, hB] <;> omega)
    obtain ⟨RR, hRR⟩ : ∃ RR, RR = right ⟨16, a, m, t, W, B⟩ := ⟨_, rfl⟩
    rw [← hRR] at HR ⊢
    clear hW hB hm hRR
    by_cases ht : t = 0
    · have hT : ((t : Int) != 0) = false := by rw [ht]; rfl
      have HT := Lib.hid ht
      clear ht
      go_enter Tryz.func34, Tryz.ntmps34
      go_wp2_with fail
      go_quiet (fail)
      go_wp2_with fail
      all_goals (
        go_ret
        refine ⟨ret_bool ?_, ((Below.refl _ _).new _).drewN _⟩
        rw [HR.out, Bool.eq_iff_iff]
        simp
        first | omega | (have := HT.out; omega))
    · have hT : ((t : Int) != 0) = true := by rw [bne_iff_ne]; omega
      have HT := Lib.hid ht
      clear ht
      go_enter Tryz.func34, Tryz.ntmps34
      go_wp2_with fail
      go_quiet (fail)
      go_wp2_with fail
      all_goals (
        go_ret
        refine ⟨ret_bool ?_, ((Below.refl _ _).new _).drewN _⟩
        rw [HR.out, Bool.eq_iff_iff]
        simp
        first | omega | (have := HT.out; omega))
  by_cases h23 : f = 23
  · subst h23
    have HR := Lib.hid (show right ⟨23, a, m, t, W, B⟩ = (nb == 0 && decide (1 ≤ nw) && decide (nw ≤ 121) && decide (1 ≤ m) && decide (m ≤ 125)) from by
      rw [Bool.eq_iff_iff]; simp [right, fld, Fld.right, fits, hW, hB] <;> omega)
    obtain ⟨RR, hRR⟩ : ∃ RR, RR = right ⟨23, a, m, t, W, B⟩ := ⟨_, rfl⟩
    rw [← hRR] at HR ⊢
    clear hW hB hm hRR
    go_enter Tryz.func34, Tryz.ntmps34
    go_wp2_with fail
    go_quiet (fail)
    go_wp2_with fail
    all_goals (
      go_ret
      refine ⟨ret_bool ?_, ((Below.refl _ _).new _).drewN _⟩
      rw [HR.out, Bool.eq_iff_iff]
      simp
      first | omega | (have := HT.out; omega))
  have HR := Lib.hid (show right ⟨f, a, m, t, W, B⟩ = false from by simp [right, fld, h1, h2, h3, h4, h5, h6, h15, h16, h23])
  rw [HR.out]
  have b1 : ((f : Int) == 1) = false := by rw [beq_eq_false_iff_ne]; omega
  have b2 : ((f : Int) == 2) = false := by rw [beq_eq_false_iff_ne]; omega
  have b3 : ((f : Int) == 3) = false := by rw [beq_eq_false_iff_ne]; omega
  have b4 : ((f : Int) == 4) = false := by rw [beq_eq_false_iff_ne]; omega
  have b5 : ((f : Int) == 5) = false := by rw [beq_eq_false_iff_ne]; omega
  have b6 : ((f : Int) == 6) = false := by rw [beq_eq_false_iff_ne]; omega
  have b15 : ((f : Int) == 15) = false := by rw [beq_eq_false_iff_ne]; omega
  have b16 : ((f : Int) == 16) = false := by rw [beq_eq_false_iff_ne]; omega
  have b23 : ((f : Int) == 23) = false := by rw [beq_eq_false_iff_ne]; omega
  have c23 : ((f : Int) != 23) = true := by rw [bne_iff_ne]; omega
  clear h1 h2 h3 h4 h5 h6 h15 h16 h23 hW hB hm
  go_enter Tryz.func34, Tryz.ntmps34
  go_wp2_with fail
  go_quiet (fail)
  go_wp2_with fail
  all_goals (
    go_ret
    exact ⟨rfl, ((Below.refl _ _).new _).drewN _⟩)
end Go.Proofs.YtjfhfgchglaoiaaGreat.AskW
/- The walk of saucierref02.At. -/
set_option linter.unusedVariables false
set_option linter.unusedSimpArgs false
namespace Go.Proofs.YtjfhfgchglaoiaaGreat.AskW
open Go.RowKit Go.Proofs.YtjfhfgchglaoiaaGreat Go.Proofs.YtjfhfgchglaoiaaGreat.Ask
/-- The number at a place; 0 behind the end. -/
def atF (xs : List Nat) (i : Nat) : Nat := if xs.length ≤ i + 1 then 0 else num xs i
theorem refAt_any (A : Option Addr) (n c : Nat) (xs : List Nat) (i : Nat) (w : World) (hs : Sl w w.heap.size A n (bs xs)) (hx : Bytes xs) (hn : n ≤ 100000) (hi : i ≤ 100000) :
    Calls Tryz.prog 82 #[.slice A n c, .int .i64 i] w fun e w' => e = .returned (.int .i64 (atF xs i : Nat)) ∧ Below w.heap.size w w' := by
  have q1 : xs.length = n := by simpa using hs.len
  have hw : IntKind.i64.wrap ((i : Int) + 1) = (i : Int) + 1 := by rw [IntKind.wrap_i64]; omega
  by_cases h : n ≤ i + 1
  · have h1 : (n : Int) ≤ (i : Int) + 1 := by omega
    have HF := Lib.hid (show atF xs i = 0 from by unfold atF; rw [if_pos (by omega)])
    clear q1 h
    go_enter Tryz.func82, Tryz.ntmps82
    go_wp2_with fail
    go_ret
    exact ⟨by rw [HF.out]; rfl, Below.refl _ _⟩
  · have h1 : ¬ (n : Int) ≤ (i : Int) + 1 := by omega
    have HF := Lib.hid (show atF xs i = 256 * xs[i]?.getD 0 + xs[i + 1]?.getD 0 from by unfold atF; rw [if_neg (by omega)]; rfl)
    obtain ⟨b, o, rfl, hbl, d1⟩ := hs.2 (by omega)
    have g1 := (d1 i (by omega)).trans (bs_get (by omega))
    have g2 : w.cell? ⟨b, o + (i + 1), none⟩ = _ := (d1 (i + 1) (by omega)).trans (bs_get (by omega))
    have y1 := hx.at i
    have y2 := hx.at (i + 1)
    obtain ⟨x, ex⟩ : ∃ x, x = xs[i]?.getD 0 := ⟨_, rfl⟩
    obtain ⟨y, ey⟩ : ∃ y, y = xs[i + 1]?.getD 0 := ⟨_, rfl⟩
    rw [← ex] at g1 y1 HF
    rw [← ey] at g2 y2 HF
    have wx := w64 (show x ≤ 9223372036854775807 by omega)
    have wy := w64 (show y ≤ 9223372036854775807 by omega)
    have wm : IntKind.i64.wrap (256 * (x : Int)) = 256 * (x : Int) := by rw [IntKind.wrap_i64]; omega
    have wa : IntKind.i64.wrap (256 * (x : Int) + (y : Int)) = 256 * (x : Int) + (y : Int) := by rw [IntKind.wrap_i64]; omega
    have z0 : (0 : Int) ≤ (i : Int) := by omega
    have z1 : (i : Int) < (n : Int) := by omega
    have z2 : (0 : Int) ≤ (i : Int) + 1 := by omega
    have z3 : (i : Int) + 1 < (n : Int) := by omega
    have z4 : ((i : Int) + 1).toNat = i + 1 := by omega
    clear d1 ex ey q1 h
    go_enter Tryz.func82, Tryz.ntmps82
    go_wp2_with fail
    go_quiet (fail)
    go_wp2_with fail
    go_ret
    refine ⟨?_, (Below.refl _ _).drewN _⟩
    rw [HF.out]
    rfl
end Go.Proofs.YtjfhfgchglaoiaaGreat.AskW
/- The walk of saucier/saucierref02.Same. -/
set_option linter.unusedVariables false
set_option linter.unusedSimpArgs false
namespace Go.Proofs.YtjfhfgchglaoiaaGreat.AskW
open Go.RowKit Go.Proofs.YtjfhfgchglaoiaaGreat Go.Proofs.YtjfhfgchglaoiaaGreat.Ask
end Go.Proofs.YtjfhfgchglaoiaaGreat.AskW
