/- The walk of SumJoins. -/
import Derived.Test.YtegcnnbhgdafmaaDoorSmB
import Derived.Test.YtegcnnbhgdafmaaDoorSmD
import Derived.Test.YtegcnnbhgdafmaaDoorBase
import Derived.WalkLawsBesides
set_option linter.unusedVariables false
set_option linter.unusedSimpArgs false
namespace Go.Proofs.YtegcnnbhgdafmaaDoor.SmW
open Go.RowKit Go.Proofs.YtegcnnbhgdafmaaDoor Go.Proofs.YtegcnnbhgdafmaaDoor.Sm
theorem joins_big (A A2 : Option Addr) (n c n2 c2 : Nat) (w : World) (hn : 300 < n) :
    Calls Tryd.prog 5 #[.slice A n c, .slice A2 n2 c2] w fun e w' => e = .returned (.bool true) ∧ Below w.heap.size w w' := by
  have hd : (300 : Int) < (n : Int) := by omega
  go_enter Tryd.func5, Tryd.ntmps5
  go_wp2_with fail
  refine (awake_any _).mono ?_
  rintro e w1 ⟨rfl, b1⟩
  go_wp2_with fail
  go_ret
  exact ⟨rfl, b1⟩
theorem joins_long (A A2 : Option Addr) (n c n2 c2 : Nat) (w : World) (hn : n ≤ 300) (hn2 : 300 < n2) :
    Calls Tryd.prog 5 #[.slice A n c, .slice A2 n2 c2] w fun e w' => e = .returned (.bool true) ∧ Below w.heap.size w w' := by
  have hd : ¬ (300 : Int) < (n : Int) := by omega
  have hd2 : (300 : Int) < (n2 : Int) := by omega
  go_enter Tryd.func5, Tryd.ntmps5
  go_wp2_with fail
  refine (awake_any _).mono ?_
  rintro e w1 ⟨rfl, b1⟩
  go_wp2_with fail
  go_ret
  exact ⟨rfl, b1⟩
theorem four_cells (x : Nat) : [Value.int .u8 ((x % 256 : Nat) : Int), .int .u8 ((x / 256 % 256 : Nat) : Int), .int .u8 ((x / 65536 % 256 : Nat) : Int), .int .u8 ((x / 16777216 % 256 : Nat) : Int)] = bs (four x) := rfl
set_option maxHeartbeats 2000000 in
theorem joins_core (A A2 : Option Addr) (n c n2 c2 : Nat) (l l2 : List Nat) (w : World) (S1 : Sl w w.heap.size A n (bs l)) (C1 : Bytes l) (S2 : Sl w w.heap.size A2 n2 (bs l2)) (C2 : Bytes l2) (hn : n ≤ 300) (hn2 : n2 ≤ 300) (ht : TabW w) :
    Calls Tryd.prog 5 #[.slice A n c, .slice A2 n2 c2] w fun e w' => e = .returned (.bool true) ∧ Below w.heap.size w w' := by
  have hd : ¬ (300 : Int) < (n : Int) := by omega
  have hd2 : ¬ (300 : Int) < (n2 : Int) := by omega
  have q1 : l.length = n := by simpa using S1.len
  have q2 : l2.length = n2 := by simpa using S2.len
  have CJ : Bytes (l ++ l2) := fun x hx => by
    rcases List.mem_append.1 hx with h | h
    · exact C1 x h
    · exact C2 x h
  have hj := raw_join 4294967295 C1 C2
  rw [q2] at hj
  have hra : raw 4294967295 l < 4294967296 := raw_lt (by omega) C1
  have hx := chk_lt C1
  have C4 : Bytes (l ++ four (chk l)) := fun x hx => by
    rcases List.mem_append.1 hx with h | h
    · exact C1 x h
    · exact four_bytes _ x h
  have hown := chk_own C1
  have S10 := S1.to ((Below.refl _ _).new (.cells #[] 5))
  have HS1 := Lib.hid S1
  have HS2 := Lib.hid S2
  have KRJ := Lib.hid (fun A (cc : Nat) X (S : Sl X X.heap.size A (n + n2) (bs (l ++ l2))) => raw_any 4294967295 A (n + n2) cc (l ++ l2) X (by omega) S CJ (by omega))
  have KRA := Lib.hid (fun X (b : Below w.heap.size w X) => raw_any 4294967295 A n c l X (by omega) (S1.to b) C1 (by omega))
  have KZ := Lib.hid (fun X (b : Below w.heap.size w X) => zeros_any (raw 4294967295 l) n2 hra (by omega) X (ht.to b))
  have KR0 := Lib.hid (fun X (b : Below w.heap.size w X) => raw_any 0 A2 n2 c2 l2 X (by omega) (S2.to b) C2 (by omega))
  have KB := Lib.hid (fun X (b : Below w.heap.size w X) => bytes_any A n c l X (S1.to b) C1 (by omega))
  have KB4 := Lib.hid (fun A (cc : Nat) X (S : Sl X X.heap.size A (n + 4) (bs (l ++ four (chk l)))) => bytes_any A (n + 4) cc (l ++ four (chk l)) X S C4 (by omega))
  have hz : it (8 * n2) (raw 4294967295 l) < 4294967296 := it_lt hra
  have h0 : raw 0 l2 < 4294967296 := raw_lt (by omega) C2
  have hxor := u32_xor_nat _ _ hz h0
  rw [← hj] at hxor
  obtain ⟨J, eJ⟩ : ∃ J, J = raw 4294967295 (l ++ l2) := ⟨_, rfl⟩
  obtain ⟨r0, er0⟩ : ∃ r, r = raw 0 l2 := ⟨_, rfl⟩
  obtain ⟨z, ez⟩ : ∃ z, z = it (8 * n2) (raw 4294967295 l) := ⟨_, rfl⟩
  rw [← eJ] at hxor KRJ
  rw [← er0] at hxor KR0
  rw [← ez] at hxor KZ
  obtain ⟨ra, era⟩ : ∃ r, r = raw 4294967295 l := ⟨_, rfl⟩
  rw [← era] at KRA KZ
  have hch4 : chk (l ++ four (chk l)) = chk [0, 0, 0, 0] := hown
  obtain ⟨x, ex⟩ : ∃ x, x = chk l := ⟨_, rfl⟩
  rw [hch4] at KB4
  rw [← ex] at hx KB KB4
  have HF := Lib.hid (four_cells x)
  have g1 : IntKind.u8.wrap (x : Int) = ((x % 256 : Nat) : Int) := by rw [IntKind.wrap_u8]; omega
  have g2 : IntKind.u8.wrap ((x : Int) / 256) = ((x / 256 % 256 : Nat) : Int) := by rw [IntKind.wrap_u8]; omega
  have g3 : IntKind.u8.wrap ((x : Int) / 65536) = ((x / 65536 % 256 : Nat) : Int) := by rw [IntKind.wrap_u8]; omega
  have g4 : IntKind.u8.wrap ((x : Int) / 16777216) = ((x / 16777216 % 256 : Nat) : Int) := by rw [IntKind.wrap_u8]; omega
  obtain ⟨p1, ep1⟩ : ∃ p, p = x % 256 := ⟨_, rfl⟩
  obtain ⟨p2, ep2⟩ : ∃ p, p = x / 256 % 256 := ⟨_, rfl⟩
  obtain ⟨p3, ep3⟩ : ∃ p, p = x / 65536 % 256 := ⟨_, rfl⟩
  obtain ⟨p4, ep4⟩ : ∃ p, p = x / 16777216 % 256 := ⟨_, rfl⟩
  rw [← ep1, ← ep2, ← ep3, ← ep4] at HF
  rw [← ep1] at g1
  rw [← ep2] at g2
  rw [← ep3] at g3
  rw [← ep4] at g4
  obtain ⟨o, eo⟩ : ∃ o, o = chk [0, 0, 0, 0] := ⟨_, rfl⟩
  rw [← eo] at KB4
  have EO := Lib.hid eo
  clear eJ er0 ez era ex ep1 ep2 ep3 ep4 eo hj hra hz h0 C4 CJ C1 C2 S1 S2 hch4 hown q1 q2 ht hx
  go_enter Tryd.func5, Tryd.ntmps5
  go_wp2_with (first
    | (at_builtin; refine wpList_app u8 rfl (.tmp 17) (.tmp 18) rfl (Has.made0 (Below.refl w.heap.size w) _) rfl S10 rfl (bs_one _) (by omega) (by simp only [maxLen]; omega) ?_; intro v1 w1 H1 _ _; rw [List.nil_append, Nat.zero_add] at H1; have s21 := HS2.out.to H1.bel)
    | (at_builtin; refine wpList_app u8 rfl (.tmp 19) (.tmp 20) rfl H1 rfl s21 rfl (bs_one _) (by omega) (by simp only [maxLen]; omega) ?_; intro v2 w2 H2 _ _; rw [bs_append] at H2)
    | fail)
  obtain ⟨A3, c3, rfl, -, S3, -⟩ := H2.slice
  have B2 := H2.bel
  clear H1 H2 s21 S10
  go_wp2_with fail
  refine (KRJ.out _ _ _ S3).mono ?_
  rintro e w3 ⟨rfl, rfl⟩
  go_wp2_with fail
  refine (KRA.out _ B2).mono ?_
  rintro e w3 ⟨rfl, rfl⟩
  go_wp2_with fail
  refine (KZ.out _ B2).mono ?_
  rintro e w3 ⟨rfl, b3⟩
  have B3 := B2.call b3
  clear b3 S3
  go_wp2_with fail
  refine (KR0.out _ B3).mono ?_
  rintro e w4 ⟨rfl, rfl⟩
  go_wp2_with fail
  refine (KB.out _ B3).mono ?_
  rintro e w4 ⟨rfl, rfl⟩
  have S14 := HS1.out.to (B3.new (.cells #[] 5))
  go_wp2_with (first
    | (at_builtin; refine wpList_app u8 rfl (.tmp 35) (.tmp 36) rfl (Has.made0 B3 _) rfl S14 rfl (bs_one _) (by omega) (by simp only [maxLen]; omega) ?_; intro v5 w5 H5 _ _; rw [List.nil_append, Nat.zero_add] at H5)
    | (at_builtin; refine wpList_app u8 rfl (.tmp 37) (.tmp 49) rfl (H5.alloc _) rfl (Sl.new _ #[_, _, _, _] _ _ (Nat.lt_succ_self _)) rfl (by intro u hu; simp at hu; rcases hu with rfl | rfl | rfl | rfl <;> rfl) (by show (n + 4) * 1 ≤ _; omega) (by show n + 4 ≤ maxLen; simp only [maxLen]; omega) ?_; intro v6 w6 H6 _ _)
    | fail)
  have H7 : Has w w6 5 v6 (n + 4) (bs (l ++ four x)) := by
    rw [← bs_append, ← HF.out]; exact H6
  clear H6 H5 S14
  obtain ⟨A6, c6, rfl, -, S6, -⟩ := H7.slice
  have B6 := H7.bel
  clear H7
  go_wp2_with fail
  refine (KB4.out _ _ _ S6).mono ?_
  rintro e w7 ⟨rfl, rfl⟩
  go_wp2_with fail
  refine (bytes_any _ 4 4 [0, 0, 0, 0] _ (Sl.new _ #[_, _, _, _] _ _ (by simp)) (bytes_of (by decide)) (by omega)).mono ?_
  rw [← EO.out]
  rintro e w8 ⟨rfl, h8⟩
  have B8 : Below w.heap.size w w8 := by rw [← h8]; exact B6.new _
  clear h8
  go_wp2_with fail
  refine (awake_any _).mono ?_
  rintro e w9 ⟨rfl, b9⟩
  go_wp2_with fail
  go_ret
  exact ⟨rfl, B8.call b9⟩
theorem sumJoins_any (A A2 : Option Addr) (n c n2 c2 : Nat) (l l2 : List Nat) (w : World) (S1 : Sl w w.heap.size A n (bs l)) (C1 : Bytes l) (S2 : Sl w w.heap.size A2 n2 (bs l2)) (C2 : Bytes l2) (ht : TabW w) :
    Calls Tryd.prog 5 #[.slice A n c, .slice A2 n2 c2] w fun e w' => e = .returned (.bool true) ∧ Below w.heap.size w w' := by
  by_cases h1 : 300 < n
  · exact joins_big A A2 n c n2 c2 w h1
  by_cases h2 : 300 < n2
  · exact joins_long A A2 n c n2 c2 w (by omega) h2
  exact joins_core A A2 n c n2 c2 l l2 w S1 C1 S2 C2 (by omega) (by omega) ht
end Go.Proofs.YtegcnnbhgdafmaaDoor.SmW
