/- The walks of bytes.Clone, mbap.read, mbap.Parse. -/
import Derived.Lib.SliceRun
import Derived.Deep.RegionLaw
import Derived.Deep.RegionHeld3
import Derived.Deep.DeepCutAuto
import Derived.Test.YtofigldbkndjlaaMbA
import Derived.Test.YtofigldbkndjlaaMbMem
set_option linter.unusedVariables false
set_option linter.unusedSimpArgs false
namespace Go.Proofs.Ytofigldbkndjlaa.MbW
open Go.RowKit Go.Proofs.Ytofigldbkndjlaa Go.Proofs.Ytofigldbkndjlaa.Mb
theorem clone_any (A : Option Addr) (n c : Nat) (l : List Nat) (w : World) (hs : Sl w w.heap.size A n (bs l)) (hn : n ≤ 1000000) :
    Calls Try.prog 24 #[.slice A n c] w fun e w' => ∃ A' c', e = .returned (.slice A' n c') ∧ Sl w' w'.heap.size A' n (bs l) ∧ (∀ b o, A' = some (⟨b, o, none⟩ : Addr) → w.heap.size ≤ b) ∧ Below w.heap.size w w' := by
  have q1 : l.length = n := by simpa using hs.len
  have qT : ∀ (w : World) (a : Option Addr) (n c n' c' : Nat), (binOp .eql 23 (.slice a n c) (.slice none n' c')).run Try.prog w = .ok (.bool a.isNone) w := fun w a n c n' c' => Lib.run_eql_slice_nil w _ _ a n c n' c' Try.underlying23
  have S0 := hs.to ((Below.refl _ w).new (.cells #[] 5))
  rcases A with _ | ad
  · have h0 : n = 0 := by
      rcases Nat.eq_zero_or_pos n with h | h
      · exact h
      · obtain ⟨b, o, e, _⟩ := hs.2 h
        cases e
    subst h0
    have hl := List.eq_nil_of_length_eq_zero q1
    subst hl
    clear hs S0 q1
    go_enter Try.func24, Try.ntmps24
    go_wp2_with fail
    go_ret
    exact ⟨none, 0, rfl, Sl.empty _ _ _, (fun _ _ h => by cases h), Below.refl _ _⟩
  · clear hs q1
    go_enter Try.func24, Try.ntmps24
    go_wp2_with (at_builtin; refine wpList_app _root_.Go.Proofs.Ytofigldbkndjlaa.MbW.u8 rfl (.tmp 5) (.tmp 6) rfl (Has.made0 (Below.refl w.heap.size w) _) rfl S0 rfl (bs_one _) (by omega) (by simp only [maxLen]; omega) ?_; intro v1 w1 H1 _ _; obtain ⟨A1, c1, rfl, hc1, S1, o1⟩ := H1.slice)
    go_ret
    rw [Nat.zero_add] at hc1 S1
    rw [List.nil_append] at S1
    exact ⟨A1, c1, by first | rfl | (rw [Nat.zero_add]; rfl), S1, fun b o h => o1 b (by rw [h]; rfl), H1.bel⟩
/-- A frame by value, whose bytes lie in memory of the call's own. -/
def RetFm (w : World) (x : Fm) (e : Ending) (w' : World) : Prop := ∃ C k c, e = .returned (.agg #[.int .u16 (x.tx : Nat), .int .u8 (x.unit : Nat), .slice C k c]) ∧ Sl w' w'.heap.size C k (bs x.pdu) ∧ (∀ b o, C = some (⟨b, o, none⟩ : Addr) → w.heap.size ≤ b) ∧ Below w.heap.size w w'
theorem number_bel (A : Option Addr) (n c : Nat) (xs : List Nat) (i : Nat) (w : World) (hs : Sl w w.heap.size A n (bs xs)) (hx : Bytes xs) (hi : i + 1 < n) (hn : n ≤ 1000000) :
    Calls Try.prog 23 #[.slice A n c, .int .i64 (i : Nat)] w fun e w' => e = .returned (.int .i64 ((num xs i : Nat) : Int)) ∧ Below w.heap.size w w' :=
  (number_any A n c xs i w hs hx hi hn).mono fun e w' h => ⟨h.1, by obtain ⟨q, rfl⟩ := h.2; exact (Below.refl _ _).drewN q⟩
theorem num_lt {xs : List Nat} (hx : Bytes xs) (i : Nat) : num xs i < 65536 := by
  have := hx.at i
  have := hx.at (i + 1)
  unfold num; omega
set_option maxHeartbeats 2000000 in
theorem read_any (A : Option Addr) (n c : Nat) (xs : List Nat) (w : World) (hs : Sl w w.heap.size A n (bs xs)) (hx : Bytes xs) (h8 : 8 ≤ n) (hc : n ≤ c) (hn : n ≤ 1000000) :
    Calls Try.prog 19 #[.slice A n c] w (RetFm w (read xs)) := by
  have hlen : xs.length = n := by simpa using hs.len
  have hd := hs.drop (k := 7) (by omega) hc
  rw [bs_drop, if_neg (by omega)] at hd
  have KN := Lib.hid (fun X (b : Below w.heap.size w X) => number_bel A n c xs 0 X (hs.to b) hx (by omega) hn)
  obtain ⟨b, o, rfl, hb, hcell⟩ := hs.2 (by omega)
  rw [show Option.map (fun x : Addr => x.add 7) (some (⟨b, o, none⟩ : Addr)) = some ⟨b, o + 7, none⟩ from rfl] at hd
  have KC := Lib.hid (fun X c (b : Below w.heap.size w X) => clone_any _ (n - 7) c (xs.drop 7) X (hd.to b) (by omega))
  have h6 := (hcell 6 (by omega)).trans (bs_get (by omega))
  have hN := num_lt hx 0
  have HR := Lib.hid (show read xs = ⟨num xs 0, xs[6]?.getD 0, xs.drop 7⟩ from rfl)
  obtain ⟨R, hR⟩ : ∃ R, R = read xs := ⟨_, rfl⟩
  rw [← hR] at HR ⊢
  obtain ⟨u, hu⟩ : ∃ u, u = xs[6]?.getD 0 := ⟨_, rfl⟩
  obtain ⟨N, hNN⟩ : ∃ N, N = num xs 0 := ⟨_, rfl⟩
  obtain ⟨D, hD⟩ : ∃ D, D = xs.drop 7 := ⟨_, rfl⟩
  rw [← hu, ← hNN, ← hD] at HR
  rw [← hu] at h6
  rw [← hNN] at KN hN
  rw [← hD] at KC
  have HC6 := Lib.hid (fun X (k : Below w.heap.size w X) => (k.cell (p := ⟨b, o + 6, none⟩) hb).trans h6)
  have wN : IntKind.u16.wrap (N : Int) = N := by rw [IntKind.wrap_u16]; omega
  have z6 : (6 : Int) < (n : Int) := by omega
  have z7 : (7 : Int) ≤ (n : Int) := by omega
  have y6 : 6 < n := by omega
  have y7 : 7 ≤ n := by omega
  have yc : ¬ c = 7 := by omega
  clear hs hx hlen hd hcell hR hu hNN hD hb h6
  have rz0 := heap_alloc_new w (.cells #[.int .u16 0, .int .u8 0, .slice none 0 0] 25)
  have B0 := (Below.refl w.heap.size w).new (.cells #[.int .u16 0, .int .u8 0, .slice none 0 0] 25)
  go_enter Try.func19, Try.ntmps19
  go_wp2_with fail
  obtain ⟨W1, hW1⟩ : ∃ W1, W1 = w.alloc (.cells #[.int .u16 0, .int .u8 0, .slice none 0 0] 25) := ⟨_, rfl⟩
  rw [← hW1] at rz0 B0 ⊢
  clear hW1
  have rz : W1.drew.heap[w.heap.size]? = _ := rz0
  have B1 := B0.drew
  have g6 := HC6.out _ B1
  have g60 := HC6.out _ B0
  clear rz0
  go_region_law (first
    | (rw [if_pos (by kernel_rfl)]; go_simp; go_at_call 23; refine (KN.out _ B1).mono ?_; rintro e w2 ⟨rfl, b2⟩; have B2 := B1.call b2; have rz2 := b2.row (row_lt rz) rz; have g62 := HC6.out _ B2; clear b2)
    | (rw [if_pos (by kernel_rfl)]; go_simp; go_at_call 24; refine (KC.out _ _ B2).mono ?_; rintro e w3 ⟨C, k, rfl, SC, oC, b3⟩; have B3 := B2.call b3; have rz3 := b3.row (row_lt rz2) rz2; have g63 := HC6.out _ B3; have lt3 := B2.size; obtain ⟨c0, c1, c2⟩ := row3 rz3; obtain ⟨f0, f1, f2⟩ := free3 rz3; clear b3)
    | fail)
  all_goals (
    go_wp2_with fail
    obtain ⟨h4, g4⟩ := set3 (.int .u16 (N : Nat)) (.int .u8 (u : Nat)) (.slice C (n - 7) k) rz3
    refine bodyPost_row rfl w.heap.size 25 #[.int .u16 (N : Nat), .int .u8 (u : Nat), .slice C (n - 7) k] (0, 0) _ rfl h4 Try.underlying25 rfl (by kernel_rfl) rfl ?_
    rw [HR.out]
    have hlt := row_lt rz2
    refine ⟨C, n - 7, k, rfl, SC.grown g4 (fun b o e h => ?_), fun b o e => Nat.le_trans lt3 (oC b o e), B3.grown g4 B3.size (fun j hj => by injection hj with hj; omega)⟩
    have := oC b o e
    injection h with h
    omega)
end Go.Proofs.Ytofigldbkndjlaa.MbW
