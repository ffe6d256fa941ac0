/- The walks of the bytes that are still to be read: numbers, bits. -/
import Derived.Test.YtpajpcaninjhfaaAskL
import Derived.Test.YtpajpcaninjhfaaAskI
namespace Go.Proofs.Ytpajpcaninjhfaa.AskW
open Go.RowKit Go.Proofs.Ytpajpcaninjhfaa Go.Proofs.Ytpajpcaninjhfaa.Ask
def nums : List Nat → List Nat
  | [] => []
  | [x] => [256 * x]
  | x :: y :: r => (256 * x + y) :: nums r
theorem nums_step {xs : List Nat} (h : 0 < xs.length) : nums xs = num xs 0 :: nums (xs.drop 2) := by
  match xs, h with
  | [x], _ => simp [nums, num]
  | x :: y :: r, _ => simp [nums, num]
theorem nums_len : ∀ xs : List Nat, (nums xs).length ≤ xs.length
  | [] => Nat.le_refl _
  | [_] => Nat.le_refl _
  | _ :: _ :: r => by simp [nums]; have := nums_len r; omega
theorem num_lt {xs : List Nat} (h : Bytes xs) (i : Nat) : num xs i < 65536 := by
  have := h.at i; have := h.at (i + 1); unfold num; omega
def restLen (w : World) (k : Nat) : Nat := match w.heap[k]? with
  | some (Obj.cells cs _ _) => match (cs[0]? : Option Value) with
    | some (Value.slice _ n _) => n
    | _ => 0
  | _ => 0
theorem Rst.len {w : World} {k B : Nat} {xs : List Nat} (R : Rst w k B xs) : restLen w k = xs.length := by
  obtain ⟨A, n, c, hr, hs, _⟩ := R
  unfold restLen
  rw [hr]
  simpa using hs.len.symm
theorem Rst.keep {w w' : World} {k B : Nat} {xs : List Nat} (R : Rst w k B xs) {row : Option Nat} (g : w.grownBy w' row) (hB : B ≤ k) (hk : row ≠ some k) (hr : ∀ r, row = some r → B ≤ r) : Rst w' k B xs := by
  obtain ⟨A, n, c, h, hs, hn⟩ := R
  have hlt := row_lt h
  exact ⟨A, n, c, (g.block k hlt (fun e => hk e.symm)).trans h, hs.keep (fun b o hb => World.cell?_of_block (w := w) (a := ⟨b, o, none⟩) (g.block b (by omega) (fun e => by have := hr b e.symm; omega))), hn⟩
set_option maxHeartbeats 1000000 in
theorem numbers_any (w0 : World) (k B : Nat) (xs : List Nat) (hx : Bytes xs) (hB : B ≤ w0.heap.size) (hk : w0.heap.size ≤ k) (w : World) (hb : Below w0.heap.size w0 w) (R : Rst w k B xs) (hlen : xs.length ≤ 1000) :
    Calls Try.prog 46 #[.pointer (some ⟨k, 0, none⟩)] w fun e w' => ∃ v, e = .returned v ∧ Has w0 w' 22 v (nums xs).length (ws (nums xs)) ∧ w.grownBy w' (some k) ∧ (∀ g, v.ownBlock = some g → w.heap.size ≤ g) ∧ Rst w' k B [] := by
  have hnl := nums_len xs
  obtain ⟨Z, hZ⟩ : ∃ Z, Z = nums xs := ⟨_, rfl⟩
  rw [← hZ] at hnl ⊢
  have HZ := Lib.hid hZ
  clear hZ
  have HR := Lib.hid R
  have HX := Lib.hid hx
  have HL := Lib.hid hlen
  clear R hx hlen
  go_enter Try.func46, Try.ntmps46
  go_wp2_with fail
  go_loopw [3] (fun x wr => ∃ rem acc, acc ++ nums rem = Z ∧ Bytes rem ∧ rem.length ≤ 1000 ∧ Rst wr k B rem ∧ Has w0 wr 22 x acc.length (ws acc) ∧ w.grownBy wr (some k) ∧ (∀ g, x.ownBlock = some g → w.heap.size ≤ g)) (fun _ wr => restLen wr k)
  case atStart => exact ⟨xs, [], HZ.out.symm, HX.out, HL.out, HR.out, Has.nil_ hb _, ⟨rfl, rfl, rfl, Nat.le_refl _, fun _ _ _ => rfl⟩, by simp [Value.ownBlock]⟩
  case round =>
    obtain ⟨rem, acc, hacc, hby, hrl, R, H, g, ho⟩ := hrel
    have HR1 := Lib.hid R
    have hlen := R.len
    obtain ⟨A, n, c, hr, hs, hn⟩ := R
    have q1 : rem.length = n := by simpa using hs.len
    have c0 : wr.cell? ⟨k, 0, none⟩ = _ := cell_of_row wr k 0 _ _ _ hr
    have hsz := row_lt hr
    have HACC := Lib.hid hacc
    have HLEN := Lib.hid hlen
    have hkw : k < w.heap.size := by obtain ⟨_, _, _, h, _⟩ := HR.out; exact row_lt h
    clear hr hs hn hacc hlen
    by_cases h0 : 0 < n
    · have z1 : (0 : Int) < (n : Int) := by omega
      have HS := Lib.hid (nums_step (xs := rem) (by omega))
      have hN := num_lt hby 0
      have K := Lib.hid (number_any k B rem hby (by omega) wr HR1.out)
      have hal : acc.length ≤ 1000 := by
        have := congrArg List.length HACC.out
        simp at this
        have := HL.out
        omega
      go_wp2_with (first | (go_at_call 43; refine K.out.mono ?_; rintro e w1 ⟨rfl, R1, g1⟩; have H1 := H.other g1 hk (fun e => by have := ho _ e; omega)) | (at_builtin; refine wpList_app u16 rfl (.tmp 9) (.tmp 12) rfl (H1.alloc _) rfl (Sl.new1 _ _ _) rfl (one1 _ _) (by omega) (by simp only [maxLen]; omega) ?_; intro v3 w3 H3 g3 o3))
      go_roundw
      case rel =>
        have hw1 := g.then g1
        have g13 : w1.grownBy w3 u3.ownBlock := ⟨g3.os, g3.tape, g3.output, Nat.le_trans (by simp) g3.size, fun j hj hne => by
          rw [g3.block j (by simp; omega) hne]; exact Below.heap_alloc _ _ _ hj⟩
        have hs1 := g1.size
        have hsw := g.size
        refine ⟨rem.drop 2, acc ++ [num rem 0], ?_, hby.drop 2, by simp; omega, R1.keep g13 (by omega) (fun e => by have := ho _ e; omega) (fun r e => by have := ho _ e; omega), ?_, ?_, ?_⟩
        · rw [List.append_assoc, ← HACC.out, HS.out]; rfl
        · have := H3.cast (ys := ws (acc ++ [num rem 0])) (ws_append acc [num rem 0])
          simpa using this
        · exact ⟨g13.os.trans hw1.os, g13.tape.trans hw1.tape, g13.output.trans hw1.output, Nat.le_trans hw1.size g13.size, fun j hj hne => (g13.block j (by omega) (fun e => by have := ho _ e.symm; omega)).trans (hw1.block j hj hne)⟩
        · intro q hq
          rcases o3 with o3 | o3
          · rw [o3] at hq; exact ho _ hq
          · rw [o3] at hq; injection hq with hq; simp at hq; omega
      case measure =>
        have g13 : w1.grownBy w3 u3.ownBlock := ⟨g3.os, g3.tape, g3.output, Nat.le_trans (by simp) g3.size, fun j hj hne => by
          rw [g3.block j (by simp; omega) hne]; exact Below.heap_alloc _ _ _ hj⟩
        have R3 := R1.keep g13 (by omega) (fun e => by have := ho _ e; omega) (fun r e => by have := ho _ e; omega)
        rw [R3.len, HLEN.out]
        simp; omega
    · have z1 : ¬ (0 : Int) < (n : Int) := by omega
      obtain rfl : rem = [] := List.eq_nil_of_length_eq_zero (by omega)
      go_wp2_with fail
      go_ret
      have e : acc = Z := by have := HACC.out; simpa [nums] using this
      subst e
      exact ⟨_, rfl, H, g, ho, HR1.out⟩
theorem bits_any (k B : Nat) (xs : List Nat) (hx : Bytes xs) (hlen : xs.length ≤ 1000) (hB : B ≤ k) (w : World) (R : Rst w k B xs) (n : Nat) :
    Calls Try.prog 45 #[.pointer (some ⟨k, 0, none⟩), .int .i64 n] w fun e w' => ∃ A m c, e = .returned (.slice A m c) ∧ Sl w' w'.heap.size A m (bl ((unpack xs).take n)) ∧ (∀ b o, A = some (⟨b, o, none⟩ : Addr) → w.heap.size ≤ b) ∧ m ≤ c ∧ Below w.heap.size w w' := by
  obtain ⟨A0, n0, c0, hr, hs, hc0⟩ := R
  have q1 : xs.length = n0 := by simpa using hs.len
  have c1 : w.cell? ⟨k, 0, none⟩ = _ := cell_of_row w k 0 _ _ _ hr
  have hsz := row_lt hr
  have K := Lib.hid (unpack_any A0 n0 c0 xs w (hs.mono (by omega)) hx (by omega))
  obtain ⟨M, hM⟩ : ∃ M, M = 8 * n0 := ⟨_, rfl⟩
  rw [← hM] at K
  have hM2 : M ≤ 8000 := by omega
  have HM := Lib.hid hM
  have Q1 := Lib.hid q1
  obtain ⟨m, hmin, hmn, hmM, hmm⟩ : ∃ m : Nat, (∀ W, (Builtin.min_ #[3, 3] 3 #[.int .i64 (n : Int), .int .i64 (M : Int)]).run Try.prog W = .ok (.int .i64 (m : Int)) W) ∧ m ≤ n ∧ m ≤ M ∧ (m = n ∨ m = M) := by
    refine ⟨min n M, fun W => ?_, by omega, by omega, by omega⟩
    simp [Builtin.min_, Builtin.min2]
    (repeat' split) <;> omega
  have HMM := Lib.hid hmm
  clear hr hs hM q1 hmm
  go_enter Try.func45, Try.ntmps45
  go_wp2_with fail
  refine K.out.mono ?_
  rintro e w1 ⟨v, rfl, H⟩
  obtain ⟨A, c, rfl, hMc, S, hA⟩ := H.slice
  have z0 : (0 : Int) ≤ (m : Int) := by omega
  have z1 : (m : Int) ≤ (c : Int) := by omega
  have z2 : m ≤ c := by omega
  go_wp2_with fail
  go_ret
  refine ⟨A, m, c, rfl, ?_, fun b o h => hA b (by rw [h]; rfl), z2, H.bel⟩
  have S2 := S.take hmM
  rw [bl_take] at S2
  have e : (unpack xs).take m = (unpack xs).take n := by
    rcases HMM.out with h | h
    · rw [h]
    · rw [List.take_of_length_le (by rw [unpack_length, Q1.out, h, HM.out]; omega), List.take_of_length_le (by rw [unpack_length, Q1.out]; have := HM.out; omega)]
  rw [← e]
  exact S2
end Go.Proofs.Ytpajpcaninjhfaa.AskW
