/- The iterator of mbap.frames: its contract. -/
import Derived.RangeFuncNested
import Derived.RangeFuncBound
import Derived.RangeFuncCalls
import Derived.RangeFuncLeaves
import Derived.Shelf.Abstract
import Derived.Shelf.RegionOpen
import Derived.OwnWalkIn
import Derived.TacticsInMore
import Derived.LoopNIn
import Derived.LoopIn
import Derived.Test.YtofigldbkndjlaaMbC
set_option linter.unusedVariables false
set_option linter.unusedSimpArgs false
namespace Go.Proofs.Ytofigldbkndjlaa.MbW
open Go.RowKit Go.Shelf Go.Proofs.Ytofigldbkndjlaa Go.Proofs.Ytofigldbkndjlaa.Mb
attribute [local go_sem] Oper.semAt_some
/-- A piece of bytes that lie in world w0. -/
structure Pc (w0 : World) where
  A : Option Addr
  c : Nat
  l : List Nat
  S : Sl w0 w0.heap.size A l.length (bs l)
  B : Bytes l
  P : Piece l
  hc : l.length ≤ c
def Pc.enc {w0 : World} (x : Pc w0) : Array Value := #[.slice x.A x.l.length x.c]
def lenV : Value → Nat
  | .slice _ n _ => n
  | _ => 0
theorem grown_drewN (w : World) (q : Nat) : w.grownBy (w.drewN q) none := ⟨rfl, rfl, rfl, Nat.le_refl _, fun _ _ _ => rfl⟩
theorem frames_any (A : Option Addr) (n c : Nat) (w : World) :
    Calls Try.prog 21 #[.slice A n c] w fun e w' => e = .returned (.func (.func 25) #[] #[.pointer (some ⟨w.heap.size, 0, none⟩)]) ∧ w' = w.alloc (.cells #[.slice A n c] 23) := by
  go_enter Try.func21, Try.ntmps21
  go_wp2_with fail
  go_ret
  exact ⟨rfl, rfl⟩
set_option maxRecDepth 100000 in
set_option maxHeartbeats 4000000 in
theorem frames1_stops (m : Nat) (A : Option Addr) (n c : Nat) (xs : List Nat) (w0 w : World) (Bn : Nat) (hs : Sl w0 w0.heap.size A n (bs xs)) (hx : Bytes xs) (hc : n ≤ c) (hn : n ≤ 1000000) (hB0 : Below w0.heap.size w0 w)
    (hBn : Bn < w.heap.size) (hcell : w.cell? ⟨Bn, 0, none⟩ = some (.slice A n c)) :
    SeqStopsK Fence.wide m Try.prog 25 #[.pointer (some ⟨Bn, 0, none⟩)] (Pc.enc (w0 := w0)) (Below w0.heap.size) (fun ys => ys.map (·.l) = pieces xs) (fun _ => True) (pieces xs).length w := fun l J Jx W hW hJ hJx hY h0 => by
  have hlen : xs.length = n := by simpa using hs.len
  have hcW := (hW.cell (p := ⟨Bn, 0, none⟩) hBn).trans hcell
  have bW : Below w0.heap.size w0 W := hB0.call hW
  have HJ := Lib.hid (fun pre X q (h : J pre X) => hJ pre X _ none h (grown_drewN X q) (fun r e => by cases e))
  have KW := Lib.hid (fun A n c xs X (hs : Sl w0 w0.heap.size A n (bs xs)) hx hn (b : Below w0.heap.size w0 X) => whole_any A n c xs X (hs.to b) hx hn)
  have HY := Lib.hid hY
  have HS := Lib.hid hs
  have HX := Lib.hid hx
  have HL := Lib.hid hlen
  clear hY hJ hJx hs hx hlen hcell hBn hB0 hW
  refine callsIn_of_wp Try.func25 rfl trivial ?_ rfl
  simp only [Try.ntmps25, List.size_toArray, List.length_cons, List.length_nil, Nat.reduceAdd, Nat.reduceSub, Array.replicate_succ, Array.replicate_zero, List.push_toArray, List.append_toArray, List.nil_append, List.cons_append]
  gi_wp2_with fail
  refine ⟨trivial, fun h => by simp [Fence.wide] at h, (callsIn_wide.2 (KW.out A n c xs _ HS.out HX.out hn bW)).mono ?_⟩
  rintro e w1 ⟨rfl, d0, rfl⟩
  gi_wp2_with fail
  gi_loopw [3, 4] (fun p q wr => ∃ (pre : List (Pc w0)) (A' : Option Addr) (n' c' : Nat) (ys : List Nat), p = .slice A' n' c' ∧ q = .int .i64 ((whole ys : Nat) : Int) ∧ Hid (Sl w0 w0.heap.size A' n' (bs ys)) ∧ Hid (Bytes ys) ∧ Hid (ys.length = n') ∧ n' ≤ c' ∧ n' ≤ 1000000 ∧ Hid (pre.map (·.l) ++ pieces ys = pieces xs) ∧ Below w0.heap.size w0 wr ∧ J pre wr) (fun p _ _ => lenV p)
  case atStart => exact ⟨[], A, n, c, xs, rfl, rfl, HS, HX, HL, hc, hn, Lib.hid rfl, bW.drewN d0, HJ.out _ _ _ h0⟩
  case round =>
    obtain ⟨pre, A', n', c', ys, rfl, rfl, S', X', L', hc', hn', HP, bR, hJs⟩ := hrel
    have hcase := whole_cases ys
    have hnone := Lib.hid (fun h => (cut_none (xs := ys) h).1)
    have hsome := Lib.hid (fun h => (cut_some (xs := ys) h).1)
    have hpc := Lib.hid (fun h => whole_take (xs := ys) h)
    obtain ⟨k, hk⟩ : ∃ k, k = whole ys := ⟨_, rfl⟩
    rw [← hk] at hcase hnone hsome hpc ⊢
    clear hk
    rw [L'.out] at hcase
    by_cases h0k : k = 0
    · have HN0 := Lib.hid (hnone.out h0k)
      clear hnone hsome hpc hcase
      subst h0k
      gi_wp2_with fail
      go_end0
      refine ⟨⟨_, rfl⟩, .inl ⟨pre, ?_, hJs⟩⟩
      rw [← HP.out, HN0.out, List.append_nil]
    · have z1 : (0 : Int) < (k : Int) := by omega
      have z2 : k ≤ n' := by omega
      have z2c : k ≤ c' := by omega
      have z3 : (k : Int) ≤ (n' : Int) := by omega
      have z3c : (k : Int) ≤ (c' : Int) := by omega
      have hlk : (ys.take k).length = k := by rw [List.length_take, L'.out]; omega
      have hS1 := S'.out.take (k := k) z2
      rw [bs_take] at hS1
      have hS2 := S'.out.drop (k := k) z2 hc'
      rw [bs_drop] at hS2
      have hnew := hsome.out h0k
      obtain ⟨x, hx1, hx2, hx3⟩ : ∃ x : Pc w0, x.A = A' ∧ x.c = c' ∧ x.l = ys.take k := ⟨⟨A', c', ys.take k, by rw [hlk]; exact hS1, X'.out.take k, hpc.out h0k, by rw [hlk]; exact z2c⟩, rfl, rfl, rfl⟩
      obtain ⟨fn, tmps, assign, body, hy, hR⟩ := HY.out pre x wr hJs (by
        have e := congrArg List.length HP.out
        rw [List.length_append, List.length_map, hnew, List.length_cons] at e
        omega)
      dsimp only [Pc.enc] at hy
      rw [hx1, hx2, hx3, hlk] at hy
      have HX3 := Lib.hid hx3
      have HNEW := Lib.hid hnew
      clear hS1 hcase hlk hx1 hx2 hx3 hnew hnone hsome hpc
      gi_wp2_with fail
      refine ⟨fun h => by simp [Fence.wide] at h, hR.mono ?_⟩
      rintro e W3 (⟨rfl, hJ3, b3⟩ | ⟨rfl, hJx3⟩)
      · have bW3 := bR.trans b3
        by_cases hck : c' = k
        · rw [if_pos hck] at hS2
          have hnk : n' = k := by omega
          subst hck
          subst hnk
          rw [Nat.sub_self] at hS2
          have S2 := Lib.hid hS2
          clear hS2
          gi_wp2_with fail
          refine ⟨trivial, fun h => by simp [Fence.wide] at h, (callsIn_wide.2 (KW.out A' 0 0 (ys.drop n') W3 S2.out (X'.out.drop n') (by omega) bW3)).mono ?_⟩
          rintro e w5 ⟨rfl, d5, rfl⟩
          gi_wp2_with fail
          go_roundw
          case rel =>
            refine ⟨pre ++ [x], A', 0, 0, ys.drop n', rfl, rfl, S2.out, X'.out.drop n', ?_, by omega, by omega, ?_, bW3.drewN d5, HJ.out _ _ _ hJ3⟩
            · show (ys.drop n').length = 0
              rw [List.length_drop, L'.out, Nat.sub_self]
            · show (pre ++ [x]).map (·.l) ++ pieces (ys.drop n') = pieces xs
              rw [← HP.out, HNEW.out, List.map_append, List.append_assoc]
              show pre.map (·.l) ++ ([x.l] ++ pieces (ys.drop n')) = _
              rw [HX3.out]
              rfl
          case measure => show 0 < n'; omega
        · rw [if_neg hck] at hS2
          have S2 := Lib.hid hS2
          clear hS2
          gi_wp2_with fail
          refine ⟨trivial, fun h => by simp [Fence.wide] at h, (callsIn_wide.2 (KW.out (Option.map (fun x : Addr => x.add k) A') (n' - k) (c' - k) (ys.drop k) W3 S2.out (X'.out.drop k) (by omega) bW3)).mono ?_⟩
          rintro e w5 ⟨rfl, d5, rfl⟩
          gi_wp2_with fail
          go_roundw
          case rel =>
            refine ⟨pre ++ [x], Option.map (fun x : Addr => x.add k) A', n' - k, c' - k, ys.drop k, rfl, rfl, S2.out, X'.out.drop k, ?_, by omega, by omega, ?_, bW3.drewN d5, HJ.out _ _ _ hJ3⟩
            · show (ys.drop k).length = n' - k
              rw [List.length_drop, L'.out]
            · show (pre ++ [x]).map (·.l) ++ pieces (ys.drop k) = pieces xs
              rw [← HP.out, HNEW.out, List.map_append, List.append_assoc]
              show pre.map (·.l) ++ ([x.l] ++ pieces (ys.drop k)) = _
              rw [HX3.out]
              rfl
          case measure => show n' - k < n'; omega
      · gi_wp2_with fail
        refine bodyPost_ret (results_none rfl _ _ _) rfl ?_
        exact ⟨⟨_, rfl⟩, .inr ⟨pre ++ [x], trivial, hJx3⟩⟩
end Go.Proofs.Ytofigldbkndjlaa.MbW
