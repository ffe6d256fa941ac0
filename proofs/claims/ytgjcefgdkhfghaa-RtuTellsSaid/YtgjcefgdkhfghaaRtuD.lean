/- The walk of saucierlaw04.awake. -/
import Derived.Test.YtgjcefgdkhfghaaRtuB
import Derived.Test.YtgjcefgdkhfghaaAG6
import Derived.Test.YtgjcefgdkhfghaaRepB
set_option linter.unusedVariables false
set_option linter.unusedSimpArgs false
namespace Go.Proofs.Ytgjcefgdkhfghaa.AskW
open Go.RowKit Go.Proofs.Ytgjcefgdkhfghaa Go.Proofs.Ytgjcefgdkhfghaa.Ask
theorem a4 : rtuA 1 ⟨3, 0, 10, 0, [], []⟩ = ([1, 3, 0, 0, 0, 10, 197, 205], 0) := by decide +kernel
theorem r4a : rtuR 1 [1, 131, 2, 192, 241] = (⟨3, 2, [], [], 0, 0⟩, 0) := by decide +kernel
theorem r4b : rtuR 2 [1, 131, 2, 192, 241] = (rep0, 10) := by decide +kernel
theorem nilW (w : World) (n : Nat) (A : Option Addr) (xs : List Nat) (h : Sl w w.heap.size A n (ws xs)) (hx : xs = []) : n = 0 := by subst hx; simpa using h.len.symm
set_option maxHeartbeats 8000000 in
theorem awake4_any (w : World) :
    Calls Try.prog 26 #[] w fun e w' => e = .returned (.bool true) ∧ Below w.heap.size w w' := by
  go_enter Try.func26, Try.ntmps26
  go_wp2_with fail
  refine (rtuAsk_any 1 3 0 10 0 none 0 0 none 0 0 [] [] w (by decide) (Sl.empty _ _ _) (Sl.empty _ _ _) (wf_of _ _ _ _ _ (by decide)) (by decide)).mono ?_
  rw [a4]
  rintro e w1 ⟨v, rfl, H⟩
  obtain ⟨A1, c1, rfl, _, S1, _⟩ := H.slice
  have B1 := H.bel
  clear H
  have S1 : Sl w1 w1.heap.size A1 8 (bs [1, 3, 0, 0, 0, 10, 197, 205]) := S1
  go_wp2_with fail
  refine (rtuReply_any 1 _ 5 5 [1, 131, 2, 192, 241] _ (bytes_then _ [1, 131, 2, 192, 241] _ _ (by simp)) (bytes_of (by decide)) (by decide) (by decide)).mono ?_
  rw [r4a]
  rintro e w2 ⟨pAb, pnb, pcb, pAw, pnw, pcw, rfl, SB, SW, hcb, hcw, oB, oW, b2⟩
  have B2 := (B1.new _).call b2
  have S2 := (S1.to ((Below.refl _ _).new _)).to b2
  have q1 : 0 = pnb := by simpa using SB.len
  have q2 : 0 = pnw := by simpa using SW.len
  subst q1 q2
  clear b2 S1 B1 oB oW
  dsimp only at SB SW ⊢
  have rq := heap_alloc_new w2 (.cells #[.int .u8 3, .int .u8 2, .slice pAb 0 pcb, .slice pAw 0 pcw, .int .u16 0, .int .u16 0] 26)
  have B3 := B2.new (.cells #[.int .u8 3, .int .u8 2, .slice pAb 0 pcb, .slice pAw 0 pcw, .int .u16 0, .int .u16 0] 26)
  have bn := (Below.refl w2.heap.size w2).new (.cells #[.int .u8 3, .int .u8 2, .slice pAb 0 pcb, .slice pAw 0 pcw, .int .u16 0, .int .u16 0] 26)
  have S3 := S2.to bn
  have SB := SB.to bn
  have SW := SW.to bn
  clear bn S2 B2
  go_wp2_with fail
  refine (rtuReply_any 2 _ 5 5 [1, 131, 2, 192, 241] _ (bytes_then _ [1, 131, 2, 192, 241] _ _ (by simp)) (bytes_of (by decide)) (by decide) (by decide)).mono ?_
  rw [r4b]
  rintro e w3 ⟨rAb, rnb, rcb, rAw, rnw, rcw, rfl, _, _, _, _, _, _, b3⟩
  have rq := b3.row (row_lt (row_alloc rq _)) (row_alloc rq _)
  have B4 := ((B3.new _).call b3).new (.cells #[.int .u8 0, .int .u8 0, .slice rAb rnb rcb, .slice rAw rnw rcw, .int .u16 0, .int .u16 0] 26)
  have bm := (((Below.refl _ _).new _).call b3).new (.cells #[.int .u8 0, .int .u8 0, .slice rAb rnb rcb, .slice rAw rnw rcw, .int .u16 0, .int .u16 0] 26)
  have S4 := S3.to bm
  have SB := SB.to bm
  have SW := SW.to bm
  have rq := row_alloc rq (.cells #[.int .u8 0, .int .u8 0, .slice rAb rnb rcb, .slice rAw rnw rcw, .int .u16 0, .int .u16 0] 26)
  clear bm b3 S3 B3
  dsimp only [rep0]
  go_wp2_with fail
  refine (lowSame_any A1 _ 8 c1 8 8 _ [1, 3, 0, 0, 0, 10, 197, 205] [1, 3, 0, 0, 0, 10, 197, 205] _ (S4.to ((Below.refl _ _).new _)) (bytes_of (by decide)) (bytes_then _ [1, 3, 0, 0, 0, 10, 197, 205] _ _ (by simp)) (bytes_of (by decide))).mono ?_
  rintro e w4 ⟨rfl, rfl⟩
  rw [beq_self_eq_true]
  have rq := row_alloc rq (.cells (bs [1, 3, 0, 0, 0, 10, 197, 205]).toArray 5)
  have B5 := B4.new (.cells (bs [1, 3, 0, 0, 0, 10, 197, 205]).toArray 5)
  obtain ⟨d0, d1, d2, d3, d4, d5⟩ := row6 rq
  go_wp2_with fail
  refine (repSame_any 3 2 pAb 0 pcb pAw 0 pcw 0 0 3 2 none 0 0 none 0 0 0 0 [] [] [] [] _ (SW.to ((Below.refl _ _).new _)) (SB.to ((Below.refl _ _).new _)) (Sl.empty _ _ _) (Sl.empty _ _ _) (by decide) (by decide) (by decide) (by decide)).mono ?_
  rintro e w5 ⟨rfl, b5⟩
  have B6 := B5.call b5
  go_wp2_with fail
  go_ret
  exact ⟨rfl, B6⟩
end Go.Proofs.Ytgjcefgdkhfghaa.AskW
