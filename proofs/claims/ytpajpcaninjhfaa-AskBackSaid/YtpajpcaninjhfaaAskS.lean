/- The walk of ask.Parse. -/
import Derived.Test.YtpajpcaninjhfaaAskR
set_option linter.unusedVariables false
set_option linter.unusedSimpArgs false
namespace Go.Proofs.Ytpajpcaninjhfaa.AskW
open Go.RowKit Go.Proofs.Ytpajpcaninjhfaa Go.Proofs.Ytpajpcaninjhfaa.Ask
/-- The request that bytes say, or the error. -/
def parseF (xs : List Nat) : Req × Int := if (lookF xs).2 = 0 then ((lookF xs).1, 0) else (bare 0, 12)
set_option maxHeartbeats 8000000 in
theorem parse_any (A : Option Addr) (n c : Nat) (xs : List Nat) (w : World) (hs : Sl w w.heap.size A n (bs xs)) (hx : Bytes xs) (hn2 : n ≤ 300) (hc : n ≤ c) :
    Calls Try.prog 18 #[.slice A n c] w (RetReqTag w (parseF xs).1 .i64 (parseF xs).2) := by
  have HP := Lib.hid (show parseF xs = if (lookF xs).2 = 0 then ((lookF xs).1, 0) else (bare 0, 12) from rfl)
  have K := Lib.hid (fun X hs => look_any A n c xs X hs hx hn2 hc)
  have HS := Lib.hid hs
  obtain ⟨P, hP⟩ : ∃ P, P = parseF xs := ⟨_, rfl⟩
  obtain ⟨⟨y, T⟩, hT⟩ : ∃ L, L = lookF xs := ⟨_, rfl⟩
  rw [← hP, ← hT] at HP
  rw [← hP]
  rw [← hT] at K
  dsimp only at HP K
  clear hP hT hs hx hn2 hc
  obtain ⟨y1, y2, y3, y4, y5, y6⟩ := y
  go_enter Try.func18, Try.ntmps18
  go_wp2_with fail
  refine (K.out _ (HS.out.to ((Below.refl _ _).new _))).mono ?_
  rintro e w1 ⟨Aw, nw, cw, Ab, nb, cb, rfl, SW, SB, hcw, hcb, oW, oB, b1⟩
  have rz := b1.row (by simp) (heap_alloc_new w _)
  have hb := ((Below.refl _ w).new _).call b1
  have hlt : w.heap.size < w1.heap.size := row_lt rz
  have rq := heap_alloc_new w1 (.cells #[.int .u8 (y1 : Nat), .int .u16 (y2 : Nat), .int .u16 (y3 : Nat), .int .u16 (y4 : Nat), .slice Aw nw cw, .slice Ab nb cb] 26)
  have rz := row_alloc rz (.cells #[.int .u8 (y1 : Nat), .int .u16 (y2 : Nat), .int .u16 (y3 : Nat), .int .u16 (y4 : Nat), .slice Aw nw cw, .slice Ab nb cb] 26)
  have hb := hb.new (.cells #[.int .u8 (y1 : Nat), .int .u16 (y2 : Nat), .int .u16 (y3 : Nat), .int .u16 (y4 : Nat), .slice Aw nw cw, .slice Ab nb cb] 26)
  clear b1
  by_cases h0 : T = 0
  · subst h0
    go_wp2_with (first
      | (refine wpList_load_row rfl 26 (.tmp 4) rfl w1.heap.size rfl 26 #[.int .u8 (y1 : Nat), .int .u16 (y2 : Nat), .int .u16 (y3 : Nat), .int .u16 (y4 : Nat), .slice Aw nw cw, .slice Ab nb cb] (0, 0) _ rq Try.underlying26 rfl (by kernel_rfl) ?_)
      | (refine wpList_store_grown rfl 26 (.tmp 2) _ rfl w.heap.size #[.int .u8 (y1 : Nat), .int .u16 (y2 : Nat), .int .u16 (y3 : Nat), .int .u16 (y4 : Nat), .slice Aw nw cw, .slice Ab nb cb] rfl rfl 26 _ rz (by kernel_rfl) rfl (by simp [Value.oneCell']) ?_; intro w9 h9 g9 s9))
    refine bodyPost_row_tmp rfl w.heap.size 26 #[.int .u8 (y1 : Nat), .int .u16 (y2 : Nat), .int .u16 (y3 : Nat), .int .u16 (y4 : Nat), .slice Aw nw cw, .slice Ab nb cb] (0, 0) _ (.int .i64 0) rfl h9 Try.underlying26 rfl (by kernel_rfl) rfl rfl ?_
    rw [HP.out, if_pos trivial]
    have SW := SW.to ((Below.refl _ w1).new (.cells #[.int .u8 (y1 : Nat), .int .u16 (y2 : Nat), .int .u16 (y3 : Nat), .int .u16 (y4 : Nat), .slice Aw nw cw, .slice Ab nb cb] 26))
    have SB := SB.to ((Below.refl _ w1).new (.cells #[.int .u8 (y1 : Nat), .int .u16 (y2 : Nat), .int .u16 (y3 : Nat), .int .u16 (y4 : Nat), .slice Aw nw cw, .slice Ab nb cb] 26))
    exact ⟨Aw, nw, cw, Ab, nb, cb, rfl, SW.grown g9 (fun b o h e => by have := oW b o h; simp at this; injection e with e; omega), SB.grown g9 (fun b o h e => by have := oB b o h; simp at this; injection e with e; omega), hcw, hcb, (fun b o h => by have := oW b o h; simp at this; omega), (fun b o h => by have := oB b o h; simp at this; omega), hb.grown g9 hb.size (fun k hk => by injection hk with hk; omega)⟩
  · have hT : ((T : Int) != 0) = true := by rw [bne_iff_ne]; omega
    have H0 := Lib.hid h0
    clear h0
    go_wp2_with (refine wpList_store_grown rfl 26 (.tmp 2) _ rfl w.heap.size #[.int .u8 0, .int .u16 0, .int .u16 0, .int .u16 0, .slice none 0 0, .slice none 0 0] rfl rfl 26 _ rz (by kernel_rfl) rfl (by simp [Value.oneCell']) ?_; intro w9 h9 g9 s9)
    refine bodyPost_row_tmp rfl w.heap.size 26 #[.int .u8 0, .int .u16 0, .int .u16 0, .int .u16 0, .slice none 0 0, .slice none 0 0] (0, 0) _ (.int .i64 12) rfl h9 Try.underlying26 rfl (by kernel_rfl) rfl rfl ?_
    rw [HP.out, if_neg H0.out]
    exact RetReqTag.bare 0 _ _ (hb.grown g9 hb.size (fun k hk => by injection hk with hk; omega))
end Go.Proofs.Ytpajpcaninjhfaa.AskW
