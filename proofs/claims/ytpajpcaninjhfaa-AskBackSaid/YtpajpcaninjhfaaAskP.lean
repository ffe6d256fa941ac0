/- Requests as bytes: what the fields of each function make of them. -/
import Derived.Test.YtpajpcaninjhfaaAskC
import Derived.Test.YtpajpcaninjhfaaAskN1
import Derived.Test.YtpajpcaninjhfaaAskN2
import Derived.Test.YtpajpcaninjhfaaAskN3
import Derived.Test.YtpajpcaninjhfaaAskN4
import Derived.Test.YtpajpcaninjhfaaAskN5
import Derived.Test.YtpajpcaninjhfaaAskO1
import Derived.Test.YtpajpcaninjhfaaAskO2
import Derived.Test.YtpajpcaninjhfaaAskO3
import Derived.Test.YtpajpcaninjhfaaAskO4
import Derived.Test.YtpajpcaninjhfaaAskO5
import Derived.Test.YtpajpcaninjhfaaAskO6
set_option linter.unusedVariables false
set_option linter.unusedSimpArgs false
namespace Go.Proofs.Ytpajpcaninjhfaa.AskW
open Go.RowKit Go.Proofs.Ytpajpcaninjhfaa Go.Proofs.Ytpajpcaninjhfaa.Ask
theorem fld_cases {f : Nat} (h : (fld f).isSome = true) : f = 1 ∨ f = 2 ∨ f = 3 ∨ f = 4 ∨ f = 5 ∨ f = 6 ∨ f = 15 ∨ f = 16 ∨ f = 23 := by
  unfold fld at h
  by_cases h1 : f = 1 ∨ f = 2
  · omega
  rw [if_neg h1] at h
  by_cases h2 : f = 3 ∨ f = 4
  · omega
  rw [if_neg h2] at h
  by_cases h3 : f = 5
  · omega
  rw [if_neg h3] at h
  by_cases h4 : f = 6
  · omega
  rw [if_neg h4] at h
  by_cases h5 : f = 15
  · omega
  rw [if_neg h5] at h
  by_cases h6 : f = 16
  · omega
  rw [if_neg h6] at h
  by_cases h7 : f = 23
  · omega
  rw [if_neg h7] at h
  cases h
theorem right_some {r : Req} (h : right r = true) : (fld r.f).isSome = true := by
  unfold right at h
  cases hf : fld r.f with
  | none => rw [hf] at h; cases h
  | some d => rfl
/-- The bytes of a request. -/
def bytes (r : Req) : List Nat := fbytes (fldOf r.f).many (fldOf r.f).to (fldOf r.f).bits (fldOf r.f).words r
/-- What is read of bytes. -/
def rd (xs : List Nat) : Req :=
  let f := xs[0]?.getD 0
  if f = 5 then ⟨f, num xs 1, 0, 0, [], [num xs 3 != 0]⟩
  else if f = 6 then ⟨f, num xs 1, 0, 0, nums (xs.drop 3), []⟩
  else if f = 15 then ⟨f, num xs 1, num xs 3, 0, [], (unpack (xs.drop 6)).take (num xs 3)⟩
  else if f = 16 then ⟨f, num xs 1, num xs 3, 0, nums (xs.drop 6), []⟩
  else if f = 23 then ⟨f, num xs 1, num xs 3, num xs 5, nums (xs.drop 10), []⟩
  else ⟨f, num xs 1, num xs 3, 0, [], []⟩
theorem rd_f (xs : List Nat) : (rd xs).f = xs[0]?.getD 0 := by
  unfold rd; dsimp only; repeat' split
  all_goals rfl
theorem nums_lt {xs : List Nat} : Bytes xs → ∀ y ∈ nums xs, y < 65536 := by
  induction xs using nums.induct with
  | case1 => intro _ y hy; cases hy
  | case2 x => intro h y hy; simp [nums] at hy; have := h x (by simp); omega
  | case3 x y r ih =>
    intro h z hz
    simp only [nums, List.mem_cons] at hz
    have h1 := h x (by simp)
    have h2 := h y (by simp)
    rcases hz with rfl | hz
    · omega
    · exact ih (fun c hc => h c (by simp [hc])) z hz
theorem rd_wf {xs : List Nat} (h : Bytes xs) : (rd xs).Wf := by
  have h0 := h.at 0
  have h1 := num_lt h 1
  have h3 := num_lt h 3
  have h5 := num_lt h 5
  unfold rd; dsimp only; repeat' split
  all_goals exact ⟨h0, h1, by first | exact h3 | exact Nat.zero_lt_succ _, by first | exact h5 | exact Nat.zero_lt_succ _, by first | exact nums_lt (h.drop _) | (intro x hx; cases hx)⟩
theorem read_any (A : Option Addr) (n c : Nat) (xs : List Nat) (w : World) (hs : Sl w w.heap.size A n (bs xs)) (hx : Bytes xs) (hn : 1 ≤ n) (hn2 : n ≤ 300) (hc : n ≤ c) (hk : (fld (xs[0]?.getD 0)).isSome = true) :
    Calls Try.prog 37 #[.agg #[.int .i64 (fldOf (xs[0]?.getD 0)).many, .bool (fldOf (xs[0]?.getD 0)).to, .int .u8 (fldOf (xs[0]?.getD 0)).bits, .int .u8 (fldOf (xs[0]?.getD 0)).words], .slice A n c] w (RetReq w (rd xs)) := by
  have hr : ∀ q, rd xs = q → RetReq w (rd xs) = RetReq w q := fun q h => by rw [h]
  rcases fld_cases hk with h | h | h | h | h | h | h | h | h
  · rw [hr ⟨xs[0]?.getD 0, num xs 1, num xs 3, 0, [], []⟩ (by simp [rd, h])]
    have := read_1 2000 (by decide) A n c xs w hs hx hn hn2 hc
    rw [h] at this ⊢
    exact this
  · rw [hr ⟨xs[0]?.getD 0, num xs 1, num xs 3, 0, [], []⟩ (by simp [rd, h])]
    have := read_1 2000 (by decide) A n c xs w hs hx hn hn2 hc
    rw [h] at this ⊢
    exact this
  · rw [hr ⟨xs[0]?.getD 0, num xs 1, num xs 3, 0, [], []⟩ (by simp [rd, h])]
    have := read_1 125 (by decide) A n c xs w hs hx hn hn2 hc
    rw [h] at this ⊢
    exact this
  · rw [hr ⟨xs[0]?.getD 0, num xs 1, num xs 3, 0, [], []⟩ (by simp [rd, h])]
    have := read_1 125 (by decide) A n c xs w hs hx hn hn2 hc
    rw [h] at this ⊢
    exact this
  · rw [hr ⟨xs[0]?.getD 0, num xs 1, 0, 0, [], [num xs 3 != 0]⟩ (by simp [rd, h])]
    have := read_2 0 (by decide) A n c xs w hs hx hn hn2 hc
    rw [h] at this ⊢
    exact this
  · rw [hr ⟨xs[0]?.getD 0, num xs 1, 0, 0, nums (xs.drop 3), []⟩ (by simp [rd, h])]
    have := read_3 0 (by decide) A n c xs w hs hx hn hn2 hc
    rw [h] at this ⊢
    exact this
  · rw [hr ⟨xs[0]?.getD 0, num xs 1, num xs 3, 0, [], (unpack (xs.drop 6)).take (num xs 3)⟩ (by simp [rd, h])]
    have := read_4 1968 (by decide) A n c xs w hs hx hn hn2 hc
    rw [h] at this ⊢
    exact this
  · rw [hr ⟨xs[0]?.getD 0, num xs 1, num xs 3, 0, nums (xs.drop 6), []⟩ (by simp [rd, h])]
    have := read_5 123 (by decide) A n c xs w hs hx hn hn2 hc
    rw [h] at this ⊢
    exact this
  · rw [hr ⟨xs[0]?.getD 0, num xs 1, num xs 3, num xs 5, nums (xs.drop 10), []⟩ (by simp [rd, h])]
    have := read_6 125 (by decide) A n c xs w hs hx hn hn2 hc
    rw [h] at this ⊢
    exact this
theorem fbytesAll_any (f a m t : Nat) (Aw : Option Addr) (nw cw : Nat) (Ab : Option Addr) (nb cb : Nat) (W : List Nat) (B : List Bool) (w : World)
    (hW : Sl w w.heap.size Aw nw (ws W)) (hB : Sl w w.heap.size Ab nb (bl B)) (hwf : Req.Wf ⟨f, a, m, t, W, B⟩) (hr : right ⟨f, a, m, t, W, B⟩ = true) :
    Calls Try.prog 31 #[.agg #[.int .i64 (fldOf f).many, .bool (fldOf f).to, .int .u8 (fldOf f).bits, .int .u8 (fldOf f).words], .agg #[.int .u8 f, .int .u16 a, .int .u16 m, .int .u16 t, .slice Aw nw cw, .slice Ab nb cb]] w
      fun e w' => ∃ v, e = .returned v ∧ Has w w' 5 v (bytes ⟨f, a, m, t, W, B⟩).length (bs (bytes ⟨f, a, m, t, W, B⟩)) := by
  have qW : W.length = nw := by simpa using hW.len
  have qB : B.length = nb := by simpa using hB.len
  have ha := hwf.at'
  have hm := hwf.many
  have ht := hwf.to
  have hww := hwf.words
  dsimp only at ha hm ht hww
  have hs := right_some hr
  dsimp only at hs
  rcases fld_cases hs with rfl | rfl | rfl | rfl | rfl | rfl | rfl | rfl | rfl
  all_goals simp [right, fld, Fld.right, fits, qW, qB] at hr
  · exact fbytes_1 2000 (by decide) 0 0 (by decide) (by decide) _ a m t Aw nw cw Ab nb cb W B w hW hB ha hm ht hww (by omega) (by omega)
  · exact fbytes_1 2000 (by decide) 0 0 (by decide) (by decide) _ a m t Aw nw cw Ab nb cb W B w hW hB ha hm ht hww (by omega) (by omega)
  · exact fbytes_1 125 (by decide) 0 0 (by decide) (by decide) _ a m t Aw nw cw Ab nb cb W B w hW hB ha hm ht hww (by omega) (by omega)
  · exact fbytes_1 125 (by decide) 0 0 (by decide) (by decide) _ a m t Aw nw cw Ab nb cb W B w hW hB ha hm ht hww (by omega) (by omega)
  · exact fbytes_5 _ a m t Aw nw cw Ab nb cb W B w hW hB ha (by omega)
  · exact fbytes_2 0 (by decide) 0 1 (by decide) (by decide) _ a m t Aw nw cw Ab nb cb W B w hW hB ha hm ht hww (by omega) (by omega)
  · exact fbytes_3 1968 (by decide) 2 0 (by decide) (by decide) _ a m t Aw nw cw Ab nb cb W B w hW hB ha hm ht hww (by omega) (by omega)
  · exact fbytes_3 123 (by decide) 0 2 (by decide) (by decide) _ a m t Aw nw cw Ab nb cb W B w hW hB ha hm ht hww (by omega) (by omega)
  · exact fbytes_4 125 (by decide) 0 3 (by decide) (by decide) _ a m t Aw nw cw Ab nb cb W B w hW hB ha hm ht hww (by omega) (by omega)
end Go.Proofs.Ytpajpcaninjhfaa.AskW
