/- The walk of saucierref03.Parse: exceptions, what is none. -/
import Derived.Test.YtjfhfgchglaoiaaGreatRepW3
import Derived.Test.YtjfhfgchglaoiaaGreatRepRT
import Derived.Test.YtjfhfgchglaoiaaGreatRepI
set_option linter.unusedVariables false
set_option linter.unusedSimpArgs false
namespace Go.Proofs.YtjfhfgchglaoiaaGreat.AskW
open Go.RowKit Go.Proofs.YtjfhfgchglaoiaaGreat Go.Proofs.YtjfhfgchglaoiaaGreat.Ask
/-- The one reply that bytes may be of. -/
def cand3 (xs : List Nat) : Rep := match kdBy (xs[0]?.getD 0) with | some k => k.read xs | none => ⟨xs[0]?.getD 0, 0, [], [], 0, 0⟩
theorem cand3_wf {xs : List Nat} (h : Bytes xs) : (cand3 xs).Wf := by
  unfold cand3
  cases kdBy (xs[0]?.getD 0) with
  | none => exact ⟨h.at 0, by show 0 < 256; omega, (fun y hy => by cases hy), by show 0 < 65536; omega, by show 0 < 65536; omega⟩
  | some k => exact read_wf k h
theorem cand3_bytes {r : Rep} (h : rright r = true) : cand3 (rbytes r) = r := by
  obtain ⟨k, hk, hr, hb⟩ := rright_kd h
  obtain ⟨h1, h2, _, _⟩ := kd_back hk hr
  rw [hb]
  unfold cand3
  rw [h1]
  exact h2
theorem rparse_cand (xs : List Nat) : rparse xs = if rright (cand3 xs) && rbytes (cand3 xs) == xs then (cand3 xs, 0) else (rep0, 13) := by
  rcases rparse_cases xs with ⟨r, hr, hb, hp⟩ | hp
  · have := cand3_bytes hr
    rw [hb] at this
    rw [hp, this, hr, hb]; simp
  · rw [hp]
    by_cases h : (rright (cand3 xs) && rbytes (cand3 xs) == xs) = true
    · simp at h
      have := rparse_bytes h.1
      rw [h.2, hp] at this
      have := congrArg Prod.snd this
      simp at this
    · rw [if_neg h]
theorem rparse_short {xs : List Nat} (h : xs.length < 2) : rparse xs = (rep0, 13) := by
  rcases rparse_cases xs with ⟨r, hr, hb, hp⟩ | hp
  · have := rbytes_len hr
    rw [hb] at this
    omega
  · exact hp
/-- The world while a reply is laid at block k, the result at block w.heap.size. -/
structure Pr (w W : World) (k : Nat) (cs : Array Value) : Prop where
  bel : Below w.heap.size w W
  rz : W.heap[w.heap.size]? = some (.cells #[.int .u8 0, .int .u8 0, .slice none 0 0, .slice none 0 0, .int .u16 0, .int .u16 0] 40 (0, 0))
  ra : W.heap[k]? = some (.cells cs 40 (0, 0))
  hk : w.heap.size < k
section
variable {w W W' : World} {k : Nat} {cs : Array Value}
theorem Pr.lt (S : Pr w W k cs) : k < W.heap.size := row_lt S.ra
theorem Pr.call (S : Pr w W k cs) (b : Below W.heap.size W W') : Pr w W' k cs := ⟨S.bel.call b, b.row (by have := S.lt; have := S.hk; omega) S.rz, b.row (by have := S.lt; omega) S.ra, S.hk⟩
theorem Pr.new (S : Pr w W k cs) (o : Obj) : Pr w (W.alloc o) k cs := ⟨S.bel.new o, row_alloc S.rz o, row_alloc S.ra o, S.hk⟩
theorem Pr.drewN (S : Pr w W k cs) (d : Nat) : Pr w (W.drewN d) k cs := ⟨S.bel.drewN d, S.rz, S.ra, S.hk⟩
theorem Pr.drew (S : Pr w W k cs) : Pr w W.drew k cs := ⟨S.bel.drew, S.rz, S.ra, S.hk⟩
theorem Pr.set (S : Pr w W k cs) (i : Nat) (v : Value) : Pr w (W.setCell ⟨k, i, none⟩ v) k (cs.setIfInBounds i v) := by
  refine ⟨S.bel.setCell (Nat.le_of_lt S.hk) v, ?_, heap_setCell_same W _ i _ _ _ S.ra, S.hk⟩
  have hne : w.heap.size ≠ k := Nat.ne_of_lt S.hk
  exact (grown_setCell W k i v).row hne S.rz
theorem Pr.grown (S : Pr w W k cs) {v : Value} (g : W.grownBy W' v.ownBlock) (h : ∀ b, v.ownBlock = some b → w.heap.size < b ∧ b ≠ k) : Pr w W' k cs :=
  ⟨S.bel.grown g S.bel.size (fun k' hk => Nat.le_of_lt (h k' hk).1), (g.block _ (row_lt S.rz) (fun e => absurd (h _ e.symm).1 (Nat.lt_irrefl _))).trans S.rz, (g.block _ (row_lt S.ra) (fun e => (h _ e.symm).2 rfl)).trans S.ra, S.hk⟩
theorem Pr_new (w : World) (cs : Array Value) : Pr w ((w.alloc (.cells #[.int .u8 0, .int .u8 0, .slice none 0 0, .slice none 0 0, .int .u16 0, .int .u16 0] 40)).alloc (.cells cs 40)) (w.heap.size + 1) cs :=
  ⟨((Below.refl _ _).new _).new _, row_alloc (heap_alloc_new w _) _, heap_alloc2_new w _ _, Nat.lt_succ_self _⟩
end
end Go.Proofs.YtjfhfgchglaoiaaGreat.AskW
