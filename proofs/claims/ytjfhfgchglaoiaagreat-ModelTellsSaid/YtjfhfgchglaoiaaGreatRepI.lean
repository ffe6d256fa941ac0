/- The walk of reply.Parse. -/
import Derived.Test.YtjfhfgchglaoiaaGreatAG6
import Derived.Test.YtjfhfgchglaoiaaGreatRepH
set_option linter.unusedVariables false
set_option linter.unusedSimpArgs false
namespace Go.Proofs.YtjfhfgchglaoiaaGreat.AskW
open Go.RowKit Go.Proofs.YtjfhfgchglaoiaaGreat Go.Proofs.YtjfhfgchglaoiaaGreat.Ask
/-- A reply and a number beside it are handed back. -/
def RetRepTag (w : World) (r : Rep) (k : IntKind) (n : Int) (e : Ending) (w' : World) : Prop := ∃ Ab nb cb Aw nw cw, e = .returned (.tuple #[.agg #[.int .u8 (r.f : Nat), .int .u8 (r.x : Nat), .slice Ab nb cb, .slice Aw nw cw, .int .u16 (r.at' : Nat), .int .u16 (r.many : Nat)], .int k n]) ∧
  Sl w' w'.heap.size Ab nb (bl r.bits) ∧ Sl w' w'.heap.size Aw nw (ws r.words) ∧ nb ≤ cb ∧ nw ≤ cw ∧ (∀ b o, Ab = some (⟨b, o, none⟩ : Addr) → w.heap.size ≤ b) ∧ (∀ b o, Aw = some (⟨b, o, none⟩ : Addr) → w.heap.size ≤ b) ∧ Below w.heap.size w w'
theorem RetRepTag.bare {w w' : World} (k : IntKind) (n : Int) (h : Below w.heap.size w w') : RetRepTag w rep0 k n (.returned (.tuple #[.agg #[.int .u8 0, .int .u8 0, .slice none 0 0, .slice none 0 0, .int .u16 0, .int .u16 0], .int k n])) w' :=
  ⟨none, 0, 0, none, 0, 0, rfl, Sl.empty _ _ _, Sl.empty _ _ _, Nat.le_refl _, Nat.le_refl _, (fun _ _ h => by cases h), (fun _ _ h => by cases h), h⟩
theorem read_small (k : Kd) (xs : List Nat) (h : xs.length ≤ 300) : (k.read xs).bits.length ≤ 3000 ∧ (k.read xs).words.length ≤ 3000 := by
  cases k <;> simp [Kd.read, unpack_length, pairs_len] <;> omega
theorem read_wf (k : Kd) {xs : List Nat} (h : Bytes xs) : (k.read xs).Wf := by
  have h0 := h.at 0
  have h1 := h.at 1
  have a1 := atF_lt h 1
  have a3 := atF_lt h 3
  cases k
  all_goals refine ⟨?_, ?_, ?_, ?_, ?_⟩ <;> dsimp only [Kd.read]
  all_goals first | omega | exact h0 | exact h1 | exact a1 | exact a3 | exact pairs_lt (h.drop _) | (intro y hy; cases hy; done) | (intro y hy; simp at hy; omega) | decide
theorem kbytes_lt (k : Kd) (r : Rep) (h : r.Wf) : Bytes (k.bytes r) := by
  have hf := h.f
  cases k
  · exact Bytes.app (l := [_]) (Bytes.one (by omega)) (Bytes.one h.x)
  · exact Bytes.app (l := [_, _]) (Bytes.app (l := [_]) (Bytes.one hf) (Bytes.one (by omega))) (pack_bytes _)
  · exact Bytes.app (l := [_, _]) (Bytes.app (l := [_]) (Bytes.one hf) (Bytes.one (by omega))) (twos_lt h.words)
  · refine Bytes.app (l := [_]) (Bytes.one hf) (Bytes.app (two_lt h.at') (two_lt ?_))
    split <;> decide
  · refine Bytes.app (l := [_]) (Bytes.one hf) (Bytes.app (two_lt h.at') (two_lt ?_))
    cases hw : r.words with
    | nil => decide
    | cons y l => exact h.words y (by rw [hw]; simp)
  · exact Bytes.app (l := [_]) (Bytes.one hf) (Bytes.app (two_lt h.at') (two_lt h.many))
end Go.Proofs.YtjfhfgchglaoiaaGreat.AskW
