/- The walk of saucierref03.Parse: bits that were read. -/
import Derived.Test.YtjfhfgchglaoiaaGreatRepW4
import Derived.Test.YtjfhfgchglaoiaaGreatAG7
import Derived.Test.YtjfhfgchglaoiaaGreatRepF
set_option linter.unusedVariables false
set_option linter.unusedSimpArgs false
namespace Go.Proofs.YtjfhfgchglaoiaaGreat.AskW
open Go.RowKit Go.Proofs.YtjfhfgchglaoiaaGreat Go.Proofs.YtjfhfgchglaoiaaGreat.Ask
theorem sl_drop2 {w : World} {B b o n : Nat} {xs : List Nat} (h : Sl w B (some ⟨b, o, none⟩) n (bs xs)) (hn : 2 ≤ n) : Sl w B (some ⟨b, o + 2, none⟩) (n - 2) (bs (xs.drop 2)) := by
  have := h.drop (k := 2) (cap := n + 3) hn (by omega)
  rw [if_neg (by omega), bs_drop] at this
  exact this
theorem refUnpack_len (A : Option Addr) (n c m : Nat) (l : List Nat) (w : World) (hs : Sl w w.heap.size A n (bs l)) (hl : Bytes l) (hn : n ≤ 100000) (hm : 8 * n = m) :
    Calls Tryz.prog 83 #[.slice A n c] w fun e w' => ∃ v, e = .returned v ∧ Has w w' 4 v m (bl (unpack l)) := by
  subst hm
  exact refUnpack_any A n c l w hs hl hn
theorem sl_drop0 {w : World} {B : Nat} {A : Option Addr} {xs : List Nat} (h : xs.length = 2) : Sl w B A 0 (bs (xs.drop 2)) :=
  ⟨by simp [h], fun h => absurd h (by omega)⟩
end Go.Proofs.YtjfhfgchglaoiaaGreat.AskW
