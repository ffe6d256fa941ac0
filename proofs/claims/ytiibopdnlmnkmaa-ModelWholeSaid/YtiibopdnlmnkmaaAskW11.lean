/- The walk of saucierref02.Parse: where bits are written. -/
import Derived.Test.YtiibopdnlmnkmaaAG9
import Derived.Test.YtiibopdnlmnkmaaAG2
import Derived.Deep.RegionLaw
import Derived.Deep.RegionHeld3
set_option linter.unusedVariables false
set_option linter.unusedSimpArgs false
namespace Go.Proofs.Ytiibopdnlmnkmaa.AskW
open Go.RowKit Go.Proofs.Ytiibopdnlmnkmaa Go.Proofs.Ytiibopdnlmnkmaa.Ask
theorem sl_one {w : World} {b o n c : Nat} {xs : List Nat} (h : Sl w w.heap.size (some ⟨b, o, none⟩) n (bs xs)) {p : Nat} (hp : p < n) : Sl w w.heap.size (some ⟨b, o + p, none⟩) 1 (bs [xs[p]?.getD 0]) := by
  refine ⟨rfl, fun _ => ?_⟩
  obtain ⟨b', o', e, hb, hc⟩ := h.2 (by omega)
  injection e with e
  injection e with e1 e2
  subst e1 e2
  refine ⟨b, o + p, rfl, hb, fun j hj => ?_⟩
  obtain rfl : j = 0 := by omega
  have hl : xs.length = n := by simpa using h.len
  exact (hc p hp).trans (bs_get (by omega))
theorem unpack_one (y r : Nat) (h : r < 8) : (unpack [y])[r]?.getD false = y.testBit r := by
  rw [unpack_get (by simpa using h), show r / 8 = 0 by omega, show r % 8 = r by omega]; rfl
theorem bit_snoc (xs : List Nat) (j : Nat) (h : j < (unpack (xs.drop 6)).length) : (unpack (xs.drop 6)).take (j + 1) = (unpack (xs.drop 6)).take j ++ [(xs[6 + j / 8]?.getD 0).testBit (j % 8)] := by
  rw [List.take_succ_eq_append_getElem h]
  congr 2
  have := unpack_get (b := xs.drop 6) (j := j) (by simpa [unpack_length] using h)
  rw [List.getElem?_eq_getElem h, List.getElem?_drop] at this
  simpa using this
end Go.Proofs.Ytiibopdnlmnkmaa.AskW
