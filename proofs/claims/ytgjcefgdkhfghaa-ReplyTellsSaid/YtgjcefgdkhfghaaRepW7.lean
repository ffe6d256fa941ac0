/- The walk of saucierref03.Parse, all ways. -/
import Derived.Test.YtgjcefgdkhfghaaRepW5
import Derived.Test.YtgjcefgdkhfghaaRepW6
set_option linter.unusedVariables false
set_option linter.unusedSimpArgs false
namespace Go.Proofs.Ytgjcefgdkhfghaa.AskW
open Go.RowKit Go.Proofs.Ytgjcefgdkhfghaa Go.Proofs.Ytgjcefgdkhfghaa.Ask
theorem ref3Parse_any (A : Option Addr) (n c : Nat) (xs : List Nat) (w : World) (hs : Sl w w.heap.size A n (bs xs)) (hx : Bytes xs) (hn2 : n ≤ 300) (hc : n ≤ c) :
    Calls Try.prog 14 #[.slice A n c] w (RetRepTag w (rparse xs).1 .i64 (rparse xs).2) := by
  by_cases h2 : n < 2
  · exact ref3Parse_short A n c xs w hs h2
  have h2 : 2 ≤ n := by omega
  by_cases h128 : 128 ≤ xs[0]?.getD 0
  · exact ref3Parse_exc A n c xs w hs hx hn2 h2 hc h128
  by_cases h1' : xs[0]?.getD 0 = 1
  · exact ref3Parse_b1 A n c xs w hs hx hn2 h2 hc h1'
  by_cases h2' : xs[0]?.getD 0 = 2
  · exact ref3Parse_b2 A n c xs w hs hx hn2 h2 hc h2'
  by_cases h3' : xs[0]?.getD 0 = 3
  · exact ref3Parse_w3 A n c xs w hs hx hn2 h2 hc h3'
  by_cases h4' : xs[0]?.getD 0 = 4
  · exact ref3Parse_w4 A n c xs w hs hx hn2 h2 hc h4'
  by_cases h23' : xs[0]?.getD 0 = 23
  · exact ref3Parse_w23 A n c xs w hs hx hn2 h2 hc h23'
  by_cases h5' : xs[0]?.getD 0 = 5
  · exact ref3Parse_bit A n c xs w hs hx hn2 h2 hc h5'
  by_cases h6' : xs[0]?.getD 0 = 6
  · exact ref3Parse_word A n c xs w hs hx hn2 h2 hc h6'
  by_cases h15' : xs[0]?.getD 0 = 15
  · exact ref3Parse_m15 A n c xs w hs hx hn2 h2 hc h15'
  by_cases h16' : xs[0]?.getD 0 = 16
  · exact ref3Parse_m16 A n c xs w hs hx hn2 h2 hc h16'
  exact ref3Parse_none A n c xs w hs hx hn2 h2 hc (by
    unfold kdBy
    rw [if_neg h128, if_neg (by omega), if_neg (by omega), if_neg (by omega), if_neg (by omega), if_neg (by omega), if_neg (by omega)])
end Go.Proofs.Ytgjcefgdkhfghaa.AskW
