/- Merged: AskW1 AskW2 AskW3 AskW4 AskW5 AskW6. -/
import Derived.Test.YtiibopdnlmnkmaaAG1
import Derived.Test.YtiibopdnlmnkmaaBase
import Derived.Test.YtiibopdnlmnkmaaAG6
import Derived.Deep.QuietTactic
import Derived.BigQuiet
import Derived.Test.YtiibopdnlmnkmaaAG2
/- The walks of saucierref02.Two and Words. -/
set_option linter.unusedVariables false
set_option linter.unusedSimpArgs false
namespace Go.Proofs.Ytiibopdnlmnkmaa.AskW
open Go.RowKit Go.Proofs.Ytiibopdnlmnkmaa Go.Proofs.Ytiibopdnlmnkmaa.Ask
end Go.Proofs.Ytiibopdnlmnkmaa.AskW
/- The walk of saucierref02.Unpack. -/
set_option linter.unusedVariables false
set_option linter.unusedSimpArgs false
namespace Go.Proofs.Ytiibopdnlmnkmaa.AskW
open Go.RowKit Go.Proofs.Ytiibopdnlmnkmaa Go.Proofs.Ytiibopdnlmnkmaa.Ask
theorem eb : Elem Try.prog 25 4 1 := Elem.mk' (z := .bool false) Try.underlying25 (by kernel_rfl) rfl
theorem oneB (x : Bool) : ∀ u ∈ [Value.bool x], u.oneCell' = true := by cases x <;> simp [Value.oneCell']
theorem un_snoc (l : List Nat) (j : Nat) (h : j < 8 * l.length) : bl ((unpack l).take (j + 1)) = bl ((unpack l).take j) ++ [Value.bool ((l[j / 8]?.getD 0).testBit (j % 8))] := by
  have hl : j < (unpack l).length := by rw [unpack_length]; exact h
  have e : (unpack l)[j] = (l[j / 8]?.getD 0).testBit (j % 8) := by
    have := unpack_get h
    rw [List.getElem?_eq_getElem hl] at this
    simpa using this
  rw [List.take_succ_eq_append_getElem hl, e]; simp [bl]
theorem bit_div (y k : Nat) : ((((y / 2 ^ k % 2 : Nat) : Int) == 1) : Bool) = y.testBit k := by
  rw [Nat.testBit_eq_decide_div_mod_eq, Bool.eq_iff_iff]
  obtain ⟨q, hq⟩ : ∃ q, q = y / 2 ^ k % 2 := ⟨_, rfl⟩
  rw [← hq, beq_iff_eq, decide_eq_true_iff]
  omega
end Go.Proofs.Ytiibopdnlmnkmaa.AskW
/- The walk of saucierref02.Pack. -/
set_option linter.unusedVariables false
set_option linter.unusedSimpArgs false
namespace Go.Proofs.Ytiibopdnlmnkmaa.AskW
open Go.RowKit Go.Proofs.Ytiibopdnlmnkmaa Go.Proofs.Ytiibopdnlmnkmaa.Ask
/-- A byte's bits from the top: the first j of them. -/
def top (l : List Bool) (q : Nat) : Nat → Nat
  | 0 => 0
  | j + 1 => 2 * top l q j + bitN l (8 * q + (7 - j))
theorem top_lt (l : List Bool) (q : Nat) : ∀ j, top l q j < 2 ^ j
  | 0 => Nat.zero_lt_one
  | j + 1 => by
    have := top_lt l q j
    have := bitN_le l (8 * q + (7 - j))
    rw [top, Nat.pow_succ]; omega
theorem top_8 (l : List Bool) (q : Nat) : top l q 8 = octet l q := by
  simp only [top, octet, Nat.add_zero, Nat.sub_self, Nat.sub_zero, Nat.reduceSub]
  omega
theorem pack_snoc (l : List Bool) (q : Nat) (h : q < (l.length + 7) / 8) : (pack l).take (q + 1) = (pack l).take q ++ [octet l q] := by
  rw [take_snoc (by rw [pack_length]; exact h), pack_get h]
end Go.Proofs.Ytiibopdnlmnkmaa.AskW
/- The walk of saucierref02.Right. -/
set_option linter.unusedVariables false
set_option linter.unusedSimpArgs false
namespace Go.Proofs.Ytiibopdnlmnkmaa.AskW
open Go.RowKit Go.Proofs.Ytiibopdnlmnkmaa Go.Proofs.Ytiibopdnlmnkmaa.Ask
end Go.Proofs.Ytiibopdnlmnkmaa.AskW
/- The walk of saucierref02.At. -/
set_option linter.unusedVariables false
set_option linter.unusedSimpArgs false
namespace Go.Proofs.Ytiibopdnlmnkmaa.AskW
open Go.RowKit Go.Proofs.Ytiibopdnlmnkmaa Go.Proofs.Ytiibopdnlmnkmaa.Ask
/-- The number at a place; 0 behind the end. -/
def atF (xs : List Nat) (i : Nat) : Nat := if xs.length ≤ i + 1 then 0 else num xs i
end Go.Proofs.Ytiibopdnlmnkmaa.AskW
/- The walk of saucier/saucierref02.Same. -/
set_option linter.unusedVariables false
set_option linter.unusedSimpArgs false
namespace Go.Proofs.Ytiibopdnlmnkmaa.AskW
open Go.RowKit Go.Proofs.Ytiibopdnlmnkmaa Go.Proofs.Ytiibopdnlmnkmaa.Ask
end Go.Proofs.Ytiibopdnlmnkmaa.AskW
