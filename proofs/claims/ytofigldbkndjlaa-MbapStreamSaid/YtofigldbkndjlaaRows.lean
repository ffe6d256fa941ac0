/-
  No cell of these rows narrows 'for every input' (looked for: loops, veiled, ifaces, maps, wideKeys, modest, calm, conditions, laid).
  DERIVED. THE GIVEN ROWS OF THIS SEAT. 4 by the template 'for every input the law returns true; each argument reads behind the call as it read before'; 0 by the template 'total and deterministic' (their statements: YtofigldbkndjlaaTotals.lean).
  GIVEN WITH THE SEED: the statements are not yours to turn. If you find one false, say at which input.
  Laid BY PROGRAM, IN A SANDBOX (cutbox-rows.mjs): the forced cells as the released guide's own fill.sh prints them over the translation a87b1712680d6571… (all of the seat's roots in one cut). By AI agents, Wed Nov 11 2026. No macro, syntax, notation, axiom, sorry.
-/
import Derived.Test.YtofigldbkndjlaaChecked
import GoSem.Claim
import GoSem.ClaimJoined
import GoSem.ClaimMapViews
import Derived.JoinedTies
import Derived.KernelRfl
namespace Go.Proofs.Ytofigldbkndjlaa
/- THE CELL 'sum', in the pinned program and in every row, IS THE sha256 OF THE DUMP (.gsa) THAT YtofigldbkndjlaaProg.lean LOADS. Nothing in Lean hashes anything: it is a label: what it is worth is what the hold of that sum in a sandbox is worth. -/
noncomputable def Try.pinned : Pinned := { name := "ytofigldbkndjlaa", sum := "a87b1712680d657187fc9ceaac172fa2d40da0c5bb9ab25cb1432c966759d760", checked := Try.checked }
namespace Rows
def none {H : Type} : Left H := { results := [], args := [] }

/-- 'saucierlaw05.MbapTells': WHATEVER THE INPUT: true; the input reads as it did. -/
def mbapTellsSpec : ChangeSpec := { name := "mbapTells", fn := fun _ => fun
  | [d1, d2] => { results := [.lit (.bool true)], args := [d1, d2] }
  | _ => none }
def mbapTellsRow : OpenClaim := { program := "ytofigldbkndjlaa", sum := "a87b1712680d657187fc9ceaac172fa2d40da0c5bb9ab25cb1432c966759d760", func := "saucier/saucierlaw05.MbapTells", spec := "mbapTells", unfollowed := true, recurses := true, apart := false }
def MbapTellsSaid : Prop := mbapTellsRow.holds Try.pinned (OpenSpec.ofChange mbapTellsSpec)

/-- ITS FALSE NEIGHBOUR: 'it returns false'. Refute it at one input. -/
def mbapTellsWrong : ChangeSpec := { name := "mbapTells", fn := fun _ => fun
  | [d1, d2] => { results := [.lit (.bool false)], args := [d1, d2] }
  | _ => none }
def MbapTellsWrongFalsely : Prop := mbapTellsRow.holds Try.pinned (OpenSpec.ofChange mbapTellsWrong)

/-- 'saucierlaw05.MbapStream': WHATEVER THE INPUT: true; the input reads as it did. -/
def mbapStreamSpec : ChangeSpec := { name := "mbapStream", fn := fun _ => fun
  | [d1, d2] => { results := [.lit (.bool true)], args := [d1, d2] }
  | _ => none }
def mbapStreamRow : OpenClaim := { program := "ytofigldbkndjlaa", sum := "a87b1712680d657187fc9ceaac172fa2d40da0c5bb9ab25cb1432c966759d760", func := "saucier/saucierlaw05.MbapStream", spec := "mbapStream", unfollowed := true, recurses := true, apart := false }
def MbapStreamSaid : Prop := mbapStreamRow.holds Try.pinned (OpenSpec.ofChange mbapStreamSpec)

/-- ITS FALSE NEIGHBOUR: 'it returns false'. Refute it at one input. -/
def mbapStreamWrong : ChangeSpec := { name := "mbapStream", fn := fun _ => fun
  | [d1, d2] => { results := [.lit (.bool false)], args := [d1, d2] }
  | _ => none }
def MbapStreamWrongFalsely : Prop := mbapStreamRow.holds Try.pinned (OpenSpec.ofChange mbapStreamWrong)

/-- 'saucierlaw05.MbapBack': WHATEVER THE INPUT: true; the input reads as it did. -/
def mbapBackSpec : ChangeSpec := { name := "mbapBack", fn := fun _ => fun
  | [d1, d2] => { results := [.lit (.bool true)], args := [d1, d2] }
  | _ => none }
def mbapBackRow : OpenClaim := { program := "ytofigldbkndjlaa", sum := "a87b1712680d657187fc9ceaac172fa2d40da0c5bb9ab25cb1432c966759d760", func := "saucier/saucierlaw05.MbapBack", spec := "mbapBack", unfollowed := true, recurses := true, apart := false }
def MbapBackSaid : Prop := mbapBackRow.holds Try.pinned (OpenSpec.ofChange mbapBackSpec)

/-- ITS FALSE NEIGHBOUR: 'it returns false'. Refute it at one input. -/
def mbapBackWrong : ChangeSpec := { name := "mbapBack", fn := fun _ => fun
  | [d1, d2] => { results := [.lit (.bool false)], args := [d1, d2] }
  | _ => none }
def MbapBackWrongFalsely : Prop := mbapBackRow.holds Try.pinned (OpenSpec.ofChange mbapBackWrong)

/-- 'saucierlaw05.MbapWrong': WHATEVER THE INPUT: true; the input reads as it did. -/
def mbapWrongSpec : ChangeSpec := { name := "mbapWrong", fn := fun _ => fun
  | [d1, d2, d3, d4] => { results := [.lit (.bool true)], args := [d1, d2, d3, d4] }
  | _ => none }
def mbapWrongRow : OpenClaim := { program := "ytofigldbkndjlaa", sum := "a87b1712680d657187fc9ceaac172fa2d40da0c5bb9ab25cb1432c966759d760", func := "saucier/saucierlaw05.MbapWrong", spec := "mbapWrong", unfollowed := true, recurses := true, apart := false }
def MbapWrongSaid : Prop := mbapWrongRow.holds Try.pinned (OpenSpec.ofChange mbapWrongSpec)

/-- ITS FALSE NEIGHBOUR: 'it returns false'. Refute it at one input. -/
def mbapWrongWrong : ChangeSpec := { name := "mbapWrong", fn := fun _ => fun
  | [d1, d2, d3, d4] => { results := [.lit (.bool false)], args := [d1, d2, d3, d4] }
  | _ => none }
def MbapWrongWrongFalsely : Prop := mbapWrongRow.holds Try.pinned (OpenSpec.ofChange mbapWrongWrong)

/- THE SECOND FORM. 'bulk': how many values and letters a reading holds, each counted each time it is reached (what is shared counts as often as it is met; a slice's spare places count too). A statement '..UptoSaid' is the law's where the arguments, and the package variables that the reading takes, are together of bulk at most 1048576: NARROWER than '..Said'. Prove '..Said' where nothing that the law and all that it calls make is longer than what came in: it says more and counts as full. Else prove '..UptoSaid'. A law counts once. -/
mutual
def uptoBulk {H : Type} : DataW H → Nat
  | .lit (.string bytes) => bytes.length + 1
  | .lit _ => 1
  | .nil => 1
  | .ptr d => uptoBulk d + 1
  | .slice elems spare => uptoBulkAll elems + uptoBulkAll spare + 1
  | .agg parts => uptoBulkAll parts + 1
  | .iface _ d => uptoBulk d + 1
  | .map entries => uptoBulkEntries entries + 1
  | .held _ => 1
def uptoBulkAll {H : Type} : List (DataW H) → Nat
  | [] => 0
  | d :: r => uptoBulk d + uptoBulkAll r
def uptoBulkEntries {H : Type} : List (Lit × DataW H) → Nat
  | [] => 0
  | x :: r => uptoBulkEntry x + uptoBulkEntries r
def uptoBulkEntry {H : Type} : Lit × DataW H → Nat
  | (.string bytes, d) => bytes.length + uptoBulk d + 1
  | (_, d) => uptoBulk d + 1
 end
def uptoSmall : (H : Type) → List (DataW H) → Bool := fun _ ds => decide (uptoBulkAll ds ≤ 1048576)
def OpenSpec.upto (s : _root_.Go.ChangeSpec) : _root_.Go.OpenSpec := { _root_.Go.OpenSpec.ofChange s with cond := some uptoSmall }

/-- 'saucierlaw05.MbapTells', WHERE WHAT IT READS IS OF BULK AT MOST 1048576: true; the input reads as it did. -/
def mbapTellsUptoRow : OpenClaim := { program := "ytofigldbkndjlaa", sum := "a87b1712680d657187fc9ceaac172fa2d40da0c5bb9ab25cb1432c966759d760", func := "saucier/saucierlaw05.MbapTells", spec := "mbapTells", unfollowed := true, recurses := true, apart := false, narrowed := true }
def MbapTellsUptoSaid : Prop := mbapTellsUptoRow.holds Try.pinned (OpenSpec.upto mbapTellsSpec)

/-- 'saucierlaw05.MbapStream', WHERE WHAT IT READS IS OF BULK AT MOST 1048576: true; the input reads as it did. -/
def mbapStreamUptoRow : OpenClaim := { program := "ytofigldbkndjlaa", sum := "a87b1712680d657187fc9ceaac172fa2d40da0c5bb9ab25cb1432c966759d760", func := "saucier/saucierlaw05.MbapStream", spec := "mbapStream", unfollowed := true, recurses := true, apart := false, narrowed := true }
def MbapStreamUptoSaid : Prop := mbapStreamUptoRow.holds Try.pinned (OpenSpec.upto mbapStreamSpec)

/-- 'saucierlaw05.MbapBack', WHERE WHAT IT READS IS OF BULK AT MOST 1048576: true; the input reads as it did. -/
def mbapBackUptoRow : OpenClaim := { program := "ytofigldbkndjlaa", sum := "a87b1712680d657187fc9ceaac172fa2d40da0c5bb9ab25cb1432c966759d760", func := "saucier/saucierlaw05.MbapBack", spec := "mbapBack", unfollowed := true, recurses := true, apart := false, narrowed := true }
def MbapBackUptoSaid : Prop := mbapBackUptoRow.holds Try.pinned (OpenSpec.upto mbapBackSpec)

/-- 'saucierlaw05.MbapWrong', WHERE WHAT IT READS IS OF BULK AT MOST 1048576: true; the input reads as it did. -/
def mbapWrongUptoRow : OpenClaim := { program := "ytofigldbkndjlaa", sum := "a87b1712680d657187fc9ceaac172fa2d40da0c5bb9ab25cb1432c966759d760", func := "saucier/saucierlaw05.MbapWrong", spec := "mbapWrong", unfollowed := true, recurses := true, apart := false, narrowed := true }
def MbapWrongUptoSaid : Prop := mbapWrongUptoRow.holds Try.pinned (OpenSpec.upto mbapWrongSpec)

end Rows
end Go.Proofs.Ytofigldbkndjlaa
