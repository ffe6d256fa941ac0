/- The walk of reply.Fits. -/
import Derived.Test.YtjfhfgchglaoiaaGreatRepH
import Derived.Test.YtjfhfgchglaoiaaGreatRepJ
set_option linter.unusedVariables false
set_option linter.unusedSimpArgs false
namespace Go.Proofs.YtjfhfgchglaoiaaGreat.AskW
open Go.RowKit Go.Proofs.YtjfhfgchglaoiaaGreat Go.Proofs.YtjfhfgchglaoiaaGreat.Ask
def repSameF (r e : Rep) : Bool := r.f == e.f && r.x == e.x && r.at' == e.at' && r.many == e.many && r.bits == e.bits && r.words == e.words
/-- Does a reply fit a request? -/
def fitsF (q : Req) (r : Rep) : Bool :=
  right q && (rright r && (q.f == r.f && (r.x != 0 ||
    (if (echoF q).2 then repSameF r (echoF q).1
     else if 0 < r.words.length then r.words.length == q.many
     else r.bits.length == (q.many + 7) / 8 * 8 && !((r.bits.drop q.many).any id)))))
theorem echo_small (q : Req) (h1 : q.words.length ≤ 100000) (h2 : q.bits.length ≤ 100000) : (echoF q).1.bits.length ≤ 100000 ∧ (echoF q).1.words.length ≤ 100000 := by
  unfold echoF
  repeat' split
  all_goals simp [rep0] <;> omega
end Go.Proofs.YtjfhfgchglaoiaaGreat.AskW
