/- ReplyReads, its five cases together; words and a reply that came in as arguments. -/
import Derived.Test.YtcinnjihghpngaaRepM0
import Derived.Test.YtcinnjihghpngaaRepM1
import Derived.Test.YtcinnjihghpngaaRepM2
import Derived.Test.YtcinnjihghpngaaRepM3
import Derived.Test.YtcinnjihghpngaaRepM4
namespace Go.Proofs.Ytcinnjihghpngaa.AskW
open Go.RowKit Go.Proofs.Ytcinnjihghpngaa Go.Proofs.Ytcinnjihghpngaa.Ask
theorem replyReads_any (f m : Nat) (Aw : Option Addr) (nw cw : Nat) (Ab : Option Addr) (nb cb : Nat) (W : List Nat) (B : List Bool) (w : World) (hm : m < 65536)
    (hW : Sl w w.heap.size Aw nw (ws W)) (hB : Sl w w.heap.size Ab nb (bl B)) (hcb : nb ≤ cb) :
    Calls Try.prog 10 #[.int .u8 (f : Nat), .int .u16 (m : Nat), .slice Aw nw cw, .slice Ab nb cb] w fun e w' => e = .returned (.bool true) ∧ Below w.heap.size w w' := by
  obtain h | h | h | h | h : f % 5 = 0 ∨ f % 5 = 1 ∨ f % 5 = 2 ∨ f % 5 = 3 ∨ f % 5 = 4 := by omega
  · exact replyReads_0 f m Aw nw cw Ab nb cb W B w hm hW hB hcb h
  · exact replyReads_1 f m Aw nw cw Ab nb cb W B w hm hW hB hcb h
  · exact replyReads_2 f m Aw nw cw Ab nb cb W B w hm hW hB hcb h
  · exact replyReads_3 f m Aw nw cw Ab nb cb W B w hm hW hB hcb h
  · exact replyReads_4 f m Aw nw cw Ab nb cb W B w hm hW hB hcb h
end Go.Proofs.Ytcinnjihghpngaa.AskW
