/- The walk of saucierlow.Same. -/
import Derived.Test.YtjelfclcmfmmaaaCrcD
import Derived.Test.YtjelfclcmfmmaaaStr
namespace Go.Proofs.Ytjelfclcmfmmaaa.CrcW
open Go.RowKit Go.Proofs.Ytjelfclcmfmmaaa
theorem same_any (A A2 : Option Addr) (n cap n2 cap2 B : Nat) (l r : List Nat) (w : World) (hs : Sl w B A n (bs l)) (hl : Bytes l) (hs2 : Sl w B A2 n2 (bs r)) (hr : Bytes r) :
    Calls Try.prog 14 #[.slice A n cap, .slice A2 n2 cap2] w fun e w' => e = .returned (.bool (l == r)) ∧ w = w' := by
  have H1 := run_string (P := Try.prog) w B 22 9 5 Try.underlying22 Try.underlying5 Try.underlying9 A n cap l hs
  have H2 := run_string (P := Try.prog) w B 22 9 5 Try.underlying22 Try.underlying5 Try.underlying9 A2 n2 cap2 r hs2
  have HE := Lib.hid (strB_eq l r hl hr)
  clear hs hs2
  go_enter Try.func14, Try.ntmps14
  go_wp2
  go_ret
  exact ⟨by rw [← HE.out]; rfl, rfl⟩
end Go.Proofs.Ytjelfclcmfmmaaa.CrcW
