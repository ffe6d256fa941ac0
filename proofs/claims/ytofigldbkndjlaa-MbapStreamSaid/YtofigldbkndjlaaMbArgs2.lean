/- How many bytes came in: no more than a machine reaches. -/
import Derived.SizedLaws
import Derived.Test.YtofigldbkndjlaaMbArgs
namespace Go.Proofs.Ytofigldbkndjlaa.MbW
open Go.RowKit Go.WideShapes Go.ChangeShapes Go.Joins Go.Deep Go.Proofs.Ytofigldbkndjlaa Go.Proofs.Ytofigldbkndjlaa.Mb
section
variable {H : Type} {enc : TypeId × Value → H} {w : World} {base : Nat} {spare : Nat → Bool} {held : Bool} {p : List MemPlace}
theorem bytes_reach {ts : List TypeId} {ds : List (DataW H)} (hz : (DataW.weightsEach Try.prog ts ds).all (· ≤ reachBytes) = true) {j : Nat} {d : DataW H} (ht : ts[j]? = some 23) (hd : ds[j]? = some d)
    {A : Option Addr} {n c : Nat} (h : DataW.Trod enc Try.prog w base spare held 23 (.slice A n c) d p) : n ≤ 140737488355328 := by
  obtain ⟨fuel, hf⟩ := h
  rcases open_slice Try.underlying23 hf with ⟨e, _⟩ | ⟨a, len, cap, m, k, D, Pl, e, _, _, _, _, hx, _⟩
  · simp [Value.cells] at e
    omega
  · simp [Value.cells] at e
    obtain ⟨_, rfl, _⟩ := e
    injection hx with hx _
    rw [hx] at hd
    have h1 := sized_slice hz ht hd Try.underlying23
    have h2 := reachBytes_lt
    have h3 : Go.Program.bytesOf Try.prog 5 = 1 := by kernel_rfl
    rw [h3, List.length_map, List.length_map, List.length_range] at h1
    omega
end
end Go.Proofs.Ytofigldbkndjlaa.MbW
