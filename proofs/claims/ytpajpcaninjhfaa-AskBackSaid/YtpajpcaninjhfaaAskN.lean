/- The walks of the bytes of a right request: fields.bytes. -/
import Derived.Test.YtpajpcaninjhfaaAskH
import Derived.Deep.RegionHeld3
namespace Go.Proofs.Ytpajpcaninjhfaa.AskW
open Go.RowKit Go.Proofs.Ytpajpcaninjhfaa Go.Proofs.Ytpajpcaninjhfaa.Ask
theorem first_new (w0 : World) (f g : Nat) (hg : g = w0.heap.size) : Has w0 (w0.alloc (.cells #[.int .u8 f] 5)) 5 (.slice (some ⟨g, 0, none⟩) 1 1) 1 (bs [f]) := by
  subst hg
  exact Has.of_row (n := 1) (cs := #[.int .u8 f]) ((Below.refl _ _).new _) (heap_alloc_new w0 _) (Nat.le_refl _) rfl (by simp [maxLen])
theorem put_new1 (w0 w : World) {v : Value} {n : Nat} {xs : List Nat} (H : Has w0 w 5 v n (bs xs)) (x : Nat) (hx : x < 65536) (hn : n ≤ 900000) (g : Nat) (hg : g = w.heap.size) :
    Calls Try.prog 40 #[v, .slice (some ⟨g, 0, none⟩) 1 1] (w.alloc (.cells #[.int .u16 x] 22)) fun e w' => ∃ v', e = .returned v' ∧ Has w0 w' 5 v' (n + 2) (bs (xs ++ two x)) := by
  subst hg
  have := askPut_any w0 v n xs (some ⟨w.heap.size, 0, none⟩) 1 1 [x] _ (H.alloc _) ((Sl.new1 w (.int .u16 x) 22).mono (by simp)) (by simpa using hx) (fun b o _ h e => by injection h with h; injection h with h _; have := H.lt e; omega) (by omega)
  simpa [twos] using this
theorem put_new2 (w0 w : World) {v : Value} {n : Nat} {xs : List Nat} (H : Has w0 w 5 v n (bs xs)) (x y : Nat) (hx : x < 65536) (hy : y < 65536) (hn : n ≤ 900000) (g : Nat) (hg : g = w.heap.size) :
    Calls Try.prog 40 #[v, .slice (some ⟨g, 0, none⟩) 2 2] (w.alloc (.cells #[.int .u16 x, .int .u16 y] 22)) fun e w' => ∃ v', e = .returned v' ∧ Has w0 w' 5 v' (n + 4) (bs (xs ++ two x ++ two y)) := by
  subst hg
  have := askPut_any w0 v n xs (some ⟨w.heap.size, 0, none⟩) 2 2 [x, y] _ (H.alloc _) ((Sl.new2 w (.int .u16 x) (.int .u16 y) 22).mono (by simp)) (by simp; omega) (fun b o _ h e => by injection h with h; injection h with h _; have := H.lt e; omega) (by omega)
  simpa [twos] using this
theorem data_put (W1 X w4 : World) (hX : Below W1.heap.size W1 X) {vp : Value} {n : Nat} {xs : List Nat} (HP : Has X w4 5 vp n (bs xs)) (Aw : Option Addr) (nw cw : Nat) (W : List Nat) (hW : Sl W1 W1.heap.size Aw nw (ws W)) (hww : ∀ x ∈ W, x < 65536) (hn : n + 2 * nw ≤ 1000000) :
    Calls Try.prog 40 #[vp, .slice Aw nw cw] w4 fun e w' => ∃ v', e = .returned v' ∧ Has X w' 5 v' (n + 2 * nw) (bs (xs ++ twos W)) := by
  refine askPut_any X vp n xs Aw nw cw W w4 HP (hW.to (hX.call HP.bel)) hww (fun b o h0 h => ?_) hn
  obtain ⟨b', o', e, hb', _⟩ := hW.2 h0
  rw [e] at h
  injection h with h
  injection h with h _
  exact HP.apart (by have := hX.size; omega)
/-- The bytes as fields.bytes lays them. -/
def fbytes (fm : Nat) (ft : Bool) (fb fw : Nat) (r : Req) : List Nat :=
  let h := r.f :: two r.at' ++ (if 0 < fm then two r.many else []) ++ (if ft then two r.to ++ two r.words.length else [])
  let d := pack r.bits ++ twos r.words
  if fb = 1 then h ++ two (if r.bits[0]?.getD false then 65280 else 0) else h ++ (if 2 ≤ fb ∨ 2 ≤ fw then [d.length % 256] else []) ++ d
end Go.Proofs.Ytpajpcaninjhfaa.AskW
