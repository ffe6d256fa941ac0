/- The walk of ask.Right. -/
import Derived.Test.YtpajpcaninjhfaaAskB
import Derived.Test.YtpajpcaninjhfaaAskC
namespace Go.Proofs.Ytpajpcaninjhfaa.AskW
open Go.RowKit Go.Proofs.Ytpajpcaninjhfaa Go.Proofs.Ytpajpcaninjhfaa.Ask
theorem right_of_fld (f a m t : Nat) (ws' : List Nat) (bs' : List Bool) : right ⟨f, a, m, t, ws', bs'⟩ = ((fld f).isSome && (!(decide ((fldOf f).many < m) || (m == 0 && decide (0 < (fldOf f).many))) && (((fldOf f).to || t == 0) && fits (fldOf f).bits bs'.length m && fits (fldOf f).words ws'.length m))) := by
  unfold right fldOf
  cases h : fld f with
  | none => rfl
  | some d => simp [Fld.right]
set_option maxHeartbeats 4000000 in
theorem right_any (f a m t : Nat) (Aw : Option Addr) (nw cw : Nat) (Ab : Option Addr) (nb cb : Nat) (W : List Nat) (B : List Bool) (hW : W.length = nw) (hB : B.length = nb) (hm : m < 65536) (w : World) :
    Calls Try.prog 13 #[.agg #[.int .u8 f, .int .u16 a, .int .u16 m, .int .u16 t, .slice Aw nw cw, .slice Ab nb cb]] w
      fun e w' => e = .returned (.bool (right ⟨f, a, m, t, W, B⟩)) ∧ Below w.heap.size w w' := by
  rw [right_of_fld, hW, hB]
  have K1 := Lib.hid (fun W => find_any f W)
  have K2 := Lib.hid (fun X => fright_any (fldOf f).many (fldOf f).to (fldOf f).bits (fldOf f).words f a m t Aw nw cw Ab nb cb hm X)
  obtain ⟨O, hO⟩ : ∃ O, O = (fld f).isSome := ⟨_, rfl⟩
  obtain ⟨D, hD⟩ : ∃ D, D = fldOf f := ⟨_, rfl⟩
  rw [← hO, ← hD]
  rw [← hO, ← hD] at K1
  rw [← hD] at K2
  obtain ⟨R, hR⟩ : ∃ R, R = (!(decide (D.many < m) || (m == 0 && decide (0 < D.many))) && ((D.to || t == 0) && fits D.bits nb m && fits D.words nw m)) := ⟨_, rfl⟩
  rw [← hR]
  rw [← hR] at K2
  clear hO hD hW hB hm hR
  cases O <;> (
    go_enter Try.func13, Try.ntmps13
    go_wp2_with fail
    refine (K1.out _).mono ?_
    rintro e w1 ⟨rfl, b1⟩
    obtain ⟨c0, c1, c2, c3, c4, c5⟩ := row6 (b1.row (by simp) (heap_alloc_new w _))
    have hb := Below.call (Below.new (Below.refl _ w) _) b1
    have hlt : w.heap.size < w1.heap.size := by have := b1.size; simp at this; omega
    have hne : ¬ w.heap.size = w1.heap.size := by omega
    clear b1
    go_wp2_with (go_at_call 30; refine (K2.out _).mono ?_; rintro e w2 ⟨rfl, b2⟩; have hb := Below.call (hb.new _) b2)
    go_ret
    first | exact ⟨rfl, hb.new _⟩ | exact ⟨rfl, hb⟩)
end Go.Proofs.Ytpajpcaninjhfaa.AskW
