/- The walk of ask.Bytes. -/
import Derived.Test.YtpajpcaninjhfaaAskP
import Derived.Test.YtpajpcaninjhfaaAskJ
set_option linter.unusedVariables false
set_option linter.unusedSimpArgs false
namespace Go.Proofs.Ytpajpcaninjhfaa.AskW
open Go.RowKit Go.Proofs.Ytpajpcaninjhfaa Go.Proofs.Ytpajpcaninjhfaa.Ask
/-- A row of its own, and an error. -/
def RetRowErr (w : World) (t : TypeId) (r : List Nat × Int) (e : Ending) (w' : World) : Prop := ∃ v, e = .returned (.tuple #[v, .int .i64 r.2]) ∧ Has w w' t v r.1.length (bs r.1)
/-- The bytes, or the error. -/
def bytesE (r : Req) : List Nat × Int := if right r then (bytes r, 0) else ([], 12)
set_option maxHeartbeats 4000000 in
theorem bytes_any (f a m t : Nat) (Aw : Option Addr) (nw cw : Nat) (Ab : Option Addr) (nb cb : Nat) (W : List Nat) (B : List Bool) (w : World)
    (hW : Sl w w.heap.size Aw nw (ws W)) (hB : Sl w w.heap.size Ab nb (bl B)) (hwf : Req.Wf ⟨f, a, m, t, W, B⟩) :
    Calls Try.prog 11 #[.agg #[.int .u8 f, .int .u16 a, .int .u16 m, .int .u16 t, .slice Aw nw cw, .slice Ab nb cb]] w (RetRowErr w 5 (bytesE ⟨f, a, m, t, W, B⟩)) := by
  have hWl : W.length = nw := by simpa using hW.len
  have hBl : B.length = nb := by simpa using hB.len
  have HR := Lib.hid (right_of_fld f a m t W B)
  rw [hWl, hBl] at HR
  have HE := Lib.hid (show bytesE ⟨f, a, m, t, W, B⟩ = if right ⟨f, a, m, t, W, B⟩ then (bytes ⟨f, a, m, t, W, B⟩, 0) else ([], 12) from rfl)
  have hm := hwf.many
  dsimp only at hm
  have K1 := Lib.hid (fun W => find_any f W)
  have K2 := Lib.hid (fun X => fright_any (fldOf f).many (fldOf f).to (fldOf f).bits (fldOf f).words f a m t Aw nw cw Ab nb cb hm X)
  have K3 := Lib.hid (fun X (b : Below w.heap.size w X) (hr : right ⟨f, a, m, t, W, B⟩ = true) => fbytesAll_any f a m t Aw nw cw Ab nb cb W B X (hW.to b) (hB.to b) hwf hr)
  obtain ⟨L, hL⟩ : ∃ L, L = bytes ⟨f, a, m, t, W, B⟩ := ⟨_, rfl⟩
  obtain ⟨E, hE⟩ : ∃ E, E = bytesE ⟨f, a, m, t, W, B⟩ := ⟨_, rfl⟩
  obtain ⟨RR, hRR⟩ : ∃ RR, RR = right ⟨f, a, m, t, W, B⟩ := ⟨_, rfl⟩
  obtain ⟨O, hO⟩ : ∃ O, O = (fld f).isSome := ⟨_, rfl⟩
  obtain ⟨D, hD⟩ : ∃ D, D = fldOf f := ⟨_, rfl⟩
  rw [← hE]
  rw [← hRR, ← hO, ← hD] at HR
  rw [← hO, ← hD] at K1
  rw [← hD] at K2
  rw [← hL, ← hRR, ← hD] at K3
  rw [← hE, ← hRR, ← hL] at HE
  obtain ⟨R, hR⟩ : ∃ R, R = (!(decide (D.many < m) || (m == 0 && decide (0 < D.many))) && ((D.to || t == 0) && fits D.bits nb m && fits D.words nw m)) := ⟨_, rfl⟩
  rw [← hR] at HR K2
  clear hO hD hWl hBl hm hR hE hL hRR hwf hW hB
  cases O
  · go_enter Try.func11, Try.ntmps11
    go_wp2_with fail
    refine (K1.out _).mono ?_
    rintro e w1 ⟨rfl, b1⟩
    have hb := Below.call (Below.new (Below.refl _ w) _) b1
    clear b1
    go_wp2_with fail
    go_ret2
    rw [HE.out, HR.out]
    exact ⟨_, rfl, Has.nil_ (hb.new _) _⟩
  · go_enter Try.func11, Try.ntmps11
    go_wp2_with fail
    refine (K1.out _).mono ?_
    rintro e w1 ⟨rfl, b1⟩
    have ra := b1.row (by simp) (heap_alloc_new w _)
    obtain ⟨c0, c1, c2, c3, c4, c5⟩ := row6 ra
    have hb := Below.call (Below.new (Below.refl _ w) _) b1
    have hlt : w.heap.size < w1.heap.size := by have := b1.size; simp at this; omega
    have hne : ¬ w.heap.size = w1.heap.size := by omega
    clear b1
    go_wp2_with fail
    refine (K2.out _).mono ?_
    rintro e w2 ⟨rfl, b2⟩
    have ra := b2.row (by simp; omega) (row_alloc ra _)
    have rf := b2.row (by simp) (heap_alloc_new w1 _)
    obtain ⟨c0, c1, c2, c3, c4, c5⟩ := row6 ra
    obtain ⟨p0, p1, p2, p3⟩ := row4 rf
    have hb := Below.call (hb.new _) b2
    clear b2
    cases R
    · go_wp2_with fail
      go_ret2
      rw [HE.out, HR.out]
      exact ⟨_, rfl, Has.nil_ hb _⟩
    · go_wp2_with fail
      refine (K3.out _ hb (by rw [HR.out]; rfl)).mono ?_
      rintro e w3 ⟨v, rfl, H⟩
      go_wp2_with fail
      go_ret2
      rw [HE.out, HR.out]
      exact ⟨_, rfl, H.weaken hb⟩
end Go.Proofs.Ytpajpcaninjhfaa.AskW
