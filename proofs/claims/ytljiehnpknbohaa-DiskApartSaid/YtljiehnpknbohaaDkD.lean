/- The walk of the law's do (layer 9). -/
import Derived.Test.YtljiehnpknbohaaDkMem
import Derived.Test.YtljiehnpknbohaaDkOps
import Derived.WalkKit
import Derived.Below
import Derived.Lib.Hide
set_option linter.unusedVariables false
set_option linter.unusedSimpArgs false
namespace Go.Proofs.Ytljiehnpknbohaa.DkW
open Go.RowKit Go.Proofs.Ytljiehnpknbohaa Go.Proofs.Ytljiehnpknbohaa.Dk
theorem do_any (K : DiskK) (d : D) (q : Deed) (base : Nat) (S : Nat → Prop) (p : Nat) (X : Option Addr) (m cx : Nat) (w : World) (hd : Dk w base S p d) (hq : q.Ok) (hx : Sl w w.heap.size X m (bs q.b)) (ha : Away S X m) (hm : m ≤ 100000) :
    Calls Try.prog 13 #[.pointer (some ⟨p, 0, none⟩), .agg #[.int .u8 (q.what : Nat), .slice X m cx, .int .i64 q.n]] w fun e w' => e = .returned (.int .i64 (act d q).2) ∧ Did w base S p (act d q).1 w' := by
  obtain ⟨what, xs, z⟩ := q
  have hb := hq.b
  have hz1 := hq.lo
  have hz2 := hq.hi
  dsimp only at hb hx hz1 hz2
  have BX := (Below.refl _ w).new (.cells #[.int .u8 (what : Nat), .slice X m cx, .int .i64 z] 35)
  have KA := Lib.hid (K.append d base S p X m cx xs _ (hd.to BX) (hx.to BX) ha hb hm)
  have KS := Lib.hid (K.sync d base S p _ (hd.to BX))
  have KC := Lib.hid (K.cut d base S p z _ (hd.to BX) hz1 hz2)
  have KP := Lib.hid (K.sparks d base S p z _ (hd.to BX) hz1 hz2)
  have KK := Lib.hid (K.crash d base S p z _ (hd.to BX) hz1 hz2)
  have HE := Lib.hid (show act d ⟨what, xs, z⟩ = if what % 5 = 0 then append d xs else if what % 5 = 1 then sync d else if what % 5 = 2 then cut d z else if what % 5 = 3 then (sparks d z, 0) else (crash d z, 0) from rfl)
  rw [HE.out]
  have hlt : what % 5 < 5 := Nat.mod_lt _ (by omega)
  obtain ⟨j, ej⟩ : ∃ j, j = what % 5 := ⟨_, rfl⟩
  have hw5 : (what : Int) % 5 = (j : Int) := by omega
  rw [← ej] at hlt ⊢
  clear ej HE hx ha hq hd K hz1 hz2
  rcases show j = 0 ∨ j = 1 ∨ j = 2 ∨ j = 3 ∨ j = 4 from by omega with rfl | rfl | rfl | rfl | rfl
  · simp only [if_true]
    obtain ⟨R, hR⟩ : ∃ R, R = append d xs := ⟨_, rfl⟩
    rw [← hR] at KA ⊢
    obtain ⟨d', x'⟩ := R
    dsimp only at KA ⊢
    clear hR
    go_enter Try.func13, Try.ntmps13
    go_wp2_with fail
    refine KA.out.mono ?_
    rintro e w1 ⟨rfl, h1⟩
    have H := Lib.hid h1
    clear h1
    go_wp2_with fail
    go_ret
    exact ⟨rfl, H.out.behind BX⟩
  · simp only [Nat.reduceEqDiff, if_false, if_true]
    obtain ⟨R, hR⟩ : ∃ R, R = sync d := ⟨_, rfl⟩
    rw [← hR] at KS ⊢
    obtain ⟨d', x'⟩ := R
    dsimp only at KS ⊢
    clear hR
    go_enter Try.func13, Try.ntmps13
    go_wp2_with fail
    refine KS.out.mono ?_
    rintro e w1 ⟨rfl, h1⟩
    have H := Lib.hid h1
    clear h1
    go_wp2_with fail
    go_ret
    exact ⟨rfl, H.out.behind BX⟩
  · simp only [Nat.reduceEqDiff, if_false, if_true]
    obtain ⟨R, hR⟩ : ∃ R, R = cut d z := ⟨_, rfl⟩
    rw [← hR] at KC ⊢
    obtain ⟨d', x'⟩ := R
    dsimp only at KC ⊢
    clear hR
    go_enter Try.func13, Try.ntmps13
    go_wp2_with fail
    refine KC.out.mono ?_
    rintro e w1 ⟨rfl, h1⟩
    have H := Lib.hid h1
    clear h1
    go_wp2_with fail
    go_ret
    exact ⟨rfl, H.out.behind BX⟩
  · simp only [Nat.reduceEqDiff, if_false, if_true]
    obtain ⟨d', hd'⟩ : ∃ R, R = sparks d z := ⟨_, rfl⟩
    rw [← hd'] at KP ⊢
    clear hd'
    go_enter Try.func13, Try.ntmps13
    go_wp2_with fail
    refine KP.out.mono ?_
    rintro e w1 ⟨rfl, h1⟩
    have H := Lib.hid h1
    clear h1
    go_wp2_with fail
    go_ret
    exact ⟨rfl, H.out.behind BX⟩
  · simp only [Nat.reduceEqDiff, if_false, if_true]
    obtain ⟨d', hd'⟩ : ∃ R, R = crash d z := ⟨_, rfl⟩
    rw [← hd'] at KK ⊢
    clear hd'
    go_enter Try.func13, Try.ntmps13
    go_wp2_with fail
    refine KK.out.mono ?_
    rintro e w1 ⟨rfl, h1⟩
    have H := Lib.hid h1
    clear h1
    go_wp2_with fail
    go_ret
    exact ⟨rfl, H.out.behind BX⟩
end Go.Proofs.Ytljiehnpknbohaa.DkW
