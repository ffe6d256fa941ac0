/- The walks of slices.Equal over words. -/
import Derived.Test.YtpajpcaninjhfaaAskA
import Derived.Test.YtpajpcaninjhfaaElem
import Derived.Deep.QuietTactic
import Derived.BigQuiet
namespace Go.Proofs.Ytpajpcaninjhfaa.AskW
open Go.RowKit Go.Proofs.Ytpajpcaninjhfaa Go.Proofs.Ytpajpcaninjhfaa.Ask
theorem equalW_any (A1 A2 : Option Addr) (n1 c1 n2 c2 : Nat) (l r : List Nat) (w : World) (h1 : Sl w w.heap.size A1 n1 (ws l)) (h2 : Sl w w.heap.size A2 n2 (ws r)) (hn : n1 ≤ 9223372036854775807) (hn2 : n2 ≤ 9223372036854775807) :
    Calls Try.prog 34 #[.slice A1 n1 c1, .slice A2 n2 c2] w fun e w' => e = .returned (.bool (l == r)) ∧ Below w.heap.size w w' := by
  have q1 : l.length = n1 := by simpa using h1.len
  have q2 : r.length = n2 := by simpa using h2.len
  by_cases hne : n1 = n2
  · subst hne
    have Q1 := Lib.hid q1
    have Q2 := Lib.hid q2
    clear q1 q2 hn2
    go_enter Try.func34, Try.ntmps34
    go_wp2_with fail
    go_loopw [13] (fun i wr => ∃ k : Nat, k ≤ n1 ∧ i = .int .i64 k ∧ l.take k = r.take k ∧ Below w.heap.size w wr) (fun i _ => n1 - (intOf i).toNat)
    case atStart => exact ⟨0, by omega, rfl, by simp, Below.refl _ _⟩
    case round =>
      obtain ⟨k, hk, rfl, he, hb⟩ := hrel
      have HE := Lib.hid he
      clear he
      by_cases hlt : k < n1
      · have s1 := h1.below hb
        have s2 := h2.below hb
        obtain ⟨b1, o1, rfl, _, d1⟩ := s1.2 (by omega)
        obtain ⟨b2, o2, rfl, _, d2⟩ := s2.2 (by omega)
        have g1 := (d1 k hlt).trans (ws_get (by rw [Q1.out]; exact hlt))
        have g2 := (d2 k hlt).trans (ws_get (by rw [Q2.out]; exact hlt))
        have HT := Lib.hid (take_eq_snoc 0 (l := l) (r := r) (k := k) (by rw [Q1.out]; exact hlt) (by rw [Q2.out]; exact hlt))
        have HNE := Lib.hid (ne_of_at (k := k) 0 (l := l) (r := r))
        obtain ⟨x, ex⟩ : ∃ x, x = l[k]?.getD 0 := ⟨_, rfl⟩
        obtain ⟨y, ey⟩ : ∃ y, y = r[k]?.getD 0 := ⟨_, rfl⟩
        rw [← ex, ← ey] at HT HNE
        rw [← ex] at g1
        rw [← ey] at g2
        have z0 : (0 : Int) ≤ (k : Int) := by omega
        have z1 : (k : Int) < (n1 : Int) := by omega
        clear d1 d2 s1 s2 h1 h2 ex ey
        by_cases hxy : x = y
        · have hT : ((x : Int) != (y : Int)) = false := by rw [hxy]; simp
          have HX := Lib.hid hxy
          clear hxy
          go_wp2_with fail
          go_quiet (fail)
          go_wp2_with fail
          go_roundw
          case rel => exact ⟨k + 1, by omega, by go_num, HT.out.2 ⟨HE.out, HX.out⟩, hb.drewN _⟩
          case measure => simp [intOf]; omega
        · have hT : ((x : Int) != (y : Int)) = true := by rw [bne_iff_ne]; omega
          have HX := Lib.hid hxy
          clear hxy
          go_wp2_with fail
          go_quiet (fail)
          go_wp2_with fail
          go_ret
          exact ⟨ret_bool (HNE.out HX.out).symm, hb.drewN _⟩
      · obtain rfl : k = n1 := by omega
        go_wp2_with fail
        go_ret
        exact ⟨ret_bool (eq_of_take Q1.out Q2.out HE.out).symm, hb⟩
  · have hT : ((n1 : Int) != (n2 : Int)) = true := by rw [bne_iff_ne]; omega
    have HF := Lib.hid (ne_of_len (l := l) (r := r) (by omega))
    clear q1 q2 hne hn hn2
    go_enter Try.func34, Try.ntmps34
    go_wp2_with fail
    go_ret
    exact ⟨ret_bool HF.out.symm, Below.refl _ _⟩
end Go.Proofs.Ytpajpcaninjhfaa.AskW
