/- The walks of saucierlaw06.Bools, Regs, Same. -/
import Derived.Test.YtcckplpfgpagmaaChecked
import Derived.Test.YtcckplpfgpagmaaBase
import Derived.Test.YtcckplpfgpagmaaWdMath
import Derived.WalkKit
import Derived.Below
import Derived.BigQuiet
import Derived.Deep.QuietTactic
import Derived.Lib.Hide
import Derived.Laws.BitsAllLaws
set_option linter.unusedVariables false
set_option linter.unusedSimpArgs false
namespace Go.Proofs.Ytcckplpfgpagmaa.WdW
open Go.RowKit Go.Proofs.Ytcckplpfgpagmaa Go.Proofs.Ytcckplpfgpagmaa.Wd
theorem u8 : Elem Try.prog 22 5 1 := .mk' (z := .int .u8 0) Try.underlying22 (by kernel_rfl) rfl
theorem u16 : Elem Try.prog 24 36 2 := Elem.mk' (z := .int .u16 0) Try.underlying24 (by kernel_rfl) rfl
theorem eb : Elem Try.prog 23 4 1 := Elem.mk' (z := .bool false) Try.underlying23 (by kernel_rfl) rfl
theorem ret_bool {a b : Bool} (h : a = b) : Ending.returned (.bool a) = .returned (.bool b) := by rw [h]
theorem lawBools_any (A1 A2 : Option Addr) (n1 c1 n2 c2 : Nat) (l r : List Bool) (w : World) (h1 : Sl w w.heap.size A1 n1 (bl l)) (h2 : Sl w w.heap.size A2 n2 (bl r)) (hn : n1 ≤ 9223372036854775807) (hn2 : n2 ≤ 9223372036854775807) :
    Calls Try.prog 10 #[.slice A1 n1 c1, .slice A2 n2 c2] w fun e w' => e = .returned (.bool (l == r)) ∧ Below w.heap.size w w' := by
  have q1 : l.length = n1 := by simpa using h1.len
  have q2 : r.length = n2 := by simpa using h2.len
  by_cases hne : n1 = n2
  · subst hne
    have Q1 := Lib.hid q1
    have Q2 := Lib.hid q2
    clear q1 q2 hn2
    go_enter Try.func10, Try.ntmps10
    go_wp2_with fail
    go_loopw [13] (fun i wr => ∃ k : Nat, k ≤ n1 ∧ i = .int .i64 k ∧ l.take k = r.take k ∧ Below w.heap.size w wr) (fun i _ => n1 - (intOf i).toNat)
    case atStart => exact ⟨0, by omega, rfl, by simp, Below.refl _ _⟩
    case round =>
      obtain ⟨k, hk, rfl, he, hb⟩ := hrel
      have HE := Lib.hid he
      clear he
      by_cases hlt : k < n1
      · have s1 := h1.below hb
        have s2 := h2.below hb
        obtain ⟨b1, o1, rfl, _, d1⟩ := s1.2 (by omega)
        obtain ⟨b2, o2, rfl, _, d2⟩ := s2.2 (by omega)
        have g1 := (d1 k hlt).trans (bl_get (by rw [Q1.out]; exact hlt))
        have g2 := (d2 k hlt).trans (bl_get (by rw [Q2.out]; exact hlt))
        have HT := Lib.hid (take_eq_snoc false (l := l) (r := r) (k := k) (by rw [Q1.out]; exact hlt) (by rw [Q2.out]; exact hlt))
        have HNE := Lib.hid (ne_of_at (k := k) false (l := l) (r := r))
        obtain ⟨x, ex⟩ : ∃ x, x = l[k]?.getD false := ⟨_, rfl⟩
        obtain ⟨y, ey⟩ : ∃ y, y = r[k]?.getD false := ⟨_, rfl⟩
        rw [← ex, ← ey] at HT HNE
        rw [← ex] at g1
        rw [← ey] at g2
        have z0 : (0 : Int) ≤ (k : Int) := by omega
        have z1 : (k : Int) < (n1 : Int) := by omega
        clear d1 d2 s1 s2 h1 h2 ex ey
        by_cases hxy : x = y
        · subst hxy
          have HX := Lib.hid (rfl : x = x)
          cases x <;> (
            go_wp2_with fail
            go_quiet (fail)
            go_wp2_with fail
            go_roundw
            case rel => exact ⟨k + 1, by omega, by go_num, HT.out.2 ⟨HE.out, HX.out⟩, hb.drewN _⟩
            case measure => simp [intOf]; omega)
        · obtain rfl : y = !x := by cases x <;> cases y <;> simp_all
          have HF := Lib.hid (HNE.out hxy)
          clear hxy HNE HT
          cases x <;> (
            go_wp2_with fail
            go_quiet (fail)
            go_wp2_with fail
            go_ret
            exact ⟨ret_bool HF.out.symm, hb.drewN _⟩)
      · obtain rfl : k = n1 := by omega
        go_wp2_with fail
        go_ret
        exact ⟨ret_bool (eq_of_take Q1.out Q2.out HE.out).symm, hb⟩
  · have hT : ((n1 : Int) != (n2 : Int)) = true := by rw [bne_iff_ne]; omega
    have HF := Lib.hid (ne_of_len (l := l) (r := r) (by omega))
    clear q1 q2 hne hn hn2
    go_enter Try.func10, Try.ntmps10
    go_wp2_with fail
    go_ret
    exact ⟨ret_bool HF.out.symm, Below.refl _ _⟩
theorem lawRegs_any (A1 A2 : Option Addr) (n1 c1 n2 c2 : Nat) (l r : List Nat) (w : World) (h1 : Sl w w.heap.size A1 n1 (ws l)) (h2 : Sl w w.heap.size A2 n2 (ws r)) (hn : n1 ≤ 9223372036854775807) (hn2 : n2 ≤ 9223372036854775807) :
    Calls Try.prog 18 #[.slice A1 n1 c1, .slice A2 n2 c2] w fun e w' => e = .returned (.bool (l == r)) ∧ Below w.heap.size w w' := by
  have q1 : l.length = n1 := by simpa using h1.len
  have q2 : r.length = n2 := by simpa using h2.len
  by_cases hne : n1 = n2
  · subst hne
    have Q1 := Lib.hid q1
    have Q2 := Lib.hid q2
    clear q1 q2 hn2
    go_enter Try.func18, Try.ntmps18
    go_wp2_with fail
    go_loopw [13] (fun i wr => ∃ k : Nat, k ≤ n1 ∧ i = .int .i64 k ∧ l.take k = r.take k ∧ Below w.heap.size w wr) (fun i _ => n1 - (intOf i).toNat)
    case atStart => exact ⟨0, by omega, rfl, by simp, Below.refl _ _⟩
    case round =>
      obtain ⟨k, hk, rfl, he, hb⟩ := hrel
      have HE := Lib.hid he
      clear he
      by_cases hlt : k < n1
      · have s1 := h1.below hb
        have s2 := h2.below hb
        obtain ⟨b1, o1, rfl, _, d1⟩ := s1.2 (by omega)
        obtain ⟨b2, o2, rfl, _, d2⟩ := s2.2 (by omega)
        have g1 := (d1 k hlt).trans (ws_get (by rw [Q1.out]; exact hlt))
        have g2 := (d2 k hlt).trans (ws_get (by rw [Q2.out]; exact hlt))
        have HT := Lib.hid (take_eq_snoc 0 (l := l) (r := r) (k := k) (by rw [Q1.out]; exact hlt) (by rw [Q2.out]; exact hlt))
        have HNE := Lib.hid (ne_of_at (k := k) 0 (l := l) (r := r))
        obtain ⟨x, ex⟩ : ∃ x, x = l[k]?.getD 0 := ⟨_, rfl⟩
        obtain ⟨y, ey⟩ : ∃ y, y = r[k]?.getD 0 := ⟨_, rfl⟩
        rw [← ex, ← ey] at HT HNE
        rw [← ex] at g1
        rw [← ey] at g2
        have z0 : (0 : Int) ≤ (k : Int) := by omega
        have z1 : (k : Int) < (n1 : Int) := by omega
        clear d1 d2 s1 s2 h1 h2 ex ey
        by_cases hxy : x = y
        · have hT : ((x : Int) != (y : Int)) = false := by rw [hxy]; simp
          have HX := Lib.hid hxy
          clear hxy
          go_wp2_with fail
          go_quiet (fail)
          go_wp2_with fail
          go_roundw
          case rel => exact ⟨k + 1, by omega, by go_num, HT.out.2 ⟨HE.out, HX.out⟩, hb.drewN _⟩
          case measure => simp [intOf]; omega
        · have hT : ((x : Int) != (y : Int)) = true := by rw [bne_iff_ne]; omega
          have HX := Lib.hid hxy
          clear hxy
          go_wp2_with fail
          go_quiet (fail)
          go_wp2_with fail
          go_ret
          exact ⟨ret_bool (HNE.out HX.out).symm, hb.drewN _⟩
      · obtain rfl : k = n1 := by omega
        go_wp2_with fail
        go_ret
        exact ⟨ret_bool (eq_of_take Q1.out Q2.out HE.out).symm, hb⟩
  · have hT : ((n1 : Int) != (n2 : Int)) = true := by rw [bne_iff_ne]; omega
    have HF := Lib.hid (ne_of_len (l := l) (r := r) (by omega))
    clear q1 q2 hne hn hn2
    go_enter Try.func18, Try.ntmps18
    go_wp2_with fail
    go_ret
    exact ⟨ret_bool HF.out.symm, Below.refl _ _⟩
theorem law6Same_any (A A2 : Option Addr) (n cap n2 cap2 B : Nat) (l r : List Nat) (w : World) (hs : Sl w B A n (bs l)) (hl : Bytes l) (hs2 : Sl w B A2 n2 (bs r)) (hr : Bytes r) :
    Calls Try.prog 13 #[.slice A n cap, .slice A2 n2 cap2] w fun e w' => e = .returned (.bool (l == r)) ∧ w = w' := by
  have H1 := run_string (P := Try.prog) w B 22 9 5 Try.underlying22 Try.underlying5 Try.underlying9 A n cap l hs
  have H2 := run_string (P := Try.prog) w B 22 9 5 Try.underlying22 Try.underlying5 Try.underlying9 A2 n2 cap2 r hs2
  have HE := Lib.hid (strB_eq l r hl hr)
  clear hs hs2
  go_enter Try.func13, Try.ntmps13
  go_wp2
  go_ret
  exact ⟨by rw [← HE.out]; rfl, rfl⟩
end Go.Proofs.Ytcckplpfgpagmaa.WdW
