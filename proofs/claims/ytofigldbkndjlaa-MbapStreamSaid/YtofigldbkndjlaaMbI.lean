/- The walk of saucierlaw05.same. -/
import Derived.BigQuiet
import Derived.Deep.QuietTactic
import Derived.Test.YtofigldbkndjlaaMbE
import Derived.Test.YtofigldbkndjlaaMbF
set_option linter.unusedVariables false
set_option linter.unusedSimpArgs false
namespace Go.Proofs.Ytofigldbkndjlaa.MbW
open Go.RowKit Go.Proofs.Ytofigldbkndjlaa Go.Proofs.Ytofigldbkndjlaa.Mb
/-- All are in their ranges. -/
def Oks (L : List Fm) : Prop := ∀ x ∈ L, x.Ok
theorem Oks.at {L : List Fm} (h : Oks L) (i : Nat) : (L[i]?.getD fm0).Ok := by
  by_cases hi : i < L.length
  · rw [List.getElem?_eq_getElem hi]; exact h _ (List.getElem_mem hi)
  · rw [List.getElem?_eq_none (by omega)]; exact fm0_ok
set_option maxHeartbeats 4000000 in
theorem same_any (A A2 : Option Addr) (n c n2 c2 : Nat) (L L2 : List Fm) (P P2 : Nat → Prop) (w : World) (hs : Fr w A n L P) (hs2 : Fr w A2 n2 L2 P2) (ho : Oks L) (ho2 : Oks L2) (hn : n ≤ 1000000) :
    Calls Try.prog 16 #[.slice A n c, .slice A2 n2 c2] w fun e w' => e = .returned (.bool (decide (L = L2))) ∧ Below w.heap.size w w' := by
  have hl := hs.len
  have hl2 := hs2.len
  have KS := Lib.hid (fun A A2 n c n2 c2 l r X (hs : Sl X X.heap.size A n (bs l)) hl (hs2 : Sl X X.heap.size A2 n2 (bs r)) hr => law6Same_any A A2 n c n2 c2 X.heap.size l r X hs hl hs2 hr)
  obtain ⟨R, hR⟩ : ∃ R, R = decide (L = L2) := ⟨_, rfl⟩
  rw [← hR]
  by_cases hne : n = n2
  case neg =>
    have hT : ((n : Int) != (n2 : Int)) = true := by rw [bne_iff_ne]; omega
    have HE := Lib.hid (show false = R from by rw [hR, decide_eq_false (fun h => by rw [h] at hl; omega)])
    clear hR hs hs2 hl hl2 hne
    go_enter Try.func16, Try.ntmps16
    go_wp2_with fail
    go_ret
    exact ⟨ret_bool HE.out, Below.refl _ _⟩
  subst hne
  have hT : ((n : Int) != (n : Int)) = false := by rw [bne_eq_false_iff_eq]
  have HF := Lib.hid hs
  have HF2 := Lib.hid hs2
  have HL := Lib.hid hl
  have HL2 := Lib.hid hl2
  have HR := Lib.hid hR
  clear hs hs2 hl hl2 hR
  go_enter Try.func16, Try.ntmps16
  go_wp2_with fail
  go_loopw [13] (fun i wr => ∃ k : Nat, k ≤ n ∧ i = .int .i64 k ∧ Hid (L.take k = L2.take k) ∧ Below w.heap.size w wr) (fun i _ => n - (intOf i).toNat)
  case atStart => exact ⟨0, by omega, rfl, by show L.take 0 = L2.take 0; rfl, Below.refl _ _⟩
  case round =>
    obtain ⟨k, hk, rfl, HT, hb⟩ := hrel
    by_cases hlt : k < n
    · have hlt' : (k : Int) < (n : Int) := by omega
      obtain ⟨b, o, rfl, hbb, C, m, cc, d0, d1, d2, SC, -⟩ := (HF.out.to hb).at hlt
      obtain ⟨b2, o2, rfl, hbb2, C2, m2, cc2, e0, e1, e2, SC2, -⟩ := (HF2.out.to hb).at hlt
      have KS2 := Lib.hid (fun q : Nat => KS.out C C2 m cc m2 cc2 _ _ (wr.drewN q) SC (ho.at k).pdu SC2 (ho2.at k).pdu)
      have HS := Lib.hid (take_eq_snoc fm0 (l := L) (r := L2) (k := k) (by have := HL.out; omega) (by have := HL2.out; omega))
      obtain ⟨⟨tx, u, p⟩, hx⟩ : ∃ x, x = L[k]?.getD fm0 := ⟨_, rfl⟩
      obtain ⟨⟨tx2, u2, p2⟩, hx2⟩ : ∃ x, x = L2[k]?.getD fm0 := ⟨_, rfl⟩
      rw [← hx] at d0 d1 KS2 HS
      rw [← hx2] at e0 e1 KS2 HS
      dsimp only at d0 d1 e0 e1 KS2
      clear hx hx2 SC SC2 hbb hbb2
      have hno : (⟨tx, u, p⟩ : Fm) ≠ ⟨tx2, u2, p2⟩ → false = R := fun hh => by
        rw [HR.out, decide_eq_false]
        intro h
        exact hh (HS.out.1 (by rw [h])).2
      by_cases htx : tx = tx2
      case neg =>
        have hT1 : ((tx : Int) != (tx2 : Int)) = true := by rw [bne_iff_ne]; omega
        have HE := Lib.hid (hno (fun h => htx (by injection h)))
        clear hno htx
        go_wp2_with fail
        go_quiet (fail)
        go_wp2_with fail
        go_ret
        exact ⟨ret_bool HE.out, hb.drewN nq⟩
      have hT1 : ((tx : Int) != (tx2 : Int)) = false := by rw [bne_eq_false_iff_eq]; omega
      by_cases hu : u = u2
      case neg =>
        have hT2 : ((u : Int) != (u2 : Int)) = true := by rw [bne_iff_ne]; omega
        have HE := Lib.hid (hno (fun h => hu (by injection h)))
        clear hno htx hu
        go_wp2_with fail
        go_quiet (fail)
        go_wp2_with fail
        go_ret
        exact ⟨ret_bool HE.out, hb.drewN nq⟩
      have hT2 : ((u : Int) != (u2 : Int)) = false := by rw [bne_eq_false_iff_eq]; omega
      by_cases hp : p = p2
      case neg =>
        have HE := Lib.hid (hno (fun h => hp (by injection h)))
        have hpf : (p == p2) = false := by rw [beq_eq_false_iff_ne]; exact hp
        rw [hpf] at KS2
        clear hno htx hu hp hpf
        go_wp2_with fail
        go_quiet (first | (go_at_call 10; exact Calls.quiet_of_same ((KS2.out _).mono fun e w' h => ⟨h.1, h.2.symm⟩)))
        go_wp2_with fail
        go_ret
        exact ⟨ret_bool HE.out, hb.drewN nq⟩
      have hpt : (p == p2) = true := by rw [beq_iff_eq]; exact hp
      rw [hpt] at KS2
      have HN := Lib.hid (HS.out.2 ⟨HT.out, by rw [htx, hu, hp]⟩)
      clear hno htx hu hp hpt
      go_wp2_with fail
      go_quiet (first | (go_at_call 10; exact Calls.quiet_of_same ((KS2.out _).mono fun e w' h => ⟨h.1, h.2.symm⟩)))
      go_wp2_with fail
      go_roundw
      case rel => exact ⟨k + 1, by omega, by go_num, HN, hb.drewN nq⟩
      case measure => simp [intOf]; omega
    · obtain rfl : k = n := by omega
      have HE := Lib.hid (show true = R from by
        rw [HR.out, eq_comm, decide_eq_true_eq]
        have h := HT.out
        rw [List.take_of_length_le (by have := HL.out; omega), List.take_of_length_le (by have := HL2.out; omega)] at h
        exact h)
      go_wp2_with fail
      go_ret
      exact ⟨ret_bool HE.out, hb⟩
end Go.Proofs.Ytofigldbkndjlaa.MbW
