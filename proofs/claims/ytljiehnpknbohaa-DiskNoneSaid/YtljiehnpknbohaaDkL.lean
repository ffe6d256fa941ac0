/- The walks of the law's light and begins (layer 9). -/
import Derived.Test.YtljiehnpknbohaaDkOps
import Derived.Test.YtljiehnpknbohaaWdA
import Derived.WalkLawsBesides
import Derived.WalkKit
import Derived.Below
import Derived.Lib.Hide
set_option linter.unusedVariables false
set_option linter.unusedSimpArgs false
namespace Go.Proofs.Ytljiehnpknbohaa.DkW
open Go.RowKit Go.Proofs.Ytljiehnpknbohaa Go.Proofs.Ytljiehnpknbohaa.Dk
def few (o : Deed) : Bool := decide (o.b.length ≤ 200)
theorem all_snoc {L : List Deed} {k : Nat} (h : k < L.length) : (L.take (k + 1)).all few = ((L.take k).all few && few (L[k]?.getD op0)) := by
  rw [List.take_succ_eq_append_getElem h, List.all_append, List.getElem?_eq_getElem h]
  simp
theorem light_is (L : List Deed) (n m : Nat) (hn : L.length = n) (hm : m = min n 60) : light L = (L.take m).all few := by
  have e : L.take 60 = L.take m := by
    rw [hm]
    by_cases h : n ≤ 60
    · rw [Nat.min_eq_left h, List.take_of_length_le (by omega), List.take_of_length_le (by omega)]
    · rw [Nat.min_eq_right (by omega)]
  unfold light
  rw [e]
  rfl
theorem all_take {L : List Deed} {k m : Nat} (hk : k ≤ m) (h : (L.take k).all few = false) : (L.take m).all few = false := by
  rw [Bool.eq_false_iff] at h ⊢
  intro h2
  apply h
  rw [List.all_eq_true] at h2 ⊢
  intro x hx
  apply h2
  rw [show L.take k = (L.take m).take k by rw [List.take_take, Nat.min_eq_left hk]] at hx
  exact List.mem_of_mem_take hx
def RetL (L : List Deed) (A : Option Addr) (m c : Nat) (w : World) (e : Ending) (w' : World) : Prop :=
  (if light L then e = .returned (.tuple #[.slice A m c, .bool true]) else e = .returned (.tuple #[.slice none 0 0, .bool false])) ∧ Below w.heap.size w w'
set_option maxHeartbeats 1000000 in
theorem light_any (A : Option Addr) (n c : Nat) (L : List Deed) (w : World) (h : Os w A n L) (hc : n ≤ c) (m : Nat) (hm : m = min n 60) :
    Calls Try.prog 10 #[.slice A n c] w (RetL L A m c w) := by
  have hlen := h.len
  have hmin : ∀ W, (Builtin.min_ #[3, 3] 3 #[.int .i64 (n : Int), .int .i64 60]).run Try.prog W = .ok (.int .i64 (m : Int)) W := by
    intro W
    simp [Builtin.min_, Builtin.min2]
    (repeat' split) <;> omega
  have hmn : m ≤ n := by omega
  have hm60 : m ≤ 60 := by omega
  have z0 : (0 : Int) ≤ (m : Int) := by omega
  have z1 : (m : Int) ≤ (c : Int) := by omega
  have HL := Lib.hid (light_is L n m hlen hm)
  have HO := Lib.hid h
  have HN := Lib.hid hlen
  obtain ⟨R, hR⟩ : ∃ R, R = light L := ⟨_, rfl⟩
  have HR := Lib.hid hR
  have HF := Lib.hid (show ∀ e w', (if R then e = .returned (.tuple #[.slice A m c, .bool true]) else e = .returned (.tuple #[.slice none 0 0, .bool false])) ∧ Below w.heap.size w w' → RetL L A m c w e w' from fun e w' h => by rw [hR] at h; exact h)
  clear h hlen hm hR
  go_enter Try.func10, Try.ntmps10
  go_wp2_with fail
  go_loopw [13] (fun i wr => ∃ k : Nat, k ≤ m ∧ i = .int .i64 k ∧ Hid ((L.take k).all few = true) ∧ Below w.heap.size w wr) (fun i _ => m - (intOf i).toNat)
  case atStart => exact ⟨0, by omega, rfl, (show (L.take 0).all few = true from rfl), Below.refl _ _⟩
  case round =>
    obtain ⟨k, hk, rfl, HA, hb⟩ := hrel
    by_cases hlt : k < m
    · have hlt' : (k : Int) < (m : Int) := by omega
      have y0 : (0 : Int) ≤ (k : Int) := by omega
      obtain ⟨b, o, rfl, hbb, C, q, cc, d0, d1, d2, SC⟩ := (HO.out.to hb).at (i := k) (by omega)
      have hq : (L[k]?.getD op0).b.length = q := by simpa using SC.len
      have HS := Lib.hid (all_snoc (L := L) (k := k) (by rw [HN.out]; omega))
      have HFW := Lib.hid (show few (L[k]?.getD op0) = decide (q ≤ 200) by unfold few; rw [hq])
      obtain ⟨⟨wh, bx, nn⟩, ex⟩ : ∃ x, x = L[k]?.getD op0 := ⟨_, rfl⟩
      rw [← ex] at d0 d2 HS HFW
      dsimp only at d0 d2
      clear ex SC hq
      by_cases h2 : 200 < q
      · have h2' : (200 : Int) < (q : Int) := by omega
        have hRf : R = false := by
          rw [HR.out, HL.out]
          exact all_take (k := k + 1) (by omega) (by rw [HS.out, HFW.out, decide_eq_false (by omega), Bool.and_false])
        subst hRf
        go_wp2_with fail
        go_ret2
        exact HF.out _ _ ⟨rfl, hb.new _⟩
      · have h2' : ¬ (200 : Int) < (q : Int) := by omega
        go_wp2_with fail
        go_roundw
        case rel => exact ⟨k + 1, by omega, by go_num, (show (L.take (k + 1)).all few = true by rw [HS.out, HFW.out, HA.out, decide_eq_true (by omega)]; rfl), hb.new _⟩
        case measure => simp [intOf]; omega
    · obtain rfl : k = m := by omega
      have hRt : R = true := by rw [HR.out, HL.out, HA.out]
      subst hRt
      go_wp2_with fail
      go_ret2
      exact HF.out _ _ ⟨rfl, hb⟩
/-- The first bytes. -/
theorem begins_any (A A2 : Option Addr) (n c n2 c2 : Nat) (l r : List Nat) (w : World) (hs : Sl w w.heap.size A n (bs l)) (hl : Bytes l) (hc : n ≤ c) (hs2 : Sl w w.heap.size A2 n2 (bs r)) (hr : Bytes r) :
    Calls Try.prog 20 #[.slice A n c, .slice A2 n2 c2] w fun e w' => e = .returned (.bool (l.take (min n2 n) == r)) ∧ w = w' := by
  obtain ⟨m, hm⟩ : ∃ m, m = min n2 n := ⟨_, rfl⟩
  have hmin : ∀ W, (Builtin.min_ #[3, 3] 3 #[.int .i64 (n2 : Int), .int .i64 (n : Int)]).run Try.prog W = .ok (.int .i64 (m : Int)) W := by
    intro W
    simp [Builtin.min_, Builtin.min2]
    (repeat' split) <;> omega
  have z0 : (0 : Int) ≤ (m : Int) := by omega
  have z1 : (m : Int) ≤ (c : Int) := by omega
  have S1 := hs.take (k := m) (by omega)
  rw [bs_take] at S1
  rw [← hm]
  have K := Lib.hid (WdW.law6Same_any A A2 m c n2 c2 w.heap.size (l.take m) r w S1 (hl.take m) hs2 hr)
  clear hm hs hs2 S1
  go_enter Try.func20, Try.ntmps20
  go_wp2_with fail
  refine K.out.mono ?_
  rintro e w1 ⟨rfl, rfl⟩
  go_wp2_with fail
  go_ret
  exact ⟨rfl, rfl⟩
end Go.Proofs.Ytljiehnpknbohaa.DkW
