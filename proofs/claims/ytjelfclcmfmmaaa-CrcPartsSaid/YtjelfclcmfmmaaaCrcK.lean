/- The walk of CrcParts. -/
import Derived.Test.YtjelfclcmfmmaaaCrcI
namespace Go.Proofs.Ytjelfclcmfmmaaa.CrcW
open Go.RowKit Go.Proofs.Ytjelfclcmfmmaaa
theorem sum_put (l : List Nat) : Crc.sum (put l) = 0 := by
  unfold put Crc.sum
  rw [Crc.sumFrom_append]
  exact Crc.nx_own _
theorem parts_any (A : Option Addr) (n cap : Nat) (l : List Nat) (c : Nat) (hc : c < 65536) (w : World) (hb : Sl w w.heap.size A n (bs l)) (hl : Bytes l) (hcap : n ≤ cap) :
    Calls Try.prog 4 #[.slice A n cap, .int .u16 c] w fun e w' => e = .returned (.bool true) ∧ Below w.heap.size w w' := by
  by_cases h3 : 300 < n
  · go_enter Try.func4, Try.ntmps4
    go_wp2_with (go_at_call 7; refine (awake_any _).mono ?_; rintro e w5 ⟨rfl, b5⟩)
    go_ret
    exact ⟨rfl, b5⟩
  · have hlen : l.length = n := by simpa using hb.len
    obtain ⟨k, hk, hkn⟩ : ∃ k : Nat, (c : Int) % ((n : Int) + 1) = (k : Int) ∧ k ≤ n := by
      have a1 := Int.emod_nonneg (c : Int) (b := (n : Int) + 1) (by omega)
      have a2 := Int.emod_lt_of_pos (c : Int) (b := (n : Int) + 1) (by omega)
      exact ⟨((c : Int) % ((n : Int) + 1)).toNat, by omega, by omega⟩
    have hd3 : decide (300 < (n : Int)) = false := by simp; omega
    have HL := Lib.hid hlen
    clear hlen
    obtain ⟨A2, hA2⟩ : ∃ A2, (if cap = k then A else Option.map (fun x => x.add k) A) = A2 := ⟨_, rfl⟩
    have hb2 := hb.drop (k := k) (cap := cap) hkn hcap
    rw [hA2, bs_drop] at hb2
    have z1 : (0 : Int) ≤ (k : Int) := by omega
    have z2 : (k : Int) ≤ (n : Int) := by omega
    go_enter Try.func4, Try.ntmps4
    go_wp2_with fail
    rw [hk]
    clear hk
    refine (sum_any _ k cap (l.take k) _ (by rw [← bs_take]; exact hb.take hkn) (hl.take k) (by omega)).mono ?_
    rintro e w1 ⟨rfl, b1⟩
    go_wp2_with fail
    clear hA2
    have HE : Hid (l.drop k = l.drop k) := rfl
    go_loopw [6, 27] (fun t i wr => ∃ j : Nat, j ≤ n - k ∧ i = .int .i64 j ∧ t = .int .u16 (Crc.sum (l.take (k + j)) : Nat) ∧ Below w.heap.size w wr) (fun _ i _ => (n - k) - (intOf i).toNat)
    case atStart => exact ⟨0, by omega, rfl, rfl, b1⟩
    case round =>
      obtain ⟨j, hj, rfl, rfl, bj⟩ := hrel
      have hz : Crc.sum (l.take (k + j)) < 65536 := Crc.sum_lt _ (hl.take _)
      by_cases hlt : j < n - k
      · have hbj := hb2.below bj
        obtain ⟨b, o, rfl, hbl, hcc⟩ := hbj.2 (by omega)
        have hck := (hcc j hlt).trans (bs_get (by rw [List.length_drop, HL.out]; exact hlt))
        rw [List.getElem?_drop] at hck
        have hby := hl.at (k + j)
        have HN := Lib.hid (sum_snoc (l := l) (k := k + j) (by rw [HL.out]; omega))
        clear hcc hbj
        obtain ⟨x, hx⟩ : ∃ x, x = l[k + j]?.getD 0 := ⟨_, rfl⟩
        rw [← hx] at hck hby
        have HX := Lib.hid hx; clear hx
        obtain ⟨q, hq⟩ : ∃ q, q = Crc.sum (l.take (k + j)) := ⟨_, rfl⟩
        rw [← hq] at hz ⊢
        have HQ := Lib.hid hq; clear hq
        go_wp2_with (go_at_call 10; refine (next_any _ _ hz hby _).mono ?_; rintro e w2 ⟨rfl, b2⟩)
        go_roundw
        case rel => exact ⟨j + 1, by omega, by go_num, by rw [← Nat.add_assoc, HN.out, HX.out, HQ.out], bj.call b2⟩
        case measure => simp [intOf]; omega
      · obtain rfl : j = n - k := by omega
        have et : l.take (k + (n - k)) = l := List.take_of_length_le (by rw [HL.out]; omega)
        rw [et] at hz ⊢
        clear et
        have HP := Lib.hid (sum_put l)
        have hpb := put_bytes hl
        obtain ⟨q, hq⟩ : ∃ q, q = Crc.sum l := ⟨_, rfl⟩
        have k3 := fun W h => sum_any A n cap l W h hl (by omega)
        rw [← hq] at hz k3 ⊢
        have K3 := Lib.hid k3
        clear hq k3
        go_wp2_with fail
        refine (K3.out _ (hb.to bj)).mono ?_
        rintro e w3 ⟨rfl, b3⟩
        have B3 := bj.call b3
        clear b3 bj
        go_wp2_with fail
        refine (put_any A n cap l _ (hb.to B3) hl (by omega)).mono ?_
        rintro e w4 ⟨v4, rfl, H4⟩
        obtain ⟨A4, c4, rfl, _, S4, _⟩ := H4.slice
        have B4 := B3.call H4.bel
        clear H4 B3
        go_wp2_with fail
        refine (sum_any _ _ c4 _ _ S4 hpb (by omega)).mono ?_
        rw [HP.out]
        rintro e w5 ⟨rfl, b5⟩
        have B5 := B4.call b5
        clear b5 B4
        go_wp2_with fail
        refine (awake_any _).mono ?_
        rintro e w6 ⟨rfl, b6⟩
        go_wp2_with fail
        go_ret
        exact ⟨rfl, B5.call b6⟩
end Go.Proofs.Ytjelfclcmfmmaaa.CrcW
