/- The walk of CrcTells. -/
import Derived.Test.YtjelfclcmfmmaaaCrcI
namespace Go.Proofs.Ytjelfclcmfmmaaa.CrcW
open Go.RowKit Go.Proofs.Ytjelfclcmfmmaaa
theorem tells_any (A : Option Addr) (n cap : Nat) (l : List Nat) (s c : Nat) (hs : s < 65536) (hc : c < 256) (w : World) (hb : Sl w w.heap.size A n (bs l)) (hl : Bytes l) (hcap : n ≤ cap) :
    Calls Try.prog 3 #[.slice A n cap, .int .u16 s, .int .u8 c] w fun e w' => e = .returned (.bool true) ∧ Below w.heap.size w w' := by
  by_cases h6 : 600 < n
  · go_enter Try.func3, Try.ntmps3
    go_wp2_with (go_at_call 7; refine (awake_any _).mono ?_; rintro e w5 ⟨rfl, b5⟩)
    go_ret
    exact ⟨rfl, b5⟩
  · obtain ⟨x, hx⟩ : ∃ x, x = Crc.nx s c := ⟨_, rfl⟩
    obtain ⟨S, hS⟩ : ∃ S, S = Crc.sum l := ⟨_, rfl⟩
    obtain ⟨r, hr⟩ : ∃ r, r = cutF l := ⟨_, rfl⟩
    have hrb : Bytes r.1 := by
      rw [hr]; unfold cutF
      split
      · exact fun c hc => by simp at hc
      · split
        · exact hl.take _
        · exact fun c hc => by simp at hc
    have k1 := next_any s c hs hc
    have k2 := refNext_any s c hs hc
    rw [← hx] at k1 k2
    have K1 := Lib.hid k1
    have K2 := Lib.hid k2
    have k3 := fun A cap W h => sum_any A n cap l W h hl (by omega)
    have k4 := fun A cap W h => refSum_any A n cap l W h hl (by omega)
    rw [← hS] at k3 k4
    have K3 := Lib.hid k3
    have K4 := Lib.hid k4
    have k5 := fun A cap W h hc => cut_any A n cap l W h hl (by omega) hc
    have k6 := fun A cap W h hc => refCut_any A n cap l W h hl (by omega) hc
    rw [← hr] at k5 k6
    have K5 := Lib.hid k5
    have K6 := Lib.hid k6
    have hpb := put_bytes hl
    clear k1 k2 k3 k4 k5 k6 hx hS hr
    go_enter Try.func3, Try.ntmps3
    go_wp2_with (at_builtin; refine wpList_app u8 rfl (.tmp 16) (.tmp 17) rfl (Has.made0 (Below.refl _ w) _) rfl (hb.alloc (Nat.le_refl _) _) rfl (bs_one l) (by omega) (by simp only [maxLen]; omega) ?_; intro v1 w1 H1 _ _)
    rw [Nat.zero_add, List.nil_append] at H1
    obtain ⟨A1, c1, rfl, hc1, S1, _⟩ := H1.slice
    have B1 := H1.bel
    clear H1
    refine (K5.out _ _ _ S1 hc1).mono ?_
    rintro e w2 ⟨v2, rfl, H2⟩
    obtain ⟨A2, c2, rfl, _, S2, _⟩ := H2.slice
    have B2 := B1.call H2.bel
    have C2 := H2.bel
    clear H2
    go_wp2_with fail
    refine (K6.out _ _ _ (hb.to B2) hcap).mono ?_
    rintro e w3 ⟨v3, rfl, H3⟩
    obtain ⟨A3, c3, rfl, _, S3, _⟩ := H3.slice
    have B3 := B2.call H3.bel
    have C3 := C2.call H3.bel
    have D3 := H3.bel
    clear H3 B2 C2
    go_wp2_with fail
    refine (K1.out _).mono ?_
    rintro e w4 ⟨rfl, b4⟩
    have B4 := B3.call b4
    have C4 := C3.call b4
    have D4 := D3.call b4
    have E4 := b4
    clear B3 C3 D3 b4
    go_wp2_with fail
    refine (K2.out _).mono ?_
    rintro e w5 ⟨rfl, rfl⟩
    go_wp2_with fail
    refine (K3.out _ _ _ (S1.to C4)).mono ?_
    rintro e w6 ⟨rfl, b6⟩
    have B6 := B4.call b6
    have C6 := C4.call b6
    have D6 := D4.call b6
    have E6 := E4.call b6
    clear B4 C4 D4 E4 b6
    go_wp2_with fail
    refine (K4.out _ _ _ (hb.to B6)).mono ?_
    rintro e w7 ⟨rfl, rfl⟩
    go_wp2_with fail
    refine (put_any _ _ _ _ _ (S1.to C6) hl (by omega)).mono ?_
    rintro e w8 ⟨v8, rfl, H8⟩
    obtain ⟨A8, c8, rfl, _, S8, _⟩ := H8.slice
    have B8 := B6.call H8.bel
    have C8 := C6.call H8.bel
    have D8 := D6.call H8.bel
    have E8 := E6.call H8.bel
    clear B6 C6 D6 E6 H8
    go_wp2_with fail
    refine (refPut_any _ _ _ _ _ (hb.to B8) hl (by omega)).mono ?_
    rintro e w9 ⟨v9, rfl, H9⟩
    obtain ⟨A9, c9, rfl, _, S9, _⟩ := H9.slice
    have B9 := B8.call H9.bel
    have C9 := C8.call H9.bel
    have D9 := D8.call H9.bel
    have E9 := E8.call H9.bel
    have F9 := H9.bel
    clear B8 C8 D8 E8 H9
    go_wp2_with fail
    refine (same_any _ _ _ _ _ _ _ _ _ _ (S8.to F9) hpb S9 hpb).mono ?_
    rintro e w10 ⟨rfl, rfl⟩
    rw [beq_self_eq_true]
    go_wp2_with fail
    refine (same_any _ _ _ _ _ _ _ _ _ _ (S2.to (D9)) hrb (S3.to E9) hrb).mono ?_
    rintro e w11 ⟨rfl, rfl⟩
    rw [beq_self_eq_true]
    go_wp2_with fail
    refine (same_any _ _ _ _ _ _ _ _ _ _ (S1.to C9) hl (hb.to B9) hl).mono ?_
    rintro e w12 ⟨rfl, rfl⟩
    rw [beq_self_eq_true]
    go_wp2_with fail
    refine (awake_any _).mono ?_
    rintro e w13 ⟨rfl, b13⟩
    go_wp2_with fail
    go_ret
    exact ⟨rfl, B9.call b13⟩
end Go.Proofs.Ytjelfclcmfmmaaa.CrcW
