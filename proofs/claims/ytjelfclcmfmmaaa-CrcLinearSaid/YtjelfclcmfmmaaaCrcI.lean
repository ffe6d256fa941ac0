/- The walk of CrcOne. -/
import Derived.Test.YtjelfclcmfmmaaaCrcH
import Derived.Test.YtjelfclcmfmmaaaIn
namespace Go.Proofs.Ytjelfclcmfmmaaa.CrcW
open Go.RowKit Go.Proofs.Ytjelfclcmfmmaaa
theorem one_any (s t c d : Nat) (hs : s < 65536) (ht : t < 65536) (hc : c < 256) (hd : d < 256) (w : World) :
    Calls Try.prog 6 #[.int .u16 s, .int .u16 t, .int .u8 c, .int .u8 d] w fun e w' => e = .returned (.bool true) ∧ Below w.heap.size w w' := by
  have e1 : ((((Crc.nx s c : Nat) : Int) == ((Crc.nx t c : Nat) : Int)) == ((s : Int) == (t : Int))) = true := by
    have := Crc.nx_inj_sum hs ht hc
    rw [beq_iff_eq, Bool.eq_iff_iff, beq_iff_eq, beq_iff_eq]
    omega
  have e2 : ((((Crc.nx s c : Nat) : Int) == ((Crc.nx s d : Nat) : Int)) == ((c : Int) == (d : Int))) = true := by
    have := Crc.nx_inj_byte hs hc hd
    rw [beq_iff_eq, Bool.eq_iff_iff, beq_iff_eq, beq_iff_eq]
    omega
  obtain ⟨x1, hx1⟩ : ∃ x, x = Crc.nx s c := ⟨_, rfl⟩
  obtain ⟨x2, hx2⟩ : ∃ x, x = Crc.nx t c := ⟨_, rfl⟩
  obtain ⟨x3, hx3⟩ : ∃ x, x = Crc.nx s d := ⟨_, rfl⟩
  have k1 := next_any s c hs hc
  have k2 := next_any t c ht hc
  have k3 := next_any s d hs hd
  rw [← hx1] at k1 e1 e2
  rw [← hx2] at k2 e1
  rw [← hx3] at k3 e2
  have K1 := Lib.hid k1
  have K2 := Lib.hid k2
  have K3 := Lib.hid k3
  clear k1 k2 k3 hx1 hx2 hx3
  go_enter Try.func6, Try.ntmps6
  go_wp2_with fail
  refine (K1.out _).mono ?_
  rintro e w1 ⟨rfl, b1⟩
  go_wp2_with fail
  refine (K2.out _).mono ?_
  rintro e w2 ⟨rfl, b2⟩
  have B2 := b1.call b2
  clear b1 b2
  go_wp2_with fail
  refine (K1.out _).mono ?_
  rintro e w3 ⟨rfl, b3⟩
  have B3 := B2.call b3
  clear B2 b3
  go_wp2_with fail
  refine (K3.out _).mono ?_
  rintro e w4 ⟨rfl, b4⟩
  have B4 := B3.call b4
  clear B3 b4
  go_wp2_with fail
  refine (awake_any _).mono ?_
  rintro e w5 ⟨rfl, b5⟩
  have B5 := B4.call b5
  clear B4 b5
  go_wp2_with fail
  go_ret
  exact ⟨rfl, B5⟩
end Go.Proofs.Ytjelfclcmfmmaaa.CrcW
