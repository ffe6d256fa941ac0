/- The walks of reply.kindBy and kindOf. -/
import Derived.Test.YtiibopdnlmnkmaaRepMath
set_option linter.unusedVariables false
set_option linter.unusedSimpArgs false
namespace Go.Proofs.Ytiibopdnlmnkmaa.AskW
open Go.RowKit Go.Proofs.Ytiibopdnlmnkmaa Go.Proofs.Ytiibopdnlmnkmaa.Ask
/-- A kind in the hand of the interface. -/
def kv : Kd → Value
  | .exc => .iface 110 (.agg #[])
  | .bitsR => .iface 111 (.agg #[])
  | .wordsR => .iface 112 (.agg #[])
  | .bitW => .iface 113 (.agg #[])
  | .wordW => .iface 114 (.agg #[])
  | .manyW m => .iface 116 (.agg #[.int .u16 (m : Nat)])
def kvO : Option Kd → Value
  | some k => kv k
  | none => Value.nilIface
theorem kindBy_any (f : Nat) (w : World) :
    Calls Try.prog 40 #[.int .u8 f] w fun e w' => e = .returned (.tuple #[kvO (kdBy f), .bool (kdBy f).isSome]) ∧ w = w' := by
  by_cases h0 : 128 ≤ f
  · have HK := Lib.hid (show kdBy f = some .exc from by unfold kdBy; rw [if_pos h0])
    have h1 : (128 : Int) ≤ (f : Int) := by omega
    clear h0
    go_enter Try.func40, Try.ntmps40
    go_wp2_with fail
    go_ret2
    rw [HK.out]
    exact ⟨rfl, rfl⟩
  by_cases h1 : f = 1
  · subst h1
    clear h0
    go_enter Try.func40, Try.ntmps40
    go_wp2_with fail
    go_ret2
    exact ⟨rfl, rfl⟩
  by_cases h2 : f = 2
  · subst h2
    clear h0
    go_enter Try.func40, Try.ntmps40
    go_wp2_with fail
    go_ret2
    exact ⟨rfl, rfl⟩
  by_cases h3 : f = 3
  · subst h3
    clear h0
    go_enter Try.func40, Try.ntmps40
    go_wp2_with fail
    go_ret2
    exact ⟨rfl, rfl⟩
  by_cases h4 : f = 4
  · subst h4
    clear h0
    go_enter Try.func40, Try.ntmps40
    go_wp2_with fail
    go_ret2
    exact ⟨rfl, rfl⟩
  by_cases h23 : f = 23
  · subst h23
    clear h0
    go_enter Try.func40, Try.ntmps40
    go_wp2_with fail
    go_ret2
    exact ⟨rfl, rfl⟩
  by_cases h5 : f = 5
  · subst h5
    clear h0
    go_enter Try.func40, Try.ntmps40
    go_wp2_with fail
    go_ret2
    exact ⟨rfl, rfl⟩
  by_cases h6 : f = 6
  · subst h6
    clear h0
    go_enter Try.func40, Try.ntmps40
    go_wp2_with fail
    go_ret2
    exact ⟨rfl, rfl⟩
  by_cases h15 : f = 15
  · subst h15
    clear h0
    go_enter Try.func40, Try.ntmps40
    go_wp2_with fail
    go_ret2
    exact ⟨rfl, rfl⟩
  by_cases h16 : f = 16
  · subst h16
    clear h0
    go_enter Try.func40, Try.ntmps40
    go_wp2_with fail
    go_ret2
    exact ⟨rfl, rfl⟩
  have HK := Lib.hid (show kdBy f = none from by unfold kdBy; repeat (rw [if_neg (by omega)]))
  have g0 : ¬ (128 : Int) ≤ (f : Int) := by omega
  have T1 : ((f : Int) == 1) = false := by rw [beq_eq_false_iff_ne]; omega
  have T2 : ((f : Int) == 2) = false := by rw [beq_eq_false_iff_ne]; omega
  have T3 : ((f : Int) == 3) = false := by rw [beq_eq_false_iff_ne]; omega
  have T4 : ((f : Int) == 4) = false := by rw [beq_eq_false_iff_ne]; omega
  have T23 : ((f : Int) == 23) = false := by rw [beq_eq_false_iff_ne]; omega
  have T5 : ((f : Int) == 5) = false := by rw [beq_eq_false_iff_ne]; omega
  have T6 : ((f : Int) == 6) = false := by rw [beq_eq_false_iff_ne]; omega
  have T15 : ((f : Int) == 15) = false := by rw [beq_eq_false_iff_ne]; omega
  have T16 : ((f : Int) == 16) = false := by rw [beq_eq_false_iff_ne]; omega
  clear h0 h1 h2 h3 h4 h23 h5 h6 h15 h16
  go_enter Try.func40, Try.ntmps40
  go_wp2_with fail
  go_ret2
  rw [HK.out]
  exact ⟨rfl, rfl⟩
theorem kindOf_any (f x : Nat) (Ab : Option Addr) (nb cb : Nat) (Aw : Option Addr) (nw cw : Nat) (a m : Nat) (B : List Bool) (W : List Nat) (w : World) :
    Calls Try.prog 57 #[.agg #[.int .u8 f, .int .u8 x, .slice Ab nb cb, .slice Aw nw cw, .int .u16 a, .int .u16 m]] w fun e w' => e = .returned (.tuple #[kvO (kdOf ⟨f, x, B, W, a, m⟩), .bool (kdOf ⟨f, x, B, W, a, m⟩).isSome]) ∧ Below w.heap.size w w' := by
  by_cases h : x = 0
  · have HK := Lib.hid (show kdOf ⟨f, x, B, W, a, m⟩ = kdBy f from by unfold kdOf; rw [if_neg (by simpa using h)])
    have T : ((x : Int) != 0) = false := by rw [bne_eq_false_iff_eq]; omega
    have K := Lib.hid (fun X => kindBy_any f X)
    obtain ⟨R, hR⟩ : ∃ R, R = kdBy f := ⟨_, rfl⟩
    rw [← hR] at HK K
    clear h hR
    go_enter Try.func57, Try.ntmps57
    go_wp2_with fail
    refine (K.out _).mono ?_
    rintro e w1 ⟨rfl, rfl⟩
    go_wp2_with fail
    go_ret2
    rw [HK.out]
    exact ⟨rfl, (Below.refl _ _).new _⟩
  · have HK := Lib.hid (show kdOf ⟨f, x, B, W, a, m⟩ = some .exc from by unfold kdOf; rw [if_pos h])
    have T : ((x : Int) != 0) = true := by rw [bne_iff_ne]; omega
    clear h
    go_enter Try.func57, Try.ntmps57
    go_wp2_with fail
    go_ret2
    rw [HK.out]
    exact ⟨rfl, (Below.refl _ _).new _⟩
theorem m_exc_right (w : World) : (method 251 110 (.agg #[]) "saucier/reply.right").run Try.prog w = .ok (89, .agg #[]) w := by kernel_rfl
theorem m_exc_bytes (w : World) : (method 251 110 (.agg #[]) "saucier/reply.bytes").run Try.prog w = .ok (87, .agg #[]) w := by kernel_rfl
theorem m_exc_read (w : World) : (method 251 110 (.agg #[]) "saucier/reply.read").run Try.prog w = .ok (88, .agg #[]) w := by kernel_rfl
theorem m_bitsR_right (w : World) : (method 251 111 (.agg #[]) "saucier/reply.right").run Try.prog w = .ok (92, .agg #[]) w := by kernel_rfl
theorem m_bitsR_bytes (w : World) : (method 251 111 (.agg #[]) "saucier/reply.bytes").run Try.prog w = .ok (90, .agg #[]) w := by kernel_rfl
theorem m_bitsR_read (w : World) : (method 251 111 (.agg #[]) "saucier/reply.read").run Try.prog w = .ok (91, .agg #[]) w := by kernel_rfl
theorem m_wordsR_right (w : World) : (method 251 112 (.agg #[]) "saucier/reply.right").run Try.prog w = .ok (97, .agg #[]) w := by kernel_rfl
theorem m_wordsR_bytes (w : World) : (method 251 112 (.agg #[]) "saucier/reply.bytes").run Try.prog w = .ok (95, .agg #[]) w := by kernel_rfl
theorem m_wordsR_read (w : World) : (method 251 112 (.agg #[]) "saucier/reply.read").run Try.prog w = .ok (96, .agg #[]) w := by kernel_rfl
theorem m_bitW_right (w : World) : (method 251 113 (.agg #[]) "saucier/reply.right").run Try.prog w = .ok (102, .agg #[]) w := by kernel_rfl
theorem m_bitW_bytes (w : World) : (method 251 113 (.agg #[]) "saucier/reply.bytes").run Try.prog w = .ok (100, .agg #[]) w := by kernel_rfl
theorem m_bitW_read (w : World) : (method 251 113 (.agg #[]) "saucier/reply.read").run Try.prog w = .ok (101, .agg #[]) w := by kernel_rfl
theorem m_wordW_right (w : World) : (method 251 114 (.agg #[]) "saucier/reply.right").run Try.prog w = .ok (105, .agg #[]) w := by kernel_rfl
theorem m_wordW_bytes (w : World) : (method 251 114 (.agg #[]) "saucier/reply.bytes").run Try.prog w = .ok (103, .agg #[]) w := by kernel_rfl
theorem m_wordW_read (w : World) : (method 251 114 (.agg #[]) "saucier/reply.read").run Try.prog w = .ok (104, .agg #[]) w := by kernel_rfl
theorem m_manyW_right (m : Nat) (w : World) : (method 251 116 (.agg #[.int .u16 (m : Nat)]) "saucier/reply.right").run Try.prog w = .ok (108, .agg #[.int .u16 (m : Nat)]) w := by kernel_rfl
theorem m_manyW_bytes (m : Nat) (w : World) : (method 251 116 (.agg #[.int .u16 (m : Nat)]) "saucier/reply.bytes").run Try.prog w = .ok (106, .agg #[.int .u16 (m : Nat)]) w := by kernel_rfl
theorem m_manyW_read (m : Nat) (w : World) : (method 251 116 (.agg #[.int .u16 (m : Nat)]) "saucier/reply.read").run Try.prog w = .ok (107, .agg #[.int .u16 (m : Nat)]) w := by kernel_rfl
end Go.Proofs.Ytiibopdnlmnkmaa.AskW
