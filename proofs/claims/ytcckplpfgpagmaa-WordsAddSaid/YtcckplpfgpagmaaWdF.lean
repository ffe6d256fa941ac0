/- The walk of saucierlaw06.awake: the chapter's examples. -/
import Derived.Test.YtcckplpfgpagmaaWdE
set_option linter.unusedVariables false
set_option linter.unusedSimpArgs false
namespace Go.Proofs.Ytcckplpfgpagmaa.WdW
open Go.RowKit Go.Proofs.Ytcckplpfgpagmaa Go.Proofs.Ytcckplpfgpagmaa.Wd Go.Proofs.Ytcckplpfgpagmaa.Ask
theorem new_then (w : World) (xs : List Value) (t : TypeId) (g : Nat) (hg : g = w.heap.size) : Sl (w.alloc (.cells xs.toArray t)) (w.alloc (.cells xs.toArray t)).heap.size (some ⟨g, 0, none⟩) xs.length xs := by
  subst hg
  have h := Sl.new w xs.toArray t (w.alloc (.cells xs.toArray t)).heap.size (by simp)
  simpa using h
theorem bytes_of {l : List Nat} (h : l.all (fun c => decide (c < 256)) = true) : Bytes l := fun c hc => by
  have := List.all_eq_true.1 h c hc
  simpa using this
def exL : List Bool := [true, false, true, true, false, false, false, false, true]
theorem ex1 : regsE [0, 1, 1, 2] = ([1, 258], true) := by decide +kernel
theorem ex2 : pack exL = [13, 1] := by decide +kernel
theorem ex3 : bitsOf [13, 1] 9 = exL := by decide +kernel
theorem ex4 : bitsOf [13, 3] 9 = [] := by decide +kernel
theorem ex5 : twos [1, 258] = [0, 1, 1, 2] := by decide +kernel
theorem ex6 : word (-2) = (65534, true) := by decide +kernel
theorem ex7 : word 40000 = (0, false) := by decide +kernel
theorem ex8 : signed 65535 = -1 := by decide +kernel
set_option maxRecDepth 10000 in
set_option maxHeartbeats 4000000 in
theorem awake6_any (w : World) :
    Calls Try.prog 7 #[] w fun e w' => e = .returned (.bool true) ∧ Below w.heap.size w w' := by
  go_enter Try.func7, Try.ntmps7
  go_wp2_with fail
  obtain ⟨W1, hW1⟩ : ∃ W1, W1 = ((w.alloc (.cells #[.bool true, .bool false, .bool true, .bool true, .bool false, .bool false, .bool false, .bool false, .bool true] 4)).alloc (.cells #[.int .u8 0, .int .u8 1, .int .u8 1, .int .u8 2] 5)) := ⟨_, rfl⟩
  have S0 : Sl W1 W1.heap.size (some ⟨w.heap.size, 0, none⟩) 9 (bl exL) := by rw [hW1]; exact (new_then w (bl exL) 4 _ rfl).to ((Below.refl _ _).new _)
  have S1 : Sl W1 W1.heap.size (some ⟨w.heap.size + 1, 0, none⟩) 4 (bs [0, 1, 1, 2]) := by rw [hW1]; exact new_then (w.alloc (.cells #[.bool true, .bool false, .bool true, .bool true, .bool false, .bool false, .bool false, .bool false, .bool true] 4)) (bs [0, 1, 1, 2]) 5 _ (by simp)
  have B1 : Below w.heap.size w W1 := by rw [hW1]; exact ((Below.refl _ _).new _).new _
  rw [← hW1]
  clear hW1
  refine (regs_any _ 4 4 [0, 1, 1, 2] _ S1 (bytes_of (by decide)) (by decide)).mono ?_
  rw [ex1]
  rintro e w2 ⟨v2, rfl, H2⟩
  have S0 := S0.to H2.bel
  have B1 := B1.call H2.bel
  obtain ⟨A2, c2, rfl, -, S2, -⟩ := H2.slice
  have S2 : Sl w2 w2.heap.size A2 2 (ws [1, 258]) := S2
  clear H2 S1
  dsimp only
  go_wp2_with fail
  refine (parts_any 65538 (by decide) _).mono ?_
  rintro e w3 ⟨rfl, rfl⟩
  rw [show 65538 / 65536 = 1 from rfl, show 65538 % 65536 = 2 from rfl]
  go_wp2_with fail
  refine (word_any (-2) _).mono ?_
  rw [ex6]
  rintro e w4 ⟨rfl, rfl⟩
  go_wp2_with fail
  refine (word_any 40000 _).mono ?_
  rw [ex7]
  rintro e w5 ⟨rfl, rfl⟩
  go_wp2_with fail
  refine (packBits_any _ 9 9 exL _ S0 (by decide)).mono ?_
  rw [ex2]
  rintro e w6 ⟨v6, rfl, H6⟩
  have S0 := S0.to H6.bel
  have S2 := S2.to H6.bel
  have B1 := B1.call H6.bel
  obtain ⟨A6, c6, rfl, -, S6, -⟩ := H6.slice
  have S6 : Sl w6 w6.heap.size A6 2 (bs [13, 1]) := S6
  clear H6
  dsimp only
  go_wp2_with fail
  have S6 := S6.to ((Below.refl _ _).new (.cells #[.int .u8 13, .int .u8 1] 5))
  obtain ⟨X1, hX1⟩ : ∃ X, X = w6.alloc (.cells #[.int .u8 13, .int .u8 1] 5) := ⟨_, rfl⟩
  have S0 : Sl X1 X1.heap.size (some ⟨w.heap.size, 0, none⟩) 9 (bl exL) := by rw [hX1]; exact S0.to ((Below.refl _ _).new _)
  have S2 : Sl X1 X1.heap.size A2 2 (ws [1, 258]) := by rw [hX1]; exact S2.to ((Below.refl _ _).new _)
  have B1 : Below w.heap.size w X1 := by rw [hX1]; exact B1.new _
  have NX1 : Sl X1 X1.heap.size (some ⟨w6.heap.size, 0, none⟩) 2 (bs [13, 1]) := by rw [hX1]; exact new_then _ (bs [13, 1]) _ _ rfl
  rw [← hX1] at S6 ⊢
  clear hX1
  refine (law6Same_any A6 _ 2 c6 2 2 _ [13, 1] [13, 1] _ S6 (bytes_of (by decide)) NX1 (bytes_of (by decide))).mono ?_
  rw [beq_self_eq_true]
  rintro e w7 ⟨rfl, rfl⟩
  clear S6
  go_wp2_with fail
  obtain ⟨X2, hX2⟩ : ∃ X, X = X1.alloc (.cells #[.int .u8 13, .int .u8 1] 5) := ⟨_, rfl⟩
  have S0 : Sl X2 X2.heap.size (some ⟨w.heap.size, 0, none⟩) 9 (bl exL) := by rw [hX2]; exact S0.to ((Below.refl _ _).new _)
  have S2 : Sl X2 X2.heap.size A2 2 (ws [1, 258]) := by rw [hX2]; exact S2.to ((Below.refl _ _).new _)
  have B1 : Below w.heap.size w X2 := by rw [hX2]; exact B1.new _
  have NX2 : Sl X2 X2.heap.size (some ⟨X1.heap.size, 0, none⟩) 2 (bs [13, 1]) := by rw [hX2]; exact new_then _ (bs [13, 1]) _ _ rfl
  rw [← hX2]
  clear hX2
  refine (bits_any _ 2 2 [13, 1] 9 _ NX2 (bytes_of (by decide)) (by decide) (by decide) (by decide)).mono ?_
  rw [ex3]
  rintro e w8 ⟨v8, rfl, H8⟩
  have S0 := S0.to H8.bel
  have S2 := S2.to H8.bel
  have B1 := B1.call H8.bel
  obtain ⟨A8, c8, rfl, -, S8, -⟩ := H8.slice
  have S8 : Sl w8 w8.heap.size A8 9 (bl exL) := S8
  clear H8 NX1 NX2
  dsimp only [List.length, exL]
  go_wp2_with fail
  refine (lawBools_any A8 _ 9 c8 9 9 exL exL _ S8 S0 (by decide) (by decide)).mono ?_
  rw [beq_self_eq_true]
  rintro e w9 ⟨rfl, b9⟩
  have S0 := S0.to b9
  have S2 := S2.to b9
  have B1 := B1.call b9
  clear S8 b9
  go_wp2_with fail
  obtain ⟨X3, hX3⟩ : ∃ X, X = w9.alloc (.cells #[.int .u8 13, .int .u8 3] 5) := ⟨_, rfl⟩
  have S0 : Sl X3 X3.heap.size (some ⟨w.heap.size, 0, none⟩) 9 (bl exL) := by rw [hX3]; exact S0.to ((Below.refl _ _).new _)
  have S2 : Sl X3 X3.heap.size A2 2 (ws [1, 258]) := by rw [hX3]; exact S2.to ((Below.refl _ _).new _)
  have B1 : Below w.heap.size w X3 := by rw [hX3]; exact B1.new _
  have NX3 : Sl X3 X3.heap.size (some ⟨w9.heap.size, 0, none⟩) 2 (bs [13, 3]) := by rw [hX3]; exact new_then _ (bs [13, 3]) _ _ rfl
  rw [← hX3]
  clear hX3
  refine (bits_any _ 2 2 [13, 3] 9 _ NX3 (bytes_of (by decide)) (by decide) (by decide) (by decide)).mono ?_
  rw [ex4]
  rintro e w10 ⟨v10, rfl, H10⟩
  have S2 := S2.to H10.bel
  have S0 := S0.to H10.bel
  have B1 := B1.call H10.bel
  obtain ⟨A10, c10, rfl, -, -, -⟩ := H10.slice
  clear H10 NX3
  dsimp only [List.length]
  go_wp2_with fail
  obtain ⟨X4, hX4⟩ : ∃ X, X = w10.alloc (.cells #[.int .u16 1, .int .u16 258] 36) := ⟨_, rfl⟩
  have S0 : Sl X4 X4.heap.size (some ⟨w.heap.size, 0, none⟩) 9 (bl exL) := by rw [hX4]; exact S0.to ((Below.refl _ _).new _)
  have S2 : Sl X4 X4.heap.size A2 2 (ws [1, 258]) := by rw [hX4]; exact S2.to ((Below.refl _ _).new _)
  have B1 : Below w.heap.size w X4 := by rw [hX4]; exact B1.new _
  have NX4 : Sl X4 X4.heap.size (some ⟨w10.heap.size, 0, none⟩) 2 (ws [1, 258]) := by rw [hX4]; exact new_then _ (ws [1, 258]) _ _ rfl
  rw [← hX4]
  clear hX4
  refine (packRegs_any _ 2 2 [1, 258] _ NX4 (by decide) (by decide)).mono ?_
  rw [ex5]
  rintro e w11 ⟨v11, rfl, H11⟩
  have S2 := S2.to H11.bel
  have S0 := S0.to H11.bel
  have B1 := B1.call H11.bel
  obtain ⟨A11, c11, rfl, -, S11, -⟩ := H11.slice
  have S11 : Sl w11 w11.heap.size A11 4 (bs [0, 1, 1, 2]) := S11
  clear H11 NX4
  dsimp only
  go_wp2_with fail
  have S11 := S11.to ((Below.refl _ _).new (.cells #[.int .u8 0, .int .u8 1, .int .u8 1, .int .u8 2] 5))
  obtain ⟨X5, hX5⟩ : ∃ X, X = w11.alloc (.cells #[.int .u8 0, .int .u8 1, .int .u8 1, .int .u8 2] 5) := ⟨_, rfl⟩
  have S0 : Sl X5 X5.heap.size (some ⟨w.heap.size, 0, none⟩) 9 (bl exL) := by rw [hX5]; exact S0.to ((Below.refl _ _).new _)
  have S2 : Sl X5 X5.heap.size A2 2 (ws [1, 258]) := by rw [hX5]; exact S2.to ((Below.refl _ _).new _)
  have B1 : Below w.heap.size w X5 := by rw [hX5]; exact B1.new _
  have NX5 : Sl X5 X5.heap.size (some ⟨w11.heap.size, 0, none⟩) 4 (bs [0, 1, 1, 2]) := by rw [hX5]; exact new_then _ (bs [0, 1, 1, 2]) _ _ rfl
  rw [← hX5] at S11 ⊢
  clear hX5
  refine (law6Same_any A11 _ 4 c11 4 4 _ [0, 1, 1, 2] [0, 1, 1, 2] _ S11 (bytes_of (by decide)) NX5 (bytes_of (by decide))).mono ?_
  rw [beq_self_eq_true]
  rintro e w12 ⟨rfl, rfl⟩
  clear S11 NX5
  go_wp2_with fail
  obtain ⟨X6, hX6⟩ : ∃ X, X = X5.alloc (.cells #[.int .u16 1, .int .u16 258] 36) := ⟨_, rfl⟩
  have S0 : Sl X6 X6.heap.size (some ⟨w.heap.size, 0, none⟩) 9 (bl exL) := by rw [hX6]; exact S0.to ((Below.refl _ _).new _)
  have S2 : Sl X6 X6.heap.size A2 2 (ws [1, 258]) := by rw [hX6]; exact S2.to ((Below.refl _ _).new _)
  have B1 : Below w.heap.size w X6 := by rw [hX6]; exact B1.new _
  have NX6 : Sl X6 X6.heap.size (some ⟨X5.heap.size, 0, none⟩) 2 (ws [1, 258]) := by rw [hX6]; exact new_then _ (ws [1, 258]) _ _ rfl
  rw [← hX6]
  clear hX6
  refine (lawRegs_any A2 _ 2 c2 2 2 [1, 258] [1, 258] _ S2 NX6 (by decide) (by decide)).mono ?_
  rw [beq_self_eq_true]
  rintro e w13 ⟨rfl, b13⟩
  have B1 := B1.call b13
  go_wp2_with fail
  refine (wide_any 1 2 (by decide) (by decide) _).mono ?_
  rintro e w14 ⟨rfl, rfl⟩
  go_wp2_with fail
  refine (signed_any 65535 (by decide) _).mono ?_
  rw [ex8]
  rintro e w15 ⟨rfl, rfl⟩
  go_wp2_with fail
  go_ret
  exact ⟨rfl, B1⟩
end Go.Proofs.Ytcckplpfgpagmaa.WdW
