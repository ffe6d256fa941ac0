/- The walks of the kinds' right. -/
import Derived.Test.YtiibopdnlmnkmaaRepB
set_option linter.unusedVariables false
set_option linter.unusedSimpArgs false
namespace Go.Proofs.Ytiibopdnlmnkmaa.AskW
open Go.RowKit Go.Proofs.Ytiibopdnlmnkmaa Go.Proofs.Ytiibopdnlmnkmaa.Ask
set_option maxRecDepth 100000 in
set_option maxHeartbeats 2000000 in
theorem right_exc (f x : Nat) (Ab : Option Addr) (nb cb : Nat) (Aw : Option Addr) (nw cw : Nat) (a m : Nat) (B : List Bool) (W : List Nat) (w : World) (hB : Sl w w.heap.size Ab nb (bl B)) (hW : Sl w w.heap.size Aw nw (ws W)) (kB : nb ≤ 1000000) (kW : nw ≤ 1000000) :
    Calls Try.prog 89 #[.agg #[], .agg #[.int .u8 f, .int .u8 x, .slice Ab nb cb, .slice Aw nw cw, .int .u16 a, .int .u16 m]] w fun e w' => e = .returned (.bool (Kd.right Kd.exc ⟨f, x, B, W, a, m⟩)) ∧ Below w.heap.size w w' := by
  have qB : B.length = nb := by simpa using hB.len
  have qW : W.length = nw := by simpa using hW.len
  have hb : Below w.heap.size w ((w.alloc (.cells #[] 110)).alloc (.cells #[.int .u8 f, .int .u8 x, .slice Ab nb cb, .slice Aw nw cw, .int .u16 a, .int .u16 m] 36)) := ((Below.refl _ _).new _).new _
  have KS := Lib.hid (fun X (b : Below w.heap.size w X) => repSame_any f x Ab nb cb Aw nw cw a m f x none 0 0 none 0 0 0 0 B [] W [] X (hW.to b) (hB.to b) (Sl.empty _ _ _) (Sl.empty _ _ _) kW kB (by omega) (by omega))
  obtain ⟨R, hR⟩ : ∃ R, R = Kd.right Kd.exc ⟨f, x, B, W, a, m⟩ := ⟨_, rfl⟩
  rw [← hR]
  by_cases g0 : f < 128
  case neg =>
    have HR := Lib.hid (show R = false from by rw [hR]; simp [Kd.right, qB, qW] <;> omega)
    have u0 : ¬ (f : Int) < 128 := by omega
    have v0 : decide ((f : Int) < 128) = false := decide_eq_false u0
    clear hB hW qB qW kB kW hR g0
    go_enter Try.func89, Try.ntmps89
    go_wp2_with fail
    go_ret
    exact ⟨ret_bool HR.out.symm, hb⟩
  have u0 : (f : Int) < 128 := by omega
  have v0 : decide ((f : Int) < 128) = true := decide_eq_true u0
  by_cases g1 : 1 ≤ x
  case neg =>
    have HR := Lib.hid (show R = false from by rw [hR]; simp [Kd.right, qB, qW] <;> omega)
    have u1 : ¬ (1 : Int) ≤ (x : Int) := by omega
    have v1 : decide ((1 : Int) ≤ (x : Int)) = false := decide_eq_false u1
    clear hB hW qB qW kB kW hR g0 g1
    go_enter Try.func89, Try.ntmps89
    go_wp2_with fail
    go_ret
    exact ⟨ret_bool HR.out.symm, hb⟩
  have u1 : (1 : Int) ≤ (x : Int) := by omega
  by_cases g2 : x ≤ 4
  case neg =>
    have HR := Lib.hid (show R = false from by rw [hR]; simp [Kd.right, qB, qW] <;> omega)
    have u2 : ¬ (x : Int) ≤ 4 := by omega
    have v2 : decide ((x : Int) ≤ 4) = false := decide_eq_false u2
    clear hB hW qB qW kB kW hR g0 g1 g2
    go_enter Try.func89, Try.ntmps89
    go_wp2_with fail
    go_ret
    exact ⟨ret_bool HR.out.symm, hb⟩
  have u2 : (x : Int) ≤ 4 := by omega
  have v2 : decide ((x : Int) ≤ 4) = true := decide_eq_true u2
  have HR0 : R = (f == f && x == x && a == 0 && m == 0 && B == [] && W == []) := by
    rw [hR, Bool.eq_iff_iff]
    simp [Kd.right, qB, qW, g0, g1, g2, and_assoc]
    try omega
  obtain ⟨Q, hQ⟩ : ∃ Q, Q = (f == f && x == x && a == 0 && m == 0 && B == [] && W == []) := ⟨_, rfl⟩
  rw [← hQ] at HR0 KS
  have HR := Lib.hid HR0
  clear HR0 hQ
  clear hB hW qB qW kB kW hR g0 g1 g2
  go_enter Try.func89, Try.ntmps89
  go_wp2_with fail
  refine (KS.out _ hb).mono ?_
  rintro e w1 ⟨rfl, b1⟩
  go_wp2_with fail
  go_ret
  exact ⟨ret_bool HR.out.symm, hb.call b1⟩
set_option maxRecDepth 100000 in
set_option maxHeartbeats 2000000 in
theorem right_bitsR (f x : Nat) (Ab : Option Addr) (nb cb : Nat) (Aw : Option Addr) (nw cw : Nat) (a m : Nat) (B : List Bool) (W : List Nat) (w : World) (hB : Sl w w.heap.size Ab nb (bl B)) (hW : Sl w w.heap.size Aw nw (ws W)) (kB : nb ≤ 1000000) (kW : nw ≤ 1000000) :
    Calls Try.prog 92 #[.agg #[], .agg #[.int .u8 f, .int .u8 x, .slice Ab nb cb, .slice Aw nw cw, .int .u16 a, .int .u16 m]] w fun e w' => e = .returned (.bool (Kd.right Kd.bitsR ⟨f, x, B, W, a, m⟩)) ∧ Below w.heap.size w w' := by
  have qB : B.length = nb := by simpa using hB.len
  have qW : W.length = nw := by simpa using hW.len
  have hb : Below w.heap.size w ((w.alloc (.cells #[] 111)).alloc (.cells #[.int .u8 f, .int .u8 x, .slice Ab nb cb, .slice Aw nw cw, .int .u16 a, .int .u16 m] 36)) := ((Below.refl _ _).new _).new _
  have KS := Lib.hid (fun X (b : Below w.heap.size w X) => repSame_any f x Ab nb cb Aw nw cw a m f 0 Ab nb cb none 0 0 0 0 B B W [] X (hW.to b) (hB.to b) (Sl.empty _ _ _) (hB.to b) kW kB (by omega) kB)
  have hq : Int.tmod (nb : Int) 8 = ((nb % 8 : Nat) : Int) := by rw [Int.tmod_eq_emod_of_nonneg (by omega)]; omega
  have hq64 := w64 (show nb % 8 ≤ 9223372036854775807 by omega)
  obtain ⟨q, eq⟩ : ∃ q, q = nb % 8 := ⟨_, rfl⟩
  rw [← eq] at hq hq64
  obtain ⟨R, hR⟩ : ∃ R, R = Kd.right Kd.bitsR ⟨f, x, B, W, a, m⟩ := ⟨_, rfl⟩
  rw [← hR]
  by_cases g0 : 8 ≤ nb
  case neg =>
    have HR := Lib.hid (show R = false from by rw [hR]; simp [Kd.right, qB, qW] <;> omega)
    have u0 : ¬ (8 : Int) ≤ (nb : Int) := by omega
    have v0 : decide ((8 : Int) ≤ (nb : Int)) = false := decide_eq_false u0
    clear hB hW qB qW kB kW hR eq g0
    go_enter Try.func92, Try.ntmps92
    go_wp2_with fail
    go_ret
    exact ⟨ret_bool HR.out.symm, hb⟩
  have u0 : (8 : Int) ≤ (nb : Int) := by omega
  by_cases g1 : nb ≤ 2000
  case neg =>
    have HR := Lib.hid (show R = false from by rw [hR]; simp [Kd.right, qB, qW] <;> omega)
    have u1 : ¬ (nb : Int) ≤ 2000 := by omega
    have v1 : decide ((nb : Int) ≤ 2000) = false := decide_eq_false u1
    clear hB hW qB qW kB kW hR eq g0 g1
    go_enter Try.func92, Try.ntmps92
    go_wp2_with fail
    go_ret
    exact ⟨ret_bool HR.out.symm, hb⟩
  have u1 : (nb : Int) ≤ 2000 := by omega
  have v1 : decide ((nb : Int) ≤ 2000) = true := decide_eq_true u1
  by_cases g2 : q = 0
  case neg =>
    have HR := Lib.hid (show R = false from by rw [hR]; simp [Kd.right, qB, qW] <;> omega)
    have u2 : ((q : Int) == 0) = false := by rw [beq_eq_false_iff_ne]; omega
    clear hB hW qB qW kB kW hR eq g0 g1 g2
    go_enter Try.func92, Try.ntmps92
    go_wp2_with fail
    go_ret
    exact ⟨ret_bool HR.out.symm, hb⟩
  have u2 : ((q : Int) == 0) = true := by rw [beq_iff_eq]; omega
  have HR0 : R = (f == f && x == 0 && a == 0 && m == 0 && B == B && W == []) := by
    rw [hR, Bool.eq_iff_iff]
    have e8 : nb % 8 = 0 := by omega
    simp [Kd.right, qB, qW, g0, g1, g2, e8, and_assoc]
    try omega
  obtain ⟨Q, hQ⟩ : ∃ Q, Q = (f == f && x == 0 && a == 0 && m == 0 && B == B && W == []) := ⟨_, rfl⟩
  rw [← hQ] at HR0 KS
  have HR := Lib.hid HR0
  clear HR0 hQ
  clear hB hW qB qW kB kW hR eq g0 g1 g2
  go_enter Try.func92, Try.ntmps92
  go_wp2_with fail
  refine (KS.out _ hb).mono ?_
  rintro e w1 ⟨rfl, b1⟩
  go_wp2_with fail
  go_ret
  exact ⟨ret_bool HR.out.symm, hb.call b1⟩
set_option maxRecDepth 100000 in
set_option maxHeartbeats 2000000 in
theorem right_wordsR (f x : Nat) (Ab : Option Addr) (nb cb : Nat) (Aw : Option Addr) (nw cw : Nat) (a m : Nat) (B : List Bool) (W : List Nat) (w : World) (hB : Sl w w.heap.size Ab nb (bl B)) (hW : Sl w w.heap.size Aw nw (ws W)) (kB : nb ≤ 1000000) (kW : nw ≤ 1000000) :
    Calls Try.prog 97 #[.agg #[], .agg #[.int .u8 f, .int .u8 x, .slice Ab nb cb, .slice Aw nw cw, .int .u16 a, .int .u16 m]] w fun e w' => e = .returned (.bool (Kd.right Kd.wordsR ⟨f, x, B, W, a, m⟩)) ∧ Below w.heap.size w w' := by
  have qB : B.length = nb := by simpa using hB.len
  have qW : W.length = nw := by simpa using hW.len
  have hb : Below w.heap.size w ((w.alloc (.cells #[] 112)).alloc (.cells #[.int .u8 f, .int .u8 x, .slice Ab nb cb, .slice Aw nw cw, .int .u16 a, .int .u16 m] 36)) := ((Below.refl _ _).new _).new _
  have KS := Lib.hid (fun X (b : Below w.heap.size w X) => repSame_any f x Ab nb cb Aw nw cw a m f 0 none 0 0 Aw nw cw 0 0 B [] W W X (hW.to b) (hB.to b) (hW.to b) (Sl.empty _ _ _) kW kB kW (by omega))
  obtain ⟨R, hR⟩ : ∃ R, R = Kd.right Kd.wordsR ⟨f, x, B, W, a, m⟩ := ⟨_, rfl⟩
  rw [← hR]
  by_cases g0 : 1 ≤ nw
  case neg =>
    have HR := Lib.hid (show R = false from by rw [hR]; simp [Kd.right, qB, qW] <;> omega)
    have u0 : ¬ (1 : Int) ≤ (nw : Int) := by omega
    have v0 : decide ((1 : Int) ≤ (nw : Int)) = false := decide_eq_false u0
    clear hB hW qB qW kB kW hR g0
    go_enter Try.func97, Try.ntmps97
    go_wp2_with fail
    go_ret
    exact ⟨ret_bool HR.out.symm, hb⟩
  have u0 : (1 : Int) ≤ (nw : Int) := by omega
  by_cases g1 : nw ≤ 125
  case neg =>
    have HR := Lib.hid (show R = false from by rw [hR]; simp [Kd.right, qB, qW] <;> omega)
    have u1 : ¬ (nw : Int) ≤ 125 := by omega
    have v1 : decide ((nw : Int) ≤ 125) = false := decide_eq_false u1
    clear hB hW qB qW kB kW hR g0 g1
    go_enter Try.func97, Try.ntmps97
    go_wp2_with fail
    go_ret
    exact ⟨ret_bool HR.out.symm, hb⟩
  have u1 : (nw : Int) ≤ 125 := by omega
  have v1 : decide ((nw : Int) ≤ 125) = true := decide_eq_true u1
  have HR0 : R = (f == f && x == 0 && a == 0 && m == 0 && B == [] && W == W) := by
    rw [hR, Bool.eq_iff_iff]
    simp [Kd.right, qB, qW, g0, g1, and_assoc]
    try omega
  obtain ⟨Q, hQ⟩ : ∃ Q, Q = (f == f && x == 0 && a == 0 && m == 0 && B == [] && W == W) := ⟨_, rfl⟩
  rw [← hQ] at HR0 KS
  have HR := Lib.hid HR0
  clear HR0 hQ
  clear hB hW qB qW kB kW hR g0 g1
  go_enter Try.func97, Try.ntmps97
  go_wp2_with fail
  refine (KS.out _ hb).mono ?_
  rintro e w1 ⟨rfl, b1⟩
  go_wp2_with fail
  go_ret
  exact ⟨ret_bool HR.out.symm, hb.call b1⟩
set_option maxRecDepth 100000 in
set_option maxHeartbeats 2000000 in
theorem right_bitW (f x : Nat) (Ab : Option Addr) (nb cb : Nat) (Aw : Option Addr) (nw cw : Nat) (a m : Nat) (B : List Bool) (W : List Nat) (w : World) (hB : Sl w w.heap.size Ab nb (bl B)) (hW : Sl w w.heap.size Aw nw (ws W)) (kB : nb ≤ 1000000) (kW : nw ≤ 1000000) :
    Calls Try.prog 102 #[.agg #[], .agg #[.int .u8 f, .int .u8 x, .slice Ab nb cb, .slice Aw nw cw, .int .u16 a, .int .u16 m]] w fun e w' => e = .returned (.bool (Kd.right Kd.bitW ⟨f, x, B, W, a, m⟩)) ∧ Below w.heap.size w w' := by
  have qB : B.length = nb := by simpa using hB.len
  have qW : W.length = nw := by simpa using hW.len
  have hb : Below w.heap.size w ((w.alloc (.cells #[] 113)).alloc (.cells #[.int .u8 f, .int .u8 x, .slice Ab nb cb, .slice Aw nw cw, .int .u16 a, .int .u16 m] 36)) := ((Below.refl _ _).new _).new _
  have KS := Lib.hid (fun X (b : Below w.heap.size w X) => repSame_any f x Ab nb cb Aw nw cw a m f 0 Ab nb cb none 0 0 a 0 B B W [] X (hW.to b) (hB.to b) (Sl.empty _ _ _) (hB.to b) kW kB (by omega) kB)
  obtain ⟨R, hR⟩ : ∃ R, R = Kd.right Kd.bitW ⟨f, x, B, W, a, m⟩ := ⟨_, rfl⟩
  rw [← hR]
  by_cases g0 : nb = 1
  case neg =>
    have HR := Lib.hid (show R = false from by rw [hR]; simp [Kd.right, qB, qW] <;> omega)
    have u0 : ((nb : Int) == 1) = false := by rw [beq_eq_false_iff_ne]; omega
    clear hB hW qB qW kB kW hR g0
    go_enter Try.func102, Try.ntmps102
    go_wp2_with fail
    go_ret
    exact ⟨ret_bool HR.out.symm, hb⟩
  have u0 : ((nb : Int) == 1) = true := by rw [beq_iff_eq]; omega
  have HR0 : R = (f == f && x == 0 && a == a && m == 0 && B == B && W == []) := by
    rw [hR, Bool.eq_iff_iff]
    simp [Kd.right, qB, qW, g0, and_assoc]
    try omega
  obtain ⟨Q, hQ⟩ : ∃ Q, Q = (f == f && x == 0 && a == a && m == 0 && B == B && W == []) := ⟨_, rfl⟩
  rw [← hQ] at HR0 KS
  have HR := Lib.hid HR0
  clear HR0 hQ
  clear hB hW qB qW kB kW hR g0
  go_enter Try.func102, Try.ntmps102
  go_wp2_with fail
  refine (KS.out _ hb).mono ?_
  rintro e w1 ⟨rfl, b1⟩
  go_wp2_with fail
  go_ret
  exact ⟨ret_bool HR.out.symm, hb.call b1⟩
set_option maxRecDepth 100000 in
set_option maxHeartbeats 2000000 in
theorem right_wordW (f x : Nat) (Ab : Option Addr) (nb cb : Nat) (Aw : Option Addr) (nw cw : Nat) (a m : Nat) (B : List Bool) (W : List Nat) (w : World) (hB : Sl w w.heap.size Ab nb (bl B)) (hW : Sl w w.heap.size Aw nw (ws W)) (kB : nb ≤ 1000000) (kW : nw ≤ 1000000) :
    Calls Try.prog 105 #[.agg #[], .agg #[.int .u8 f, .int .u8 x, .slice Ab nb cb, .slice Aw nw cw, .int .u16 a, .int .u16 m]] w fun e w' => e = .returned (.bool (Kd.right Kd.wordW ⟨f, x, B, W, a, m⟩)) ∧ Below w.heap.size w w' := by
  have qB : B.length = nb := by simpa using hB.len
  have qW : W.length = nw := by simpa using hW.len
  have hb : Below w.heap.size w ((w.alloc (.cells #[] 114)).alloc (.cells #[.int .u8 f, .int .u8 x, .slice Ab nb cb, .slice Aw nw cw, .int .u16 a, .int .u16 m] 36)) := ((Below.refl _ _).new _).new _
  have KS := Lib.hid (fun X (b : Below w.heap.size w X) => repSame_any f x Ab nb cb Aw nw cw a m f 0 none 0 0 Aw nw cw a 0 B [] W W X (hW.to b) (hB.to b) (hW.to b) (Sl.empty _ _ _) kW kB kW (by omega))
  obtain ⟨R, hR⟩ : ∃ R, R = Kd.right Kd.wordW ⟨f, x, B, W, a, m⟩ := ⟨_, rfl⟩
  rw [← hR]
  by_cases g0 : nw = 1
  case neg =>
    have HR := Lib.hid (show R = false from by rw [hR]; simp [Kd.right, qB, qW] <;> omega)
    have u0 : ((nw : Int) == 1) = false := by rw [beq_eq_false_iff_ne]; omega
    clear hB hW qB qW kB kW hR g0
    go_enter Try.func105, Try.ntmps105
    go_wp2_with fail
    go_ret
    exact ⟨ret_bool HR.out.symm, hb⟩
  have u0 : ((nw : Int) == 1) = true := by rw [beq_iff_eq]; omega
  have HR0 : R = (f == f && x == 0 && a == a && m == 0 && B == [] && W == W) := by
    rw [hR, Bool.eq_iff_iff]
    simp [Kd.right, qB, qW, g0, and_assoc]
    try omega
  obtain ⟨Q, hQ⟩ : ∃ Q, Q = (f == f && x == 0 && a == a && m == 0 && B == [] && W == W) := ⟨_, rfl⟩
  rw [← hQ] at HR0 KS
  have HR := Lib.hid HR0
  clear HR0 hQ
  clear hB hW qB qW kB kW hR g0
  go_enter Try.func105, Try.ntmps105
  go_wp2_with fail
  refine (KS.out _ hb).mono ?_
  rintro e w1 ⟨rfl, b1⟩
  go_wp2_with fail
  go_ret
  exact ⟨ret_bool HR.out.symm, hb.call b1⟩
set_option maxRecDepth 100000 in
set_option maxHeartbeats 2000000 in
theorem right_manyW (mo : Nat) (f x : Nat) (Ab : Option Addr) (nb cb : Nat) (Aw : Option Addr) (nw cw : Nat) (a m : Nat) (B : List Bool) (W : List Nat) (w : World) (hB : Sl w w.heap.size Ab nb (bl B)) (hW : Sl w w.heap.size Aw nw (ws W)) (kB : nb ≤ 1000000) (kW : nw ≤ 1000000) :
    Calls Try.prog 108 #[.agg #[.int .u16 (mo : Nat)], .agg #[.int .u8 f, .int .u8 x, .slice Ab nb cb, .slice Aw nw cw, .int .u16 a, .int .u16 m]] w fun e w' => e = .returned (.bool (Kd.right (Kd.manyW mo) ⟨f, x, B, W, a, m⟩)) ∧ Below w.heap.size w w' := by
  have qB : B.length = nb := by simpa using hB.len
  have qW : W.length = nw := by simpa using hW.len
  have hb : Below w.heap.size w ((w.alloc (.cells #[.int .u16 (mo : Nat)] 116)).alloc (.cells #[.int .u8 f, .int .u8 x, .slice Ab nb cb, .slice Aw nw cw, .int .u16 a, .int .u16 m] 36)) := ((Below.refl _ _).new _).new _
  have KS := Lib.hid (fun X (b : Below w.heap.size w X) => repSame_any f x Ab nb cb Aw nw cw a m f 0 none 0 0 none 0 0 a m B [] W [] X (hW.to b) (hB.to b) (Sl.empty _ _ _) (Sl.empty _ _ _) kW kB (by omega) (by omega))
  obtain ⟨R, hR⟩ : ∃ R, R = Kd.right (Kd.manyW mo) ⟨f, x, B, W, a, m⟩ := ⟨_, rfl⟩
  rw [← hR]
  by_cases g0 : 1 ≤ m
  case neg =>
    have HR := Lib.hid (show R = false from by rw [hR]; simp [Kd.right, qB, qW] <;> omega)
    have u0 : ¬ (1 : Int) ≤ (m : Int) := by omega
    have v0 : decide ((1 : Int) ≤ (m : Int)) = false := decide_eq_false u0
    clear hB hW qB qW kB kW hR g0
    go_enter Try.func108, Try.ntmps108
    go_wp2_with fail
    go_ret
    exact ⟨ret_bool HR.out.symm, hb⟩
  have u0 : (1 : Int) ≤ (m : Int) := by omega
  by_cases g1 : m ≤ (mo : Int)
  case neg =>
    have HR := Lib.hid (show R = false from by rw [hR]; simp [Kd.right, qB, qW] <;> omega)
    have u1 : ¬ (m : Int) ≤ (mo : Int) := by omega
    have v1 : decide ((m : Int) ≤ (mo : Int)) = false := decide_eq_false u1
    clear hB hW qB qW kB kW hR g0 g1
    go_enter Try.func108, Try.ntmps108
    go_wp2_with fail
    go_ret
    exact ⟨ret_bool HR.out.symm, hb⟩
  have u1 : (m : Int) ≤ (mo : Int) := by omega
  have v1 : decide ((m : Int) ≤ (mo : Int)) = true := decide_eq_true u1
  have HR0 : R = (f == f && x == 0 && a == a && m == m && B == [] && W == []) := by
    rw [hR, Bool.eq_iff_iff]
    simp [Kd.right, qB, qW, g0, g1, and_assoc]
    try omega
  obtain ⟨Q, hQ⟩ : ∃ Q, Q = (f == f && x == 0 && a == a && m == m && B == [] && W == []) := ⟨_, rfl⟩
  rw [← hQ] at HR0 KS
  have HR := Lib.hid HR0
  clear HR0 hQ
  clear hB hW qB qW kB kW hR g0 g1
  go_enter Try.func108, Try.ntmps108
  go_wp2_with fail
  refine (KS.out _ hb).mono ?_
  rintro e w1 ⟨rfl, b1⟩
  go_wp2_with fail
  go_ret
  exact ⟨ret_bool HR.out.symm, hb.call b1⟩
end Go.Proofs.Ytiibopdnlmnkmaa.AskW
