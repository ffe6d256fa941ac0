/- The walk of MbapTells. -/
import Derived.Test.YtofigldbkndjlaaMbK
set_option linter.unusedVariables false
set_option linter.unusedSimpArgs false
namespace Go.Proofs.Ytofigldbkndjlaa.MbW
open Go.RowKit Go.Proofs.Ytofigldbkndjlaa Go.Proofs.Ytofigldbkndjlaa.Mb
set_option maxRecDepth 10000 in
set_option maxHeartbeats 16000000 in
theorem mbapTells_any (tx u : Nat) (C : Option Addr) (k c : Nat) (P : List Nat) (A : Option Addr) (n cb : Nat) (xs : List Nat) (w : World)
    (hx : Sl w w.heap.size C k (bs P)) (ho : Fm.Ok ⟨tx, u, P⟩) (hs : Sl w w.heap.size A n (bs xs)) (hb : Bytes xs) (hcb : n ≤ cb) :
    Calls Try.prog 3 #[.agg #[.int .u16 (tx : Nat), .int .u8 (u : Nat), .slice C k c], .slice A n cb] w fun e w' => e = .returned (.bool true) ∧ Below w.heap.size w w' := by
  by_cases g1 : (300 : Int) < (k : Int)
  · clear hx ho hs hb hcb
    go_enter Try.func3, Try.ntmps3
    go_wp2_with (go_at_call 7; refine (awake5_any _).mono ?_; rintro e wa ⟨rfl, ba⟩)
    go_ret
    exact ⟨rfl, ((Below.refl _ _).new _).call ba⟩
  by_cases g2 : (2000 : Int) < (n : Int)
  · clear hx ho hs hb hcb
    go_enter Try.func3, Try.ntmps3
    go_wp2_with (go_at_call 7; refine (awake5_any _).mono ?_; rintro e wa ⟨rfl, ba⟩)
    go_ret
    exact ⟨rfl, ((Below.refl _ _).new _).call ba⟩
  have qk : P.length = k := by simpa using hx.len
  have qn : xs.length = n := by simpa using hs.len
  have KP := Lib.hid (fun Y (b : Below w.heap.size w Y) => parse_any A n cb xs Y (hs.to b) hb hcb (by omega))
  have KQ := Lib.hid (fun Y (b : Below w.heap.size w Y) => refParse_any A n cb xs Y (hs.to b) hb hcb (by omega))
  have KC := Lib.hid (fun Y (b : Below w.heap.size w Y) => cut_any A n cb xs Y (hs.to b) hb hcb (by omega))
  have KD := Lib.hid (fun Y (b : Below w.heap.size w Y) => refCut_any A n cb xs Y (hs.to b) hb hcb (by omega))
  have KX0 := fun Y (b : Below w.heap.size w Y) => pack_any ⟨tx, u, P⟩ C k c Y (hx.to b) ho (by omega)
  have KR := Lib.hid (fun Y => refRight_any tx u C k c Y)
  have KK := Lib.hid (fun Y (b : Below w.heap.size w Y) => refPack_any tx u P C k c Y (hx.to b) ho.tx ho.unit ho.pdu (by omega))
  have rx := heap_alloc_new w (.cells #[.int .u16 (tx : Nat), .int .u8 (u : Nat), .slice C k c] 25)
  have B1 := (Below.refl w.heap.size w).new (.cells #[.int .u16 (tx : Nat), .int .u8 (u : Nat), .slice C k c] 25)
  have HPL := Lib.hid (show (pack ⟨tx, u, P⟩).length = 7 + k from by rw [pack_len]; show 7 + P.length = _; rw [qk])
  have HPB := Lib.hid (pack_bytes (x := ⟨tx, u, P⟩) ho (by show P.length ≤ 300; omega))
  have hpk := packE_cases ⟨tx, u, P⟩
  have HYO := Lib.hid (parse_ok hb)
  have HLO := Lib.hid (frames_ok hb)
  have HLL := Lib.hid (show (frames xs).length ≤ 2000 from by have h := pieces_len xs; unfold frames; rw [List.length_map]; omega)
  have HCU := Lib.hid (show cut xs = (frames xs, used xs, cutE xs) from rfl)
  obtain ⟨L, hL⟩ : ∃ L, L = frames xs := ⟨_, rfl⟩
  obtain ⟨U, hU⟩ : ∃ U, U = used xs := ⟨_, rfl⟩
  obtain ⟨E, hE⟩ : ∃ E, E = cutE xs := ⟨_, rfl⟩
  rw [HCU.out, ← hL, ← hU, ← hE] at KC KD
  rw [← hL] at HLO HLL
  obtain ⟨Yp, hYp⟩ : ∃ Y, Y = parse xs := ⟨_, rfl⟩
  rw [← hYp] at KP KQ HYO
  obtain ⟨⟨ty, uy, py⟩, ey⟩ := Yp
  obtain ⟨K, hK⟩ : ∃ K, K = packE ⟨tx, u, P⟩ := ⟨_, rfl⟩
  obtain ⟨Z, hZ⟩ : ∃ Z, Z = pack ⟨tx, u, P⟩ := ⟨_, rfl⟩
  rw [← hK] at KX0 hpk
  rw [← hZ] at hpk HPL HPB KK
  have KX := Lib.hid KX0
  have HQK := Lib.hid qk
  have TE : (ey == ey) = true := by rw [beq_iff_eq]
  have TU : ((U : Int) == (U : Int)) = true := by rw [beq_iff_eq]
  have TF : (E == E) = true := by rw [beq_iff_eq]
  clear KX0 hx ho hs hb hcb hK hZ qk qn hL hU hE hYp HCU
  go_enter Try.func3, Try.ntmps3
  go_wp2_with fail
  refine (KX.out _ B1).mono ?_
  rintro e w2 ⟨v2, rfl, H2⟩
  have ra := H2.bel.row (row_lt rx) rx
  have hb := B1.call H2.bel
  obtain ⟨d0, d1, d2⟩ := row3 ra
  rcases hpk with ⟨hk, k1, k2, -⟩ | ⟨hk, k1⟩
  · subst hk
    have k1 : 1 ≤ P.length := k1
    have k2 : P.length ≤ 253 := k2
    rw [HQK.out] at k1 k2
    rw [decide_eq_true (⟨k1, k2⟩ : 1 ≤ k ∧ k ≤ 253)] at KR
    obtain ⟨A2, c2, rfl, -, S2, -⟩ := H2.slice
    dsimp only at S2 ⊢
    rw [HPL.out] at S2 ⊢
    clear H2 k1 k2
    go_wp2_with fail
    refine (KR.out _).mono ?_
    rintro e w3 ⟨rfl, b3⟩
    have ra := b3.row (row_lt ra) ra
    have hb := hb.call b3
    have S2 := S2.to b3
    obtain ⟨d0, d1, d2⟩ := row3 ra
    clear b3
    go_wp2_with fail
    refine (KK.out _ hb).mono ?_
    rintro e w4 ⟨v4, rfl, H4⟩
    obtain ⟨A4, c4, rfl, -, S4, -⟩ := H4.slice
    have hb := hb.call H4.bel
    have S2 := S2.to H4.bel
    clear H4
    go_wp2_with fail
    refine (law6Same_any A2 A4 (7 + k) c2 (7 + k) c4 _ Z Z _ S2 HPB.out S4 HPB.out).mono ?_
    rintro e w4' ⟨rfl, rfl⟩
    rw [beq_self_eq_true]
    clear S2 S4
    go_wp2_with fail
    refine (KP.out _ hb).mono ?_
    rintro e w5 ⟨Cy, ky, cy, rfl, SY, -, b5⟩
    have hb := (hb.call b5).new (.cells #[.int .u16 (ty : Nat), .int .u8 (uy : Nat), .slice Cy ky cy] 25)
    have ry := heap_alloc_new w5 (.cells #[.int .u16 (ty : Nat), .int .u8 (uy : Nat), .slice Cy ky cy] 25)
    have SY := SY.to ((Below.refl _ _).new (.cells #[.int .u16 (ty : Nat), .int .u8 (uy : Nat), .slice Cy ky cy] 25))
    clear b5
    dsimp only at SY ⊢
    go_wp2_with fail
    refine (KQ.out _ hb).mono ?_
    rintro e w6 ⟨Cz, kz, cz, rfl, SZ, -, b6⟩
    have ry := b6.row (row_lt ry) ry
    have SY := SY.to b6
    have b6n := (Below.refl w6.heap.size w6).new (.cells #[.int .u16 (ty : Nat), .int .u8 (uy : Nat), .slice Cz kz cz] 25)
    have hb := (hb.call b6).new (.cells #[.int .u16 (ty : Nat), .int .u8 (uy : Nat), .slice Cz kz cz] 25)
    have rz := heap_alloc_new w6 (.cells #[.int .u16 (ty : Nat), .int .u8 (uy : Nat), .slice Cz kz cz] 25)
    have ry := b6n.row (row_lt ry) ry
    have SY := SY.to b6n
    have SZ := SZ.to b6n
    clear b6 b6n
    dsimp only at SZ ⊢
    go_wp2_with fail
    refine (KC.out _ hb).mono ?_
    rintro e w7 ⟨v7, rfl, H7⟩
    obtain ⟨A7, c7, rfl, -, F7⟩ := H7.slice
    have b7 := H7.bel
    have ry := b7.row (row_lt ry) ry
    have rz := b7.row (row_lt rz) rz
    have SY := SY.to b7
    have SZ := SZ.to b7
    have hb := hb.call b7
    clear b7 H7
    dsimp only at F7 ⊢
    go_wp2_with fail
    refine (KD.out _ hb).mono ?_
    rintro e w8 ⟨v8, rfl, H8⟩
    obtain ⟨A8, c8, rfl, -, F8⟩ := H8.slice
    have b8 := H8.bel
    have ry := b8.row (row_lt ry) ry
    have rz := b8.row (row_lt rz) rz
    have SY := SY.to b8
    have SZ := SZ.to b8
    have F7 := F7.to b8
    have hb := hb.call b8
    clear b8 H8
    dsimp only at F8 ⊢
    have rz2 := row_alloc rz (.cells #[.int .u16 (ty : Nat), .int .u8 (uy : Nat), .slice Cy ky cy] 25)
    obtain ⟨d0, d1, d2⟩ := row3 ry
    obtain ⟨e0, e1, e2⟩ := row3 rz2
    have F1 := (Fr.newAt (P := fun _ => True) w8 ⟨ty, uy, py⟩ Cy ky cy 25 w8.heap.size rfl SY (fun _ _ _ _ => trivial)).to ((Below.refl _ _).new (.cells #[.int .u16 (ty : Nat), .int .u8 (uy : Nat), .slice Cz kz cz] 25))
    have F2 := Fr.newAt (P := fun _ => True) (w8.alloc (.cells #[.int .u16 (ty : Nat), .int .u8 (uy : Nat), .slice Cy ky cy] 25)) ⟨ty, uy, py⟩ Cz kz cz 25 (w8.heap.size + 1) (World.size_alloc _ _).symm (SZ.to ((Below.refl _ _).new _)) (fun _ _ _ _ => trivial)
    have b9n := ((Below.refl w8.heap.size w8).new (.cells #[.int .u16 (ty : Nat), .int .u8 (uy : Nat), .slice Cy ky cy] 25)).new (.cells #[.int .u16 (ty : Nat), .int .u8 (uy : Nat), .slice Cz kz cz] 25)
    have hOk : Oks [⟨ty, uy, py⟩] := fun y hy => by
      have : y = ⟨ty, uy, py⟩ := by simpa using hy
      rw [this]; exact HYO.out
    clear SY SZ ry rz rz2
    go_wp2_with fail
    refine (same_any _ _ 1 1 1 1 [⟨ty, uy, py⟩] [⟨ty, uy, py⟩] _ _ _ F1 F2 hOk hOk (by decide)).mono ?_
    rw [decide_eq_true rfl]
    rintro e w9 ⟨rfl, b9⟩
    have b9 := b9n.call b9
    have F7 := F7.to b9
    have F8 := F8.to b9
    have hb := hb.call b9
    clear F1 F2 b9 b9n d0 d1 d2 e0 e1 e2
    go_wp2_with fail
    refine (same_any A7 A8 L.length c7 L.length c8 L L _ _ _ F7 F8 HLO.out HLO.out (by have := HLL.out; omega)).mono ?_
    rw [decide_eq_true rfl]
    rintro e w10 ⟨rfl, b10⟩
    have hb := hb.call b10
    clear F7 F8 b10
    go_wp2_with (go_at_call 7; refine (awake5_any _).mono ?_; rintro e wa ⟨rfl, ba⟩)
    go_ret
    exact ⟨rfl, hb.call ba⟩
  · subst hk
    have k1 : P.length < 1 ∨ 253 < P.length := k1
    rw [HQK.out] at k1
    rw [decide_eq_false (show ¬ (1 ≤ k ∧ k ≤ 253) from by omega)] at KR
    obtain ⟨A2, c2, rfl, -, S2, -⟩ := H2.slice
    dsimp only at S2 ⊢
    clear H2 k1
    go_wp2_with fail
    refine (KR.out _).mono ?_
    rintro e w3 ⟨rfl, b3⟩
    have hb := hb.call b3
    clear b3
    go_wp2_with fail
    refine (KP.out _ hb).mono ?_
    rintro e w5 ⟨Cy, ky, cy, rfl, SY, -, b5⟩
    have hb := (hb.call b5).new (.cells #[.int .u16 (ty : Nat), .int .u8 (uy : Nat), .slice Cy ky cy] 25)
    have ry := heap_alloc_new w5 (.cells #[.int .u16 (ty : Nat), .int .u8 (uy : Nat), .slice Cy ky cy] 25)
    have SY := SY.to ((Below.refl _ _).new (.cells #[.int .u16 (ty : Nat), .int .u8 (uy : Nat), .slice Cy ky cy] 25))
    clear b5
    dsimp only at SY ⊢
    go_wp2_with fail
    refine (KQ.out _ hb).mono ?_
    rintro e w6 ⟨Cz, kz, cz, rfl, SZ, -, b6⟩
    have ry := b6.row (row_lt ry) ry
    have SY := SY.to b6
    have b6n := (Below.refl w6.heap.size w6).new (.cells #[.int .u16 (ty : Nat), .int .u8 (uy : Nat), .slice Cz kz cz] 25)
    have hb := (hb.call b6).new (.cells #[.int .u16 (ty : Nat), .int .u8 (uy : Nat), .slice Cz kz cz] 25)
    have rz := heap_alloc_new w6 (.cells #[.int .u16 (ty : Nat), .int .u8 (uy : Nat), .slice Cz kz cz] 25)
    have ry := b6n.row (row_lt ry) ry
    have SY := SY.to b6n
    have SZ := SZ.to b6n
    clear b6 b6n
    dsimp only at SZ ⊢
    go_wp2_with fail
    refine (KC.out _ hb).mono ?_
    rintro e w7 ⟨v7, rfl, H7⟩
    obtain ⟨A7, c7, rfl, -, F7⟩ := H7.slice
    have b7 := H7.bel
    have ry := b7.row (row_lt ry) ry
    have rz := b7.row (row_lt rz) rz
    have SY := SY.to b7
    have SZ := SZ.to b7
    have hb := hb.call b7
    clear b7 H7
    dsimp only at F7 ⊢
    go_wp2_with fail
    refine (KD.out _ hb).mono ?_
    rintro e w8 ⟨v8, rfl, H8⟩
    obtain ⟨A8, c8, rfl, -, F8⟩ := H8.slice
    have b8 := H8.bel
    have ry := b8.row (row_lt ry) ry
    have rz := b8.row (row_lt rz) rz
    have SY := SY.to b8
    have SZ := SZ.to b8
    have F7 := F7.to b8
    have hb := hb.call b8
    clear b8 H8
    dsimp only at F8 ⊢
    have rz2 := row_alloc rz (.cells #[.int .u16 (ty : Nat), .int .u8 (uy : Nat), .slice Cy ky cy] 25)
    obtain ⟨d0, d1, d2⟩ := row3 ry
    obtain ⟨e0, e1, e2⟩ := row3 rz2
    have F1 := (Fr.newAt (P := fun _ => True) w8 ⟨ty, uy, py⟩ Cy ky cy 25 w8.heap.size rfl SY (fun _ _ _ _ => trivial)).to ((Below.refl _ _).new (.cells #[.int .u16 (ty : Nat), .int .u8 (uy : Nat), .slice Cz kz cz] 25))
    have F2 := Fr.newAt (P := fun _ => True) (w8.alloc (.cells #[.int .u16 (ty : Nat), .int .u8 (uy : Nat), .slice Cy ky cy] 25)) ⟨ty, uy, py⟩ Cz kz cz 25 (w8.heap.size + 1) (World.size_alloc _ _).symm (SZ.to ((Below.refl _ _).new _)) (fun _ _ _ _ => trivial)
    have b9n := ((Below.refl w8.heap.size w8).new (.cells #[.int .u16 (ty : Nat), .int .u8 (uy : Nat), .slice Cy ky cy] 25)).new (.cells #[.int .u16 (ty : Nat), .int .u8 (uy : Nat), .slice Cz kz cz] 25)
    have hOk : Oks [⟨ty, uy, py⟩] := fun y hy => by
      have : y = ⟨ty, uy, py⟩ := by simpa using hy
      rw [this]; exact HYO.out
    clear SY SZ ry rz rz2
    go_wp2_with fail
    refine (same_any _ _ 1 1 1 1 [⟨ty, uy, py⟩] [⟨ty, uy, py⟩] _ _ _ F1 F2 hOk hOk (by decide)).mono ?_
    rw [decide_eq_true rfl]
    rintro e w9 ⟨rfl, b9⟩
    have b9 := b9n.call b9
    have F7 := F7.to b9
    have F8 := F8.to b9
    have hb := hb.call b9
    clear F1 F2 b9 b9n d0 d1 d2 e0 e1 e2
    go_wp2_with fail
    refine (same_any A7 A8 L.length c7 L.length c8 L L _ _ _ F7 F8 HLO.out HLO.out (by have := HLL.out; omega)).mono ?_
    rw [decide_eq_true rfl]
    rintro e w10 ⟨rfl, b10⟩
    have hb := hb.call b10
    clear F7 F8 b10
    go_wp2_with (go_at_call 7; refine (awake5_any _).mono ?_; rintro e wa ⟨rfl, ba⟩)
    go_ret
    exact ⟨rfl, hb.call ba⟩
end Go.Proofs.Ytofigldbkndjlaa.MbW
