/- The walks of rtu.Ask and rtu.Reply. -/
import Derived.Test.YtgjcefgdkhfghaaRtuA
import Derived.Test.YtgjcefgdkhfghaaAG6
import Derived.Test.YtgjcefgdkhfghaaRepI
set_option linter.unusedVariables false
set_option linter.unusedSimpArgs false
namespace Go.Proofs.Ytgjcefgdkhfghaa.AskW
open Go.RowKit Go.Proofs.Ytgjcefgdkhfghaa Go.Proofs.Ytgjcefgdkhfghaa.Ask
/-- The frame of a request, or the error. -/
def rtuA (u : Nat) (q : Req) : List Nat × Int := if right q = true then rtuB u (bytes q) else ([], 12)
/-- The reply in a frame, or the error. -/
def rtuR (u : Nat) (xs : List Nat) : Rep × Int :=
  if (rtuP xs).2 = 0 then (if (rtuP xs).1.1 = u then rparse (rtuP xs).1.2 else (rep0, 10)) else (rep0, (rtuP xs).2)
theorem rtuP_cases (xs : List Nat) : ((rtuP xs).2 = 0 ∧ (rtuP xs).1.2.length ≤ 253 ∧ 1 ≤ (rtuP xs).1.2.length) ∨ ((rtuP xs).1 = (0, []) ∧ ((rtuP xs).2 = 10 ∨ (rtuP xs).2 = 11)) := by
  unfold rtuP
  by_cases h1 : xs.length < 4 ∨ 256 < xs.length
  · rw [if_pos h1]; exact Or.inr ⟨rfl, Or.inl rfl⟩
  rw [if_neg h1]
  split
  · split
    · refine Or.inl ⟨rfl, ?_, ?_⟩ <;> simp <;> omega
    · exact Or.inr ⟨rfl, Or.inl rfl⟩
  · exact Or.inr ⟨rfl, Or.inr rfl⟩
theorem rtuP_bytes {xs : List Nat} (h : Bytes xs) : Bytes (rtuP xs).1.2 ∧ (rtuP xs).1.1 < 256 := by
  unfold rtuP
  split
  · exact ⟨Bytes.nil, by decide⟩
  · split
    · split
      · exact ⟨(h.take _).drop 1, h.at 0⟩
      · exact ⟨Bytes.nil, by decide⟩
    · exact ⟨Bytes.nil, by decide⟩
set_option maxHeartbeats 4000000 in
theorem rtuAsk_any (u : Nat) (f a m t : Nat) (Aw : Option Addr) (nw cw : Nat) (Ab : Option Addr) (nb cb : Nat) (W : List Nat) (B : List Bool) (w : World) (hu : u < 256)
    (hW : Sl w w.heap.size Aw nw (ws W)) (hB : Sl w w.heap.size Ab nb (bl B)) (hwf : Req.Wf ⟨f, a, m, t, W, B⟩) (hsm : W.length ≤ 200 ∧ B.length ≤ 2100) :
    Calls Try.prog 31 #[.int .u8 (u : Nat), .agg #[.int .u8 f, .int .u16 a, .int .u16 m, .int .u16 t, .slice Aw nw cw, .slice Ab nb cb]] w (CrcW.RetRowErr w 5 (rtuA u ⟨f, a, m, t, W, B⟩)) := by
  have KB := Lib.hid (fun Y (b : Below w.heap.size w Y) => bytes_any f a m t Aw nw cw Ab nb cb W B Y (hW.to b) (hB.to b) hwf)
  have hb0 := (Below.refl _ w).new (.cells #[.int .u8 f, .int .u16 a, .int .u16 m, .int .u16 t, .slice Aw nw cw, .slice Ab nb cb] 28)
  obtain ⟨q, hq⟩ : ∃ q, q = (⟨f, a, m, t, W, B⟩ : Req) := ⟨_, rfl⟩
  rw [← hq] at KB hwf ⊢
  obtain ⟨r, hr⟩ : ∃ r, r = rtuA u q := ⟨_, rfl⟩
  rw [← hr]
  by_cases h1 : right q = true
  · have HF := Lib.hid (show r = rtuB u (bytes q) from by rw [hr]; unfold rtuA; rw [if_pos h1])
    have he : bytesE q = (bytes q, 0) := by unfold bytesE; rw [if_pos h1]
    have hlen := (bytes_len h1).2
    have hby := bytes_lt q hwf (by rw [hq]; dsimp only; omega)
    rw [he] at KB
    obtain ⟨Z, hZ⟩ : ∃ Z, Z = bytes q := ⟨_, rfl⟩
    rw [← hZ] at KB HF hlen hby
    have KR := Lib.hid (fun A n c Y h => rtuBytes_any u A n c Z Y hu h hby)
    clear hq hr h1 he hZ hwf hW hB hsm
    go_enter Try.func31, Try.ntmps31
    go_wp2_with fail
    refine (KB.out _ hb0).mono ?_
    rintro e w1 ⟨v, rfl, H⟩
    obtain ⟨A1, c1, rfl, _, S1, _⟩ := H.slice
    have B1 := hb0.call H.bel
    clear H
    go_wp2_with fail
    refine (KR.out _ _ _ _ S1 (by show Z.length ≤ 1000000; omega)).mono ?_
    rintro e w2 ⟨v2, rfl, H2⟩
    have H3 := H2.weaken B1
    clear H2
    go_wp2_with fail
    go_ret2
    rw [HF.out]
    exact ⟨_, rfl, H3⟩
  · have HF := Lib.hid (show r = ([], 12) from by rw [hr]; unfold rtuA; rw [if_neg h1])
    have he : bytesE q = ([], 12) := by unfold bytesE; rw [if_neg h1]
    rw [he] at KB
    clear hq hr h1 he hwf hW hB hsm
    go_enter Try.func31, Try.ntmps31
    go_wp2_with fail
    refine (KB.out _ hb0).mono ?_
    rintro e w1 ⟨v, rfl, H⟩
    have B1 := hb0.call H.bel
    clear H
    go_wp2_with fail
    go_ret2
    rw [HF.out]
    exact ⟨_, rfl, Has.nil_ B1 _⟩
set_option maxHeartbeats 8000000 in
theorem rtuReply_any (u : Nat) (A : Option Addr) (n c : Nat) (xs : List Nat) (w : World) (hs : Sl w w.heap.size A n (bs xs)) (hx : Bytes xs) (hn : n ≤ 1000000) (hc : n ≤ c) :
    Calls Try.prog 33 #[.int .u8 (u : Nat), .slice A n c] w (RetRepTag w (rtuR u xs).1 .i64 (rtuR u xs).2) := by
  have KP := Lib.hid (fun Y (b : Below w.heap.size w Y) => rtuParse_any A n c xs Y (hs.to b) hx hn hc)
  have hb0 := (Below.refl _ w).new (.cells #[.int .u8 0, .int .u8 0, .slice none 0 0, .slice none 0 0, .int .u16 0, .int .u16 0] 26)
  have HRZ := Lib.hid (heap_alloc_new w (.cells #[.int .u8 0, .int .u8 0, .slice none 0 0, .slice none 0 0, .int .u16 0, .int .u16 0] 26))
  obtain ⟨r, hr⟩ : ∃ r, r = rtuR u xs := ⟨_, rfl⟩
  rw [← hr]
  rcases rtuP_cases xs with ⟨h0, hle, _⟩ | ⟨h0, hE⟩
  · have hby := (rtuP_bytes hx).1
    obtain ⟨p, hp⟩ : ∃ p, p = rtuP xs := ⟨_, rfl⟩
    by_cases hu : (rtuP xs).1.1 = u
    · have HF0 := show r = rparse (rtuP xs).1.2 from by rw [hr]; unfold rtuR; rw [if_pos h0, if_pos hu]
      rw [← hp] at h0 hle hby hu KP HF0
      obtain ⟨⟨p1, p2⟩, p3⟩ := p
      dsimp only at h0 hle hby hu HF0
      subst h0 hu
      have KR := Lib.hid (fun A2 c2 Y hs2 hc2 => repParse_any A2 p2.length c2 p2 Y hs2 hby (by omega) hc2)
      have HF := Lib.hid HF0
      clear hr hp hs hx hn hc hle hby HF0
      go_enter Try.func33, Try.ntmps33
      go_wp2_with fail
      refine (KP.out _ hb0).mono ?_
      rintro e w1 ⟨A1, c1, rfl, S1, hc1, O1, b1⟩
      have rz := b1.row (by simp) HRZ.out
      have B1 := hb0.call b1
      clear b1 O1
      dsimp only at S1 hc1 ⊢
      go_wp2_with fail
      refine (KR.out _ _ _ S1 hc1).mono ?_
      rintro e w2 ⟨pAb, pnb, pcb, pAw, pnw, pcw, rfl, SB, SW, hcb, hcw, oB, oW, b2⟩
      have hlt : w.heap.size < w1.heap.size := row_lt rz
      have rz := b2.row (row_lt rz) rz
      have B2 := B1.call b2
      clear b2
      rw [← HF.out] at SB SW ⊢
      obtain ⟨⟨y1, y2, y3, y4, y5, y6⟩, T⟩ := r
      dsimp only at SB SW ⊢
      go_wp2_with (refine wpList_store_grown rfl 26 (.tmp 4) _ rfl w.heap.size #[.int .u8 (y1 : Nat), .int .u8 (y2 : Nat), .slice pAb pnb pcb, .slice pAw pnw pcw, .int .u16 (y5 : Nat), .int .u16 (y6 : Nat)] rfl rfl 26 _ rz (by kernel_rfl) rfl (by simp [Value.oneCell']) ?_; intro w9 h9 g9 s9)
      refine bodyPost_row_tmp rfl w.heap.size 26 #[.int .u8 (y1 : Nat), .int .u8 (y2 : Nat), .slice pAb pnb pcb, .slice pAw pnw pcw, .int .u16 (y5 : Nat), .int .u16 (y6 : Nat)] (0, 0) _ (.int .i64 T) rfl h9 Try.underlying26 rfl (by kernel_rfl) rfl rfl ?_
      exact ⟨pAb, pnb, pcb, pAw, pnw, pcw, rfl, SB.grown g9 (fun b o h e => by have := oB b o h; injection e with e; omega), SW.grown g9 (fun b o h e => by have := oW b o h; injection e with e; omega), hcb, hcw, (fun b o h => by have := oB b o h; omega), (fun b o h => by have := oW b o h; omega), B2.grown g9 B2.size (fun k hk => by injection hk with hk; omega)⟩
    · have HF0 := show r = (rep0, 10) from by rw [hr]; unfold rtuR; rw [if_pos h0, if_neg hu]
      rw [← hp] at h0 hu KP
      obtain ⟨⟨p1, p2⟩, p3⟩ := p
      dsimp only at h0 hu
      subst h0
      have HF := Lib.hid HF0
      have hT : ((p1 : Int) != (u : Int)) = true := by rw [bne_iff_ne]; omega
      clear hr hp hs hx hn hc hle hby HF0 hu
      go_enter Try.func33, Try.ntmps33
      go_wp2_with fail
      refine (KP.out _ hb0).mono ?_
      rintro e w1 ⟨A1, c1, rfl, S1, hc1, O1, b1⟩
      have rz := b1.row (by simp) HRZ.out
      have B1 := hb0.call b1
      clear b1 S1 O1
      go_wp2_with (refine wpList_store_grown rfl 26 (.tmp 4) _ rfl w.heap.size #[.int .u8 0, .int .u8 0, .slice none 0 0, .slice none 0 0, .int .u16 0, .int .u16 0] rfl rfl 26 _ rz (by kernel_rfl) rfl (by simp [Value.oneCell']) ?_; intro w9 h9 g9 s9)
      refine bodyPost_row_tmp rfl w.heap.size 26 #[.int .u8 0, .int .u8 0, .slice none 0 0, .slice none 0 0, .int .u16 0, .int .u16 0] (0, 0) _ (.int .i64 10) rfl h9 Try.underlying26 rfl (by kernel_rfl) rfl rfl ?_
      rw [HF.out]
      exact RetRepTag.bare _ _ (B1.grown g9 B1.size (fun k hk => by injection hk with hk; omega))
  · have HF0 : r = (rep0, (rtuP xs).2) := by rw [hr]; unfold rtuR; rw [if_neg (by omega)]
    obtain ⟨p, hp⟩ : ∃ p, p = rtuP xs := ⟨_, rfl⟩
    rw [← hp] at h0 hE KP HF0
    obtain ⟨p1, p3⟩ := p
    dsimp only at h0 hE HF0
    subst h0
    clear hr hp hs hx hn hc
    rcases hE with rfl | rfl
    · have HF := Lib.hid HF0
      clear HF0
      go_enter Try.func33, Try.ntmps33
      go_wp2_with fail
      refine (KP.out _ hb0).mono ?_
      rintro e w1 ⟨A1, c1, rfl, S1, hc1, O1, b1⟩
      have rz := b1.row (by simp) HRZ.out
      have B1 := hb0.call b1
      clear b1 S1 O1
      go_wp2_with (refine wpList_store_grown rfl 26 (.tmp 4) _ rfl w.heap.size #[.int .u8 0, .int .u8 0, .slice none 0 0, .slice none 0 0, .int .u16 0, .int .u16 0] rfl rfl 26 _ rz (by kernel_rfl) rfl (by simp [Value.oneCell']) ?_; intro w9 h9 g9 s9)
      refine bodyPost_row_tmp rfl w.heap.size 26 #[.int .u8 0, .int .u8 0, .slice none 0 0, .slice none 0 0, .int .u16 0, .int .u16 0] (0, 0) _ (.int .i64 10) rfl h9 Try.underlying26 rfl (by kernel_rfl) rfl rfl ?_
      rw [HF.out]
      exact RetRepTag.bare _ _ (B1.grown g9 B1.size (fun k hk => by injection hk with hk; omega))
    · have HF := Lib.hid HF0
      clear HF0
      go_enter Try.func33, Try.ntmps33
      go_wp2_with fail
      refine (KP.out _ hb0).mono ?_
      rintro e w1 ⟨A1, c1, rfl, S1, hc1, O1, b1⟩
      have rz := b1.row (by simp) HRZ.out
      have B1 := hb0.call b1
      clear b1 S1 O1
      go_wp2_with (refine wpList_store_grown rfl 26 (.tmp 4) _ rfl w.heap.size #[.int .u8 0, .int .u8 0, .slice none 0 0, .slice none 0 0, .int .u16 0, .int .u16 0] rfl rfl 26 _ rz (by kernel_rfl) rfl (by simp [Value.oneCell']) ?_; intro w9 h9 g9 s9)
      refine bodyPost_row_tmp rfl w.heap.size 26 #[.int .u8 0, .int .u8 0, .slice none 0 0, .slice none 0 0, .int .u16 0, .int .u16 0] (0, 0) _ (.int .i64 11) rfl h9 Try.underlying26 rfl (by kernel_rfl) rfl rfl ?_
      rw [HF.out]
      exact RetRepTag.bare _ _ (B1.grown g9 B1.size (fun k hk => by injection hk with hk; omega))
end Go.Proofs.Ytgjcefgdkhfghaa.AskW
