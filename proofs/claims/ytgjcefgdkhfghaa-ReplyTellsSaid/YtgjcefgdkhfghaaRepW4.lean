/- The walk of saucierref03.Parse: exceptions, what is none. -/
import Derived.Test.YtgjcefgdkhfghaaRepW3
import Derived.Test.YtgjcefgdkhfghaaRepRT
import Derived.Test.YtgjcefgdkhfghaaRepI
set_option linter.unusedVariables false
set_option linter.unusedSimpArgs false
namespace Go.Proofs.Ytgjcefgdkhfghaa.AskW
open Go.RowKit Go.Proofs.Ytgjcefgdkhfghaa Go.Proofs.Ytgjcefgdkhfghaa.Ask
/-- The one reply that bytes may be of. -/
def cand3 (xs : List Nat) : Rep := match kdBy (xs[0]?.getD 0) with | some k => k.read xs | none => ⟨xs[0]?.getD 0, 0, [], [], 0, 0⟩
theorem cand3_wf {xs : List Nat} (h : Bytes xs) : (cand3 xs).Wf := by
  unfold cand3
  cases kdBy (xs[0]?.getD 0) with
  | none => exact ⟨h.at 0, by show 0 < 256; omega, (fun y hy => by cases hy), by show 0 < 65536; omega, by show 0 < 65536; omega⟩
  | some k => exact read_wf k h
theorem cand3_bytes {r : Rep} (h : rright r = true) : cand3 (rbytes r) = r := by
  obtain ⟨k, hk, hr, hb⟩ := rright_kd h
  obtain ⟨h1, h2, _, _⟩ := kd_back hk hr
  rw [hb]
  unfold cand3
  rw [h1]
  exact h2
theorem rparse_cand (xs : List Nat) : rparse xs = if rright (cand3 xs) && rbytes (cand3 xs) == xs then (cand3 xs, 0) else (rep0, 13) := by
  rcases rparse_cases xs with ⟨r, hr, hb, hp⟩ | hp
  · have := cand3_bytes hr
    rw [hb] at this
    rw [hp, this, hr, hb]; simp
  · rw [hp]
    by_cases h : (rright (cand3 xs) && rbytes (cand3 xs) == xs) = true
    · simp at h
      have := rparse_bytes h.1
      rw [h.2, hp] at this
      have := congrArg Prod.snd this
      simp at this
    · rw [if_neg h]
theorem rparse_short {xs : List Nat} (h : xs.length < 2) : rparse xs = (rep0, 13) := by
  rcases rparse_cases xs with ⟨r, hr, hb, hp⟩ | hp
  · have := rbytes_len hr
    rw [hb] at this
    omega
  · exact hp
/-- The world while a reply is laid at block k, the result at block w.heap.size. -/
structure Pr (w W : World) (k : Nat) (cs : Array Value) : Prop where
  bel : Below w.heap.size w W
  rz : W.heap[w.heap.size]? = some (.cells #[.int .u8 0, .int .u8 0, .slice none 0 0, .slice none 0 0, .int .u16 0, .int .u16 0] 26 (0, 0))
  ra : W.heap[k]? = some (.cells cs 26 (0, 0))
  hk : w.heap.size < k
section
variable {w W W' : World} {k : Nat} {cs : Array Value}
theorem Pr.lt (S : Pr w W k cs) : k < W.heap.size := row_lt S.ra
theorem Pr.call (S : Pr w W k cs) (b : Below W.heap.size W W') : Pr w W' k cs := ⟨S.bel.call b, b.row (by have := S.lt; have := S.hk; omega) S.rz, b.row (by have := S.lt; omega) S.ra, S.hk⟩
theorem Pr.new (S : Pr w W k cs) (o : Obj) : Pr w (W.alloc o) k cs := ⟨S.bel.new o, row_alloc S.rz o, row_alloc S.ra o, S.hk⟩
theorem Pr.drewN (S : Pr w W k cs) (d : Nat) : Pr w (W.drewN d) k cs := ⟨S.bel.drewN d, S.rz, S.ra, S.hk⟩
theorem Pr.drew (S : Pr w W k cs) : Pr w W.drew k cs := ⟨S.bel.drew, S.rz, S.ra, S.hk⟩
theorem Pr.set (S : Pr w W k cs) (i : Nat) (v : Value) : Pr w (W.setCell ⟨k, i, none⟩ v) k (cs.setIfInBounds i v) := by
  refine ⟨S.bel.setCell (Nat.le_of_lt S.hk) v, ?_, heap_setCell_same W _ i _ _ _ S.ra, S.hk⟩
  have hne : w.heap.size ≠ k := Nat.ne_of_lt S.hk
  exact (grown_setCell W k i v).row hne S.rz
theorem Pr.grown (S : Pr w W k cs) {v : Value} (g : W.grownBy W' v.ownBlock) (h : ∀ b, v.ownBlock = some b → w.heap.size < b ∧ b ≠ k) : Pr w W' k cs :=
  ⟨S.bel.grown g S.bel.size (fun k' hk => Nat.le_of_lt (h k' hk).1), (g.block _ (row_lt S.rz) (fun e => absurd (h _ e.symm).1 (Nat.lt_irrefl _))).trans S.rz, (g.block _ (row_lt S.ra) (fun e => (h _ e.symm).2 rfl)).trans S.ra, S.hk⟩
theorem Pr_new (w : World) (cs : Array Value) : Pr w ((w.alloc (.cells #[.int .u8 0, .int .u8 0, .slice none 0 0, .slice none 0 0, .int .u16 0, .int .u16 0] 26)).alloc (.cells cs 26)) (w.heap.size + 1) cs :=
  ⟨((Below.refl _ _).new _).new _, row_alloc (heap_alloc_new w _) _, heap_alloc2_new w _ _, Nat.lt_succ_self _⟩
end
set_option maxHeartbeats 8000000 in
theorem ref3Parse_short (A : Option Addr) (n c : Nat) (xs : List Nat) (w : World) (hs : Sl w w.heap.size A n (bs xs)) (h2 : n < 2) :
    Calls Try.prog 14 #[.slice A n c] w (RetRepTag w (rparse xs).1 .i64 (rparse xs).2) := by
  have q1 : xs.length = n := by simpa using hs.len
  have HP := Lib.hid (rparse_short (xs := xs) (by omega))
  obtain ⟨P, hP⟩ : ∃ P, P = rparse xs := ⟨_, rfl⟩
  rw [← hP] at HP ⊢
  have z2 : (n : Int) < 2 := by omega
  have rz := heap_alloc_new w (.cells #[.int .u8 0, .int .u8 0, .slice none 0 0, .slice none 0 0, .int .u16 0, .int .u16 0] 26)
  have hbel := (Below.refl _ w).new (.cells #[.int .u8 0, .int .u8 0, .slice none 0 0, .slice none 0 0, .int .u16 0, .int .u16 0] 26)
  clear hP hs q1 h2
  go_enter Try.func14, Try.ntmps14
  go_wp2_with (refine wpList_store_grown rfl 26 (.tmp 2) _ rfl w.heap.size #[.int .u8 0, .int .u8 0, .slice none 0 0, .slice none 0 0, .int .u16 0, .int .u16 0] rfl rfl 26 _ rz (by kernel_rfl) rfl (by simp [Value.oneCell']) ?_; intro w9 h9 g9 s9)
  refine bodyPost_row_tmp rfl w.heap.size 26 #[.int .u8 0, .int .u8 0, .slice none 0 0, .slice none 0 0, .int .u16 0, .int .u16 0] (0, 0) _ (.int .i64 13) rfl h9 Try.underlying26 rfl (by kernel_rfl) rfl rfl ?_
  rw [HP.out]
  exact RetRepTag.bare _ _ (hbel.grown g9 hbel.size (fun k hk => by injection hk with hk; omega))
set_option maxRecDepth 100000 in
set_option maxHeartbeats 16000000 in
theorem ref3Parse_exc (A : Option Addr) (n c : Nat) (xs : List Nat) (w : World) (hs : Sl w w.heap.size A n (bs xs)) (hx : Bytes xs) (hn2 : n ≤ 300) (h2 : 2 ≤ n) (hc : n ≤ c) (hf : 128 ≤ xs[0]?.getD 0) :
    Calls Try.prog 14 #[.slice A n c] w (RetRepTag w (rparse xs).1 .i64 (rparse xs).2) := by
  have q1 : xs.length = n := by simpa using hs.len
  have HWF := cand3_wf hx
  have HP := Lib.hid (rparse_cand xs)
  have HC : cand3 xs = ⟨(xs[0]?.getD 0 + 128) % 256, xs[1]?.getD 0, [], [], 0, 0⟩ := by unfold cand3 kdBy; rw [if_pos hf]; rfl
  obtain ⟨f, ef⟩ : ∃ f, f = xs[0]?.getD 0 := ⟨_, rfl⟩
  obtain ⟨y, ey⟩ : ∃ y, y = xs[1]?.getD 0 := ⟨_, rfl⟩
  have hf8 : f < 256 := by rw [ef]; exact hx.at 0
  have hy8 : y < 256 := by rw [ey]; exact hx.at 1
  have F8 := show IntKind.u8.wrap (f : Int) = f by rw [IntKind.wrap_u8]; omega
  rw [← ef] at HC hf
  rw [← ey] at HC
  have T1 : ((f : Int) == 1) = false := by first | (rw [beq_eq_false_iff_ne]; omega) | (rw [beq_iff_eq]; omega)
  have T2 : ((f : Int) == 2) = false := by first | (rw [beq_eq_false_iff_ne]; omega) | (rw [beq_iff_eq]; omega)
  have T3 : ((f : Int) == 3) = false := by first | (rw [beq_eq_false_iff_ne]; omega) | (rw [beq_iff_eq]; omega)
  have T4 : ((f : Int) == 4) = false := by first | (rw [beq_eq_false_iff_ne]; omega) | (rw [beq_iff_eq]; omega)
  have T23 : ((f : Int) == 23) = false := by first | (rw [beq_eq_false_iff_ne]; omega) | (rw [beq_iff_eq]; omega)
  have T5 : ((f : Int) == 5) = false := by first | (rw [beq_eq_false_iff_ne]; omega) | (rw [beq_iff_eq]; omega)
  have T6 : ((f : Int) == 6) = false := by first | (rw [beq_eq_false_iff_ne]; omega) | (rw [beq_iff_eq]; omega)
  have T15 : ((f : Int) == 15) = false := by first | (rw [beq_eq_false_iff_ne]; omega) | (rw [beq_iff_eq]; omega)
  have T16 : ((f : Int) == 16) = false := by first | (rw [beq_eq_false_iff_ne]; omega) | (rw [beq_iff_eq]; omega)
  rw [HC] at HP HWF
  obtain ⟨P, hP⟩ : ∃ P, P = rparse xs := ⟨_, rfl⟩
  rw [← hP] at HP ⊢
  obtain ⟨b, o, rfl, hbl, d1⟩ := hs.2 (by omega)
  have g1 : w.cell? ⟨b, o, none⟩ = some (.int .u8 (f : Nat)) := (d1 0 (by omega)).trans (by rw [bs_get (by omega), ← ef])
  have g2 : w.cell? ⟨b, o + 1, none⟩ = some (.int .u8 (y : Nat)) := (d1 1 (by omega)).trans (by rw [bs_get (by omega), ← ey])
  have HS := Lib.hid hs
  have HX := Lib.hid hx
  have z1 : (0 : Int) < (n : Int) := by omega
  have z1n : 0 < n := by omega
  have z1c : (0 : Int) ≤ (n : Int) := by omega
  have z1b : (1 : Int) < (n : Int) := by omega
  have z1bn : 1 < n := by omega
  have z2 : ¬ (n : Int) < 2 := by omega
  obtain ⟨h, eh⟩ : ∃ h, h = (f + 128) % 256 := ⟨_, rfl⟩
  have hw8 : IntKind.u8.wrap ((f : Int) - 128) = (h : Int) := by rw [IntKind.wrap_u8]; omega
  have z127 : (127 : Int) < (f : Int) := by omega
  rw [← eh] at HP HWF
  clear eh
  clear HC hP hs hx hn2 h2 q1 d1 hf ef ey
  go_enter Try.func14, Try.ntmps14
  go_wp2_with fail
  obtain ⟨W1, hW1⟩ : ∃ W1, W1 = ((w.alloc (.cells #[.int .u8 0, .int .u8 0, .slice none 0 0, .slice none 0 0, .int .u16 0, .int .u16 0] 26)).alloc (.cells #[.int .u8 (h : Nat), .int .u8 (y : Nat), .slice none 0 0, .slice none 0 0, .int .u16 0, .int .u16 0] 26)) := ⟨_, rfl⟩
  have S : Pr w W1 (w.heap.size + 1) #[.int .u8 (h : Nat), .int .u8 (y : Nat), .slice none 0 0, .slice none 0 0, .int .u16 0, .int .u16 0] := hW1 ▸ Pr_new w #[.int .u8 (h : Nat), .int .u8 (y : Nat), .slice none 0 0, .slice none 0 0, .int .u16 0, .int .u16 0]
  rw [← hW1]
  clear hW1
  obtain ⟨k, ek⟩ : ∃ k, k = w.heap.size + 1 := ⟨_, rfl⟩
  rw [← ek] at S ⊢
  clear ek
  have SB := Sl.empty W1 W1.heap.size none
  have oB : ∀ b o, (none : Option Addr) = some (⟨b, o, none⟩ : Addr) → w.heap.size < b := fun _ _ h => by cases h
  have kB : (0 : Nat) ≤ 0 := Nat.le_refl _
  have SW := Sl.empty W1 W1.heap.size none
  have oW : ∀ b o, (none : Option Addr) = some (⟨b, o, none⟩ : Addr) → w.heap.size < b := fun _ _ h => by cases h
  have kW : (0 : Nat) ≤ 0 := Nat.le_refl _
  have RA := S.ra
  refine (ref3Bytes_any _ _ _ _ _ _ _ _ _ _ _ _ _ SB SW HWF).mono ?_
  rintro e w2 ⟨v, rfl, H⟩
  have S := S.call H.bel
  have SW := SW.to H.bel
  have SB := SB.to H.bel
  have RA := S.ra
  have rz := S.rz
  have hbel := S.bel
  have hk := S.hk
  have lz := row_lt rz
  obtain ⟨Q, hQ⟩ : ∃ Q, Q = rright ⟨h, y, [], [], 0, 0⟩ := ⟨_, rfl⟩
  cases Q
  case false =>
    have HR := Lib.hid hQ.symm
    have hB : rbytesE ⟨h, y, [], [], 0, 0⟩ = ([], 13) := by unfold rbytesE; rw [HR.out]; rfl
    rw [hB] at H ⊢
    clear hB hQ H
    go_wp2_with (refine wpList_store_grown rfl 26 (.tmp 2) _ rfl w.heap.size #[.int .u8 0, .int .u8 0, .slice none 0 0, .slice none 0 0, .int .u16 0, .int .u16 0] rfl rfl 26 _ rz (by kernel_rfl) rfl (by simp [Value.oneCell']) ?_; intro w9 h9 g9 s9)
    refine bodyPost_row_tmp rfl w.heap.size 26 #[.int .u8 0, .int .u8 0, .slice none 0 0, .slice none 0 0, .int .u16 0, .int .u16 0] (0, 0) _ (.int .i64 13) rfl h9 Try.underlying26 rfl (by kernel_rfl) rfl rfl ?_
    rw [HP.out, if_neg (by rw [HR.out]; simp)]
    exact RetRepTag.bare _ _ (hbel.grown g9 hbel.size (fun k hk => by injection hk with hk; omega))
  case true =>
    have HR := Lib.hid hQ.symm
    have hB : rbytesE ⟨h, y, [], [], 0, 0⟩ = (rbytes ⟨h, y, [], [], 0, 0⟩, 0) := by unfold rbytesE; rw [HR.out]; rfl
    rw [hB] at H ⊢
    dsimp only at H
    have hbl : Bytes (rbytes ⟨h, y, [], [], 0, 0⟩) := by
      obtain ⟨k', _, _, hb'⟩ := rright_kd HR.out
      rw [hb']; exact kbytes_lt k' _ HWF
    obtain ⟨Av, cv, rfl, hcv, SV, _⟩ := H.slice
    have H1 := run_string (P := Try.prog) w2 _ 29 9 5 Try.underlying29 Try.underlying5 Try.underlying9 Av _ cv _ SV
    have H2 := run_string (P := Try.prog) w2 _ 29 9 5 Try.underlying29 Try.underlying5 Try.underlying9 (some ⟨b, o, none⟩) n c _ (HS.out.to hbel)
    have hSE := strB_eq (rbytes ⟨h, y, [], [], 0, 0⟩) xs hbl HX.out
    by_cases hq : rbytes ⟨h, y, [], [], 0, 0⟩ = xs
    case neg =>
      rw [show (rbytes ⟨h, y, [], [], 0, 0⟩ == xs) = false by rw [beq_eq_false_iff_ne]; exact hq] at hSE
      have HQ := Lib.hid hq
      clear hB hQ H hq SV hcv
      go_wp2_with (refine wpList_store_grown rfl 26 (.tmp 2) _ rfl w.heap.size #[.int .u8 0, .int .u8 0, .slice none 0 0, .slice none 0 0, .int .u16 0, .int .u16 0] rfl rfl 26 _ rz (by kernel_rfl) rfl (by simp [Value.oneCell']) ?_; intro w9 h9 g9 s9)
      refine bodyPost_row_tmp rfl w.heap.size 26 #[.int .u8 0, .int .u8 0, .slice none 0 0, .slice none 0 0, .int .u16 0, .int .u16 0] (0, 0) _ (.int .i64 13) rfl h9 Try.underlying26 rfl (by kernel_rfl) rfl rfl ?_
      rw [HP.out, if_neg (by rw [HR.out]; simp; exact HQ.out)]
      exact RetRepTag.bare _ _ (hbel.grown g9 hbel.size (fun k hk => by injection hk with hk; omega))
    case pos =>
      have HQ := Lib.hid hq
      rw [hq] at H1 SV ⊢
      clear hB hQ H hSE hq
      go_wp2_with (first
        | (refine wpList_load_row rfl 26 (.tmp 4) rfl k rfl 26 #[.int .u8 (h : Nat), .int .u8 (y : Nat), .slice none 0 0, .slice none 0 0, .int .u16 0, .int .u16 0] (0, 0) _ RA Try.underlying26 rfl (by kernel_rfl) ?_)
        | (refine wpList_store_grown rfl 26 (.tmp 2) _ rfl w.heap.size #[.int .u8 (h : Nat), .int .u8 (y : Nat), .slice none 0 0, .slice none 0 0, .int .u16 0, .int .u16 0] rfl rfl 26 _ rz (by kernel_rfl) rfl (by simp [Value.oneCell']) ?_; intro w9 h9 g9 s9))
      refine bodyPost_row_tmp rfl w.heap.size 26 #[.int .u8 (h : Nat), .int .u8 (y : Nat), .slice none 0 0, .slice none 0 0, .int .u16 0, .int .u16 0] (0, 0) _ (.int .i64 0) rfl h9 Try.underlying26 rfl (by kernel_rfl) rfl rfl ?_
      rw [HP.out, if_pos (by rw [HR.out, HQ.out]; simp)]
      exact ⟨_, _, _, _, _, _, rfl, SB.grown g9 (fun b o h e => by have := oB b o h; injection e with e; omega), SW.grown g9 (fun b o h e => by have := oW b o h; injection e with e; omega), kB, kW, (fun b o h => by have := oB b o h; omega), (fun b o h => by have := oW b o h; omega), hbel.grown g9 hbel.size (fun k hk => by injection hk with hk; omega)⟩
set_option maxRecDepth 100000 in
set_option maxHeartbeats 16000000 in
theorem ref3Parse_none (A : Option Addr) (n c : Nat) (xs : List Nat) (w : World) (hs : Sl w w.heap.size A n (bs xs)) (hx : Bytes xs) (hn2 : n ≤ 300) (h2 : 2 ≤ n) (hc : n ≤ c) (hf : kdBy (xs[0]?.getD 0) = none) :
    Calls Try.prog 14 #[.slice A n c] w (RetRepTag w (rparse xs).1 .i64 (rparse xs).2) := by
  have hk := hf
  have hf : xs[0]?.getD 0 < 128 ∧ ¬ (xs[0]?.getD 0 = 1 ∨ xs[0]?.getD 0 = 2 ∨ xs[0]?.getD 0 = 3 ∨ xs[0]?.getD 0 = 4 ∨ xs[0]?.getD 0 = 23 ∨ xs[0]?.getD 0 = 5 ∨ xs[0]?.getD 0 = 6 ∨ xs[0]?.getD 0 = 15 ∨ xs[0]?.getD 0 = 16) := by
    unfold kdBy at hk
    refine ⟨?_, ?_⟩
    · by_cases h : 128 ≤ xs[0]?.getD 0
      · rw [if_pos h] at hk; cases hk
      · omega
    · intro h
      rcases h with h | h | h | h | h | h | h | h | h <;> rw [h] at hk <;> simp at hk
  have q1 : xs.length = n := by simpa using hs.len
  have HWF := cand3_wf hx
  have HP := Lib.hid (rparse_cand xs)
  have HC : cand3 xs = ⟨xs[0]?.getD 0, 0, [], [], 0, 0⟩ := by unfold cand3; rw [hk]
  obtain ⟨f, ef⟩ : ∃ f, f = xs[0]?.getD 0 := ⟨_, rfl⟩
  obtain ⟨y, ey⟩ : ∃ y, y = xs[1]?.getD 0 := ⟨_, rfl⟩
  have hf8 : f < 256 := by rw [ef]; exact hx.at 0
  have hy8 : y < 256 := by rw [ey]; exact hx.at 1
  have F8 := show IntKind.u8.wrap (f : Int) = f by rw [IntKind.wrap_u8]; omega
  rw [← ef] at HC hf
  have T1 : ((f : Int) == 1) = false := by first | (rw [beq_eq_false_iff_ne]; omega) | (rw [beq_iff_eq]; omega)
  have T2 : ((f : Int) == 2) = false := by first | (rw [beq_eq_false_iff_ne]; omega) | (rw [beq_iff_eq]; omega)
  have T3 : ((f : Int) == 3) = false := by first | (rw [beq_eq_false_iff_ne]; omega) | (rw [beq_iff_eq]; omega)
  have T4 : ((f : Int) == 4) = false := by first | (rw [beq_eq_false_iff_ne]; omega) | (rw [beq_iff_eq]; omega)
  have T23 : ((f : Int) == 23) = false := by first | (rw [beq_eq_false_iff_ne]; omega) | (rw [beq_iff_eq]; omega)
  have T5 : ((f : Int) == 5) = false := by first | (rw [beq_eq_false_iff_ne]; omega) | (rw [beq_iff_eq]; omega)
  have T6 : ((f : Int) == 6) = false := by first | (rw [beq_eq_false_iff_ne]; omega) | (rw [beq_iff_eq]; omega)
  have T15 : ((f : Int) == 15) = false := by first | (rw [beq_eq_false_iff_ne]; omega) | (rw [beq_iff_eq]; omega)
  have T16 : ((f : Int) == 16) = false := by first | (rw [beq_eq_false_iff_ne]; omega) | (rw [beq_iff_eq]; omega)
  rw [HC] at HP HWF
  obtain ⟨P, hP⟩ : ∃ P, P = rparse xs := ⟨_, rfl⟩
  rw [← hP] at HP ⊢
  obtain ⟨b, o, rfl, hbl, d1⟩ := hs.2 (by omega)
  have g1 : w.cell? ⟨b, o, none⟩ = some (.int .u8 (f : Nat)) := (d1 0 (by omega)).trans (by rw [bs_get (by omega), ← ef])
  have g2 : w.cell? ⟨b, o + 1, none⟩ = some (.int .u8 (y : Nat)) := (d1 1 (by omega)).trans (by rw [bs_get (by omega), ← ey])
  have HS := Lib.hid hs
  have HX := Lib.hid hx
  have z1 : (0 : Int) < (n : Int) := by omega
  have z1n : 0 < n := by omega
  have z1c : (0 : Int) ≤ (n : Int) := by omega
  have z1b : (1 : Int) < (n : Int) := by omega
  have z1bn : 1 < n := by omega
  have z2 : ¬ (n : Int) < 2 := by omega
  have z127 : ¬ (127 : Int) < (f : Int) := by omega
  clear hk
  clear HC hP hs hx hn2 h2 q1 d1 hf ef ey
  go_enter Try.func14, Try.ntmps14
  go_wp2_with fail
  obtain ⟨W1, hW1⟩ : ∃ W1, W1 = ((w.alloc (.cells #[.int .u8 0, .int .u8 0, .slice none 0 0, .slice none 0 0, .int .u16 0, .int .u16 0] 26)).alloc (.cells #[.int .u8 (f : Nat), .int .u8 0, .slice none 0 0, .slice none 0 0, .int .u16 0, .int .u16 0] 26)) := ⟨_, rfl⟩
  have S : Pr w W1 (w.heap.size + 1) #[.int .u8 (f : Nat), .int .u8 0, .slice none 0 0, .slice none 0 0, .int .u16 0, .int .u16 0] := hW1 ▸ Pr_new w #[.int .u8 (f : Nat), .int .u8 0, .slice none 0 0, .slice none 0 0, .int .u16 0, .int .u16 0]
  rw [← hW1]
  clear hW1
  obtain ⟨k, ek⟩ : ∃ k, k = w.heap.size + 1 := ⟨_, rfl⟩
  rw [← ek] at S ⊢
  clear ek
  have SB := Sl.empty W1 W1.heap.size none
  have oB : ∀ b o, (none : Option Addr) = some (⟨b, o, none⟩ : Addr) → w.heap.size < b := fun _ _ h => by cases h
  have kB : (0 : Nat) ≤ 0 := Nat.le_refl _
  have SW := Sl.empty W1 W1.heap.size none
  have oW : ∀ b o, (none : Option Addr) = some (⟨b, o, none⟩ : Addr) → w.heap.size < b := fun _ _ h => by cases h
  have kW : (0 : Nat) ≤ 0 := Nat.le_refl _
  have RA := S.ra
  refine (ref3Bytes_any _ _ _ _ _ _ _ _ _ _ _ _ _ SB SW HWF).mono ?_
  rintro e w2 ⟨v, rfl, H⟩
  have S := S.call H.bel
  have SW := SW.to H.bel
  have SB := SB.to H.bel
  have RA := S.ra
  have rz := S.rz
  have hbel := S.bel
  have hk := S.hk
  have lz := row_lt rz
  obtain ⟨Q, hQ⟩ : ∃ Q, Q = rright ⟨f, 0, [], [], 0, 0⟩ := ⟨_, rfl⟩
  cases Q
  case false =>
    have HR := Lib.hid hQ.symm
    have hB : rbytesE ⟨f, 0, [], [], 0, 0⟩ = ([], 13) := by unfold rbytesE; rw [HR.out]; rfl
    rw [hB] at H ⊢
    clear hB hQ H
    go_wp2_with (refine wpList_store_grown rfl 26 (.tmp 2) _ rfl w.heap.size #[.int .u8 0, .int .u8 0, .slice none 0 0, .slice none 0 0, .int .u16 0, .int .u16 0] rfl rfl 26 _ rz (by kernel_rfl) rfl (by simp [Value.oneCell']) ?_; intro w9 h9 g9 s9)
    refine bodyPost_row_tmp rfl w.heap.size 26 #[.int .u8 0, .int .u8 0, .slice none 0 0, .slice none 0 0, .int .u16 0, .int .u16 0] (0, 0) _ (.int .i64 13) rfl h9 Try.underlying26 rfl (by kernel_rfl) rfl rfl ?_
    rw [HP.out, if_neg (by rw [HR.out]; simp)]
    exact RetRepTag.bare _ _ (hbel.grown g9 hbel.size (fun k hk => by injection hk with hk; omega))
  case true =>
    have HR := Lib.hid hQ.symm
    have hB : rbytesE ⟨f, 0, [], [], 0, 0⟩ = (rbytes ⟨f, 0, [], [], 0, 0⟩, 0) := by unfold rbytesE; rw [HR.out]; rfl
    rw [hB] at H ⊢
    dsimp only at H
    have hbl : Bytes (rbytes ⟨f, 0, [], [], 0, 0⟩) := by
      obtain ⟨k', _, _, hb'⟩ := rright_kd HR.out
      rw [hb']; exact kbytes_lt k' _ HWF
    obtain ⟨Av, cv, rfl, hcv, SV, _⟩ := H.slice
    have H1 := run_string (P := Try.prog) w2 _ 29 9 5 Try.underlying29 Try.underlying5 Try.underlying9 Av _ cv _ SV
    have H2 := run_string (P := Try.prog) w2 _ 29 9 5 Try.underlying29 Try.underlying5 Try.underlying9 (some ⟨b, o, none⟩) n c _ (HS.out.to hbel)
    have hSE := strB_eq (rbytes ⟨f, 0, [], [], 0, 0⟩) xs hbl HX.out
    by_cases hq : rbytes ⟨f, 0, [], [], 0, 0⟩ = xs
    case neg =>
      rw [show (rbytes ⟨f, 0, [], [], 0, 0⟩ == xs) = false by rw [beq_eq_false_iff_ne]; exact hq] at hSE
      have HQ := Lib.hid hq
      clear hB hQ H hq SV hcv
      go_wp2_with (refine wpList_store_grown rfl 26 (.tmp 2) _ rfl w.heap.size #[.int .u8 0, .int .u8 0, .slice none 0 0, .slice none 0 0, .int .u16 0, .int .u16 0] rfl rfl 26 _ rz (by kernel_rfl) rfl (by simp [Value.oneCell']) ?_; intro w9 h9 g9 s9)
      refine bodyPost_row_tmp rfl w.heap.size 26 #[.int .u8 0, .int .u8 0, .slice none 0 0, .slice none 0 0, .int .u16 0, .int .u16 0] (0, 0) _ (.int .i64 13) rfl h9 Try.underlying26 rfl (by kernel_rfl) rfl rfl ?_
      rw [HP.out, if_neg (by rw [HR.out]; simp; exact HQ.out)]
      exact RetRepTag.bare _ _ (hbel.grown g9 hbel.size (fun k hk => by injection hk with hk; omega))
    case pos =>
      have HQ := Lib.hid hq
      rw [hq] at H1 SV ⊢
      clear hB hQ H hSE hq
      go_wp2_with (first
        | (refine wpList_load_row rfl 26 (.tmp 4) rfl k rfl 26 #[.int .u8 (f : Nat), .int .u8 0, .slice none 0 0, .slice none 0 0, .int .u16 0, .int .u16 0] (0, 0) _ RA Try.underlying26 rfl (by kernel_rfl) ?_)
        | (refine wpList_store_grown rfl 26 (.tmp 2) _ rfl w.heap.size #[.int .u8 (f : Nat), .int .u8 0, .slice none 0 0, .slice none 0 0, .int .u16 0, .int .u16 0] rfl rfl 26 _ rz (by kernel_rfl) rfl (by simp [Value.oneCell']) ?_; intro w9 h9 g9 s9))
      refine bodyPost_row_tmp rfl w.heap.size 26 #[.int .u8 (f : Nat), .int .u8 0, .slice none 0 0, .slice none 0 0, .int .u16 0, .int .u16 0] (0, 0) _ (.int .i64 0) rfl h9 Try.underlying26 rfl (by kernel_rfl) rfl rfl ?_
      rw [HP.out, if_pos (by rw [HR.out, HQ.out]; simp)]
      exact ⟨_, _, _, _, _, _, rfl, SB.grown g9 (fun b o h e => by have := oB b o h; injection e with e; omega), SW.grown g9 (fun b o h e => by have := oW b o h; injection e with e; omega), kB, kW, (fun b o h => by have := oB b o h; omega), (fun b o h => by have := oW b o h; omega), hbel.grown g9 hbel.size (fun k hk => by injection hk with hk; omega)⟩
set_option maxRecDepth 100000 in
set_option maxHeartbeats 16000000 in
theorem ref3Parse_m15 (A : Option Addr) (n c : Nat) (xs : List Nat) (w : World) (hs : Sl w w.heap.size A n (bs xs)) (hx : Bytes xs) (hn2 : n ≤ 300) (h2 : 2 ≤ n) (hc : n ≤ c) (hf : xs[0]?.getD 0 = 15) :
    Calls Try.prog 14 #[.slice A n c] w (RetRepTag w (rparse xs).1 .i64 (rparse xs).2) := by
  have q1 : xs.length = n := by simpa using hs.len
  have HWF := cand3_wf hx
  have HP := Lib.hid (rparse_cand xs)
  have HC : cand3 xs = ⟨xs[0]?.getD 0, 0, [], [], atF xs 1, atF xs 3⟩ := by unfold cand3; rw [hf]; simp [kdBy, Kd.read, hf]
  obtain ⟨f, ef⟩ : ∃ f, f = xs[0]?.getD 0 := ⟨_, rfl⟩
  obtain ⟨y, ey⟩ : ∃ y, y = xs[1]?.getD 0 := ⟨_, rfl⟩
  have hf8 : f < 256 := by rw [ef]; exact hx.at 0
  have hy8 : y < 256 := by rw [ey]; exact hx.at 1
  have F8 := show IntKind.u8.wrap (f : Int) = f by rw [IntKind.wrap_u8]; omega
  rw [← ef] at HC hf
  obtain ⟨a, ea⟩ : ∃ x, x = atF xs 1 := ⟨_, rfl⟩
  have ha : a < 65536 := by rw [ea]; exact atF_lt hx 1
  have Ka := Lib.hid (fun X (b : Below w.heap.size w X) => refAt_quiet A n c xs 1 X (hs.to b) hx (by omega) (by omega))
  rw [← ea] at HC Ka
  have va : IntKind.u16.wrap (a : Int) = a := by rw [IntKind.wrap_u16]; omega
  have ua := w64 (show a ≤ 9223372036854775807 by omega)
  obtain ⟨m, em⟩ : ∃ x, x = atF xs 3 := ⟨_, rfl⟩
  have hm : m < 65536 := by rw [em]; exact atF_lt hx 3
  have Km := Lib.hid (fun X (b : Below w.heap.size w X) => refAt_quiet A n c xs 3 X (hs.to b) hx (by omega) (by omega))
  rw [← em] at HC Km
  have vm : IntKind.u16.wrap (m : Int) = m := by rw [IntKind.wrap_u16]; omega
  have um := w64 (show m ≤ 9223372036854775807 by omega)
  have T1 : ((f : Int) == 1) = false := by first | (rw [beq_eq_false_iff_ne]; omega) | (rw [beq_iff_eq]; omega)
  have T2 : ((f : Int) == 2) = false := by first | (rw [beq_eq_false_iff_ne]; omega) | (rw [beq_iff_eq]; omega)
  have T3 : ((f : Int) == 3) = false := by first | (rw [beq_eq_false_iff_ne]; omega) | (rw [beq_iff_eq]; omega)
  have T4 : ((f : Int) == 4) = false := by first | (rw [beq_eq_false_iff_ne]; omega) | (rw [beq_iff_eq]; omega)
  have T23 : ((f : Int) == 23) = false := by first | (rw [beq_eq_false_iff_ne]; omega) | (rw [beq_iff_eq]; omega)
  have T5 : ((f : Int) == 5) = false := by first | (rw [beq_eq_false_iff_ne]; omega) | (rw [beq_iff_eq]; omega)
  have T6 : ((f : Int) == 6) = false := by first | (rw [beq_eq_false_iff_ne]; omega) | (rw [beq_iff_eq]; omega)
  have T15 : ((f : Int) == 15) = true := by first | (rw [beq_eq_false_iff_ne]; omega) | (rw [beq_iff_eq]; omega)
  have T16 : ((f : Int) == 16) = false := by first | (rw [beq_eq_false_iff_ne]; omega) | (rw [beq_iff_eq]; omega)
  rw [HC] at HP HWF
  obtain ⟨P, hP⟩ : ∃ P, P = rparse xs := ⟨_, rfl⟩
  rw [← hP] at HP ⊢
  obtain ⟨b, o, rfl, hbl, d1⟩ := hs.2 (by omega)
  have g1 : w.cell? ⟨b, o, none⟩ = some (.int .u8 (f : Nat)) := (d1 0 (by omega)).trans (by rw [bs_get (by omega), ← ef])
  have g2 : w.cell? ⟨b, o + 1, none⟩ = some (.int .u8 (y : Nat)) := (d1 1 (by omega)).trans (by rw [bs_get (by omega), ← ey])
  have HS := Lib.hid hs
  have HX := Lib.hid hx
  have z1 : (0 : Int) < (n : Int) := by omega
  have z1n : 0 < n := by omega
  have z1c : (0 : Int) ≤ (n : Int) := by omega
  have z1b : (1 : Int) < (n : Int) := by omega
  have z1bn : 1 < n := by omega
  have z2 : ¬ (n : Int) < 2 := by omega
  have z127 : ¬ (127 : Int) < (f : Int) := by omega
  clear HC hP hs hx hn2 h2 q1 d1 hf ef ey ea em
  go_enter Try.func14, Try.ntmps14
  go_wp2_with fail
  obtain ⟨W1, hW1⟩ : ∃ W1, W1 = ((w.alloc (.cells #[.int .u8 0, .int .u8 0, .slice none 0 0, .slice none 0 0, .int .u16 0, .int .u16 0] 26)).alloc (.cells #[.int .u8 (f : Nat), .int .u8 0, .slice none 0 0, .slice none 0 0, .int .u16 0, .int .u16 0] 26)) := ⟨_, rfl⟩
  have S : Pr w W1 (w.heap.size + 1) #[.int .u8 (f : Nat), .int .u8 0, .slice none 0 0, .slice none 0 0, .int .u16 0, .int .u16 0] := hW1 ▸ Pr_new w #[.int .u8 (f : Nat), .int .u8 0, .slice none 0 0, .slice none 0 0, .int .u16 0, .int .u16 0]
  rw [← hW1]
  clear hW1
  obtain ⟨k, ek⟩ : ∃ k, k = w.heap.size + 1 := ⟨_, rfl⟩
  rw [← ek] at S ⊢
  clear ek
  refine (Ka.out _ S.bel).mono ?_
  rintro e W2 ⟨rfl, dd, hdd⟩
  have S := S.drewN dd
  rw [← hdd] at S
  clear hdd
  obtain ⟨c0, c1, c2, c3, c4, c5⟩ := row6 S.ra
  obtain ⟨f0, f1, f2, f3, f4, f5⟩ := free6 S.ra
  have slt := S.lt
  have sne : ¬ W2.heap.size = k := by omega
  have sne2 : ¬ k = W2.heap.size := by omega
  have S := S.set 4 (.int .u16 (a : Nat))
  go_wp2_with fail
  refine (Km.out _ S.bel).mono ?_
  rintro e W3 ⟨rfl, dd, hdd⟩
  have S := S.drewN dd
  rw [← hdd] at S
  clear hdd
  obtain ⟨c0, c1, c2, c3, c4, c5⟩ := row6 S.ra
  obtain ⟨f0, f1, f2, f3, f4, f5⟩ := free6 S.ra
  have slt := S.lt
  have sne : ¬ W3.heap.size = k := by omega
  have sne2 : ¬ k = W3.heap.size := by omega
  have S := S.set 5 (.int .u16 (m : Nat))
  have SB := Sl.empty (W3.setCell ⟨k, 5, none⟩ (.int .u16 (m : Nat))) (W3.setCell ⟨k, 5, none⟩ (.int .u16 (m : Nat))).heap.size none
  have oB : ∀ b o, (none : Option Addr) = some (⟨b, o, none⟩ : Addr) → w.heap.size < b := fun _ _ h => by cases h
  have kB : (0 : Nat) ≤ 0 := Nat.le_refl _
  have SW := Sl.empty (W3.setCell ⟨k, 5, none⟩ (.int .u16 (m : Nat))) (W3.setCell ⟨k, 5, none⟩ (.int .u16 (m : Nat))).heap.size none
  have oW : ∀ b o, (none : Option Addr) = some (⟨b, o, none⟩ : Addr) → w.heap.size < b := fun _ _ h => by cases h
  have kW : (0 : Nat) ≤ 0 := Nat.le_refl _
  have RA := S.ra
  go_wp2_with (first
    | (refine wpList_load_row rfl 26 (.tmp 4) rfl k rfl 26 #[.int .u8 (f : Nat), .int .u8 0, .slice none 0 0, .slice none 0 0, .int .u16 (a : Nat), .int .u16 (m : Nat)] (0, 0) _ RA Try.underlying26 rfl (by kernel_rfl) ?_))
  refine (ref3Bytes_any _ _ _ _ _ _ _ _ _ _ _ _ _ SB SW HWF).mono ?_
  rintro e w2 ⟨v, rfl, H⟩
  have S := S.call H.bel
  have SW := SW.to H.bel
  have SB := SB.to H.bel
  have RA := S.ra
  have rz := S.rz
  have hbel := S.bel
  have hk := S.hk
  have lz := row_lt rz
  obtain ⟨Q, hQ⟩ : ∃ Q, Q = rright ⟨f, 0, [], [], a, m⟩ := ⟨_, rfl⟩
  cases Q
  case false =>
    have HR := Lib.hid hQ.symm
    have hB : rbytesE ⟨f, 0, [], [], a, m⟩ = ([], 13) := by unfold rbytesE; rw [HR.out]; rfl
    rw [hB] at H ⊢
    clear hB hQ H
    go_wp2_with (refine wpList_store_grown rfl 26 (.tmp 2) _ rfl w.heap.size #[.int .u8 0, .int .u8 0, .slice none 0 0, .slice none 0 0, .int .u16 0, .int .u16 0] rfl rfl 26 _ rz (by kernel_rfl) rfl (by simp [Value.oneCell']) ?_; intro w9 h9 g9 s9)
    refine bodyPost_row_tmp rfl w.heap.size 26 #[.int .u8 0, .int .u8 0, .slice none 0 0, .slice none 0 0, .int .u16 0, .int .u16 0] (0, 0) _ (.int .i64 13) rfl h9 Try.underlying26 rfl (by kernel_rfl) rfl rfl ?_
    rw [HP.out, if_neg (by rw [HR.out]; simp)]
    exact RetRepTag.bare _ _ (hbel.grown g9 hbel.size (fun k hk => by injection hk with hk; omega))
  case true =>
    have HR := Lib.hid hQ.symm
    have hB : rbytesE ⟨f, 0, [], [], a, m⟩ = (rbytes ⟨f, 0, [], [], a, m⟩, 0) := by unfold rbytesE; rw [HR.out]; rfl
    rw [hB] at H ⊢
    dsimp only at H
    have hbl : Bytes (rbytes ⟨f, 0, [], [], a, m⟩) := by
      obtain ⟨k', _, _, hb'⟩ := rright_kd HR.out
      rw [hb']; exact kbytes_lt k' _ HWF
    obtain ⟨Av, cv, rfl, hcv, SV, _⟩ := H.slice
    have H1 := run_string (P := Try.prog) w2 _ 29 9 5 Try.underlying29 Try.underlying5 Try.underlying9 Av _ cv _ SV
    have H2 := run_string (P := Try.prog) w2 _ 29 9 5 Try.underlying29 Try.underlying5 Try.underlying9 (some ⟨b, o, none⟩) n c _ (HS.out.to hbel)
    have hSE := strB_eq (rbytes ⟨f, 0, [], [], a, m⟩) xs hbl HX.out
    by_cases hq : rbytes ⟨f, 0, [], [], a, m⟩ = xs
    case neg =>
      rw [show (rbytes ⟨f, 0, [], [], a, m⟩ == xs) = false by rw [beq_eq_false_iff_ne]; exact hq] at hSE
      have HQ := Lib.hid hq
      clear hB hQ H hq SV hcv
      go_wp2_with (refine wpList_store_grown rfl 26 (.tmp 2) _ rfl w.heap.size #[.int .u8 0, .int .u8 0, .slice none 0 0, .slice none 0 0, .int .u16 0, .int .u16 0] rfl rfl 26 _ rz (by kernel_rfl) rfl (by simp [Value.oneCell']) ?_; intro w9 h9 g9 s9)
      refine bodyPost_row_tmp rfl w.heap.size 26 #[.int .u8 0, .int .u8 0, .slice none 0 0, .slice none 0 0, .int .u16 0, .int .u16 0] (0, 0) _ (.int .i64 13) rfl h9 Try.underlying26 rfl (by kernel_rfl) rfl rfl ?_
      rw [HP.out, if_neg (by rw [HR.out]; simp; exact HQ.out)]
      exact RetRepTag.bare _ _ (hbel.grown g9 hbel.size (fun k hk => by injection hk with hk; omega))
    case pos =>
      have HQ := Lib.hid hq
      rw [hq] at H1 SV ⊢
      clear hB hQ H hSE hq
      go_wp2_with (first
        | (refine wpList_load_row rfl 26 (.tmp 4) rfl k rfl 26 #[.int .u8 (f : Nat), .int .u8 0, .slice none 0 0, .slice none 0 0, .int .u16 (a : Nat), .int .u16 (m : Nat)] (0, 0) _ RA Try.underlying26 rfl (by kernel_rfl) ?_)
        | (refine wpList_store_grown rfl 26 (.tmp 2) _ rfl w.heap.size #[.int .u8 (f : Nat), .int .u8 0, .slice none 0 0, .slice none 0 0, .int .u16 (a : Nat), .int .u16 (m : Nat)] rfl rfl 26 _ rz (by kernel_rfl) rfl (by simp [Value.oneCell']) ?_; intro w9 h9 g9 s9))
      refine bodyPost_row_tmp rfl w.heap.size 26 #[.int .u8 (f : Nat), .int .u8 0, .slice none 0 0, .slice none 0 0, .int .u16 (a : Nat), .int .u16 (m : Nat)] (0, 0) _ (.int .i64 0) rfl h9 Try.underlying26 rfl (by kernel_rfl) rfl rfl ?_
      rw [HP.out, if_pos (by rw [HR.out, HQ.out]; simp)]
      exact ⟨_, _, _, _, _, _, rfl, SB.grown g9 (fun b o h e => by have := oB b o h; injection e with e; omega), SW.grown g9 (fun b o h e => by have := oW b o h; injection e with e; omega), kB, kW, (fun b o h => by have := oB b o h; omega), (fun b o h => by have := oW b o h; omega), hbel.grown g9 hbel.size (fun k hk => by injection hk with hk; omega)⟩
set_option maxRecDepth 100000 in
set_option maxHeartbeats 16000000 in
theorem ref3Parse_m16 (A : Option Addr) (n c : Nat) (xs : List Nat) (w : World) (hs : Sl w w.heap.size A n (bs xs)) (hx : Bytes xs) (hn2 : n ≤ 300) (h2 : 2 ≤ n) (hc : n ≤ c) (hf : xs[0]?.getD 0 = 16) :
    Calls Try.prog 14 #[.slice A n c] w (RetRepTag w (rparse xs).1 .i64 (rparse xs).2) := by
  have q1 : xs.length = n := by simpa using hs.len
  have HWF := cand3_wf hx
  have HP := Lib.hid (rparse_cand xs)
  have HC : cand3 xs = ⟨xs[0]?.getD 0, 0, [], [], atF xs 1, atF xs 3⟩ := by unfold cand3; rw [hf]; simp [kdBy, Kd.read, hf]
  obtain ⟨f, ef⟩ : ∃ f, f = xs[0]?.getD 0 := ⟨_, rfl⟩
  obtain ⟨y, ey⟩ : ∃ y, y = xs[1]?.getD 0 := ⟨_, rfl⟩
  have hf8 : f < 256 := by rw [ef]; exact hx.at 0
  have hy8 : y < 256 := by rw [ey]; exact hx.at 1
  have F8 := show IntKind.u8.wrap (f : Int) = f by rw [IntKind.wrap_u8]; omega
  rw [← ef] at HC hf
  obtain ⟨a, ea⟩ : ∃ x, x = atF xs 1 := ⟨_, rfl⟩
  have ha : a < 65536 := by rw [ea]; exact atF_lt hx 1
  have Ka := Lib.hid (fun X (b : Below w.heap.size w X) => refAt_quiet A n c xs 1 X (hs.to b) hx (by omega) (by omega))
  rw [← ea] at HC Ka
  have va : IntKind.u16.wrap (a : Int) = a := by rw [IntKind.wrap_u16]; omega
  have ua := w64 (show a ≤ 9223372036854775807 by omega)
  obtain ⟨m, em⟩ : ∃ x, x = atF xs 3 := ⟨_, rfl⟩
  have hm : m < 65536 := by rw [em]; exact atF_lt hx 3
  have Km := Lib.hid (fun X (b : Below w.heap.size w X) => refAt_quiet A n c xs 3 X (hs.to b) hx (by omega) (by omega))
  rw [← em] at HC Km
  have vm : IntKind.u16.wrap (m : Int) = m := by rw [IntKind.wrap_u16]; omega
  have um := w64 (show m ≤ 9223372036854775807 by omega)
  have T1 : ((f : Int) == 1) = false := by first | (rw [beq_eq_false_iff_ne]; omega) | (rw [beq_iff_eq]; omega)
  have T2 : ((f : Int) == 2) = false := by first | (rw [beq_eq_false_iff_ne]; omega) | (rw [beq_iff_eq]; omega)
  have T3 : ((f : Int) == 3) = false := by first | (rw [beq_eq_false_iff_ne]; omega) | (rw [beq_iff_eq]; omega)
  have T4 : ((f : Int) == 4) = false := by first | (rw [beq_eq_false_iff_ne]; omega) | (rw [beq_iff_eq]; omega)
  have T23 : ((f : Int) == 23) = false := by first | (rw [beq_eq_false_iff_ne]; omega) | (rw [beq_iff_eq]; omega)
  have T5 : ((f : Int) == 5) = false := by first | (rw [beq_eq_false_iff_ne]; omega) | (rw [beq_iff_eq]; omega)
  have T6 : ((f : Int) == 6) = false := by first | (rw [beq_eq_false_iff_ne]; omega) | (rw [beq_iff_eq]; omega)
  have T15 : ((f : Int) == 15) = false := by first | (rw [beq_eq_false_iff_ne]; omega) | (rw [beq_iff_eq]; omega)
  have T16 : ((f : Int) == 16) = true := by first | (rw [beq_eq_false_iff_ne]; omega) | (rw [beq_iff_eq]; omega)
  rw [HC] at HP HWF
  obtain ⟨P, hP⟩ : ∃ P, P = rparse xs := ⟨_, rfl⟩
  rw [← hP] at HP ⊢
  obtain ⟨b, o, rfl, hbl, d1⟩ := hs.2 (by omega)
  have g1 : w.cell? ⟨b, o, none⟩ = some (.int .u8 (f : Nat)) := (d1 0 (by omega)).trans (by rw [bs_get (by omega), ← ef])
  have g2 : w.cell? ⟨b, o + 1, none⟩ = some (.int .u8 (y : Nat)) := (d1 1 (by omega)).trans (by rw [bs_get (by omega), ← ey])
  have HS := Lib.hid hs
  have HX := Lib.hid hx
  have z1 : (0 : Int) < (n : Int) := by omega
  have z1n : 0 < n := by omega
  have z1c : (0 : Int) ≤ (n : Int) := by omega
  have z1b : (1 : Int) < (n : Int) := by omega
  have z1bn : 1 < n := by omega
  have z2 : ¬ (n : Int) < 2 := by omega
  have z127 : ¬ (127 : Int) < (f : Int) := by omega
  clear HC hP hs hx hn2 h2 q1 d1 hf ef ey ea em
  go_enter Try.func14, Try.ntmps14
  go_wp2_with fail
  obtain ⟨W1, hW1⟩ : ∃ W1, W1 = ((w.alloc (.cells #[.int .u8 0, .int .u8 0, .slice none 0 0, .slice none 0 0, .int .u16 0, .int .u16 0] 26)).alloc (.cells #[.int .u8 (f : Nat), .int .u8 0, .slice none 0 0, .slice none 0 0, .int .u16 0, .int .u16 0] 26)) := ⟨_, rfl⟩
  have S : Pr w W1 (w.heap.size + 1) #[.int .u8 (f : Nat), .int .u8 0, .slice none 0 0, .slice none 0 0, .int .u16 0, .int .u16 0] := hW1 ▸ Pr_new w #[.int .u8 (f : Nat), .int .u8 0, .slice none 0 0, .slice none 0 0, .int .u16 0, .int .u16 0]
  rw [← hW1]
  clear hW1
  obtain ⟨k, ek⟩ : ∃ k, k = w.heap.size + 1 := ⟨_, rfl⟩
  rw [← ek] at S ⊢
  clear ek
  refine (Ka.out _ S.bel).mono ?_
  rintro e W2 ⟨rfl, dd, hdd⟩
  have S := S.drewN dd
  rw [← hdd] at S
  clear hdd
  obtain ⟨c0, c1, c2, c3, c4, c5⟩ := row6 S.ra
  obtain ⟨f0, f1, f2, f3, f4, f5⟩ := free6 S.ra
  have slt := S.lt
  have sne : ¬ W2.heap.size = k := by omega
  have sne2 : ¬ k = W2.heap.size := by omega
  have S := S.set 4 (.int .u16 (a : Nat))
  go_wp2_with fail
  refine (Km.out _ S.bel).mono ?_
  rintro e W3 ⟨rfl, dd, hdd⟩
  have S := S.drewN dd
  rw [← hdd] at S
  clear hdd
  obtain ⟨c0, c1, c2, c3, c4, c5⟩ := row6 S.ra
  obtain ⟨f0, f1, f2, f3, f4, f5⟩ := free6 S.ra
  have slt := S.lt
  have sne : ¬ W3.heap.size = k := by omega
  have sne2 : ¬ k = W3.heap.size := by omega
  have S := S.set 5 (.int .u16 (m : Nat))
  have SB := Sl.empty (W3.setCell ⟨k, 5, none⟩ (.int .u16 (m : Nat))) (W3.setCell ⟨k, 5, none⟩ (.int .u16 (m : Nat))).heap.size none
  have oB : ∀ b o, (none : Option Addr) = some (⟨b, o, none⟩ : Addr) → w.heap.size < b := fun _ _ h => by cases h
  have kB : (0 : Nat) ≤ 0 := Nat.le_refl _
  have SW := Sl.empty (W3.setCell ⟨k, 5, none⟩ (.int .u16 (m : Nat))) (W3.setCell ⟨k, 5, none⟩ (.int .u16 (m : Nat))).heap.size none
  have oW : ∀ b o, (none : Option Addr) = some (⟨b, o, none⟩ : Addr) → w.heap.size < b := fun _ _ h => by cases h
  have kW : (0 : Nat) ≤ 0 := Nat.le_refl _
  have RA := S.ra
  go_wp2_with (first
    | (refine wpList_load_row rfl 26 (.tmp 4) rfl k rfl 26 #[.int .u8 (f : Nat), .int .u8 0, .slice none 0 0, .slice none 0 0, .int .u16 (a : Nat), .int .u16 (m : Nat)] (0, 0) _ RA Try.underlying26 rfl (by kernel_rfl) ?_))
  refine (ref3Bytes_any _ _ _ _ _ _ _ _ _ _ _ _ _ SB SW HWF).mono ?_
  rintro e w2 ⟨v, rfl, H⟩
  have S := S.call H.bel
  have SW := SW.to H.bel
  have SB := SB.to H.bel
  have RA := S.ra
  have rz := S.rz
  have hbel := S.bel
  have hk := S.hk
  have lz := row_lt rz
  obtain ⟨Q, hQ⟩ : ∃ Q, Q = rright ⟨f, 0, [], [], a, m⟩ := ⟨_, rfl⟩
  cases Q
  case false =>
    have HR := Lib.hid hQ.symm
    have hB : rbytesE ⟨f, 0, [], [], a, m⟩ = ([], 13) := by unfold rbytesE; rw [HR.out]; rfl
    rw [hB] at H ⊢
    clear hB hQ H
    go_wp2_with (refine wpList_store_grown rfl 26 (.tmp 2) _ rfl w.heap.size #[.int .u8 0, .int .u8 0, .slice none 0 0, .slice none 0 0, .int .u16 0, .int .u16 0] rfl rfl 26 _ rz (by kernel_rfl) rfl (by simp [Value.oneCell']) ?_; intro w9 h9 g9 s9)
    refine bodyPost_row_tmp rfl w.heap.size 26 #[.int .u8 0, .int .u8 0, .slice none 0 0, .slice none 0 0, .int .u16 0, .int .u16 0] (0, 0) _ (.int .i64 13) rfl h9 Try.underlying26 rfl (by kernel_rfl) rfl rfl ?_
    rw [HP.out, if_neg (by rw [HR.out]; simp)]
    exact RetRepTag.bare _ _ (hbel.grown g9 hbel.size (fun k hk => by injection hk with hk; omega))
  case true =>
    have HR := Lib.hid hQ.symm
    have hB : rbytesE ⟨f, 0, [], [], a, m⟩ = (rbytes ⟨f, 0, [], [], a, m⟩, 0) := by unfold rbytesE; rw [HR.out]; rfl
    rw [hB] at H ⊢
    dsimp only at H
    have hbl : Bytes (rbytes ⟨f, 0, [], [], a, m⟩) := by
      obtain ⟨k', _, _, hb'⟩ := rright_kd HR.out
      rw [hb']; exact kbytes_lt k' _ HWF
    obtain ⟨Av, cv, rfl, hcv, SV, _⟩ := H.slice
    have H1 := run_string (P := Try.prog) w2 _ 29 9 5 Try.underlying29 Try.underlying5 Try.underlying9 Av _ cv _ SV
    have H2 := run_string (P := Try.prog) w2 _ 29 9 5 Try.underlying29 Try.underlying5 Try.underlying9 (some ⟨b, o, none⟩) n c _ (HS.out.to hbel)
    have hSE := strB_eq (rbytes ⟨f, 0, [], [], a, m⟩) xs hbl HX.out
    by_cases hq : rbytes ⟨f, 0, [], [], a, m⟩ = xs
    case neg =>
      rw [show (rbytes ⟨f, 0, [], [], a, m⟩ == xs) = false by rw [beq_eq_false_iff_ne]; exact hq] at hSE
      have HQ := Lib.hid hq
      clear hB hQ H hq SV hcv
      go_wp2_with (refine wpList_store_grown rfl 26 (.tmp 2) _ rfl w.heap.size #[.int .u8 0, .int .u8 0, .slice none 0 0, .slice none 0 0, .int .u16 0, .int .u16 0] rfl rfl 26 _ rz (by kernel_rfl) rfl (by simp [Value.oneCell']) ?_; intro w9 h9 g9 s9)
      refine bodyPost_row_tmp rfl w.heap.size 26 #[.int .u8 0, .int .u8 0, .slice none 0 0, .slice none 0 0, .int .u16 0, .int .u16 0] (0, 0) _ (.int .i64 13) rfl h9 Try.underlying26 rfl (by kernel_rfl) rfl rfl ?_
      rw [HP.out, if_neg (by rw [HR.out]; simp; exact HQ.out)]
      exact RetRepTag.bare _ _ (hbel.grown g9 hbel.size (fun k hk => by injection hk with hk; omega))
    case pos =>
      have HQ := Lib.hid hq
      rw [hq] at H1 SV ⊢
      clear hB hQ H hSE hq
      go_wp2_with (first
        | (refine wpList_load_row rfl 26 (.tmp 4) rfl k rfl 26 #[.int .u8 (f : Nat), .int .u8 0, .slice none 0 0, .slice none 0 0, .int .u16 (a : Nat), .int .u16 (m : Nat)] (0, 0) _ RA Try.underlying26 rfl (by kernel_rfl) ?_)
        | (refine wpList_store_grown rfl 26 (.tmp 2) _ rfl w.heap.size #[.int .u8 (f : Nat), .int .u8 0, .slice none 0 0, .slice none 0 0, .int .u16 (a : Nat), .int .u16 (m : Nat)] rfl rfl 26 _ rz (by kernel_rfl) rfl (by simp [Value.oneCell']) ?_; intro w9 h9 g9 s9))
      refine bodyPost_row_tmp rfl w.heap.size 26 #[.int .u8 (f : Nat), .int .u8 0, .slice none 0 0, .slice none 0 0, .int .u16 (a : Nat), .int .u16 (m : Nat)] (0, 0) _ (.int .i64 0) rfl h9 Try.underlying26 rfl (by kernel_rfl) rfl rfl ?_
      rw [HP.out, if_pos (by rw [HR.out, HQ.out]; simp)]
      exact ⟨_, _, _, _, _, _, rfl, SB.grown g9 (fun b o h e => by have := oB b o h; injection e with e; omega), SW.grown g9 (fun b o h e => by have := oW b o h; injection e with e; omega), kB, kW, (fun b o h => by have := oB b o h; omega), (fun b o h => by have := oW b o h; omega), hbel.grown g9 hbel.size (fun k hk => by injection hk with hk; omega)⟩
set_option maxRecDepth 100000 in
set_option maxHeartbeats 16000000 in
theorem ref3Parse_bit (A : Option Addr) (n c : Nat) (xs : List Nat) (w : World) (hs : Sl w w.heap.size A n (bs xs)) (hx : Bytes xs) (hn2 : n ≤ 300) (h2 : 2 ≤ n) (hc : n ≤ c) (hf : xs[0]?.getD 0 = 5) :
    Calls Try.prog 14 #[.slice A n c] w (RetRepTag w (rparse xs).1 .i64 (rparse xs).2) := by
  have q1 : xs.length = n := by simpa using hs.len
  have HWF := cand3_wf hx
  have HP := Lib.hid (rparse_cand xs)
  have HC : cand3 xs = ⟨xs[0]?.getD 0, 0, [atF xs 3 == 65280], [], atF xs 1, 0⟩ := by unfold cand3; rw [hf]; simp [kdBy, Kd.read, hf]
  obtain ⟨f, ef⟩ : ∃ f, f = xs[0]?.getD 0 := ⟨_, rfl⟩
  obtain ⟨y, ey⟩ : ∃ y, y = xs[1]?.getD 0 := ⟨_, rfl⟩
  have hf8 : f < 256 := by rw [ef]; exact hx.at 0
  have hy8 : y < 256 := by rw [ey]; exact hx.at 1
  have F8 := show IntKind.u8.wrap (f : Int) = f by rw [IntKind.wrap_u8]; omega
  rw [← ef] at HC hf
  obtain ⟨a, ea⟩ : ∃ x, x = atF xs 1 := ⟨_, rfl⟩
  have ha : a < 65536 := by rw [ea]; exact atF_lt hx 1
  have Ka := Lib.hid (fun X (b : Below w.heap.size w X) => refAt_quiet A n c xs 1 X (hs.to b) hx (by omega) (by omega))
  rw [← ea] at HC Ka
  have va : IntKind.u16.wrap (a : Int) = a := by rw [IntKind.wrap_u16]; omega
  have ua := w64 (show a ≤ 9223372036854775807 by omega)
  obtain ⟨m, em⟩ : ∃ x, x = atF xs 3 := ⟨_, rfl⟩
  have hm : m < 65536 := by rw [em]; exact atF_lt hx 3
  have Km := Lib.hid (fun X (b : Below w.heap.size w X) => refAt_quiet A n c xs 3 X (hs.to b) hx (by omega) (by omega))
  rw [← em] at HC Km
  have vm : IntKind.u16.wrap (m : Int) = m := by rw [IntKind.wrap_u16]; omega
  have um := w64 (show m ≤ 9223372036854775807 by omega)
  have T1 : ((f : Int) == 1) = false := by first | (rw [beq_eq_false_iff_ne]; omega) | (rw [beq_iff_eq]; omega)
  have T2 : ((f : Int) == 2) = false := by first | (rw [beq_eq_false_iff_ne]; omega) | (rw [beq_iff_eq]; omega)
  have T3 : ((f : Int) == 3) = false := by first | (rw [beq_eq_false_iff_ne]; omega) | (rw [beq_iff_eq]; omega)
  have T4 : ((f : Int) == 4) = false := by first | (rw [beq_eq_false_iff_ne]; omega) | (rw [beq_iff_eq]; omega)
  have T23 : ((f : Int) == 23) = false := by first | (rw [beq_eq_false_iff_ne]; omega) | (rw [beq_iff_eq]; omega)
  have T5 : ((f : Int) == 5) = true := by first | (rw [beq_eq_false_iff_ne]; omega) | (rw [beq_iff_eq]; omega)
  have T6 : ((f : Int) == 6) = false := by first | (rw [beq_eq_false_iff_ne]; omega) | (rw [beq_iff_eq]; omega)
  have T15 : ((f : Int) == 15) = false := by first | (rw [beq_eq_false_iff_ne]; omega) | (rw [beq_iff_eq]; omega)
  have T16 : ((f : Int) == 16) = false := by first | (rw [beq_eq_false_iff_ne]; omega) | (rw [beq_iff_eq]; omega)
  rw [HC] at HP HWF
  obtain ⟨P, hP⟩ : ∃ P, P = rparse xs := ⟨_, rfl⟩
  rw [← hP] at HP ⊢
  obtain ⟨b, o, rfl, hbl, d1⟩ := hs.2 (by omega)
  have g1 : w.cell? ⟨b, o, none⟩ = some (.int .u8 (f : Nat)) := (d1 0 (by omega)).trans (by rw [bs_get (by omega), ← ef])
  have g2 : w.cell? ⟨b, o + 1, none⟩ = some (.int .u8 (y : Nat)) := (d1 1 (by omega)).trans (by rw [bs_get (by omega), ← ey])
  have HS := Lib.hid hs
  have HX := Lib.hid hx
  have z1 : (0 : Int) < (n : Int) := by omega
  have z1n : 0 < n := by omega
  have z1c : (0 : Int) ≤ (n : Int) := by omega
  have z1b : (1 : Int) < (n : Int) := by omega
  have z1bn : 1 < n := by omega
  have z2 : ¬ (n : Int) < 2 := by omega
  have hmb : ((m : Int) == 65280) = (m == 65280) := by rw [Bool.eq_iff_iff]; simp; omega
  obtain ⟨x, ex⟩ : ∃ x, x = (m == 65280) := ⟨_, rfl⟩
  rw [← ex] at hmb HP HWF
  clear ex
  have z127 : ¬ (127 : Int) < (f : Int) := by omega
  clear HC hP hs hx hn2 h2 q1 d1 hf ef ey ea em
  go_enter Try.func14, Try.ntmps14
  go_wp2_with fail
  obtain ⟨W1, hW1⟩ : ∃ W1, W1 = ((w.alloc (.cells #[.int .u8 0, .int .u8 0, .slice none 0 0, .slice none 0 0, .int .u16 0, .int .u16 0] 26)).alloc (.cells #[.int .u8 (f : Nat), .int .u8 0, .slice none 0 0, .slice none 0 0, .int .u16 0, .int .u16 0] 26)) := ⟨_, rfl⟩
  have S : Pr w W1 (w.heap.size + 1) #[.int .u8 (f : Nat), .int .u8 0, .slice none 0 0, .slice none 0 0, .int .u16 0, .int .u16 0] := hW1 ▸ Pr_new w #[.int .u8 (f : Nat), .int .u8 0, .slice none 0 0, .slice none 0 0, .int .u16 0, .int .u16 0]
  rw [← hW1]
  clear hW1
  obtain ⟨k, ek⟩ : ∃ k, k = w.heap.size + 1 := ⟨_, rfl⟩
  rw [← ek] at S ⊢
  clear ek
  refine (Ka.out _ S.bel).mono ?_
  rintro e W2 ⟨rfl, dd, hdd⟩
  have S := S.drewN dd
  rw [← hdd] at S
  clear hdd
  obtain ⟨c0, c1, c2, c3, c4, c5⟩ := row6 S.ra
  obtain ⟨f0, f1, f2, f3, f4, f5⟩ := free6 S.ra
  have slt := S.lt
  have sne : ¬ W2.heap.size = k := by omega
  have sne2 : ¬ k = W2.heap.size := by omega
  have S := S.set 4 (.int .u16 (a : Nat))
  go_wp2_with fail
  refine (Km.out _ S.bel).mono ?_
  rintro e W3 ⟨rfl, dd, hdd⟩
  have S := S.drewN dd
  rw [← hdd] at S
  clear hdd
  obtain ⟨c0, c1, c2, c3, c4, c5⟩ := row6 S.ra
  obtain ⟨f0, f1, f2, f3, f4, f5⟩ := free6 S.ra
  have slt := S.lt
  have sne : ¬ W3.heap.size = k := by omega
  have sne2 : ¬ k = W3.heap.size := by omega
  have S := (S.set 2 (.slice (some ⟨W3.heap.size, 0, none⟩) 1 1)).call ((Below.refl _ _).new (.cells #[.bool x] 4))
  have es : (W3.setCell ⟨k, 2, none⟩ (.slice (some ⟨W3.heap.size, 0, none⟩) 1 1)).heap.size = W3.heap.size := by simp [World.setCell]
  have SB : Sl ((W3.setCell ⟨k, 2, none⟩ (.slice (some ⟨W3.heap.size, 0, none⟩) 1 1)).alloc (.cells #[.bool x] 4)) ((W3.setCell ⟨k, 2, none⟩ (.slice (some ⟨W3.heap.size, 0, none⟩) 1 1)).alloc (.cells #[.bool x] 4)).heap.size (some ⟨W3.heap.size, 0, none⟩) 1 (bl [x]) := by
    have h := (Sl.new1 (W3.setCell ⟨k, 2, none⟩ (.slice (some ⟨W3.heap.size, 0, none⟩) 1 1)) (.bool x) 4).mono (B' := ((W3.setCell ⟨k, 2, none⟩ (.slice (some ⟨W3.heap.size, 0, none⟩) 1 1)).alloc (.cells #[.bool x] 4)).heap.size) (by simp)
    rw [es] at h
    exact h
  have SW := Sl.empty ((W3.setCell ⟨k, 2, none⟩ (.slice (some ⟨W3.heap.size, 0, none⟩) 1 1)).alloc (.cells #[.bool x] 4)) ((W3.setCell ⟨k, 2, none⟩ (.slice (some ⟨W3.heap.size, 0, none⟩) 1 1)).alloc (.cells #[.bool x] 4)).heap.size none
  have oW : ∀ b o, (none : Option Addr) = some (⟨b, o, none⟩ : Addr) → w.heap.size < b := fun _ _ h => by cases h
  have oB : ∀ b o, (some (⟨W3.heap.size, 0, none⟩ : Addr)) = some (⟨b, o, none⟩ : Addr) → w.heap.size < b := fun b o h => by have := S.hk; injection h with h; injection h with h _; omega
  have kW : (0 : Nat) ≤ 0 := Nat.le_refl _
  have kB : (1 : Nat) ≤ 1 := Nat.le_refl _
  have RA := S.ra
  go_wp2_with (first
    | (refine wpList_load_row rfl 26 (.tmp 4) rfl k rfl 26 #[.int .u8 (f : Nat), .int .u8 0, .slice (some ⟨W3.heap.size, 0, none⟩) 1 1, .slice none 0 0, .int .u16 (a : Nat), .int .u16 0] (0, 0) _ RA Try.underlying26 rfl (by kernel_rfl) ?_))
  refine (ref3Bytes_any _ _ _ _ _ _ _ _ _ _ _ _ _ SB SW HWF).mono ?_
  rintro e w2 ⟨v, rfl, H⟩
  have S := S.call H.bel
  have SW := SW.to H.bel
  have SB := SB.to H.bel
  have RA := S.ra
  have rz := S.rz
  have hbel := S.bel
  have hk := S.hk
  have lz := row_lt rz
  obtain ⟨Q, hQ⟩ : ∃ Q, Q = rright ⟨f, 0, [x], [], a, 0⟩ := ⟨_, rfl⟩
  cases Q
  case false =>
    have HR := Lib.hid hQ.symm
    have hB : rbytesE ⟨f, 0, [x], [], a, 0⟩ = ([], 13) := by unfold rbytesE; rw [HR.out]; rfl
    rw [hB] at H ⊢
    clear hB hQ H
    go_wp2_with (refine wpList_store_grown rfl 26 (.tmp 2) _ rfl w.heap.size #[.int .u8 0, .int .u8 0, .slice none 0 0, .slice none 0 0, .int .u16 0, .int .u16 0] rfl rfl 26 _ rz (by kernel_rfl) rfl (by simp [Value.oneCell']) ?_; intro w9 h9 g9 s9)
    refine bodyPost_row_tmp rfl w.heap.size 26 #[.int .u8 0, .int .u8 0, .slice none 0 0, .slice none 0 0, .int .u16 0, .int .u16 0] (0, 0) _ (.int .i64 13) rfl h9 Try.underlying26 rfl (by kernel_rfl) rfl rfl ?_
    rw [HP.out, if_neg (by rw [HR.out]; simp)]
    exact RetRepTag.bare _ _ (hbel.grown g9 hbel.size (fun k hk => by injection hk with hk; omega))
  case true =>
    have HR := Lib.hid hQ.symm
    have hB : rbytesE ⟨f, 0, [x], [], a, 0⟩ = (rbytes ⟨f, 0, [x], [], a, 0⟩, 0) := by unfold rbytesE; rw [HR.out]; rfl
    rw [hB] at H ⊢
    dsimp only at H
    have hbl : Bytes (rbytes ⟨f, 0, [x], [], a, 0⟩) := by
      obtain ⟨k', _, _, hb'⟩ := rright_kd HR.out
      rw [hb']; exact kbytes_lt k' _ HWF
    obtain ⟨Av, cv, rfl, hcv, SV, _⟩ := H.slice
    have H1 := run_string (P := Try.prog) w2 _ 29 9 5 Try.underlying29 Try.underlying5 Try.underlying9 Av _ cv _ SV
    have H2 := run_string (P := Try.prog) w2 _ 29 9 5 Try.underlying29 Try.underlying5 Try.underlying9 (some ⟨b, o, none⟩) n c _ (HS.out.to hbel)
    have hSE := strB_eq (rbytes ⟨f, 0, [x], [], a, 0⟩) xs hbl HX.out
    by_cases hq : rbytes ⟨f, 0, [x], [], a, 0⟩ = xs
    case neg =>
      rw [show (rbytes ⟨f, 0, [x], [], a, 0⟩ == xs) = false by rw [beq_eq_false_iff_ne]; exact hq] at hSE
      have HQ := Lib.hid hq
      clear hB hQ H hq SV hcv
      go_wp2_with (refine wpList_store_grown rfl 26 (.tmp 2) _ rfl w.heap.size #[.int .u8 0, .int .u8 0, .slice none 0 0, .slice none 0 0, .int .u16 0, .int .u16 0] rfl rfl 26 _ rz (by kernel_rfl) rfl (by simp [Value.oneCell']) ?_; intro w9 h9 g9 s9)
      refine bodyPost_row_tmp rfl w.heap.size 26 #[.int .u8 0, .int .u8 0, .slice none 0 0, .slice none 0 0, .int .u16 0, .int .u16 0] (0, 0) _ (.int .i64 13) rfl h9 Try.underlying26 rfl (by kernel_rfl) rfl rfl ?_
      rw [HP.out, if_neg (by rw [HR.out]; simp; exact HQ.out)]
      exact RetRepTag.bare _ _ (hbel.grown g9 hbel.size (fun k hk => by injection hk with hk; omega))
    case pos =>
      have HQ := Lib.hid hq
      rw [hq] at H1 SV ⊢
      clear hB hQ H hSE hq
      go_wp2_with (first
        | (refine wpList_load_row rfl 26 (.tmp 4) rfl k rfl 26 #[.int .u8 (f : Nat), .int .u8 0, .slice (some ⟨W3.heap.size, 0, none⟩) 1 1, .slice none 0 0, .int .u16 (a : Nat), .int .u16 0] (0, 0) _ RA Try.underlying26 rfl (by kernel_rfl) ?_)
        | (refine wpList_store_grown rfl 26 (.tmp 2) _ rfl w.heap.size #[.int .u8 (f : Nat), .int .u8 0, .slice (some ⟨W3.heap.size, 0, none⟩) 1 1, .slice none 0 0, .int .u16 (a : Nat), .int .u16 0] rfl rfl 26 _ rz (by kernel_rfl) rfl (by simp [Value.oneCell']) ?_; intro w9 h9 g9 s9))
      refine bodyPost_row_tmp rfl w.heap.size 26 #[.int .u8 (f : Nat), .int .u8 0, .slice (some ⟨W3.heap.size, 0, none⟩) 1 1, .slice none 0 0, .int .u16 (a : Nat), .int .u16 0] (0, 0) _ (.int .i64 0) rfl h9 Try.underlying26 rfl (by kernel_rfl) rfl rfl ?_
      rw [HP.out, if_pos (by rw [HR.out, HQ.out]; simp)]
      exact ⟨_, _, _, _, _, _, rfl, SB.grown g9 (fun b o h e => by have := oB b o h; injection e with e; omega), SW.grown g9 (fun b o h e => by have := oW b o h; injection e with e; omega), kB, kW, (fun b o h => by have := oB b o h; omega), (fun b o h => by have := oW b o h; omega), hbel.grown g9 hbel.size (fun k hk => by injection hk with hk; omega)⟩
set_option maxRecDepth 100000 in
set_option maxHeartbeats 16000000 in
theorem ref3Parse_word (A : Option Addr) (n c : Nat) (xs : List Nat) (w : World) (hs : Sl w w.heap.size A n (bs xs)) (hx : Bytes xs) (hn2 : n ≤ 300) (h2 : 2 ≤ n) (hc : n ≤ c) (hf : xs[0]?.getD 0 = 6) :
    Calls Try.prog 14 #[.slice A n c] w (RetRepTag w (rparse xs).1 .i64 (rparse xs).2) := by
  have q1 : xs.length = n := by simpa using hs.len
  have HWF := cand3_wf hx
  have HP := Lib.hid (rparse_cand xs)
  have HC : cand3 xs = ⟨xs[0]?.getD 0, 0, [], [atF xs 3], atF xs 1, 0⟩ := by unfold cand3; rw [hf]; simp [kdBy, Kd.read, hf]
  obtain ⟨f, ef⟩ : ∃ f, f = xs[0]?.getD 0 := ⟨_, rfl⟩
  obtain ⟨y, ey⟩ : ∃ y, y = xs[1]?.getD 0 := ⟨_, rfl⟩
  have hf8 : f < 256 := by rw [ef]; exact hx.at 0
  have hy8 : y < 256 := by rw [ey]; exact hx.at 1
  have F8 := show IntKind.u8.wrap (f : Int) = f by rw [IntKind.wrap_u8]; omega
  rw [← ef] at HC hf
  obtain ⟨a, ea⟩ : ∃ x, x = atF xs 1 := ⟨_, rfl⟩
  have ha : a < 65536 := by rw [ea]; exact atF_lt hx 1
  have Ka := Lib.hid (fun X (b : Below w.heap.size w X) => refAt_quiet A n c xs 1 X (hs.to b) hx (by omega) (by omega))
  rw [← ea] at HC Ka
  have va : IntKind.u16.wrap (a : Int) = a := by rw [IntKind.wrap_u16]; omega
  have ua := w64 (show a ≤ 9223372036854775807 by omega)
  obtain ⟨m, em⟩ : ∃ x, x = atF xs 3 := ⟨_, rfl⟩
  have hm : m < 65536 := by rw [em]; exact atF_lt hx 3
  have Km := Lib.hid (fun X (b : Below w.heap.size w X) => refAt_quiet A n c xs 3 X (hs.to b) hx (by omega) (by omega))
  rw [← em] at HC Km
  have vm : IntKind.u16.wrap (m : Int) = m := by rw [IntKind.wrap_u16]; omega
  have um := w64 (show m ≤ 9223372036854775807 by omega)
  have T1 : ((f : Int) == 1) = false := by first | (rw [beq_eq_false_iff_ne]; omega) | (rw [beq_iff_eq]; omega)
  have T2 : ((f : Int) == 2) = false := by first | (rw [beq_eq_false_iff_ne]; omega) | (rw [beq_iff_eq]; omega)
  have T3 : ((f : Int) == 3) = false := by first | (rw [beq_eq_false_iff_ne]; omega) | (rw [beq_iff_eq]; omega)
  have T4 : ((f : Int) == 4) = false := by first | (rw [beq_eq_false_iff_ne]; omega) | (rw [beq_iff_eq]; omega)
  have T23 : ((f : Int) == 23) = false := by first | (rw [beq_eq_false_iff_ne]; omega) | (rw [beq_iff_eq]; omega)
  have T5 : ((f : Int) == 5) = false := by first | (rw [beq_eq_false_iff_ne]; omega) | (rw [beq_iff_eq]; omega)
  have T6 : ((f : Int) == 6) = true := by first | (rw [beq_eq_false_iff_ne]; omega) | (rw [beq_iff_eq]; omega)
  have T15 : ((f : Int) == 15) = false := by first | (rw [beq_eq_false_iff_ne]; omega) | (rw [beq_iff_eq]; omega)
  have T16 : ((f : Int) == 16) = false := by first | (rw [beq_eq_false_iff_ne]; omega) | (rw [beq_iff_eq]; omega)
  rw [HC] at HP HWF
  obtain ⟨P, hP⟩ : ∃ P, P = rparse xs := ⟨_, rfl⟩
  rw [← hP] at HP ⊢
  obtain ⟨b, o, rfl, hbl, d1⟩ := hs.2 (by omega)
  have g1 : w.cell? ⟨b, o, none⟩ = some (.int .u8 (f : Nat)) := (d1 0 (by omega)).trans (by rw [bs_get (by omega), ← ef])
  have g2 : w.cell? ⟨b, o + 1, none⟩ = some (.int .u8 (y : Nat)) := (d1 1 (by omega)).trans (by rw [bs_get (by omega), ← ey])
  have HS := Lib.hid hs
  have HX := Lib.hid hx
  have z1 : (0 : Int) < (n : Int) := by omega
  have z1n : 0 < n := by omega
  have z1c : (0 : Int) ≤ (n : Int) := by omega
  have z1b : (1 : Int) < (n : Int) := by omega
  have z1bn : 1 < n := by omega
  have z2 : ¬ (n : Int) < 2 := by omega
  have z127 : ¬ (127 : Int) < (f : Int) := by omega
  clear HC hP hs hx hn2 h2 q1 d1 hf ef ey ea em
  go_enter Try.func14, Try.ntmps14
  go_wp2_with fail
  obtain ⟨W1, hW1⟩ : ∃ W1, W1 = ((w.alloc (.cells #[.int .u8 0, .int .u8 0, .slice none 0 0, .slice none 0 0, .int .u16 0, .int .u16 0] 26)).alloc (.cells #[.int .u8 (f : Nat), .int .u8 0, .slice none 0 0, .slice none 0 0, .int .u16 0, .int .u16 0] 26)) := ⟨_, rfl⟩
  have S : Pr w W1 (w.heap.size + 1) #[.int .u8 (f : Nat), .int .u8 0, .slice none 0 0, .slice none 0 0, .int .u16 0, .int .u16 0] := hW1 ▸ Pr_new w #[.int .u8 (f : Nat), .int .u8 0, .slice none 0 0, .slice none 0 0, .int .u16 0, .int .u16 0]
  rw [← hW1]
  clear hW1
  obtain ⟨k, ek⟩ : ∃ k, k = w.heap.size + 1 := ⟨_, rfl⟩
  rw [← ek] at S ⊢
  clear ek
  refine (Ka.out _ S.bel).mono ?_
  rintro e W2 ⟨rfl, dd, hdd⟩
  have S := S.drewN dd
  rw [← hdd] at S
  clear hdd
  obtain ⟨c0, c1, c2, c3, c4, c5⟩ := row6 S.ra
  obtain ⟨f0, f1, f2, f3, f4, f5⟩ := free6 S.ra
  have slt := S.lt
  have sne : ¬ W2.heap.size = k := by omega
  have sne2 : ¬ k = W2.heap.size := by omega
  have S := S.set 4 (.int .u16 (a : Nat))
  go_wp2_with fail
  refine (Km.out _ S.bel).mono ?_
  rintro e W3 ⟨rfl, dd, hdd⟩
  have S := S.drewN dd
  rw [← hdd] at S
  clear hdd
  obtain ⟨c0, c1, c2, c3, c4, c5⟩ := row6 S.ra
  obtain ⟨f0, f1, f2, f3, f4, f5⟩ := free6 S.ra
  have slt := S.lt
  have sne : ¬ W3.heap.size = k := by omega
  have sne2 : ¬ k = W3.heap.size := by omega
  have S := (S.set 3 (.slice (some ⟨W3.heap.size, 0, none⟩) 1 1)).call ((Below.refl _ _).new (.cells #[.int .u16 (m : Nat)] 24))
  have es : (W3.setCell ⟨k, 3, none⟩ (.slice (some ⟨W3.heap.size, 0, none⟩) 1 1)).heap.size = W3.heap.size := by simp [World.setCell]
  have SW : Sl ((W3.setCell ⟨k, 3, none⟩ (.slice (some ⟨W3.heap.size, 0, none⟩) 1 1)).alloc (.cells #[.int .u16 (m : Nat)] 24)) ((W3.setCell ⟨k, 3, none⟩ (.slice (some ⟨W3.heap.size, 0, none⟩) 1 1)).alloc (.cells #[.int .u16 (m : Nat)] 24)).heap.size (some ⟨W3.heap.size, 0, none⟩) 1 (ws [m]) := by
    have h := (Sl.new1 (W3.setCell ⟨k, 3, none⟩ (.slice (some ⟨W3.heap.size, 0, none⟩) 1 1)) (.int .u16 (m : Nat)) 24).mono (B' := ((W3.setCell ⟨k, 3, none⟩ (.slice (some ⟨W3.heap.size, 0, none⟩) 1 1)).alloc (.cells #[.int .u16 (m : Nat)] 24)).heap.size) (by simp)
    rw [es] at h
    exact h
  have SB := Sl.empty ((W3.setCell ⟨k, 3, none⟩ (.slice (some ⟨W3.heap.size, 0, none⟩) 1 1)).alloc (.cells #[.int .u16 (m : Nat)] 24)) ((W3.setCell ⟨k, 3, none⟩ (.slice (some ⟨W3.heap.size, 0, none⟩) 1 1)).alloc (.cells #[.int .u16 (m : Nat)] 24)).heap.size none
  have oB : ∀ b o, (none : Option Addr) = some (⟨b, o, none⟩ : Addr) → w.heap.size < b := fun _ _ h => by cases h
  have oW : ∀ b o, (some (⟨W3.heap.size, 0, none⟩ : Addr)) = some (⟨b, o, none⟩ : Addr) → w.heap.size < b := fun b o h => by have := S.hk; injection h with h; injection h with h _; omega
  have kB : (0 : Nat) ≤ 0 := Nat.le_refl _
  have kW : (1 : Nat) ≤ 1 := Nat.le_refl _
  have RA := S.ra
  go_wp2_with (first
    | (refine wpList_load_row rfl 26 (.tmp 4) rfl k rfl 26 #[.int .u8 (f : Nat), .int .u8 0, .slice none 0 0, .slice (some ⟨W3.heap.size, 0, none⟩) 1 1, .int .u16 (a : Nat), .int .u16 0] (0, 0) _ RA Try.underlying26 rfl (by kernel_rfl) ?_))
  refine (ref3Bytes_any _ _ _ _ _ _ _ _ _ _ _ _ _ SB SW HWF).mono ?_
  rintro e w2 ⟨v, rfl, H⟩
  have S := S.call H.bel
  have SW := SW.to H.bel
  have SB := SB.to H.bel
  have RA := S.ra
  have rz := S.rz
  have hbel := S.bel
  have hk := S.hk
  have lz := row_lt rz
  obtain ⟨Q, hQ⟩ : ∃ Q, Q = rright ⟨f, 0, [], [m], a, 0⟩ := ⟨_, rfl⟩
  cases Q
  case false =>
    have HR := Lib.hid hQ.symm
    have hB : rbytesE ⟨f, 0, [], [m], a, 0⟩ = ([], 13) := by unfold rbytesE; rw [HR.out]; rfl
    rw [hB] at H ⊢
    clear hB hQ H
    go_wp2_with (refine wpList_store_grown rfl 26 (.tmp 2) _ rfl w.heap.size #[.int .u8 0, .int .u8 0, .slice none 0 0, .slice none 0 0, .int .u16 0, .int .u16 0] rfl rfl 26 _ rz (by kernel_rfl) rfl (by simp [Value.oneCell']) ?_; intro w9 h9 g9 s9)
    refine bodyPost_row_tmp rfl w.heap.size 26 #[.int .u8 0, .int .u8 0, .slice none 0 0, .slice none 0 0, .int .u16 0, .int .u16 0] (0, 0) _ (.int .i64 13) rfl h9 Try.underlying26 rfl (by kernel_rfl) rfl rfl ?_
    rw [HP.out, if_neg (by rw [HR.out]; simp)]
    exact RetRepTag.bare _ _ (hbel.grown g9 hbel.size (fun k hk => by injection hk with hk; omega))
  case true =>
    have HR := Lib.hid hQ.symm
    have hB : rbytesE ⟨f, 0, [], [m], a, 0⟩ = (rbytes ⟨f, 0, [], [m], a, 0⟩, 0) := by unfold rbytesE; rw [HR.out]; rfl
    rw [hB] at H ⊢
    dsimp only at H
    have hbl : Bytes (rbytes ⟨f, 0, [], [m], a, 0⟩) := by
      obtain ⟨k', _, _, hb'⟩ := rright_kd HR.out
      rw [hb']; exact kbytes_lt k' _ HWF
    obtain ⟨Av, cv, rfl, hcv, SV, _⟩ := H.slice
    have H1 := run_string (P := Try.prog) w2 _ 29 9 5 Try.underlying29 Try.underlying5 Try.underlying9 Av _ cv _ SV
    have H2 := run_string (P := Try.prog) w2 _ 29 9 5 Try.underlying29 Try.underlying5 Try.underlying9 (some ⟨b, o, none⟩) n c _ (HS.out.to hbel)
    have hSE := strB_eq (rbytes ⟨f, 0, [], [m], a, 0⟩) xs hbl HX.out
    by_cases hq : rbytes ⟨f, 0, [], [m], a, 0⟩ = xs
    case neg =>
      rw [show (rbytes ⟨f, 0, [], [m], a, 0⟩ == xs) = false by rw [beq_eq_false_iff_ne]; exact hq] at hSE
      have HQ := Lib.hid hq
      clear hB hQ H hq SV hcv
      go_wp2_with (refine wpList_store_grown rfl 26 (.tmp 2) _ rfl w.heap.size #[.int .u8 0, .int .u8 0, .slice none 0 0, .slice none 0 0, .int .u16 0, .int .u16 0] rfl rfl 26 _ rz (by kernel_rfl) rfl (by simp [Value.oneCell']) ?_; intro w9 h9 g9 s9)
      refine bodyPost_row_tmp rfl w.heap.size 26 #[.int .u8 0, .int .u8 0, .slice none 0 0, .slice none 0 0, .int .u16 0, .int .u16 0] (0, 0) _ (.int .i64 13) rfl h9 Try.underlying26 rfl (by kernel_rfl) rfl rfl ?_
      rw [HP.out, if_neg (by rw [HR.out]; simp; exact HQ.out)]
      exact RetRepTag.bare _ _ (hbel.grown g9 hbel.size (fun k hk => by injection hk with hk; omega))
    case pos =>
      have HQ := Lib.hid hq
      rw [hq] at H1 SV ⊢
      clear hB hQ H hSE hq
      go_wp2_with (first
        | (refine wpList_load_row rfl 26 (.tmp 4) rfl k rfl 26 #[.int .u8 (f : Nat), .int .u8 0, .slice none 0 0, .slice (some ⟨W3.heap.size, 0, none⟩) 1 1, .int .u16 (a : Nat), .int .u16 0] (0, 0) _ RA Try.underlying26 rfl (by kernel_rfl) ?_)
        | (refine wpList_store_grown rfl 26 (.tmp 2) _ rfl w.heap.size #[.int .u8 (f : Nat), .int .u8 0, .slice none 0 0, .slice (some ⟨W3.heap.size, 0, none⟩) 1 1, .int .u16 (a : Nat), .int .u16 0] rfl rfl 26 _ rz (by kernel_rfl) rfl (by simp [Value.oneCell']) ?_; intro w9 h9 g9 s9))
      refine bodyPost_row_tmp rfl w.heap.size 26 #[.int .u8 (f : Nat), .int .u8 0, .slice none 0 0, .slice (some ⟨W3.heap.size, 0, none⟩) 1 1, .int .u16 (a : Nat), .int .u16 0] (0, 0) _ (.int .i64 0) rfl h9 Try.underlying26 rfl (by kernel_rfl) rfl rfl ?_
      rw [HP.out, if_pos (by rw [HR.out, HQ.out]; simp)]
      exact ⟨_, _, _, _, _, _, rfl, SB.grown g9 (fun b o h e => by have := oB b o h; injection e with e; omega), SW.grown g9 (fun b o h e => by have := oW b o h; injection e with e; omega), kB, kW, (fun b o h => by have := oB b o h; omega), (fun b o h => by have := oW b o h; omega), hbel.grown g9 hbel.size (fun k hk => by injection hk with hk; omega)⟩
end Go.Proofs.Ytgjcefgdkhfghaa.AskW
