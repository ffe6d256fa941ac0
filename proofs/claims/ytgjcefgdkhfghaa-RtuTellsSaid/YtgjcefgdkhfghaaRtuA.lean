/- Layer 4's frames: plain words, and the walks of rtu's isUnit, split, Bytes, Parse. -/
import Derived.Test.YtgjcefgdkhfghaaCrcX
set_option linter.unusedVariables false
set_option linter.unusedSimpArgs false
namespace Go.Proofs.Ytgjcefgdkhfghaa.AskW
open Go.RowKit Go.Proofs.Ytgjcefgdkhfghaa
/-- Is a number a unit? -/
def isU (u : Nat) : Bool := decide (1 ≤ u ∧ u ≤ 247)
/-- The frame, or the error. -/
def rtuB (u : Nat) (l : List Nat) : List Nat × Int := if isU u = true ∧ 1 ≤ l.length ∧ l.length ≤ 253 then (CrcW.put (u :: l), 0) else ([], 2)
/-- What is within a frame, or the error. -/
def rtuP (xs : List Nat) : (Nat × List Nat) × Int :=
  if xs.length < 4 ∨ 256 < xs.length then ((0, []), 10)
  else if Crc.sum (xs.take (xs.length - 2)) = xs[xs.length - 2]?.getD 0 + 256 * xs[xs.length - 1]?.getD 0 then
    (if isU (xs[0]?.getD 0) = true then ((xs[0]?.getD 0, (xs.take (xs.length - 2)).drop 1), 0) else ((0, []), 10))
  else ((0, []), 11)
theorem ret_boolU {a b : Bool} (h : a = b) : Ending.returned (.bool a) = .returned (.bool b) := by rw [h]
theorem isUnit_any (u : Nat) (w : World) :
    Calls Try.prog 55 #[.int .u8 u] w fun e w' => e = .returned (.bool (isU u)) ∧ w = w' := by
  by_cases h1 : (1 : Int) ≤ (u : Int)
  · have HF := Lib.hid (show decide ((u : Int) ≤ 247) = isU u from by unfold isU; rw [decide_eq_decide]; omega)
    go_enter Try.func55, Try.ntmps55
    go_wp2_with fail
    go_ret
    exact ⟨ret_boolU HF.out, rfl⟩
  · have HF := Lib.hid (show false = isU u from by unfold isU; rw [decide_eq_false (by omega)])
    go_enter Try.func55, Try.ntmps55
    go_wp2_with fail
    go_ret
    exact ⟨ret_boolU HF.out, rfl⟩
/-- A number, and a slice of a block. -/
def RetSplit (w : World) (b x m : Nat) (xs : List Nat) (e : Ending) (w' : World) : Prop := ∃ A2 c2, e = .returned (.tuple #[.int .u8 (x : Nat), .slice A2 m c2]) ∧ Sl w' w'.heap.size A2 m (bs xs) ∧ m ≤ c2 ∧ (∀ b' o', A2 = some (⟨b', o', none⟩ : Addr) → b' = b) ∧ Below w.heap.size w w'
theorem split_any (b o : Nat) (n cap : Nat) (l : List Nat) (w : World) (hs : Sl w w.heap.size (some ⟨b, o, none⟩) n (bs l)) (h1 : 1 ≤ n) (hc : n ≤ cap) (hn : n ≤ 1000000) :
    Calls Try.prog 59 #[.slice (some ⟨b, o, none⟩) n cap] w (RetSplit w b (l[0]?.getD 0) (n - 1) (l.drop 1)) := by
  have hlen : l.length = n := by simpa using hs.len
  have hd := hs.drop (k := 1) h1 (Nat.le_refl n)
  rw [bs_drop] at hd
  obtain ⟨b2, o2, he, hb, hcell⟩ := hs.2 (by omega)
  injection he with he
  injection he with e1 e2
  subst e1 e2
  have hc0 := (hcell 0 (by omega)).trans (bs_get (by omega))
  rw [Nat.add_zero] at hc0
  clear hcell
  obtain ⟨x, hx⟩ : ∃ x, x = l[0]?.getD 0 := ⟨_, rfl⟩
  rw [← hx] at hc0 ⊢
  have HD := Lib.hid hd
  obtain ⟨Y, hY⟩ : ∃ Y, Y = l.drop 1 := ⟨_, rfl⟩
  rw [← hY] at HD ⊢
  clear hx hd hs hY hlen
  have z1 : (0 : Int) < (n : Int) := by omega
  have z1n : 0 < n := by omega
  have z3n : n ≤ cap := by omega
  have z2 : (1 : Int) ≤ (n : Int) := by omega
  have z3 : (n : Int) ≤ (cap : Int) := by omega
  go_enter Try.func59, Try.ntmps59
  go_wp2_with fail
  go_quiet (fail)
  go_wp2_with fail
  · go_ret2
    have h := HD.out
    rw [if_pos (by omega), show n - 1 = 0 by omega] at h
    refine ⟨_, _, rfl, h, Nat.le_refl _, ?_, (Below.refl _ _).drewN nq⟩
    intro b' o' he
    simp at he
    exact he.1.symm
  · go_ret2
    have h := HD.out
    rw [if_neg (by omega)] at h
    refine ⟨_, _, rfl, h, Nat.le_refl _, ?_, (Below.refl _ _).drewN nq⟩
    intro b' o' he
    simp [Addr.add] at he
    exact he.1.symm
theorem first_own (w : World) (u : Nat) : Has w (w.alloc (.cells #[.int .u8 (u : Nat)] 5)) 5 (.slice (some ⟨w.heap.size, 0, none⟩) 1 1) 1 (bs [u]) := by
  have := Has.of_row (w0 := w) ((Below.refl _ w).new (.cells #[.int .u8 (u : Nat)] 5)) (heap_alloc_new w (.cells #[.int .u8 (u : Nat)] 5)) (Nat.le_refl _) (n := 1) rfl (by simp [maxLen])
  exact this
theorem rtuBytes_any (u : Nat) (A : Option Addr) (n cap : Nat) (l : List Nat) (w : World) (hu : u < 256) (hs : Sl w w.heap.size A n (bs l)) (hl : Bytes l) (hn : n ≤ 1000000) :
    Calls Try.prog 27 #[.int .u8 (u : Nat), .slice A n cap] w (CrcW.RetRowErr w 5 (rtuB u l)) := by
  have hlen : l.length = n := by simpa using hs.len
  have KU := Lib.hid (isUnit_any u w)
  obtain ⟨r, hr⟩ : ∃ r, r = rtuB u l := ⟨_, rfl⟩
  rw [← hr]
  by_cases h1 : isU u = true
  case neg =>
    have h1 : isU u = false := by simpa using h1
    have HF := Lib.hid (show r = ([], 2) from by rw [hr]; unfold rtuB; rw [if_neg (by rw [h1]; simp)])
    rw [h1] at KU
    clear hlen hr h1 hs hl hn
    go_enter Try.func27, Try.ntmps27
    go_wp2_with fail
    refine KU.out.mono ?_
    rintro e w1 ⟨rfl, rfl⟩
    go_wp2_with fail
    go_ret2
    rw [HF.out]
    exact ⟨_, rfl, Has.nil_ (Below.refl _ _) _⟩
  rw [h1] at KU
  by_cases h2 : 1 ≤ n ∧ n ≤ 253
  case neg =>
    have HF := Lib.hid (show r = ([], 2) from by rw [hr]; unfold rtuB; rw [if_neg (by omega)])
    by_cases h3 : (n : Int) < 1
    · clear hlen hr h1 hs hl hn h2
      go_enter Try.func27, Try.ntmps27
      go_wp2_with fail
      refine KU.out.mono ?_
      rintro e w1 ⟨rfl, rfl⟩
      go_wp2_with fail
      go_ret2
      rw [HF.out]
      exact ⟨_, rfl, Has.nil_ (Below.refl _ _) _⟩
    · have h4 : (253 : Int) < (n : Int) := by omega
      clear hlen hr h1 hs hl hn h2
      go_enter Try.func27, Try.ntmps27
      go_wp2_with fail
      refine KU.out.mono ?_
      rintro e w1 ⟨rfl, rfl⟩
      go_wp2_with fail
      go_ret2
      rw [HF.out]
      exact ⟨_, rfl, Has.nil_ (Below.refl _ _) _⟩
  have HF := Lib.hid (show r = (CrcW.put (u :: l), 0) from by rw [hr]; unfold rtuB; rw [if_pos ⟨h1, by omega⟩])
  have h3 : ¬ (n : Int) < 1 := by omega
  have h4 : ¬ (253 : Int) < (n : Int) := by omega
  have hul : Bytes (u :: l) := fun c hc => by
    rcases List.mem_cons.1 hc with rfl | h
    · exact hu
    · exact hl c h
  have HL := Lib.hid hlen
  have HS := Lib.hid hs
  have HUL := Lib.hid hul
  clear hlen hr h1 hs h2 hul
  go_enter Try.func27, Try.ntmps27
  go_wp2_with fail
  refine KU.out.mono ?_
  rintro e w1 ⟨rfl, rfl⟩
  go_wp2_with (at_builtin; refine wpList_app CrcW.u8 rfl (.tmp 20) (.tmp 21) rfl (first_own w u) rfl (HS.out.to ((Below.refl _ _).new _)) rfl (bs_one l) (by omega) (by simp only [maxLen]; omega) ?_; intro v2 w2 H2 _ _; obtain ⟨A2, c2, rfl, hc2, S2, _⟩ := H2.slice; have B2 := H2.bel; clear H2)
  rw [bs_append] at S2
  refine (CrcW.put_any A2 (1 + n) c2 (u :: l) w2 S2 HUL.out (by omega)).mono ?_
  rintro e w3 ⟨v3, rfl, H3⟩
  go_wp2_with fail
  go_ret2
  rw [HF.out]
  refine ⟨_, rfl, ?_⟩
  have := H3.weaken B2
  rw [CrcW.put_length, List.length_cons, HL.out, show n + 1 + 2 = 1 + n + 2 by omega]
  exact this
/-- A unit, what is within, in memory of its own, and an error. -/
def RetUnit (w : World) (r : (Nat × List Nat) × Int) (e : Ending) (w' : World) : Prop := ∃ A2 c2, e = .returned (.tuple #[.int .u8 (r.1.1 : Nat), .slice A2 r.1.2.length c2, .int .i64 r.2]) ∧ Sl w' w'.heap.size A2 r.1.2.length (bs r.1.2) ∧ r.1.2.length ≤ c2 ∧ (∀ b' o', A2 = some (⟨b', o', none⟩ : Addr) → w.heap.size ≤ b') ∧ Below w.heap.size w w'
theorem RetUnit.bad {w w' : World} (n : Int) (h : Below w.heap.size w w') : RetUnit w ((0, []), n) (.returned (.tuple #[.int .u8 0, .slice none 0 0, .int .i64 n])) w' :=
  ⟨none, 0, rfl, Sl.empty _ _ _, Nat.le_refl _, (fun _ _ h => by cases h), h⟩
theorem rtuParse_any (A : Option Addr) (n cap : Nat) (l : List Nat) (w : World) (hs : Sl w w.heap.size A n (bs l)) (hl : Bytes l) (hn : n ≤ 1000000) (hc : n ≤ cap) :
    Calls Try.prog 29 #[.slice A n cap] w (RetUnit w (rtuP l)) := by
  have hlen : l.length = n := by simpa using hs.len
  obtain ⟨r, hr⟩ : ∃ r, r = rtuP l := ⟨_, rfl⟩
  rw [← hr]
  by_cases h1 : 4 ≤ n ∧ n ≤ 256
  case neg =>
    have HF := Lib.hid (show r = ((0, []), 10) from by rw [hr]; unfold rtuP; rw [if_pos (by omega)])
    by_cases h3 : (n : Int) < 4
    · clear hlen hr h1 hs hl hn
      go_enter Try.func29, Try.ntmps29
      go_wp2_with fail
      go_ret3
      rw [HF.out]
      exact RetUnit.bad _ (Below.refl _ _)
    · have h4 : (256 : Int) < (n : Int) := by omega
      clear hlen hr h1 hs hl hn
      go_enter Try.func29, Try.ntmps29
      go_wp2_with fail
      go_ret3
      rw [HF.out]
      exact RetUnit.bad _ (Below.refl _ _)
  have h3 : ¬ (n : Int) < 4 := by omega
  have h4 : ¬ (256 : Int) < (n : Int) := by omega
  have KC := Lib.hid (CrcW.cut_any A n cap l w hs hl (by omega) hc)
  by_cases h5 : Crc.sum (l.take (l.length - 2)) = l[l.length - 2]?.getD 0 + 256 * l[l.length - 1]?.getD 0
  case neg =>
    have HF := Lib.hid (show r = ((0, []), 11) from by rw [hr]; unfold rtuP; rw [if_neg (by omega), if_neg h5])
    have hcf : CrcW.cutF l = ([], 11) := by unfold CrcW.cutF; rw [if_neg (by omega), if_neg h5]
    rw [hcf] at KC
    clear hlen hr h1 hs hl hn h5 hcf
    go_enter Try.func29, Try.ntmps29
    go_wp2_with fail
    refine KC.out.mono ?_
    rintro e w1 ⟨v, rfl, H⟩
    have B1 := H.bel
    clear H
    go_wp2_with fail
    go_ret3
    rw [HF.out]
    exact RetUnit.bad _ B1
  have hcf : CrcW.cutF l = (l.take (l.length - 2), 0) := by unfold CrcW.cutF; rw [if_neg (by omega), if_pos h5]
  obtain ⟨y, hy⟩ : ∃ y, y = l.take (l.length - 2) := ⟨_, rfl⟩
  have hylen : y.length = n - 2 := by rw [hy, List.length_take]; omega
  have hy0 : y[0]?.getD 0 = l[0]?.getD 0 := by rw [hy, List.getElem?_take, if_pos (by omega)]
  have hyb : y[0]?.getD 0 < 256 := by rw [hy0]; exact hl.at 0
  have HF : Hid (r = if isU (y[0]?.getD 0) = true then ((y[0]?.getD 0, y.drop 1), 0) else ((0, []), 10)) := by
    refine Lib.hid ?_
    rw [hr]; unfold rtuP; rw [if_neg (by omega), if_pos h5, hy0, hy]
  rw [hcf, ← hy] at KC
  have HY := Lib.hid hylen
  clear hlen hr h1 hs hl h5 hcf hy hylen hy0
  go_enter Try.func29, Try.ntmps29
  go_wp2_with fail
  refine KC.out.mono ?_
  rintro e w1 ⟨v, rfl, H⟩
  obtain ⟨A1, c1, rfl, hc1, S1, O1⟩ := H.slice
  have B1 := H.bel
  clear H
  dsimp only at S1 hc1 ⊢
  obtain ⟨b, o, rfl, hb, _⟩ := S1.2 (by have := HY.out; omega)
  have hbw : w.heap.size ≤ b := O1 b (by rfl)
  clear O1
  go_wp2_with fail
  refine (split_any b o y.length c1 y w1 S1 (by have := HY.out; omega) hc1 (by have := HY.out; omega)).mono ?_
  rintro e w2 ⟨A2, c2, rfl, S2, hc2, O2, b2⟩
  have B2 := B1.call b2
  obtain ⟨x, hx⟩ : ∃ x, x = y[0]?.getD 0 := ⟨_, rfl⟩
  rw [← hx] at HF hyb ⊢
  have KU := Lib.hid (isUnit_any x w2)
  clear hx b2
  by_cases h7 : isU x = true
  · rw [h7] at KU HF
    clear h7
    go_wp2_with fail
    refine KU.out.mono ?_
    rintro e w3 ⟨rfl, rfl⟩
    go_wp2_with fail
    go_ret3
    rw [HF.out, if_pos trivial]
    have e1 : (y.drop 1).length = y.length - 1 := List.length_drop
    refine ⟨A2, c2, ?_, ?_, ?_, ?_, B2⟩
    · dsimp only; rw [e1]; rfl
    · dsimp only; rw [e1]; exact S2
    · dsimp only; rw [e1]; exact hc2
    · intro b' o' h; have := O2 b' o' h; omega
  · have h7 : isU x = false := by simpa using h7
    rw [h7] at KU HF
    clear h7
    go_wp2_with fail
    refine KU.out.mono ?_
    rintro e w3 ⟨rfl, rfl⟩
    go_wp2_with fail
    go_ret3
    rw [HF.out, if_neg (by decide)]
    exact RetUnit.bad _ B2
end Go.Proofs.Ytgjcefgdkhfghaa.AskW
