/- The walk of layer 5's reference: Cut. -/
import Derived.Test.YtofigldbkndjlaaMbE
import Derived.Test.YtofigldbkndjlaaMbG
set_option linter.unusedVariables false
set_option linter.unusedSimpArgs false
namespace Go.Proofs.Ytofigldbkndjlaa.MbW
open Go.RowKit Go.Proofs.Ytofigldbkndjlaa Go.Proofs.Ytofigldbkndjlaa.Mb
/-- What is left to cut, at place k. -/
structure CutAt (xs : List Nat) (k : Nat) (L : List Fm) : Prop where
  fr : L ++ frames (xs.drop k) = frames xs
  us : k + used (xs.drop k) = used xs
  rs : rest (xs.drop k) = rest xs
  len : 8 * L.length ≤ k
theorem CutAt.zero (xs : List Nat) : CutAt xs 0 [] := ⟨rfl, by simp, rfl, Nat.le_refl _⟩
theorem CutAt.done {xs : List Nat} {k : Nat} {L : List Fm} (h : CutAt xs k L) (hw : whole (xs.drop k) = 0) : cut xs = (L, k, if begins (xs.drop k) = true then 0 else 10) := by
  obtain ⟨h1, h2⟩ := cut_none hw
  have e1 := h.fr
  have e2 := h.us
  have e3 := h.rs
  unfold frames at e1
  rw [h1, List.map_nil, List.append_nil] at e1
  rw [used_eq, h1] at e2
  rw [h2] at e3
  unfold cut cutE
  rw [← e3, ← e2, e1]
  rfl
theorem CutAt.step {xs : List Nat} {k n : Nat} {L : List Fm} (h : CutAt xs k L) (hw : whole (xs.drop k) = n) (hn : n ≠ 0) : CutAt xs (k + n) (L ++ [Mb.read ((xs.drop k).take n)]) := by
  have hcase := whole_cases (xs.drop k)
  subst hw
  obtain ⟨h1, h2⟩ := cut_some hn
  rw [List.drop_drop] at h1 h2
  have hu : used (xs.drop k) = whole (xs.drop k) + used (xs.drop (k + whole (xs.drop k))) := by
    rw [used_eq, used_eq, h1, List.flatten_cons, List.length_append, List.length_take]
    have := whole_le (xs.drop k)
    omega
  refine ⟨?_, ?_, ?_, ?_⟩
  · rw [← h.fr]
    unfold frames
    rw [h1, List.map_cons, List.append_assoc]
    rfl
  · rw [← h.us, hu]; omega
  · rw [← h.rs, h2]
  · have := h.len
    rw [List.length_append, List.length_singleton]
    omega
theorem parse_piece {ys : List Nat} (hw : whole ys ≠ 0) : parse (ys.take (whole ys)) = (Mb.read (ys.take (whole ys)), 0) := by
  obtain ⟨h1, h2, h3⟩ := whole_take hw
  unfold parse
  rw [if_pos ⟨h3, by omega⟩]
set_option maxHeartbeats 4000000 in
theorem refCut_any (A : Option Addr) (n c : Nat) (xs : List Nat) (w : World) (hs : Sl w w.heap.size A n (bs xs)) (hx : Bytes xs) (hc : n ≤ c) (hn : n ≤ 1000000) :
    Calls Try.prog 15 #[.slice A n c] w (RetCut w (cut xs)) := by
  have hlen : xs.length = n := by simpa using hs.len
  have KL := Lib.hid (fun A n c xs X (hs : Sl w w.heap.size A n (bs xs)) hx hn (b : Below w.heap.size w X) => refLong_any A n c xs X (hs.to b) hx hn)
  have KP := Lib.hid (fun A n c xs X (hs : Sl w w.heap.size A n (bs xs)) hx hc hn (b : Below w.heap.size w X) => refParse_any A n c xs X (hs.to b) hx hc hn)
  have HL := Lib.hid hlen
  have HX := Lib.hid hx
  have HS := Lib.hid hs
  clear hs hx hlen
  go_enter Try.func15, Try.ntmps15
  go_wp2_with fail
  go_loopw [5, 6] (fun o i wr => ∃ (k : Nat) (L : List Fm), k ≤ n ∧ i = .int .i64 k ∧ Hid (CutAt xs k L) ∧ HasF w wr 25 o L.length L (fun b => w.heap.size ≤ b)) (fun _ i _ => n - (intOf i).toNat)
  case atStart => exact ⟨0, [], by omega, rfl, CutAt.zero xs, HasF.nil_ (Below.refl _ _) _ _⟩
  case round =>
    obtain ⟨k, L, hk, rfl, HC, H⟩ := hrel
    have hd := HS.out.drop (k := k) hk hc
    rw [bs_drop] at hd
    have z1 : (k : Int) ≤ (n : Int) := by omega
    have z2 : (k : Int) ≤ (c : Int) := by omega
    have hL8 := HC.out.len
    have hdl : (xs.drop k).length = n - k := by rw [List.length_drop, HL.out]
    by_cases hck : c = k
    · have hnk : n = k := by omega
      rw [if_pos hck] at hd
      have hnil : xs.drop k = [] := List.eq_nil_of_length_eq_zero (by omega)
      have HD := Lib.hid (HC.out.done (by rw [hnil]; rfl))
      rw [hnil] at HD hd
      have HE := Lib.hid (show cut xs = (L, k, 0) from HD.out)
      subst hck
      subst hnk
      rw [Nat.sub_self] at hd
      have KL2 := Lib.hid (KL.out A 0 0 [] wr hd (fun _ h => by cases h) (by omega) H.bel)
      rw [show long [] = 0 from rfl] at KL2
      clear hd HD hnil hdl
      go_wp2_with fail
      refine KL2.out.mono ?_
      rintro e w2 ⟨rfl, rfl⟩
      go_wp2_with fail
      go_ret3
      rw [HE.out]
      exact ⟨_, rfl, H⟩
    rw [if_neg hck] at hd
    have KL2 := Lib.hid (KL.out _ (n - k) (c - k) (xs.drop k) wr hd (HX.out.drop k) (by omega) H.bel)
    have hcase := whole_cases (xs.drop k)
    have hzero := fun h => whole_zero (xs := xs.drop k) h
    have hlong := long_of hdl
    obtain ⟨ys, hy⟩ : ∃ ys, ys = xs.drop k := ⟨_, rfl⟩
    have HY := Lib.hid hy
    have HYX := Lib.hid (HX.out.drop k)
    rw [← hy] at hd KL2 hcase hzero hlong hdl HYX
    have h8 : begins ys = true → 6 ≤ ys.length → 8 ≤ 6 + ys[5]?.getD 0 := fun h1 h2 => by have := begins_five h1 h2; omega
    clear hy
    by_cases hw : whole ys = 0
    · have HD0 := HC.out.done (by rw [← HY.out]; exact hw)
      rw [← HY.out] at HD0
      by_cases hb : begins ys = true
      · rw [if_pos hb] at HD0 hlong
        have HE := Lib.hid HD0
        have hz := hzero hw
        rw [hb, hdl] at hz
        have hb8 := h8 hb
        rw [hdl] at hb8
        by_cases h6 : n - k < 6
        · rw [if_pos h6] at hlong
          rw [hlong] at KL2
          clear HD0 hlong hw hcase hzero h8 hb hz hb8 h6 hd hdl
          go_wp2_with fail
          refine KL2.out.mono ?_
          rintro e w2 ⟨rfl, rfl⟩
          go_wp2_with fail
          go_ret3
          rw [HE.out]
          exact ⟨_, rfl, H⟩
        · rw [if_neg h6] at hlong
          rw [hlong] at KL2
          obtain ⟨y, ey⟩ : ∃ y, y = ys[5]?.getD 0 := ⟨_, rfl⟩
          rw [← ey] at KL2 hz hb8
          have b5 := HYX.out.at 5
          rw [← ey] at b5
          have t0 : ¬ 6 + (y : Int) < 0 := by omega
          have t1 : ((6 + (y : Int)) == 0) = false := by rw [beq_eq_false_iff_ne]; omega
          have wy : IntKind.i64.wrap ((k : Int) + (6 + (y : Int))) = (k : Int) + (6 + (y : Int)) := by rw [IntKind.wrap_i64]; omega
          have t2 : (n : Int) < (k : Int) + (6 + (y : Int)) := by
            rcases hz with hz | hz | hz
            · cases hz
            · omega
            · omega
          clear HD0 hlong hw hcase hzero h8 hb hz hb8 h6 hd hdl ey
          go_wp2_with fail
          refine KL2.out.mono ?_
          rintro e w2 ⟨rfl, rfl⟩
          go_wp2_with fail
          go_ret3
          rw [HE.out]
          exact ⟨_, rfl, H⟩
      · rw [if_neg hb] at HD0 hlong
        have HE := Lib.hid HD0
        rw [hlong] at KL2
        clear HD0 hlong hw hcase hzero h8 hb hd hdl
        go_wp2_with fail
        refine KL2.out.mono ?_
        rintro e w2 ⟨rfl, rfl⟩
        go_wp2_with fail
        go_ret3
        rw [HE.out]
        exact ⟨_, rfl, H⟩
    · have HST := Lib.hid (HC.out.step (n := whole ys) (by rw [← HY.out]) hw)
      rw [← HY.out] at HST
      have HPP := Lib.hid (parse_piece hw)
      obtain ⟨hb, q8, q260, qle, q5⟩ := hcase.resolve_left hw
      rw [if_pos hb, if_neg (by omega)] at hlong
      obtain ⟨q, hq⟩ : ∃ q, q = whole ys := ⟨_, rfl⟩
      rw [← hq] at HST HPP q8 q260 qle q5
      have hlq : long ys = (q : Nat) := by rw [hlong, q5]; omega
      rw [hlq] at KL2
      rw [hdl] at qle
      have hS1 := hd.take (k := q) qle
      rw [bs_take] at hS1
      have KP2 := Lib.hid (KP.out _ q (c - k) (ys.take q) wr hS1 (HYX.out.take q) (by omega) (by omega) H.bel)
      rw [HPP.out] at KP2
      obtain ⟨⟨tx, u, P⟩, hY⟩ : ∃ Y, Y = Mb.read (ys.take q) := ⟨_, rfl⟩
      rw [← hY] at KP2 HST
      have t0 : ¬ (q : Int) < 0 := by omega
      have t1 : ((q : Int) == 0) = false := by rw [beq_eq_false_iff_ne]; omega
      have wq : IntKind.i64.wrap ((k : Int) + (q : Int)) = ((k + q : Nat) : Int) := by rw [IntKind.wrap_i64]; omega
      have t2 : ¬ (n : Int) < ((k + q : Nat) : Int) := by omega
      have t3 : (k : Int) ≤ ((k + q : Nat) : Int) := by omega
      have t4 : ((k + q : Nat) : Int) ≤ (c : Int) := by omega
      have t5 : k ≤ k + q := by omega
      have t6 : k + q ≤ c := by omega
      have hkq : k + q ≤ n := by omega
      clear hlong hw hcase hzero h8 hd hdl hlq hS1 hq hY q5 qle hb
      go_wp2_with fail
      refine KL2.out.mono ?_
      rintro e w2 ⟨rfl, rfl⟩
      go_wp2_with fail
      refine KP2.out.mono ?_
      rintro e w2 ⟨C, m, cc, rfl, SC, oC, b2⟩
      dsimp only at SC oC ⊢
      have H2 := H.below b2
      have hlt := fun b (hb : wr.heap.size ≤ b) (e : u5.ownBlock = some b) => Nat.not_lt_of_le hb (H.own b e).2
      have hle := H.bel.size
      go_wp2_with (at_builtin; refine wpList_app3 fm3 rfl (.tmp 40) (.tmp 42) rfl ((H2.alloc (.cells #[.int .u16 (tx : Nat), .int .u8 (u : Nat), .slice C m cc] 25)).alloc _) rfl (Fr.newAt (P := fun b => wr.heap.size ≤ b) (w2.alloc (.cells #[.int .u16 (tx : Nat), .int .u8 (u : Nat), .slice C m cc] 25)) ⟨tx, u, P⟩ C m cc 25 (w2.heap.size + 1) (World.size_alloc _ _).symm (SC.to ((Below.refl _ _).new _)) (fun _ b o e => oC b o e)) rfl (fun b hb => ⟨Nat.le_trans hle hb, fun e => hlt b hb e⟩) (by omega) (by simp only [maxLen]; omega) ?_; intro v4 w4 H4 g4 o4)
      go_roundw
      case rel =>
        refine ⟨k + q, L ++ [⟨tx, u, P⟩], hkq, by go_num, HST, ?_⟩
        rw [List.length_append]
        exact H4
      case measure => simp [intOf]; omega
end Go.Proofs.Ytofigldbkndjlaa.MbW
