/- The walks of layer 6's reference: Bits. -/
import Derived.Test.YtcckplpfgpagmaaWdC
set_option linter.unusedVariables false
set_option linter.unusedSimpArgs false
namespace Go.Proofs.Ytcckplpfgpagmaa.WdW
open Go.RowKit Go.Proofs.Ytcckplpfgpagmaa Go.Proofs.Ytcckplpfgpagmaa.Wd Go.Proofs.Ytcckplpfgpagmaa.Ask
/-- Bits of the call's own. -/
def RetBits (w : World) (r : List Bool) (e : Ending) (w' : World) : Prop := ∃ v, e = .returned v ∧ Has w w' 4 v r.length (bl r)
theorem RetBits.none {w w' : World} (h : Below w.heap.size w w') : RetBits w [] (.returned (.slice none 0 0)) w' := ⟨_, rfl, Has.nil_ h _⟩
set_option maxHeartbeats 4000000 in
theorem refBits_any (A : Option Addr) (n c : Nat) (xs : List Nat) (N : Int) (w : World) (hs : Sl w w.heap.size A n (bs xs)) (hx : Bytes xs) (hn : n ≤ 12500) (h0 : -9223372036854775808 ≤ N) (h1 : N ≤ 9223372036854775807) :
    Calls Try.prog 12 #[.slice A n c, .int .i64 N] w (RetBits w (bitsOf xs N)) := by
  have q1 : xs.length = n := by simpa using hs.len
  have w8 : IntKind.i64.wrap (8 * (n : Int)) = 8 * (n : Int) := by rw [IntKind.wrap_i64]; omega
  obtain ⟨R, hR⟩ : ∃ R, R = bitsOf xs N := ⟨_, rfl⟩
  rw [← hR]
  by_cases hneg : N < 0
  · have HR := Lib.hid (show R = [] from by rw [hR]; unfold bitsOf; rw [if_neg (by omega)])
    clear hs hx q1 hR
    go_enter Try.func12, Try.ntmps12
    go_wp2_with fail
    go_ret
    rw [HR.out]
    exact RetBits.none (Below.refl _ _)
  by_cases hbig : 8 * (n : Int) < N
  · have HR := Lib.hid (show R = [] from by rw [hR]; unfold bitsOf; rw [if_neg (by omega)])
    have hnegd : decide (N < 0) = false := decide_eq_false hneg
    clear hs hx q1 hR
    go_enter Try.func12, Try.ntmps12
    go_wp2_with fail
    go_ret
    rw [HR.out]
    exact RetBits.none (Below.refl _ _)
  obtain ⟨k, rfl⟩ : ∃ k : Nat, N = (k : Int) := ⟨N.toNat, by omega⟩
  have hk : k ≤ 8 * n := by omega
  obtain ⟨L, hL⟩ : ∃ L, L = (unpack xs).take k := ⟨_, rfl⟩
  obtain ⟨C, hC⟩ : ∃ C, C = pack L := ⟨_, rfl⟩
  have hLl : L.length = k := by rw [hL, List.length_take, unpack_length]; omega
  have hCl : C.length = (k + 7) / 8 := by rw [hC, pack_length, hLl]
  have HRY := Lib.hid (show C = xs → R = L from fun h => by rw [hR]; unfold bitsOf; rw [Int.toNat_natCast, ← hL, if_pos ⟨by omega, by omega, by rw [← hC]; exact h⟩])
  have HRN := Lib.hid (show C ≠ xs → R = [] from fun h => by rw [hR]; unfold bitsOf; rw [Int.toNat_natCast, ← hL, if_neg (fun h' => h (by rw [hC]; exact h'.2.2))])
  have HLL := Lib.hid hLl
  have HCL := Lib.hid hCl
  have HCB := Lib.hid (show Bytes C from by rw [hC]; exact pack_bytes L)
  have Q1 := Lib.hid q1
  have HX := Lib.hid hx
  have HS := Lib.hid hs
  have HLG := Lib.hid (fun i (hi : i < k) => show L.take (i + 1) = L.take i ++ [(xs[i / 8]?.getD 0).testBit (i % 8)] from by
    have g : L[i]?.getD false = (xs[i / 8]?.getD 0).testBit (i % 8) := by rw [hL, List.getElem?_take, if_pos hi, unpack_get (by omega)]
    rw [List.getElem?_eq_getElem (by omega)] at g
    rw [List.take_succ_eq_append_getElem (by omega), ← g]
    rfl)
  have KB := Lib.hid (fun W (B : Below w.heap.size w W) i (hi : i < k) => refBit_any A n c i xs W (hs.to B) hx (by omega) (by omega))
  have KP := Lib.hid (fun A5 c5 W (S : Sl W W.heap.size A5 k (bl L)) => refPackBits_any A5 k c5 L W S (by omega))
  rw [← hC] at KP
  have hnegd : decide ((k : Int) < 0) = false := decide_eq_false hneg
  have hbigd : decide (8 * (n : Int) < (k : Int)) = false := decide_eq_false hbig
  clear hR hL hC hLl hCl q1 hx hs
  go_enter Try.func12, Try.ntmps12
  go_wp2_with fail
  go_loopw [5, 6] (fun v iv wr => ∃ i : Nat, i ≤ k ∧ iv = .int .i64 i ∧ Has w wr 4 v i (bl (L.take i))) (fun _ iv _ => k - (intOf iv).toNat)
  case atStart => exact ⟨0, by omega, rfl, Has.nil_ (Below.refl _ _) _⟩
  case round =>
    obtain ⟨i, hi, rfl, H⟩ := hrel
    by_cases hlt : (i : Int) < (k : Int)
    · have K1 := Lib.hid (KB.out wr H.bel i (by omega))
      have HG := Lib.hid (HLG.out i (by omega))
      obtain ⟨x, ex⟩ : ∃ x, x = (xs[i / 8]?.getD 0).testBit (i % 8) := ⟨_, rfl⟩
      rw [← ex] at K1 HG
      clear ex
      go_wp2_with fail
      refine K1.out.mono ?_
      rintro e w1 ⟨rfl, rfl⟩
      go_wp2_with (at_builtin; refine wpList_app _root_.Go.Proofs.Ytcckplpfgpagmaa.WdW.eb rfl (.tmp 23) (.tmp 27) rfl (H.alloc _) rfl (Sl.new1 _ _ _) rfl (by simp [Value.oneCell']) (by omega) (by simp only [maxLen]; omega) ?_; intro v3 w3 H3 _ _)
      go_roundw
      case rel =>
        refine ⟨i + 1, by omega, by go_num, ?_⟩
        rw [HG.out, ← bl_append]
        exact H3
      case measure => simp [intOf]; omega
    · obtain rfl : i = k := by omega
      rw [List.take_of_length_le (by rw [HLL.out]; exact Nat.le_refl _)] at H
      obtain ⟨A5, c5, rfl, -, S5, -⟩ := H.slice
      go_wp2_with fail
      refine (KP.out A5 c5 _ S5).mono ?_
      rintro e w6 ⟨v6, rfl, H6⟩
      have H := H.below H6.bel
      obtain ⟨m, hm⟩ : ∃ m, m = (i + 7) / 8 := ⟨_, rfl⟩
      rw [← hm] at H6 HCL
      obtain ⟨A6, c6, rfl, -, S6, -⟩ := H6.slice
      clear hm H6 S5 KP KB HLG
      by_cases hmn : m = n
      · subst hmn
        have S0 := HS.out.to H.bel
        clear hbigd
        go_wp2_with fail
        go_loopw [8] (fun jv wr2 => ∃ j : Nat, j ≤ m ∧ jv = .int .i64 j ∧ xs.take j = C.take j ∧ Below w6.heap.size w6 wr2) (fun jv _ => m - (intOf jv).toNat)
        case atStart => exact ⟨0, by omega, rfl, by simp, Below.refl _ _⟩
        case round =>
          obtain ⟨j, hj, rfl, he, hb⟩ := hrel
          have HE := Lib.hid he
          clear he
          by_cases hjm : (j : Int) < (m : Int)
          · obtain ⟨b1, o1, e1, _, d1⟩ := (S0.to hb).2 (by omega)
            obtain ⟨b2, o2, e2, _, d2⟩ := (S6.to hb).2 (by omega)
            subst e1 e2
            have g1 := (d1 j (by omega)).trans (bs_get (by rw [Q1.out]; omega))
            have g2 := (d2 j (by omega)).trans (bs_get (by rw [HCL.out]; omega))
            have HT := Lib.hid (take_eq_snoc 0 (l := xs) (r := C) (k := j) (by rw [Q1.out]; omega) (by rw [HCL.out]; omega))
            have HNE := Lib.hid (show xs[j]?.getD 0 ≠ C[j]?.getD 0 → R = [] from fun h => HRN.out (fun e => h (by rw [e])))
            obtain ⟨x, ex⟩ : ∃ x, x = xs[j]?.getD 0 := ⟨_, rfl⟩
            obtain ⟨y, ey⟩ : ∃ y, y = C[j]?.getD 0 := ⟨_, rfl⟩
            rw [← ex, ← ey] at HT HNE
            rw [← ex] at g1
            rw [← ey] at g2
            have z0 : (0 : Int) ≤ (j : Int) := by omega
            clear d1 d2 S0 S6 ex ey
            by_cases hxy : x = y
            · have hT : ((x : Int) != (y : Int)) = false := by rw [hxy]; simp
              have HXY := Lib.hid hxy
              clear hxy HNE
              go_wp2_with fail
              go_quiet (fail)
              go_wp2_with fail
              go_roundw
              case rel => exact ⟨j + 1, by omega, by go_num, HT.out.2 ⟨HE.out, HXY.out⟩, hb.drewN _⟩
              case measure => simp [intOf]; omega
            · have hT : ((x : Int) != (y : Int)) = true := by rw [bne_iff_ne]; omega
              have HF := Lib.hid (HNE.out hxy)
              clear hxy HNE HT
              go_wp2_with fail
              go_quiet (fail)
              go_wp2_with fail
              go_ret
              rw [HF.out]
              exact RetBits.none ((H.bel.call hb).drewN _)
          · obtain rfl : j = m := by omega
            have HF := Lib.hid (HRY.out (by
              have h := HE.out
              rw [List.take_of_length_le (by rw [Q1.out]; exact Nat.le_refl _), List.take_of_length_le (by rw [HCL.out]; exact Nat.le_refl _)] at h
              exact h.symm))
            have H := H.below hb
            go_wp2_with fail
            go_ret
            rw [HF.out]
            refine ⟨_, rfl, ?_⟩
            rw [HLL.out]
            exact H
      · have hT : ((m : Int) != (n : Int)) = true := by rw [bne_iff_ne]; omega
        have HF := Lib.hid (HRN.out (fun e => hmn (by rw [← HCL.out, e, Q1.out])))
        go_wp2_with fail
        go_ret
        rw [HF.out]
        exact RetBits.none H.bel
end Go.Proofs.Ytcckplpfgpagmaa.WdW
