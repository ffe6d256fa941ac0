/- The walks of crc.Cut and saucierref01.Cut. -/
import Derived.Test.YtjelfclcmfmmaaaCrcF
import Derived.Deep.RegionHeld3
import Derived.Deep.QuietTactic
import Derived.BigQuiet
namespace Go.Proofs.Ytjelfclcmfmmaaa.CrcW
open Go.RowKit Go.Proofs.Ytjelfclcmfmmaaa
/-- What is cut, or the error. -/
def cutF (l : List Nat) : List Nat × Int :=
  if l.length < 2 then ([], 10)
  else if Crc.sum (l.take (l.length - 2)) = l[l.length - 2]?.getD 0 + 256 * l[l.length - 1]?.getD 0 then (l.take (l.length - 2), 0) else ([], 11)
/-- A call that hands back a row of its own, and an error. -/
def RetRowErr (w : World) (t : TypeId) (r : List Nat × Int) (e : Ending) (w' : World) : Prop := ∃ v, e = .returned (.tuple #[v, .int .i64 r.2]) ∧ Has w w' t v r.1.length (bs r.1)
theorem or_lohi (x y : Nat) (hx : x < 256) (hy : y < 256) : bits .or .u16 (x : Int) ((y : Int) * 256) = ((x + 256 * y : Nat) : Int) := by
  have h := u16_or_nat x (y * 256) (by omega) (by omega)
  have e : x ||| y * 256 = x + 256 * y := by
    have := Nat.two_pow_add_eq_or_of_lt (i := 8) (b := x) (by omega) y
    rw [show (2 : Nat) ^ 8 = 256 from rfl] at this
    rw [Nat.or_comm, Nat.mul_comm, ← this]; omega
  rw [e] at h
  rw [← h]; rfl

theorem wrapxy (x y : Nat) (hx : x < 256) (hy : y < 256) : bits .or .u16 (IntKind.u16.wrap (x : Int)) (IntKind.u16.wrap (IntKind.u16.wrap (y : Int) * 256)) = ((x + 256 * y : Nat) : Int) := by
  rw [IntKind.wrap_u16, IntKind.wrap_u16, IntKind.wrap_u16, show ((x : Int) % 65536) = x from by omega, show ((y : Int) % 65536) = y from by omega, show ((y : Int) * 256 % 65536) = y * 256 from by omega, or_lohi x y hx hy]
theorem Keep.go {w w1 w2 : World} {b o o2 : Nat} {u v : Value} (hb : b < w.heap.size) (h : Below w.heap.size w w1) (h1 : w1.cell? ⟨b, o, none⟩ = some u) (h2 : w1.cell? ⟨b, o2, none⟩ = some v) (k : Below w1.heap.size w1 w2) :
    Below w.heap.size w w2 ∧ w2.cell? ⟨b, o, none⟩ = some u ∧ w2.cell? ⟨b, o2, none⟩ = some v :=
  ⟨h.trans (k.mono h.size), (k.cell (p := ⟨b, o, none⟩) (Nat.lt_of_lt_of_le hb h.size)).trans h1, (k.cell (p := ⟨b, o2, none⟩) (Nat.lt_of_lt_of_le hb h.size)).trans h2⟩
theorem cut_any (A : Option Addr) (n cap : Nat) (l : List Nat) (w : World) (hs : Sl w w.heap.size A n (bs l)) (hl : Bytes l) (hn : n ≤ 140737488351232) (hcap : n ≤ cap) :
    Calls Try.prog 8 #[.slice A n cap] w (RetRowErr w 5 (cutF l)) := by
  have hlen : l.length = n := by simpa using hs.len
  by_cases h2 : n < 2
  · have HF : Hid (cutF l = ([], 10)) := by unfold cutF; rw [if_pos (by omega)]; rfl
    clear hlen
    go_enter Try.func8, Try.ntmps8
    go_wp2
    go_ret2
    rw [HF.out]
    exact ⟨_, rfl, Has.nil_ (Below.refl _ _) _⟩
  · obtain ⟨m, rfl⟩ : ∃ m, n = m + 2 := ⟨n - 2, by omega⟩
    have hs1 := hs.take (k := m) (by omega)
    rw [bs_take] at hs1
    obtain ⟨b, o, rfl, hbl, hc⟩ := hs.2 (by omega)
    have hc0 := (hc m (by omega)).trans (bs_get (by omega))
    have hc1 : w.cell? ⟨b, o + m + 1, none⟩ = _ := (hc (m + 1) (by omega)).trans (bs_get (by omega))
    have hx := hl.at m
    have hy := hl.at (m + 1)
    have hF : cutF l = if Crc.sum (l.take m) = l[m]?.getD 0 + 256 * l[m + 1]?.getD 0 then (l.take m, 0) else ([], 11) := by
      unfold cutF
      rw [if_neg (by omega), hlen]; rfl
    have HF := Lib.hid hF
    have HLn := Lib.hid hlen
    clear hF hlen hc
    obtain ⟨x, hxe⟩ : ∃ x, x = l[m]?.getD 0 := ⟨_, rfl⟩
    obtain ⟨y, hye⟩ : ∃ y, y = l[m + 1]?.getD 0 := ⟨_, rfl⟩
    rw [← hxe] at hc0 hx
    rw [← hye] at hc1 hy
    have HX := Lib.hid hxe
    have HY := Lib.hid hye
    clear hxe hye
    have hor := or_lohi x y hx hy
    go_enter Try.func8, Try.ntmps8
    go_wp2_with fail
    go_quiet (fail)
    go_wp2_with fail
    obtain ⟨S, hSe⟩ : ∃ S, S = Crc.sum (l.take m) := ⟨_, rfl⟩
    have HS := Lib.hid hSe
    clear hSe
    have hbd : Below w.heap.size w (w.drewN nq).drew := ((Below.refl _ _).drewN nq).drew
    go_region_held3 (fun w' => Below w.heap.size w w' ∧ w'.cell? ⟨b, o + m, none⟩ = some (.int .u8 (x : Nat)) ∧ w'.cell? ⟨b, o + m + 1, none⟩ = some (.int .u8 (y : Nat))) (first | exact ⟨hbd, hc0, hc1⟩ | exact ⟨hbk1, hbk2, hbk3⟩)
      (first | (go_at_call 12; go_split_ands; refine (sum_any _ m cap (l.take m) _ (Sl.mono (hs1.below (by assumption)) (Below.size (by assumption))) (hl.take m) (by omega)).mono ?_; rintro e w1 ⟨rfl, hb1⟩; have hbk := Keep.go (o := o + m) (o2 := o + m + 1) (u := .int .u8 (x : Nat)) (v := .int .u8 (y : Nat)) hbl (by assumption) (by assumption) (by assumption) hb1; have hbk1 := hbk.1; have hbk2 := hbk.2.1; have hbk3 := hbk.2.2; clear hbk))
    have hb2 : Below w.heap.size w w1 := hbk1
    have hs3 := (hs1.below hb2).mono hb2.size
    clear hbk1 hbk2 hbk3 hb1 hbd hc0 hc1 hs hs1
    by_cases hq : Crc.sum (l.take m) = x + 256 * y
    · have hT : (((Crc.sum (l.take m) : Nat) : Int) != bits .or .u16 (IntKind.u16.wrap (x : Int)) (IntKind.u16.wrap (IntKind.u16.wrap (y : Int) * 256))) = false := by
        rw [wrapxy x y hx hy, hq]; simp
      rw [hT]
      rw [← HX.out, ← HY.out, if_pos hq] at HF
      clear hT hq hor
      go_wp2_with (at_builtin; refine wpList_app u8 rfl (.const (.slice none 0 0)) (.tmp 32) rfl (Has.nil_ hb2 _) rfl hs3 rfl (bs_one _) (by omega) (by simp only [maxLen]; omega) ?_; intro v2 w2 H2 _ _)
      go_ret2
      rw [HF.out]
      rw [Nat.zero_add, List.nil_append] at H2
      refine ⟨v2, rfl, ?_⟩
      rw [show (l.take m).length = m from by rw [List.length_take, HLn.out]; omega]
      exact H2
    · have hT : (((Crc.sum (l.take m) : Nat) : Int) != bits .or .u16 (IntKind.u16.wrap (x : Int)) (IntKind.u16.wrap (IntKind.u16.wrap (y : Int) * 256))) = true := by
        rw [wrapxy x y hx hy]; simp; omega
      rw [hT]
      rw [← HX.out, ← HY.out, if_neg hq] at HF
      clear hT hq hor
      go_wp2
      go_ret2
      rw [HF.out]
      exact ⟨_, rfl, Has.nil_ hb2 _⟩

theorem refCut_any (A : Option Addr) (n cap : Nat) (l : List Nat) (w : World) (hs : Sl w w.heap.size A n (bs l)) (hl : Bytes l) (hn : n ≤ 140737488351232) (hcap : n ≤ cap) :
    Calls Try.prog 9 #[.slice A n cap] w (RetRowErr w 5 (cutF l)) := by
  have hlen : l.length = n := by simpa using hs.len
  by_cases h2 : n < 2
  · have HF : Hid (cutF l = ([], 10)) := by unfold cutF; rw [if_pos (by omega)]; rfl
    clear hlen
    go_enter Try.func9, Try.ntmps9
    go_wp2
    go_ret2
    rw [HF.out]
    exact ⟨_, rfl, Has.nil_ (Below.refl _ _) _⟩
  · obtain ⟨m, rfl⟩ : ∃ m, n = m + 2 := ⟨n - 2, by omega⟩
    have hs1 := hs.take (k := m) (by omega)
    rw [bs_take] at hs1
    obtain ⟨b, o, rfl, hbl, hc⟩ := hs.2 (by omega)
    have hc0 := (hc m (by omega)).trans (bs_get (by omega))
    have hc1 : w.cell? ⟨b, o + (m + 1), none⟩ = _ := (hc (m + 1) (by omega)).trans (bs_get (by omega))
    have hx := hl.at m
    have hy := hl.at (m + 1)
    have hF : cutF l = if Crc.sum (l.take m) = l[m]?.getD 0 + 256 * l[m + 1]?.getD 0 then (l.take m, 0) else ([], 11) := by
      unfold cutF
      rw [if_neg (by omega), hlen]; rfl
    have HF := Lib.hid hF
    have HLn := Lib.hid hlen
    have hz := Crc.sum_lt _ (hl.take m)
    have CS := fun W h => refSum_any (some ⟨b, o, none⟩) m cap (l.take m) W h (hl.take m) (by omega)
    clear hF hlen hc hs
    obtain ⟨x, hxe⟩ : ∃ x, x = l[m]?.getD 0 := ⟨_, rfl⟩
    obtain ⟨y, hye⟩ : ∃ y, y = l[m + 1]?.getD 0 := ⟨_, rfl⟩
    obtain ⟨S, hSe⟩ : ∃ S, S = Crc.sum (l.take m) := ⟨_, rfl⟩
    rw [← hxe] at hc0 hx
    rw [← hye] at hc1 hy
    rw [← hSe] at hz CS
    have HX := Lib.hid hxe
    have HY := Lib.hid hye
    have HS := Lib.hid hSe
    clear hxe hye hSe
    have HC := Lib.hid CS
    clear CS
    go_enter Try.func9, Try.ntmps9
    go_wp2_with (go_at_call 13; refine (HC.out _ hs1).mono ?_; rintro e w1 ⟨rfl, rfl⟩)
    have w1 : IntKind.i64.wrap ((m : Int) + 1) = m + 1 := by rw [IntKind.wrap_i64]; omega
    have w2 : (0 : Int) ≤ (m : Int) + 1 := by omega
    have w3 : ((m : Int) + 1).toNat = m + 1 := by omega
    by_cases hq : S = x + 256 * y
    · have hT : ((x : Int) + 256 * (y : Int) != (S : Int)) = false := by rw [bne_eq_false_iff_eq]; omega
      rw [← HX.out, ← HY.out, ← HS.out, if_pos hq] at HF
      clear hq
      go_quiet (fail)
      clear hT w1 w2 w3 hc0 hc1
      go_wp2_with (at_builtin; refine wpList_app u8 rfl (.tmp 33) (.tmp 36) rfl (Has.nil_ ((Below.refl _ w).drewN nq) _) rfl (hs1.drewN nq) rfl (bs_one _) (by omega) (by simp only [maxLen]; omega) ?_; intro v2 w2 H2 _ _)
      go_ret2
      rw [HF.out]
      rw [Nat.zero_add, List.nil_append] at H2
      refine ⟨v2, rfl, ?_⟩
      rw [show (l.take m).length = m from by rw [List.length_take, HLn.out]; omega]
      exact H2
    · have hT : ((x : Int) + 256 * (y : Int) != (S : Int)) = true := by rw [bne_iff_ne]; omega
      rw [← HX.out, ← HY.out, ← HS.out, if_neg hq] at HF
      clear hq
      go_quiet (fail)
      clear hT w1 w2 w3 hc0 hc1
      go_wp2
      go_ret2
      rw [HF.out]
      exact ⟨_, rfl, Has.nil_ ((Below.refl _ w).drewN nq) _⟩
end Go.Proofs.Ytjelfclcmfmmaaa.CrcW
