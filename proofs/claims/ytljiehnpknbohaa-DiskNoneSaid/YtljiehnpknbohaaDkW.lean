/- The walk of the law's awake (layer 9). -/
import Derived.Test.YtljiehnpknbohaaDkD
import Derived.Test.YtljiehnpknbohaaDkL
import Derived.Test.YtljiehnpknbohaaWdA
import Derived.WalkLawsBesides
set_option linter.unusedVariables false
set_option linter.unusedSimpArgs false
namespace Go.Proofs.Ytljiehnpknbohaa.DkW
open Go.RowKit Go.Proofs.Ytljiehnpknbohaa Go.Proofs.Ytljiehnpknbohaa.Dk
theorem bytes_of {l : List Nat} (h : (l.all fun c => decide (c < 256)) = true) : Bytes l := fun c hc => by
  have := List.all_eq_true.1 h c hc
  simpa using this
theorem new_then (w : World) (xs : List Value) (t : TypeId) (g : Nat) (hg : g = w.heap.size) : Sl (w.alloc (.cells xs.toArray t)) (w.alloc (.cells xs.toArray t)).heap.size (some ⟨g, 0, none⟩) xs.length xs := by
  subst hg
  have h := Sl.new w xs.toArray t (w.alloc (.cells xs.toArray t)).heap.size (by simp)
  simpa using h
theorem away_new {w : World} {base : Nat} {S : Nat → Prop} {p : Nat} {d : D} (h : Dk w base S p d) {n : Nat} : Away S (some ⟨w.heap.size, 0, none⟩) n := fun _ b o e hs => by
  injection e with e
  injection e with e1 _ _
  have := h.hi b hs
  omega
set_option maxHeartbeats 4000000 in
theorem awake9_any (K : DiskK) (w : World) : Calls Try.prog 9 #[] w fun e w' => e = .returned (.bool true) ∧ Below w.heap.size w w' := by
  obtain ⟨i0, hi0, hz0, hs0, hb0⟩ := info_parts (P := Try.prog) (e := 5) (z := .int .u8 0) (size := 1) (bytes := 1) (by kernel_rfl)
  have hmk : ∀ W : World, (Instr.makeSlice 30 (.int .i64 6) (.int .i64 6)).run Try.prog W = .ok (.slice (some ⟨W.heap.size, 0, none⟩) 6 6) (W.alloc (.cells (Array.replicate 6 (.int .u8 0)) 5)) := fun W => by
    have h := run_make (P := Try.prog) W 30 5 i0 (.int .u8 0) Try.underlying30 hi0 hz0 .i64 .i64 6 6 (by decide) (by decide) (by rw [hb0]; decide) (by decide)
    rw [hs0, Nat.mul_one, show (Value.int IntKind.u8 0).cells = #[Value.int .u8 0] from rfl, made_one] at h
    exact h
  have HMK := Lib.hid hmk
  clear hmk
  go_enter Try.func9, Try.ntmps9
  go_wp2_with fail
  refine (K.new 9 _ (by omega)).mono ?_
  rintro e w1 ⟨p, S1, rfl, H1, B1⟩
  go_wp2_with fail
  have hd := H1.to ((Below.refl _ w1).new (.cells #[.int .u8 1, .int .u8 2, .int .u8 3] 5))
  refine (K.append (Dk.new 9) _ S1 p _ 3 3 [1, 2, 3] _ hd (Sl.new _ #[_, _, _] _ _ (by simp)) (away_new H1) (bytes_of (by decide)) (by omega)).mono ?_
  rw [show Dk.append (Dk.new 9) [1, 2, 3] = ((⟨9, 0, (-1), [1, 2, 3], false⟩ : D), 0) from rfl]
  rintro e w2 ⟨rfl, S2, H2, st, hS⟩
  have B2 := (B1.new (.cells #[.int .u8 1, .int .u8 2, .int .u8 3] 5)).trans (st.below (B1.new (.cells #[.int .u8 1, .int .u8 2, .int .u8 3] 5)).size hd.lo)
  clear st hS hd H1 B1
  go_wp2_with fail
  have hd := H2
  refine (K.sync (⟨9, 0, (-1), [1, 2, 3], false⟩ : D) _ S2 p _ hd).mono ?_
  rw [show Dk.sync (⟨9, 0, (-1), [1, 2, 3], false⟩ : D) = ((⟨9, 3, (-1), [1, 2, 3], false⟩ : D), 0) from rfl]
  rintro e w3 ⟨rfl, S3, H3, st, hS⟩
  have B3 := (B2).trans (st.below (B2).size hd.lo)
  clear st hS hd H2 B2
  go_wp2_with fail
  have hd := H3.to ((Below.refl _ w3).new (.cells #[.int .u8 4, .int .u8 5] 5))
  refine (K.append (⟨9, 3, (-1), [1, 2, 3], false⟩ : D) _ S3 p _ 2 2 [4, 5] _ hd (Sl.new _ #[_, _] _ _ (by simp)) (away_new H3) (bytes_of (by decide)) (by omega)).mono ?_
  rw [show Dk.append (⟨9, 3, (-1), [1, 2, 3], false⟩ : D) [4, 5] = ((⟨9, 3, (-1), [1, 2, 3, 4, 5], false⟩ : D), 0) from rfl]
  rintro e w4 ⟨rfl, S4, H4, st, hS⟩
  have B4 := (B3.new (.cells #[.int .u8 4, .int .u8 5] 5)).trans (st.below (B3.new (.cells #[.int .u8 4, .int .u8 5] 5)).size hd.lo)
  clear st hS hd H3 B3
  go_wp2_with fail
  have hd := H4
  refine (K.crash (⟨9, 3, (-1), [1, 2, 3, 4, 5], false⟩ : D) _ S4 p 1 _ hd (by decide) (by decide)).mono ?_
  rw [show Dk.crash (⟨9, 3, (-1), [1, 2, 3, 4, 5], false⟩ : D) 1 = (⟨9, 4, (-1), [1, 2, 3, 4], false⟩ : D) from rfl]
  rintro e w5 ⟨rfl, S5, H5, st, hS⟩
  have B5 := (B4).trans (st.below (B4).size hd.lo)
  clear st hS hd H4 B4
  go_wp2_with fail
  refine (K.bytes (⟨9, 4, (-1), [1, 2, 3, 4], false⟩ : D) _ S5 p _ H5).mono ?_
  rintro e w6 ⟨v, rfl, hv⟩
  obtain ⟨Av, cv, rfl, -, sv, -⟩ := hv.slice
  have sv : Sl w6 w6.heap.size Av 4 (bs [1, 2, 3, 4]) := sv
  have bv := hv.bel
  clear hv
  have H6 := H5.to bv
  have B6 := B5.call bv
  clear H5 B5 bv
  dsimp only [List.length]
  go_wp2_with fail
  have sx := sv.to ((Below.refl _ w6).new (.cells #[.int .u8 1, .int .u8 2, .int .u8 3, .int .u8 4] 5))
  have H7 := H6.to ((Below.refl _ w6).new (.cells #[.int .u8 1, .int .u8 2, .int .u8 3, .int .u8 4] 5))
  have B7 := B6.new (.cells #[.int .u8 1, .int .u8 2, .int .u8 3, .int .u8 4] 5)
  have sn : Sl (w6.alloc (.cells #[.int .u8 1, .int .u8 2, .int .u8 3, .int .u8 4] 5)) (w6.alloc (.cells #[.int .u8 1, .int .u8 2, .int .u8 3, .int .u8 4] 5)).heap.size (some ⟨w6.heap.size, 0, none⟩) 4 (bs [1, 2, 3, 4]) := new_then _ (bs [1, 2, 3, 4]) _ _ rfl
  obtain ⟨w7, hW⟩ : ∃ X, X = w6.alloc (.cells #[.int .u8 1, .int .u8 2, .int .u8 3, .int .u8 4] 5) := ⟨_, rfl⟩
  rw [← hW] at sx H7 B7 sn ⊢
  clear hW sv H6 B6
  refine (WdW.law6Same_any Av _ 4 cv 4 4 _ [1, 2, 3, 4] [1, 2, 3, 4] _ sx (bytes_of (by decide)) sn (bytes_of (by decide))).mono ?_
  rw [beq_self_eq_true]
  rintro e wz ⟨rfl, rfl⟩
  clear sx sn
  go_wp2_with fail
  refine (K.safe (⟨9, 4, (-1), [1, 2, 3, 4], false⟩ : D) _ S5 p _ H7).mono ?_
  rintro e w8 ⟨rfl, b⟩
  have H8 := H7.to b
  have B8 := B7.call b
  clear H7 B7 b
  go_wp2_with fail
  have hd := H8
  refine (K.sparks (⟨9, 4, (-1), [1, 2, 3, 4], false⟩ : D) _ S5 p 2 _ hd (by decide) (by decide)).mono ?_
  rw [show Dk.sparks (⟨9, 4, (-1), [1, 2, 3, 4], false⟩ : D) 2 = (⟨9, 4, 2, [1, 2, 3, 4], false⟩ : D) from rfl]
  rintro e w9 ⟨rfl, S9, H9, st, hS⟩
  have B9 := (B8).trans (st.below (B8).size hd.lo)
  clear st hS hd H8 B8
  go_wp2_with fail
  have hd := H9.to ((Below.refl _ w9).new (.cells #[.int .u8 6, .int .u8 7, .int .u8 8] 5))
  refine (K.append (⟨9, 4, 2, [1, 2, 3, 4], false⟩ : D) _ S9 p _ 3 3 [6, 7, 8] _ hd (Sl.new _ #[_, _, _] _ _ (by simp)) (away_new H9) (bytes_of (by decide)) (by omega)).mono ?_
  rw [show Dk.append (⟨9, 4, 2, [1, 2, 3, 4], false⟩ : D) [6, 7, 8] = ((⟨9, 4, 0, [1, 2, 3, 4, 6, 7], true⟩ : D), 6) from rfl]
  rintro e w10 ⟨rfl, S10, H10, st, hS⟩
  have B10 := (B9.new (.cells #[.int .u8 6, .int .u8 7, .int .u8 8] 5)).trans (st.below (B9.new (.cells #[.int .u8 6, .int .u8 7, .int .u8 8] 5)).size hd.lo)
  clear st hS hd H9 B9
  go_wp2_with fail
  refine (K.bytes (⟨9, 4, 0, [1, 2, 3, 4, 6, 7], true⟩ : D) _ S10 p _ H10).mono ?_
  rintro e w11 ⟨v, rfl, hv⟩
  obtain ⟨Av, cv, rfl, -, sv, -⟩ := hv.slice
  have sv : Sl w11 w11.heap.size Av 6 (bs [1, 2, 3, 4, 6, 7]) := sv
  have bv := hv.bel
  clear hv
  have H11 := H10.to bv
  have B11 := B10.call bv
  clear H10 B10 bv
  dsimp only [List.length]
  go_wp2_with fail
  have sx := sv.to ((Below.refl _ w11).new (.cells #[.int .u8 1, .int .u8 2, .int .u8 3, .int .u8 4, .int .u8 6, .int .u8 7] 5))
  have H12 := H11.to ((Below.refl _ w11).new (.cells #[.int .u8 1, .int .u8 2, .int .u8 3, .int .u8 4, .int .u8 6, .int .u8 7] 5))
  have B12 := B11.new (.cells #[.int .u8 1, .int .u8 2, .int .u8 3, .int .u8 4, .int .u8 6, .int .u8 7] 5)
  have sn : Sl (w11.alloc (.cells #[.int .u8 1, .int .u8 2, .int .u8 3, .int .u8 4, .int .u8 6, .int .u8 7] 5)) (w11.alloc (.cells #[.int .u8 1, .int .u8 2, .int .u8 3, .int .u8 4, .int .u8 6, .int .u8 7] 5)).heap.size (some ⟨w11.heap.size, 0, none⟩) 6 (bs [1, 2, 3, 4, 6, 7]) := new_then _ (bs [1, 2, 3, 4, 6, 7]) _ _ rfl
  obtain ⟨w12, hW⟩ : ∃ X, X = w11.alloc (.cells #[.int .u8 1, .int .u8 2, .int .u8 3, .int .u8 4, .int .u8 6, .int .u8 7] 5) := ⟨_, rfl⟩
  rw [← hW] at sx H12 B12 sn ⊢
  clear hW sv H11 B11
  refine (WdW.law6Same_any Av _ 6 cv 6 6 _ [1, 2, 3, 4, 6, 7] [1, 2, 3, 4, 6, 7] _ sx (bytes_of (by decide)) sn (bytes_of (by decide))).mono ?_
  rw [beq_self_eq_true]
  rintro e wz ⟨rfl, rfl⟩
  clear sx sn
  go_wp2_with fail
  have hd := H12
  refine (K.sync (⟨9, 4, 0, [1, 2, 3, 4, 6, 7], true⟩ : D) _ S10 p _ hd).mono ?_
  rw [show Dk.sync (⟨9, 4, 0, [1, 2, 3, 4, 6, 7], true⟩ : D) = ((⟨9, 4, 0, [1, 2, 3, 4, 6, 7], true⟩ : D), 6) from rfl]
  rintro e w13 ⟨rfl, S13, H13, st, hS⟩
  have B13 := (B12).trans (st.below (B12).size hd.lo)
  clear st hS hd H12 B12
  go_wp2_with fail
  have hd := H13
  refine (K.crash (⟨9, 4, 0, [1, 2, 3, 4, 6, 7], true⟩ : D) _ S13 p 0 _ hd (by decide) (by decide)).mono ?_
  rw [show Dk.crash (⟨9, 4, 0, [1, 2, 3, 4, 6, 7], true⟩ : D) 0 = (⟨9, 4, (-1), [1, 2, 3, 4], false⟩ : D) from rfl]
  rintro e w14 ⟨rfl, S14, H14, st, hS⟩
  have B14 := (B13).trans (st.below (B13).size hd.lo)
  clear st hS hd H13 B13
  go_wp2_with fail
  refine (K.bytes (⟨9, 4, (-1), [1, 2, 3, 4], false⟩ : D) _ S14 p _ H14).mono ?_
  rintro e w15 ⟨v, rfl, hv⟩
  obtain ⟨Av, cv, rfl, -, sv, -⟩ := hv.slice
  have sv : Sl w15 w15.heap.size Av 4 (bs [1, 2, 3, 4]) := sv
  have bv := hv.bel
  clear hv
  have H15 := H14.to bv
  have B15 := B14.call bv
  clear H14 B14 bv
  dsimp only [List.length]
  go_wp2_with fail
  have sx := sv.to ((Below.refl _ w15).new (.cells #[.int .u8 1, .int .u8 2, .int .u8 3, .int .u8 4] 5))
  have H16 := H15.to ((Below.refl _ w15).new (.cells #[.int .u8 1, .int .u8 2, .int .u8 3, .int .u8 4] 5))
  have B16 := B15.new (.cells #[.int .u8 1, .int .u8 2, .int .u8 3, .int .u8 4] 5)
  have sn : Sl (w15.alloc (.cells #[.int .u8 1, .int .u8 2, .int .u8 3, .int .u8 4] 5)) (w15.alloc (.cells #[.int .u8 1, .int .u8 2, .int .u8 3, .int .u8 4] 5)).heap.size (some ⟨w15.heap.size, 0, none⟩) 4 (bs [1, 2, 3, 4]) := new_then _ (bs [1, 2, 3, 4]) _ _ rfl
  obtain ⟨w16, hW⟩ : ∃ X, X = w15.alloc (.cells #[.int .u8 1, .int .u8 2, .int .u8 3, .int .u8 4] 5) := ⟨_, rfl⟩
  rw [← hW] at sx H16 B16 sn ⊢
  clear hW sv H15 B15
  refine (WdW.law6Same_any Av _ 4 cv 4 4 _ [1, 2, 3, 4] [1, 2, 3, 4] _ sx (bytes_of (by decide)) sn (bytes_of (by decide))).mono ?_
  rw [beq_self_eq_true]
  rintro e wz ⟨rfl, rfl⟩
  clear sx sn
  have hmk := HMK.out
  go_wp2_with fail
  clear hmk
  have hd := H16.to ((Below.refl _ w16).new (.cells (Array.replicate 6 (.int .u8 0)) 5))
  refine (K.append (⟨9, 4, (-1), [1, 2, 3, 4], false⟩ : D) _ S14 p _ 6 6 [0, 0, 0, 0, 0, 0] _ hd (by exact Sl.new w16 (Array.replicate 6 (.int .u8 0)) 5 _ (by simp)) (away_new H16) (bytes_of (by decide)) (by omega)).mono ?_
  rw [show Dk.append (⟨9, 4, (-1), [1, 2, 3, 4], false⟩ : D) [0, 0, 0, 0, 0, 0] = ((⟨9, 4, (-1), [1, 2, 3, 4], false⟩ : D), 5) from rfl]
  rintro e w17 ⟨rfl, S17, H17, st, hS⟩
  have B17 := (B16.new (.cells (Array.replicate 6 (.int .u8 0)) 5)).trans (st.below (B16.new (.cells (Array.replicate 6 (.int .u8 0)) 5)).size hd.lo)
  clear st hS hd H16 B16
  go_wp2_with fail
  have hd := H17
  refine (K.cut (⟨9, 4, (-1), [1, 2, 3, 4], false⟩ : D) _ S17 p 2 _ hd (by decide) (by decide)).mono ?_
  rw [show Dk.cut (⟨9, 4, (-1), [1, 2, 3, 4], false⟩ : D) 2 = ((⟨9, 2, (-1), [1, 2], false⟩ : D), 0) from rfl]
  rintro e w18 ⟨rfl, S18, H18, st, hS⟩
  have B18 := (B17).trans (st.below (B17).size hd.lo)
  clear st hS hd H17 B17
  go_wp2_with fail
  refine (K.bytes (⟨9, 2, (-1), [1, 2], false⟩ : D) _ S18 p _ H18).mono ?_
  rintro e w19 ⟨v, rfl, hv⟩
  obtain ⟨Av, cv, rfl, -, sv, -⟩ := hv.slice
  have sv : Sl w19 w19.heap.size Av 2 (bs [1, 2]) := sv
  have bv := hv.bel
  clear hv
  have H19 := H18.to bv
  have B19 := B18.call bv
  clear H18 B18 bv
  dsimp only [List.length]
  go_wp2_with fail
  have sx := sv.to ((Below.refl _ w19).new (.cells #[.int .u8 1, .int .u8 2] 5))
  have H20 := H19.to ((Below.refl _ w19).new (.cells #[.int .u8 1, .int .u8 2] 5))
  have B20 := B19.new (.cells #[.int .u8 1, .int .u8 2] 5)
  have sn : Sl (w19.alloc (.cells #[.int .u8 1, .int .u8 2] 5)) (w19.alloc (.cells #[.int .u8 1, .int .u8 2] 5)).heap.size (some ⟨w19.heap.size, 0, none⟩) 2 (bs [1, 2]) := new_then _ (bs [1, 2]) _ _ rfl
  obtain ⟨w20, hW⟩ : ∃ X, X = w19.alloc (.cells #[.int .u8 1, .int .u8 2] 5) := ⟨_, rfl⟩
  rw [← hW] at sx H20 B20 sn ⊢
  clear hW sv H19 B19
  refine (WdW.law6Same_any Av _ 2 cv 2 2 _ [1, 2] [1, 2] _ sx (bytes_of (by decide)) sn (bytes_of (by decide))).mono ?_
  rw [beq_self_eq_true]
  rintro e wz ⟨rfl, rfl⟩
  clear sx sn
  go_wp2_with fail
  go_ret
  exact ⟨rfl, B20⟩
end Go.Proofs.Ytljiehnpknbohaa.DkW
