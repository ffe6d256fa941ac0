/- Bits packed and unpacked are as they were. No program in sight. -/
import Derived.Test.YtpajpcaninjhfaaAskPack
namespace Go.Proofs.Ytpajpcaninjhfaa.Ask
open Go.RowKit
theorem bitN_iff (l : List Bool) (j : Nat) : (bitN l j = 1) ↔ l[j]?.getD false = true := by
  unfold bitN; split <;> simp_all
theorem octet_testBit (l : List Bool) (i m : Nat) (hm : m < 8) : (octet l i).testBit m = l[8 * i + m]?.getD false := by
  have h0 := bitN_le l (8 * i)
  have h1 := bitN_le l (8 * i + 1)
  have h2 := bitN_le l (8 * i + 2)
  have h3 := bitN_le l (8 * i + 3)
  have h4 := bitN_le l (8 * i + 4)
  have h5 := bitN_le l (8 * i + 5)
  have h6 := bitN_le l (8 * i + 6)
  have h7 := bitN_le l (8 * i + 7)
  rw [Nat.testBit_eq_decide_div_mod_eq, Bool.eq_iff_iff, decide_eq_true_iff, ← bitN_iff]
  obtain rfl | rfl | rfl | rfl | rfl | rfl | rfl | rfl : m = 0 ∨ m = 1 ∨ m = 2 ∨ m = 3 ∨ m = 4 ∨ m = 5 ∨ m = 6 ∨ m = 7 := by omega
  all_goals
    unfold octet
    simp only [Nat.add_zero, Nat.reducePow]
    omega
theorem unpack_pack_get (l : List Bool) (j : Nat) (h : j < 8 * ((l.length + 7) / 8)) : (unpack (pack l))[j]?.getD false = l[j]?.getD false := by
  rw [unpack_get (by rw [pack_length]; exact h), pack_get (by omega), octet_testBit l _ _ (by omega), Nat.div_add_mod]
theorem ext_getD {α : Type} (d : α) {l r : List α} (hl : l.length = r.length) (h : ∀ j, j < l.length → l[j]?.getD d = r[j]?.getD d) : l = r := by
  apply List.ext_getElem hl
  intro j h1 h2
  have := h j h1
  rw [List.getElem?_eq_getElem h1, List.getElem?_eq_getElem h2] at this
  simpa using this
theorem unpack_pack (l : List Bool) : (unpack (pack l)).take l.length = l := by
  have hl : ((unpack (pack l)).take l.length).length = l.length := by rw [List.length_take, unpack_length, pack_length]; omega
  refine ext_getD false hl (fun j hj => ?_)
  rw [hl] at hj
  rw [List.getElem?_take, if_pos hj, unpack_pack_get l j (by omega)]
theorem octet_unpack (b : List Nat) (hb : Bytes b) (i : Nat) (h : i < b.length) : octet (unpack b) i = b[i]?.getD 0 := by
  have hx := hb.at i
  obtain ⟨x, ex⟩ : ∃ x, x = b[i]?.getD 0 := ⟨_, rfl⟩
  have e : ∀ m, m < 8 → bitN (unpack b) (8 * i + m) = x / 2 ^ m % 2 := by
    intro m hm
    have : (unpack b)[8 * i + m]?.getD false = x.testBit m := by
      rw [unpack_get (by omega), show (8 * i + m) / 8 = i by omega, show (8 * i + m) % 8 = m by omega, ex]
    unfold bitN
    rw [this, Nat.testBit_eq_decide_div_mod_eq]
    have := Nat.mod_lt (x / 2 ^ m) (show 2 > 0 by decide)
    split <;> simp_all <;> omega
  rw [← ex] at hx ⊢
  have e0 : bitN (unpack b) (8 * i) = x % 2 := by
    have := e 0 (by omega)
    rwa [Nat.add_zero, Nat.pow_zero, Nat.div_one] at this
  unfold octet
  rw [e0, e 1 (by omega), e 2 (by omega), e 3 (by omega), e 4 (by omega), e 5 (by omega), e 6 (by omega), e 7 (by omega)]
  simp only [Nat.reducePow]
  omega
theorem pack_unpack (b : List Nat) (hb : Bytes b) : pack (unpack b) = b := by
  refine ext_getD 0 (by rw [pack_length, unpack_length]; omega) (fun j hj => ?_)
  rw [pack_length, unpack_length] at hj
  rw [pack_get (by rw [unpack_length]; omega), octet_unpack b hb j (by omega)]
end Go.Proofs.Ytpajpcaninjhfaa.Ask
