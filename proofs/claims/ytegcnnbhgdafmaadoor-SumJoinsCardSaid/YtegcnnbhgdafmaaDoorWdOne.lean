/- One bit among bits that are off, packed; and one more behind them. No program in sight. -/
import Derived.Test.YtegcnnbhgdafmaaDoorWdMath
namespace Go.Proofs.YtegcnnbhgdafmaaDoor.Wd
open Go.Proofs.YtegcnnbhgdafmaaDoor Go.Proofs.YtegcnnbhgdafmaaDoor.Ask
/-- n bits, of which the k-th is on. -/
def one (n k : Nat) : List Bool := (List.replicate n false).set k true
theorem one_length (n k : Nat) : (one n k).length = n := by simp [one]
theorem one_get {n k : Nat} (hk : k < n) (j : Nat) : (one n k)[j]?.getD false = decide (j = k) := by
  unfold one
  rw [List.getElem?_set]
  by_cases h : k = j
  · subst h
    simp [hk]
  · rw [if_neg h, decide_eq_false (fun e => h e.symm)]
    by_cases hj : j < n
    · simp [hj]
    · rw [List.getElem?_eq_none (by simp; omega)]; rfl
theorem bitN_one {n k : Nat} (hk : k < n) (j : Nat) : bitN (one n k) j = if j = k then 1 else 0 := by
  unfold bitN
  rw [one_get hk]
  by_cases h : j = k <;> simp [h]
theorem octet_one {n k : Nat} (hk : k < n) (i : Nat) : octet (one n k) i = if i = k / 8 then 2 ^ (k % 8) else 0 := by
  unfold octet
  rw [bitN_one hk, bitN_one hk, bitN_one hk, bitN_one hk, bitN_one hk, bitN_one hk, bitN_one hk, bitN_one hk]
  by_cases hi : i = k / 8
  · rw [if_pos hi]
    have h8 : k % 8 = 0 ∨ k % 8 = 1 ∨ k % 8 = 2 ∨ k % 8 = 3 ∨ k % 8 = 4 ∨ k % 8 = 5 ∨ k % 8 = 6 ∨ k % 8 = 7 := by omega
    rcases h8 with h | h | h | h | h | h | h | h <;> rw [h]
    · rw [if_pos (by omega), if_neg (by omega), if_neg (by omega), if_neg (by omega), if_neg (by omega), if_neg (by omega), if_neg (by omega), if_neg (by omega)]
    · rw [if_neg (by omega), if_pos (by omega), if_neg (by omega), if_neg (by omega), if_neg (by omega), if_neg (by omega), if_neg (by omega), if_neg (by omega)]
    · rw [if_neg (by omega), if_neg (by omega), if_pos (by omega), if_neg (by omega), if_neg (by omega), if_neg (by omega), if_neg (by omega), if_neg (by omega)]
    · rw [if_neg (by omega), if_neg (by omega), if_neg (by omega), if_pos (by omega), if_neg (by omega), if_neg (by omega), if_neg (by omega), if_neg (by omega)]
    · rw [if_neg (by omega), if_neg (by omega), if_neg (by omega), if_neg (by omega), if_pos (by omega), if_neg (by omega), if_neg (by omega), if_neg (by omega)]
    · rw [if_neg (by omega), if_neg (by omega), if_neg (by omega), if_neg (by omega), if_neg (by omega), if_pos (by omega), if_neg (by omega), if_neg (by omega)]
    · rw [if_neg (by omega), if_neg (by omega), if_neg (by omega), if_neg (by omega), if_neg (by omega), if_neg (by omega), if_pos (by omega), if_neg (by omega)]
    · rw [if_neg (by omega), if_neg (by omega), if_neg (by omega), if_neg (by omega), if_neg (by omega), if_neg (by omega), if_neg (by omega), if_pos (by omega)]
  · rw [if_neg hi, if_neg (by omega), if_neg (by omega), if_neg (by omega), if_neg (by omega), if_neg (by omega), if_neg (by omega), if_neg (by omega), if_neg (by omega)]
theorem pack_one_get {n k i : Nat} (hk : k < n) (hi : i < (n + 7) / 8) : (pack (one n k))[i]?.getD 0 = if i = k / 8 then 2 ^ (k % 8) else 0 := by
  rw [pack_get (by rw [one_length]; exact hi), octet_one hk]
/-- Bytes of a wrong count are no bits. -/
theorem bits_count {b : List Nat} {n : Nat} (h : b.length ≠ (n + 7) / 8) : bitsOf b n = [] := by
  unfold bitsOf
  rw [if_neg]
  rintro ⟨_, h2, h3⟩
  apply h
  rw [← h3, pack_length, List.length_take, unpack_length, Int.toNat_natCast]
  omega
theorem bits_neg (b : List Nat) {n : Int} (h : n < 0) : bitsOf b n = [] := by
  unfold bitsOf; rw [if_neg (by omega)]
/-- The same, with one more that is on, behind them. -/
def behind (n k t : Nat) : List Bool := one n k ++ (List.replicate (t - n) false ++ [true])
theorem behind_length {n k t : Nat} (h : n ≤ t) : (behind n k t).length = t + 1 := by
  simp [behind, one_length]; omega
theorem behind_take {n k t : Nat} : (behind n k t).take n = one n k := by
  unfold behind
  rw [List.take_left' (one_length n k)]
theorem behind_at {n k t : Nat} (h : n ≤ t) : (behind n k t)[t]?.getD false = true := by
  unfold behind
  rw [List.getElem?_append_right (by rw [one_length]; exact h), List.getElem?_append_right (by rw [one_length]; simp), one_length]
  simp
theorem behind_before {n k t j : Nat} (h : n ≤ t) (hk : k < n) (hj : j < t) : (behind n k t)[j]?.getD false = decide (j = k) := by
  unfold behind
  by_cases hn : j < n
  · rw [List.getElem?_append_left (by rw [one_length]; exact hn), one_get hk]
  · rw [List.getElem?_append_right (by rw [one_length]; omega), List.getElem?_append_left (by rw [one_length]; simp; omega), one_length, decide_eq_false (by omega)]
    simp [show j - n < t - n by omega]
theorem bitN_take_behind {n k t : Nat} (h : n ≤ t) (hk : k < n) (j : Nat) : bitN ((behind n k t).take t) j = bitN (one n k) j := by
  rw [bitN_one hk]
  unfold bitN
  rw [List.getElem?_take]
  by_cases hj : j < t
  · rw [if_pos hj, behind_before h hk hj]
    by_cases e : j = k <;> simp [e]
  · rw [if_neg hj, if_neg (show ¬ j = k by omega)]
    rfl
theorem octet_take_behind {n k t : Nat} (h : n ≤ t) (hk : k < n) (i : Nat) : octet ((behind n k t).take t) i = octet (one n k) i := by
  unfold octet
  simp only [bitN_take_behind h hk]
theorem packTo_behind {n k t N : Nat} (h : n ≤ t) (hk : k < n) (hN : N = (n + 7) / 8) : (packTo (behind n k t) N t).toList = bs (pack (one n k)) := by
  subst hN
  simp only [packTo, bs, pack, one_length, octet_take_behind h hk, List.map_map]
  rfl
/-- What is written when that bit is put into the bytes. -/
theorem pack_behind {n k t N : Nat} (h : n ≤ t) (hk : k < n) (hN : N = (n + 7) / 8) (ht : t < 8 * N) : (bs (pack (one n k))).set (t / 8) (.int .u8 ((octet (one n k) (t / 8) ||| 2 ^ (t % 8) : Nat) : Int)) = bs (pack (behind n k t)) := by
  have h1 := packTo_on (l := behind n k t) (N := N) (k := t) (behind_at h)
  have h2 := congrArg Array.toList h1
  rw [Array.toList_setIfInBounds, packTo_behind h hk hN, octet_take_behind h hk] at h2
  rw [h2]
  have h3 := packTo_full (behind n k t)
  rw [behind_length h, show (t + 1 + 7) / 8 = N by omega] at h3
  exact h3
theorem bits_behind {n k t N : Nat} (h : n ≤ t) (hk : k < n) (hN : N = (n + 7) / 8) (ht : t < 8 * N) : bitsOf (pack (behind n k t)) n = [] ∧ (bitsOf (pack (behind n k t)) ((t + 1 : Nat) : Int)).length = t + 1 := by
  constructor
  · unfold bitsOf
    rw [if_neg]
    rintro ⟨_, h2, h3⟩
    rw [Int.toNat_natCast] at h3
    have e : (unpack (pack (behind n k t))).take n = one n k := by
      have hu := unpack_pack (behind n k t)
      rw [behind_length h] at hu
      have := congrArg (List.take n) hu
      rw [List.take_take, Nat.min_eq_left (by omega), behind_take] at this
      exact this
    rw [e] at h3
    have h4 : (unpack (pack (one n k)))[t]?.getD false = (unpack (pack (behind n k t)))[t]?.getD false := by rw [h3]
    rw [unpack_pack_get _ _ (by rw [one_length]; omega), unpack_pack_get _ _ (by rw [behind_length h]; omega), behind_at h, one_get hk] at h4
    simp at h4
    omega
  · have := bits_pack (behind n k t)
    rw [behind_length h] at this
    rw [this, behind_length h]
end Go.Proofs.YtegcnnbhgdafmaaDoor.Wd
