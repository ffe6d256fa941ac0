/- Bits in bytes, as plain functions. No program in sight. -/
import Derived.Test.YtpajpcaninjhfaaElem
import Derived.Laws.BitsAllLaws
namespace Go.Proofs.Ytpajpcaninjhfaa.Ask
open Go.RowKit
def bitN (l : List Bool) (j : Nat) : Nat := if l[j]?.getD false then 1 else 0
theorem bitN_le (l : List Bool) (j : Nat) : bitN l j ≤ 1 := by unfold bitN; split <;> omega
theorem bitN_past {l : List Bool} {j : Nat} (h : l.length ≤ j) : bitN l j = 0 := by simp [bitN, List.getElem?_eq_none h]
/-- Byte i of bits packed. -/
def octet (l : List Bool) (i : Nat) : Nat := bitN l (8 * i) + 2 * bitN l (8 * i + 1) + 4 * bitN l (8 * i + 2) + 8 * bitN l (8 * i + 3) + 16 * bitN l (8 * i + 4) + 32 * bitN l (8 * i + 5) + 64 * bitN l (8 * i + 6) + 128 * bitN l (8 * i + 7)
def pack (l : List Bool) : List Nat := (List.range ((l.length + 7) / 8)).map (octet l)
def unpack (b : List Nat) : List Bool := (List.range (8 * b.length)).map fun j => (b[j / 8]?.getD 0).testBit (j % 8)
theorem octet_lt (l : List Bool) (i : Nat) : octet l i < 256 := by
  unfold octet
  have h0 := bitN_le l (8 * i)
  have h1 := bitN_le l (8 * i + 1)
  have h2 := bitN_le l (8 * i + 2)
  have h3 := bitN_le l (8 * i + 3)
  have h4 := bitN_le l (8 * i + 4)
  have h5 := bitN_le l (8 * i + 5)
  have h6 := bitN_le l (8 * i + 6)
  have h7 := bitN_le l (8 * i + 7)
  omega
theorem pack_length (l : List Bool) : (pack l).length = (l.length + 7) / 8 := by simp [pack]
theorem pack_bytes (l : List Bool) : Bytes (pack l) := by
  intro c hc
  simp only [pack, List.mem_map] at hc
  obtain ⟨i, _, rfl⟩ := hc
  exact octet_lt l i
theorem pack_get {l : List Bool} {i : Nat} (h : i < (l.length + 7) / 8) : (pack l)[i]?.getD 0 = octet l i := by simp [pack, h]
theorem unpack_length (b : List Nat) : (unpack b).length = 8 * b.length := by simp [unpack]
theorem unpack_get {b : List Nat} {j : Nat} (h : j < 8 * b.length) : (unpack b)[j]?.getD false = (b[j / 8]?.getD 0).testBit (j % 8) := by simp [unpack, h]
theorem bitN_take_lt {l : List Bool} {k j : Nat} (h : j < k) : bitN (l.take k) j = bitN l j := by simp [bitN, h]
theorem bitN_take_ge {l : List Bool} {k j : Nat} (h : k ≤ j) : bitN (l.take k) j = 0 := bitN_past (by simp; omega)
theorem octet_take_ne {l : List Bool} {k i : Nat} (h : i ≠ k / 8) : octet (l.take (k + 1)) i = octet (l.take k) i := by
  have e : ∀ j, j < 8 → bitN (l.take (k + 1)) (8 * i + j) = bitN (l.take k) (8 * i + j) := by
    intro j hj
    by_cases hk : 8 * i + j < k
    · rw [bitN_take_lt hk, bitN_take_lt (by omega)]
    · rw [bitN_take_ge (k := k) (by omega), bitN_take_ge (by omega)]
  unfold octet
  have e0 : bitN (l.take (k + 1)) (8 * i) = bitN (l.take k) (8 * i) := e 0 (by omega)
  rw [e0, e 1 (by omega), e 2 (by omega), e 3 (by omega), e 4 (by omega), e 5 (by omega), e 6 (by omega), e 7 (by omega)]
theorem octet_take_eq {l : List Bool} {q m : Nat} (hm : m < 8) : octet (l.take (8 * q + m)) q < 2 ^ m ∧ octet (l.take (8 * q + m + 1)) q = octet (l.take (8 * q + m)) q + 2 ^ m * bitN l (8 * q + m) := by
  have a0 := bitN_le l (8 * q)
  have a1 := bitN_le l (8 * q + 1)
  have a2 := bitN_le l (8 * q + 2)
  have a3 := bitN_le l (8 * q + 3)
  have a4 := bitN_le l (8 * q + 4)
  have a5 := bitN_le l (8 * q + 5)
  have a6 := bitN_le l (8 * q + 6)
  have lt : ∀ j k, j < k → bitN (l.take k) j = bitN l j := fun j k => bitN_take_lt
  have ge : ∀ j k, k ≤ j → bitN (l.take k) j = 0 := fun j k => bitN_take_ge
  obtain rfl | rfl | rfl | rfl | rfl | rfl | rfl | rfl : m = 0 ∨ m = 1 ∨ m = 2 ∨ m = 3 ∨ m = 4 ∨ m = 5 ∨ m = 6 ∨ m = 7 := by omega
  all_goals
    unfold octet
    simp (discharger := omega) only [lt, ge, Nat.add_zero]
    constructor <;> omega
theorem or_add {a m : Nat} (h : a < 2 ^ m) : a ||| 2 ^ m = a + 2 ^ m := by
  have := Nat.two_pow_add_eq_or_of_lt h 1
  rw [Nat.mul_one] at this
  rw [Nat.or_comm, ← this, Nat.add_comm]
/-- A row of N bytes that holds the first k bits. -/
def packTo (l : List Bool) (N k : Nat) : Array Value := ((List.range N).map fun i => Value.int .u8 ((octet (l.take k) i : Nat) : Int)).toArray
theorem packTo_size (l : List Bool) (N k : Nat) : (packTo l N k).size = N := by simp [packTo]
theorem packTo_zero (l : List Bool) (N : Nat) : packTo l N 0 = Array.replicate N (.int .u8 0) := by
  apply Array.ext
  · simp [packTo]
  · intro i h1 h2
    simp [packTo, octet, bitN]
theorem packTo_get (l : List Bool) (N k i : Nat) (h : i < N) : (packTo l N k)[i]? = some (.int .u8 ((octet (l.take k) i : Nat) : Int)) := by simp [packTo, h]
theorem packTo_off {l : List Bool} {N k : Nat} (h : l[k]?.getD false = false) : packTo l N (k + 1) = packTo l N k := by
  unfold packTo
  congr 1
  apply List.map_congr_left
  intro i _
  by_cases hi : i = k / 8
  · subst hi
    have := (octet_take_eq (l := l) (q := k / 8) (m := k % 8) (by omega)).2
    rw [Nat.div_add_mod] at this
    rw [this]; simp [bitN, h]
  · rw [octet_take_ne hi]
theorem packTo_on {l : List Bool} {N k : Nat} (h : l[k]?.getD false = true) : (packTo l N k).setIfInBounds (k / 8) (.int .u8 ((octet (l.take k) (k / 8) ||| 2 ^ (k % 8) : Nat) : Int)) = packTo l N (k + 1) := by
  have h2 := octet_take_eq (l := l) (q := k / 8) (m := k % 8) (by omega)
  rw [Nat.div_add_mod] at h2
  apply Array.ext_getElem?
  intro i
  rw [Array.getElem?_setIfInBounds, packTo_size]
  by_cases hi : i < N
  · rw [packTo_get l N (k + 1) i hi]
    by_cases he : k / 8 = i
    · subst he
      rw [if_pos rfl, if_pos hi, h2.2, or_add h2.1]
      simp [bitN, h]
    · rw [if_neg he, packTo_get l N k i hi, octet_take_ne (fun e => he e.symm)]
  · have n1 : (packTo l N (k + 1))[i]? = none := Array.getElem?_eq_none (by rw [packTo_size]; omega)
    have n2 : (packTo l N k)[i]? = none := Array.getElem?_eq_none (by rw [packTo_size]; omega)
    rw [n1, n2]
    by_cases he : k / 8 = i
    · rw [if_pos he, if_neg (by omega)]
    · rw [if_neg he]
theorem packTo_full (l : List Bool) : (packTo l ((l.length + 7) / 8) l.length).toList = bs (pack l) := by
  simp [packTo, bs, pack]
/-- A row of N bits of which the first k are written. -/
def unTo (b : List Nat) (N k : Nat) : Array Value := ((List.range N).map fun j => Value.bool (decide (j < k) && (b[j / 8]?.getD 0).testBit (j % 8))).toArray
theorem unTo_size (b : List Nat) (N k : Nat) : (unTo b N k).size = N := by simp [unTo]
theorem unTo_zero (b : List Nat) (N : Nat) : unTo b N 0 = Array.replicate N (.bool false) := by
  apply Array.ext
  · simp [unTo]
  · intro i h1 h2
    simp [unTo]
theorem unTo_get (b : List Nat) (N k i : Nat) (h : i < N) : (unTo b N k)[i]? = some (.bool (decide (i < k) && (b[i / 8]?.getD 0).testBit (i % 8))) := by simp [unTo, h]
theorem unTo_set (b : List Nat) (N k : Nat) : (unTo b N k).setIfInBounds k (.bool ((b[k / 8]?.getD 0).testBit (k % 8))) = unTo b N (k + 1) := by
  apply Array.ext_getElem?
  intro i
  rw [Array.getElem?_setIfInBounds, unTo_size]
  by_cases hi : i < N
  · rw [unTo_get b N (k + 1) i hi]
    by_cases he : k = i
    · subst he
      rw [if_pos rfl, if_pos hi]
      simp
    · rw [if_neg he, unTo_get b N k i hi]
      have : decide (i < k + 1) = decide (i < k) := by rw [decide_eq_decide]; omega
      rw [this]
  · have n1 : (unTo b N (k + 1))[i]? = none := Array.getElem?_eq_none (by rw [unTo_size]; omega)
    have n2 : (unTo b N k)[i]? = none := Array.getElem?_eq_none (by rw [unTo_size]; omega)
    rw [n1, n2]
    by_cases he : k = i
    · rw [if_pos he, if_neg (by omega)]
    · rw [if_neg he]
theorem unTo_full (b : List Nat) : (unTo b (8 * b.length) (8 * b.length)).toList = bl (unpack b) := by
  simp only [unTo, bl, unpack, List.map_map]
  apply List.map_congr_left
  intro j hj
  have : j < 8 * b.length := by simpa using hj
  simp [this]
end Go.Proofs.Ytpajpcaninjhfaa.Ask
