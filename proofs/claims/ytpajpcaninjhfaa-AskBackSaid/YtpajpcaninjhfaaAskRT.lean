/- What is said of a right request is read as it; and no first part of it, and nothing more, is one. -/
import Derived.Test.YtpajpcaninjhfaaAskS
import Derived.Test.YtpajpcaninjhfaaAskPack2
set_option linter.unusedVariables false
set_option linter.unusedSimpArgs false
namespace Go.Proofs.Ytpajpcaninjhfaa.AskW
open Go.RowKit Go.Proofs.Ytpajpcaninjhfaa Go.Proofs.Ytpajpcaninjhfaa.Ask
theorem nums_twos : ∀ W : List Nat, nums (twos W) = W
  | [] => rfl
  | x :: l => by
    show nums (x / 256 :: x % 256 :: twos l) = x :: l
    simp only [nums, nums_twos l]
    congr 1
    exact Nat.div_add_mod x 256
theorem pack_nil : pack [] = [] := rfl
theorem dm (x : Nat) : 256 * (x / 256) + x % 256 = x := Nat.div_add_mod x 256
/-- The right requests, by function, and their bytes. -/
inductive Shape (r : Req) : Prop
  | ask (m : Nat) (h : r = ⟨r.f, r.at', m, 0, [], []⟩) (hf : r.f = 1 ∨ r.f = 2 ∨ r.f = 3 ∨ r.f = 4) (hm : 1 ≤ m ∧ m ≤ 2000) (hb : bytes r = [r.f, r.at' / 256, r.at' % 256, m / 256, m % 256])
  | bit (x : Bool) (h : r = ⟨5, r.at', 0, 0, [], [x]⟩) (hb : bytes r = [5, r.at' / 256, r.at' % 256, (if x then 65280 else 0) / 256, (if x then 65280 else 0) % 256])
  | word (x : Nat) (h : r = ⟨6, r.at', 0, 0, [x], []⟩) (hb : bytes r = [6, r.at' / 256, r.at' % 256, x / 256, x % 256])
  | bits (h : r = ⟨15, r.at', r.bits.length, 0, [], r.bits⟩) (hm : 1 ≤ r.bits.length ∧ r.bits.length ≤ 1968) (hb : bytes r = 15 :: r.at' / 256 :: r.at' % 256 :: r.bits.length / 256 :: r.bits.length % 256 :: (r.bits.length + 7) / 8 :: pack r.bits)
  | words (h : r = ⟨16, r.at', r.words.length, 0, r.words, []⟩) (hm : 1 ≤ r.words.length ∧ r.words.length ≤ 123) (hb : bytes r = 16 :: r.at' / 256 :: r.at' % 256 :: r.words.length / 256 :: r.words.length % 256 :: 2 * r.words.length :: twos r.words)
  | swap (h : r = ⟨23, r.at', r.many, r.to, r.words, []⟩) (hm : 1 ≤ r.many ∧ r.many ≤ 125) (hw : 1 ≤ r.words.length ∧ r.words.length ≤ 121) (hb : bytes r = 23 :: r.at' / 256 :: r.at' % 256 :: r.many / 256 :: r.many % 256 :: r.to / 256 :: r.to % 256 :: r.words.length / 256 :: r.words.length % 256 :: 2 * r.words.length :: twos r.words)
theorem shape_of {r : Req} (hr : right r = true) : Shape r := by
  obtain ⟨f, a, m, t, W, B⟩ := r
  have hs := right_some hr
  dsimp only at hs
  rcases fld_cases hs with rfl | rfl | rfl | rfl | rfl | rfl | rfl | rfl | rfl
  all_goals simp [right, fld, Fld.right, fits] at hr
  · obtain ⟨h1, ⟨h2, h3⟩, h4⟩ := hr
    subst h2 h3 h4
    exact Shape.ask m rfl (by simp) (by omega) (by simp [bytes, fbytes, fldOf, fld, two, pack_nil, twos])
  · obtain ⟨h1, ⟨h2, h3⟩, h4⟩ := hr
    subst h2 h3 h4
    exact Shape.ask m rfl (by simp) (by omega) (by simp [bytes, fbytes, fldOf, fld, two, pack_nil, twos])
  · obtain ⟨h1, ⟨h2, h3⟩, h4⟩ := hr
    subst h2 h3 h4
    exact Shape.ask m rfl (by simp) (by omega) (by simp [bytes, fbytes, fldOf, fld, two, pack_nil, twos])
  · obtain ⟨h1, ⟨h2, h3⟩, h4⟩ := hr
    subst h2 h3 h4
    exact Shape.ask m rfl (by simp) (by omega) (by simp [bytes, fbytes, fldOf, fld, two, pack_nil, twos])
  · obtain ⟨h1, ⟨h2, h3⟩, h4⟩ := hr
    subst h1 h2 h4
    match B, h3 with
    | [x], _ => exact Shape.bit x rfl (by simp [bytes, fbytes, fldOf, fld, two])
  · obtain ⟨h1, ⟨h2, h3⟩, h4⟩ := hr
    subst h1 h2 h3
    match W, h4 with
    | [x], _ => exact Shape.word x rfl (by simp [bytes, fbytes, fldOf, fld, two, pack_nil, twos])
  · obtain ⟨h1, ⟨h2, h3⟩, h4⟩ := hr
    subst h2 h3 h4
    refine Shape.bits rfl (by dsimp only; omega) ?_
    simp [bytes, fbytes, fldOf, fld, two, twos, pack_length]
    omega
  · obtain ⟨h1, ⟨h2, h3⟩, h4⟩ := hr
    subst h2 h3 h4
    refine Shape.words rfl (by dsimp only; omega) ?_
    simp [bytes, fbytes, fldOf, fld, two, pack_nil, twos_len]
    omega
  · obtain ⟨h1, h2, h3⟩ := hr
    subst h2
    refine Shape.swap rfl (by dsimp only; omega) (by dsimp only; omega) ?_
    simp [bytes, fbytes, fldOf, fld, two, pack_nil, twos_len]
    omega
theorem rd_bytes {r : Req} (hr : right r = true) : rd (bytes r) = r := by
  cases shape_of hr with
  | ask m h hf hm hb =>
    rw [hb, h]
    rcases hf with hf | hf | hf | hf <;> simp [rd, num, hf, dm]
  | bit x h hb =>
    rw [hb]
    conv => rhs; rw [h]
    cases x <;> simp [rd, num, dm]
  | word x h hb =>
    rw [hb]
    conv => rhs; rw [h]
    simp [rd, num, nums, dm]
  | bits h hm hb =>
    rw [hb]
    conv => rhs; rw [h]
    simp [rd, num, dm, unpack_pack]
  | words h hm hb =>
    rw [hb]
    conv => rhs; rw [h]
    simp [rd, num, dm, nums_twos]
  | swap h hm hw hb =>
    rw [hb]
    conv => rhs; rw [h]
    simp [rd, num, dm, nums_twos]
theorem bytes_len {r : Req} (hr : right r = true) : 5 ≤ (bytes r).length ∧ (bytes r).length ≤ 253 := by
  cases shape_of hr with
  | ask m h hf hm hb => rw [hb]; simp
  | bit x h hb => rw [hb]; simp
  | word x h hb => rw [hb]; simp
  | bits h hm hb => rw [hb]; simp [pack_length]; omega
  | words h hm hb => rw [hb]; simp [twos_len]; omega
  | swap h hm hw hb => rw [hb]; simp [twos_len]; omega
theorem bytes_f (r : Req) : (bytes r)[0]?.getD 0 = r.f := by
  unfold bytes fbytes
  dsimp only
  split <;> rfl
theorem look_bytes {r : Req} (hr : right r = true) : lookF (bytes r) = (r, 0) := by
  have hl := bytes_len hr
  unfold lookF
  rw [if_neg (by omega), bytes_f, if_neg (by rw [right_some hr]; decide), if_neg (by omega), rd_bytes hr, if_pos (by rw [hr]; simp)]
theorem parse_bytes {r : Req} (hr : right r = true) : parseF (bytes r) = (r, 0) := by
  unfold parseF
  rw [look_bytes hr, if_pos rfl]
theorem look_ok {xs : List Nat} (h : (lookF xs).2 = 0) : right (lookF xs).1 = true ∧ bytes (lookF xs).1 = xs ∧ (lookF xs).1 = rd xs := by
  unfold lookF at h ⊢
  split at h
  · cases h
  rename_i h0
  rw [if_neg h0]
  split at h
  · cases h
  rename_i h1
  rw [if_neg h1]
  split at h
  · cases h
  rename_i h2
  rw [if_neg h2]
  split at h
  · rename_i h3
    rw [if_pos h3]
    rw [Bool.and_eq_true] at h3
    exact ⟨h3.1, by simpa using h3.2, rfl⟩
  · cases h
theorem parse_cases (xs : List Nat) : (∃ r, right r = true ∧ bytes r = xs ∧ parseF xs = (r, 0) ∧ lookF xs = (r, 0)) ∨ (parseF xs = (bare 0, 12) ∧ (lookF xs).2 ≠ 0) := by
  by_cases h : (lookF xs).2 = 0
  · obtain ⟨h1, h2, h3⟩ := look_ok h
    have e : lookF xs = ((lookF xs).1, 0) := by rw [← h]
    exact Or.inl ⟨(lookF xs).1, h1, h2, by unfold parseF; rw [if_pos h], e⟩
  · exact Or.inr ⟨by unfold parseF; rw [if_neg h], h⟩
theorem bytes_inj {r s : Req} (hr : right r = true) (hs : right s = true) (h : bytes r = bytes s) : r = s := by
  rw [← rd_bytes hr, h, rd_bytes hs]
/-- How many bytes there must be. -/
def need (xs : List Nat) : Nat := if xs[0]?.getD 0 = 15 ∨ xs[0]?.getD 0 = 16 then 6 + xs[5]?.getD 0 else if xs[0]?.getD 0 = 23 then 10 + xs[9]?.getD 0 else 5
theorem bytes_need {r : Req} (hr : right r = true) : (bytes r).length = need (bytes r) ∧ ((bytes r)[0]?.getD 0 = 15 ∨ (bytes r)[0]?.getD 0 = 16 → 6 ≤ (bytes r).length) ∧ ((bytes r)[0]?.getD 0 = 23 → 10 ≤ (bytes r).length) := by
  cases shape_of hr with
  | ask m h hf hm hb => rw [hb]; rcases hf with hf | hf | hf | hf <;> simp [need, hf]
  | bit x h hb => rw [hb]; simp [need]
  | word x h hb => rw [hb]; simp [need]
  | bits h hm hb => rw [hb]; simp [need, pack_length]; omega
  | words h hm hb => rw [hb]; simp [need, twos_len]; omega
  | swap h hm hw hb => rw [hb]; simp [need, twos_len]; omega
theorem no_prefix {r s : Req} (hr : right r = true) (hs : right s = true) {k : Nat} (h : bytes s = (bytes r).take k) : (bytes r).length ≤ k := by
  obtain ⟨n1, _, _⟩ := bytes_need hr
  obtain ⟨n2, a2, b2⟩ := bytes_need hs
  have hl := (bytes_len hs).1
  have hsl : (bytes s).length ≤ k := by rw [h, List.length_take]; omega
  have get : ∀ j, j < (bytes s).length → (bytes s)[j]?.getD 0 = (bytes r)[j]?.getD 0 := fun j hj => by rw [h, List.getElem?_take, if_pos (by omega)]
  have e : need (bytes s) = need (bytes r) := by
    have g0 := get 0 (by omega)
    unfold need
    rw [← g0]
    by_cases c1 : (bytes s)[0]?.getD 0 = 15 ∨ (bytes s)[0]?.getD 0 = 16
    · have : 5 < (bytes s).length := a2 c1
      rw [if_pos c1, if_pos c1, get 5 this]
    · rw [if_neg c1, if_neg c1]
      by_cases c2 : (bytes s)[0]?.getD 0 = 23
      · have : 9 < (bytes s).length := b2 c2
        rw [if_pos c2, if_pos c2, get 9 this]
      · rw [if_neg c2, if_neg c2]
  omega
end Go.Proofs.Ytpajpcaninjhfaa.AskW
