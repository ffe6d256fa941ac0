/- What a frame tells: plain facts. -/
import Derived.Test.YtgjcefgdkhfghaaRtuB
set_option linter.unusedVariables false
namespace Go.Proofs.Ytgjcefgdkhfghaa.AskW
open Go.RowKit Go.Proofs.Ytgjcefgdkhfghaa Go.Proofs.Ytgjcefgdkhfghaa.Ask
theorem unit_cons {u : Nat} {l : List Nat} (hu : u < 256) (hl : Bytes l) : Bytes (u :: l) := fun c hc => by
  rcases List.mem_cons.1 hc with rfl | h
  · exact hu
  · exact hl c h
theorem isU_lt {u : Nat} (h : isU u = true) : u < 256 ∧ u ≠ 0 := by
  unfold isU at h
  rw [decide_eq_true_iff] at h
  omega
theorem put_take (l : List Nat) : (CrcW.put l).take l.length = l := by unfold CrcW.put; rw [List.take_left]
theorem rtuP_put {u : Nat} {l : List Nat} (hu : isU u = true) (hl : Bytes l) (h1 : 1 ≤ l.length) (h2 : l.length ≤ 253) : rtuP (CrcW.put (u :: l)) = ((u, l), 0) := by
  have hlen : (CrcW.put (u :: l)).length = l.length + 3 := by simp
  have hs := Crc.sum_lt (u :: l) (unit_cons (isU_lt hu).1 hl)
  have ht : (CrcW.put (u :: l)).take (l.length + 1) = u :: l := by have := put_take (u :: l); simpa using this
  have g1 : (CrcW.put (u :: l))[l.length + 1]?.getD 0 = Crc.sum (u :: l) % 256 := by
    unfold CrcW.put
    rw [List.getElem?_append_right (by simp)]
    simp
  have g2 : (CrcW.put (u :: l))[l.length + 2]?.getD 0 = Crc.sum (u :: l) / 256 := by
    unfold CrcW.put
    rw [List.getElem?_append_right (by simp), show l.length + 2 - (u :: l).length = 1 by simp]
    simp
  unfold rtuP
  rw [if_neg (by omega), hlen, show l.length + 3 - 2 = l.length + 1 by omega, show l.length + 3 - 1 = l.length + 2 by omega, ht, g1, g2, if_pos (by omega)]
  have g0 : (CrcW.put (u :: l))[0]?.getD 0 = u := by unfold CrcW.put; simp
  rw [g0, if_pos hu]
  rfl
theorem rtuR_put {u v : Nat} {l : List Nat} (hu : isU u = true) (hl : Bytes l) (h1 : 1 ≤ l.length) (h2 : l.length ≤ 253) : rtuR v (CrcW.put (u :: l)) = if u = v then rparse l else (rep0, 10) := by
  unfold rtuR
  rw [rtuP_put hu hl h1 h2]
  rfl
theorem rtuA_cases (u : Nat) (q : Req) (hu : isU u = true) : (right q = true ∧ rtuA u q = (CrcW.put (u :: bytes q), 0)) ∨ (right q = false ∧ rtuA u q = ([], 12)) := by
  unfold rtuA
  cases h : right q
  · exact Or.inr ⟨rfl, rfl⟩
  · refine Or.inl ⟨rfl, ?_⟩
    have := bytes_len h
    rw [if_pos rfl]
    unfold rtuB
    rw [if_pos ⟨hu, by omega, by omega⟩]
end Go.Proofs.Ytgjcefgdkhfghaa.AskW
