/- Arguments that came in: a slice of bytes as a list of numbers below 256; numbers as natural ones. No program in sight. -/
import Derived.Test.YtjelfclcmfmmaaaMem
import Derived.ProofKit
import Derived.OpenShut
namespace Go.Proofs.Ytjelfclcmfmmaaa
open Go.RowKit
theorem nat_u8 {a : Int} (h : (Lit.int .u8 a).wf = true) : ∃ n : Nat, a = (n : Int) ∧ n < 256 := by
  have := bounds_u8 h
  exact ⟨a.toNat, by omega, by omega⟩
theorem nat_u16 {a : Int} (h : (Lit.int .u16 a).wf = true) : ∃ n : Nat, a = (n : Int) ∧ n < 65536 := by
  have := bounds_u16 h
  exact ⟨a.toNat, by omega, by omega⟩
theorem bytes_in {w : World} {a : Option Addr} {len cap : Nat} {zs : List Int}
    (h : (a = none ∧ len = 0 ∧ cap = 0 ∧ zs = []) ∨ ∃ x, a = some x ∧ len ≤ cap ∧ cap ≤ maxLen ∧ zs.length = cap ∧ (∀ i, i < zs.length → w.cell? (x.add i) = some (.int .u8 (zs.getD i 0))) ∧ ∀ n ∈ zs, (Lit.int .u8 n).wf = true) :
    ∃ l : List Nat, Sl w w.heap.size a len (bs l) ∧ Bytes l ∧ len ≤ cap ∧ len ≤ 9223372036854775807 := by
  rcases h with ⟨rfl, rfl, rfl, rfl⟩ | ⟨x, rfl, hl, hm, hz, hc, hw⟩
  · exact ⟨[], Sl.empty _ _ _, fun c hc => by simp at hc, by omega, by omega⟩
  · have hm' : cap ≤ 9223372036854775807 := by simpa [maxLen] using hm
    refine ⟨(zs.take len).map Int.toNat, ⟨by simp; omega, fun hn => ?_⟩, ?_, hl, by omega⟩
    · obtain ⟨b, o, spot⟩ := x
      have h0 := hc 0 (by omega)
      have hspot : spot = none := by simpa [Addr.add] using World.cell?_spot h0
      subst hspot
      have hadd : ∀ j, (⟨b, o, none⟩ : Addr).add j = ⟨b, o + j, none⟩ := fun j => by unfold Addr.add; split <;> simp_all
      have hb := World.block_lt_of_cell? w _ h0
      rw [hadd] at hb
      refine ⟨b, o, rfl, hb, fun j hj => ?_⟩
      have hjz : j < zs.length := by omega
      rw [← hadd, hc j hjz]
      have hwf := bounds_u8 (hw zs[j] (List.getElem_mem hjz))
      simp only [bs, List.getElem?_map, List.getElem?_take, hj, if_true, List.getElem?_eq_getElem hjz, Option.map_some, List.getD, Option.getD_some]
      congr 2
      omega
    · intro c hc
      simp only [List.mem_map] at hc
      obtain ⟨z, hz', rfl⟩ := hc
      have := bounds_u8 (hw z (List.mem_of_mem_take hz'))
      omega
end Go.Proofs.Ytjelfclcmfmmaaa
