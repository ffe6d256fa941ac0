/- string(b) of a slice of bytes that reads as a list. -/
import Derived.Test.YtpajpcaninjhfaaMem
import Derived.Laws.BytesArg
namespace Go.Proofs.Ytpajpcaninjhfaa
open Go.RowKit
/-- Bytes as a text. -/
def strB (l : List Nat) : ByteArray := ⟨(l.map UInt8.ofNat).toArray⟩
theorem strB_ofInts (l : List Nat) : strOfNums (l.map fun c => ((c : Nat) : Int)) = strB l := by
  unfold strOfNums strB
  simp
theorem strB_data (l : List Nat) : (strB l).data.toList = l.map UInt8.ofNat := rfl
theorem strB_size (l : List Nat) : (strB l).size = l.length := by simp [strB, ByteArray.size]
theorem toList_data (s : ByteArray) : s.toList = s.data.toList := by
  rw [ByteArray.toList_eq]
theorem ofNat_inj {a b : Nat} (ha : a < 256) (hb : b < 256) (h : UInt8.ofNat a = UInt8.ofNat b) : a = b := by
  have := congrArg UInt8.toNat h
  simpa [UInt8.toNat_ofNat, Nat.mod_eq_of_lt ha, Nat.mod_eq_of_lt hb] using this
theorem map_ofNat_inj : ∀ (l r : List Nat), Bytes l → Bytes r → l.map UInt8.ofNat = r.map UInt8.ofNat → l = r
  | [], [], _, _, _ => rfl
  | [], _ :: _, _, _, h => by simp at h
  | _ :: _, [], _, _, h => by simp at h
  | x :: l, y :: r, hl, hr, h => by
    simp only [List.map_cons, List.cons.injEq] at h
    have e := ofNat_inj (hl x (by simp)) (hr y (by simp)) h.1
    rw [e, map_ofNat_inj l r (fun c hc => hl c (by simp [hc])) (fun c hc => hr c (by simp [hc])) h.2]
theorem strB_eq (l r : List Nat) (hl : Bytes l) (hr : Bytes r) : ((strB l).toList == (strB r).toList) = (l == r) := by
  rw [Bool.eq_iff_iff]
  simp only [beq_iff_eq, toList_data, strB_data]
  constructor
  · exact map_ofNat_inj l r hl hr
  · rintro rfl; rfl
theorem run_string {P : Program} (w : World) (B : Nat) (src dst e : TypeId) (hsrc : P.underlying src = some (.slice e)) (he : P.underlying e = some (.int .u8)) (hdst : P.underlying dst = some .string)
    (A : Option Addr) (n cap : Nat) (l : List Nat) (hs : Sl w B A n (bs l)) :
    (convert src dst (.slice A n cap)).run P w = .ok (.string (strB l)) w := by
  have hlen : l.length = n := by simpa using hs.len
  by_cases h0 : 0 < n
  · obtain ⟨b, o, rfl, _, hc⟩ := hs.2 h0
    rw [← strB_ofInts]
    refine run_convert_bytes_arg w src e hsrc he b o n cap (l.map fun c => ((c : Nat) : Int)) (by simpa using hlen) (fun i hi => ?_) dst hdst
    rw [hc i hi]
    have hi' : i < l.length := by omega
    simp [bs, hi']
  · obtain rfl : n = 0 := by omega
    obtain rfl : l = [] := List.eq_nil_of_length_eq_zero hlen
    rcases A with _ | ad
    · rw [run_convert_bytes_nil w src e hsrc he 0 cap dst hdst]; rfl
    · rw [run_convert_bytes_string w src dst e _ 0 cap hsrc he hdst]
      have := run_bytesToString (P := P) w ad 0 cap [] (by simp [loadCells, loadCellsFrom])
      rw [this]; rfl
end Go.Proofs.Ytpajpcaninjhfaa
