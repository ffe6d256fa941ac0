/- The walks of bytes.Equal and ask.put. -/
import Derived.Test.YtpajpcaninjhfaaAskA
import Derived.Test.YtpajpcaninjhfaaElem
import Derived.Test.YtpajpcaninjhfaaStr
import Derived.Test.YtpajpcaninjhfaaApp
import Derived.Test.YtpajpcaninjhfaaRow
namespace Go.Proofs.Ytpajpcaninjhfaa.AskW
open Go.RowKit Go.Proofs.Ytpajpcaninjhfaa Go.Proofs.Ytpajpcaninjhfaa.Ask
theorem u8 : Elem Try.prog 27 5 1 := Elem.mk' (z := .int .u8 0) Try.underlying27 (by kernel_rfl) rfl
theorem u16 : Elem Try.prog 23 22 2 := Elem.mk' (z := .int .u16 0) Try.underlying23 (by kernel_rfl) rfl
theorem bytesEqual_any (A A2 : Option Addr) (n cap n2 cap2 B : Nat) (l r : List Nat) (w : World) (hs : Sl w B A n (bs l)) (hl : Bytes l) (hs2 : Sl w B A2 n2 (bs r)) (hr : Bytes r) :
    Calls Try.prog 38 #[.slice A n cap, .slice A2 n2 cap2] w fun e w' => e = .returned (.bool (l == r)) ∧ w = w' := by
  have H1 := run_string (P := Try.prog) w B 27 9 5 Try.underlying27 Try.underlying5 Try.underlying9 A n cap l hs
  have H2 := run_string (P := Try.prog) w B 27 9 5 Try.underlying27 Try.underlying5 Try.underlying9 A2 n2 cap2 r hs2
  have HE := Lib.hid (strB_eq l r hl hr)
  clear hs hs2
  go_enter Try.func38, Try.ntmps38
  go_wp2
  go_ret
  exact ⟨by rw [← HE.out]; rfl, rfl⟩
theorem lowSame_any (A A2 : Option Addr) (n cap n2 cap2 B : Nat) (l r : List Nat) (w : World) (hs : Sl w B A n (bs l)) (hl : Bytes l) (hs2 : Sl w B A2 n2 (bs r)) (hr : Bytes r) :
    Calls Try.prog 17 #[.slice A n cap, .slice A2 n2 cap2] w fun e w' => e = .returned (.bool (l == r)) ∧ w = w' := by
  have H1 := run_string (P := Try.prog) w B 27 9 5 Try.underlying27 Try.underlying5 Try.underlying9 A n cap l hs
  have H2 := run_string (P := Try.prog) w B 27 9 5 Try.underlying27 Try.underlying5 Try.underlying9 A2 n2 cap2 r hs2
  have HE := Lib.hid (strB_eq l r hl hr)
  clear hs hs2
  go_enter Try.func17, Try.ntmps17
  go_wp2
  go_ret
  exact ⟨by rw [← HE.out]; rfl, rfl⟩
/-- Numbers of two bytes, the upper one first. -/
def two (n : Nat) : List Nat := [n / 256, n % 256]
def twos (l : List Nat) : List Nat := l.flatMap two
theorem twos_snoc {l : List Nat} {k : Nat} (h : k < l.length) : twos (l.take (k + 1)) = twos (l.take k) ++ two (l[k]?.getD 0) := by
  rw [take_snoc h]; simp [twos]
theorem twos_len (l : List Nat) : (twos l).length = 2 * l.length := by
  induction l with
  | nil => rfl
  | cons x l ih => simp [twos, two] at ih ⊢; omega
theorem two_bs (x : Nat) : [Value.int .u8 ((x / 256 : Nat) : Int), Value.int .u8 ((x % 256 : Nat) : Int)] = bs (two x) := rfl
/-- put: v is a row of the caller's own, made behind w0; the numbers lie in another block. -/
theorem askPut_any (w0 : World) (v : Value) (n : Nat) (xs : List Nat) (A : Option Addr) (m c : Nat) (l : List Nat) (w : World) (H : Has w0 w 5 v n (bs xs)) (hs : Sl w w.heap.size A m (ws l)) (hw : ∀ x ∈ l, x < 65536)
    (hap : ∀ b o, 0 < m → A = some ⟨b, o, none⟩ → v.ownBlock ≠ some b) (hn : n + 2 * m ≤ 1000000) :
    Calls Try.prog 40 #[v, .slice A m c] w fun e w' => ∃ v', e = .returned v' ∧ Has w0 w' 5 v' (n + 2 * m) (bs (xs ++ twos l)) := by
  have q1 : l.length = m := by simpa using hs.len
  have Q1 := Lib.hid q1
  have HW := Lib.hid hw
  clear q1 hw
  go_enter Try.func40, Try.ntmps40
  go_wp2_with fail
  go_loopw [0, 9] (fun x i wr => ∃ k : Nat, k ≤ m ∧ i = .int .i64 k ∧ Has w0 wr 5 x (n + 2 * k) (bs (xs ++ twos (l.take k))) ∧ Sl wr wr.heap.size A m (ws l) ∧ (∀ b o, 0 < m → A = some ⟨b, o, none⟩ → x.ownBlock ≠ some b)) (fun _ i _ => m - (intOf i).toNat)
  case atStart => exact ⟨0, by omega, rfl, by simpa [twos] using H, hs, hap⟩
  case round =>
    obtain ⟨k, hk, rfl, HX, hsk, hak⟩ := hrel
    by_cases hlt : k < m
    · obtain ⟨b, o, rfl, hbl, d1⟩ := hsk.2 (by omega)
      have g1 := (d1 k hlt).trans (ws_get (by rw [Q1.out]; exact hlt))
      have HT := Lib.hid (twos_snoc (l := l) (k := k) (by rw [Q1.out]; exact hlt))
      have hx : l[k]?.getD 0 < 65536 := by
        rw [List.getElem?_eq_getElem (by rw [Q1.out]; exact hlt)]; exact HW.out _ (List.getElem_mem _)
      obtain ⟨x, ex⟩ : ∃ x, x = l[k]?.getD 0 := ⟨_, rfl⟩
      rw [← ex] at HT g1 hx
      have z0 : (0 : Int) ≤ (k : Int) := by omega
      have z1 : (k : Int) < (m : Int) := by omega
      have hi : IntKind.u8.wrap ((x : Int) / 256) = ((x / 256 : Nat) : Int) := by rw [IntKind.wrap_u8]; omega
      have lo : IntKind.u8.wrap (x : Int) = ((x % 256 : Nat) : Int) := by rw [IntKind.wrap_u8]; omega
      have HS := Lib.hid hsk
      have HA := Lib.hid (hak b o (by omega) rfl)
      clear d1 ex hsk hak hap hs H
      go_wp2_with (first | (at_builtin; refine wpList_app u8 rfl (.tmp 13) (.tmp 19) rfl (HX.alloc _) rfl (Sl.new2 _ _ _ _) rfl (one2 _ _ _) (by omega) (by simp only [maxLen]; omega) ?_; intro v3 w3 H3 g3 o3))
      go_roundw
      case rel =>
        refine ⟨k + 1, by omega, by go_num, ?_, ?_, ?_⟩
        · have e : xs ++ twos (l.take (k + 1)) = xs ++ twos (l.take k) ++ two x := by rw [HT.out, List.append_assoc]
          rw [e, ← bs_append _ (two x), ← two_bs, show n + 2 * (k + 1) = n + 2 * k + 2 by omega]
          exact H3
        · refine (HS.out.to ((Below.refl _ _).new _)).grown g3 (fun b' o' h => ?_)
          injection h with h
          injection h with h _
          rw [← h]; exact HA.out
        · intro b' o' _ h
          injection h with h
          injection h with h _
          rw [← h]
          rcases o3 with o3 | o3
          · rw [o3]; exact HA.out
          · rw [o3]; intro e
            injection e with e
            simp at e
            omega
      case measure => simp [intOf]; omega
    · obtain rfl : k = m := by omega
      go_wp2_with fail
      go_ret
      refine ⟨_, rfl, ?_⟩
      rw [List.take_of_length_le (by rw [Q1.out]; omega)] at HX
      exact HX
end Go.Proofs.Ytpajpcaninjhfaa.AskW
