/- The walks of reply.put, counted, listed, number. -/
import Derived.Test.YtjfhfgchglaoiaaGreatAG3
import Derived.Test.YtjfhfgchglaoiaaGreatAG2
import Derived.Test.YtjfhfgchglaoiaaGreatRepMath
import Derived.Deep.QuietTactic
import Derived.BigQuiet
set_option linter.unusedVariables false
set_option linter.unusedSimpArgs false
namespace Go.Proofs.YtjfhfgchglaoiaaGreat.AskW
open Go.RowKit Go.Proofs.YtjfhfgchglaoiaaGreat Go.Proofs.YtjfhfgchglaoiaaGreat.Ask
/-- put: v is a row of the caller's own, made behind w0; the numbers lie in another block. -/
theorem repPut_any (w0 : World) (v : Value) (n : Nat) (xs : List Nat) (A : Option Addr) (m c : Nat) (l : List Nat) (w : World) (H : Has w0 w 5 v n (bs xs)) (hs : Sl w w.heap.size A m (ws l)) (hw : ∀ x ∈ l, x < 65536)
    (hap : ∀ b o, 0 < m → A = some ⟨b, o, none⟩ → v.ownBlock ≠ some b) (hn : n + 2 * m ≤ 1000000) :
    Calls Tryz.prog 112 #[v, .slice A m c] w fun e w' => ∃ v', e = .returned v' ∧ Has w0 w' 5 v' (n + 2 * m) (bs (xs ++ twos l)) := by
  have q1 : l.length = m := by simpa using hs.len
  have Q1 := Lib.hid q1
  have HW := Lib.hid hw
  clear q1 hw
  go_enter Tryz.func112, Tryz.ntmps112
  go_wp2_with fail
  go_loopw [0, 9] (fun x i wr => ∃ k : Nat, k ≤ m ∧ i = .int .i64 k ∧ Has w0 wr 5 x (n + 2 * k) (bs (xs ++ twos (l.take k))) ∧ Sl wr wr.heap.size A m (ws l) ∧ (∀ b o, 0 < m → A = some ⟨b, o, none⟩ → x.ownBlock ≠ some b)) (fun _ i _ => m - (intOf i).toNat)
  case atStart => exact ⟨0, by omega, rfl, by simpa [twos] using H, hs, hap⟩
  case round =>
    obtain ⟨k, hk, rfl, HX, hsk, hak⟩ := hrel
    by_cases hlt : k < m
    · obtain ⟨b, o, rfl, hbl, d1⟩ := hsk.2 (by omega)
      have g1 := (d1 k hlt).trans (ws_get (by rw [Q1.out]; exact hlt))
      have HT := Lib.hid (twos_snoc (l := l) (k := k) (by rw [Q1.out]; exact hlt))
      have hx : l[k]?.getD 0 < 65536 := by
        rw [List.getElem?_eq_getElem (by rw [Q1.out]; exact hlt)]; exact HW.out _ (List.getElem_mem _)
      obtain ⟨x, ex⟩ : ∃ x, x = l[k]?.getD 0 := ⟨_, rfl⟩
      rw [← ex] at HT g1 hx
      have z0 : (0 : Int) ≤ (k : Int) := by omega
      have z1 : (k : Int) < (m : Int) := by omega
      have hi : IntKind.u8.wrap ((x : Int) / 256) = ((x / 256 : Nat) : Int) := by rw [IntKind.wrap_u8]; omega
      have lo : IntKind.u8.wrap (x : Int) = ((x % 256 : Nat) : Int) := by rw [IntKind.wrap_u8]; omega
      have HS := Lib.hid hsk
      have HA := Lib.hid (hak b o (by omega) rfl)
      clear d1 ex hsk hak hap hs H
      go_wp2_with (first | (at_builtin; refine wpList_app u8 rfl (.tmp 13) (.tmp 19) rfl (HX.alloc _) rfl (Sl.new2 _ _ _ _) rfl (one2 _ _ _) (by omega) (by simp only [maxLen]; omega) ?_; intro v3 w3 H3 g3 o3))
      go_roundw
      case rel =>
        refine ⟨k + 1, by omega, by go_num, ?_, ?_, ?_⟩
        · have e : xs ++ twos (l.take (k + 1)) = xs ++ twos (l.take k) ++ two x := by rw [HT.out, List.append_assoc]
          rw [e, ← bs_append _ (two x), ← two_bs, show n + 2 * (k + 1) = n + 2 * k + 2 by omega]
          exact H3
        · refine (HS.out.to ((Below.refl _ _).new _)).grown g3 (fun b' o' h => ?_)
          injection h with h
          injection h with h _
          rw [← h]; exact HA.out
        · intro b' o' _ h
          injection h with h
          injection h with h _
          rw [← h]
          rcases o3 with o3 | o3
          · rw [o3]; exact HA.out
          · rw [o3]; intro e
            injection e with e
            simp at e
            omega
      case measure => simp [intOf]; omega
    · obtain rfl : k = m := by omega
      go_wp2_with fail
      go_ret
      refine ⟨_, rfl, ?_⟩
      rw [List.take_of_length_le (by rw [Q1.out]; omega)] at HX
      exact HX
/-- A byte's row and two numbers' row, both new: the byte's first; the numbers' first. -/
theorem rput_a (w : World) (f p q g h : Nat) (hg : g = w.heap.size) (hh : h = w.heap.size + 1) (hp : p < 65536) (hq : q < 65536) :
    Calls Tryz.prog 112 #[.slice (some ⟨g, 0, none⟩) 1 1, .slice (some ⟨h, 0, none⟩) 2 2] ((w.alloc (.cells #[.int .u8 f] 5)).alloc (.cells #[.int .u16 p, .int .u16 q] 29)) fun e w' => ∃ v', e = .returned v' ∧ Has w w' 5 v' 5 (bs (f :: (two p ++ two q))) := by
  subst hg hh
  have H := (first_new w f _ rfl).alloc (.cells #[.int .u16 p, .int .u16 q] 29)
  have S := (Sl.new2 (w.alloc (.cells #[.int .u8 f] 5)) (.int .u16 p) (.int .u16 q) 29).mono (B' := ((w.alloc (.cells #[.int .u8 f] 5)).alloc (.cells #[.int .u16 p, .int .u16 q] 29)).heap.size) (by simp)
  have e : (w.alloc (.cells #[.int .u8 f] 5)).heap.size = w.heap.size + 1 := by simp
  rw [e] at S
  have := repPut_any w _ 1 [f] (some ⟨w.heap.size + 1, 0, none⟩) 2 2 [p, q] _ H S (by simp; omega) (fun b o _ h e => by injection h with h; injection h with h _; simp [Value.ownBlock] at e; omega) (by omega)
  simpa [twos, two] using this
theorem rput_b (w : World) (f p q g h : Nat) (hg : g = w.heap.size + 1) (hh : h = w.heap.size) (hp : p < 65536) (hq : q < 65536) :
    Calls Tryz.prog 112 #[.slice (some ⟨g, 0, none⟩) 1 1, .slice (some ⟨h, 0, none⟩) 2 2] ((w.alloc (.cells #[.int .u16 p, .int .u16 q] 29)).alloc (.cells #[.int .u8 f] 5)) fun e w' => ∃ v', e = .returned v' ∧ Has w w' 5 v' 5 (bs (f :: (two p ++ two q))) := by
  subst hg hh
  have H : Has w ((w.alloc (.cells #[.int .u16 p, .int .u16 q] 29)).alloc (.cells #[.int .u8 f] 5)) 5 (.slice (some ⟨w.heap.size + 1, 0, none⟩) 1 1) 1 (bs [f]) :=
    Has.of_row (n := 1) (cs := #[.int .u8 f]) (((Below.refl _ _).new _).new _) (heap_alloc2_new w _ _) (Nat.le_succ _) rfl (by simp [maxLen])
  have S := ((Sl.new2 w (.int .u16 p) (.int .u16 q) 29).alloc (by simp) (.cells #[.int .u8 f] 5)).mono (B' := ((w.alloc (.cells #[.int .u16 p, .int .u16 q] 29)).alloc (.cells #[.int .u8 f] 5)).heap.size) (by simp)
  have := repPut_any w _ 1 [f] (some ⟨w.heap.size, 0, none⟩) 2 2 [p, q] _ H S (by simp; omega) (fun b o _ h e => by injection h with h; injection h with h _; simp [Value.ownBlock] at e; omega) (by omega)
  simpa [twos, two] using this
theorem counted_any' (f : Nat) (A : Option Addr) (n c : Nat) (xs : List Nat) (w : World) (hs : Sl w w.heap.size A n (bs xs)) (hn : n ≤ 100000) :
    Calls Tryz.prog 108 #[.int .u8 f, .slice A n c] w fun e w' => ∃ v, e = .returned v ∧ Has w w' 5 v (2 + n) (bs (f :: n % 256 :: xs)) := by
  have h8 : IntKind.u8.wrap (n : Int) = ((n % 256 : Nat) : Int) := by rw [IntKind.wrap_u8]; omega
  obtain ⟨q, eq⟩ : ∃ q, q = n % 256 := ⟨_, rfl⟩
  rw [← eq] at h8 ⊢
  clear eq
  have H0 : Has w (w.alloc (.cells #[.int .u8 (f : Nat), .int .u8 (q : Nat)] 5)) 5 (.slice (some ⟨w.heap.size, 0, none⟩) 2 2) 2 (bs [f, q]) :=
    Has.of_row (n := 2) (cs := #[.int .u8 f, .int .u8 q]) ((Below.refl _ _).new _) (heap_alloc_new w _) (Nat.le_refl _) rfl (by simp [maxLen])
  have S0 := hs.to ((Below.refl _ w).new (.cells #[.int .u8 (f : Nat), .int .u8 (q : Nat)] 5))
  clear hs
  go_enter Tryz.func108, Tryz.ntmps108
  go_wp2_with (at_builtin; refine wpList_app u8 rfl (.tmp 9) (.tmp 10) rfl H0 rfl S0 rfl (bs_one _) (by omega) (by simp only [maxLen]; omega) ?_; intro v3 w3 H3 g3 o3)
  go_ret
  refine ⟨_, rfl, ?_⟩
  rw [bs_append] at H3
  exact H3
end Go.Proofs.YtjfhfgchglaoiaaGreat.AskW
