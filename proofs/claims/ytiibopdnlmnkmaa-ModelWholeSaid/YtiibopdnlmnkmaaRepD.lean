/- The walks of reply.put, counted, listed, number. -/
import Derived.Test.YtiibopdnlmnkmaaAG3
import Derived.Test.YtiibopdnlmnkmaaAG2
import Derived.Test.YtiibopdnlmnkmaaRepMath
import Derived.Deep.QuietTactic
import Derived.BigQuiet
set_option linter.unusedVariables false
set_option linter.unusedSimpArgs false
namespace Go.Proofs.Ytiibopdnlmnkmaa.AskW
open Go.RowKit Go.Proofs.Ytiibopdnlmnkmaa Go.Proofs.Ytiibopdnlmnkmaa.Ask
/-- put: v is a row of the caller's own, made behind w0; the numbers lie in another block. -/
theorem repPut_any (w0 : World) (v : Value) (n : Nat) (xs : List Nat) (A : Option Addr) (m c : Nat) (l : List Nat) (w : World) (H : Has w0 w 5 v n (bs xs)) (hs : Sl w w.heap.size A m (ws l)) (hw : ∀ x ∈ l, x < 65536)
    (hap : ∀ b o, 0 < m → A = some ⟨b, o, none⟩ → v.ownBlock ≠ some b) (hn : n + 2 * m ≤ 1000000) :
    Calls Try.prog 98 #[v, .slice A m c] w fun e w' => ∃ v', e = .returned v' ∧ Has w0 w' 5 v' (n + 2 * m) (bs (xs ++ twos l)) := by
  have q1 : l.length = m := by simpa using hs.len
  have Q1 := Lib.hid q1
  have HW := Lib.hid hw
  clear q1 hw
  go_enter Try.func98, Try.ntmps98
  go_wp2_with fail
  go_loopw [0, 9] (fun x i wr => ∃ k : Nat, k ≤ m ∧ i = .int .i64 k ∧ Has w0 wr 5 x (n + 2 * k) (bs (xs ++ twos (l.take k))) ∧ Sl wr wr.heap.size A m (ws l) ∧ (∀ b o, 0 < m → A = some ⟨b, o, none⟩ → x.ownBlock ≠ some b)) (fun _ i _ => m - (intOf i).toNat)
  case atStart => exact ⟨0, by omega, rfl, by simpa [twos] using H, hs, hap⟩
  case round =>
    obtain ⟨k, hk, rfl, HX, hsk, hak⟩ := hrel
    by_cases hlt : k < m
    · obtain ⟨b, o, rfl, hbl, d1⟩ := hsk.2 (by omega)
      have g1 := (d1 k hlt).trans (ws_get (by rw [Q1.out]; exact hlt))
      have HT := Lib.hid (twos_snoc (l := l) (k := k) (by rw [Q1.out]; exact hlt))
      have hx : l[k]?.getD 0 < 65536 := by
        rw [List.getElem?_eq_getElem (by rw [Q1.out]; exact hlt)]; exact HW.out _ (List.getElem_mem _)
      obtain ⟨x, ex⟩ : ∃ x, x = l[k]?.getD 0 := ⟨_, rfl⟩
      rw [← ex] at HT g1 hx
      have z0 : (0 : Int) ≤ (k : Int) := by omega
      have z1 : (k : Int) < (m : Int) := by omega
      have hi : IntKind.u8.wrap ((x : Int) / 256) = ((x / 256 : Nat) : Int) := by rw [IntKind.wrap_u8]; omega
      have lo : IntKind.u8.wrap (x : Int) = ((x % 256 : Nat) : Int) := by rw [IntKind.wrap_u8]; omega
      have HS := Lib.hid hsk
      have HA := Lib.hid (hak b o (by omega) rfl)
      clear d1 ex hsk hak hap hs H
      go_wp2_with (first | (at_builtin; refine wpList_app u8 rfl (.tmp 13) (.tmp 19) rfl (HX.alloc _) rfl (Sl.new2 _ _ _ _) rfl (one2 _ _ _) (by omega) (by simp only [maxLen]; omega) ?_; intro v3 w3 H3 g3 o3))
      go_roundw
      case rel =>
        refine ⟨k + 1, by omega, by go_num, ?_, ?_, ?_⟩
        · have e : xs ++ twos (l.take (k + 1)) = xs ++ twos (l.take k) ++ two x := by rw [HT.out, List.append_assoc]
          rw [e, ← bs_append _ (two x), ← two_bs, show n + 2 * (k + 1) = n + 2 * k + 2 by omega]
          exact H3
        · refine (HS.out.to ((Below.refl _ _).new _)).grown g3 (fun b' o' h => ?_)
          injection h with h
          injection h with h _
          rw [← h]; exact HA.out
        · intro b' o' _ h
          injection h with h
          injection h with h _
          rw [← h]
          rcases o3 with o3 | o3
          · rw [o3]; exact HA.out
          · rw [o3]; intro e
            injection e with e
            simp at e
            omega
      case measure => simp [intOf]; omega
    · obtain rfl : k = m := by omega
      go_wp2_with fail
      go_ret
      refine ⟨_, rfl, ?_⟩
      rw [List.take_of_length_le (by rw [Q1.out]; omega)] at HX
      exact HX
/-- A byte's row and two numbers' row, both new: the byte's first; the numbers' first. -/
theorem rput_a (w : World) (f p q g h : Nat) (hg : g = w.heap.size) (hh : h = w.heap.size + 1) (hp : p < 65536) (hq : q < 65536) :
    Calls Try.prog 98 #[.slice (some ⟨g, 0, none⟩) 1 1, .slice (some ⟨h, 0, none⟩) 2 2] ((w.alloc (.cells #[.int .u8 f] 5)).alloc (.cells #[.int .u16 p, .int .u16 q] 29)) fun e w' => ∃ v', e = .returned v' ∧ Has w w' 5 v' 5 (bs (f :: (two p ++ two q))) := by
  subst hg hh
  have H := (first_new w f _ rfl).alloc (.cells #[.int .u16 p, .int .u16 q] 29)
  have S := (Sl.new2 (w.alloc (.cells #[.int .u8 f] 5)) (.int .u16 p) (.int .u16 q) 29).mono (B' := ((w.alloc (.cells #[.int .u8 f] 5)).alloc (.cells #[.int .u16 p, .int .u16 q] 29)).heap.size) (by simp)
  have e : (w.alloc (.cells #[.int .u8 f] 5)).heap.size = w.heap.size + 1 := by simp
  rw [e] at S
  have := repPut_any w _ 1 [f] (some ⟨w.heap.size + 1, 0, none⟩) 2 2 [p, q] _ H S (by simp; omega) (fun b o _ h e => by injection h with h; injection h with h _; simp [Value.ownBlock] at e; omega) (by omega)
  simpa [twos, two] using this
theorem rput_b (w : World) (f p q g h : Nat) (hg : g = w.heap.size + 1) (hh : h = w.heap.size) (hp : p < 65536) (hq : q < 65536) :
    Calls Try.prog 98 #[.slice (some ⟨g, 0, none⟩) 1 1, .slice (some ⟨h, 0, none⟩) 2 2] ((w.alloc (.cells #[.int .u16 p, .int .u16 q] 29)).alloc (.cells #[.int .u8 f] 5)) fun e w' => ∃ v', e = .returned v' ∧ Has w w' 5 v' 5 (bs (f :: (two p ++ two q))) := by
  subst hg hh
  have H : Has w ((w.alloc (.cells #[.int .u16 p, .int .u16 q] 29)).alloc (.cells #[.int .u8 f] 5)) 5 (.slice (some ⟨w.heap.size + 1, 0, none⟩) 1 1) 1 (bs [f]) :=
    Has.of_row (n := 1) (cs := #[.int .u8 f]) (((Below.refl _ _).new _).new _) (heap_alloc2_new w _ _) (Nat.le_succ _) rfl (by simp [maxLen])
  have S := ((Sl.new2 w (.int .u16 p) (.int .u16 q) 29).alloc (by simp) (.cells #[.int .u8 f] 5)).mono (B' := ((w.alloc (.cells #[.int .u16 p, .int .u16 q] 29)).alloc (.cells #[.int .u8 f] 5)).heap.size) (by simp)
  have := repPut_any w _ 1 [f] (some ⟨w.heap.size, 0, none⟩) 2 2 [p, q] _ H S (by simp; omega) (fun b o _ h e => by injection h with h; injection h with h _; simp [Value.ownBlock] at e; omega) (by omega)
  simpa [twos, two] using this
theorem counted_any' (f : Nat) (A : Option Addr) (n c : Nat) (xs : List Nat) (w : World) (hs : Sl w w.heap.size A n (bs xs)) (hn : n ≤ 100000) :
    Calls Try.prog 93 #[.int .u8 f, .slice A n c] w fun e w' => ∃ v, e = .returned v ∧ Has w w' 5 v (2 + n) (bs (f :: n % 256 :: xs)) := by
  have h8 : IntKind.u8.wrap (n : Int) = ((n % 256 : Nat) : Int) := by rw [IntKind.wrap_u8]; omega
  obtain ⟨q, eq⟩ : ∃ q, q = n % 256 := ⟨_, rfl⟩
  rw [← eq] at h8 ⊢
  clear eq
  have H0 : Has w (w.alloc (.cells #[.int .u8 (f : Nat), .int .u8 (q : Nat)] 5)) 5 (.slice (some ⟨w.heap.size, 0, none⟩) 2 2) 2 (bs [f, q]) :=
    Has.of_row (n := 2) (cs := #[.int .u8 f, .int .u8 q]) ((Below.refl _ _).new _) (heap_alloc_new w _) (Nat.le_refl _) rfl (by simp [maxLen])
  have S0 := hs.to ((Below.refl _ w).new (.cells #[.int .u8 (f : Nat), .int .u8 (q : Nat)] 5))
  clear hs
  go_enter Try.func93, Try.ntmps93
  go_wp2_with (at_builtin; refine wpList_app u8 rfl (.tmp 9) (.tmp 10) rfl H0 rfl S0 rfl (bs_one _) (by omega) (by simp only [maxLen]; omega) ?_; intro v3 w3 H3 g3 o3)
  go_ret
  refine ⟨_, rfl, ?_⟩
  rw [bs_append] at H3
  exact H3
theorem listed_any (A : Option Addr) (n c : Nat) (xs : List Nat) (w : World) (hs : Sl w w.heap.size A n (bs xs)) (hn : n ≤ 100000) (hc : n ≤ c) :
    Calls Try.prog 94 #[.slice A n c] w fun e w' => (∃ A' c', e = .returned (.slice A' (n - 2) c') ∧ Sl w w.heap.size A' (n - 2) (bs (xs.drop 2)) ∧ n - 2 ≤ c' ∧ (∀ Y B, Sl Y B A n (bs xs) → Sl Y B A' (n - 2) (bs (xs.drop 2)))) ∧ w = w' := by
  have q1 : xs.length = n := by simpa using hs.len
  obtain ⟨m, hmin, hm2, hmn, hmm⟩ : ∃ m : Nat, (∀ W, (Builtin.min_ #[3, 3] 3 #[.int .i64 2, .int .i64 (n : Int)]).run Try.prog W = .ok (.int .i64 (m : Int)) W) ∧ m ≤ 2 ∧ m ≤ n ∧ (m = 2 ∨ m = n) := by
    refine ⟨min 2 n, fun W => ?_, by omega, by omega, by omega⟩
    simp [Builtin.min_, Builtin.min2]
    (repeat' split) <;> omega
  have ha : ∀ Y B, Sl Y B A n (bs xs) → _ := fun Y B h => h.drop (k := m) (cap := c) hmn hc
  have hd := hs.drop (k := m) (cap := c) hmn hc
  have e1 : n - m = n - 2 := by omega
  have e2 : xs.drop m = xs.drop 2 := by
    rcases hmm with h | h
    · rw [h]
    · rw [List.drop_eq_nil_of_le (by omega), List.drop_eq_nil_of_le (by omega)]
  rw [bs_drop, e2, e1] at hd
  simp only [bs_drop, e2, e1] at ha
  have z0 : (0 : Int) ≤ (m : Int) := by omega
  have z1 : (m : Int) ≤ (n : Int) := by omega
  have z2 : (m : Int) ≤ (c : Int) := by omega
  have z3 : (n : Int) ≤ (c : Int) := by omega
  have HE := Lib.hid e1
  have HD := Lib.hid hd
  have HA := Lib.hid ha
  have hcm : n - 2 ≤ c - m := by omega
  clear hs q1 hmm e1 e2 hd ha
  by_cases hcc : c = m
  · have HC := Lib.hid hcc
    subst hcc
    go_enter Try.func94, Try.ntmps94
    go_wp2_with fail
    go_ret
    have e0 : n - 2 = 0 := by omega
    refine ⟨⟨A, 0, ?_, ?_, by omega, fun Y B h => by have := HA.out Y B h; simpa using this⟩, rfl⟩
    · rw [e0]; rfl
    · have := HD.out; simpa using this
  · go_enter Try.func94, Try.ntmps94
    go_wp2_with fail
    go_ret
    refine ⟨⟨Option.map (fun x => x.add m) A, c - m, ?_, ?_, hcm, fun Y B h => by have := HA.out Y B h; rw [if_neg hcc] at this; exact this⟩, rfl⟩
    · first | rfl | (rw [← HE.out]; rfl)
    · have := HD.out; rw [if_neg hcc] at this; exact this
theorem rnum_any (A : Option Addr) (n c : Nat) (xs : List Nat) (i : Nat) (w : World) (hs : Sl w w.heap.size A n (bs xs)) (hx : Bytes xs) (hn : n ≤ 100000) (hi : i ≤ 100000) :
    Calls Try.prog 99 #[.slice A n c, .int .i64 i] w fun e w' => e = .returned (.int .u16 (atF xs i : Nat)) ∧ ∃ d, w' = w.drewN d := by
  have q1 : xs.length = n := by simpa using hs.len
  have hw : IntKind.i64.wrap ((i : Int) + 1) = (i : Int) + 1 := by rw [IntKind.wrap_i64]; omega
  have hw2 : IntKind.i64.wrap ((i : Int) + 2) = (i : Int) + 2 := by rw [IntKind.wrap_i64]; omega
  by_cases h : n ≤ i + 1
  · have h1 : (n : Int) < (i : Int) + 2 := by omega
    have HF := Lib.hid (show atF xs i = 0 from by unfold atF; rw [if_pos (by omega)])
    clear q1 h
    go_enter Try.func99, Try.ntmps99
    go_wp2_with fail
    go_ret
    exact ⟨by rw [HF.out]; rfl, 0, rfl⟩
  · have h1 : ¬ (n : Int) < (i : Int) + 2 := by omega
    have HF := Lib.hid (show atF xs i = 256 * xs[i]?.getD 0 + xs[i + 1]?.getD 0 from by unfold atF; rw [if_neg (by omega)]; rfl)
    obtain ⟨b, o, rfl, hbl, d1⟩ := hs.2 (by omega)
    have g1 := (d1 i (by omega)).trans (bs_get (by omega))
    have g2 : w.cell? ⟨b, o + (i + 1), none⟩ = _ := (d1 (i + 1) (by omega)).trans (bs_get (by omega))
    have y1 := hx.at i
    have y2 := hx.at (i + 1)
    obtain ⟨x, ex⟩ : ∃ x, x = xs[i]?.getD 0 := ⟨_, rfl⟩
    obtain ⟨y, ey⟩ : ∃ y, y = xs[i + 1]?.getD 0 := ⟨_, rfl⟩
    rw [← ex] at g1 y1 HF
    rw [← ey] at g2 y2 HF
    have HOR := Lib.hid (or_hilo x y y1 y2)
    have wx : IntKind.u16.wrap (x : Int) = x := by rw [IntKind.wrap_u16]; omega
    have wy : IntKind.u16.wrap (y : Int) = y := by rw [IntKind.wrap_u16]; omega
    have wxx : IntKind.u16.wrap ((x : Int) * 256) = (x : Int) * 256 := by rw [IntKind.wrap_u16]; omega
    have z0 : (0 : Int) ≤ (i : Int) := by omega
    have z1 : (i : Int) < (n : Int) := by omega
    have z2 : (0 : Int) ≤ (i : Int) + 1 := by omega
    have z3 : (i : Int) + 1 < (n : Int) := by omega
    have z4 : ((i : Int) + 1).toNat = i + 1 := by omega
    clear d1 ex ey q1 h
    go_enter Try.func99, Try.ntmps99
    go_wp2_with fail
    go_quiet (fail)
    go_wp2_with fail
    go_ret
    refine ⟨?_, _, rfl⟩
    show Ending.returned (.int .u16 (bits .or .u16 ((x : Int) * 256) (y : Int))) = _
    rw [HOR.out, HF.out]
end Go.Proofs.Ytiibopdnlmnkmaa.AskW
