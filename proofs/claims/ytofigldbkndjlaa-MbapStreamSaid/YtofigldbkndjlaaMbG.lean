/- The walks of layer 5's reference: Pack, Parse. -/
import Derived.Test.YtofigldbkndjlaaMbF
set_option linter.unusedVariables false
set_option linter.unusedSimpArgs false
namespace Go.Proofs.Ytofigldbkndjlaa.MbW
open Go.RowKit Go.Proofs.Ytofigldbkndjlaa Go.Proofs.Ytofigldbkndjlaa.Mb
set_option maxHeartbeats 2000000 in
theorem refPack_any (tx u : Nat) (P : List Nat) (C : Option Addr) (k c : Nat) (w : World) (hs : Sl w w.heap.size C k (bs P)) (htx : tx < 65536) (hu : u < 256) (hP : Bytes P) (hn : k ≤ 60000) :
    Calls Try.prog 11 #[.agg #[.int .u16 (tx : Nat), .int .u8 (u : Nat), .slice C k c]] w fun e w' => ∃ v, e = .returned v ∧ Has w w' 5 v (7 + k) (bs (pack ⟨tx, u, P⟩)) := by
  have hlen : P.length = k := by simpa using hs.len
  have wk : IntKind.i64.wrap ((k : Int) + 1) = (k : Int) + 1 := by rw [IntKind.wrap_i64]; omega
  have S1 := hs.to ((Below.refl _ w).new (.cells #[.int .u16 (tx : Nat), .int .u8 (u : Nat), .slice C k c] 25))
  have B1 := (Below.refl w.heap.size w).new (.cells #[.int .u16 (tx : Nat), .int .u8 (u : Nat), .slice C k c] 25)
  have HL := Lib.hid hlen
  have HX := Lib.hid hP
  have HP := Lib.hid (show pack ⟨tx, u, P⟩ = [tx / 256, tx % 256, 0, 0, (k + 1) / 256, (k + 1) % 256, u] ++ P from by unfold pack head; dsimp only; rw [hlen])
  obtain ⟨Hd, hHd⟩ : ∃ Hd, Hd = [tx / 256, tx % 256, 0, 0, (k + 1) / 256, (k + 1) % 256, u] := ⟨_, rfl⟩
  rw [← hHd] at HP
  have r1 := heap_alloc_new w (.cells #[.int .u16 (tx : Nat), .int .u8 (u : Nat), .slice C k c] 25)
  have HHd := Lib.hid hHd
  clear hs hP hlen hHd
  go_enter Try.func11, Try.ntmps11
  go_wp2_with fail
  obtain ⟨W1, hW1⟩ : ∃ W1, W1 = w.alloc (.cells #[.int .u16 (tx : Nat), .int .u8 (u : Nat), .slice C k c] 25) := ⟨_, rfl⟩
  rw [← hW1] at S1 B1 r1 ⊢
  have hs1 : w.heap.size + 1 = W1.heap.size := by rw [hW1]; simp
  have H0 : Has W1 (W1.alloc (.cells #[.int .u8 ((tx : Int) / 256), .int .u8 ((tx : Int) % 256), .int .u8 0, .int .u8 0, .int .u8 (((k : Int) + 1) / 256), .int .u8 (((k : Int) + 1) % 256), .int .u8 (u : Nat)] 5)) 5 (.slice (some ⟨w.heap.size + 1, 0, none⟩) 7 7) 7 (bs Hd) := by
    rw [hs1]
    have e : bs Hd = [.int .u8 ((tx : Int) / 256), .int .u8 ((tx : Int) % 256), .int .u8 0, .int .u8 0, .int .u8 (((k : Int) + 1) / 256), .int .u8 (((k : Int) + 1) % 256), .int .u8 (u : Nat)] := by
      rw [HHd.out]; simp [bs]
    rw [e]
    exact Has.of_row ((Below.refl _ W1).new _) (heap_alloc_new W1 _) (Nat.le_refl _) rfl (by simp [maxLen])
  clear hW1 hs1
  go_loopw [4, 5] (fun o i wr => ∃ j : Nat, j ≤ k ∧ i = .int .i64 j ∧ Has W1 wr 5 o (7 + j) (bs (Hd ++ P.take j))) (fun _ i _ => k - (intOf i).toNat)
  case atStart => exact ⟨0, by omega, rfl, by simpa using H0⟩
  case round =>
    obtain ⟨j, hj, rfl, H⟩ := hrel
    obtain ⟨c0, c1, c2⟩ := row3 (H.bel.row (row_lt r1) r1)
    by_cases hlt : j < k
    · have hlt' : (j : Int) < (k : Int) := by omega
      have S2 := S1.to H.bel
      obtain ⟨b, o, rfl, hb, hcell⟩ := S2.2 (by omega)
      have hcj := (hcell j hlt).trans (bs_get (by have := HL.out; omega))
      have HT := Lib.hid (take_snoc (l := P) (k := j) (by have := HL.out; omega))
      obtain ⟨x, ex⟩ : ∃ x, x = P[j]?.getD 0 := ⟨_, rfl⟩
      rw [← ex] at hcj HT
      clear ex hcell S2 hb
      go_wp2_with (at_builtin; refine wpList_app _root_.Go.Proofs.Ytofigldbkndjlaa.MbW.u8 rfl (.tmp 34) (.tmp 40) rfl (H.alloc _) rfl (Sl.new1 _ _ _) rfl (one1 _ _) (by omega) (by simp only [maxLen]; omega) ?_; intro v2 w2 H2 _ _)
      go_roundw
      case rel =>
        refine ⟨j + 1, by omega, by go_num, ?_⟩
        rw [HT.out, ← List.append_assoc, ← bs_append]
        exact H2
      case measure => simp [intOf]; omega
    · obtain rfl : j = k := by omega
      go_wp2_with fail
      go_ret
      refine ⟨_, rfl, ?_⟩
      rw [HP.out]
      have h := H.weaken B1
      rw [List.take_of_length_le (by have := HL.out; omega)] at h
      exact h
/-- Where a struct of the call's own lies. -/
structure T3 (w0 w : World) (k : Nat) (cs : Array Value) : Prop where
  row : w.heap[k]? = some (.cells cs 25 (0, 0))
  hk : w0.heap.size ≤ k
set_option maxHeartbeats 4000000 in
theorem refParse_any (A : Option Addr) (n c : Nat) (xs : List Nat) (w : World) (hs : Sl w w.heap.size A n (bs xs)) (hx : Bytes xs) (hc : n ≤ c) (hn : n ≤ 1000000) :
    Calls Try.prog 13 #[.slice A n c] w (RetFmErr w (parse xs)) := by
  have hlen : xs.length = n := by simpa using hs.len
  have hcase := whole_cases xs
  have KL := Lib.hid (fun X (b : Below w.heap.size w X) => refLong_any A n c xs X (hs.to b) hx hn)
  have HF := Lib.hid (show parse xs = if long xs = n ∧ 8 ≤ n then (read xs, 0) else (fm0, 10) from by
    unfold parse
    have e : (whole xs = xs.length ∧ xs.length ≠ 0) ↔ (long xs = n ∧ 8 ≤ n) := by
      rw [hlen, long_of hlen]
      constructor
      · rintro ⟨h1, h2⟩
        rcases hcase with h | ⟨h3, h4, h5, h6, h7⟩
        · omega
        · rw [if_pos h3, if_neg (by omega)]; omega
      · rintro ⟨h1, h2⟩
        by_cases hb : begins xs = true
        · rw [if_pos hb, if_neg (by omega)] at h1
          unfold whole
          rw [if_pos ⟨hb, by omega, by omega⟩]
          omega
        · rw [if_neg hb] at h1; omega
    by_cases h : long xs = n ∧ 8 ≤ n
    · rw [if_pos h, if_pos (e.2 h)]
    · rw [if_neg h, if_neg (fun h' => h (e.1 h'))])
  obtain ⟨R, hR⟩ : ∃ R, R = parse xs := ⟨_, rfl⟩
  obtain ⟨q, hq⟩ : ∃ q, q = long xs := ⟨_, rfl⟩
  rw [← hR] at HF ⊢
  rw [← hq] at HF KL
  have rz := heap_alloc_new w (.cells #[.int .u16 0, .int .u8 0, .slice none 0 0] 25)
  have B1 := (Below.refl w.heap.size w).new (.cells #[.int .u16 0, .int .u8 0, .slice none 0 0] 25)
  have HX := Lib.hid hx
  have HL := Lib.hid hlen
  have HS := Lib.hid hs
  clear hs hx hlen hR hq hcase
  by_cases h8 : (n : Int) < 8
  · have HE := Lib.hid (show R = (fm0, 10) from by rw [HF.out, if_neg (by omega)])
    clear HF
    go_enter Try.func13, Try.ntmps13
    go_wp2_with (refine wpList_store_grown rfl 25 (.tmp 2) _ rfl w.heap.size #[.int .u16 0, .int .u8 0, .slice none 0 0] rfl rfl 25 _ rz (by kernel_rfl) rfl (by simp [Value.oneCell']) ?_; intro w9 h9 g9 s9)
    refine bodyPost_row_tmp rfl w.heap.size 25 #[.int .u16 0, .int .u8 0, .slice none 0 0] (0, 0) _ (.int .i64 10) rfl h9 Try.underlying25 rfl (by kernel_rfl) rfl rfl ?_
    rw [HE.out]
    exact RetFmErr.bad 10 (B1.grown g9 B1.size (fun k hk => by injection hk with hk; omega))
  by_cases h1 : q = n
  case neg =>
    have T1 : (q != (n : Int)) = true := by rw [bne_iff_ne]; exact h1
    have HE := Lib.hid (show R = (fm0, 10) from by rw [HF.out, if_neg (fun h => h1 h.1)])
    clear HF h1
    go_enter Try.func13, Try.ntmps13
    go_wp2_with fail
    refine (KL.out _ B1).mono ?_
    rintro e w1 ⟨rfl, rfl⟩
    go_wp2_with (refine wpList_store_grown rfl 25 (.tmp 2) _ rfl w.heap.size #[.int .u16 0, .int .u8 0, .slice none 0 0] rfl rfl 25 _ rz (by kernel_rfl) rfl (by simp [Value.oneCell']) ?_; intro w9 h9 g9 s9)
    refine bodyPost_row_tmp rfl w.heap.size 25 #[.int .u16 0, .int .u8 0, .slice none 0 0] (0, 0) _ (.int .i64 10) rfl h9 Try.underlying25 rfl (by kernel_rfl) rfl rfl ?_
    rw [HE.out]
    exact RetFmErr.bad 10 (B1.grown g9 B1.size (fun k hk => by injection hk with hk; omega))
  case pos =>
    subst h1
    have T1 : ((n : Int) != (n : Int)) = false := by rw [bne_eq_false_iff_eq]
    have HE := Lib.hid (show R = (⟨256 * xs[0]?.getD 0 + xs[1]?.getD 0, xs[6]?.getD 0, xs.drop 7⟩, 0) from by rw [HF.out, if_pos ⟨rfl, by omega⟩]; rfl)
    clear HF
    go_enter Try.func13, Try.ntmps13
    go_wp2_with fail
    refine (KL.out _ B1).mono ?_
    rintro e w1 ⟨rfl, rfl⟩
    go_wp2_with fail
    obtain ⟨b, o, rfl, hb, hcell⟩ := HS.out.2 (by omega)
    obtain ⟨W1, hW1⟩ : ∃ W1, W1 = w.alloc (.cells #[.int .u16 0, .int .u8 0, .slice none 0 0] 25) := ⟨_, rfl⟩
    rw [← hW1] at rz B1 ⊢
    have S1 := HS.out.to B1
    have hszW : w.heap.size < W1.heap.size := row_lt rz
    have HC := Lib.hid (fun X (k : Below w.heap.size w X) j (hj : j < n) => ((k.cell (p := ⟨b, o + j, none⟩) hb).trans (hcell j hj)).trans (bs_get (by have := HL.out; omega)))
    have g0 := HC.out _ B1 0 (by omega)
    have g1 := HC.out _ B1 1 (by omega)
    have g6 := HC.out _ B1 6 (by omega)
    rw [Nat.add_zero] at g0
    have n0 := HX.out.at 0
    have n1 := HX.out.at 1
    have n6 := HX.out.at 6
    obtain ⟨x0, e0⟩ : ∃ x, x = xs[0]?.getD 0 := ⟨_, rfl⟩
    obtain ⟨x1, e1⟩ : ∃ x, x = xs[1]?.getD 0 := ⟨_, rfl⟩
    obtain ⟨x6, e6⟩ : ∃ x, x = xs[6]?.getD 0 := ⟨_, rfl⟩
    rw [← e0] at g0 n0 HE
    rw [← e1] at g1 n1 HE
    rw [← e6] at g6 n6 HE
    have w0 : IntKind.u16.wrap (x0 : Int) = x0 := by rw [IntKind.wrap_u16]; omega
    have w1' : IntKind.u16.wrap (x1 : Int) = x1 := by rw [IntKind.wrap_u16]; omega
    have wm : IntKind.u16.wrap (256 * (x0 : Int)) = 256 * (x0 : Int) := by rw [IntKind.wrap_u16]; omega
    have wa : IntKind.u16.wrap (256 * (x0 : Int) + (x1 : Int)) = ((256 * x0 + x1 : Nat) : Int) := by rw [IntKind.wrap_u16]; omega
    have z0 : (0 : Int) < (n : Int) := by omega
    have z1 : (1 : Int) < (n : Int) := by omega
    have z6 : (6 : Int) < (n : Int) := by omega
    have y0 : 0 < n := by omega
    have y1 : 1 < n := by omega
    have y6 : 6 < n := by omega
    have HK := Lib.hid (fun (X : World) (k : Below w.heap.size w X) => (⟨by have h := HC.out X k 0 y0; rw [Nat.add_zero, ← e0] at h; exact h, by have h := HC.out X k 1 y1; rw [← e1] at h; exact h, by have h := HC.out X k 6 y6; rw [← e6] at h; exact h⟩ : X.cell? ⟨b, o, none⟩ = some (.int .u8 (x0 : Nat)) ∧ X.cell? ⟨b, o + 1, none⟩ = some (.int .u8 (x1 : Nat)) ∧ X.cell? ⟨b, o + 6, none⟩ = some (.int .u8 (x6 : Nat))))
    have hle : w.heap.size ≤ W1.heap.size := Nat.le_of_lt hszW
    clear e0 e1 e6 hW1 hcell
    go_region_held3 (fun X => X.cell? ⟨b, o, none⟩ = some (.int .u8 (x0 : Nat)) ∧ X.cell? ⟨b, o + 1, none⟩ = some (.int .u8 (x1 : Nat)) ∧ X.cell? ⟨b, o + 6, none⟩ = some (.int .u8 (x6 : Nat)))
      (exact HK.out _ (by repeat (first | with_reducible exact B1 | with_reducible exact B1.drew | refine Below.drew ?_ | refine Below.new ?_ _ | refine Below.setCell ?_ hle _)))
      (fail)
    obtain ⟨TX, hTX⟩ : ∃ TX : Int, TX = 256 * (x0 : Int) + (x1 : Int) := ⟨_, rfl⟩
    rw [← hTX]
    have HTX := Lib.hid (show TX = ((256 * x0 + x1 : Nat) : Int) from by rw [hTX]; omega)
    obtain ⟨K, hK⟩ : ∃ K, K = W1.heap.size := ⟨_, rfl⟩
    have rs0 : (W1.alloc (.cells #[.int .u16 TX, .int .u8 (x6 : Nat), .slice none 0 0] 25)).drew.heap[K]? = some (.cells #[.int .u16 TX, .int .u8 (x6 : Nat), .slice none 0 0] 25 (0, 0)) := by rw [hK]; exact heap_alloc_new W1 _
    have H0 : Has W1 (W1.alloc (.cells #[.int .u16 TX, .int .u8 (x6 : Nat), .slice none 0 0] 25)).drew 5 (.slice none 0 0) 0 (bs ((xs.drop 7).take (7 - 7))) := by
      rw [show 7 - 7 = 0 from rfl, List.take_zero]
      exact Has.nil_ (((Below.refl _ W1).new (.cells #[.int .u16 TX, .int .u8 (x6 : Nat), .slice none 0 0] 25)).drew) 5
    have hKW : W1.heap.size ≤ K := Nat.le_of_eq hK.symm
    have hwK : w.heap.size < K := by omega
    rw [← hK]
    have HKK := Lib.hid hK
    have HDL := Lib.hid (show (xs.drop 7).length = n - 7 from by rw [List.length_drop, HL.out])
    clear hTX w0 w1' wm wa n0 n1 n6 g0 g1 g6 hK HK
    go_wp2_with fail
    go_loopw [5] (fun i wr => ∃ (j : Nat) (v : Value), 7 ≤ j ∧ j ≤ n ∧ i = .int .i64 j ∧ Has W1 wr 5 v (j - 7) (bs ((xs.drop 7).take (j - 7))) ∧ wr.heap[K]? = some (.cells #[.int .u16 TX, .int .u8 (x6 : Nat), v] 25 (0, 0)) ∧ (∀ b, v.ownBlock = some b → b ≠ K)) (fun i _ => n - (intOf i).toNat)
    case atStart => exact ⟨7, _, by omega, by omega, rfl, H0, rs0, fun b hb => by simp [Value.ownBlock] at hb⟩
    case round =>
      obtain ⟨j, v, hj7, hj, rfl, H, rs, hv⟩ := hrel
      obtain ⟨c0, c1, c2⟩ := row3 rs
      obtain ⟨f0, f1, f2⟩ := free3 rs
      by_cases hlt : j < n
      · have hlt' : (j : Int) < (n : Int) := by omega
        have hcj := HC.out _ (B1.call H.bel) j hlt
        have HT := Lib.hid (take_snoc (l := xs.drop 7) (k := j - 7) (by have := HDL.out; omega))
        have e : (xs.drop 7)[j - 7]?.getD 0 = xs[j]?.getD 0 := by rw [List.getElem?_drop, show 7 + (j - 7) = j by omega]
        rw [e] at HT
        obtain ⟨x, ex⟩ : ∃ x, x = xs[j]?.getD 0 := ⟨_, rfl⟩
        rw [← ex] at hcj HT
        clear ex e
        have slt := row_lt rs
        have sne : ¬ wr.heap.size = K := Nat.ne_of_gt slt
        go_wp2_with fail
        go_region_law (first
          | (refine step_app _root_.Go.Proofs.Ytofigldbkndjlaa.MbW.u8 rfl (.tmp 38) (.tmp 43) rfl (H.drew.alloc _) rfl (Sl.new1 _ _ _) rfl (one1 _ _) (by omega) (by simp only [maxLen]; omega) ?_; intro v4 w4 H5 g4 o4; have rs4 := (g4.block K (by simp; omega) (fun e => hv K e.symm rfl)).trans (row_alloc (w := wr.drew) rs (.cells #[.int .u8 (x : Nat)] 5)); obtain ⟨c0, c1, c2⟩ := row3 rs4; obtain ⟨f0, f1, f2⟩ := free3 rs4; obtain ⟨A4, cc4, rfl, hc4, -, -⟩ := H5.slice)
          | fail)
        all_goals (
          have hv4 : ∀ b, (Value.slice A4 (j - 7 + 1) cc4).ownBlock = some b → b ≠ K := fun b hb => by
            rcases o4 with o4 | o4
            · exact hv b (by rw [← o4]; exact hb)
            · rw [o4] at hb; injection hb with hb; simp at hb; omega
          go_wp2_with fail
          go_roundw
          case rel =>
            refine ⟨j + 1, .slice A4 (j - 7 + 1) cc4, by omega, by omega, by go_num, ?_, heap_setCell_same w4 K 2 _ _ _ rs4, hv4⟩
            rw [show j + 1 - 7 = j - 7 + 1 by omega, HT.out, ← bs_append]
            exact H5.other (grown_cell w4 K 2 _) hKW (fun e => hv4 K e rfl)
          case measure => simp [intOf]; omega)
      · obtain rfl : j = n := by omega
        obtain ⟨A4, cc4, rfl, _, S4, o4⟩ := H.slice
        have r4 := H.bel.row (row_lt rz) rz
        have B4 := B1.call H.bel
        have HD := Lib.hid (show (xs.drop 7).take (j - 7) = xs.drop 7 from List.take_of_length_le (by rw [HDL.out]; exact Nat.le_refl _))
        rw [HD.out] at S4
        clear H H0 rs0
        go_wp2_with (first
          | (refine wpList_load_row rfl 25 (.tmp 4) rfl K rfl 25 #[.int .u16 TX, .int .u8 (x6 : Nat), .slice A4 (j - 7) cc4] (0, 0) _ rs Try.underlying25 rfl (by kernel_rfl) ?_)
          | (refine wpList_store_grown rfl 25 (.tmp 2) _ rfl w.heap.size #[.int .u16 TX, .int .u8 (x6 : Nat), .slice A4 (j - 7) cc4] rfl rfl 25 _ r4 (by kernel_rfl) rfl (by simp [Value.oneCell']) ?_; intro w9 h9 g9 s9))
        refine bodyPost_row_tmp rfl w.heap.size 25 #[.int .u16 TX, .int .u8 (x6 : Nat), .slice A4 (j - 7) cc4] (0, 0) _ (.int .i64 0) rfl h9 Try.underlying25 rfl (by kernel_rfl) rfl rfl ?_
        rw [HE.out, HTX.out]
        refine ⟨A4, j - 7, cc4, rfl, S4.grown g9 (fun b o e h => ?_), fun b o e => Nat.le_trans hle (o4 b (by rw [e]; rfl)), B4.grown g9 B4.size (fun j hj => by injection hj with hj; omega)⟩
        have := o4 b (by rw [e]; rfl)
        injection h with h
        omega
end Go.Proofs.Ytofigldbkndjlaa.MbW
