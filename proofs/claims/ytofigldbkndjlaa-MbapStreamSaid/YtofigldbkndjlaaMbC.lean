/- The walks of mbap.Parse, mbap.Pack. -/
import Derived.Test.YtofigldbkndjlaaMbB
set_option linter.unusedVariables false
set_option linter.unusedSimpArgs false
namespace Go.Proofs.Ytofigldbkndjlaa.MbW
open Go.RowKit Go.Proofs.Ytofigldbkndjlaa Go.Proofs.Ytofigldbkndjlaa.Mb
/-- A frame by value, whose bytes lie in memory of the call's own, and an error. -/
def RetFmErr (w : World) (r : Fm × Int) (e : Ending) (w' : World) : Prop := ∃ C k c, e = .returned (.tuple #[.agg #[.int .u16 (r.1.tx : Nat), .int .u8 (r.1.unit : Nat), .slice C k c], .int .i64 r.2]) ∧ Sl w' w'.heap.size C k (bs r.1.pdu) ∧ (∀ b o, C = some (⟨b, o, none⟩ : Addr) → w.heap.size ≤ b) ∧ Below w.heap.size w w'
theorem RetFmErr.bad {w w' : World} (n : Int) (h : Below w.heap.size w w') : RetFmErr w (fm0, n) (.returned (.tuple #[.agg #[.int .u16 0, .int .u8 0, .slice none 0 0], .int .i64 n])) w' :=
  ⟨none, 0, 0, rfl, Sl.empty _ _ _, (fun _ _ h => by cases h), h⟩
set_option maxHeartbeats 2000000 in
theorem parse_any (A : Option Addr) (n c : Nat) (xs : List Nat) (w : World) (hs : Sl w w.heap.size A n (bs xs)) (hx : Bytes xs) (hc : n ≤ c) (hn : n ≤ 1000000) :
    Calls Try.prog 12 #[.slice A n c] w (RetFmErr w (parse xs)) := by
  have hlen : xs.length = n := by simpa using hs.len
  have hcase := whole_cases xs
  have KW := Lib.hid (fun X (b : Below w.heap.size w X) => whole_any A n c xs X (hs.to b) hx hn)
  have KR := Lib.hid (fun X (b : Below w.heap.size w X) h8 => read_any A n c xs X (hs.to b) hx h8 hc hn)
  have HF := Lib.hid (show parse xs = if whole xs = n ∧ n ≠ 0 then (read xs, 0) else (fm0, 10) from by unfold parse; rw [hlen])
  obtain ⟨R, hR⟩ : ∃ R, R = parse xs := ⟨_, rfl⟩
  obtain ⟨q, hq⟩ : ∃ q, q = whole xs := ⟨_, rfl⟩
  rw [← hR] at HF ⊢
  rw [← hq] at HF KW hcase
  obtain ⟨Y, hY⟩ : ∃ Y, Y = read xs := ⟨_, rfl⟩
  rw [← hY] at HF KR
  have rz := heap_alloc_new w (.cells #[.int .u16 0, .int .u8 0, .slice none 0 0] 25)
  have B1 := (Below.refl w.heap.size w).new (.cells #[.int .u16 0, .int .u8 0, .slice none 0 0] 25)
  have h8 : q = 0 ∨ 8 ≤ q := by omega
  clear hs hx hlen hR hq hY hcase
  by_cases h0 : q = 0
  · have T0 : ((q : Int) == 0) = true := by rw [beq_iff_eq]; omega
    have HE := Lib.hid (show R = (fm0, 10) from by rw [HF.out, if_neg (by omega)])
    clear HF h0 h8
    go_enter Try.func12, Try.ntmps12
    go_wp2_with fail
    refine (KW.out _ B1).mono ?_
    rintro e w1 ⟨rfl, d, rfl⟩
    have r1 := ((Below.refl (w.alloc (.cells #[.int .u16 0, .int .u8 0, .slice none 0 0] 25)).heap.size _).drewN d).row (row_lt rz) rz
    go_wp2_with (refine wpList_store_grown rfl 25 (.tmp 2) _ rfl w.heap.size #[.int .u16 0, .int .u8 0, .slice none 0 0] rfl rfl 25 _ r1 (by kernel_rfl) rfl (by simp [Value.oneCell']) ?_; intro w9 h9 g9 s9)
    refine bodyPost_row_tmp rfl w.heap.size 25 #[.int .u16 0, .int .u8 0, .slice none 0 0] (0, 0) _ (.int .i64 10) rfl h9 Try.underlying25 rfl (by kernel_rfl) rfl rfl ?_
    rw [HE.out]
    exact RetFmErr.bad 10 ((B1.drewN d).grown g9 (B1.drewN d).size (fun k hk => by injection hk with hk; omega))
  have T0 : ((q : Int) == 0) = false := by rw [beq_eq_false_iff_ne]; omega
  by_cases h1 : q = n
  · subst h1
    have T1 : ((q : Int) != (q : Int)) = false := by rw [bne_eq_false_iff_eq]
    have HE := Lib.hid (show R = (Y, 0) from by rw [HF.out, if_pos ⟨rfl, h0⟩])
    have KR8 := Lib.hid (fun X b => KR.out X b (by omega))
    clear HF h0 h8
    go_enter Try.func12, Try.ntmps12
    go_wp2_with fail
    refine (KW.out _ B1).mono ?_
    rintro e w1 ⟨rfl, d, rfl⟩
    have B2 := B1.drewN d
    have r1 := ((Below.refl (w.alloc (.cells #[.int .u16 0, .int .u8 0, .slice none 0 0] 25)).heap.size _).drewN d).row (row_lt rz) rz
    go_wp2_with fail
    refine (KR8.out _ B2).mono ?_
    rintro e w2 ⟨C, k, cc, rfl, SC, oC, b2⟩
    have r2 := b2.row (row_lt r1) r1
    have lt2 := row_lt r1
    have B3 := B2.call b2
    have s3 := B2.size
    go_wp2_with (refine wpList_store_grown rfl 25 (.tmp 2) _ rfl w.heap.size #[.int .u16 (Y.tx : Nat), .int .u8 (Y.unit : Nat), .slice C k cc] rfl rfl 25 _ r2 (by kernel_rfl) rfl (by simp [Value.oneCell']) ?_; intro w9 h9 g9 s9)
    refine bodyPost_row_tmp rfl w.heap.size 25 #[.int .u16 (Y.tx : Nat), .int .u8 (Y.unit : Nat), .slice C k cc] (0, 0) _ (.int .i64 0) rfl h9 Try.underlying25 rfl (by kernel_rfl) rfl rfl ?_
    rw [HE.out]
    refine ⟨C, k, cc, rfl, SC.grown g9 (fun b o e h => ?_), fun b o e => Nat.le_trans s3 (oC b o e), B3.grown g9 B3.size (fun j hj => by injection hj with hj; omega)⟩
    have := oC b o e
    injection h with h
    omega
  · have T1 : ((q : Int) != (n : Int)) = true := by rw [bne_iff_ne]; omega
    have HE := Lib.hid (show R = (fm0, 10) from by rw [HF.out, if_neg (by omega)])
    clear HF h0 h8 h1
    go_enter Try.func12, Try.ntmps12
    go_wp2_with fail
    refine (KW.out _ B1).mono ?_
    rintro e w1 ⟨rfl, d, rfl⟩
    have r1 := ((Below.refl (w.alloc (.cells #[.int .u16 0, .int .u8 0, .slice none 0 0] 25)).heap.size _).drewN d).row (row_lt rz) rz
    go_wp2_with (refine wpList_store_grown rfl 25 (.tmp 2) _ rfl w.heap.size #[.int .u16 0, .int .u8 0, .slice none 0 0] rfl rfl 25 _ r1 (by kernel_rfl) rfl (by simp [Value.oneCell']) ?_; intro w9 h9 g9 s9)
    refine bodyPost_row_tmp rfl w.heap.size 25 #[.int .u16 0, .int .u8 0, .slice none 0 0] (0, 0) _ (.int .i64 10) rfl h9 Try.underlying25 rfl (by kernel_rfl) rfl rfl ?_
    rw [HE.out]
    exact RetFmErr.bad 10 ((B1.drewN d).grown g9 (B1.drewN d).size (fun k hk => by injection hk with hk; omega))
theorem newAny (w : World) (cs : Array Value) (t : TypeId) : Sl (w.alloc (.cells cs t)) (w.heap.size + 1) (some ⟨w.heap.size, 0, none⟩) cs.size cs.toList := Sl.new w cs t _ (by omega)
/-- A row of its own, and an error. -/
def RetRowErr (w : World) (t : TypeId) (r : List Nat × Int) (e : Ending) (w' : World) : Prop := ∃ v, e = .returned (.tuple #[v, .int .i64 r.2]) ∧ Has w w' t v r.1.length (bs r.1)
set_option maxHeartbeats 2000000 in
theorem pack_any (x : Fm) (C : Option Addr) (k c : Nat) (w : World) (hs : Sl w w.heap.size C k (bs x.pdu)) (ho : x.Ok) (hn : k ≤ 1000000) :
    Calls Try.prog 8 #[.agg #[.int .u16 (x.tx : Nat), .int .u8 (x.unit : Nat), .slice C k c]] w (RetRowErr w 5 (packE x)) := by
  have hlen : x.pdu.length = k := by simpa using hs.len
  have wk : IntKind.i64.wrap ((k : Int) + 1) = (k : Int) + 1 := by rw [IntKind.wrap_i64]; omega
  have HF := Lib.hid (show packE x = if 1 ≤ k ∧ k ≤ 253 then (pack x, 0) else ([], 2) from by
    unfold packE right
    rw [hlen]
    by_cases h : 1 ≤ k ∧ k ≤ 253
    · rw [if_pos h, if_pos (decide_eq_true h)]
    · rw [if_neg h, if_neg (by simpa using h)])
  have HP := Lib.hid (show pack x = [x.tx / 256, x.tx % 256, 0, 0, (k + 1) / 256, (k + 1) % 256, x.unit] ++ x.pdu from by unfold pack head; rw [hlen])
  have S1 := hs.to ((Below.refl _ w).new (.cells #[.int .u16 (x.tx : Nat), .int .u8 (x.unit : Nat), .slice C k c] 25))
  have B1 := (Below.refl w.heap.size w).new (.cells #[.int .u16 (x.tx : Nat), .int .u8 (x.unit : Nat), .slice C k c] 25)
  obtain ⟨R, hR⟩ : ∃ R, R = packE x := ⟨_, rfl⟩
  rw [← hR] at HF ⊢
  obtain ⟨tx, u, P⟩ := x
  have htx := ho.tx
  have hu := ho.unit
  have hP := Lib.hid ho.pdu
  dsimp only at htx hu HP S1 B1 ⊢
  have HL := Lib.hid hlen
  dsimp only at HL
  clear hs ho hR hlen
  by_cases h1 : (k : Int) + 1 < 2
  · have HE := Lib.hid (show R = ([], 2) from by rw [HF.out, if_neg (by omega)])
    go_enter Try.func8, Try.ntmps8
    go_wp2_with fail
    go_ret2
    rw [HE.out]
    exact ⟨_, rfl, Has.nil_ B1 _⟩
  by_cases h2 : (254 : Int) < (k : Int) + 1
  · have HE := Lib.hid (show R = ([], 2) from by rw [HF.out, if_neg (by omega)])
    go_enter Try.func8, Try.ntmps8
    go_wp2_with fail
    go_ret2
    rw [HE.out]
    exact ⟨_, rfl, Has.nil_ B1 _⟩
  have HE := Lib.hid (show R = ([tx / 256, tx % 256, 0, 0, (k + 1) / 256, (k + 1) % 256, u] ++ P, 0) from by rw [HF.out, if_pos (by omega), HP.out])
  have w6 : IntKind.i64.wrap (6 + ((k : Int) + 1)) = ((7 + k : Nat) : Int) := by rw [IntKind.wrap_i64]; omega
  have hseven : ∀ {w0 w3 : World} {v3 : Value}, Has w0 w3 5 v3 7 [.int .u8 ((tx : Int) / 256), .int .u8 ((tx : Int) % 256), .int .u8 0, .int .u8 0, .int .u8 (((k : Int) + 1) / 256), .int .u8 ((k : Int) + 1), .int .u8 (u : Nat)] → Has w0 w3 5 v3 7 (bs [tx / 256, tx % 256, 0, 0, (k + 1) / 256, (k + 1) % 256, u]) := fun {w0 w3 v3} h => by
    have e : bs [tx / 256, tx % 256, 0, 0, (k + 1) / 256, (k + 1) % 256, u] = [.int .u8 ((tx : Int) / 256), .int .u8 ((tx : Int) % 256), .int .u8 0, .int .u8 0, .int .u8 (((k : Int) + 1) / 256), .int .u8 ((k : Int) + 1), .int .u8 (u : Nat)] := by
      simp [bs]; omega
    rw [e]; exact h
  clear HF
  go_enter Try.func8, Try.ntmps8
  go_wp2_with (first
    | (at_make; refine wpList_make0 _root_.Go.Proofs.Ytofigldbkndjlaa.MbW.u8 rfl _ _ rfl (7 + k) rfl rfl (Below.refl _ _) (by omega) (by simp only [maxLen]; omega) ?_; intro v2 w2 H2; obtain ⟨c0, c1, c2⟩ := row3 (H2.bel.row (by simp) (heap_alloc_new w _)); have S2 := S1.to H2.bel)
    | (at_builtin; refine wpList_app _root_.Go.Proofs.Ytofigldbkndjlaa.MbW.u8 rfl (.tmp 19) (.tmp 34) rfl (H2.alloc _) rfl (newAny _ _ _) rfl (by simp [Value.oneCell']) (by simp) (by simp [maxLen]) ?_; intro v3 w3 H3 _ _; obtain ⟨d0, d1, d2⟩ := row3 (H3.bel.row (by simp) (heap_alloc_new w _)); have H4 := hseven H3; clear H3)
    | (at_builtin; refine wpList_app _root_.Go.Proofs.Ytofigldbkndjlaa.MbW.u8 rfl (.tmp 36) (.tmp 38) rfl H4 rfl (S1.to H4.bel) rfl (bs_one _) (by omega) (by simp only [maxLen]; omega) ?_; intro v5 w5 H5 _ _))
  go_ret2
  rw [HE.out]
  refine ⟨_, rfl, ?_⟩
  have H6 := H5.weaken B1
  rw [bs_append] at H6
  rw [show ([tx / 256, tx % 256, 0, 0, (k + 1) / 256, (k + 1) % 256, u] ++ P).length = 7 + k from by rw [List.length_append, HL.out]; rfl]
  exact H6
end Go.Proofs.Ytofigldbkndjlaa.MbW
