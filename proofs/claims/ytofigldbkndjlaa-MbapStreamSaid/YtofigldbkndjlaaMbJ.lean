/- The walk of saucierlaw05.awake: the chapter's examples. -/
import Derived.Test.YtofigldbkndjlaaMbI
import Derived.Test.YtofigldbkndjlaaMbH
set_option linter.unusedVariables false
set_option linter.unusedSimpArgs false
namespace Go.Proofs.Ytofigldbkndjlaa.MbW
open Go.RowKit Go.Proofs.Ytofigldbkndjlaa Go.Proofs.Ytofigldbkndjlaa.Mb
def exF : Fm := ⟨258, 7, [3, 0, 1, 0, 2]⟩
def exB : List Nat := [1, 2, 0, 0, 0, 6, 7, 3, 0, 1, 0, 2]
theorem ex1 : packE exF = (exB, 0) := by decide +kernel
theorem ex2 : cut (exB ++ [9]) = ([exF], 12, 0) := by decide +kernel
theorem ex3 : cut (exB ++ [9, 9, 1]) = ([exF], 12, 10) := by decide +kernel
theorem ex4 : parse [0, 0, 0, 0, 0, 1, 7] = (fm0, 10) := by decide +kernel
theorem bytes_of {l : List Nat} (h : l.all (fun c => decide (c < 256)) = true) : Bytes l := fun c hc => by
  have := List.all_eq_true.1 h c hc
  simpa using this
theorem exOk : exF.Ok := ⟨by decide, by decide, bytes_of (by decide)⟩
theorem bytes_then (w : World) (xs : List Nat) (t : TypeId) (g : Nat) (hg : g = w.heap.size) : Sl (w.alloc (.cells (bs xs).toArray t)) (w.alloc (.cells (bs xs).toArray t)).heap.size (some ⟨g, 0, none⟩) xs.length (bs xs) := by
  subst hg
  have h := Sl.new w (bs xs).toArray t (w.alloc (.cells (bs xs).toArray t)).heap.size (by simp)
  simpa using h
set_option maxRecDepth 10000 in
set_option maxHeartbeats 4000000 in
theorem awake5_any (w : World) :
    Calls Try.prog 7 #[] w fun e w' => e = .returned (.bool true) ∧ Below w.heap.size w w' := by
  go_enter Try.func7, Try.ntmps7
  go_wp2_with fail
  obtain ⟨W1, hW1⟩ : ∃ W1, W1 = ((w.alloc (.cells #[.int .u8 3, .int .u8 0, .int .u8 1, .int .u8 0, .int .u8 2] 5)).alloc (.cells #[.int .u16 258, .int .u8 7, .slice (some ⟨w.heap.size, 0, none⟩) 5 5] 25)) := ⟨_, rfl⟩
  have S0 : Sl W1 W1.heap.size (some ⟨w.heap.size, 0, none⟩) 5 (bs [3, 0, 1, 0, 2]) := by rw [hW1]; exact (bytes_then w [3, 0, 1, 0, 2] 5 _ rfl).to ((Below.refl _ _).new _)
  have rx : W1.heap[w.heap.size + 1]? = some (.cells #[.int .u16 258, .int .u8 7, .slice (some ⟨w.heap.size, 0, none⟩) 5 5] 25 (0, 0)) := by rw [hW1]; exact heap_alloc2_new w _ _
  have B1 : Below w.heap.size w W1 := by rw [hW1]; exact ((Below.refl _ _).new _).new _
  rw [← hW1]
  clear hW1
  refine (pack_any exF _ 5 5 _ S0 exOk (by decide)).mono ?_
  rw [ex1]
  rintro e w2 ⟨v2, rfl, H2⟩
  obtain ⟨A2, c2, rfl, hc2, S2, -⟩ := H2.slice
  have S2 : Sl w2 w2.heap.size A2 12 (bs exB) := S2
  have S0 := S0.to H2.bel
  have rx := H2.bel.row (row_lt rx) rx
  have B1 := B1.call H2.bel
  clear H2
  dsimp only
  go_wp2_with fail
  refine (law6Same_any A2 _ 12 c2 12 12 _ exB exB _ (S2.to ((Below.refl _ _).new _)) (bytes_of (by decide)) (bytes_then _ exB _ _ rfl) (bytes_of (by decide))).mono ?_
  rintro e w3 ⟨rfl, rfl⟩
  rw [beq_self_eq_true]
  have S2 := S2.to ((Below.refl _ _).new (.cells (bs exB).toArray 5))
  have S0 := S0.to ((Below.refl _ _).new (.cells (bs exB).toArray 5))
  have rx := row_alloc rx (.cells (bs exB).toArray 5)
  have B1 := B1.new (.cells (bs exB).toArray 5)
  obtain ⟨W3, hW3⟩ : ∃ W3, W3 = w2.alloc (.cells (bs exB).toArray 5) := ⟨_, rfl⟩
  rw [← hW3] at S2 S0 rx B1 ⊢
  clear hW3
  go_wp2_with (first
    | (at_builtin; refine wpList_app _root_.Go.Proofs.Ytofigldbkndjlaa.MbW.u8 rfl (.tmp 28) (.tmp 29) rfl (Has.made0 (Below.refl _ _) _) rfl (S2.to ((Below.refl _ _).new _)) rfl (bs_one _) (by simp) (by simp [maxLen]) ?_; intro v4 w4 H4 _ _)
    | (at_builtin; refine wpList_app _root_.Go.Proofs.Ytofigldbkndjlaa.MbW.u8 rfl (.tmp 30) (.tmp 31) rfl (H4.alloc _) rfl (newAny _ _ _) rfl (by simp [Value.oneCell']) (by simp) (by simp [maxLen]) ?_; intro v5 w5 H5 _ _; obtain ⟨A5, c5, rfl, hc5, S5, -⟩ := H5.slice; have b5 := H5.bel; clear H4 H5))
  refine (cut_any A5 _ c5 (exB ++ [9]) _ S5 (bytes_of (by decide)) hc5 (by simp)).mono ?_
  rw [ex2]
  rintro e w6 ⟨v6, rfl, H6⟩
  have rx := b5.row (row_lt rx) rx
  have rx := H6.bel.row (row_lt rx) rx
  have B1 := (B1.call b5).call H6.bel
  have S2 := (S2.to b5).to H6.bel
  obtain ⟨A6, c6, rfl, hc6, F6⟩ := H6.slice
  have S0 := (S0.to b5).to H6.bel
  have F6 : Fr w6 A6 1 [exF] _ := F6
  clear b5 S5 hc5 H6
  dsimp only
  go_wp2_with (first
    | (at_builtin; refine wpList_app _root_.Go.Proofs.Ytofigldbkndjlaa.MbW.u8 rfl (.tmp 38) (.tmp 39) rfl (Has.made0 (Below.refl _ _) _) rfl (S2.to ((Below.refl _ _).new _)) rfl (bs_one _) (by simp) (by simp [maxLen]) ?_; intro v4 w4 H4 _ _)
    | (at_builtin; refine wpList_app _root_.Go.Proofs.Ytofigldbkndjlaa.MbW.u8 rfl (.tmp 40) (.tmp 41) rfl (H4.alloc _) rfl (newAny _ _ _) rfl (by simp [Value.oneCell']) (by simp) (by simp [maxLen]) ?_; intro v5 w5 H5 _ _; obtain ⟨A7, c7, rfl, hc7, S7, -⟩ := H5.slice; have b7 := H5.bel; clear H4 H5))
  refine (cut_any A7 _ c7 (exB ++ [9, 9, 1]) _ S7 (bytes_of (by decide)) hc7 (by simp)).mono ?_
  rw [ex3]
  rintro e w8 ⟨v8, rfl, H8⟩
  have rx := b7.row (row_lt rx) rx
  have rx := H8.bel.row (row_lt rx) rx
  have B1 := (B1.call b7).call H8.bel
  have F6 := (F6.to b7).to H8.bel
  have S0 := (S0.to b7).to H8.bel
  clear b7 S7 hc7
  obtain ⟨A8, c8, rfl, -, -⟩ := H8.slice
  clear H8
  dsimp only
  go_wp2_with fail
  refine (parse_any _ 7 7 [0, 0, 0, 0, 0, 1, 7] _ (bytes_then _ [0, 0, 0, 0, 0, 1, 7] _ _ rfl) (bytes_of (by decide)) (by decide) (by decide)).mono ?_
  rw [ex4]
  rintro e w9 ⟨C9, k9, cc9, rfl, -, -, b9⟩
  have b9 := Below.call ((Below.refl _ _).new _) b9
  have rx := b9.row (row_lt rx) rx
  have B1 := B1.call b9
  have F6 := F6.to b9
  have S0 := S0.to b9
  clear b9
  dsimp only
  go_wp2_with (refine wpList_load_row rfl 25 (.tmp 1) rfl (w.heap.size + 1) rfl 25 #[.int .u16 258, .int .u8 7, .slice (some ⟨w.heap.size, 0, none⟩) 5 5] (0, 0) _ (row_alloc rx _) Try.underlying25 rfl (by kernel_rfl) ?_)
  have hOk : Oks [exF] := fun x hx => by
    have : x = exF := by simpa using hx
    rw [this]; exact exOk
  refine (same_any A6 _ 1 c6 1 1 [exF] [exF] _ _ _ ((F6.to ((Below.refl _ _).new _)).to ((Below.refl _ _).new _)) (Fr.newAt (P := fun _ => True) _ exF (some ⟨w.heap.size, 0, none⟩) 5 5 25 _ (World.size_alloc _ _).symm (S0.to ((Below.refl _ _).new _)) (fun _ _ _ _ => trivial)) hOk hOk (by decide)).mono ?_
  rw [decide_eq_true rfl]
  rintro e w10 ⟨rfl, b10⟩
  have B1 := ((B1.new _).new _).call b10
  go_wp2_with fail
  go_ret
  exact ⟨rfl, B1⟩
end Go.Proofs.Ytofigldbkndjlaa.MbW
