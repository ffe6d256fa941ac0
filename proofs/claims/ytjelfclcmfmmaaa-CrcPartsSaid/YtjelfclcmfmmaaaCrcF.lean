/- The walks of crc.Put and saucierref01.Put. -/
import Derived.Test.YtjelfclcmfmmaaaCrcE
import Derived.Test.YtjelfclcmfmmaaaApp
namespace Go.Proofs.Ytjelfclcmfmmaaa.CrcW
open Go.RowKit Go.Proofs.Ytjelfclcmfmmaaa
theorem u8 : Elem Try.prog 22 5 1 := .mk' (z := .int .u8 0) Try.underlying22 (by kernel_rfl) rfl
/-- What is put behind l. -/
def put (l : List Nat) : List Nat := l ++ [Crc.sum l % 256, Crc.sum l / 256]
theorem put_bytes {l : List Nat} (h : Bytes l) : Bytes (put l) := by
  have := Crc.sum_lt l h
  intro c hc
  simp [put] at hc
  rcases hc with hc | rfl | rfl
  · exact h c hc
  · omega
  · omega
@[simp] theorem put_length (l : List Nat) : (put l).length = l.length + 2 := by simp [put]
theorem put_cells (l : List Nat) (S : Nat) (h : S = Crc.sum l) : bs l ++ [Value.int .u8 ((S : Int) % 256), Value.int .u8 ((S : Int) / 256)] = bs (put l) := by
  subst h; simp [put, bs]
/-- A call that hands back a row of its own. -/
def RetRow (w : World) (t : TypeId) (n : Nat) (xs : List Value) (e : Ending) (w' : World) : Prop := ∃ v, e = .returned v ∧ Has w w' t v n xs

theorem put_any (A : Option Addr) (n cap : Nat) (l : List Nat) (w : World) (hs : Sl w w.heap.size A n (bs l)) (hl : Bytes l) (hn : n ≤ 140737488351232) :
    Calls Try.prog 15 #[.slice A n cap] w (RetRow w 5 (n + 2) (bs (put l))) := by
  have hS : Crc.sum l < 65536 := Crc.sum_lt l hl
  obtain ⟨S, hSe⟩ : ∃ S, S = Crc.sum l := ⟨_, rfl⟩
  have HS := Lib.hid hSe
  go_enter Try.func15, Try.ntmps15
  go_wp2_with fail
  refine (sum_any A n cap l w hs hl (by omega)).mono ?_
  rw [← hSe] at hS ⊢; clear hSe
  rintro e w1 ⟨rfl, hb1⟩
  go_wp2_with (first
    | (at_make; refine wpList_make0 u8 rfl _ _ rfl (n + 2) rfl rfl hb1 (by omega) (by simp only [maxLen]; omega) ?_; intro v2 w2 H2)
    | (at_builtin; refine wpList_app u8 rfl (.tmp 11) (.tmp 12) rfl H2 rfl (hs.below H2.bel) rfl (bs_one l) (by omega) (by simp only [maxLen]; omega) ?_; intro v3 w3 H3 _ _)
    | (at_builtin; refine wpList_app u8 rfl (.tmp 14) (.tmp 20) rfl (H3.alloc _) rfl (Sl.new2 _ _ _ _) rfl (one2 _ _ _) (by omega) (by simp only [maxLen]; omega) ?_; intro v4 w4 H4 _ _))
  go_ret
  refine ⟨v4, rfl, ?_⟩
  rw [List.nil_append, Nat.zero_add] at H4
  rw [← put_cells l S HS.out]
  exact H4

theorem refPut_any (A : Option Addr) (n cap : Nat) (l : List Nat) (w : World) (hs : Sl w w.heap.size A n (bs l)) (hl : Bytes l) (hn : n ≤ 140737488351232) :
    Calls Try.prog 16 #[.slice A n cap] w (RetRow w 5 (n + 2) (bs (put l))) := by
  have hS : Crc.sum l < 65536 := Crc.sum_lt l hl
  obtain ⟨S, hSe⟩ : ∃ S, S = Crc.sum l := ⟨_, rfl⟩
  have HS := Lib.hid hSe
  go_enter Try.func16, Try.ntmps16
  go_wp2_with (at_builtin; refine wpList_app u8 rfl (.tmp 5) (.tmp 6) rfl (Has.nil_ (Below.refl _ w) _) rfl hs rfl (bs_one l) (by omega) (by simp only [maxLen]; omega) ?_; intro v2 w2 H2 _ _)
  have hs2 := hs.below H2.bel
  have H2' := H2
  refine (refSum_any A n cap l w2 (hs2.mono H2.bel.size) hl (by omega)).mono ?_
  rw [← hSe] at hS ⊢; clear hSe
  rintro e w1 ⟨rfl, rfl⟩
  go_wp2_with (first
    | (at_builtin; refine wpList_app u8 rfl (.tmp 10) (.tmp 14) rfl (H2.alloc _) rfl (Sl.new1 _ _ _) rfl (one1 _ _) (by omega) (by simp only [maxLen]; omega) ?_; intro v3 w3 H3 _ _)
    | (at_builtin; refine wpList_app u8 rfl (.tmp 16) (.tmp 20) rfl (H3.alloc _) rfl (Sl.new1 _ _ _) rfl (one1 _ _) (by omega) (by simp only [maxLen]; omega) ?_; intro v4 w4 H4 _ _))
  go_ret
  refine ⟨v4, rfl, ?_⟩
  rw [List.nil_append, Nat.zero_add, List.append_assoc, Nat.add_assoc] at H4
  rw [← put_cells l S HS.out]
  exact H4
end Go.Proofs.Ytjelfclcmfmmaaa.CrcW
