/- The landed disk keeps the contracts. -/
import Derived.Test.YtljiehnpknbohaaDkV
import Derived.Test.YtljiehnpknbohaaDkX3
import Derived.Test.YtljiehnpknbohaaDkX4
set_option linter.unusedVariables false
set_option linter.unusedSimpArgs false
namespace Go.Proofs.Ytljiehnpknbohaa.DkW
open Go.RowKit Go.Proofs.Ytljiehnpknbohaa Go.Proofs.Ytljiehnpknbohaa.Dk
theorem Stays.grownBy {w w' : World} {p : Nat} (h : Stays (fun k => k = p) w w') : w.grownBy w' (some p) := ⟨h.os, h.tape, h.output, h.size, fun k hk hne => h.rows k hk (fun e => hne (by rw [e]))⟩
theorem did_stay {w w9 : World} {base : Nat} {S : Nat → Prop} {p : Nat} {d d' : D} {A : Option Addr} {n c : Nat} {s : Int} (hd : Dk w base S p d) (g : w.grownBy w9 (some p)) (hn : d'.b.length = n) (row : Blk w9 p true (d'.room : Nat) A n c (d'.safe : Nat) s d'.off) (own : w9.ownsRow base 5 1 (.slice A n c) n (bs d'.b))
    (hg : ∀ g, (Value.slice A n c).ownBlock = some g → S g ∧ g ≠ p) (sp : Spk d'.left s) (ok : d'.Ok) : Did w base S p d' w9 :=
  ⟨S, dk_of hn row own hg sp ok hd.me hd.lo (fun k h => Nat.lt_of_lt_of_le (hd.hi k h) g.size), (Stays.refl S w).grown g (Or.inl hd.me), fun k h => Or.inl h⟩
theorem own_len {A : Option Addr} {n k c : Nat} {g : Nat} (h : (Value.slice A k c).ownBlock = some g) : (Value.slice A n c).ownBlock = some g := by
  cases A <;> exact h
theorem own_take {w : World} {base : Nat} {A : Option Addr} {n c k : Nat} {l : List Nat} (own : w.ownsRow base 5 1 (.slice A n c) n (bs l)) (hk : k ≤ n) : w.ownsRow base 5 1 (.slice A k c) k (bs (l.take k)) ∧ n ≤ c := by
  obtain ⟨h1, h2⟩ := own
  have hl : l.length = n := by simpa using h1
  have h1' : (bs (l.take k)).length = k * 1 := by rw [bs_length, List.length_take]; omega
  rcases h2 with ⟨hv, h0⟩ | ⟨g, cap, cur, hv, hb, hg, hc, hm, hs, ht⟩
  · injection hv with hA hn hc
    subst hA hn hc
    obtain rfl : k = 0 := by omega
    exact ⟨⟨h1', Or.inl ⟨rfl, by omega⟩⟩, Nat.le_refl _⟩
  · injection hv with hA hn' hcc
    subst hA hcc
    refine ⟨⟨h1', Or.inr ⟨g, c, cur, rfl, hb, hg, by omega, hm, hs, ?_⟩⟩, hc⟩
    rw [Nat.mul_one] at ht ⊢
    rw [← bs_take, ← ht, List.take_take]
    congr 1
    omega
theorem spk_cases {l s : Int} (h : Spk l s) (hl : -1 ≤ l) : (l = 0 ∧ s = 0) ∨ (l < 0 ∧ s < 0 ∧ Spk (spend l) s) ∨ (0 < l ∧ 0 < s ∧ s ≤ 9223372036854775807 ∧ Spk (spend l) (s - 1)) := by
  obtain ⟨a, b, h1, h2⟩ := h
  unfold spend
  by_cases h0 : l = 0
  · exact Or.inl ⟨h0, by rw [h2 (by omega)]; exact h0⟩
  · by_cases hn : l < 0
    · refine Or.inr (Or.inl ⟨hn, h1 hn, ?_⟩)
      rw [if_neg (by omega)]
      exact ⟨a, b, h1, h2⟩
    · have := h2 (by omega)
      refine Or.inr (Or.inr ⟨by omega, by omega, b, ?_⟩)
      rw [if_pos (by omega)]
      exact ⟨by omega, by omega, fun h => by omega, fun _ => by omega⟩
theorem k_new (room : Nat) (w : World) (h : room ≤ 262144) : Calls Try.prog 8 #[.int .i64 (room : Nat)] w fun e w' => ∃ p S, e = .returned (.tuple #[.pointer (some ⟨p, 0, none⟩), .int .i64 0]) ∧ Dk w' w.heap.size S p (Dk.new room) ∧ Below w.heap.size w w' := by
  refine (new_raw room w h).mono ?_
  rintro e w' ⟨rfl, row, b, z⟩
  refine ⟨w.heap.size, fun k => k = w.heap.size, rfl, dk_of (d := Dk.new room) (n := 0) rfl row (World.ownsRow_nil _ _ _ _) (fun g h => by simp [Value.ownBlock] at h) ⟨by decide, by decide, fun _ => by decide, fun h => by
    exact absurd h (by show ¬ (0 : Int) ≤ -1; decide)⟩ (new_ok h) rfl (fun k e => by rw [e]; exact Nat.le_refl _) (fun k e => by rw [e, z]; exact Nat.lt_succ_self _), b⟩
theorem k_append (d : D) (base : Nat) (S : Nat → Prop) (p : Nat) (A : Option Addr) (n c : Nat) (xs : List Nat) (w : World) (hd : Dk w base S p d) (hs : Sl w w.heap.size A n (bs xs)) (ha : Away S A n) (hb : Bytes xs) (hn : n ≤ 100000) :
    Calls Try.prog 22 #[.pointer (some ⟨p, 0, none⟩), .slice A n c] w fun e w' => e = .returned (.int .i64 (append d xs).2) ∧ Did w base S p (append d xs).1 w' := by
  have hxm : xs.length = n := by simpa using hs.len
  by_cases ho : d.off = true
  · have e : append d xs = (d, 6) := by unfold append; rw [if_pos ho]
    rw [e]
    obtain ⟨A0, c0, s0, row, own, hg, sp⟩ := hd.raw rfl
    have row' := row
    rw [ho] at row'
    refine (append_off A n c row').mono ?_
    rintro e w' ⟨rfl, row2, st⟩
    have row2 : Blk w' p true (d.room : Nat) A0 d.b.length c0 (d.safe : Nat) s0 d.off := by rw [ho]; exact row2
    exact ⟨rfl, did_stay hd st.grownBy rfl row2 (own.kept st.grownBy (Or.inr (fun e => (hg p e).2 rfl))) hg sp hd.ok⟩
  · have ho : d.off = false := by simpa using ho
    by_cases hr : d.room < d.b.length + n
    · have e : append d xs = (d, 5) := by unfold append; rw [if_neg (by rw [ho]; decide), if_pos (by rw [hxm]; exact hr)]
      rw [e]
      obtain ⟨A0, c0, s0, row, own, hg, sp⟩ := hd.raw rfl
      have row' := row
      rw [ho] at row'
      refine (append_full A n c row' hd.ok.len hd.ok.room hr).mono ?_
      rintro e w' ⟨rfl, row2, st⟩
      rw [← ho] at row2
      exact ⟨rfl, did_stay hd st.grownBy rfl row2 (own.kept st.grownBy (Or.inr (fun e => (hg p e).2 rfl))) hg sp hd.ok⟩
    · exact append_goes d base S p A n c xs w hd hs ha hb hn ho hr
theorem k_sync (d : D) (base : Nat) (S : Nat → Prop) (p : Nat) (w : World) (hd : Dk w base S p d) :
    Calls Try.prog 23 #[.pointer (some ⟨p, 0, none⟩)] w fun e w' => e = .returned (.int .i64 (sync d).2) ∧ Did w base S p (sync d).1 w' := by
  have ok := sync_ok hd.ok
  obtain ⟨A0, c0, s0, row, own, hg, sp⟩ := hd.raw rfl
  by_cases ho : d.off = true
  · have e : sync d = (d, 6) := by unfold sync; rw [if_pos ho]
    rw [e]
    have row' := row
    rw [ho] at row'
    refine (sync_off row').mono ?_
    rintro e w' ⟨rfl, row2, st⟩
    have row2 : Blk w' p true (d.room : Nat) A0 d.b.length c0 (d.safe : Nat) s0 d.off := by rw [ho]; exact row2
    exact ⟨rfl, did_stay hd st.grownBy rfl row2 (own.kept st.grownBy (Or.inr (fun e => (hg p e).2 rfl))) hg sp hd.ok⟩
  · have ho : d.off = false := by simpa using ho
    rw [ho] at row
    rcases spk_cases sp hd.ok.left with ⟨h0, rfl⟩ | ⟨h0, h1, sp2⟩ | ⟨h0, h1, h2, sp2⟩
    · have e : sync d = ({ d with off := true }, 6) := by unfold sync; rw [if_neg (by rw [ho]; decide), if_pos h0]
      rw [e] at ok ⊢
      refine (sync_none row).mono ?_
      rintro e w' ⟨rfl, row2, st⟩
      exact ⟨rfl, did_stay hd st.grownBy rfl row2 (own.kept st.grownBy (Or.inr (fun e => (hg p e).2 rfl))) hg sp ok⟩
    · have e : sync d = ({ d with safe := d.b.length, left := spend d.left }, 0) := by unfold sync; rw [if_neg (by rw [ho]; decide), if_neg (by omega)]
      rw [e] at ok ⊢
      refine (sync_many row h1).mono ?_
      rintro e w' ⟨rfl, row2, st⟩
      rw [← ho] at row2
      exact ⟨rfl, did_stay hd st.grownBy rfl row2 (own.kept st.grownBy (Or.inr (fun e => (hg p e).2 rfl))) hg sp2 ok⟩
    · have e : sync d = ({ d with safe := d.b.length, left := spend d.left }, 0) := by unfold sync; rw [if_neg (by rw [ho]; decide), if_neg (by omega)]
      rw [e] at ok ⊢
      refine (sync_one row h1 h2).mono ?_
      rintro e w' ⟨rfl, row2, st⟩
      rw [← ho] at row2
      exact ⟨rfl, did_stay hd st.grownBy rfl row2 (own.kept st.grownBy (Or.inr (fun e => (hg p e).2 rfl))) hg sp2 ok⟩
theorem k_cut (d : D) (base : Nat) (S : Nat → Prop) (p : Nat) (z : Int) (w : World) (hd : Dk w base S p d) :
    Calls Try.prog 24 #[.pointer (some ⟨p, 0, none⟩), .int .i64 z] w fun e w' => e = .returned (.int .i64 (cut d z).2) ∧ Did w base S p (cut d z).1 w' := by
  have ok := cut_ok hd.ok z
  obtain ⟨A0, c0, s0, row, own, hg, sp⟩ := hd.raw rfl
  by_cases ho : d.off = true
  · have e : cut d z = (d, 6) := by unfold cut; rw [if_pos ho]
    rw [e]
    have row' := row
    rw [ho] at row'
    refine (cut_off z row').mono ?_
    rintro e w' ⟨rfl, row2, st⟩
    have row2 : Blk w' p true (d.room : Nat) A0 d.b.length c0 (d.safe : Nat) s0 d.off := by rw [ho]; exact row2
    exact ⟨rfl, did_stay hd st.grownBy rfl row2 (own.kept st.grownBy (Or.inr (fun e => (hg p e).2 rfl))) hg sp hd.ok⟩
  · have ho : d.off = false := by simpa using ho
    rw [ho] at row
    by_cases hz : z < 0
    · have e : cut d z = (d, 2) := by unfold cut; rw [if_neg (by rw [ho]; decide), if_pos (Or.inl hz)]
      rw [e]
      refine (cut_low z row hz).mono ?_
      rintro e w' ⟨rfl, row2, st⟩
      rw [← ho] at row2
      exact ⟨rfl, did_stay hd st.grownBy rfl row2 (own.kept st.grownBy (Or.inr (fun e => (hg p e).2 rfl))) hg sp hd.ok⟩
    by_cases hh : (d.b.length : Int) < z
    · have e : cut d z = (d, 2) := by unfold cut; rw [if_neg (by rw [ho]; decide), if_pos (Or.inr hh)]
      rw [e]
      refine (cut_high z row hz hh).mono ?_
      rintro e w' ⟨rfl, row2, st⟩
      rw [← ho] at row2
      exact ⟨rfl, did_stay hd st.grownBy rfl row2 (own.kept st.grownBy (Or.inr (fun e => (hg p e).2 rfl))) hg sp hd.ok⟩
    obtain ⟨k, rfl⟩ : ∃ k : Nat, z = (k : Int) := ⟨z.toNat, by omega⟩
    have hk : k ≤ d.b.length := by omega
    have hlk : (d.b.take k).length = k := by rw [List.length_take]; omega
    rcases spk_cases sp hd.ok.left with ⟨h0, rfl⟩ | ⟨h0, h1, sp2⟩ | ⟨h0, h1, h2, sp2⟩
    · have e : cut d k = ({ d with off := true }, 6) := by unfold cut; rw [if_neg (by rw [ho]; decide), if_neg (by omega), if_pos h0]
      rw [e] at ok ⊢
      refine (cut_none _ row hz hh).mono ?_
      rintro e w' ⟨rfl, row2, st⟩
      exact ⟨rfl, did_stay hd st.grownBy rfl row2 (own.kept st.grownBy (Or.inr (fun e => (hg p e).2 rfl))) hg sp ok⟩
    all_goals (
      have e : cut d k = ({ d with b := d.b.take k, safe := min d.safe k, left := spend d.left }, 0) := by unfold cut; rw [if_neg (by rw [ho]; decide), if_neg (by omega), if_neg (by omega), Int.toNat_natCast]
      rw [e] at ok ⊢
      obtain ⟨own2, hc⟩ := own_take own hk)
    · refine (cut_many k row hk hc h1).mono ?_
      rintro e w' ⟨rfl, row2, st⟩
      rw [← ho] at row2
      exact ⟨rfl, did_stay hd st.grownBy hlk row2 (own2.kept st.grownBy (Or.inr (fun e => (hg p (own_len e)).2 rfl))) (fun g e => hg g (own_len e)) sp2 ok⟩
    · refine (cut_one k row hk hc h1 h2).mono ?_
      rintro e w' ⟨rfl, row2, st⟩
      rw [← ho] at row2
      exact ⟨rfl, did_stay hd st.grownBy hlk row2 (own2.kept st.grownBy (Or.inr (fun e => (hg p (own_len e)).2 rfl))) (fun g e => hg g (own_len e)) sp2 ok⟩
theorem k_sparks (d : D) (base : Nat) (S : Nat → Prop) (p : Nat) (z : Int) (w : World) (hd : Dk w base S p d) (h1 : -9223372036854775808 ≤ z) (h2 : z ≤ 9223372036854775807) :
    Calls Try.prog 21 #[.pointer (some ⟨p, 0, none⟩), .int .i64 z] w fun e w' => e = .returned (.tuple #[]) ∧ Did w base S p (sparks d z) w' := by
  obtain ⟨A0, c0, s0, row, own, hg, sp⟩ := hd.raw rfl
  refine (sparks_raw z row).mono ?_
  rintro e w' ⟨rfl, row2, g, -⟩
  refine ⟨rfl, did_stay (d' := sparks d z) hd g rfl row2 (own.kept g (Or.inr (fun e => (hg p e).2 rfl))) hg ?_ (sparks_ok hd.ok h2)⟩
  show Spk (if z < 0 then -1 else z) z
  split
  · exact ⟨h1, h2, fun _ => by omega, fun h => by omega⟩
  · exact ⟨h1, h2, fun h => h, fun _ => rfl⟩
theorem k_crash (d : D) (base : Nat) (S : Nat → Prop) (p : Nat) (z : Int) (w : World) (hd : Dk w base S p d) (h2 : z ≤ 9223372036854775807) :
    Calls Try.prog 25 #[.pointer (some ⟨p, 0, none⟩), .int .i64 z] w fun e w' => e = .returned (.tuple #[]) ∧ Did w base S p (crash d z) w' := by
  obtain ⟨A0, c0, s0, row, own, hg, sp⟩ := hd.raw rfl
  have hs := hd.ok.safe
  have hl := hd.ok.len
  have hr := hd.ok.room
  have hk := (keepN_le hd.ok z).1
  obtain ⟨own2, hc⟩ := own_take own hk
  refine (crash_raw z (keepN d z) row hs hc (by omega) h2 (by unfold keepN; omega)).mono ?_
  rintro e w' ⟨rfl, row2, g, -⟩
  exact ⟨rfl, did_stay (d' := crash d z) hd g (by show (d.b.take (keepN d z)).length = _; rw [List.length_take]; omega) row2 (own2.kept g (Or.inr (fun e => (hg p (own_len e)).2 rfl))) (fun g e => hg g (own_len e))
    ⟨by decide, by decide, fun _ => by decide, fun h => absurd h (by show ¬ (0 : Int) ≤ -1; decide)⟩ (crash_ok hd.ok z)⟩
theorem diskK : DiskK where
  new := k_new
  bad := new_bad
  append := k_append
  sync := k_sync
  cut := fun d base S p z w hd _ _ => k_cut d base S p z w hd
  sparks := k_sparks
  crash := fun d base S p z w hd _ h2 => k_crash d base S p z w hd h2
  bytes := fun d base S p w hd => by
    obtain ⟨A0, c0, s0, row, own, hg, sp⟩ := hd.raw rfl
    have := hd.ok.len
    have := hd.ok.room
    exact bytes_raw d.b row (Sl.of_own own) (by omega)
  len := fun d base S p w hd => by
    obtain ⟨A0, c0, s0, row, own, hg, sp⟩ := hd.raw rfl
    refine (len_raw row).mono ?_
    rintro e w' ⟨rfl, rfl⟩
    exact ⟨rfl, Below.refl _ _⟩
  safe := fun d base S p w hd => by
    obtain ⟨A0, c0, s0, row, own, hg, sp⟩ := hd.raw rfl
    refine (safe_raw row).mono ?_
    rintro e w' ⟨rfl, rfl⟩
    exact ⟨rfl, Below.refl _ _⟩
  room := fun d base S p w hd => by
    obtain ⟨A0, c0, s0, row, own, hg, sp⟩ := hd.raw rfl
    refine (room_raw row).mono ?_
    rintro e w' ⟨rfl, rfl⟩
    exact ⟨rfl, Below.refl _ _⟩
  off := fun d base S p w hd => by
    obtain ⟨A0, c0, s0, row, own, hg, sp⟩ := hd.raw rfl
    refine (off_raw row).mono ?_
    rintro e w' ⟨rfl, rfl⟩
    exact ⟨by rw [Bool.true_and], Below.refl _ _⟩
end Go.Proofs.Ytljiehnpknbohaa.DkW
