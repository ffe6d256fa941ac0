/- The landed disk's Append: what there is while it goes on. -/
import Derived.Test.YtljiehnpknbohaaDkZ
import Derived.Test.YtljiehnpknbohaaDkR
import Derived.RegionTactic
set_option linter.unusedVariables false
set_option linter.unusedSimpArgs false
namespace Go.Proofs.Ytljiehnpknbohaa.DkW
open Go.RowKit Go.Proofs.Ytljiehnpknbohaa Go.Proofs.Ytljiehnpknbohaa.Dk
/-- The world as it was of the blocks below B alone: what is owned above B is owned behind it. -/
def cutW (w : World) (B : Nat) : World := { w with heap := w.heap.extract 0 B }
theorem cutW_size {w : World} {B : Nat} (h : B ≤ w.heap.size) : (cutW w B).heap.size = B := by simp [cutW]; omega
theorem Has.of_own {w : World} {B : Nat} {e : TypeId} {v : Value} {n : Nat} {xs : List Value} (hB : B ≤ w.heap.size) (h : w.ownsRow B e 1 v n xs) : Has (cutW w B) w e v n xs := by
  refine ⟨by rw [cutW_size hB]; exact h, rfl, rfl, rfl, by rw [cutW_size hB]; exact hB, fun k hk => ?_⟩
  rw [cutW_size hB] at hk
  show w.heap[k]? = (w.heap.extract 0 B)[k]?
  rw [Array.getElem?_extract]
  simp; omega
theorem Has.to_own {w w' : World} {B : Nat} {e : TypeId} {v : Value} {n : Nat} {xs : List Value} (hB : B ≤ w.heap.size) (h : Has (cutW w B) w' e v n xs) : w'.ownsRow B e 1 v n xs := by
  have := h.own
  rw [cutW_size hB] at this
  exact this
def Sx (S : Nat → Prop) (lo hi : Nat) : Nat → Prop := fun j => S j ∨ (lo < j ∧ j < hi)
theorem dk_of {w : World} {base : Nat} {S : Nat → Prop} {p : Nat} {d : D} {A : Option Addr} {n c : Nat} {s : Int} (hn : d.b.length = n) (row : Blk w p true (d.room : Nat) A n c (d.safe : Nat) s d.off) (own : w.ownsRow base 5 1 (.slice A n c) n (bs d.b))
    (hg : ∀ g, (Value.slice A n c).ownBlock = some g → S g ∧ g ≠ p) (sp : Spk d.left s) (ok : d.Ok) (me : S p) (lo : ∀ k, S k → base ≤ k) (hi : ∀ k, S k → k < w.heap.size) : Dk w base S p d := by
  subst hn
  exact ⟨me, lo, hi, ⟨A, c, s, row, own, hg, sp⟩, ok⟩
theorem Dk.raw {w : World} {base : Nat} {S : Nat → Prop} {p : Nat} {d : D} {n : Nat} (h : Dk w base S p d) (hn : d.b.length = n) : ∃ A c s, Blk w p true (d.room : Nat) A n c (d.safe : Nat) s d.off ∧ w.ownsRow base 5 1 (.slice A n c) n (bs d.b) ∧
    (∀ g, (Value.slice A n c).ownBlock = some g → S g ∧ g ≠ p) ∧ Spk d.left s := by
  subst hn
  obtain ⟨A, c, s, h1, h2, h3, h4⟩ := h.lay
  exact ⟨A, c, s, h1, h2, h3, h4⟩
theorem put_zero {d : D} (xs : List Nat) : put d xs 0 = d := by
  obtain ⟨r, s, l, b, o⟩ := d
  simp only [put, List.take_zero, List.append_nil]
  congr 1
  split <;> simp
theorem put_len {d : D} {xs : List Nat} {k m n : Nat} (hn : d.b.length = n) (hm : xs.length = m) (hk : k ≤ m) : (put d xs k).b.length = n + k := by
  show (d.b ++ xs.take k).length = n + k
  rw [List.length_append, List.length_take, hn]; omega
section
variable {S : Nat → Prop} {w w1 w2 : World}
theorem Stays.grownO (h : Stays S w w1) {row : Option Nat} (g : w1.grownBy w2 row) (hp : ∀ k, row = some k → S k ∨ w.heap.size ≤ k) : Stays S w w2 :=
  ⟨g.os.trans h.os, g.tape.trans h.tape, g.output.trans h.output, Nat.le_trans h.size g.size, fun k hk hn => (g.block k (Nat.lt_of_lt_of_le hk h.size) (fun e => by
    rcases hp k e.symm with hp | hp
    · exact hn hp
    · omega)).trans (h.rows k hk hn)⟩
end
theorem did_end {w wr w9 : World} {base : Nat} {S : Nat → Prop} {p : Nat} {d d' : D} {A : Option Addr} {n c : Nat} {s : Int} (hn : d'.b.length = n) (row : Blk w9 p true (d'.room : Nat) A n c (d'.safe : Nat) s d'.off) (own : w9.ownsRow base 5 1 (.slice A n c) n (bs d'.b))
    (hg : ∀ g, (Value.slice A n c).ownBlock = some g → Sx S w.heap.size wr.heap.size g ∧ g ≠ p) (sp : Spk d'.left s) (ok : d'.Ok) (hz : wr.heap.size ≤ w9.heap.size) (st : Stays S w w9) (hd : Dk w base S p d) : Did w base S p d' w9 := by
  have hpw := hd.hi p hd.me
  have hbp := hd.lo p hd.me
  have hs := st.size
  refine ⟨Sx S w.heap.size wr.heap.size, dk_of hn row own hg sp ok (Or.inl hd.me) (fun j h => ?_) (fun j h => ?_), st, fun j h => h.imp id (fun h => Nat.le_of_lt h.1)⟩
  · rcases h with h | h
    · exact hd.lo j h
    · omega
  · rcases h with h | h
    · have := hd.hi j h; omega
    · omega
theorem append_nil (X : Option Addr) (m cx : Nat) {w : World} : Calls Try.prog 22 #[.pointer none, .slice X m cx] w fun e w' => e = .returned (.int .i64 1) ∧ Below w.heap.size w w' := by
  have hmf : ∀ (fn : Fn) (first cap : Array Value) (w : World), (Instr.makeFunc fn first cap).run Try.prog w = .ok (.func fn first cap) w := fun _ _ _ _ => rfl
  go_enter_defers Try.func22, Try.ntmps22
  go_wp2_with fail
  refine (ready_nil _).mono ?_
  rintro e w1 ⟨rfl, rfl⟩
  go_wp2_with fail
  have HQ := Lib.hid (Res.new w 1)
  refine leaves_cons (f := 33) (args := #[.pointer (some ⟨w.heap.size, 0, none⟩)]) (by simp) (by simp [go_sem]) ?_
  refine (append_idle w.heap.size 1  _ HQ.out.cell.1 HQ.out.cell.2).mono ?_
  rintro e u' w9 ⟨rfl, rfl, e9⟩
  have c9 : w9.cell? ⟨w.heap.size, 0, none⟩ = some (.int .i64 1) := by rw [e9]; exact (HQ.out.set 1).cell.1
  have HB : Below w.heap.size w w9 := by rw [e9]; exact (((Below.refl _ w).new _).setCell (Nat.le_refl _) _).drew
  clear e9
  simp [Leaves, settle, results, Try.results22, go_sem, c9]
  exact HB
theorem append_zero (X : Option Addr) (m cx : Nat) {p : Nat} {r : Int} {A : Option Addr} {n c : Nat} {sf sp : Int} {o : Bool} {w : World} (h : Blk w p false r A n c sf sp o) : Calls Try.prog 22 #[.pointer (some ⟨p, 0, none⟩), .slice X m cx] w fun e w' => e = .returned (.int .i64 1) ∧ Below w.heap.size w w' := by
  have hmf : ∀ (fn : Fn) (first cap : Array Value) (w : World), (Instr.makeFunc fn first cap).run Try.prog w = .ok (.func fn first cap) w := fun _ _ _ _ => rfl
  have H1 := Lib.hid (row_alloc h (.cells #[.int .i64 0] 24))
  clear h
  go_enter_defers Try.func22, Try.ntmps22
  go_wp2_with fail
  refine (ready_raw H1.out).mono ?_
  rintro e w1 ⟨rfl, rfl⟩
  go_wp2_with fail
  have HQ := Lib.hid (Res.new w 1)
  refine leaves_cons (f := 33) (args := #[.pointer (some ⟨w.heap.size, 0, none⟩)]) (by simp) (by simp [go_sem]) ?_
  refine (append_idle w.heap.size 1  _ HQ.out.cell.1 HQ.out.cell.2).mono ?_
  rintro e u' w9 ⟨rfl, rfl, e9⟩
  have c9 : w9.cell? ⟨w.heap.size, 0, none⟩ = some (.int .i64 1) := by rw [e9]; exact (HQ.out.set 1).cell.1
  have HB : Below w.heap.size w w9 := by rw [e9]; exact (((Below.refl _ w).new _).setCell (Nat.le_refl _) _).drew
  clear e9
  simp [Leaves, settle, results, Try.results22, go_sem, c9]
  exact HB
theorem append_off (X : Option Addr) (m cx : Nat) {p : Nat} {r : Int} {A : Option Addr} {n c : Nat} {sf : Int} {sp : Int} {w : World} (h : Blk w p true r A n c sf sp true) :
    Calls Try.prog 22 #[.pointer (some ⟨p, 0, none⟩), .slice X m cx] w fun e w' => e = .returned (.int .i64 6) ∧ Blk w' p true r A n c sf sp true ∧ Stays (fun k => k = p) w w' := by
  have hmf : ∀ (fn : Fn) (first cap : Array Value) (w : World), (Instr.makeFunc fn first cap).run Try.prog w = .ok (.func fn first cap) w := fun _ _ _ _ => rfl
  have hne : p ≠ w.heap.size := Nat.ne_of_lt (row_lt h)
  have hnq : w.heap.size ≠ p := fun e => hne e.symm
  have H1 := Lib.hid (row_alloc h (.cells #[.int .i64 0] 24))
  have HO := Lib.hid h
  clear h
  go_enter_defers Try.func22, Try.ntmps22
  go_wp2_with fail
  refine (ready_raw H1.out).mono ?_
  rintro e w1 ⟨rfl, rfl⟩
  go_wp2_with fail
  have HQ := Lib.hid (Res.new w 6)
  refine leaves_cons (f := 33) (args := #[.pointer (some ⟨w.heap.size, 0, none⟩)]) (by simp) (by simp [go_sem]) ?_
  refine (append_idle w.heap.size 6  _ HQ.out.cell.1 HQ.out.cell.2).mono ?_
  rintro e u' w9 ⟨rfl, rfl, e9⟩
  have c9 : w9.cell? ⟨w.heap.size, 0, none⟩ = some (.int .i64 6) := by rw [e9]; exact (HQ.out.set 6).cell.1
  have HB : Blk w9 p true r A n c sf sp true := by rw [e9]; exact Blk.other (row_alloc HO.out _) (grown_drew (grown_cell _ _ _ _)) hne
  have HS : Stays (fun k => k = p) w w9 := by rw [e9]; exact (((Stays.refl (fun k => k = p) w).alloc _).cell _ (Or.inr (Nat.le_refl _))).drew
  clear e9
  simp [Leaves, settle, results, Try.results22, go_sem, c9]
  exact ⟨HB, HS⟩
theorem append_full (X : Option Addr) (m cx : Nat) {p : Nat} {r : Nat} {A : Option Addr} {n c : Nat} {sf : Int} {sp : Int} {w : World} (h : Blk w p true (r : Nat) A n c sf sp false) (hn : n ≤ r) (hr : r ≤ 262144) (hf : r < n + m) :
    Calls Try.prog 22 #[.pointer (some ⟨p, 0, none⟩), .slice X m cx] w fun e w' => e = .returned (.int .i64 5) ∧ Blk w' p true (r : Nat) A n c sf sp false ∧ Stays (fun k => k = p) w w' := by
  have hmf : ∀ (fn : Fn) (first cap : Array Value) (w : World), (Instr.makeFunc fn first cap).run Try.prog w = .ok (.func fn first cap) w := fun _ _ _ _ => rfl
  have hne : p ≠ w.heap.size := Nat.ne_of_lt (row_lt h)
  have hnq : w.heap.size ≠ p := fun e => hne e.symm
  have H1 := Lib.hid (row_alloc h (.cells #[.int .i64 0] 24))
  have HO := Lib.hid h
  clear h
  obtain ⟨_, c1, c2, _, _, _⟩ := row6 H1.out
  have hw : IntKind.i64.wrap ((r : Int) - (n : Int)) = ((r - n : Nat) : Int) := by rw [IntKind.wrap_i64]; omega
  have hlt : decide (r - n < m) = true := decide_eq_true (by omega)
  obtain ⟨N, hN⟩ : ∃ N, N = r - n := ⟨_, rfl⟩
  rw [← hN] at hw hlt
  clear hN hn hr hf
  go_enter_defers Try.func22, Try.ntmps22
  go_wp2_with fail
  obtain ⟨w0, e0⟩ : ∃ w0, w0 = w.alloc (.cells #[.int .i64 0] 24) := ⟨_, rfl⟩
  rw [← e0] at H1 c1 c2 ⊢
  have E0 := Lib.hid e0
  clear e0
  refine (ready_raw H1.out).mono ?_
  rintro e w1 ⟨rfl, rfl⟩
  obtain ⟨f0, fz⟩ := Res.cell (show Res w1.drew w.heap.size 0 from by rw [E0.out]; exact Res.new w 0)
  go_wp2_with fail
  go_still (by kernel_rfl)
  change Exit.then _ _ _ _ w1.drew
  go_wp2_with fail
  have HQ := Lib.hid (show Res (w1.drew.setCell ⟨w.heap.size, 0, none⟩ (.int .i64 5)) w.heap.size 5 from by rw [E0.out]; exact Res.set (w := (w.alloc (.cells #[.int .i64 0] 24)).drew) (Res.new w 0) 5)
  refine leaves_cons (f := 33) (args := #[.pointer (some ⟨w.heap.size, 0, none⟩)]) (by simp) (by simp [go_sem]) ?_
  refine (append_idle w.heap.size 5  _ HQ.out.cell.1 HQ.out.cell.2).mono ?_
  rintro e u' w9 ⟨rfl, rfl, e9⟩
  have c9 : w9.cell? ⟨w.heap.size, 0, none⟩ = some (.int .i64 5) := by rw [e9]; exact (HQ.out.set 5).cell.1
  have HB : Blk w9 p true (r : Nat) A n c sf sp false := by rw [e9]; exact Blk.other (Blk.other (w := w1.drew) H1.out (grown_cell _ _ _ _) hne) (grown_drew (grown_cell _ _ _ _)) hne
  have HS : Stays (fun k => k = p) w w9 := by rw [e9]; exact (((show Stays (fun k => k = p) w w1.drew from by rw [E0.out]; exact ((Stays.refl (fun k => k = p) w).alloc _).drew).cell _ (Or.inr (Nat.le_refl _))).cell _ (Or.inr (Nat.le_refl _))).drew
  clear e9
  simp [Leaves, settle, results, Try.results22, go_sem, c9]
  exact ⟨HB, HS⟩
set_option maxHeartbeats 2000000 in
theorem append_goes (d : D) (base : Nat) (S : Nat → Prop) (p : Nat) (X : Option Addr) (m cx : Nat) (xs : List Nat) (w : World) (hd : Dk w base S p d) (hx : Sl w w.heap.size X m (bs xs)) (ha : Away S X m) (hb : Bytes xs) (hm : m ≤ 100000)
    (hoff : d.off = false) (hroom : ¬ d.room < d.b.length + m) :
    Calls Try.prog 22 #[.pointer (some ⟨p, 0, none⟩), .slice X m cx] w fun e w' => e = .returned (.int .i64 (append d xs).2) ∧ Did w base S p (append d xs).1 w' := by
  have hmf : ∀ (fn : Fn) (first cap : Array Value) (w : World), (Instr.makeFunc fn first cap).run Try.prog w = .ok (.func fn first cap) w := fun _ _ _ _ => rfl
  have hxm : xs.length = m := by simpa using hx.len
  obtain ⟨n, hn⟩ : ∃ n, d.b.length = n := ⟨_, rfl⟩
  rw [hn] at hroom
  have E : append d xs = if 0 ≤ d.left ∧ d.left < m then ({ put d xs d.left.toNat with left := 0, off := true }, 6) else (put d xs m, 0) := by
    unfold append
    rw [if_neg (by rw [hoff]; decide), if_neg (by rw [hxm, hn]; exact hroom), hxm]
  obtain ⟨⟨d2, x2⟩, hR⟩ : ∃ R, R = append d xs := ⟨_, rfl⟩
  rw [← hR] at E ⊢
  have HR := Lib.hid E
  have HOK := Lib.hid (show d2.Ok from by have := append_ok hd.ok hb; rw [← hR] at this; exact this)
  dsimp only
  clear E hR
  obtain ⟨r, hr⟩ : ∃ r, d.room = r := ⟨_, rfl⟩
  have hrm := hd.ok.room
  have hnr := hd.ok.len
  rw [hr] at hrm hroom hnr
  rw [hn] at hnr
  obtain ⟨A, c, s, row, own, hg, spk⟩ := hd.raw hn
  rw [hoff, hr] at row
  have hne : p ≠ w.heap.size := Nat.ne_of_lt (row_lt row)
  have hnq : w.heap.size ≠ p := fun e => hne e.symm
  have hpw := row_lt row
  have hbw : base ≤ w.heap.size := Nat.le_trans (hd.lo p hd.me) (Nat.le_of_lt hpw)
  have H1 := Lib.hid (row_alloc row (.cells #[.int .i64 0] 24))
  obtain ⟨_, c1, c2, _, _, _⟩ := row6 H1.out
  have hw : IntKind.i64.wrap ((r : Int) - (n : Int)) = ((r - n : Nat) : Int) := by rw [IntKind.wrap_i64]; omega
  have hlt : decide (r - n < m) = false := decide_eq_false (by omega)
  obtain ⟨N, hN⟩ : ∃ N, N = r - n := ⟨_, rfl⟩
  rw [← hN] at hw hlt
  have HD := Lib.hid hd
  have HX := Lib.hid hx
  have HA := Lib.hid ha
  have HB := Lib.hid hb
  have HXM := Lib.hid hxm
  have HN := Lib.hid hn
  have HRM := Lib.hid hr
  have HOF := Lib.hid hoff
  clear row own hg spk hd hx ha hb hxm hn hr hoff hN
  go_enter_defers Try.func22, Try.ntmps22
  go_wp2_with fail
  obtain ⟨w0, e0⟩ : ∃ w0, w0 = w.alloc (.cells #[.int .i64 0] 24) := ⟨_, rfl⟩
  rw [← e0] at H1 c1 c2 ⊢
  have E0 := Lib.hid e0
  clear e0
  refine (ready_raw H1.out).mono ?_
  rintro e w1 ⟨rfl, rfl⟩
  obtain ⟨f0, fz⟩ := Res.cell (show Res w1.drew w.heap.size 0 from by rw [E0.out]; exact Res.new w 0)
  go_wp2_with fail
  go_still (by kernel_rfl)
  change Exit.then _ _ _ _ w1.drew
  go_wp2_with fail
  obtain ⟨W1, hW1⟩ : ∃ W1, W1 = w1.drew := ⟨_, rfl⟩
  rw [← hW1]
  rw [E0.out] at hW1
  have q1 : Res W1 w.heap.size 0 := by rw [hW1]; exact Res.new w 0
  have st1 : Stays S w W1 := by rw [hW1]; exact ((Stays.refl S w).alloc _).drew
  have z1 : W1.heap.size = w.heap.size + 1 := by rw [hW1]; show (w.alloc _).heap.size = _; simp
  have d1 : Dk W1 base (Sx S w.heap.size W1.heap.size) p (put d xs 0) := by
    rw [put_zero]
    obtain ⟨A, c, s, row, own, hg, spk⟩ := HD.out.raw HN.out
    have b1 : Below w.heap.size w W1 := by rw [hW1]; exact ((Below.refl _ w).new _).drew
    refine dk_of HN.out (b1.row hpw row) (own.kept (row := none) ⟨b1.os, b1.tape, b1.output, b1.size, fun k hk _ => b1.block k hk⟩ ?_) (fun g h => ⟨Or.inl (hg g h).1, (hg g h).2⟩) spk HD.out.ok (Or.inl HD.out.me) (fun k hk => ?_) (fun k hk => ?_)
    · cases hv : (Value.slice A n c).ownBlock with
      | none => exact .inl rfl
      | some b => exact .inr (by simp)
    · rcases hk with hk | hk
      · exact HD.out.lo k hk
      · omega
    · rcases hk with hk | hk
      · have := HD.out.hi k hk; omega
      · exact hk.2
  clear hW1 c1 c2 f0 fz H1 E0
  clear hmf
  go_loopw [29] (fun i wr => ∃ k : Nat, k ≤ m ∧ i = .int .i64 k ∧ (0 ≤ d.left → (k : Int) ≤ d.left) ∧ Dk wr base (Sx S w.heap.size wr.heap.size) p (put d xs k) ∧ Res wr w.heap.size 0 ∧ Stays S w wr) (fun i _ => m - (intOf i).toNat)
  case atStart => exact ⟨0, by omega, rfl, fun h => by omega, d1, q1, st1⟩
  case round =>
    obtain ⟨k, hk, rfl, hkl, DK, q, st⟩ := hrel
    clear d1 q1 st1 z1
    by_cases hlt2 : k < m
    · obtain ⟨A2, c2, s2, row, own, hg, spk⟩ := DK.raw (put_len HN.out HXM.out hk)
      have row : Blk wr p true (r : Nat) A2 (n + k) c2 (d.safe : Nat) s2 false := by
        rw [show (put d xs k).off = false from HOF.out, show (put d xs k).room = r from HRM.out] at row
        exact row
      have SX := Sl.stays HX.out st HA.out
      obtain ⟨xb, xo, rfl, hxb, hxc⟩ := SX.2 (by omega)
      have hcj := (hxc k hlt2).trans (bs_get (l := xs) (j := k) (by rw [HXM.out]; exact hlt2))
      have HT := Lib.hid (take_snoc (l := xs) (k := k) (by rw [HXM.out]; exact hlt2))
      obtain ⟨x, ex⟩ : ∃ x, x = xs[k]?.getD 0 := ⟨_, rfl⟩
      rw [← ex] at HT hcj
      have hlt' : (k : Int) < (m : Int) := by omega
      have z0 : (0 : Int) ≤ (k : Int) := by omega
      have hgp : (Value.slice A2 (n + k) c2).ownBlock ≠ some p := fun e => (hg p e).2 rfl
      have hgq : (Value.slice A2 (n + k) c2).ownBlock ≠ some w.heap.size := fun e => by
        rcases (hg _ e).1 with h | h
        · have := HD.out.hi _ h; omega
        · omega
      have hbr : base ≤ wr.heap.size := Nat.le_trans hbw st.size
      have HG := Lib.hid hg
      have HROW := Lib.hid row
      have HOWN := Lib.hid own
      have HSP := Lib.hid spk
      have HDK := Lib.hid DK
      have HQ0 := Lib.hid q
      have HST := Lib.hid st
      clear ex hxc SX hg row own spk DK q st
      by_cases hs0 : s2 = 0
      · subst hs0
        have hlk : d.left = (k : Int) := by
          obtain ⟨_, _, h1, h2⟩ := HSP.out
          have e : (put d xs k).left = if 0 ≤ d.left then d.left - (k : Int) else d.left := rfl
          rw [e] at h1 h2
          split at h2 <;> rename_i h9
          · rw [if_pos h9] at h1; omega
          · rw [if_neg h9] at h1; omega
        obtain ⟨rfl, rfl⟩ : d2 = { put d xs k with left := 0, off := true } ∧ x2 = 6 := by
          have := HR.out
          rw [if_pos (by omega), hlk, Int.toNat_natCast] at this
          injection this with h1 h2
          exact ⟨h1, h2⟩
        have HKL := Lib.hid hlk
        clear hlk HR hkl
        go_wp2_with fail
        refine (spark_none HROW.out).mono ?_
        rintro e w2 ⟨rfl, B2, g2, z2⟩
        have HQ := Lib.hid (show Res w2 w.heap.size 0 from g2.row hnq HQ0.out)
        have HB2 := Lib.hid B2
        have HG2 := Lib.hid g2
        clear B2 g2
        go_wp2_with fail
        refine leaves_cons (f := 33) (args := #[.pointer (some ⟨w.heap.size, 0, none⟩)]) (by simp) (by simp [go_sem]) ?_
        refine (append_bad w.heap.size 0 [] _ HQ.out.cell.1 HQ.out.cell.2).mono ?_
        rintro e u' w9 ⟨rfl, rfl, e9⟩
        have c9 : w9.cell? ⟨w.heap.size, 0, none⟩ = some (.int .i64 6) := by rw [e9]; exact (HQ.out.set 6).cell.1
        have HD9 : Did w base S p { put d xs k with left := 0, off := true } w9 := by rw [e9]; exact did_end (wr := wr) (n := n + k) (A := A2) (c := c2) (s := 0) (put_len HN.out HXM.out hk) (by show Blk _ p true ((d.room : Nat) : Int) A2 (n + k) c2 ((d.safe : Nat) : Int) 0 true; rw [HRM.out]; exact Blk.other HB2.out (grown_drew (grown_cell _ _ _ _)) hne) ((HOWN.out.kept HG2.out (Or.inr hgp)).kept (grown_drew (grown_cell _ _ _ _)) (Or.inr hgq)) HG.out ⟨by omega, by omega, fun h => absurd h (by show ¬ (0 : Int) < 0; decide), fun _ => rfl⟩ HOK.out (Nat.le_of_eq ((size_cell w2 _ _).trans z2).symm) ((HST.out.grown HG2.out (Or.inl HD.out.me)).cell _ (Or.inr (Nat.le_refl _))).drew HD.out
        clear e9
        simp [Leaves, settle, results, Try.results22, go_sem, c9]
        exact HD9
      · have KS : Calls Try.prog 36 #[.pointer (some ⟨p, 0, none⟩)] wr fun e w' => ∃ s3, e = .returned (.tuple #[]) ∧ Blk w' p true (r : Nat) A2 (n + k) c2 (d.safe : Nat) s3 false ∧ wr.grownBy w' (some p) ∧ w'.heap.size = wr.heap.size ∧ Spk (put d xs (k + 1)).left s3 ∧ (0 ≤ d.left → ((k + 1 : Nat) : Int) ≤ d.left) := by
          obtain ⟨a1, a2, h1, h2⟩ := HSP.out
          have e : (put d xs k).left = if 0 ≤ d.left then d.left - (k : Int) else d.left := rfl
          have e2 : (put d xs (k + 1)).left = if 0 ≤ d.left then d.left - ((k + 1 : Nat) : Int) else d.left := rfl
          rw [e] at h1 h2
          rw [e2]
          by_cases hs : s2 < 0
          · refine (spark_many HROW.out hs).mono ?_
            rintro e w' ⟨rfl, rfl⟩
            refine ⟨s2, rfl, HROW.out, ⟨rfl, rfl, rfl, Nat.le_refl _, fun _ _ _ => rfl⟩, rfl, ?_, ?_⟩
            · split at h2 <;> rename_i h9
              · rw [if_pos h9] at h1; have := hkl h9; omega
              · rw [if_neg h9]; exact ⟨a1, a2, fun _ => hs, fun h => absurd h h9⟩
            · intro h9; rw [if_pos h9] at h2; have := hkl h9; omega
          · refine (spark_one HROW.out (by omega) a2).mono ?_
            rintro e w' ⟨rfl, B2, g2, z2⟩
            have h9 : 0 ≤ d.left := by
              apply Classical.byContradiction
              intro h9
              rw [if_neg h9] at h1
              omega
            rw [if_pos h9] at h2
            have := hkl h9
            rw [if_pos h9]
            exact ⟨s2 - 1, rfl, B2, g2, z2, ⟨by omega, by omega, fun h => by omega, fun h => by omega⟩, fun _ => by omega⟩
        have HKS := Lib.hid KS
        clear KS HSP HR hs0 hkl
        go_wp2_with fail
        refine HKS.out.mono ?_
        rintro e w2 ⟨s3, rfl, B2, g2, z2, sp3, hkl3⟩
        have own2 : w2.ownsRow base 5 1 (.slice A2 (n + k) c2) (n + k) (bs (put d xs k).b) := HOWN.out.kept g2 (Or.inr hgp)
        have hb2 : base ≤ w2.heap.size := by rw [z2]; exact hbr
        have H2 := Has.of_own hb2 own2
        have HQ := Lib.hid (show Res w2 w.heap.size 0 from g2.row hnq HQ0.out)
        have HST2 := Lib.hid (HST.out.grown g2 (Or.inl HD.out.me))
        have HSP3 := Lib.hid sp3
        have HKL3 := Lib.hid hkl3
        have R2 := row_alloc B2 (.cells #[.int .u8 (x : Nat)] 5)
        obtain ⟨_, _, b2, _, _, _⟩ := row6 B2
        obtain ⟨_, _, b2', _, _, _⟩ := row6 R2
        have R2 := Lib.hid R2
        have Z2 := Lib.hid z2
        clear z2 own2 B2 g2 sp3 hkl3 HKS
        go_wp2_with (first
          | (at_builtin; refine wpList_app _root_.Go.Proofs.Ytljiehnpknbohaa.DkW.u8 rfl (.tmp 39) (.tmp 41) rfl (H2.alloc _) rfl (Sl.new1 _ _ _) rfl (one1 _ _) (by omega) (by simp only [maxLen]; omega) ?_; intro v5 w5 H5 g5 o5; obtain ⟨A5, c5, rfl, -, -, -⟩ := H5.slice; have r5 := (g5.block p (row_lt R2.out) (fun e => hgp e.symm)).trans R2.out; obtain ⟨_, _, a2, _, _, _⟩ := row6 r5; obtain ⟨_, _, f2, _, _, _⟩ := free6 r5; have R5 := Lib.hid r5; clear r5)
          | fail)
        go_roundw
        case rel =>
          have own5 := Has.to_own hb2 H5
          have e : bs (put d xs k).b ++ [Value.int .u8 (x : Int)] = bs (put d xs (k + 1)).b := by
            show bs (d.b ++ xs.take k) ++ [Value.int .u8 (x : Int)] = bs (d.b ++ xs.take (k + 1))
            rw [HT.out, ← List.append_assoc, ← bs_append (d.b ++ xs.take k)]
            rfl
          rw [e] at own5
          have z6 : (w5.setCell ⟨p, 2, none⟩ (.slice A5 (n + k + 1) c5)).heap.size = w5.heap.size := size_cell _ _ _
          have za : (w2.alloc (.cells #[.int .u8 (x : Nat)] 5)).heap.size = w2.heap.size + 1 := by simp
          have z5 : w2.heap.size + 1 ≤ w5.heap.size := by have := g5.size; rw [za] at this; exact this
          have hw5 := HST.out.size
          have z2 := Z2.out
          have hg5 : ∀ g, (Value.slice A5 (n + k + 1) c5).ownBlock = some g → Sx S w.heap.size w5.heap.size g ∧ g ≠ p := fun g h => by
            have hlt5 := (own5.lt g h).2
            rcases o5 with o5 | o5
            · rw [o5] at h
              obtain ⟨h1, h2⟩ := HG.out g h
              exact ⟨h1.imp id (fun h => ⟨h.1, hlt5⟩), h2⟩
            · rw [o5] at h
              injection h with h
              rw [za] at h
              exact ⟨Or.inr ⟨by omega, hlt5⟩, by omega⟩
          have hq5 := (g5.block w.heap.size (row_lt (row_alloc HQ.out _)) (fun e => hgq e.symm)).trans (row_alloc HQ.out (.cells #[.int .u8 (x : Nat)] 5))
          refine ⟨k + 1, by omega, by go_num, HKL3.out, ?_, (grown_cell w5 p 2 _).row hnq hq5, ((HST2.out.alloc _).grownO g5 (fun j h => ?_)).cell _ (Or.inl HD.out.me)⟩
          · rw [z6]
            refine dk_of (n := n + k + 1) (A := A5) (c := c5) (s := s3) (put_len HN.out HXM.out (by omega)) ?_ (own5.kept (grown_cell w5 p 2 _) (Or.inr (fun e => (hg5 p e).2 rfl))) hg5 HSP3.out (put_ok HD.out.ok HB.out (by rw [HN.out, HXM.out, HRM.out]; omega) HKL3.out) (Or.inl HD.out.me) (fun j h => ?_) (fun j h => ?_)
            · show Blk _ p true ((d.room : Nat) : Int) A5 (n + k + 1) c5 ((d.safe : Nat) : Int) s3 d.off
              rw [HRM.out, HOF.out]
              exact heap_setCell_same w5 p 2 _ _ _ R5.out
            · rcases h with h | h
              · exact HD.out.lo j h
              · omega
            · rw [z6]
              rcases h with h | h
              · have := HD.out.hi j h; omega
              · exact h.2
          · rcases (HG.out j h).1 with h | h
            · exact Or.inl h
            · exact Or.inr (Nat.le_of_lt h.1)
        case measure => simp [intOf]; omega
    · obtain rfl : k = m := by omega
      obtain ⟨rfl, rfl⟩ : d2 = put d xs k ∧ x2 = 0 := by
        have := HR.out
        rw [if_neg (by omega)] at this
        injection this with h1 h2
        exact ⟨h1, h2⟩
      have hqS : ∀ j, some w.heap.size = some j → ¬ Sx S w.heap.size wr.heap.size j := fun j e h => by
        injection e with e
        subst e
        rcases h with h | h
        · have := HD.out.hi _ h; omega
        · omega
      have HDK := Lib.hid DK
      have HQ := Lib.hid q
      have HST := Lib.hid st
      have HQS := Lib.hid hqS
      obtain ⟨f0, fz⟩ := q.cell
      have hlt' : ¬ (k : Int) < (k : Int) := by omega
      clear DK q st hqS HR hkl
      go_wp2_with fail
      refine leaves_cons (f := 33) (args := #[.pointer (some ⟨w.heap.size, 0, none⟩)]) (by simp) (by simp [go_sem]) ?_
      refine (append_idle w.heap.size 0  _ (HQ.out.set 0).cell.1 (HQ.out.set 0).cell.2).mono ?_
      rintro e u' w9 ⟨rfl, rfl, e9⟩
      have c9 : w9.cell? ⟨w.heap.size, 0, none⟩ = some (.int .i64 0) := by rw [e9]; exact ((HQ.out.set 0).set 0).cell.1
      have HD9 : Did w base S p (put d xs k) w9 := by rw [e9]; exact ⟨Sx S w.heap.size wr.heap.size, (HDK.out.other (grown_cell wr w.heap.size 0 _) HQS.out).other (grown_drew (grown_cell _ _ _ _)) HQS.out, ((HST.out.cell _ (Or.inr (Nat.le_refl _))).cell _ (Or.inr (Nat.le_refl _))).drew, fun j h => h.imp id (fun h => Nat.le_of_lt h.1)⟩
      clear e9
      simp [Leaves, settle, results, Try.results22, go_sem, c9]
      exact HD9
end Go.Proofs.Ytljiehnpknbohaa.DkW
