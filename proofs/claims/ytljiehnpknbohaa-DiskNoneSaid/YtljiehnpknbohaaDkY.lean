/- What is deferred: the closures that recover, over a region that draws its order. -/
import Derived.Test.YtljiehnpknbohaaDkX2
import Derived.Defers
import Derived.Recover
import Derived.KernelRfl
set_option linter.unusedVariables false
set_option linter.unusedSimpArgs false
namespace Go.Proofs.Ytljiehnpknbohaa.DkW
open Go.RowKit Go.Proofs.Ytljiehnpknbohaa Go.Proofs.Ytljiehnpknbohaa.Dk
theorem after_bad (x : Int) (w : World) : Calls Try.prog 34 #[.iface 62 (.agg #[]), .int .i64 x] w fun e w' => e = .returned (.int .i64 6) ∧ w' = w := by
  have q : ∀ w : World, (binOp .eql 20 (.iface 62 (.agg #[])) (.iface 62 (.agg #[]))).run Try.prog w = .ok (.bool true) w := fun w => by kernel_rfl
  go_enter Try.func34, Try.ntmps34
  go_wp2
  go_ret
  exact ⟨rfl, rfl⟩
theorem after_none (x : Int) (w : World) : Calls Try.prog 34 #[.nilIface, .int .i64 x] w fun e w' => e = .returned (.int .i64 x) ∧ w' = w := by
  have q : ∀ w : World, (binOp .eql 20 .nilIface (.iface 62 (.agg #[]))).run Try.prog w = .ok (.bool false) w := fun w => by kernel_rfl
  go_enter Try.func34, Try.ntmps34
  go_wp2
  go_ret
  exact ⟨rfl, rfl⟩
section
variable {P : Program}
/-- All orders that a region may be run in. -/
def ords (md : Region.Mode) (ops : Array Oper) : Nat → Array Bool → List (List Nat)
  | 0, _ => [[]]
  | fuel + 1, listed =>
    match Region.ready md ops listed with
    | [] => [[]]
    | i :: is => (i :: is).flatMap fun j => (ords md ops fuel (listed.setIfInBounds j true)).map (j :: ·)
theorem mem_ords (md : Region.Mode) (ops : Array Oper) : ∀ (fuel t : Nat) (listed : Array Bool), Region.linearise.go md ops fuel t listed [] ∈ ords md ops fuel listed := by
  intro fuel
  induction fuel with
  | zero => intro t listed; simp [Region.linearise.go, ords]
  | succ fuel ih =>
    intro t listed
    simp only [Region.linearise.go, ords]
    change (match (Region.ready md ops listed)[t % (Region.ready md ops listed).length]? with
      | some i => Region.linearise.go md ops fuel (t / (Region.ready md ops listed).length) (listed.setIfInBounds i true) [i]
      | none => [].reverse) ∈ _
    generalize hr : Region.ready md ops listed = rs
    cases rs with
    | nil => simp
    | cons x xs =>
      have hlt : t % (x :: xs).length < (x :: xs).length := Nat.mod_lt _ (by simp)
      rw [List.getElem?_eq_getElem hlt]
      simp only []
      rw [linearise_go_acc, List.reverse_singleton, List.singleton_append]
      exact List.mem_flatMap.2 ⟨_, List.getElem_mem hlt, List.mem_map.2 ⟨_, ih _ _, rfl⟩⟩
theorem wpS_region_draw {Q : Exit → Act → List Frame → World → Prop} {id : Nat} {ops : Array Oper} {a : Act} {cs : List Frame} {w : World} (hm : P.follows .mixedOrders = true) (L : List (List Nat))
    (hL : ords .any ops ops.size (Array.replicate ops.size false) = L) (h : ∀ l ∈ L, wpOpsS P ops Q l a cs w.drew) : (Code.region id ops true).wpS P Q a cs w :=
  fun b k hb hr => by
    have hs : ∀ t, wpOpsS P ops Q (Region.schedule (P.follows .mixedOrders) ops t) a cs w.drew := fun t => by
      refine h _ ?_
      rw [← hL]
      simp only [Region.schedule, hm, Bool.true_or, if_true]
      exact mem_ords _ _ _ _ _
    obtain ⟨e, a', cs', w', q, r⟩ := wp_opsS _ a cs _ (hs _) b k hb hr
    exact ⟨e, a', cs', w', q, .of_steps (.one step_region_draw) r⟩
end
theorem append_bad (p : Nat) (x : Int) (older : List PanicEntry) (w : World) (hc : w.cell? ⟨p, 0, none⟩ = some (.int .i64 x)) (hz : w.frozen? ⟨p, 0, none⟩ = false) :
    CallsD Try.prog 33 #[.pointer (some ⟨p, 0, none⟩)] (.panicking (Bad :: older)) w fun e u' w' =>
      e = .returned (.tuple #[]) ∧ u' = .panicking ({ v := .iface 62 (.agg #[]), recovered := true } :: older) ∧ w' = (w.setCell ⟨p, 0, none⟩ (.int .i64 6)).drew := by
  refine callsD_of_wpS Try.func33 rfl fun c₀ cs hu => ?_
  have hc' : w.drew.cell? ⟨p, 0, none⟩ = some (.int .i64 x) := hc
  have hz' : w.drew.frozen? ⟨p, 0, none⟩ = false := hz
  apply wpS_region_draw (by kernel_rfl) [[0, 1, 2, 3], [1, 0, 2, 3]] (by kernel_rfl)
  intro l hl
  simp only [List.mem_cons, List.not_mem_nil, or_false] at hl
  rcases hl with rfl | rfl
  all_goals (
    simp [wpOpsS, go_sem, recoverD, hu, Bad, Try.ntmps33, hc', hz', Exit.thenS]
    refine (after_bad x _).mono ?_
    rintro e w1 ⟨rfl, rfl⟩
    simp [wpOpsS, go_sem, hc', hz', bodyPostS, results, Try.results33])
theorem append_idle (p : Nat) (x : Int) (w : World) (hc : w.cell? ⟨p, 0, none⟩ = some (.int .i64 x)) (hz : w.frozen? ⟨p, 0, none⟩ = false) :
    CallsD Try.prog 33 #[.pointer (some ⟨p, 0, none⟩)] .returning w fun e u' w' =>
      e = .returned (.tuple #[]) ∧ u' = .returning ∧ w' = (w.setCell ⟨p, 0, none⟩ (.int .i64 x)).drew := by
  refine callsD_of_wpS Try.func33 rfl fun c₀ cs hu => ?_
  have hc' : w.drew.cell? ⟨p, 0, none⟩ = some (.int .i64 x) := hc
  have hz' : w.drew.frozen? ⟨p, 0, none⟩ = false := hz
  apply wpS_region_draw (by kernel_rfl) [[0, 1, 2, 3], [1, 0, 2, 3]] (by kernel_rfl)
  intro l hl
  simp only [List.mem_cons, List.not_mem_nil, or_false] at hl
  rcases hl with rfl | rfl
  all_goals (
    simp [wpOpsS, go_sem, recoverD, hu, Bad, Try.ntmps33, hc', hz', Exit.thenS]
    refine (after_none x _).mono ?_
    rintro e w1 ⟨rfl, rfl⟩
    simp [wpOpsS, go_sem, hc', hz', bodyPostS, results, Try.results33]
    cases c₀
    cases hu
    rfl)
theorem sync_bad (p : Nat) (x : Int) (older : List PanicEntry) (w : World) (hc : w.cell? ⟨p, 0, none⟩ = some (.int .i64 x)) (hz : w.frozen? ⟨p, 0, none⟩ = false) :
    CallsD Try.prog 37 #[.pointer (some ⟨p, 0, none⟩)] (.panicking (Bad :: older)) w fun e u' w' =>
      e = .returned (.tuple #[]) ∧ u' = .panicking ({ v := .iface 62 (.agg #[]), recovered := true } :: older) ∧ w' = (w.setCell ⟨p, 0, none⟩ (.int .i64 6)).drew := by
  refine callsD_of_wpS Try.func37 rfl fun c₀ cs hu => ?_
  have hc' : w.drew.cell? ⟨p, 0, none⟩ = some (.int .i64 x) := hc
  have hz' : w.drew.frozen? ⟨p, 0, none⟩ = false := hz
  apply wpS_region_draw (by kernel_rfl) [[0, 1, 2, 3], [1, 0, 2, 3]] (by kernel_rfl)
  intro l hl
  simp only [List.mem_cons, List.not_mem_nil, or_false] at hl
  rcases hl with rfl | rfl
  all_goals (
    simp [wpOpsS, go_sem, recoverD, hu, Bad, Try.ntmps37, hc', hz', Exit.thenS]
    refine (after_bad x _).mono ?_
    rintro e w1 ⟨rfl, rfl⟩
    simp [wpOpsS, go_sem, hc', hz', bodyPostS, results, Try.results37])
theorem sync_idle (p : Nat) (x : Int) (w : World) (hc : w.cell? ⟨p, 0, none⟩ = some (.int .i64 x)) (hz : w.frozen? ⟨p, 0, none⟩ = false) :
    CallsD Try.prog 37 #[.pointer (some ⟨p, 0, none⟩)] .returning w fun e u' w' =>
      e = .returned (.tuple #[]) ∧ u' = .returning ∧ w' = (w.setCell ⟨p, 0, none⟩ (.int .i64 x)).drew := by
  refine callsD_of_wpS Try.func37 rfl fun c₀ cs hu => ?_
  have hc' : w.drew.cell? ⟨p, 0, none⟩ = some (.int .i64 x) := hc
  have hz' : w.drew.frozen? ⟨p, 0, none⟩ = false := hz
  apply wpS_region_draw (by kernel_rfl) [[0, 1, 2, 3], [1, 0, 2, 3]] (by kernel_rfl)
  intro l hl
  simp only [List.mem_cons, List.not_mem_nil, or_false] at hl
  rcases hl with rfl | rfl
  all_goals (
    simp [wpOpsS, go_sem, recoverD, hu, Bad, Try.ntmps37, hc', hz', Exit.thenS]
    refine (after_none x _).mono ?_
    rintro e w1 ⟨rfl, rfl⟩
    simp [wpOpsS, go_sem, hc', hz', bodyPostS, results, Try.results37]
    cases c₀
    cases hu
    rfl)
theorem cut_bad (p : Nat) (x : Int) (older : List PanicEntry) (w : World) (hc : w.cell? ⟨p, 0, none⟩ = some (.int .i64 x)) (hz : w.frozen? ⟨p, 0, none⟩ = false) :
    CallsD Try.prog 38 #[.pointer (some ⟨p, 0, none⟩)] (.panicking (Bad :: older)) w fun e u' w' =>
      e = .returned (.tuple #[]) ∧ u' = .panicking ({ v := .iface 62 (.agg #[]), recovered := true } :: older) ∧ w' = (w.setCell ⟨p, 0, none⟩ (.int .i64 6)).drew := by
  refine callsD_of_wpS Try.func38 rfl fun c₀ cs hu => ?_
  have hc' : w.drew.cell? ⟨p, 0, none⟩ = some (.int .i64 x) := hc
  have hz' : w.drew.frozen? ⟨p, 0, none⟩ = false := hz
  apply wpS_region_draw (by kernel_rfl) [[0, 1, 2, 3], [1, 0, 2, 3]] (by kernel_rfl)
  intro l hl
  simp only [List.mem_cons, List.not_mem_nil, or_false] at hl
  rcases hl with rfl | rfl
  all_goals (
    simp [wpOpsS, go_sem, recoverD, hu, Bad, Try.ntmps38, hc', hz', Exit.thenS]
    refine (after_bad x _).mono ?_
    rintro e w1 ⟨rfl, rfl⟩
    simp [wpOpsS, go_sem, hc', hz', bodyPostS, results, Try.results38])
theorem cut_idle (p : Nat) (x : Int) (w : World) (hc : w.cell? ⟨p, 0, none⟩ = some (.int .i64 x)) (hz : w.frozen? ⟨p, 0, none⟩ = false) :
    CallsD Try.prog 38 #[.pointer (some ⟨p, 0, none⟩)] .returning w fun e u' w' =>
      e = .returned (.tuple #[]) ∧ u' = .returning ∧ w' = (w.setCell ⟨p, 0, none⟩ (.int .i64 x)).drew := by
  refine callsD_of_wpS Try.func38 rfl fun c₀ cs hu => ?_
  have hc' : w.drew.cell? ⟨p, 0, none⟩ = some (.int .i64 x) := hc
  have hz' : w.drew.frozen? ⟨p, 0, none⟩ = false := hz
  apply wpS_region_draw (by kernel_rfl) [[0, 1, 2, 3], [1, 0, 2, 3]] (by kernel_rfl)
  intro l hl
  simp only [List.mem_cons, List.not_mem_nil, or_false] at hl
  rcases hl with rfl | rfl
  all_goals (
    simp [wpOpsS, go_sem, recoverD, hu, Bad, Try.ntmps38, hc', hz', Exit.thenS]
    refine (after_none x _).mono ?_
    rintro e w1 ⟨rfl, rfl⟩
    simp [wpOpsS, go_sem, hc', hz', bodyPostS, results, Try.results38]
    cases c₀
    cases hu
    rfl)
end Go.Proofs.Ytljiehnpknbohaa.DkW
