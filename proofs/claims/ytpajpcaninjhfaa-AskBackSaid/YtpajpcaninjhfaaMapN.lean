/- A map of the call's own whose keys are numbers, written entry by entry, then asked: insert of a new key, look-up with ok. No program in sight. -/
import Derived.Test.YtpajpcaninjhfaaMem
import Derived.MapKept
import Derived.Maps.OwnOps
namespace Go.Proofs.Ytpajpcaninjhfaa
open Go.RowKit
section
variable {P : Program} {t k e : TypeId} {q : IntKind} {w : World} {b clock : Nat} {es : Array MapEntry}
theorem run_insert_new (ht : P.underlying t = some (.map k e)) (hk : P.underlying k = some (.int q)) (hb : w.heap[b]? = some (.map es clock)) (key : Int) (val : Value) (hf : Instr.findNow (.int q) (.int q key) es.toList 0 = some none) :
    (Instr.mapUpdate t (.map (some b)) (.int q key) val).run P w = .ok () { w with heap := w.heap.setIfInBounds b (.map (es.push ⟨.int q key, val, clock⟩) (clock + 1)) } := by
  simp [Instr.mapUpdate, run_underlying ht, MapKept.run_getObj_map hb, MapKept.run_checkKey hk (k := .int q key) (by simp [MapKept.IsKey]), MapKept.run_findKey hk hf, MapKept.run_setObj_map _ hb, Result.andThen]
theorem grown_set (hb : w.heap[b]? = some (.map es clock)) (o : Obj) : w.grownBy { w with heap := w.heap.setIfInBounds b o } (some b) := by
  refine ⟨rfl, rfl, rfl, by simp, fun j hj hne => ?_⟩
  exact (MapKept.heap_set hb).2 j (fun h => hne (by rw [h]))
theorem wpList_insert_new {ops : Array Oper} {rest : List Oper} {o : Oper} {a : Act} {Q : Exit → Act → World → Prop}
    (hg : o.guard = none) (m x v : Operand) (hop : o.op = Op.insert t m x v) (ht : P.underlying t = some (.map k e)) (hk : P.underlying k = some (.int q))
    (hm : a.eval m = .map (some b)) (hb : w.heap[b]? = some (.map es clock)) (key : Int) (val : Value) (hx : a.eval x = .int q key) (hv : a.eval v = val) (hf : Instr.findNow (.int q) (.int q key) es.toList 0 = some none)
    (hK : ∀ w', w'.heap[b]? = some (.map (es.push ⟨.int q key, val, clock⟩) (clock + 1)) → w.grownBy w' (some b) → wpList P ops Q rest (a.put o.dst undef) w') : wpList P ops Q (o :: rest) a w := by
  refine wpList_plain hg fun K' hK' => ?_
  have hrun := run_insert_new ht hk hb key val hf
  unfold Oper.wp
  simp [execOp, hop, hm, hx, hv, hrun, Result.andThen]
  exact hK' _ _ (hK _ (MapKept.heap_set hb).1 (grown_set hb _))
theorem run_lookup_now (ht : P.underlying t = some (.map k e)) (hk : P.underlying k = some (.int q)) (hb : w.heap[b]? = some (.map es clock)) (key : Int) {r : Option (Nat × Value)} (hf : Instr.findNow (.int q) (.int q key) es.toList 0 = some r) {z : Value} (hz : (zeroValue e).run P w = .ok z w) :
    (Instr.lookup t (.map (some b)) (.int q key) true).run P w = .ok (.tuple #[(r.map (·.2)).getD z, .bool r.isSome]) w := by
  rcases r with _ | ⟨i, v⟩ <;> simp [Instr.lookup, run_underlying ht, MapKept.run_getObj_map hb, MapKept.run_checkKey hk (k := .int q key) (by simp [MapKept.IsKey]), MapKept.run_findKey hk hf, Result.andThen, hz]
theorem wpList_lookup_now {ops : Array Oper} {rest : List Oper} {o : Oper} {a : Act} {Q : Exit → Act → World → Prop}
    (hg : o.guard = none) (m x : Operand) (hop : o.op = Op.lookup t m x true) (ht : P.underlying t = some (.map k e)) (hk : P.underlying k = some (.int q))
    (hm : a.eval m = .map (some b)) (hb : w.heap[b]? = some (.map es clock)) (key : Int) (hx : a.eval x = .int q key) {r : Option (Nat × Value)} (hf : Instr.findNow (.int q) (.int q key) es.toList 0 = some r) {z : Value} (hz : (zeroValue e).run P w = .ok z w)
    {v : Value} (hv : (r.map (·.2)).getD z = v) {ok : Bool} (hok : r.isSome = ok)
    (hK : wpList P ops Q rest (a.put o.dst (.tuple #[v, .bool ok])) w) : wpList P ops Q (o :: rest) a w := by
  refine wpList_plain hg fun K' hK' => ?_
  have hrun := run_lookup_now ht hk hb key hf hz
  rw [hv, hok] at hrun
  unfold Oper.wp
  simp [execOp, hop, hm, hx, hrun, Result.andThen]
  exact hK' _ _ hK
end
end Go.Proofs.Ytpajpcaninjhfaa
