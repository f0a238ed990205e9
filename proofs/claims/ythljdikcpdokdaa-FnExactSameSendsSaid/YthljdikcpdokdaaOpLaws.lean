/- Single operations of a region that draws its order. -/
import Derived.Test.YthljdikcpdokdaaBytes
import Derived.Deep.WholeRow
import Derived.Great.BuildSlice
namespace Go.Proofs.Ythljdikcpdokdaa
open Go.RowKit Go.Deep

theorem wp_allocRow {P : Program} {o : Oper} {a : Act} {w : World} {K : Act → World → Prop} {Q : Exit → Act → World → Prop} (t : TypeId) (ho : o.op = .alloc t) (dst : Option Tmp) (hd : o.dst = dst)
    (cs : Array Value) (hz : (P.info? t).bind (·.zero) = some (.agg cs))
    (h : K (a.put dst (.pointer (some ⟨w.heap.size, 0, none⟩))) (w.alloc (.cells cs t))) : o.wp P a w K Q := by
  subst hd
  unfold Oper.wp execOp
  cases hi : P.info? t with
  | none => simp [hi] at hz
  | some i =>
    simp [hi] at hz
    have hzr : ∀ u : World, (zeroValue t).run P u = .ok (.agg cs) u := (zero_of_info (n := i.size) (by simp [hi, hz])).1
    simp only [ho, Instr.alloc, hzr, newVar, newRow, Value.cells, Sem.run_bind, run_newObj_alloc, Sem.run_pure, Result.andThen_ok]
    exact h
/-- A call by its contract, as one operation. -/
theorem wp_callOp {P : Program} {o : Oper} {a : Act} {w : World} {K : Act → World → Prop} {Q : Exit → Act → World → Prop} (f : FuncId) (fn : Func) (hf : P.funcs[f]? = some fn) (hname : (fn.name == "runtime.NumGoroutine") = false) (hb : fn.body.isNone = false) (args : Array Value)
    (xs : Array Operand) (ts : Array TypeId) (ho : o.op = .call { callee := .value (.func f), args := xs, argTypes := ts }) (hx : xs.map a.eval = args) (dst : Option Tmp) (hd : o.dst = dst) (v : Value) (R : World → Prop) (hc : Calls P f args w fun e w' => e = .returned v ∧ R w')
    (h : ∀ w', R w' → K (a.put dst v) w') : o.wp P a w K Q := by
  subst hd
  have hrun : (execOp a.eval o).run P w = .ok (.enter f args) w := by
    subst hx
    have hn : ¬ fn.name = "runtime.NumGoroutine" := by simpa using hname
    have hb2 : ¬ fn.body = none := fun h => by rw [h] at hb; simp at hb
    simp [execOp, ho, resolve, invoke, Act.eval, Deferred.ofValue, callFunc, hf, hn, hb2]
  unfold Oper.wp
  rw [hrun, Oper.upon_enter]
  refine hc.mono fun e w'' hh => ?_
  obtain ⟨rfl, hr⟩ := hh
  exact h _ hr
/-- An operation that only reckons. -/
theorem wp_valueOp {P : Program} {o : Oper} {a : Act} {w : World} {K : Act → World → Prop} {Q : Exit → Act → World → Prop} (v : Value) (hrun : (execOp a.eval o).run P w = .ok (.value v) w) (dst : Option Tmp) (hd : o.dst = dst)
    (h : K (a.put dst v) w) : o.wp P a w K Q := by
  subst hd
  unfold Oper.wp
  rw [hrun]
  exact h
theorem op_parts {ops : Array Oper} {i : Nat} {op : Op} {dst : Option Tmp} (h : (ops[i]?).map (fun o => (o.op, o.dst, o.guard)) = some (op, dst, none)) :
    ∃ o, ops[i]? = some o ∧ o.op = op ∧ o.dst = dst ∧ o.guard = none := by
  obtain ⟨o, h1, h2⟩ := Option.map_eq_some_iff.1 h
  simp only [Prod.mk.injEq] at h2
  exact ⟨o, h1, h2.1, h2.2.1, h2.2.2⟩
/-- One operation of a region that draws, none of them guarded. -/
theorem wpOp_plain {P : Program} {ops : Array Oper} {Q : Exit → Act → World → Prop} {i : Nat} {o : Oper} {K : Act → World → Prop} {a : Act} {w : World} (ho : ops[i]? = some o) (hg : o.guard = none)
    (h : o.wp P a w K Q) : wpOp P ops Q i K a w := by
  refine wpOp_step ho (fun K' hK => ?_)
  rw [if_pos (by simp [Region.wanted, hg])]
  exact Oper.wp_mono hK h
def cnt (b : Bool) : Nat := if b then 0 else 1
end Go.Proofs.Ythljdikcpdokdaa
