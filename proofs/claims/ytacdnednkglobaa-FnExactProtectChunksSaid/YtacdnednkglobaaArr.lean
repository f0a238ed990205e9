/- The program's tables of SHA-256: roundConstants, firstState, RoundWord; laws on whole arrays by value. -/
import Derived.Test.YtacdnednkglobaaMa5
import Derived.Deep.WholeRow
import Derived.Great.BuildSlice
import Derived.Laws.CopyOwn
namespace Go.Proofs.Ytacdnednkglobaa
open Go.RowKit Go.Deep

def uv (x : Nat) : Value := .int .u32 x
/-- Words as an array's cells. -/
def U (ws : List Nat) : Array Value := (ws.map uv).toArray
theorem U_size (ws : List Nat) : (U ws).size = ws.length := by simp [U]
theorem U_one (ws : List Nat) : (U ws).all (·.oneCell') = true := by
  rw [Array.all_eq_true_iff_forall_mem]
  intro v hv
  simp [U, uv] at hv
  obtain ⟨x, _, rfl⟩ := hv
  rfl
theorem U_ci (ws : List Nat) : ((ci ws).map (Value.int .u32)).toArray = U ws := by simp [U, ci, uv]
theorem U_get (ws : List Nat) (j : Nat) (h : j < ws.length) : (U ws)[j]? = some (.int .u32 ((ws.getD j 0 : Nat) : Int)) := by
  simp [U, uv, h]
/-- A new variable by its type's zero value, said by the caller. -/
theorem wpList_allocRow {P : Program} {ops : Array Oper} {rest : List Oper} {o : Oper} {a : Act} {w : World} {Q : Exit → Act → World → Prop} (hg : o.guard = none) (t : TypeId) (ho : o.op = .alloc t)
    (dst : Option Tmp) (hd : o.dst = dst) (cs : Array Value) (hz : (P.info? t).bind (·.zero) = some (.agg cs))
    (h : wpList P ops Q rest (a.put dst (.pointer (some ⟨w.heap.size, 0, none⟩))) (w.alloc (.cells cs t))) : wpList P ops Q (o :: rest) a w := by
  subst hd
  refine wpList_plain hg fun K hK => ?_
  unfold Oper.wp execOp
  cases hi : P.info? t with
  | none => simp [hi] at hz
  | some i =>
    simp [hi] at hz
    have hzr : ∀ u : World, (zeroValue t).run P u = .ok (.agg cs) u := (zero_of_info (n := i.size) (by simp [hi, hz])).1
    simp only [ho, Instr.alloc, hzr, newVar, newRow, Value.cells, Sem.run_bind, run_newObj_alloc, Sem.run_pure, Result.andThen_ok]
    exact hK _ _ h
/-- A new variable that holds an array given by value. -/
theorem wpList_boxRow {P : Program} {ops : Array Oper} {rest : List Oper} {o : Oper} {a : Act} {w : World} {Q : Exit → Act → World → Prop} (hg : o.guard = none) (t : TypeId) (x : Operand) (ho : o.op = .box t x)
    (dst : Option Tmp) (hd : o.dst = dst) (cs : Array Value) (hx : a.eval x = .agg cs)
    (h : wpList P ops Q rest (a.put dst (.pointer (some ⟨w.heap.size, 0, none⟩))) (w.alloc (.cells cs t))) : wpList P ops Q (o :: rest) a w := by
  subst hd
  refine wpList_plain hg fun K hK => ?_
  unfold Oper.wp execOp
  simp only [ho, hx, Sem.run_bind, Instr.box, newVar, newRow, Value.cells, run_newObj_alloc, Sem.run_pure, Result.andThen_ok]
  exact hK _ _ h
theorem info90 : ∃ z, (Try.prog.info? 107).bind (·.zero) = some (.agg z) ∧ z.size = 64 := ⟨Array.replicate 64 (.int .u32 0), by kernel_rfl, by simp⟩
set_option maxRecDepth 100000 in
set_option maxHeartbeats 4000000 in
theorem consts_any (w : World) : Calls Try.prog 85 #[] w fun e w' => e = .returned (.agg (U keysN)) ∧ Below w.heap.size w w' := by
  obtain ⟨z, hz, hz2⟩ := info90
  go_enter Try.func85, Try.ntmps85
  go_wp2_with (first | refine wpList_allocRow rfl _ rfl _ rfl z hz ?_ | refine wpList_buildFlatArrTo rfl 107 94 64 _ rfl .u32 (ci keysN) _ rfl (by kernel_rfl) (by kernel_rfl) (by kernel_rfl) (by kernel_rfl) ?_ | refine wpList_store_rowTo rfl _ _ _ rfl rfl w.heap.size (U keysN) rfl (by rw [← U_ci]; rfl) _ _ (heap_alloc_last w _) (by kernel_rfl) hz2 (U_one _) ?_)
  have hb := Blk.new w 107 z
  exact bodyPost_ret (v := .agg (U keysN)) (results_cell_row rfl _ _ w.heap.size 107 _ (0, 0) (.array 64 94) rfl (setRow_heap _ _ _ _ _ _ hb) (by kernel_rfl) rfl (by kernel_rfl)) rfl ⟨rfl, below_setRow (bal (Below.refl _ _) _) (Nat.le_refl _) _⟩
theorem info77 : ∃ z, (Try.prog.info? 96).bind (·.zero) = some (.agg z) ∧ z.size = 8 := ⟨Array.replicate 8 (.int .u32 0), by kernel_rfl, by simp⟩
theorem info91 : ∃ z, (Try.prog.info? 109).bind (·.zero) = some (.agg z) ∧ z.size = 64 := ⟨Array.replicate 64 (.int .u32 0), by kernel_rfl, by simp⟩

set_option maxHeartbeats 1000000 in
theorem first_any (w : World) : Calls Try.prog 76 #[] w fun e w' => e = .returned (.agg (U startN)) ∧ Below w.heap.size w w' := by
  obtain ⟨z, hz, hz2⟩ := info77
  go_enter Try.func76, Try.ntmps76
  go_wp2_with (first | refine wpList_allocRow rfl _ rfl _ rfl z hz ?_ | refine wpList_buildFlatArrTo rfl 96 94 8 _ rfl .u32 (ci startN) _ rfl (by kernel_rfl) (by kernel_rfl) (by kernel_rfl) (by kernel_rfl) ?_ | refine wpList_store_rowTo rfl _ _ _ rfl rfl w.heap.size (U startN) rfl (by rw [← U_ci]; rfl) _ _ (heap_alloc_last w _) (by kernel_rfl) hz2 (U_one _) ?_)
  have hb := Blk.new w 96 z
  exact bodyPost_ret (v := .agg (U startN)) (results_cell_row rfl _ _ w.heap.size 96 _ (0, 0) (.array 8 94) rfl (setRow_heap _ _ _ _ _ _ hb) (by kernel_rfl) rfl (by kernel_rfl)) rfl ⟨rfl, below_setRow (bal (Below.refl _ _) _) (Nat.le_refl _) _⟩
theorem wpList_indexArr {P : Program} {ops : Array Oper} {rest : List Oper} {o : Oper} {a : Act} {w : World} {Q : Exit → Act → World → Prop} (hg : o.guard = none) (t : TypeId) (x y : Operand) (ho : o.op = .index t x y)
    (dst : Option Tmp) (hd : o.dst = dst) (cs : Array Value) (k : IntKind) (n len : Nat) (e : TypeId) (v : Value) (hx : a.eval x = .agg cs) (hy : a.eval y = .int k (n : Int))
    (hu : P.underlying t = some (.array len e)) (hn : n < len) (hs : (P.info? e).map (·.size) = some 1) (ie : IntKind) (he : P.underlying e = some (.int ie)) (hv : cs[n]? = some v)
    (h : wpList P ops Q rest (a.put dst v) w) : wpList P ops Q (o :: rest) a w := by
  subst hd
  refine wpList_plain hg fun K hK => ?_
  have hsz : (sizeOf e).run P w = .ok 1 w := by
    cases hq : P.info? e with
    | none => simp [hq] at hs
    | some i => simp [hq] at hs; simp [sizeOf, typeInfo, hq, hs]
  have hp : (part e cs n).run P w = .ok v w := by
    simp [part, isAgg, run_underlying he, Sem.run_bind, hv]
  have hrun : (execOp a.eval o).run P w = .ok (.value v) w := by
    unfold execOp
    simp [ho, hx, hy, Instr.index, asIntOf, Sem.run_bind, run_underlying hu, hn, hsz, hp]
  unfold Oper.wp
  rw [hrun]
  exact hK _ _ h
/-- The result's block behind a call. -/
theorem xb {w w1 : World} {t : TypeId} {a b : Value} (hb : Below (w.alloc (.cells #[a, b] t)).heap.size (w.alloc (.cells #[a, b] t)) w1) : Hid (Blk w1 w.heap.size t #[a, b]) ∧ Hid (Below w.heap.size w w1) :=
  ⟨(Blk.new w t _).below hb, btr (bal (Below.refl _ _) _) hb⟩
end Go.Proofs.Ytacdnednkglobaa
