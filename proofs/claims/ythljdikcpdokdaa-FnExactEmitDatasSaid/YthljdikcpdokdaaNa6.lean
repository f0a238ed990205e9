import Derived.Test.YthljdikcpdokdaaNa0
import Derived.Deep.WholeRow
import Derived.Great.BuildSlice

/- Single operations of a region that draws its order. -/
namespace Go.Proofs.Ythljdikcpdokdaa
open Go.RowKit Go.Deep

theorem wp_allocRow {P : Program} {o : Oper} {a : Act} {w : World} {K : Act → World → Prop} {Q : Exit → Act → World → Prop} (t : TypeId) (ho : o.op = .alloc t) (dst : Option Tmp) (hd : o.dst = dst)
    (cs : Array Value) (hz : (P.info? t).bind (·.zero) = some (.agg cs))
    (h : K (a.put dst (.pointer (some ⟨w.heap.size, 0, none⟩))) (w.alloc (.cells cs t))) : o.wp P a w K Q := by
  subst hd
  unfold Oper.wp execOp
  cases hi : P.info? t with
  | none => simp [hi] at hz
  | some i =>
    simp [hi] at hz
    have hzr : ∀ u : World, (zeroValue t).run P u = .ok (.agg cs) u := (zero_of_info (n := i.size) (by simp [hi, hz])).1
    simp only [ho, Instr.alloc, hzr, newVar, newRow, Value.cells, Sem.run_bind, run_newObj_alloc, Sem.run_pure, Result.andThen_ok]
    exact h
/-- A call by its contract, as one operation. -/
theorem wp_callOp {P : Program} {o : Oper} {a : Act} {w : World} {K : Act → World → Prop} {Q : Exit → Act → World → Prop} (f : FuncId) (fn : Func) (hf : P.funcs[f]? = some fn) (hname : (fn.name == "runtime.NumGoroutine") = false) (hb : fn.body.isNone = false) (args : Array Value)
    (xs : Array Operand) (ts : Array TypeId) (ho : o.op = .call { callee := .value (.func f), args := xs, argTypes := ts }) (hx : xs.map a.eval = args) (dst : Option Tmp) (hd : o.dst = dst) (v : Value) (R : World → Prop) (hc : Calls P f args w fun e w' => e = .returned v ∧ R w')
    (h : ∀ w', R w' → K (a.put dst v) w') : o.wp P a w K Q := by
  subst hd
  have hrun : (execOp a.eval o).run P w = .ok (.enter f args) w := by
    subst hx
    have hn : ¬ fn.name = "runtime.NumGoroutine" := by simpa using hname
    have hb2 : ¬ fn.body = none := fun h => by rw [h] at hb; simp at hb
    simp [execOp, ho, resolve, invoke, Act.eval, Deferred.ofValue, callFunc, hf, hn, hb2]
  unfold Oper.wp
  rw [hrun, Oper.upon_enter]
  refine hc.mono fun e w'' hh => ?_
  obtain ⟨rfl, hr⟩ := hh
  exact h _ hr
/-- An operation that only reckons. -/
theorem wp_valueOp {P : Program} {o : Oper} {a : Act} {w : World} {K : Act → World → Prop} {Q : Exit → Act → World → Prop} (v : Value) (hrun : (execOp a.eval o).run P w = .ok (.value v) w) (dst : Option Tmp) (hd : o.dst = dst)
    (h : K (a.put dst v) w) : o.wp P a w K Q := by
  subst hd
  unfold Oper.wp
  rw [hrun]
  exact h
theorem op_parts {ops : Array Oper} {i : Nat} {op : Op} {dst : Option Tmp} (h : (ops[i]?).map (fun o => (o.op, o.dst, o.guard)) = some (op, dst, none)) :
    ∃ o, ops[i]? = some o ∧ o.op = op ∧ o.dst = dst ∧ o.guard = none := by
  obtain ⟨o, h1, h2⟩ := Option.map_eq_some_iff.1 h
  simp only [Prod.mk.injEq] at h2
  exact ⟨o, h1, h2.1, h2.2.1, h2.2.2⟩
/-- One operation of a region that draws, none of them guarded. -/
theorem wpOp_plain {P : Program} {ops : Array Oper} {Q : Exit → Act → World → Prop} {i : Nat} {o : Oper} {K : Act → World → Prop} {a : Act} {w : World} (ho : ops[i]? = some o) (hg : o.guard = none)
    (h : o.wp P a w K Q) : wpOp P ops Q i K a w := by
  refine wpOp_step ho (fun K' hK => ?_)
  rw [if_pos (by simp [Region.wanted, hg])]
  exact Oper.wp_mono hK h
def cnt (b : Bool) : Nat := if b then 0 else 1
end Go.Proofs.Ythljdikcpdokdaa

/- A region that draws its order, by an invariant over what is done. -/
namespace Go.Proofs.Ythljdikcpdokdaa
open Go.RowKit Go.Deep

/-- How many of the first operations are left. -/
def leftOf (d : Nat → Bool) : Nat → Nat
  | 0 => 0
  | k + 1 => leftOf d k + (if d k then 0 else 1)
theorem leftOf_le (d : Nat → Bool) (i k : Nat) : leftOf (fun j => j == i || d j) k ≤ leftOf d k := by
  induction k with
  | zero => exact Nat.le_refl _
  | succ k ih =>
    simp only [leftOf]
    by_cases h : d k = true
    · simp [h]; exact ih
    · by_cases e : k = i
      · subst e; simp [h]; omega
      · simp [h, e]; exact ih
theorem leftOf_lt (d : Nat → Bool) (i k : Nat) (hi : i < k) (hd : d i = false) : leftOf (fun j => j == i || d j) k < leftOf d k := by
  induction k with
  | zero => omega
  | succ k ih =>
    simp only [leftOf]
    by_cases e : k = i
    · subst e
      have := leftOf_le d k k
      simp [hd]; omega
    · have := ih (by omega)
      by_cases h : d k = true
      · simp [h]; exact this
      · simp [h, e]; exact this
theorem leftOf_zero (d : Nat → Bool) (k : Nat) (h : leftOf d k = 0) : ∀ j, j < k → d j = true := by
  induction k with
  | zero => intro j hj; omega
  | succ k ih =>
    simp only [leftOf] at h
    intro j hj
    by_cases hk : d k = true
    · by_cases e : j = k
      · subst e; exact hk
      · exact ih (by omega) j (by omega)
    · simp [hk] at h
theorem leftOf_false (k : Nat) : leftOf (fun _ => false) k = k := by
  induction k with
  | zero => rfl
  | succ k ih => simp only [leftOf, ih]; simp
theorem getD_set (L : Array Bool) (i : Nat) (hi : i < L.size) : (fun j => (L.setIfInBounds i true).getD j false) = fun j => j == i || L.getD j false := by
  funext j
  simp only [Array.getD_eq_getD_getElem?]
  rw [Array.getElem?_setIfInBounds]
  by_cases e : i = j
  · subst e; simp [hi]
  · have e2 : (j == i) = false := by simpa using fun h => e h.symm
    rw [if_neg e, e2, Bool.false_or]
/-- The region's walk: 'deps i' are operations that surely come ahead of i. -/
theorem wpAny_inv {P : Program} {ops : Array Oper} {Q : Exit → Act → World → Prop} (n : Nat) (deps : Nat → List Nat) (J : (Nat → Bool) → Act → World → Prop)
    (hn : ops.size = n)
    (hdeps : ((List.range n).all fun i => (deps i).all fun j => ((ops[i]?).map fun o => o.after.any fun e => Region.binds .any e && e.on == j).getD false) = true)
    (hback : ((List.range n).all fun i => ((ops[i]?).map fun o => o.after.all fun e => decide (e.on < i)).getD false) = true)
    (step : ∀ i, i < n → ∀ d a w, J d a w → d i = false → (∀ j, j ∈ deps i → d j = true) → wpOp P ops Q i (J (fun j => j == i || d j)) a w)
    (fin : ∀ d a w, J d a w → (∀ j, j < n → d j = true) → Q .normal a w) :
    ∀ (fuel : Nat) (L : Array Bool) (a : Act) (w : World), L.size = n → leftOf (fun j => L.getD j false) n ≤ fuel → J (fun j => L.getD j false) a w → wpAny P .any ops Q fuel L a w := by
  have mem : ∀ (L : Array Bool), L.size = n → ∀ i, i ∈ Region.ready .any ops L → i < n ∧ L.getD i false = false ∧ ∀ j, j ∈ deps i → L.getD j false = true := by
    intro L hL i hi
    simp only [Region.ready, List.mem_filter, List.mem_range, Bool.and_eq_true, Bool.not_eq_true'] at hi
    obtain ⟨h1, h2, h3⟩ := hi
    rw [hn] at h1
    refine ⟨h1, ?_, fun j hj => ?_⟩
    · simp only [Array.getD_eq_getD_getElem?] at h2 ⊢
      rw [Array.getElem?_eq_getElem (by omega)] at h2 ⊢
      exact h2
    · have h4 := List.all_eq_true.1 (List.all_eq_true.1 hdeps i (List.mem_range.2 h1)) j hj
      cases ho : ops[i]? with
      | none => simp [ho] at h4
      | some o =>
        simp only [ho, Option.map_some, Option.getD_some] at h3 h4
        obtain ⟨k, hk, he⟩ := Array.any_eq_true.1 h4
        simp only [Bool.and_eq_true, beq_iff_eq] at he
        have h5 := Array.all_eq_true.1 h3 k hk
        simp only [he.1, Bool.not_true, Bool.false_or] at h5
        rw [← he.2]; exact h5
  have done : ∀ (L : Array Bool), L.size = n → Region.ready .any ops L = [] → ∀ j, j < n → L.getD j false = true := by
    intro L hL h j
    induction j using Nat.strongRecOn with
    | ind j ih =>
      intro hj
      cases hd : L.getD j false with
      | true => rfl
      | false =>
        exfalso
        have hm : j ∈ Region.ready .any ops L := by
          simp only [Region.ready, List.mem_filter, List.mem_range, Bool.and_eq_true, Bool.not_eq_true']
          refine ⟨by omega, ?_, ?_⟩
          · simp only [Array.getD_eq_getD_getElem?] at hd ⊢
            rw [Array.getElem?_eq_getElem (by omega)] at hd ⊢
            exact hd
          · have h4 := List.all_eq_true.1 hback j (List.mem_range.2 hj)
            cases ho : ops[j]? with
            | none => simp [ho] at h4
            | some o =>
              simp only [ho, Option.map_some, Option.getD_some] at h4 ⊢
              rw [Array.all_eq_true]
              intro k hk
              have h5 := Array.all_eq_true.1 h4 k hk
              rw [decide_eq_true_eq] at h5
              rw [ih _ h5 (by omega), Bool.or_true]
        rw [h] at hm
        cases hm
  intro fuel
  induction fuel with
  | zero =>
    intro L a w hL hf hJ
    have hall := leftOf_zero (fun j => L.getD j false) n (by omega)
    refine ⟨?_, fin _ a w hJ hall⟩
    cases hr : Region.ready .any ops L with
    | nil => rfl
    | cons i t =>
      obtain ⟨h1, h2, _⟩ := mem L hL i (by rw [hr]; exact List.mem_cons_self)
      have h9 : L.getD i false = true := hall i h1
      rw [h2] at h9
      cases h9
  | succ fuel ih =>
    intro L a w hL hf hJ
    refine ⟨fun h => fin _ a w hJ (done L hL h), fun i hi => ?_⟩
    obtain ⟨h1, h2, h3⟩ := mem L hL i hi
    have hs := step i h1 _ a w hJ h2 h3
    have hg := getD_set L i (by omega)
    have hl := leftOf_lt (fun j => L.getD j false) i n h1 h2
    refine wpOp_mono (fun a' w' hJ' => ih _ a' w' (by simpa using hL) ?_ ?_) hs
    · rw [hg]; omega
    · rw [hg]; exact hJ'
theorem region_inv {P : Program} {ops : Array Oper} {Q : Exit → Act → World → Prop} (n : Nat) (deps : Nat → List Nat) (J : (Nat → Bool) → Act → World → Prop)
    (hn : ops.size = n)
    (hdeps : ((List.range n).all fun i => (deps i).all fun j => ((ops[i]?).map fun o => o.after.any fun e => Region.binds .any e && e.on == j).getD false) = true)
    (hback : ((List.range n).all fun i => ((ops[i]?).map fun o => o.after.all fun e => decide (e.on < i)).getD false) = true)
    {a : Act} {w : World} (h0 : J (fun _ => false) a w)
    (step : ∀ i, i < n → ∀ d a w, J d a w → d i = false → (∀ j, j ∈ deps i → d j = true) → wpOp P ops Q i (J (fun j => j == i || d j)) a w)
    (fin : ∀ d a w, J d a w → (∀ j, j < n → d j = true) → Q .normal a w) :
    wpAny P .any ops Q ops.size (Array.replicate ops.size false) a w := by
  have e : (fun j => (Array.replicate ops.size false).getD j false) = fun _ => false := by
    funext j
    simp only [Array.getD_eq_getD_getElem?, Array.getElem?_replicate]
    split <;> rfl
  refine wpAny_inv n deps J hn hdeps hback step fin _ _ a w (by simpa using hn) ?_ ?_
  · rw [e, leftOf_false]; omega
  · rw [e]; exact h0
theorem then_normal {K : Act → World → Prop} {Q : Exit → Act → World → Prop} {a : Act} {w : World} (h : K a w) : Exit.then K Q .normal a w := h
theorem letsOut_then {K : Act → World → Prop} {Q : Exit → Act → World → Prop} (h : LetsOut (Exit.then K Q)) : LetsOut Q := h
/-- One operation, walked as a list of its own. -/
theorem wpOp_of_list {P : Program} {ops : Array Oper} {Q : Exit → Act → World → Prop} {i : Nat} {o : Oper} {K : Act → World → Prop} {a : Act} {w : World} (ho : ops[i]? = some o)
    (h : wpList P ops (Exit.then K Q) [o] a w) : wpOp P ops Q i K a w := by
  unfold wpOp
  simp only [ho]
  simp only [wpList] at h
  split
  · next hw =>
    rw [if_pos hw] at h
    refine h.imp (fun hh => ?_) (fun hh => ⟨hh.1, letsOut_then hh.2⟩)
    unfold Oper.wp at *
    generalize (execOp a.eval o).run P w = r at *
    cases r with
    | ok n w' =>
      cases n <;> simp only [Oper.upon] at hh ⊢ <;>
        first
          | exact hh
          | exact Calls.mono hh (fun e w'' he => by cases e <;> exact he)
          | exact Rows.mono hh (fun _ _ he => he)
    | halt x w' => cases x <;> simp only [Oper.upon] at hh ⊢ <;> exact hh
  · next hw =>
    rw [if_neg hw] at h
    exact h
theorem op_lit {ops : Array Oper} {lits : Array (Op × Option Tmp × Option (Nat × Bool))} (hops : (ops.map fun o => (o.op, o.dst, o.guard)) = lits) {i : Nat} {op : Op} {dst : Option Tmp} {g : Option (Nat × Bool)} (h : lits[i]? = some (op, dst, g)) :
    ∃ ty ps af, ops[i]? = some { dst := dst, op := op, type := ty, pos := ps, after := af, guard := g } := by
  subst hops
  rw [Array.getElem?_map] at h
  obtain ⟨o, h1, h2⟩ := Option.map_eq_some_iff.1 h
  simp only [Prod.mk.injEq] at h2
  obtain ⟨rfl, rfl, rfl⟩ := h2
  exact ⟨o.type, o.pos, o.after, h1⟩
/-- Whose truth another operation waits for. -/
theorem yielded_lit {ops : Array Oper} {lits : Array (Op × Option Tmp × Option (Nat × Bool))} (hops : (ops.map fun o => (o.op, o.dst, o.guard)) = lits) {i : Nat} {op : Op} {t : Tmp} {g : Option (Nat × Bool)} (h : lits[i]? = some (op, some t, g)) (tmps : Array Value) (b : Bool) (ht : tmps[t]? = some (.bool b)) :
    yielded ops tmps i = some b := by
  obtain ⟨ty, ps, af, h1⟩ := op_lit hops h
  simp [yielded, h1, ht]
theorem wpOp_lit {P : Program} {ops : Array Oper} {Q : Exit → Act → World → Prop} {i : Nat} {dst : Option Tmp} {op : Op} {ty : TypeId} {ps : String} {af : Array Edge} {g : Option (Nat × Bool)} {K : Act → World → Prop} {a : Act} {w : World}
    (ho : ops[i]? = some { dst := dst, op := op, type := ty, pos := ps, after := af, guard := g }) (hg : ∀ j b, g = some (j, b) → yielded ops a.tmps j = some b)
    (h : wpList P #[] (Exit.then K Q) [{ dst := dst, op := op, type := ty, pos := "", after := #[], guard := none }] a w) : wpOp P ops Q i K a w := by
  have h2 : wpOp P #[{ dst := dst, op := op, type := ty, pos := "", after := #[], guard := none }] Q 0 K a w := wpOp_of_list (ops := #[{ dst := dst, op := op, type := ty, pos := "", after := #[], guard := none }]) rfl (by
    simp only [wpList] at h ⊢
    rw [if_pos (by rfl)] at h ⊢
    exact h)
  unfold wpOp at h2 ⊢
  simp only [ho]
  simp only [List.getElem?_toArray, List.getElem?_cons_zero] at h2
  rw [if_pos (by rfl)] at h2
  rw [if_pos (by
    cases g with
    | none => rfl
    | some jb => simp [Region.wanted, hg jb.1 jb.2 rfl])]
  exact h2
theorem wpOp_off {P : Program} {ops : Array Oper} {Q : Exit → Act → World → Prop} {i : Nat} {dst : Option Tmp} {op : Op} {ty : TypeId} {ps : String} {af : Array Edge} {j : Nat} {b c : Bool} {K : Act → World → Prop} {a : Act} {w : World}
    (ho : ops[i]? = some { dst := dst, op := op, type := ty, pos := ps, after := af, guard := some (j, b) }) (hy : yielded ops a.tmps j = some c) (hne : c ≠ b) (h : K (a.put dst undef) w) : wpOp P ops Q i K a w := by
  unfold wpOp
  simp only [ho]
  rw [if_neg (by simp [Region.wanted, hy, hne])]
  exact h
theorem wp_fieldAddr {P : Program} {o : Oper} {a : Act} {w : World} {K : Act → World → Prop} {Q : Exit → Act → World → Prop} (t : TypeId) (x : Operand) (f : Nat) (ho : o.op = .fieldAddr t x f) (dst : Option Tmp) (hd : o.dst = dst) (v p : Value)
    (hx : a.eval x = p) (hrun : (Instr.fieldAt t p f).run P w = .ok v w) (h : K (a.put dst v) w) : o.wp P a w K Q := by
  refine wp_valueOp v ?_ dst hd h
  unfold execOp
  simp only [ho, hx, Sem.run_bind, hrun, Result.andThen_ok, Sem.run_pure]
theorem wp_moveOp {P : Program} {o : Oper} {a : Act} {w : World} {K : Act → World → Prop} {Q : Exit → Act → World → Prop} (x : Operand) (ho : o.op = .move x) (dst : Option Tmp) (hd : o.dst = dst) (v : Value)
    (hx : a.eval x = v) (h : K (a.put dst v) w) : o.wp P a w K Q := by
  refine wp_valueOp v ?_ dst hd h
  unfold execOp
  simp only [ho, hx, Sem.run_pure]
/-- A call whose answer is known by a property. -/
theorem wp_callAny {P : Program} {o : Oper} {a : Act} {w : World} {K : Act → World → Prop} {Q : Exit → Act → World → Prop} (f : FuncId) (fn : Func) (hf : P.funcs[f]? = some fn) (hname : (fn.name == "runtime.NumGoroutine") = false) (hb : fn.body.isNone = false) (args : Array Value)
    (xs : Array Operand) (ts : Array TypeId) (ho : o.op = .call { callee := .value (.func f), args := xs, argTypes := ts }) (hx : xs.map a.eval = args) (dst : Option Tmp) (hd : o.dst = dst) (R : Value → World → Prop) (hc : Calls P f args w fun e w' => ∃ v, e = .returned v ∧ R v w')
    (h : ∀ v w', R v w' → K (a.put dst v) w') : o.wp P a w K Q := by
  subst hd
  have hrun : (execOp a.eval o).run P w = .ok (.enter f args) w := by
    subst hx
    have hn : ¬ fn.name = "runtime.NumGoroutine" := by simpa using hname
    have hb2 : ¬ fn.body = none := fun h => by rw [h] at hb; simp at hb
    simp [execOp, ho, resolve, invoke, Act.eval, Deferred.ofValue, callFunc, hf, hn, hb2]
  unfold Oper.wp
  rw [hrun, Oper.upon_enter]
  refine hc.mono fun e w'' hh => ?_
  obtain ⟨v, rfl, hr⟩ := hh
  exact h v _ hr
end Go.Proofs.Ythljdikcpdokdaa
