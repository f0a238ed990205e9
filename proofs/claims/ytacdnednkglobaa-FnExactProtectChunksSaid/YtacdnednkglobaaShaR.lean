/- The body of Sha256's loop: the region that draws its order, in a round, by an invariant. -/
import Derived.Test.YtacdnednkglobaaChunk
import Derived.Test.YtacdnednkglobaaDigest
import Derived.OrdersIn
namespace Go.Proofs.Ytacdnednkglobaa
open Go.RowKit Go.Deep Go.Shelf

section
variable {l n : Nat} {P : Program} {o : Oper} {a : Act} {w w' : World} {K : Act → World → Prop} {Q : Exit → Act → World → Prop}
theorem wpIn_value (hnd : ∀ c, o.op ≠ .defer c) (v : Value) (hrun : (execOp a.eval o).run P w = .ok (.value v) w') (dst : Option Tmp) (hd : o.dst = dst) (h : K (a.put dst v) w') : o.wpIn (Fence.wide.inRound l) n P a w K Q := by
  subst hd
  refine ⟨fun _ _ => trivial, ?_⟩
  rw [Oper.semAt_eq _ _ _ hnd, hrun, Oper.uponIn_value]
  exact h
theorem wpIn_skip (hnd : ∀ c, o.op ≠ .defer c) (hrun : (execOp a.eval o).run P w = .ok .skip w') (dst : Option Tmp) (hd : o.dst = dst) (h : K (a.put dst undef) w') : o.wpIn (Fence.wide.inRound l) n P a w K Q := by
  subst hd
  refine ⟨fun _ _ => trivial, ?_⟩
  rw [Oper.semAt_eq _ _ _ hnd, hrun, Oper.uponIn_skip]
  exact h
theorem wpIn_enter (hnd : ∀ c, o.op ≠ .defer c) (f : FuncId) (args : Array Value) (hrun : (execOp a.eval o).run P w = .ok (.enter f args) w) (dst : Option Tmp) (hd : o.dst = dst) (v : Value) (R : World → Prop)
    (hc : Calls P f args w fun e w' => e = .returned v ∧ R w') (h : ∀ w', R w' → K (a.put dst v) w') : o.wpIn (Fence.wide.inRound l) n P a w K Q := by
  subst hd
  refine ⟨fun _ _ => trivial, ?_⟩
  rw [Oper.semAt_eq _ _ _ hnd, hrun, Oper.uponIn_enter]
  refine ⟨fun h => by simp [Fence.inRound, Fence.wide] at h, ?_⟩
  refine (CallsIn.inRound l (callsIn_wide.2 hc)).mono ?_
  rintro e w'' ⟨rfl, hr⟩
  exact h _ hr
theorem wpOpIn_plain {F : Fence} {ops : Array Oper} {i : Nat} (ho : ops[i]? = some o) (hg : o.guard = none) (h : o.wpIn F n P a w K Q) : wpOpIn F n P ops Q i K a w := by
  unfold wpOpIn
  simp only [ho]
  rw [if_pos (by simp [Region.wanted, hg])]
  exact h
theorem runOp_load_row (ty : TypeId) (x : Operand) (ho : o.op = .load ty x)
    (g : Nat) (hx : a.eval x = .pointer (some ⟨g, 0, none⟩)) (t : TypeId) (cs : Array Value) (fr : Nat × Nat) (d : TypeDesc) (hg : w.heap[g]? = some (.cells cs t fr))
    (hu : P.underlying ty = some d) (hd : (match d with | .struct _ | .array _ _ => true | _ => false) = true) (hi : (P.info? ty).map (·.size) = some cs.size) :
    (execOp a.eval o).run P w = .ok (.value (.agg cs)) w := by
  unfold execOp
  simp only [ho, hx, Instr.loadAt, Instr.sureAddr, Sem.run_bind, Sem.run_pure, Result.andThen_ok, run_loadVar_row w g t ty cs fr d hg hu hd hi]
theorem runOp_load_mid (ty : TypeId) (x : Operand) (ho : o.op = .load ty x)
    (b off : Nat) (hx : a.eval x = .pointer (some ⟨b, off, none⟩)) (cs : List Value) (d : TypeDesc) (hc : w.rangeAt b off cs)
    (hu : P.underlying ty = some d) (hd : d.isRow = true) (hi : (P.info? ty).map (·.size) = some cs.length) :
    (execOp a.eval o).run P w = .ok (.value (.agg cs.toArray)) w := by
  unfold execOp
  simp only [ho, hx, Instr.loadAt, Instr.sureAddr, Sem.run_bind, Sem.run_pure, Result.andThen_ok, run_loadVar_mid w b off ty cs d hc hu hd hi]
theorem runOp_store_row (ty : TypeId) (x y : Operand) (ho : o.op = .store ty x y)
    (g : Nat) (cells : Array Value) (hx : a.eval x = .pointer (some ⟨g, 0, none⟩)) (hy : a.eval y = .agg cells)
    (t : TypeId) (old : Array Value) (hg : w.heap[g]? = some (.cells old t (0, 0))) (hi : (P.info? ty).map (·.size) = some cells.size)
    (hold : old.size = cells.size) (h1 : cells.all (·.oneCell') = true) : (execOp a.eval o).run P w = .ok .skip (w.setRow g cells) := by
  unfold execOp
  simp only [ho, hx, hy, Instr.storeAt, Instr.sureAddr, Sem.run_bind, Sem.run_pure, Result.andThen_ok, run_storeVar_row w g t ty old cells hg hi hold h1]
theorem runOp_call (f : FuncId) (fn : Func) (hf : P.funcs[f]? = some fn) (hname : (fn.name == "runtime.NumGoroutine") = false) (hb : fn.body.isNone = false) (args : Array Value)
    (xs : Array Operand) (ts : Array TypeId) (ho : o.op = .call { callee := .value (.func f), args := xs, argTypes := ts }) (hx : xs.map a.eval = args) : (execOp a.eval o).run P w = .ok (.enter f args) w := by
  subst hx
  have hn : ¬ fn.name = "runtime.NumGoroutine" := by simpa using hname
  have hb2 : ¬ fn.body = none := fun h => by rw [h] at hb; simp at hb
  simp [execOp, ho, resolve, invoke, Act.eval, Deferred.ofValue, callFunc, hf, hn, hb2]
end
theorem win_row {g : Nat} {t : TypeId} {cs : Array Value} {w : World} (h : Blk w g t cs) (ns : Array Value) : Win g (g + 1) w (w.setRow g ns) := by
  refine ⟨rfl, rfl, rfl, by simp, fun k _ hk => setRow_other w g k ns (by omega), fun a _ => ?_⟩
  by_cases hg : a.block = g
  · have h2 := setRow_heap w g cs ns t (0, 0) h
    unfold Blk at h
    simp [World.frozen?, hg, h, h2]
  · have := setRow_other w g a.block ns hg
    simp [World.frozen?, this]
def bodyOps (c : Option Code) : Array Oper := match c with
  | some (.seq _ (.seq _ (.seq _ (.seq _ (.seq (.seq _ (.block _ (.rangeFunc _ _ _ (.block _ (.region _ ops _))))) _))))) => ops
  | _ => #[]
def may28 (b0 b1 b2 b3 b4 b5 : Bool) (i : Nat) : Bool :=
  (i == 0 && !b0) || (i == 1 && !b1) || (i == 2 && !b2 && b1) || (i == 3 && !b3 && b2) || (i == 4 && !b4 && b0 && b3) || (i == 5 && !b5 && b4 && b0 && b3)
def chk28 (ops : Array Oper) (b0 b1 b2 b3 b4 b5 : Bool) : Bool :=
  (Region.ready .any ops #[b0, b1, b2, b3, b4, b5]).all (may28 b0 b1 b2 b3 b4 b5) && (!(Region.ready .any ops #[b0, b1, b2, b3, b4, b5]).isEmpty || (b0 && b1 && b2 && b3 && b4 && b5))
theorem all28 : (both fun b0 => both fun b1 => both fun b2 => both fun b3 => both fun b4 => both fun b5 => chk28 (bodyOps Try.f67.body) b0 b1 b2 b3 b4 b5) = true := by kernel_rfl
theorem yes28 (b0 b1 b2 b3 b4 b5 : Bool) : chk28 (bodyOps Try.f67.body) b0 b1 b2 b3 b4 b5 = true :=
  both_yes (both_yes (both_yes (both_yes (both_yes (both_yes all28 b0) b1) b2) b3) b4) b5
theorem ready28 (b0 b1 b2 b3 b4 b5 : Bool) (i : Nat) (h : i ∈ Region.ready .any (bodyOps Try.f67.body) #[b0, b1, b2, b3, b4, b5]) : may28 b0 b1 b2 b3 b4 b5 i = true := by
  have := yes28 b0 b1 b2 b3 b4 b5
  unfold chk28 at this
  rw [Bool.and_eq_true] at this
  exact List.all_eq_true.1 this.1 i h
theorem done28 (b0 b1 b2 b3 b4 b5 : Bool) (h : Region.ready .any (bodyOps Try.f67.body) #[b0, b1, b2, b3, b4, b5] = []) : (b0 && b1 && b2 && b3 && b4 && b5) = true := by
  have := yes28 b0 b1 b2 b3 b4 b5
  unfold chk28 at this
  rw [Bool.and_eq_true, h] at this
  simpa using this.2
def fr28 (x0 x1 x2 x3 x4 x5 x6 x7 x8 x9 x10 x11 x12 x13 x14 x15 x16 x17 x18 t19 t20 t21 t22 t23 x24 x25 x26 : Value) : Act := { tmps := #[x0, x1, x2, x3, x4, x5, x6, x7, x8, x9, x10, x11, x12, x13, x14, x15, x16, x17, x18, t19, t20, t21, t22, t23, x24, x25, x26], defers := [] }
def J28 (w0 : World) (x0 x1 x2 x3 x4 x5 x6 x7 x8 x9 x10 x11 x12 x13 x14 x15 x16 x17 x18 x24 x25 x26 : Value) (g4 : Nat) (s : Array Value) (bb off : Nat) (cl : List Value) (ns : Array Value) (b0 b1 b2 b3 b4 b5 : Bool) (a : Act) (w : World) : Prop :=
  ∃ t19 t20 t21 t22 t23, a = fr28 x0 x1 x2 x3 x4 x5 x6 x7 x8 x9 x10 x11 x12 x13 x14 x15 x16 x17 x18 t19 t20 t21 t22 t23 x24 x25 x26 ∧ Win g4 (g4 + 1) w0 w ∧ Blk w g4 96 (if b5 then ns else s) ∧ (b0 = true → t19 = .agg s) ∧ (b1 = true → t20 = x5) ∧ (b2 = true → t21 = .pointer (some ⟨bb, off, none⟩)) ∧ (b3 = true → t22 = .agg cl.toArray) ∧ (b4 = true → t23 = .agg ns ∧ b0 = true ∧ b3 = true) ∧ (b5 = true → b0 = true)
set_option maxRecDepth 100000 in
theorem reg28 (l n' : Nat) (w0 : World) (x0 x1 x2 x3 x4 x5 x6 x7 x8 x9 x10 x11 x12 x13 x14 x15 x16 x17 x18 x24 x25 x26 : Value) (g4 : Nat) (s : Array Value) (bb off n c : Nat) (cl : List Value) (ns : Array Value) (Q : Exit → Act → World → Prop)
    (hx5 : x5 = .slice (some ⟨bb, off, none⟩) n c) (hn : 64 ≤ n) (hx4 : x4 = .pointer (some ⟨g4, 0, none⟩)) (hr0 : w0.rangeAt bb off cl) (hbb : bb < w0.heap.size) (hne : bb ≠ g4)
    (hc73 : ∀ w, Calls Try.prog 78 #[.agg s, .agg cl.toArray] w fun e w' => e = .returned (.agg ns) ∧ Below w.heap.size w w')
    (hsb : (Try.prog.info? 85).map (·.size) = some cl.length) (hss : (Try.prog.info? 96).map (·.size) = some s.size)
    (hsn : (Try.prog.info? 96).map (·.size) = some ns.size) (hsn2 : s.size = ns.size) (hn1 : ns.all (·.oneCell') = true)
    (hQ : ∀ a w, Win g4 (g4 + 1) w0 w → Blk w g4 96 ns → Q .normal a w) :
    ∀ (fuel : Nat) (b0 b1 b2 b3 b4 b5 : Bool) (a : Act) (w : World), cnt b0 + cnt b1 + cnt b2 + cnt b3 + cnt b4 + cnt b5 ≤ fuel → J28 w0 x0 x1 x2 x3 x4 x5 x6 x7 x8 x9 x10 x11 x12 x13 x14 x15 x16 x17 x18 x24 x25 x26 g4 s bb off cl ns b0 b1 b2 b3 b4 b5 a w →
      wpAnyIn (Fence.wide.inRound l) n' Try.prog .any (bodyOps Try.f67.body) Q fuel #[b0, b1, b2, b3, b4, b5] a w := by
  intro fuel
  have fin : ∀ (b0 b1 b2 b3 b4 b5 : Bool) (a : Act) (w : World), J28 w0 x0 x1 x2 x3 x4 x5 x6 x7 x8 x9 x10 x11 x12 x13 x14 x15 x16 x17 x18 x24 x25 x26 g4 s bb off cl ns b0 b1 b2 b3 b4 b5 a w → (b0 && b1 && b2 && b3 && b4 && b5) = true → Q .normal a w := by
    intro b0 b1 b2 b3 b4 b5 a w hJ h
    simp only [Bool.and_eq_true] at h
    obtain ⟨⟨⟨⟨⟨rfl, rfl⟩, rfl⟩, rfl⟩, rfl⟩, rfl⟩ := h
    obtain ⟨t19, t20, t21, t22, t23, rfl, hW, hB, _⟩ := hJ
    exact hQ _ w hW hB
  induction fuel with
  | zero =>
    intro b0 b1 b2 b3 b4 b5 a w hc hJ
    have hall : b0 = true ∧ b1 = true ∧ b2 = true ∧ b3 = true ∧ b4 = true ∧ b5 = true := by
      cases b0 <;> cases b1 <;> cases b2 <;> cases b3 <;> cases b4 <;> cases b5 <;> simp [cnt] at hc ⊢
    obtain ⟨rfl, rfl, rfl, rfl, rfl, rfl⟩ := hall
    exact ⟨by kernel_rfl, fin _ _ _ _ _ _ a w hJ rfl⟩
  | succ fuel ih =>
    intro b0 b1 b2 b3 b4 b5 a w hc hJ
    refine ⟨fun h => fin _ _ _ _ _ _ a w hJ (done28 _ _ _ _ _ _ h), fun i hi => ?_⟩
    have hm := ready28 _ _ _ _ _ _ i hi
    clear hi
    obtain ⟨t19, t20, t21, t22, t23, rfl, hW, hB, h0, h1, h2, h3, h4, h5⟩ := hJ
    simp only [may28, Bool.or_eq_true, Bool.and_eq_true, beq_iff_eq, Bool.not_eq_true'] at hm
    rcases hm with ((((⟨rfl, rfl⟩ | ⟨rfl, rfl⟩) | ⟨⟨rfl, rfl⟩, rfl⟩) | ⟨⟨rfl, rfl⟩, rfl⟩) | ⟨⟨⟨rfl, rfl⟩, rfl⟩, rfl⟩) | ⟨⟨⟨⟨rfl, rfl⟩, rfl⟩, rfl⟩, rfl⟩
    · obtain ⟨o, ho, hop, hdst, hgd⟩ := op_parts (ops := (bodyOps Try.f67.body)) (i := 0) (op := Op.load 96 (Operand.tmp 4)) (dst := some 19) (by kernel_rfl)
      refine wpOpIn_plain ho hgd ?_
      have e5 : b5 = false := by cases b5 with | false => rfl | true => exact absurd (h5 rfl) (by simp)
      subst e5
      refine wpIn_value (fun c h => by rw [hop] at h; cases h) _ (runOp_load_row 96 _ hop g4 (by rw [← hx4]; rfl) 96 s (0, 0) (.array 8 94) hB (by kernel_rfl) rfl hss) _ hdst ?_
      refine ih true b1 b2 b3 b4 false _ _ (by simp [cnt] at hc ⊢; omega) ?_
      exact ⟨_, t20, t21, t22, t23, rfl, hW, hB, fun _ => rfl, h1, h2, h3, fun h => ⟨(h4 h).1, rfl, (h4 h).2.2⟩, fun _ => rfl⟩
    · obtain ⟨o, ho, hop, hdst, hgd⟩ := op_parts (ops := (bodyOps Try.f67.body)) (i := 1) (op := Op.move (Operand.tmp 5)) (dst := some 20) (by kernel_rfl)
      refine wpOpIn_plain ho hgd ?_
      refine wpIn_value (w' := w) (fun c h => by rw [hop] at h; cases h) x5 (by unfold execOp; simp only [hop]; rfl) _ hdst ?_
      refine ih b0 true b2 b3 b4 b5 _ _ (by simp [cnt] at hc ⊢; omega) ?_
      exact ⟨t19, _, t21, t22, t23, rfl, hW, hB, h0, fun _ => rfl, h2, h3, h4, h5⟩
    · obtain ⟨o, ho, hop, hdst, hgd⟩ := op_parts (ops := (bodyOps Try.f67.body)) (i := 2) (op := Op.sliceToArrayPointer 85 (Operand.tmp 20)) (dst := some 21) (by kernel_rfl)
      refine wpOpIn_plain ho hgd ?_
      have e20 := h1 rfl
      refine wpIn_value (w' := w) (fun c h => by rw [hop] at h; cases h) (.pointer (some ⟨bb, off, none⟩)) (by
        have := arr84 (some ⟨bb, off, none⟩) n c hn w
        rw [← hx5, ← e20] at this
        unfold execOp
        simp only [hop, Sem.run_bind]
        rw [show Act.eval (fr28 x0 x1 x2 x3 x4 x5 x6 x7 x8 x9 x10 x11 x12 x13 x14 x15 x16 x17 x18 t19 t20 t21 t22 t23 x24 x25 x26) (Operand.tmp 20) = t20 from rfl, this]
        rfl) _ hdst ?_
      refine ih b0 true true b3 b4 b5 _ _ (by simp [cnt] at hc ⊢; omega) ?_
      exact ⟨t19, t20, _, t22, t23, rfl, hW, hB, h0, h1, fun _ => rfl, h3, h4, h5⟩
    · obtain ⟨o, ho, hop, hdst, hgd⟩ := op_parts (ops := (bodyOps Try.f67.body)) (i := 3) (op := Op.load 85 (Operand.tmp 21)) (dst := some 22) (by kernel_rfl)
      refine wpOpIn_plain ho hgd ?_
      obtain rfl := h2 rfl
      have hr : w.rangeAt bb off cl := fun j v hv => (hW.cell (p := ⟨bb, off + j, none⟩) hbb (by show bb < g4 ∨ g4 + 1 ≤ bb; omega)).trans (hr0 j v hv)
      refine wpIn_value (fun c h => by rw [hop] at h; cases h) _ (runOp_load_mid 85 _ hop bb off rfl cl (.array 64 5) hr (by kernel_rfl) rfl hsb) _ hdst ?_
      refine ih b0 b1 true true b4 b5 _ _ (by simp [cnt] at hc ⊢; omega) ?_
      exact ⟨t19, t20, _, _, t23, rfl, hW, hB, h0, h1, h2, fun _ => rfl, fun h => ⟨(h4 h).1, (h4 h).2.1, rfl⟩, h5⟩
    · obtain ⟨o, ho, hop, hdst, hgd⟩ := op_parts (ops := (bodyOps Try.f67.body)) (i := 4) (op := Op.call { callee := Callee.value (Operand.func 78), args := #[Operand.tmp 19, Operand.tmp 22], argTypes := #[96, 85] }) (dst := some 23) (by kernel_rfl)
      refine wpOpIn_plain ho hgd ?_
      obtain rfl := h0 rfl
      obtain rfl := h3 rfl
      refine wpIn_enter (fun c h => by rw [hop] at h; cases h) 78 #[.agg s, .agg cl.toArray] (runOp_call _ _ Try.func78 (by kernel_rfl) (by kernel_rfl) _ #[.tmp 19, .tmp 22] _ hop (by simp [fr28, Act.eval])) _ hdst (.agg ns) _ (hc73 w) (fun w' hb => ih true b1 b2 true true b5 _ _ (by simp [cnt] at hc ⊢; omega) ?_)
      exact ⟨_, t20, t21, _, _, rfl, hW.trans (Win.of_below hb), hB.below hb, h0, h1, h2, h3, fun _ => ⟨rfl, rfl, rfl⟩, h5⟩
    · obtain ⟨o, ho, hop, hdst, hgd⟩ := op_parts (ops := (bodyOps Try.f67.body)) (i := 5) (op := Op.store 96 (Operand.tmp 4) (Operand.tmp 23)) (dst := none) (by kernel_rfl)
      refine wpOpIn_plain ho hgd ?_
      obtain ⟨rfl, _, _⟩ := h4 rfl
      refine wpIn_skip (fun c h => by rw [hop] at h; cases h) (runOp_store_row 96 _ _ hop g4 ns (by rw [← hx4]; rfl) rfl 96 s hB hsn hsn2 hn1) _ hdst ?_
      refine ih true b1 b2 true true true _ _ (by simp [cnt] at hc ⊢; omega) ?_
      exact ⟨t19, t20, t21, t22, _, rfl, hW.trans (win_row hB ns), setRow_heap _ _ _ _ _ _ hB, h0, h1, h2, h3, h4, fun _ => rfl⟩
end Go.Proofs.Ytacdnednkglobaa
