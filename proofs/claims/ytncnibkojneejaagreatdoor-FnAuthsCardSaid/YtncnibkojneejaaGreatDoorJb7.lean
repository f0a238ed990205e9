import Derived.Test.YtncnibkojneejaaGreatDoorJb6
import Derived.OrdersIn
import Derived.Test.YtncnibkojneejaaGreatDoorJb5
import Derived.Test.YtncnibkojneejaaGreatDoorJa7
import Derived.Test.YtncnibkojneejaaGreatDoorJb3

/- The body of Sha256's loop: the region that draws its order, in a round, by an invariant. -/
namespace Go.Proofs.YtncnibkojneejaaGreatDoor
open Go.RowKit Go.Deep Go.Shelf

section
variable {l n : Nat} {P : Program} {o : Oper} {a : Act} {w w' : World} {K : Act → World → Prop} {Q : Exit → Act → World → Prop}
theorem wpIn_value (hnd : ∀ c, o.op ≠ .defer c) (v : Value) (hrun : (execOp a.eval o).run P w = .ok (.value v) w') (dst : Option Tmp) (hd : o.dst = dst) (h : K (a.put dst v) w') : o.wpIn (Fence.wide.inRound l) n P a w K Q := by
  subst hd
  refine ⟨fun _ _ => trivial, ?_⟩
  rw [Oper.semAt_eq _ _ _ hnd, hrun, Oper.uponIn_value]
  exact h
theorem wpIn_skip (hnd : ∀ c, o.op ≠ .defer c) (hrun : (execOp a.eval o).run P w = .ok .skip w') (dst : Option Tmp) (hd : o.dst = dst) (h : K (a.put dst undef) w') : o.wpIn (Fence.wide.inRound l) n P a w K Q := by
  subst hd
  refine ⟨fun _ _ => trivial, ?_⟩
  rw [Oper.semAt_eq _ _ _ hnd, hrun, Oper.uponIn_skip]
  exact h
theorem wpIn_enter (hnd : ∀ c, o.op ≠ .defer c) (f : FuncId) (args : Array Value) (hrun : (execOp a.eval o).run P w = .ok (.enter f args) w) (dst : Option Tmp) (hd : o.dst = dst) (v : Value) (R : World → Prop)
    (hc : Calls P f args w fun e w' => e = .returned v ∧ R w') (h : ∀ w', R w' → K (a.put dst v) w') : o.wpIn (Fence.wide.inRound l) n P a w K Q := by
  subst hd
  refine ⟨fun _ _ => trivial, ?_⟩
  rw [Oper.semAt_eq _ _ _ hnd, hrun, Oper.uponIn_enter]
  refine ⟨fun h => by simp [Fence.inRound, Fence.wide] at h, ?_⟩
  refine (CallsIn.inRound l (callsIn_wide.2 hc)).mono ?_
  rintro e w'' ⟨rfl, hr⟩
  exact h _ hr
theorem wpOpIn_plain {F : Fence} {ops : Array Oper} {i : Nat} (ho : ops[i]? = some o) (hg : o.guard = none) (h : o.wpIn F n P a w K Q) : wpOpIn F n P ops Q i K a w := by
  unfold wpOpIn
  simp only [ho]
  rw [if_pos (by simp [Region.wanted, hg])]
  exact h
theorem runOp_load_row (ty : TypeId) (x : Operand) (ho : o.op = .load ty x)
    (g : Nat) (hx : a.eval x = .pointer (some ⟨g, 0, none⟩)) (t : TypeId) (cs : Array Value) (fr : Nat × Nat) (d : TypeDesc) (hg : w.heap[g]? = some (.cells cs t fr))
    (hu : P.underlying ty = some d) (hd : (match d with | .struct _ | .array _ _ => true | _ => false) = true) (hi : (P.info? ty).map (·.size) = some cs.size) :
    (execOp a.eval o).run P w = .ok (.value (.agg cs)) w := by
  unfold execOp
  simp only [ho, hx, Instr.loadAt, Instr.sureAddr, Sem.run_bind, Sem.run_pure, Result.andThen_ok, run_loadVar_row w g t ty cs fr d hg hu hd hi]
theorem runOp_load_mid (ty : TypeId) (x : Operand) (ho : o.op = .load ty x)
    (b off : Nat) (hx : a.eval x = .pointer (some ⟨b, off, none⟩)) (cs : List Value) (d : TypeDesc) (hc : w.rangeAt b off cs)
    (hu : P.underlying ty = some d) (hd : d.isRow = true) (hi : (P.info? ty).map (·.size) = some cs.length) :
    (execOp a.eval o).run P w = .ok (.value (.agg cs.toArray)) w := by
  unfold execOp
  simp only [ho, hx, Instr.loadAt, Instr.sureAddr, Sem.run_bind, Sem.run_pure, Result.andThen_ok, run_loadVar_mid w b off ty cs d hc hu hd hi]
theorem runOp_store_row (ty : TypeId) (x y : Operand) (ho : o.op = .store ty x y)
    (g : Nat) (cells : Array Value) (hx : a.eval x = .pointer (some ⟨g, 0, none⟩)) (hy : a.eval y = .agg cells)
    (t : TypeId) (old : Array Value) (hg : w.heap[g]? = some (.cells old t (0, 0))) (hi : (P.info? ty).map (·.size) = some cells.size)
    (hold : old.size = cells.size) (h1 : cells.all (·.oneCell') = true) : (execOp a.eval o).run P w = .ok .skip (w.setRow g cells) := by
  unfold execOp
  simp only [ho, hx, hy, Instr.storeAt, Instr.sureAddr, Sem.run_bind, Sem.run_pure, Result.andThen_ok, run_storeVar_row w g t ty old cells hg hi hold h1]
theorem runOp_call (f : FuncId) (fn : Func) (hf : P.funcs[f]? = some fn) (hname : (fn.name == "runtime.NumGoroutine") = false) (hb : fn.body.isNone = false) (args : Array Value)
    (xs : Array Operand) (ts : Array TypeId) (ho : o.op = .call { callee := .value (.func f), args := xs, argTypes := ts }) (hx : xs.map a.eval = args) : (execOp a.eval o).run P w = .ok (.enter f args) w := by
  subst hx
  have hn : ¬ fn.name = "runtime.NumGoroutine" := by simpa using hname
  have hb2 : ¬ fn.body = none := fun h => by rw [h] at hb; simp at hb
  simp [execOp, ho, resolve, invoke, Act.eval, Deferred.ofValue, callFunc, hf, hn, hb2]
end
theorem win_row {g : Nat} {t : TypeId} {cs : Array Value} {w : World} (h : Blk w g t cs) (ns : Array Value) : Win g (g + 1) w (w.setRow g ns) := by
  refine ⟨rfl, rfl, rfl, by simp, fun k _ hk => setRow_other w g k ns (by omega), fun a _ => ?_⟩
  by_cases hg : a.block = g
  · have h2 := setRow_heap w g cs ns t (0, 0) h
    unfold Blk at h
    simp [World.frozen?, hg, h, h2]
  · have := setRow_other w g a.block ns hg
    simp [World.frozen?, this]
def bodyOps (c : Option Code) : Array Oper := match c with
  | some (.seq _ (.seq _ (.seq _ (.seq _ (.seq (.seq _ (.block _ (.rangeFunc _ _ _ (.block _ (.region _ ops _))))) _))))) => ops
  | _ => #[]
def may28 (b0 b1 b2 b3 b4 b5 : Bool) (i : Nat) : Bool :=
  (i == 0 && !b0) || (i == 1 && !b1) || (i == 2 && !b2 && b1) || (i == 3 && !b3 && b2) || (i == 4 && !b4 && b0 && b3) || (i == 5 && !b5 && b4 && b0 && b3)
def chk28 (ops : Array Oper) (b0 b1 b2 b3 b4 b5 : Bool) : Bool :=
  (Region.ready .any ops #[b0, b1, b2, b3, b4, b5]).all (may28 b0 b1 b2 b3 b4 b5) && (!(Region.ready .any ops #[b0, b1, b2, b3, b4, b5]).isEmpty || (b0 && b1 && b2 && b3 && b4 && b5))
theorem all28 : (both fun b0 => both fun b1 => both fun b2 => both fun b3 => both fun b4 => both fun b5 => chk28 (bodyOps Tryz.f79.body) b0 b1 b2 b3 b4 b5) = true := by kernel_rfl
theorem yes28 (b0 b1 b2 b3 b4 b5 : Bool) : chk28 (bodyOps Tryz.f79.body) b0 b1 b2 b3 b4 b5 = true :=
  both_yes (both_yes (both_yes (both_yes (both_yes (both_yes all28 b0) b1) b2) b3) b4) b5
theorem ready28 (b0 b1 b2 b3 b4 b5 : Bool) (i : Nat) (h : i ∈ Region.ready .any (bodyOps Tryz.f79.body) #[b0, b1, b2, b3, b4, b5]) : may28 b0 b1 b2 b3 b4 b5 i = true := by
  have := yes28 b0 b1 b2 b3 b4 b5
  unfold chk28 at this
  rw [Bool.and_eq_true] at this
  exact List.all_eq_true.1 this.1 i h
theorem done28 (b0 b1 b2 b3 b4 b5 : Bool) (h : Region.ready .any (bodyOps Tryz.f79.body) #[b0, b1, b2, b3, b4, b5] = []) : (b0 && b1 && b2 && b3 && b4 && b5) = true := by
  have := yes28 b0 b1 b2 b3 b4 b5
  unfold chk28 at this
  rw [Bool.and_eq_true, h] at this
  simpa using this.2
def fr28 (x0 x1 x2 x3 x4 x5 x6 x7 x8 x9 x10 x11 x12 x13 x14 x15 x16 x17 x18 t19 t20 t21 t22 t23 x24 x25 x26 : Value) : Act := { tmps := #[x0, x1, x2, x3, x4, x5, x6, x7, x8, x9, x10, x11, x12, x13, x14, x15, x16, x17, x18, t19, t20, t21, t22, t23, x24, x25, x26], defers := [] }
def J28 (w0 : World) (x0 x1 x2 x3 x4 x5 x6 x7 x8 x9 x10 x11 x12 x13 x14 x15 x16 x17 x18 x24 x25 x26 : Value) (g4 : Nat) (s : Array Value) (bb off : Nat) (cl : List Value) (ns : Array Value) (b0 b1 b2 b3 b4 b5 : Bool) (a : Act) (w : World) : Prop :=
  ∃ t19 t20 t21 t22 t23, a = fr28 x0 x1 x2 x3 x4 x5 x6 x7 x8 x9 x10 x11 x12 x13 x14 x15 x16 x17 x18 t19 t20 t21 t22 t23 x24 x25 x26 ∧ Win g4 (g4 + 1) w0 w ∧ Blk w g4 152 (if b5 then ns else s) ∧ (b0 = true → t19 = .agg s) ∧ (b1 = true → t20 = x5) ∧ (b2 = true → t21 = .pointer (some ⟨bb, off, none⟩)) ∧ (b3 = true → t22 = .agg cl.toArray) ∧ (b4 = true → t23 = .agg ns ∧ b0 = true ∧ b3 = true) ∧ (b5 = true → b0 = true)
set_option maxRecDepth 100000 in
theorem reg28 (l n' : Nat) (w0 : World) (x0 x1 x2 x3 x4 x5 x6 x7 x8 x9 x10 x11 x12 x13 x14 x15 x16 x17 x18 x24 x25 x26 : Value) (g4 : Nat) (s : Array Value) (bb off n c : Nat) (cl : List Value) (ns : Array Value) (Q : Exit → Act → World → Prop)
    (hx5 : x5 = .slice (some ⟨bb, off, none⟩) n c) (hn : 64 ≤ n) (hx4 : x4 = .pointer (some ⟨g4, 0, none⟩)) (hr0 : w0.rangeAt bb off cl) (hbb : bb < w0.heap.size) (hne : bb ≠ g4)
    (hc73 : ∀ w, Calls Tryz.prog 96 #[.agg s, .agg cl.toArray] w fun e w' => e = .returned (.agg ns) ∧ Below w.heap.size w w')
    (hsb : (Tryz.prog.info? 124).map (·.size) = some cl.length) (hss : (Tryz.prog.info? 152).map (·.size) = some s.size)
    (hsn : (Tryz.prog.info? 152).map (·.size) = some ns.size) (hsn2 : s.size = ns.size) (hn1 : ns.all (·.oneCell') = true)
    (hQ : ∀ a w, Win g4 (g4 + 1) w0 w → Blk w g4 152 ns → Q .normal a w) :
    ∀ (fuel : Nat) (b0 b1 b2 b3 b4 b5 : Bool) (a : Act) (w : World), cnt b0 + cnt b1 + cnt b2 + cnt b3 + cnt b4 + cnt b5 ≤ fuel → J28 w0 x0 x1 x2 x3 x4 x5 x6 x7 x8 x9 x10 x11 x12 x13 x14 x15 x16 x17 x18 x24 x25 x26 g4 s bb off cl ns b0 b1 b2 b3 b4 b5 a w →
      wpAnyIn (Fence.wide.inRound l) n' Tryz.prog .any (bodyOps Tryz.f79.body) Q fuel #[b0, b1, b2, b3, b4, b5] a w := by
  intro fuel
  have fin : ∀ (b0 b1 b2 b3 b4 b5 : Bool) (a : Act) (w : World), J28 w0 x0 x1 x2 x3 x4 x5 x6 x7 x8 x9 x10 x11 x12 x13 x14 x15 x16 x17 x18 x24 x25 x26 g4 s bb off cl ns b0 b1 b2 b3 b4 b5 a w → (b0 && b1 && b2 && b3 && b4 && b5) = true → Q .normal a w := by
    intro b0 b1 b2 b3 b4 b5 a w hJ h
    simp only [Bool.and_eq_true] at h
    obtain ⟨⟨⟨⟨⟨rfl, rfl⟩, rfl⟩, rfl⟩, rfl⟩, rfl⟩ := h
    obtain ⟨t19, t20, t21, t22, t23, rfl, hW, hB, _⟩ := hJ
    exact hQ _ w hW hB
  induction fuel with
  | zero =>
    intro b0 b1 b2 b3 b4 b5 a w hc hJ
    have hall : b0 = true ∧ b1 = true ∧ b2 = true ∧ b3 = true ∧ b4 = true ∧ b5 = true := by
      cases b0 <;> cases b1 <;> cases b2 <;> cases b3 <;> cases b4 <;> cases b5 <;> simp [cnt] at hc ⊢
    obtain ⟨rfl, rfl, rfl, rfl, rfl, rfl⟩ := hall
    exact ⟨by kernel_rfl, fin _ _ _ _ _ _ a w hJ rfl⟩
  | succ fuel ih =>
    intro b0 b1 b2 b3 b4 b5 a w hc hJ
    refine ⟨fun h => fin _ _ _ _ _ _ a w hJ (done28 _ _ _ _ _ _ h), fun i hi => ?_⟩
    have hm := ready28 _ _ _ _ _ _ i hi
    clear hi
    obtain ⟨t19, t20, t21, t22, t23, rfl, hW, hB, h0, h1, h2, h3, h4, h5⟩ := hJ
    simp only [may28, Bool.or_eq_true, Bool.and_eq_true, beq_iff_eq, Bool.not_eq_true'] at hm
    rcases hm with ((((⟨rfl, rfl⟩ | ⟨rfl, rfl⟩) | ⟨⟨rfl, rfl⟩, rfl⟩) | ⟨⟨rfl, rfl⟩, rfl⟩) | ⟨⟨⟨rfl, rfl⟩, rfl⟩, rfl⟩) | ⟨⟨⟨⟨rfl, rfl⟩, rfl⟩, rfl⟩, rfl⟩
    · obtain ⟨o, ho, hop, hdst, hgd⟩ := op_parts (ops := (bodyOps Tryz.f79.body)) (i := 0) (op := Op.load 152 (Operand.tmp 4)) (dst := some 19) (by kernel_rfl)
      refine wpOpIn_plain ho hgd ?_
      have e5 : b5 = false := by cases b5 with | false => rfl | true => exact absurd (h5 rfl) (by simp)
      subst e5
      refine wpIn_value (fun c h => by rw [hop] at h; cases h) _ (runOp_load_row 152 _ hop g4 (by rw [← hx4]; rfl) 152 s (0, 0) (.array 8 150) hB (by kernel_rfl) rfl hss) _ hdst ?_
      refine ih true b1 b2 b3 b4 false _ _ (by simp [cnt] at hc ⊢; omega) ?_
      exact ⟨_, t20, t21, t22, t23, rfl, hW, hB, fun _ => rfl, h1, h2, h3, fun h => ⟨(h4 h).1, rfl, (h4 h).2.2⟩, fun _ => rfl⟩
    · obtain ⟨o, ho, hop, hdst, hgd⟩ := op_parts (ops := (bodyOps Tryz.f79.body)) (i := 1) (op := Op.move (Operand.tmp 5)) (dst := some 20) (by kernel_rfl)
      refine wpOpIn_plain ho hgd ?_
      refine wpIn_value (w' := w) (fun c h => by rw [hop] at h; cases h) x5 (by unfold execOp; simp only [hop]; rfl) _ hdst ?_
      refine ih b0 true b2 b3 b4 b5 _ _ (by simp [cnt] at hc ⊢; omega) ?_
      exact ⟨t19, _, t21, t22, t23, rfl, hW, hB, h0, fun _ => rfl, h2, h3, h4, h5⟩
    · obtain ⟨o, ho, hop, hdst, hgd⟩ := op_parts (ops := (bodyOps Tryz.f79.body)) (i := 2) (op := Op.sliceToArrayPointer 124 (Operand.tmp 20)) (dst := some 21) (by kernel_rfl)
      refine wpOpIn_plain ho hgd ?_
      have e20 := h1 rfl
      refine wpIn_value (w' := w) (fun c h => by rw [hop] at h; cases h) (.pointer (some ⟨bb, off, none⟩)) (by
        have := arr84 (some ⟨bb, off, none⟩) n c hn w
        rw [← hx5, ← e20] at this
        unfold execOp
        simp only [hop, Sem.run_bind]
        rw [show Act.eval (fr28 x0 x1 x2 x3 x4 x5 x6 x7 x8 x9 x10 x11 x12 x13 x14 x15 x16 x17 x18 t19 t20 t21 t22 t23 x24 x25 x26) (Operand.tmp 20) = t20 from rfl, this]
        rfl) _ hdst ?_
      refine ih b0 true true b3 b4 b5 _ _ (by simp [cnt] at hc ⊢; omega) ?_
      exact ⟨t19, t20, _, t22, t23, rfl, hW, hB, h0, h1, fun _ => rfl, h3, h4, h5⟩
    · obtain ⟨o, ho, hop, hdst, hgd⟩ := op_parts (ops := (bodyOps Tryz.f79.body)) (i := 3) (op := Op.load 124 (Operand.tmp 21)) (dst := some 22) (by kernel_rfl)
      refine wpOpIn_plain ho hgd ?_
      obtain rfl := h2 rfl
      have hr : w.rangeAt bb off cl := fun j v hv => (hW.cell (p := ⟨bb, off + j, none⟩) hbb (by show bb < g4 ∨ g4 + 1 ≤ bb; omega)).trans (hr0 j v hv)
      refine wpIn_value (fun c h => by rw [hop] at h; cases h) _ (runOp_load_mid 124 _ hop bb off rfl cl (.array 64 5) hr (by kernel_rfl) rfl hsb) _ hdst ?_
      refine ih b0 b1 true true b4 b5 _ _ (by simp [cnt] at hc ⊢; omega) ?_
      exact ⟨t19, t20, _, _, t23, rfl, hW, hB, h0, h1, h2, fun _ => rfl, fun h => ⟨(h4 h).1, (h4 h).2.1, rfl⟩, h5⟩
    · obtain ⟨o, ho, hop, hdst, hgd⟩ := op_parts (ops := (bodyOps Tryz.f79.body)) (i := 4) (op := Op.call { callee := Callee.value (Operand.func 96), args := #[Operand.tmp 19, Operand.tmp 22], argTypes := #[152, 124] }) (dst := some 23) (by kernel_rfl)
      refine wpOpIn_plain ho hgd ?_
      obtain rfl := h0 rfl
      obtain rfl := h3 rfl
      refine wpIn_enter (fun c h => by rw [hop] at h; cases h) 96 #[.agg s, .agg cl.toArray] (runOp_call _ _ Tryz.func96 (by kernel_rfl) (by kernel_rfl) _ #[.tmp 19, .tmp 22] _ hop (by simp [fr28, Act.eval])) _ hdst (.agg ns) _ (hc73 w) (fun w' hb => ih true b1 b2 true true b5 _ _ (by simp [cnt] at hc ⊢; omega) ?_)
      exact ⟨_, t20, t21, _, _, rfl, hW.trans (Win.of_below hb), hB.below hb, h0, h1, h2, h3, fun _ => ⟨rfl, rfl, rfl⟩, h5⟩
    · obtain ⟨o, ho, hop, hdst, hgd⟩ := op_parts (ops := (bodyOps Tryz.f79.body)) (i := 5) (op := Op.store 152 (Operand.tmp 4) (Operand.tmp 23)) (dst := none) (by kernel_rfl)
      refine wpOpIn_plain ho hgd ?_
      obtain ⟨rfl, _, _⟩ := h4 rfl
      refine wpIn_skip (fun c h => by rw [hop] at h; cases h) (runOp_store_row 152 _ _ hop g4 ns (by rw [← hx4]; rfl) rfl 152 s hB hsn hsn2 hn1) _ hdst ?_
      refine ih true b1 b2 true true true _ _ (by simp [cnt] at hc ⊢; omega) ?_
      exact ⟨t19, t20, t21, t22, _, rfl, hW.trans (win_row hB ns), setRow_heap _ _ _ _ _ _ hB, h0, h1, h2, h3, h4, fun _ => rfl⟩
end Go.Proofs.YtncnibkojneejaaGreatDoor

/- The program's Sha256. -/
namespace Go.Proofs.YtncnibkojneejaaGreatDoor
open Go.RowKit Go.Deep Go.Shelf
attribute [local go_sem] Oper.semAt_some

theorem blk_own {β : Type} (B g : Nat) (t : TypeId) (f : β → Array Value) : OwnFrom B (fun (s : β) W => Blk W g t (f s)) := fun _ _ _ _ hs hg hr =>
  (hg.block g (Blk.lt hs) (fun e => by
    obtain ⟨_, o, ho, hc⟩ := hr g e.symm
    unfold Blk at hs
    rw [hs] at ho
    cases ho
    simp [Obj.isCells] at hc)).trans hs
theorem keep_win {g : Nat} {t : TypeId} {cs : Array Value} {W W' : World} (h : Win g (g + 1) W W') (hb : Blk W g t cs) : KeepsOthers W W' :=
  ⟨h.size, fun k o hk ho => by
    by_cases e : k = g
    · subst e
      unfold Blk at hb
      rw [hb] at hk
      cases hk
      simp [Obj.isCells] at ho
    · exact (h.block k (Array.getElem?_eq_some_iff.1 hk).1 (by omega)).trans hk⟩
theorem ob_put {B C D : Nat} {w : World} {A : Option Addr} {l : List Int} {o o' : Obj} (h : Ob B C w A l) (hD : w.heap[D]? = some o) (ho : o.isCells = false) : Ob B C (w.putObj D o') A l := by
  rcases h with h | ⟨b, off, h1, h2, h3, h4, h5⟩
  · exact .inl h
  · refine .inr ⟨b, off, h1, h2, h3, by simpa using h4, fun j hj => ?_⟩
    have hg := grownBy_putObj' w D o'
    have hr : ∀ r, some D = some r → ∃ o : Obj, w.heap[r]? = some o ∧ o.isCells = false := fun r e => by cases e; exact ⟨o, hD, ho⟩
    exact ⟨cell_kept (h5 j hj).1 hg hr, (frozen_kept (h5 j hj).1 hg hr).trans (h5 j hj).2⟩
theorem bres_put {w0 w : World} {x : Int} {l : List Int} {e : Ending} {D : Nat} {o o' : Obj} (h : BRes w0 x l e w) (hD : w.heap[D]? = some o) (ho : o.isCells = false) (hn : w0.heap.size ≤ D) : BRes w0 x l e (w.putObj D o') := by
  obtain ⟨A, cp, rfl, hO, hB, h1, h2⟩ := h
  refine ⟨A, cp, rfl, ?_, hB.grown (grownBy_putObj' w D o') hB.size (fun k e => by cases e; exact hn), h1, h2⟩
  rw [World.putObj_size]
  exact ob_put hO hD ho
/-- The state when the pieces of these numbers have come. -/
def foldB (p : List Int) (m : Nat) (pre : List Nat) : List Nat := pre.foldl (fun st k => compN st (blk p (64 * min k (m - 1)))) startN
theorem foldB_snoc (p : List Int) (m : Nat) (pre : List Nat) (x : Nat) : foldB p m (pre ++ [x]) = compN (foldB p m pre) (blk p (64 * min x (m - 1))) := by simp [foldB]
theorem foldB_range (p : List Int) (m k : Nat) (hk : k ≤ m) : foldB p m (List.range k) = shaTo p k := by
  induction k with
  | zero => rfl
  | succ k ih => rw [List.range_succ, foldB_snoc, ih (by omega), Nat.min_eq_left (by omega)]; rfl
theorem foldB_inv (p : List Int) (m : Nat) (pre : List Nat) : (foldB p m pre).length = 8 ∧ AllW (foldB p m pre) := by
  have gen : ∀ (pre : List Nat) (st : List Nat), st.length = 8 ∧ AllW st → (pre.foldl (fun st k => compN st (blk p (64 * min k (m - 1)))) st).length = 8 ∧ AllW (pre.foldl (fun st k => compN st (blk p (64 * min k (m - 1)))) st) := by
    intro pre
    induction pre with
    | nil => exact fun st h => h
    | cons x pre ih => exact fun st h => ih _ ⟨by simp [compN], compN_all _ _⟩
  exact gen pre startN ⟨rfl, startN_all⟩
/-- What the loop keeps. -/
def IS (w0 : World) (g4 b off N5 : Nat) (p : List Int) (m : Nat) (pre : List Nat) (W : World) : Prop :=
  (Blk W g4 152 (U (foldB p m pre)) ∧ Blk W w0.heap.size 48 #[.int .i64 0, .slice none 0 0]) ∧ ((∀ j, j < p.length → W.cell? ⟨b, off + j, none⟩ = some (.int .u8 (p.getD j 0))) ∧ N5 < W.heap.size ∧ b < W.heap.size) ∧ Below w0.heap.size w0 W
theorem IS.own (w0 : World) (g4 b off N5 B : Nat) (p : List Int) (m : Nat) (hB : w0.heap.size ≤ B) : OwnFrom B (IS w0 g4 b off N5 p m) :=
  ((blk_own B g4 _ (fun pre => U (foldB p m pre))).and (blk_own B w0.heap.size _ (fun _ => _))).and ((Own.from (fun _ _ _ _ hs hg hr => ⟨fun j hj => cell_kept (hs.1 j hj) hg hr, Nat.lt_of_lt_of_le hs.2.1 hg.size, Nat.lt_of_lt_of_le hs.2.2 hg.size⟩) B).and (ownFrom_below (Nat.le_refl _) hB))
set_option maxRecDepth 100000 in
set_option maxHeartbeats 4000000 in
theorem sha_impl (A : Option Addr) (l : List Int) (c : Nat) (w : World) (hA : Bs w A l) (hl : Bytes l) (hm : (l.length : Int) ≤ 9223372036854775807) :
    Calls Tryz.prog 79 #[.slice A l.length c] w (BRes w (padC l) (shaM l)) := by
  have hA2 := bs_below hA (bal (Below.refl _ w) (.cells #[.int .i64 0, .slice none 0 0] 48))
  have hpad := padm_impl A l c _ hA2 hm
  clear hA hA2
  by_cases h : l.length ≤ 700
  · have e1 : padC l = 0 := by rw [padC, if_pos h]
    have e2 : padM l = padL l := by rw [padM, if_pos h]
    have e3 : shaM l = shaL l := by rw [shaM, if_pos h]
    rw [e1, e2] at hpad
    rw [e1, e3]
    have HPAD := hidH hpad
    have HP := hidH (padL_bytes hl (by omega))
    have H64 := hidH (padL_mod l)
    have hpl : (padL l).length ≤ 1000 := by rw [padL_len]; unfold zerosN; omega
    have hp0 : 0 < (padL l).length := by rw [padL_len]; omega
    have HSHA := hidH (show shaL l = wordsL (shaTo (padL l) ((padL l).length / 64)) 8 from rfl)
    have HZ := hidH (zero77)
    obtain ⟨z, hz⟩ : ∃ z, U (List.replicate 8 0) = z := ⟨_, rfl⟩
    obtain ⟨s0, hs0⟩ : ∃ s0, U startN = s0 := ⟨_, rfl⟩
    rw [hz] at HZ
    have HFST := hidH (show ∀ w : World, Calls Tryz.prog 94 #[] w fun e w' => e = .returned (.agg s0) ∧ Below w.heap.size w w' from hs0 ▸ first_any)
    have HSS := hidH (show (Tryz.prog.info? 152).map (·.size) = some s0.size by rw [← hs0]; kernel_rfl)
    have HZS := hidH (show z.size = s0.size by rw [← hs0, ← hz]; rfl)
    have HS1 := hidH (show s0.all (·.oneCell') = true from hs0 ▸ U_one _)
    have HS0 := hidH hs0
    generalize padL l = p at *
    clear hpad e1 e2 e3 h hz hs0
    refine (callsIn_wide (n := 9)).1 ?_
    refine callsIn_of_wp_marks Tryz.func79 rfl trivial ?_ rfl
    refine wpIn_wide.2 ?_
    simp only [Tryz.ntmps79, List.size_toArray, List.length_cons, List.length_nil, Nat.reduceAdd, Nat.reduceSub, Array.replicate_succ, Array.replicate_zero, List.push_toArray, List.append_toArray, List.nil_append, List.cons_append]
    go_wp2_with fail
    refine HPAD.out.mono ?_
    rintro e w1 ⟨P, cp, rfl, P1, b1, hcp, hcm⟩
    obtain ⟨X0, HB1⟩ := xb b1
    have X1 := hidH (Blk.new w1 48 #[.int .i64 0, .slice P p.length cp])
    have X0' := hidH (X0.out.alloc (.cells #[.int .i64 0, .slice P p.length cp] 48))
    have HB1' := hidH (bal HB1.out (.cells #[.int .i64 0, .slice P p.length cp] 48))
    have P1' := hidH (P1.bs)
    have P2 := hidH (bs_below P1.bs (bal (Below.refl _ _) (.cells #[.int .i64 0, .slice P p.length cp] 48)))
    have HC := hidH (And.intro hcp hcm)
    clear P1 b1 HB1 X0 P1' hcp hcm HPAD
    go_wp2_with fail
    refine (HFST.out _).mono ?_
    rintro e w2 ⟨rfl, b2⟩
    have Y1 := X1.out.below b2
    have Y0 := X0'.out.below b2
    have P3 := bs_below P2.out b2
    have B2 := btr HB1'.out b2
    obtain ⟨b, off, rfl, hbl, hcc⟩ : ∃ b off, P = some ⟨b, off, none⟩ ∧ b < w2.heap.size ∧ ∀ j, j < p.length → w2.cell? ⟨b, off + j, none⟩ = some (.int .u8 (p.getD j 0)) := by
      rcases P3 with h0 | h0
      · rw [h0] at hp0; simp at hp0
      · exact h0
    have HCC := hidH hcc
    have hng : w.heap.size < w2.heap.size := Y0.lt
    have Z1 := Y1.alloc (.cells s0 152)
    obtain ⟨q0, q1, qz⟩ := Z1.two
    clear b2 P2 P3 hcc X1 X0' HB1' Z1
    obtain ⟨W3, hW3⟩ : ∃ W3, w2.alloc (.cells s0 152) = W3 := ⟨_, rfl⟩
    have hs3 : W3.heap.size = w2.heap.size + 1 := by rw [← hW3]; simp
    have G4 := hidH (show Blk W3 w2.heap.size 152 s0 from hW3 ▸ Blk.new w2 152 s0)
    have Y0' := hidH (show Blk W3 w.heap.size 48 #[.int .i64 0, .slice none 0 0] from hW3 ▸ Y0.alloc (.cells s0 152))
    have B3 := hidH (show Below w.heap.size w W3 from hW3 ▸ bal B2 (.cells s0 152))
    have C3 := hidH (show Below w2.heap.size w2 W3 from hW3 ▸ bal (Below.refl _ _) (.cells s0 152))
    have HW3 := hidH hW3
    have HS3 := hidH hs3
    rw [hW3] at q0 q1 qz
    clear hW3 hs3 Y0 Y1 B2
    go_wp2_with (first | refine wpList_allocRow rfl 152 rfl _ rfl z HZ.out ?_ | (refine wpList_store_rowTo rfl _ _ _ rfl rfl w2.heap.size s0 rfl rfl 152 _ (heap_alloc_last w2 _) HSS.out HZS.out HS1.out ?_; rw [World.setRow_alloc_new, HW3.out]) | (go_at_call 95; refine (chunk_any _ _ _ _).mono ?_; rintro e w' ⟨rfl, rfl⟩))
    obtain ⟨m, hm64⟩ : ∃ m, p.length = 64 * m := ⟨p.length / 64, by have := H64.out; omega⟩
    have hdiv : p.length / 64 = m := by omega
    have hm1 : 1 ≤ m := by omega
    have hg4 : w2.heap.size < W3.heap.size := by have := HS3.out; omega
    have hseq := chunk_stops 8 W3.heap.size (W3.heap.size + 1) b off m p.length cp (by omega) hm64 (by omega) HC.out.1 HC.out.2 ((W3.alloc (.cells #[.slice (some ⟨b, off, none⟩) p.length cp] 22)).alloc (.cells #[.int .i64 64] 3))
      ((Blk.new W3 22 _).alloc _) (by have := Blk.new (W3.alloc (.cells #[.slice (some ⟨b, off, none⟩) p.length cp] 22)) 3 #[.int .i64 64]; simpa [Blk] using this)
    have HM64 := hidH hm64
    have HDIV := hidH hdiv
    clear hm64 hdiv
    refine (wpIn_wide (n := 9)).1 ?_
    refine wpIn_rangeFunc_ownF (F := Fence.wide) (n := 9) rfl (by omega) (gf := 103) (lb := #[.pointer (some ⟨W3.heap.size, 0, none⟩), .pointer (some ⟨W3.heap.size + 1, 0, none⟩)]) rfl trivial (enters_of Tryz.func103 (by kernel_rfl) rfl)
      hseq (fun h k => kpp_t h k) (kpp_b (by simp; omega) (by simp)) (Below.refl _ _) (fun _ => rfl)
      (IS w w2.heap.size b off (W3.heap.size + 1) p m) (fun _ _ _ => False) (IS.own _ _ _ _ _ _ _ _ (by simp; omega)) (fun _ _ _ _ _ hs _ _ => hs)
      ?start (fun x => { tmps := #[.slice A l.length c, undef, .pointer (some ⟨w.heap.size, 0, none⟩), .pointer (some ⟨w1.heap.size, 0, none⟩), .pointer (some ⟨w2.heap.size, 0, none⟩), ck b off m x, .slice A l.length c, .agg #[.int .i64 0, .slice (some ⟨b, off, none⟩) p.length cp], .pointer (some ⟨w1.heap.size, 0, none⟩), .int .i64 0, .bool false, undef, undef, undef, .agg s0, .pointer (some ⟨w1.heap.size, 1, none⟩), .slice (some ⟨b, off, none⟩) p.length cp, .func (.func 103) #[] #[.pointer (some ⟨W3.heap.size, 0, none⟩), .pointer (some ⟨W3.heap.size + 1, 0, none⟩)], ck b off m x, undef, undef, undef, undef, undef, undef, undef, undef], defers := [] }) ?assign ?body ?done ?stop
    case start =>
      refine ⟨⟨?_, (Y0'.out.alloc _).alloc _⟩, ⟨fun j hj => ?_, by simp, by simp; omega⟩, bal (bal B3.out _) _⟩
      · rw [show U (foldB p m []) = s0 from HS0.out]; exact (G4.out.alloc _).alloc _
      · exact ((bal (bal C3.out _) _).cell (p := ⟨b, off + j, none⟩) hbl).trans (HCC.out j hj)
    case assign =>
      intro l x W K hK
      gi_wp2
      exact hK
    case body =>
      rintro lo pre x W hI _
      obtain ⟨⟨hG, hR⟩, ⟨hD, hN5, hbW⟩, hB⟩ := hI
      have hm64 := HM64.out
      obtain ⟨h8, hst⟩ := foldB_inv p m pre
      have hmin : min x (m - 1) < m := by omega
      obtain ⟨q, hq⟩ : ∃ q, min x (m - 1) = q := ⟨_, rfl⟩
      have hsn := foldB_snoc p m pre x
      rw [hq] at hmin hsn
      have hq64 : 64 * q + 64 ≤ p.length := by omega
      have hbl64 := blk_len (p := p) (a := 64 * q) hq64
      obtain ⟨ns, hns⟩ : ∃ ns, U (foldB p m (pre ++ [x])) = ns := ⟨_, rfl⟩
      obtain ⟨s, hs⟩ : ∃ s, U (foldB p m pre) = s := ⟨_, rfl⟩
      obtain ⟨cl, hcl⟩ : ∃ cl, (blk p (64 * q)).map (Value.int .u8) = cl := ⟨_, rfl⟩
      have hcL : (foldB p m (pre ++ [x])).length = 8 := (foldB_inv p m (pre ++ [x])).1
      have hcall : ∀ w', Calls Tryz.prog 96 #[.agg s, .agg cl.toArray] w' fun e w'' => e = .returned (.agg ns) ∧ Below w'.heap.size w' w'' := fun w' => by
        have := cmp_impl (foldB p m pre) (blk p (64 * q)) w' hst h8 (blk_bytes HP.out _) hbl64
        rwa [← hsn, hns, hs, show Ub (blk p (64 * q)) = cl.toArray from by rw [← hcl]; rfl] at this
      have hrng : W.rangeAt b (off + 64 * q) cl := by
        rw [← hcl]
        refine bs_range (fun j hj => ?_)
        rw [hbl64] at hj
        have := hD (64 * q + j) (by omega)
        rw [Nat.add_assoc, this]
        simp [blk, List.getD_eq_getElem?_getD, hj]
      have hck : ck b off m x = .slice (some ⟨b, off + 64 * q, none⟩) 64 64 := by rw [ck, hq]
      have s1 : (Tryz.prog.info? 124).map (·.size) = some cl.length := by rw [← hcl, List.length_map, hbl64]; kernel_rfl
      have s2 : (Tryz.prog.info? 152).map (·.size) = some s.size := by rw [← hs, U_size, h8]; kernel_rfl
      have s3 : (Tryz.prog.info? 152).map (·.size) = some ns.size := by rw [← hns, U_size, hcL]; kernel_rfl
      have s4 : s.size = ns.size := by rw [← hs, ← hns, U_size, U_size, hcL, h8]
      have s5 : ns.all (·.oneCell') = true := hns ▸ U_one _
      rw [hs] at hG
      have hW0 : Win w2.heap.size (w2.heap.size + 1) W W.drew := Win.of_below (Below.refl _ _).drew
      have HCK := hidH hck
      rw [hck]
      refine wpIn_block ?_
      refine wpIn_region_any (by kernel_rfl) ?_
      refine reg28 lo _ W.drew ?x0 ?x1 ?x2 ?x3 ?x4 ?x5 ?x6 ?x7 ?x8 ?x9 ?x10 ?x11 ?x12 ?x13 ?x14 ?x15 ?x16 ?x17 ?x18 ?x24 ?x25 ?x26 w2.heap.size s b (off + 64 * q) 64 64 cl ns _ ?h5 (by omega) ?h4 hrng hbW (by omega) hcall s1 s2 s3 s4 s5 ?hQ 6 false false false false false false _ _ (by decide) ?J
      case J => exact ⟨undef, undef, undef, undef, undef, by rfl, Win.refl _ _ _, hG, (fun h => by cases h), (fun h => by cases h), (fun h => by cases h), (fun h => by cases h), (fun h => by cases h), (fun h => by cases h)⟩
      case h5 => rfl
      case h4 => rfl
      case hQ =>
        intro a w' hW hBk
        have hWW := hW0.trans hW
        refine ⟨keep_win hWW hG, ⟨hWW.block _ (by omega) (by omega), hWW.block _ (by omega) (by omega)⟩, ⟨by rw [hns]; exact hBk, hWW.blk hR (.inl hng)⟩, ⟨fun j hj => (hWW.cell (p := ⟨b, off + j, none⟩) hbW (.inl hbl)).trans (hD j hj), Nat.lt_of_lt_of_le hN5 hWW.size, Nat.lt_of_lt_of_le hbW hWW.size⟩, hB.trans ((hWW.below (by omega)).mono (by omega))⟩
    case stop =>
      rintro D c pre W _ _ h _
      exact h.elim
    case done =>
      rintro D xs W hD rfl hI hK
      obtain ⟨⟨hG, hR⟩, ⟨_, _, _⟩, hB⟩ := hI
      rw [foldB_range p m m (Nat.le_refl _)] at hG
      have hst := shaTo_all p m
      have h8 := shaTo_len p m
      have hsh : shaL l = wordsL (shaTo p m) 8 := by rw [HSHA.out, HDIV.out]
      obtain ⟨st, hse⟩ : ∃ st, shaTo p m = st := ⟨_, rfl⟩
      rw [hse] at hG hst h8 hsh
      have hdig := fun w' => dig_any st w' h8 hst
      obtain ⟨s, hs⟩ : ∃ s, U st = s := ⟨_, rfl⟩
      rw [hs] at hG
      simp only [hs] at hdig
      have HDIG := hidH hdig
      have HSZ := hidH (show (Tryz.prog.info? 152).map (·.size) = some s.size by rw [← hs, U_size, h8]; kernel_rfl)
      have HG := hidH hG
      have HR := hidH hR
      have HB := hidH hB
      have HK := hidH hK
      have HSH := hidH hsh
      have hDn : w.heap.size < D := by simp at hD; omega
      clear hdig hse hs hG hR hB hK hsh h8 hD
      go_wp2_with (refine wpList_load_row rfl 152 _ rfl w2.heap.size rfl 152 s (0, 0) (.array 8 150) HG.out (by kernel_rfl) rfl HSZ.out ?_)
      refine (HDIG.out _).mono ?_
      rintro e w6 ⟨v, rfl, o6, b6⟩
      have X := HR.out.below b6
      obtain ⟨q0, q1, qz⟩ := X.two
      have f0 := X.frozen 0
      have f1 := X.frozen 1
      obtain ⟨A6, c6, rfl, ob, hc1, hc2⟩ := own_ob o6
      have OB := hidH (ob.mono (B' := w.heap.size + 1) (by have := HR.out.lt; omega))
      have HB6 := hidH (btr HB.out b6)
      have HK6 := hidH ((b6.block D (Array.getElem?_eq_some_iff.1 HK.out).1).trans HK.out)
      have C1 := hidH (And.intro hc1 hc2)
      have X6 := hidH X
      clear X ob hc1 hc2 o6 b6 HDIG HG HR HB HK
      go_wp2
      have hK7 : ((w6.setCell ⟨w.heap.size, 0, none⟩ (.int .i64 0)).setCell ⟨w.heap.size, 1, none⟩ (.slice A6 (wordsL st 8).length c6)).heap[D]? = some (.deferred (some [])) := by
        rw [heap_setCell_other _ _ _ _ (by show D ≠ w.heap.size; omega), heap_setCell_other _ _ _ _ (by show D ≠ w.heap.size; omega)]
        exact HK6.out
      have hX7 : Blk ((w6.setCell ⟨w.heap.size, 0, none⟩ (.int .i64 0)).setCell ⟨w.heap.size, 1, none⟩ (.slice A6 (wordsL st 8).length c6)) w.heap.size 48 #[.int .i64 0, .slice A6 (wordsL st 8).length c6] :=
        heap_setCell_same _ _ _ _ _ _ (heap_setCell_same _ _ _ _ _ _ X6.out)
      refine ⟨by simp, .inl ⟨_, _, rfl, run_takeDeferred hK7, ?_⟩⟩
      refine ⟨_, results_cell_row rfl _ _ w.heap.size 48 #[.int .i64 0, .slice A6 (wordsL st 8).length c6] (0, 0) _ rfl ((World.putObj_heap_other (by omega)).trans hX7) Tryz.underlying48 rfl (by kernel_rfl), ?_⟩
      rw [HSH.out]
      exact bres_put (bres_set 0 OB.out HB6.out C1.out.1 C1.out.2 _ _) hK7 rfl (by omega)
  · have e1 : padC l = 2 := by rw [padC, if_neg h]
    have e2 : padM l = [] := by rw [padM, if_neg h]
    have e3 : shaM l = [] := by rw [shaM, if_neg h]
    rw [e1, e2] at hpad
    rw [e1, e3]
    have HPAD := hidH hpad
    clear hpad e1 e2 e3 h
    go_enter Tryz.func79, Tryz.ntmps79
    go_wp2_with fail
    refine HPAD.out.mono ?_
    rintro e w1 ⟨P, cp, rfl, P1, b1, _, _⟩
    obtain ⟨X0, HB1⟩ := xb b1
    obtain ⟨q0, q1, qz⟩ := (X0.out.alloc (.cells #[.int .i64 2, .slice P ([] : List Int).length cp] 48)).two
    have f0 := (X0.out.alloc (.cells #[.int .i64 2, .slice P ([] : List Int).length cp] 48)).frozen 0
    have f1 := (X0.out.alloc (.cells #[.int .i64 2, .slice P ([] : List Int).length cp] 48)).frozen 1
    clear P1 b1 HPAD
    simp only [List.length_nil] at q0 q1 qz f0 f1 ⊢
    go_wp2
    exact bodyPost_ret (v := .agg #[.int .i64 2, .slice none 0 0]) (by simp [results, Tryz.results79, go_sem, q0, q1]) rfl ⟨_, _, rfl, .inl rfl, bst (bst (bal HB1.out _) (Nat.le_refl _) _) (Nat.le_refl _) _, Nat.le_refl _, by omega⟩
end Go.Proofs.YtncnibkojneejaaGreatDoor

/- The program's keyBlock: a key as a block of 64 bytes. -/
namespace Go.Proofs.YtncnibkojneejaaGreatDoor
open Go.RowKit Go.Deep

theorem sizeU8k (u : World) : (sizeOf 5).run Tryz.prog u = .ok 1 u := by
  cases hq : Tryz.prog.info? 5 with
  | none => have := infoU8; simp [hq] at this
  | some i => have := infoU8; simp [hq] at this; simp [sizeOf, typeInfo, hq, this]
theorem slice63 (u : World) (b : Nat) : (Instr.sliceAt 124 (.pointer (some ⟨b, 0, none⟩)) none none none).run Tryz.prog u = .ok (.slice (some ⟨b, 0, none⟩) 64 64) u := by
  have hal : Tryz.prog.arrayLen 124 = 64 := by kernel_rfl
  have hel : Tryz.prog.elem 124 = 5 := by kernel_rfl
  rw [run_sliceAt_array_all u 124 ⟨b, 0, none⟩ (by rw [hal, hel]; kernel_rfl), hel, sizeU8k, hal]
  simp only [Result.andThen, slicedAt]
  rw [if_neg (by omega)]
  simp [Addr.add]
theorem run_copy_t {w : World} {g N c T : Nat} {t : TypeId} {A : Option Addr} {l X : List Int} (hB : Blk w g t (Ub X)) (hN : X.length = N) (hl : l.length ≤ N) (hA : Bs w A l) :
    ∃ w', (Builtin.copy_ #[22, 22] T #[.slice (some ⟨g, 0, none⟩) N N, .slice A l.length c]).run Tryz.prog w = .ok (goInt l.length) w' ∧ Blk w' g t (Ub (l ++ X.drop l.length)) ∧ Below g w w' := by
  have hmin : Nat.min l.length N = l.length := Nat.min_eq_left hl
  rcases Nat.eq_zero_or_pos l.length with h0 | h0
  · have hl0 : l = [] := List.eq_nil_of_length_eq_zero h0
    subst hl0
    refine ⟨w, ?_, by simpa using hB, Below.refl _ _⟩
    exact run_copy_none (P := Tryz.prog) w 22 22 T 5 (some ⟨g, 0, none⟩) A N N 0 c (by kernel_rfl) (by kernel_rfl) (by simp)
  · obtain ⟨ad, rfl, hsrc⟩ := bs_src hA h0
    have := run_copy_row (P := Tryz.prog) w 22 22 T 5 g 0 N N ad l.length c _ _ (l.map (Value.int .u8)) (by kernel_rfl) (by kernel_rfl) hB (by simp [hmin]) hsrc (by simp [Ub]; omega) (by intro v hv; simp at hv; obtain ⟨x, _, rfl⟩ := hv; rfl)
    refine ⟨_, by simpa using this, ?_, below_setRow (Below.refl _ _) (Nat.le_refl _) _⟩
    unfold Blk
    rw [setRow_heap w g _ _ _ _ hB]
    simp [Ub]
theorem fldB1 (c : Int) (A : Option Addr) (n cp : Nat) (w : World) : (Instr.field 48 (.agg #[.int .i64 c, .slice A n cp]) 1).run Tryz.prog w = .ok (.slice A n cp) w := by kernel_rfl
set_option maxRecDepth 100000 in
set_option maxHeartbeats 1000000 in
theorem key_any (A : Option Addr) (l : List Int) (c : Nat) (w : World) (hA : Bs w A l) (hl : Bytes l) (hm : l.length ≤ 200) :
    Calls Tryz.prog 77 #[.slice A l.length c] w fun e w' => e = .returned (.agg (Ub (padZ (keyK l)))) ∧ Below w.heap.size w w' := by
  obtain ⟨zs, hzs⟩ : ∃ zs, Ub (List.replicate 64 0) = zs := ⟨_, rfl⟩
  have hz := zero63
  rw [hzs] at hz
  have HZ := hidH hz
  clear hz
  have hA2 := bs_below hA (bal (Below.refl _ w) (.cells zs 124))
  have hsha := sha_impl A l c _ hA2 hl (by omega)
  have R0 := Blk.new w 124 zs
  have B0 := bal (Below.refl w.heap.size w) (.cells zs 124)
  obtain ⟨w1, hw1⟩ : ∃ w1, w.alloc (.cells zs 124) = w1 := ⟨_, rfl⟩
  rw [hw1] at hA2 hsha R0 B0
  have HSHA := hidH hsha
  have HS := hidH hA2
  have HR := hidH R0
  have HB := hidH B0
  have HW1 := hidH hw1
  have hlt : w.heap.size < w1.heap.size := R0.lt
  clear hsha hA2 R0 B0 hw1 hA
  by_cases h : 64 < l.length
  case' pos =>
    have h1 : (64 : Int) < (l.length : Int) := by omega
    have e1 : shaM l = shaL l := by rw [shaM, if_pos (by omega)]
    have e2 : keyK l = shaL l := by rw [keyK, if_pos h]
    have e3 := shaL_len' l
    rw [e2]
    rw [e1] at HSHA
    obtain ⟨X, hX⟩ : ∃ X, shaL l = X := ⟨_, rfl⟩
    rw [hX] at HSHA e3 ⊢
    have hXl : X.length ≤ 64 := by omega
    clear e1 e2 e3 hX
    go_enter Tryz.func77, Tryz.ntmps77
    go_wp2_with (first | (refine wpList_allocRow rfl 124 rfl _ rfl zs HZ.out ?_; rw [HW1.out]))
    refine HSHA.out.mono ?_
    rintro e w1 ⟨A1, c1, rfl, P1, b1, hcp, hcm⟩
    replace HR := hidH (HR.out.below b1)
    replace HB := hidH (btr HB.out b1)
    replace HS := hidH P1.bs
    replace hlt : w.heap.size < w1.heap.size := HR.out.lt
    clear P1 b1 hcp hcm HSHA HW1
    have HW1 : Hid True := hidH trivial
  case' neg =>
    have h1 : (l.length : Int) ≤ 64 := by omega
    have e2 : keyK l = l := by rw [keyK, if_neg h]
    rw [e2]
    have hXl : l.length ≤ 64 := by omega
    clear e2 HSHA
    obtain ⟨X, hX⟩ : ∃ X, X = l := ⟨_, rfl⟩
    obtain ⟨A1, hA1⟩ : ∃ A1, A1 = A := ⟨_, rfl⟩
    obtain ⟨c1, hc1⟩ : ∃ c1, c1 = c := ⟨_, rfl⟩
    subst hX hA1 hc1
    go_enter Tryz.func77, Tryz.ntmps77
  all_goals
    have f1 := fldB1
    have K2 := Blk.new w1 124 zs
    have R2 := HR.out.alloc (.cells zs 124)
    have B2 := bal HB.out (.cells zs 124)
    have S2 := bs_below HS.out (bal (Below.refl _ w1) (.cells zs 124))
    obtain ⟨w2, hw2⟩ : ∃ w2, w1.alloc (.cells zs 124) = w2 := ⟨_, rfl⟩
    rw [hw2] at K2 R2 B2 S2
    rw [← hzs] at K2
    obtain ⟨w3, hr, K3, b3⟩ := run_copy_t (T := 3) (c := c1) K2 (N := 64) (by simp) hXl S2
    rw [List.drop_replicate] at K3
    have hn : (padZ X).length = 64 := by simp [padZ]; omega
    have hy : X ++ List.replicate (64 - X.length) 0 = padZ X := rfl
    rw [hy] at K3
    obtain ⟨os, hos⟩ : ∃ os, Ub (padZ X) = os := ⟨_, rfl⟩
    have HO := hidH (hos ▸ Ub_one (padZ X))
    have HSZ := hidH (show (Tryz.prog.info? 124).map (·.size) = some os.size by rw [← hos, Ub_len, hn]; exact size63)
    have HZ2 := hidH (show zs.size = os.size by rw [← hos, ← hzs, Ub_len, Ub_len, hn]; simp)
    rw [hos] at K3
    have HK3 := hidH K3
    have HR3 := hidH ((b3.block _ hlt).trans R2)
    have HB3 := hidH (B2.trans (b3.mono (by omega)))
    have HW2 := hidH hw2
    have HOS := hidH hos
    have hsl : ∀ u : World, (Instr.sliceAt 124 (.pointer (some ⟨w1.heap.size, 0, none⟩)) none none none).run Tryz.prog u = .ok (.slice (some ⟨w1.heap.size, 0, none⟩) 64 64) u := fun u => slice63 u w1.heap.size
    clear K2 R2 B2 S2 hw2 K3 b3 hy hn hos HS HR HB
    go_wp2_with (first | (refine wpList_allocRow rfl 124 rfl _ rfl zs HZ.out ?_; rw [HW1.out]) | (refine wpList_allocRow rfl 124 rfl _ rfl zs HZ.out ?_; rw [HW2.out]) | refine wpList_load_row rfl 124 _ rfl w1.heap.size rfl 124 os (0, 0) (.array 64 5) HK3.out (by kernel_rfl) rfl HSZ.out ?_ | refine wpList_store_rowTo rfl _ _ _ rfl rfl w.heap.size os rfl rfl 124 _ HR3.out HSZ.out HZ2.out HO.out ?_)
    exact bodyPost_ret (v := .agg os) (results_cell_row rfl _ _ w.heap.size 124 _ (0, 0) (.array 64 5) rfl (setRow_heap _ _ _ _ _ _ HR3.out) (by kernel_rfl) rfl HSZ.out) rfl ⟨by rw [HOS.out], below_setRow HB3.out (by omega) _⟩
end Go.Proofs.YtncnibkojneejaaGreatDoor

/- slices.Grow and slices.Concat at bytes. -/
namespace Go.Proofs.YtncnibkojneejaaGreatDoor
open Go.RowKit Go.Deep

def sumTo (m n : Nat) : Nat → Nat
  | 0 => 0
  | 1 => m
  | _ => m + n
def catTo (a b : List Int) : Nat → List Int
  | 0 => []
  | 1 => a
  | _ => a ++ b
set_option maxRecDepth 100000 in
set_option maxHeartbeats 1000000 in
theorem concat_any (g : Nat) (A B : Option Addr) (a b : List Int) (ca cb : Nat) (w : World) (hg : Blk w g 22 #[.slice A a.length ca, .slice B b.length cb]) (hA : Bs w A a) (hB : Bs w B b) (ha : a.length ≤ 40000) (hb : b.length ≤ 40000) :
    Calls Tryz.prog 75 #[.slice (some ⟨g, 0, none⟩) 2 2] w fun e w' => ∃ A' c', e = .returned (.slice A' (a ++ b).length c') ∧ Bs w' A' (a ++ b) ∧ Below w.heap.size w w' := by
  have e0 : w.cell? ⟨g, 0, none⟩ = some (.slice A a.length ca) := hg.cell 0
  have e1 : w.cell? ⟨g, 1, none⟩ = some (.slice B b.length cb) := hg.cell 1
  have ha1 : (a.length : Int) ≤ 40000 := by omega
  have hb1 : (b.length : Int) ≤ 40000 := by omega
  have HG := hidH hg
  have HA := hidH hA
  have HB := hidH hB
  clear hg hA hB
  go_enter Tryz.func75, Tryz.ntmps75
  go_wp2
  go_loopw [3, 11] (fun s i wr => ∃ k : Nat, k ≤ 2 ∧ i = .int .i64 k ∧ s = .int .i64 (sumTo a.length b.length k : Nat) ∧ w = wr) (fun _ i _ => 2 - (intOf i).toNat)
  case atStart => exact ⟨0, by omega, rfl, rfl, rfl⟩
  case round =>
    obtain ⟨k, hk, rfl, rfl, rfl⟩ := hrel
    obtain rfl | rfl | rfl : k = 0 ∨ k = 1 ∨ k = 2 := by omega
    · rw [show sumTo a.length b.length 0 = 0 from rfl, show ((0 : Nat) : Int) = 0 from rfl]
      go_wp2
      go_round
      case rel => exact ⟨1, by omega, rfl, by go_num, trivial⟩
      case measure => simp [intOf]
    · rw [show sumTo a.length b.length 1 = a.length from rfl, show ((1 : Nat) : Int) = 1 from rfl]
      go_wp2
      go_round
      case rel => exact ⟨2, by omega, rfl, by go_num, trivial⟩
      case measure => simp [intOf]
    · rw [show sumTo a.length b.length 2 = a.length + b.length from rfl, show ((2 : Nat) : Int) = 2 from rfl]
      have hgr := grow_any (a.length + b.length) w (by omega)
      have HGR := hidH hgr
      clear hgr
      go_wp2_with fail
      refine HGR.out.mono ?_
      rintro e w1 ⟨v, rfl, o1, b1⟩
      have O1 := hidH o1
      have B1 := hidH b1
      clear o1 b1 HGR
      go_wp2
      go_loopw [6, 27] (fun v i wr => ∃ k : Nat, k ≤ 2 ∧ i = .int .i64 k ∧ wr.ownsRow w.heap.size 5 1 v (sumTo a.length b.length k) ((catTo a b k).map (Value.int .u8)) ∧ Below w.heap.size w wr) (fun _ i _ => 2 - (intOf i).toNat)
      case atStart => exact ⟨0, by omega, rfl, O1.out, B1.out⟩
      case round =>
        obtain ⟨k, hk, rfl, ho, hbw⟩ := hrel
        obtain rfl | rfl | rfl : k = 0 ∨ k = 1 ∨ k = 2 := by omega
        · have e2 := (hbw.cell (p := ⟨g, 0, none⟩) HG.out.lt).trans e0
          have hsz := hbw.size
          have HA1 := hidH (bs_below HA.out hbw)
          have HO := hidH ho
          have HW := hidH hbw
          rw [show ((0 : Nat) : Int) = 0 from rfl]
          clear hbw ho e0 e1
          go_wp2_with (at_builtin; refine wpList_append_bs rfl _ _ rfl w.heap.size _ _ _ rfl HO.out _ a ca rfl HA1.out (by simp [sumTo]; omega) hsz ?_)
          intro v' w2 o2 g2
          have B2 := hidH (HW.out.grown g2 hsz (fun k hk => (HO.out.lt k hk).1))
          have O2 := hidH (show w2.ownsRow w.heap.size 5 1 v' (sumTo a.length b.length 1) ((catTo a b 1).map (Value.int .u8)) from by simpa [sumTo, catTo] using o2)
          clear o2 g2 HO HW HA1
          go_wp2
          go_roundw
          case rel => exact ⟨1, by omega, rfl, O2.out, B2.out⟩
          case measure => simp [intOf]
        · have e2 := (hbw.cell (p := ⟨g, 1, none⟩) HG.out.lt).trans e1
          have hsz := hbw.size
          have HA1 := hidH (bs_below HB.out hbw)
          have HO := hidH ho
          have HW := hidH hbw
          rw [show ((1 : Nat) : Int) = 1 from rfl]
          clear hbw ho e0 e1
          go_wp2_with (at_builtin; refine wpList_append_bs rfl _ _ rfl w.heap.size _ _ _ rfl HO.out _ b cb rfl HA1.out (by simp [sumTo]; omega) hsz ?_)
          intro v' w2 o2 g2
          have B2 := hidH (HW.out.grown g2 hsz (fun k hk => (HO.out.lt k hk).1))
          have O2 := hidH (show w2.ownsRow w.heap.size 5 1 v' (sumTo a.length b.length 2) ((catTo a b 2).map (Value.int .u8)) from by simpa [sumTo, catTo] using o2)
          clear o2 g2 HO HW HA1
          go_wp2
          go_roundw
          case rel => exact ⟨2, by omega, rfl, O2.out, B2.out⟩
          case measure => simp [intOf]
        · have o2 : wr.ownsRow w.heap.size 5 1 u6 (a ++ b).length ((a ++ b).map (Value.int .u8)) := by simpa [sumTo, catTo] using ho
          obtain ⟨A', c', rfl, hob, _, _⟩ := own_ob o2
          have HO := hidH hob
          have HW := hidH hbw
          rw [show ((2 : Nat) : Int) = 2 from rfl]
          clear ho o2 hob hbw
          go_wp2
          go_ret
          exact ⟨A', c', rfl, HO.out.bs, HW.out⟩
end Go.Proofs.YtncnibkojneejaaGreatDoor
