/- The program's CompressBlock: its region that draws its order, by an invariant. -/
import Derived.Test.YthpokophigkhaaaCmp
namespace Go.Proofs.Ythpokophigkhaaa
open Go.RowKit Go.Deep

/-- The operations of the region behind the loop. -/
def regionOps (c : Option Code) : Array Oper := match c with
  | some (.seq _ (.seq _ (.seq _ (.seq _ (.seq (.region _ ops _) _))))) => ops
  | _ => #[]
def may31 (b0 b1 b2 b3 b4 b5 b6 : Bool) (i : Nat) : Bool :=
  (i == 0 && !b0) || (i == 1 && !b1) || (i == 2 && !b2 && b1) || (i == 3 && !b3 && b2) || (i == 4 && !b4 && b0 && b3) || (i == 5 && !b5) || (i == 6 && !b6 && b4 && b5)
def chk31 (ops : Array Oper) (b0 b1 b2 b3 b4 b5 b6 : Bool) : Bool :=
  (Region.ready .any ops #[b0, b1, b2, b3, b4, b5, b6]).all (may31 b0 b1 b2 b3 b4 b5 b6) && (!(Region.ready .any ops #[b0, b1, b2, b3, b4, b5, b6]).isEmpty || (b0 && b1 && b2 && b3 && b4 && b5 && b6))
theorem all31 : (both fun b0 => both fun b1 => both fun b2 => both fun b3 => both fun b4 => both fun b5 => both fun b6 => chk31 (regionOps Try.f31.body) b0 b1 b2 b3 b4 b5 b6) = true := by kernel_rfl
theorem yes31 (b0 b1 b2 b3 b4 b5 b6 : Bool) : chk31 (regionOps Try.f31.body) b0 b1 b2 b3 b4 b5 b6 = true :=
  both_yes (both_yes (both_yes (both_yes (both_yes (both_yes (both_yes all31 b0) b1) b2) b3) b4) b5) b6
theorem ready31 (b0 b1 b2 b3 b4 b5 b6 : Bool) (i : Nat) (h : i ∈ Region.ready .any (regionOps Try.f31.body) #[b0, b1, b2, b3, b4, b5, b6]) : may31 b0 b1 b2 b3 b4 b5 b6 i = true := by
  have := yes31 b0 b1 b2 b3 b4 b5 b6
  unfold chk31 at this
  rw [Bool.and_eq_true] at this
  exact List.all_eq_true.1 this.1 i h
theorem done31 (b0 b1 b2 b3 b4 b5 b6 : Bool) (h : Region.ready .any (regionOps Try.f31.body) #[b0, b1, b2, b3, b4, b5, b6] = []) : (b0 && b1 && b2 && b3 && b4 && b5 && b6) = true := by
  have := yes31 b0 b1 b2 b3 b4 b5 b6
  unfold chk31 at this
  rw [Bool.and_eq_true, h] at this
  simpa using this.2
def fr31 (x0 x1 x2 x3 x4 x5 x6 x7 t8 x9 x10 x11 x12 x13 x14 x15 x16 x17 x18 x19 x20 x21 x22 x23 x24 x25 x26 x27 x28 x29 x30 x31 x32 x33 t34 t35 t36 t37 t38 x39 x40 x41 : Value) : Act := { tmps := #[x0, x1, x2, x3, x4, x5, x6, x7, t8, x9, x10, x11, x12, x13, x14, x15, x16, x17, x18, x19, x20, x21, x22, x23, x24, x25, x26, x27, x28, x29, x30, x31, x32, x33, t34, t35, t36, t37, t38, x39, x40, x41], defers := [] }
/-- What lies in memory all along. -/
def KD (w0 : World) (s : Array Value) (bb off : Nat) (cl : List Value) (w : World) : Prop :=
  Blk w w0.heap.size 42 #[.int .i64 0, .slice none 0 0] ∧ Blk w (w0.heap.size + 1) 77 s ∧ w.rangeAt bb off cl ∧ bb < w0.heap.size ∧ Below w0.heap.size w0 w
theorem range_below {w w' : World} {b off : Nat} {cl : List Value} (h : w.rangeAt b off cl) (hb : b < w.heap.size) (hB : Below w.heap.size w w') : w'.rangeAt b off cl :=
  fun j v hv => (hB.cell (p := ⟨b, off + j, none⟩) hb).trans (h j v hv)
theorem KD.below {w0 : World} {s : Array Value} {bb off : Nat} {cl : List Value} {w w' : World} (h : KD w0 s bb off cl w) (hb : Below w.heap.size w w') : KD w0 s bb off cl w' :=
  ⟨h.1.below hb, h.2.1.below hb, range_below h.2.2.1 (by have := h.2.2.2.2.size; have := h.2.2.2.1; omega) hb, h.2.2.2.1, btr h.2.2.2.2 hb⟩
theorem KD.row {w0 : World} {s : Array Value} {bb off : Nat} {cl : List Value} {w : World} (h : KD w0 s bb off cl w) (g : Nat) (hg : w0.heap.size + 1 < g) (cs : Array Value) : KD w0 s bb off cl (w.setRow g cs) :=
  ⟨(setRow_other w g _ cs (by omega)).trans h.1, (setRow_other w g _ cs (by omega)).trans h.2.1, fun j v hv => by
    have := h.2.2.2.1
    rw [cell_setRow_other w g cs _ (by simp; omega)]
    exact h.2.2.1 j v hv, h.2.2.2.1, below_setRow h.2.2.2.2 (by omega) cs⟩
def J31 (w0 : World) (x0 x1 x2 x3 x4 x5 x6 x7 x9 x10 x11 x12 x13 x14 x15 x16 x17 x18 x19 x20 x21 x22 x23 x24 x25 x26 x27 x28 x29 x30 x31 x32 x33 x39 x40 x41 : Value) (s : Array Value) (bb off : Nat) (cl : List Value) (z ns : Array Value) (b0 b1 b2 b3 b4 b5 b6 : Bool) (a : Act) (w : World) : Prop :=
  ∃ t8 t34 t35 t36 t37 t38 g8, a = fr31 x0 x1 x2 x3 x4 x5 x6 x7 t8 x9 x10 x11 x12 x13 x14 x15 x16 x17 x18 x19 x20 x21 x22 x23 x24 x25 x26 x27 x28 x29 x30 x31 x32 x33 t34 t35 t36 t37 t38 x39 x40 x41 ∧ KD w0 s bb off cl w ∧ (b0 = true → t34 = .agg s) ∧ (b1 = true → t35 = x1) ∧ (b2 = true → t36 = .pointer (some ⟨bb, off, none⟩)) ∧ (b3 = true → t37 = .agg cl.toArray) ∧ (b4 = true → t38 = .agg ns) ∧
    Slot (w0.heap.size + 1) 77 z ns b5 b6 t8 g8 w
set_option maxRecDepth 100000 in
theorem reg31 (w0 : World) (x0 x1 x2 x3 x4 x5 x6 x7 x9 x10 x11 x12 x13 x14 x15 x16 x17 x18 x19 x20 x21 x22 x23 x24 x25 x26 x27 x28 x29 x30 x31 x32 x33 x39 x40 x41 : Value) (s : Array Value) (bb off n c : Nat) (cl : List Value) (z ns : Array Value) (Q : Exit → Act → World → Prop)
    (hx1 : x1 = .slice (some ⟨bb, off, none⟩) n c) (hn : 64 ≤ n) (hx5 : x5 = .pointer (some ⟨w0.heap.size + 1, 0, none⟩))
    (hc73 : ∀ w, Calls Try.prog 73 #[.agg s, .agg cl.toArray] w fun e w' => e = .returned (.agg ns) ∧ Below w.heap.size w w')
    (hz : (Try.prog.info? 77).bind (·.zero) = some (.agg z))
    (hsb : (Try.prog.info? 84).map (·.size) = some cl.length) (hss : (Try.prog.info? 77).map (·.size) = some s.size)
    (hsn : (Try.prog.info? 77).map (·.size) = some ns.size) (hsn2 : z.size = ns.size) (hn1 : ns.all (·.oneCell') = true)
    (hQ : ∀ a w, J31 w0 x0 x1 x2 x3 x4 x5 x6 x7 x9 x10 x11 x12 x13 x14 x15 x16 x17 x18 x19 x20 x21 x22 x23 x24 x25 x26 x27 x28 x29 x30 x31 x32 x33 x39 x40 x41 s bb off cl z ns true true true true true true true a w → Q .normal a w) :
    ∀ (fuel : Nat) (b0 b1 b2 b3 b4 b5 b6 : Bool) (a : Act) (w : World), cnt b0 + cnt b1 + cnt b2 + cnt b3 + cnt b4 + cnt b5 + cnt b6 ≤ fuel → J31 w0 x0 x1 x2 x3 x4 x5 x6 x7 x9 x10 x11 x12 x13 x14 x15 x16 x17 x18 x19 x20 x21 x22 x23 x24 x25 x26 x27 x28 x29 x30 x31 x32 x33 x39 x40 x41 s bb off cl z ns b0 b1 b2 b3 b4 b5 b6 a w →
      wpAny Try.prog .any (regionOps Try.f31.body) Q fuel #[b0, b1, b2, b3, b4, b5, b6] a w := by
  intro fuel
  have fin : ∀ (b0 b1 b2 b3 b4 b5 b6 : Bool) (a : Act) (w : World), J31 w0 x0 x1 x2 x3 x4 x5 x6 x7 x9 x10 x11 x12 x13 x14 x15 x16 x17 x18 x19 x20 x21 x22 x23 x24 x25 x26 x27 x28 x29 x30 x31 x32 x33 x39 x40 x41 s bb off cl z ns b0 b1 b2 b3 b4 b5 b6 a w → (b0 && b1 && b2 && b3 && b4 && b5 && b6) = true → Q .normal a w := by
    intro b0 b1 b2 b3 b4 b5 b6 a w hJ h
    simp only [Bool.and_eq_true] at h
    obtain ⟨⟨⟨⟨⟨⟨rfl, rfl⟩, rfl⟩, rfl⟩, rfl⟩, rfl⟩, rfl⟩ := h
    exact hQ a w hJ
  induction fuel with
  | zero =>
    intro b0 b1 b2 b3 b4 b5 b6 a w hc hJ
    have hall : b0 = true ∧ b1 = true ∧ b2 = true ∧ b3 = true ∧ b4 = true ∧ b5 = true ∧ b6 = true := by
      cases b0 <;> cases b1 <;> cases b2 <;> cases b3 <;> cases b4 <;> cases b5 <;> cases b6 <;> simp [cnt] at hc ⊢
    obtain ⟨rfl, rfl, rfl, rfl, rfl, rfl, rfl⟩ := hall
    exact ⟨by kernel_rfl, hQ a w hJ⟩
  | succ fuel ih =>
    intro b0 b1 b2 b3 b4 b5 b6 a w hc hJ
    refine ⟨fun h => fin _ _ _ _ _ _ _ a w hJ (done31 _ _ _ _ _ _ _ h), fun i hi => ?_⟩
    have hm := ready31 _ _ _ _ _ _ _ i hi
    clear hi
    obtain ⟨t8, t34, t35, t36, t37, t38, g8, rfl, hK, h0, h1, h2, h3, h4, h5⟩ := hJ
    have hNs := hK.2.1.lt
    simp only [may31, Bool.or_eq_true, Bool.and_eq_true, beq_iff_eq, Bool.not_eq_true'] at hm
    rcases hm with (((((⟨rfl, rfl⟩ | ⟨rfl, rfl⟩) | ⟨⟨rfl, rfl⟩, rfl⟩) | ⟨⟨rfl, rfl⟩, rfl⟩) | ⟨⟨⟨rfl, rfl⟩, rfl⟩, rfl⟩) | ⟨rfl, rfl⟩) | ⟨⟨⟨rfl, rfl⟩, rfl⟩, rfl⟩
    · obtain ⟨o, ho, hop, hdst, hgd⟩ := op_parts (ops := (regionOps Try.f31.body)) (i := 0) (op := Op.load 77 (Operand.tmp 5)) (dst := some 34) (by kernel_rfl)
      refine wpOp_plain ho hgd ?_
      refine wp_load_row 77 _ hop (w0.heap.size + 1) (by rw [← hx5]; rfl) 77 s (0, 0) (.array 8 65) hK.2.1 (by kernel_rfl) rfl hss ?_
      rw [hdst]
      refine ih true b1 b2 b3 b4 b5 b6 _ _ (by simp [cnt] at hc ⊢; omega) ?_
      exact ⟨t8, _, t35, t36, t37, t38, g8, rfl, hK, fun _ => rfl, h1, h2, h3, h4, h5⟩
    · obtain ⟨o, ho, hop, hdst, hgd⟩ := op_parts (ops := (regionOps Try.f31.body)) (i := 1) (op := Op.move (Operand.tmp 1)) (dst := some 35) (by kernel_rfl)
      refine wpOp_plain ho hgd ?_
      refine wp_valueOp x1 (by unfold execOp; simp only [hop]; rfl) _ hdst ?_
      refine ih b0 true b2 b3 b4 b5 b6 _ _ (by simp [cnt] at hc ⊢; omega) ?_
      exact ⟨t8, t34, _, t36, t37, t38, g8, rfl, hK, h0, fun _ => rfl, h2, h3, h4, h5⟩
    · obtain ⟨o, ho, hop, hdst, hgd⟩ := op_parts (ops := (regionOps Try.f31.body)) (i := 2) (op := Op.sliceToArrayPointer 84 (Operand.tmp 35)) (dst := some 36) (by kernel_rfl)
      refine wpOp_plain ho hgd ?_
      obtain rfl := h1 rfl
      refine wp_valueOp (.pointer (some ⟨bb, off, none⟩)) (by
        have := arr84 (some ⟨bb, off, none⟩) n c hn w
        rw [← hx1] at this
        unfold execOp
        simp only [hop, Sem.run_bind]
        rw [show Act.eval (fr31 x0 t35 x2 x3 x4 x5 x6 x7 t8 x9 x10 x11 x12 x13 x14 x15 x16 x17 x18 x19 x20 x21 x22 x23 x24 x25 x26 x27 x28 x29 x30 x31 x32 x33 t34 t35 t36 t37 t38 x39 x40 x41) (Operand.tmp 35) = t35 from rfl, this]
        rfl) _ hdst ?_
      refine ih b0 true true b3 b4 b5 b6 _ _ (by simp [cnt] at hc ⊢; omega) ?_
      exact ⟨t8, t34, _, _, t37, t38, g8, rfl, hK, h0, h1, fun _ => rfl, h3, h4, h5⟩
    · obtain ⟨o, ho, hop, hdst, hgd⟩ := op_parts (ops := (regionOps Try.f31.body)) (i := 3) (op := Op.load 84 (Operand.tmp 36)) (dst := some 37) (by kernel_rfl)
      refine wpOp_plain ho hgd ?_
      obtain rfl := h2 rfl
      refine wp_load_mid 84 _ hop bb off rfl cl (.array 64 5) hK.2.2.1 (by kernel_rfl) rfl hsb ?_
      rw [hdst]
      refine ih b0 b1 true true b4 b5 b6 _ _ (by simp [cnt] at hc ⊢; omega) ?_
      exact ⟨t8, t34, t35, _, _, t38, g8, rfl, hK, h0, h1, h2, fun _ => rfl, h4, h5⟩
    · obtain ⟨o, ho, hop, hdst, hgd⟩ := op_parts (ops := (regionOps Try.f31.body)) (i := 4) (op := Op.call { callee := Callee.value (Operand.func 73), args := #[Operand.tmp 34, Operand.tmp 37], argTypes := #[77, 84] }) (dst := some 38) (by kernel_rfl)
      refine wpOp_plain ho hgd ?_
      obtain rfl := h0 rfl
      obtain rfl := h3 rfl
      refine wp_callOp 73 _ Try.func73 (by kernel_rfl) (by kernel_rfl) #[.agg s, .agg cl.toArray] #[.tmp 34, .tmp 37] _ hop (by simp [fr31, Act.eval]) _ hdst (.agg ns) _ (hc73 w) (fun w' hb => ih true b1 b2 true true b5 b6 _ _ (by simp [cnt] at hc ⊢; omega) ?_)
      exact ⟨t8, _, t35, t36, _, _, g8, rfl, hK.below hb, h0, h1, h2, h3, fun _ => rfl, h5.below hb⟩
    · obtain ⟨o, ho, hop, hdst, hgd⟩ := op_parts (ops := (regionOps Try.f31.body)) (i := 5) (op := Op.alloc 77) (dst := some 8) (by kernel_rfl)
      refine wpOp_plain ho hgd ?_
      refine wp_allocRow 77 hop _ hdst z hz (ih b0 b1 b2 b3 b4 true b6 _ _ (by simp [cnt] at hc ⊢; omega) ?_)
      have hb : Below w.heap.size w (w.alloc (.cells z 77)) := bal (Below.refl _ _) _
      have e6 : b6 = false := by unfold Slot at h5; simpa using h5.1
      subst e6
      exact ⟨_, t34, t35, t36, t37, t38, w.heap.size, rfl, hK.below hb, h0, h1, h2, h3, h4, ⟨rfl, hNs, Blk.new _ _ _⟩⟩
    · obtain ⟨o, ho, hop, hdst, hgd⟩ := op_parts (ops := (regionOps Try.f31.body)) (i := 6) (op := Op.store 77 (Operand.tmp 8) (Operand.tmp 38)) (dst := none) (by kernel_rfl)
      refine wpOp_plain ho hgd ?_
      obtain rfl := h4 rfl
      obtain ⟨rfl, hg, hbk⟩ := h5
      refine wp_store_row 77 _ _ hop g8 ns rfl rfl 77 z hbk hsn hsn2 hn1 ?_
      rw [hdst]
      refine ih b0 b1 b2 b3 true true true _ _ (by simp [cnt] at hc ⊢; omega) ?_
      exact ⟨_, t34, t35, t36, t37, _, g8, rfl, hK.row g8 hg ns, h0, h1, h2, h3, h4, ⟨rfl, hg, setRow_heap _ _ _ _ _ _ hbk⟩⟩
end Go.Proofs.Ythpokophigkhaaa
