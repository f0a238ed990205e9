/- The program's compress: the region that draws its order, by an invariant. -/
import Derived.Test.YtacdnednkglobaaRoundI
import Derived.Test.YtacdnednkglobaaMa7
namespace Go.Proofs.Ytacdnednkglobaa
open Go.RowKit Go.Deep

/-- The operations of a body's second region. -/
def secondOps (c : Option Code) : Array Oper := match c with
  | some (.seq _ (.seq (.region _ ops _) _)) => ops
  | _ => #[]
theorem zero90 : (Try.prog.info? 107).bind (·.zero) = some (.agg (U (List.replicate 64 0))) := by kernel_rfl
theorem zero77 : (Try.prog.info? 96).bind (·.zero) = some (.agg (U (List.replicate 8 0))) := by kernel_rfl
def both (p : Bool → Bool) : Bool := p true && p false
theorem both_yes {p : Bool → Bool} (h : both p = true) (b : Bool) : p b = true := by
  unfold both at h
  cases b <;> simp_all
/-- What a ready operation may rely on. -/
def may73 (b0 b1 b2 b3 b4 b5 b6 : Bool) (i : Nat) : Bool :=
  (i == 0 && !b0) || (i == 1 && !b1) || (i == 2 && !b2 && b1) || (i == 3 && !b3) || (i == 4 && !b4) || (i == 5 && !b5 && b3 && b0) || (i == 6 && !b6 && b4 && b2)
def chk73 (ops : Array Oper) (b0 b1 b2 b3 b4 b5 b6 : Bool) : Bool :=
  (Region.ready .any ops #[b0, b1, b2, b3, b4, b5, b6]).all (may73 b0 b1 b2 b3 b4 b5 b6) && (!(Region.ready .any ops #[b0, b1, b2, b3, b4, b5, b6]).isEmpty || (b0 && b1 && b2 && b3 && b4 && b5 && b6))
theorem all73 : (both fun b0 => both fun b1 => both fun b2 => both fun b3 => both fun b4 => both fun b5 => both fun b6 => chk73 (secondOps Try.f78.body) b0 b1 b2 b3 b4 b5 b6) = true := by kernel_rfl
theorem yes73 (b0 b1 b2 b3 b4 b5 b6 : Bool) : chk73 (secondOps Try.f78.body) b0 b1 b2 b3 b4 b5 b6 = true :=
  both_yes (both_yes (both_yes (both_yes (both_yes (both_yes (both_yes all73 b0) b1) b2) b3) b4) b5) b6
theorem ready73 (b0 b1 b2 b3 b4 b5 b6 : Bool) (i : Nat) (h : i ∈ Region.ready .any (secondOps Try.f78.body) #[b0, b1, b2, b3, b4, b5, b6]) : may73 b0 b1 b2 b3 b4 b5 b6 i = true := by
  have := yes73 b0 b1 b2 b3 b4 b5 b6
  unfold chk73 at this
  rw [Bool.and_eq_true] at this
  exact List.all_eq_true.1 this.1 i h
theorem done73 (b0 b1 b2 b3 b4 b5 b6 : Bool) (h : Region.ready .any (secondOps Try.f78.body) #[b0, b1, b2, b3, b4, b5, b6] = []) : (b0 && b1 && b2 && b3 && b4 && b5 && b6) = true := by
  have := yes73 b0 b1 b2 b3 b4 b5 b6
  unfold chk73 at this
  rw [Bool.and_eq_true, h] at this
  simpa using this.2
/-- The frame of compress behind its first two regions. -/
def fr73 (s b : Array Value) (n : Nat) (t5 t6 t10 t11 t12 : Value) : Act :=
  { tmps := #[.agg s, .agg b, .pointer (some ⟨n, 0, none⟩), .pointer (some ⟨n + 1, 0, none⟩), .pointer (some ⟨n + 1 + 1, 0, none⟩), t5, t6, undef, undef, undef, t10, t11, t12, undef, undef, undef, undef, undef, undef, undef, undef, undef, undef, undef, undef, undef, undef, undef, undef, undef, undef, undef, undef, undef, undef, undef, undef, undef, undef], defers := [] }
/-- What lies in memory all along. -/
def KB (w0 : World) (s b z : Array Value) (w : World) : Prop :=
  Blk w w0.heap.size 96 s ∧ Blk w (w0.heap.size + 1) 85 b ∧ Blk w (w0.heap.size + 1 + 1) 96 z ∧ Below w0.heap.size w0 w
theorem KB.below {w0 : World} {s b z : Array Value} {w w' : World} (h : KB w0 s b z w) (hb : Below w.heap.size w w') : KB w0 s b z w' :=
  ⟨h.1.below hb, h.2.1.below hb, h.2.2.1.below hb, btr h.2.2.2 hb⟩
theorem KB.row {w0 : World} {s b z : Array Value} {w : World} (h : KB w0 s b z w) (g : Nat) (hg : w0.heap.size + 1 + 1 < g) (cs : Array Value) : KB w0 s b z (w.setRow g cs) :=
  ⟨(setRow_other w g _ cs (by omega)).trans h.1, (setRow_other w g _ cs (by omega)).trans h.2.1, (setRow_other w g _ cs (by omega)).trans h.2.2.1, below_setRow h.2.2.2 (by omega) cs⟩
/-- A block that was made on the way, or none yet. -/
def Slot (N : Nat) (t : TypeId) (z cs : Array Value) (made full : Bool) (v : Value) (g : Nat) (w : World) : Prop :=
  if made then v = .pointer (some ⟨g, 0, none⟩) ∧ N < g ∧ Blk w g t (if full then cs else z) else full = false ∧ g = 0
theorem Slot.below {N : Nat} {t : TypeId} {z cs : Array Value} {made full : Bool} {v : Value} {g : Nat} {w w' : World} (h : Slot N t z cs made full v g w) (hb : Below w.heap.size w w') : Slot N t z cs made full v g w' := by
  unfold Slot at *
  split
  · next hm => rw [if_pos hm] at h; exact ⟨h.1, h.2.1, h.2.2.below hb⟩
  · next hm => rw [if_neg hm] at h; exact h
theorem Slot.row {N : Nat} {t : TypeId} {z cs : Array Value} {made full : Bool} {v : Value} {g : Nat} {w : World} (h : Slot N t z cs made full v g w) (g' : Nat) (hg : g ≠ g') (cs' : Array Value) : Slot N t z cs made full v g (w.setRow g' cs') := by
  unfold Slot at *
  split
  · next hm => rw [if_pos hm] at h; exact ⟨h.1, h.2.1, (setRow_other w g' g cs' hg).trans h.2.2⟩
  · next hm => rw [if_neg hm] at h; exact h
theorem Slot.lt {N : Nat} {t : TypeId} {z cs : Array Value} {made full : Bool} {v : Value} {g : Nat} {w : World} (h : Slot N t z cs made full v g w) (hN : N < w.heap.size) : g < w.heap.size := by
  unfold Slot at h
  split at h
  · exact h.2.2.lt
  · omega
/-- The region's invariant: which operations have come says what the frame and the memory hold. -/
def J73 (w0 : World) (s b z ks zk ds zd : Array Value) (b0 b1 b2 b3 b4 b5 b6 : Bool) (a : Act) (w : World) : Prop :=
  ∃ t5 t6 t10 t11 t12 g5 g6, a = fr73 s b w0.heap.size t5 t6 t10 t11 t12 ∧ KB w0 s b z w ∧ (b0 = true → t10 = .agg ks) ∧ (b1 = true → t11 = .agg b) ∧ (b2 = true → t12 = .agg ds) ∧
    Slot (w0.heap.size + 1 + 1) 107 zk ks b3 b5 t5 g5 w ∧ Slot (w0.heap.size + 1 + 1) 109 zd ds b4 b6 t6 g6 w ∧ (b3 = true → b4 = true → g5 ≠ g6)
theorem reg73 (w0 : World) (s b z ks zk ds zd : Array Value) (Q : Exit → Act → World → Prop)
    (hc83 : ∀ w, Calls Try.prog 85 #[] w fun e w' => e = .returned (.agg ks) ∧ Below w.heap.size w w')
    (hc78 : ∀ w, Calls Try.prog 86 #[.agg b] w fun e w' => e = .returned (.agg ds) ∧ Below w.heap.size w w')
    (hzk : (Try.prog.info? 107).bind (·.zero) = some (.agg zk)) (hzd : (Try.prog.info? 109).bind (·.zero) = some (.agg zd))
    (hsb : (Try.prog.info? 85).map (·.size) = some b.size)
    (hsk : (Try.prog.info? 107).map (·.size) = some ks.size) (hsk2 : zk.size = ks.size) (hk1 : ks.all (·.oneCell') = true)
    (hsd : (Try.prog.info? 109).map (·.size) = some ds.size) (hsd2 : zd.size = ds.size) (hd1 : ds.all (·.oneCell') = true)
    (hQ : ∀ a w, J73 w0 s b z ks zk ds zd true true true true true true true a w → Q .normal a w) :
    ∀ (fuel : Nat) (b0 b1 b2 b3 b4 b5 b6 : Bool) (a : Act) (w : World), cnt b0 + cnt b1 + cnt b2 + cnt b3 + cnt b4 + cnt b5 + cnt b6 ≤ fuel → J73 w0 s b z ks zk ds zd b0 b1 b2 b3 b4 b5 b6 a w →
      wpAny Try.prog .any (secondOps Try.f78.body) Q fuel #[b0, b1, b2, b3, b4, b5, b6] a w := by
  intro fuel
  have fin : ∀ (b0 b1 b2 b3 b4 b5 b6 : Bool) (a : Act) (w : World), J73 w0 s b z ks zk ds zd b0 b1 b2 b3 b4 b5 b6 a w → (b0 && b1 && b2 && b3 && b4 && b5 && b6) = true → Q .normal a w := by
    intro b0 b1 b2 b3 b4 b5 b6 a w hJ h
    simp only [Bool.and_eq_true] at h
    obtain ⟨⟨⟨⟨⟨⟨rfl, rfl⟩, rfl⟩, rfl⟩, rfl⟩, rfl⟩, rfl⟩ := h
    exact hQ a w hJ
  induction fuel with
  | zero =>
    intro b0 b1 b2 b3 b4 b5 b6 a w hc hJ
    have hall : b0 = true ∧ b1 = true ∧ b2 = true ∧ b3 = true ∧ b4 = true ∧ b5 = true ∧ b6 = true := by
      cases b0 <;> cases b1 <;> cases b2 <;> cases b3 <;> cases b4 <;> cases b5 <;> cases b6 <;> simp [cnt] at hc ⊢
    obtain ⟨rfl, rfl, rfl, rfl, rfl, rfl, rfl⟩ := hall
    exact ⟨by kernel_rfl, hQ a w hJ⟩
  | succ fuel ih =>
    intro b0 b1 b2 b3 b4 b5 b6 a w hc hJ
    refine ⟨fun h => fin _ _ _ _ _ _ _ a w hJ (done73 _ _ _ _ _ _ _ h), fun i hi => ?_⟩
    have hm := ready73 _ _ _ _ _ _ _ i hi
    clear hi
    obtain ⟨t5, t6, t10, t11, t12, g5, g6, rfl, hK, h0, h1, h2, h5, h6, hne⟩ := hJ
    have hNs := hK.2.2.1.lt
    simp only [may73, Bool.or_eq_true, Bool.and_eq_true, beq_iff_eq, Bool.not_eq_true'] at hm
    rcases hm with (((((⟨rfl, rfl⟩ | ⟨rfl, rfl⟩) | ⟨⟨rfl, rfl⟩, rfl⟩) | ⟨rfl, rfl⟩) | ⟨rfl, rfl⟩) | ⟨⟨⟨rfl, rfl⟩, rfl⟩, rfl⟩) | ⟨⟨⟨rfl, rfl⟩, rfl⟩, rfl⟩
    · obtain ⟨o, ho, hop, hdst, hgd⟩ := op_parts (ops := (secondOps Try.f78.body)) (i := 0) (op := Op.call { callee := Callee.value (Operand.func 85), args := #[], argTypes := #[] }) (dst := some 10) (by kernel_rfl)
      refine wpOp_plain ho hgd ?_
      refine wp_callOp 85 _ Try.func85 (by kernel_rfl) (by kernel_rfl) #[] #[] _ hop (by simp) _ hdst (.agg ks) _ (hc83 w) (fun w' hb => (ih true b1 b2 b3 b4 b5 b6 _ _ (by simp [cnt] at hc ⊢; omega) ?_))
      exact ⟨t5, t6, _, t11, t12, g5, g6, rfl, hK.below hb, fun _ => rfl, h1, h2, h5.below hb, h6.below hb, hne⟩
    · obtain ⟨o, ho, hop, hdst, hgd⟩ := op_parts (ops := (secondOps Try.f78.body)) (i := 1) (op := Op.load 85 (Operand.tmp 3)) (dst := some 11) (by kernel_rfl)
      refine wpOp_plain ho hgd ?_
      refine wp_load_row 85 _ hop (w0.heap.size + 1) rfl 85 b (0, 0) (.array 64 5) hK.2.1 (by kernel_rfl) rfl hsb ?_
      rw [hdst]
      refine ih b0 true b2 b3 b4 b5 b6 _ _ (by simp [cnt] at hc ⊢; omega) ?_
      exact ⟨t5, t6, t10, _, t12, g5, g6, rfl, hK, h0, fun _ => rfl, h2, h5, h6, hne⟩
    · obtain ⟨o, ho, hop, hdst, hgd⟩ := op_parts (ops := (secondOps Try.f78.body)) (i := 2) (op := Op.call { callee := Callee.value (Operand.func 86), args := #[Operand.tmp 11], argTypes := #[85] }) (dst := some 12) (by kernel_rfl)
      refine wpOp_plain ho hgd ?_
      obtain rfl := h1 rfl
      refine wp_callOp 86 _ Try.func86 (by kernel_rfl) (by kernel_rfl) #[.agg b] #[.tmp 11] _ hop (by simp [fr73, Act.eval]) _ hdst (.agg ds) _ (hc78 w) (fun w' hb => (ih b0 true true b3 b4 b5 b6 _ _ (by simp [cnt] at hc ⊢; omega) ?_))
      exact ⟨t5, t6, t10, _, _, g5, g6, rfl, hK.below hb, h0, h1, fun _ => rfl, h5.below hb, h6.below hb, hne⟩
    · obtain ⟨o, ho, hop, hdst, hgd⟩ := op_parts (ops := (secondOps Try.f78.body)) (i := 3) (op := Op.alloc 107) (dst := some 5) (by kernel_rfl)
      refine wpOp_plain ho hgd ?_
      refine wp_allocRow 107 hop _ hdst zk hzk ((ih b0 b1 b2 true b4 b5 b6 _ _ (by simp [cnt] at hc ⊢; omega) ?_))
      have hb : Below w.heap.size w (w.alloc (.cells zk 107)) := bal (Below.refl _ _) _
      have e5 : b5 = false := by unfold Slot at h5; simpa using h5.1
      subst e5
      exact ⟨_, t6, t10, t11, t12, w.heap.size, g6, rfl, hK.below hb, h0, h1, h2, ⟨rfl, hNs, Blk.new _ _ _⟩, h6.below hb, fun _ hb4 => by have := h6.lt hNs; omega⟩
    · obtain ⟨o, ho, hop, hdst, hgd⟩ := op_parts (ops := (secondOps Try.f78.body)) (i := 4) (op := Op.alloc 109) (dst := some 6) (by kernel_rfl)
      refine wpOp_plain ho hgd ?_
      refine wp_allocRow 109 hop _ hdst zd hzd ((ih b0 b1 b2 b3 true b5 b6 _ _ (by simp [cnt] at hc ⊢; omega) ?_))
      have hb : Below w.heap.size w (w.alloc (.cells zd 109)) := bal (Below.refl _ _) _
      have e6 : b6 = false := by unfold Slot at h6; simpa using h6.1
      subst e6
      exact ⟨t5, _, t10, t11, t12, g5, w.heap.size, rfl, hK.below hb, h0, h1, h2, h5.below hb, ⟨rfl, hNs, Blk.new _ _ _⟩, fun _ _ => by have := h5.lt hNs; omega⟩
    · obtain ⟨o, ho, hop, hdst, hgd⟩ := op_parts (ops := (secondOps Try.f78.body)) (i := 5) (op := Op.store 107 (Operand.tmp 5) (Operand.tmp 10)) (dst := none) (by kernel_rfl)
      refine wpOp_plain ho hgd ?_
      obtain rfl := h0 rfl
      obtain ⟨rfl, hg, hbk⟩ := h5
      refine wp_store_row 107 _ _ hop g5 ks rfl rfl 107 zk hbk hsk hsk2 hk1 ?_
      rw [hdst]
      refine ih true b1 b2 true b4 true b6 _ _ (by simp [cnt] at hc ⊢; omega) ?_
      refine ⟨_, t6, _, t11, t12, g5, g6, rfl, hK.row g5 hg ks, h0, h1, h2, ⟨rfl, hg, setRow_heap _ _ _ _ _ _ hbk⟩, ?_, hne⟩
      cases b4 with
      | true => exact h6.row g5 (fun e => hne rfl rfl e.symm) ks
      | false => unfold Slot at *; simpa using h6
    · obtain ⟨o, ho, hop, hdst, hgd⟩ := op_parts (ops := (secondOps Try.f78.body)) (i := 6) (op := Op.store 109 (Operand.tmp 6) (Operand.tmp 12)) (dst := none) (by kernel_rfl)
      refine wpOp_plain ho hgd ?_
      obtain rfl := h2 rfl
      obtain ⟨rfl, hg, hbk⟩ := h6
      refine wp_store_row 109 _ _ hop g6 ds rfl rfl 109 zd hbk hsd hsd2 hd1 ?_
      rw [hdst]
      refine ih b0 b1 true b3 true b5 true _ _ (by simp [cnt] at hc ⊢; omega) ?_
      refine ⟨t5, _, t10, t11, _, g5, g6, rfl, hK.row g6 hg ds, h0, h1, h2, ?_, ⟨rfl, hg, setRow_heap _ _ _ _ _ _ hbk⟩, hne⟩
      cases b3 with
      | true => exact h5.row g6 (fun e => hne rfl rfl e) ds
      | false => unfold Slot at *; simpa using h5
end Go.Proofs.Ytacdnednkglobaa
