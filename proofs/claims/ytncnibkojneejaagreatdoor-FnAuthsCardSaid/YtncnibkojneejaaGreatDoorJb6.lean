import Derived.Test.YtncnibkojneejaaGreatDoorJb5
import Derived.Test.YtncnibkojneejaaGreatDoorJa7
import Derived.StillTailTactics
import Derived.RangeFuncFrom
import Derived.RangeFuncBound
import Derived.RangeFuncCalls
import Derived.RangeFuncLeaves
import Derived.Shelf.Abstract
import Derived.Shelf.RegionOpen
import Derived.WalkKit
import Derived.OwnWalkIn
import Derived.TacticsInMore
import Derived.LoopNIn
import Derived.LoopIn
import Derived.ControlIn

/- The program's compress: the region that draws its order, by an invariant. -/
namespace Go.Proofs.YtncnibkojneejaaGreatDoor
open Go.RowKit Go.Deep

/-- The operations of a body's second region. -/
def secondOps (c : Option Code) : Array Oper := match c with
  | some (.seq _ (.seq (.region _ ops _) _)) => ops
  | _ => #[]
theorem zero90 : (Tryz.prog.info? 162).bind (·.zero) = some (.agg (U (List.replicate 64 0))) := by kernel_rfl
theorem zero77 : (Tryz.prog.info? 152).bind (·.zero) = some (.agg (U (List.replicate 8 0))) := by kernel_rfl
def both (p : Bool → Bool) : Bool := p true && p false
theorem both_yes {p : Bool → Bool} (h : both p = true) (b : Bool) : p b = true := by
  unfold both at h
  cases b <;> simp_all
/-- What a ready operation may rely on. -/
def may73 (b0 b1 b2 b3 b4 b5 b6 : Bool) (i : Nat) : Bool :=
  (i == 0 && !b0) || (i == 1 && !b1) || (i == 2 && !b2 && b1) || (i == 3 && !b3) || (i == 4 && !b4) || (i == 5 && !b5 && b3 && b0) || (i == 6 && !b6 && b4 && b2)
def chk73 (ops : Array Oper) (b0 b1 b2 b3 b4 b5 b6 : Bool) : Bool :=
  (Region.ready .any ops #[b0, b1, b2, b3, b4, b5, b6]).all (may73 b0 b1 b2 b3 b4 b5 b6) && (!(Region.ready .any ops #[b0, b1, b2, b3, b4, b5, b6]).isEmpty || (b0 && b1 && b2 && b3 && b4 && b5 && b6))
theorem all73 : (both fun b0 => both fun b1 => both fun b2 => both fun b3 => both fun b4 => both fun b5 => both fun b6 => chk73 (secondOps Tryz.f96.body) b0 b1 b2 b3 b4 b5 b6) = true := by kernel_rfl
theorem yes73 (b0 b1 b2 b3 b4 b5 b6 : Bool) : chk73 (secondOps Tryz.f96.body) b0 b1 b2 b3 b4 b5 b6 = true :=
  both_yes (both_yes (both_yes (both_yes (both_yes (both_yes (both_yes all73 b0) b1) b2) b3) b4) b5) b6
theorem ready73 (b0 b1 b2 b3 b4 b5 b6 : Bool) (i : Nat) (h : i ∈ Region.ready .any (secondOps Tryz.f96.body) #[b0, b1, b2, b3, b4, b5, b6]) : may73 b0 b1 b2 b3 b4 b5 b6 i = true := by
  have := yes73 b0 b1 b2 b3 b4 b5 b6
  unfold chk73 at this
  rw [Bool.and_eq_true] at this
  exact List.all_eq_true.1 this.1 i h
theorem done73 (b0 b1 b2 b3 b4 b5 b6 : Bool) (h : Region.ready .any (secondOps Tryz.f96.body) #[b0, b1, b2, b3, b4, b5, b6] = []) : (b0 && b1 && b2 && b3 && b4 && b5 && b6) = true := by
  have := yes73 b0 b1 b2 b3 b4 b5 b6
  unfold chk73 at this
  rw [Bool.and_eq_true, h] at this
  simpa using this.2
/-- The frame of compress behind its first two regions. -/
def fr73 (s b : Array Value) (n : Nat) (t5 t6 t10 t11 t12 : Value) : Act :=
  { tmps := #[.agg s, .agg b, .pointer (some ⟨n, 0, none⟩), .pointer (some ⟨n + 1, 0, none⟩), .pointer (some ⟨n + 1 + 1, 0, none⟩), t5, t6, undef, undef, undef, t10, t11, t12, undef, undef, undef, undef, undef, undef, undef, undef, undef, undef, undef, undef, undef, undef, undef, undef, undef, undef, undef, undef, undef, undef, undef, undef, undef, undef], defers := [] }
/-- What lies in memory all along. -/
def KB (w0 : World) (s b z : Array Value) (w : World) : Prop :=
  Blk w w0.heap.size 152 s ∧ Blk w (w0.heap.size + 1) 124 b ∧ Blk w (w0.heap.size + 1 + 1) 152 z ∧ Below w0.heap.size w0 w
theorem KB.below {w0 : World} {s b z : Array Value} {w w' : World} (h : KB w0 s b z w) (hb : Below w.heap.size w w') : KB w0 s b z w' :=
  ⟨h.1.below hb, h.2.1.below hb, h.2.2.1.below hb, btr h.2.2.2 hb⟩
theorem KB.row {w0 : World} {s b z : Array Value} {w : World} (h : KB w0 s b z w) (g : Nat) (hg : w0.heap.size + 1 + 1 < g) (cs : Array Value) : KB w0 s b z (w.setRow g cs) :=
  ⟨(setRow_other w g _ cs (by omega)).trans h.1, (setRow_other w g _ cs (by omega)).trans h.2.1, (setRow_other w g _ cs (by omega)).trans h.2.2.1, below_setRow h.2.2.2 (by omega) cs⟩
/-- A block that was made on the way, or none yet. -/
def Slot (N : Nat) (t : TypeId) (z cs : Array Value) (made full : Bool) (v : Value) (g : Nat) (w : World) : Prop :=
  if made then v = .pointer (some ⟨g, 0, none⟩) ∧ N < g ∧ Blk w g t (if full then cs else z) else full = false ∧ g = 0
theorem Slot.below {N : Nat} {t : TypeId} {z cs : Array Value} {made full : Bool} {v : Value} {g : Nat} {w w' : World} (h : Slot N t z cs made full v g w) (hb : Below w.heap.size w w') : Slot N t z cs made full v g w' := by
  unfold Slot at *
  split
  · next hm => rw [if_pos hm] at h; exact ⟨h.1, h.2.1, h.2.2.below hb⟩
  · next hm => rw [if_neg hm] at h; exact h
theorem Slot.row {N : Nat} {t : TypeId} {z cs : Array Value} {made full : Bool} {v : Value} {g : Nat} {w : World} (h : Slot N t z cs made full v g w) (g' : Nat) (hg : g ≠ g') (cs' : Array Value) : Slot N t z cs made full v g (w.setRow g' cs') := by
  unfold Slot at *
  split
  · next hm => rw [if_pos hm] at h; exact ⟨h.1, h.2.1, (setRow_other w g' g cs' hg).trans h.2.2⟩
  · next hm => rw [if_neg hm] at h; exact h
theorem Slot.lt {N : Nat} {t : TypeId} {z cs : Array Value} {made full : Bool} {v : Value} {g : Nat} {w : World} (h : Slot N t z cs made full v g w) (hN : N < w.heap.size) : g < w.heap.size := by
  unfold Slot at h
  split at h
  · exact h.2.2.lt
  · omega
/-- The region's invariant: which operations have come says what the frame and the memory hold. -/
def J73 (w0 : World) (s b z ks zk ds zd : Array Value) (b0 b1 b2 b3 b4 b5 b6 : Bool) (a : Act) (w : World) : Prop :=
  ∃ t5 t6 t10 t11 t12 g5 g6, a = fr73 s b w0.heap.size t5 t6 t10 t11 t12 ∧ KB w0 s b z w ∧ (b0 = true → t10 = .agg ks) ∧ (b1 = true → t11 = .agg b) ∧ (b2 = true → t12 = .agg ds) ∧
    Slot (w0.heap.size + 1 + 1) 162 zk ks b3 b5 t5 g5 w ∧ Slot (w0.heap.size + 1 + 1) 164 zd ds b4 b6 t6 g6 w ∧ (b3 = true → b4 = true → g5 ≠ g6)
theorem reg73 (w0 : World) (s b z ks zk ds zd : Array Value) (Q : Exit → Act → World → Prop)
    (hc83 : ∀ w, Calls Tryz.prog 104 #[] w fun e w' => e = .returned (.agg ks) ∧ Below w.heap.size w w')
    (hc78 : ∀ w, Calls Tryz.prog 105 #[.agg b] w fun e w' => e = .returned (.agg ds) ∧ Below w.heap.size w w')
    (hzk : (Tryz.prog.info? 162).bind (·.zero) = some (.agg zk)) (hzd : (Tryz.prog.info? 164).bind (·.zero) = some (.agg zd))
    (hsb : (Tryz.prog.info? 124).map (·.size) = some b.size)
    (hsk : (Tryz.prog.info? 162).map (·.size) = some ks.size) (hsk2 : zk.size = ks.size) (hk1 : ks.all (·.oneCell') = true)
    (hsd : (Tryz.prog.info? 164).map (·.size) = some ds.size) (hsd2 : zd.size = ds.size) (hd1 : ds.all (·.oneCell') = true)
    (hQ : ∀ a w, J73 w0 s b z ks zk ds zd true true true true true true true a w → Q .normal a w) :
    ∀ (fuel : Nat) (b0 b1 b2 b3 b4 b5 b6 : Bool) (a : Act) (w : World), cnt b0 + cnt b1 + cnt b2 + cnt b3 + cnt b4 + cnt b5 + cnt b6 ≤ fuel → J73 w0 s b z ks zk ds zd b0 b1 b2 b3 b4 b5 b6 a w →
      wpAny Tryz.prog .any (secondOps Tryz.f96.body) Q fuel #[b0, b1, b2, b3, b4, b5, b6] a w := by
  intro fuel
  have fin : ∀ (b0 b1 b2 b3 b4 b5 b6 : Bool) (a : Act) (w : World), J73 w0 s b z ks zk ds zd b0 b1 b2 b3 b4 b5 b6 a w → (b0 && b1 && b2 && b3 && b4 && b5 && b6) = true → Q .normal a w := by
    intro b0 b1 b2 b3 b4 b5 b6 a w hJ h
    simp only [Bool.and_eq_true] at h
    obtain ⟨⟨⟨⟨⟨⟨rfl, rfl⟩, rfl⟩, rfl⟩, rfl⟩, rfl⟩, rfl⟩ := h
    exact hQ a w hJ
  induction fuel with
  | zero =>
    intro b0 b1 b2 b3 b4 b5 b6 a w hc hJ
    have hall : b0 = true ∧ b1 = true ∧ b2 = true ∧ b3 = true ∧ b4 = true ∧ b5 = true ∧ b6 = true := by
      cases b0 <;> cases b1 <;> cases b2 <;> cases b3 <;> cases b4 <;> cases b5 <;> cases b6 <;> simp [cnt] at hc ⊢
    obtain ⟨rfl, rfl, rfl, rfl, rfl, rfl, rfl⟩ := hall
    exact ⟨by kernel_rfl, hQ a w hJ⟩
  | succ fuel ih =>
    intro b0 b1 b2 b3 b4 b5 b6 a w hc hJ
    refine ⟨fun h => fin _ _ _ _ _ _ _ a w hJ (done73 _ _ _ _ _ _ _ h), fun i hi => ?_⟩
    have hm := ready73 _ _ _ _ _ _ _ i hi
    clear hi
    obtain ⟨t5, t6, t10, t11, t12, g5, g6, rfl, hK, h0, h1, h2, h5, h6, hne⟩ := hJ
    have hNs := hK.2.2.1.lt
    simp only [may73, Bool.or_eq_true, Bool.and_eq_true, beq_iff_eq, Bool.not_eq_true'] at hm
    rcases hm with (((((⟨rfl, rfl⟩ | ⟨rfl, rfl⟩) | ⟨⟨rfl, rfl⟩, rfl⟩) | ⟨rfl, rfl⟩) | ⟨rfl, rfl⟩) | ⟨⟨⟨rfl, rfl⟩, rfl⟩, rfl⟩) | ⟨⟨⟨rfl, rfl⟩, rfl⟩, rfl⟩
    · obtain ⟨o, ho, hop, hdst, hgd⟩ := op_parts (ops := (secondOps Tryz.f96.body)) (i := 0) (op := Op.call { callee := Callee.value (Operand.func 104), args := #[], argTypes := #[] }) (dst := some 10) (by kernel_rfl)
      refine wpOp_plain ho hgd ?_
      refine wp_callOp 104 _ Tryz.func104 (by kernel_rfl) (by kernel_rfl) #[] #[] _ hop (by simp) _ hdst (.agg ks) _ (hc83 w) (fun w' hb => (ih true b1 b2 b3 b4 b5 b6 _ _ (by simp [cnt] at hc ⊢; omega) ?_))
      exact ⟨t5, t6, _, t11, t12, g5, g6, rfl, hK.below hb, fun _ => rfl, h1, h2, h5.below hb, h6.below hb, hne⟩
    · obtain ⟨o, ho, hop, hdst, hgd⟩ := op_parts (ops := (secondOps Tryz.f96.body)) (i := 1) (op := Op.load 124 (Operand.tmp 3)) (dst := some 11) (by kernel_rfl)
      refine wpOp_plain ho hgd ?_
      refine wp_load_row 124 _ hop (w0.heap.size + 1) rfl 124 b (0, 0) (.array 64 5) hK.2.1 (by kernel_rfl) rfl hsb ?_
      rw [hdst]
      refine ih b0 true b2 b3 b4 b5 b6 _ _ (by simp [cnt] at hc ⊢; omega) ?_
      exact ⟨t5, t6, t10, _, t12, g5, g6, rfl, hK, h0, fun _ => rfl, h2, h5, h6, hne⟩
    · obtain ⟨o, ho, hop, hdst, hgd⟩ := op_parts (ops := (secondOps Tryz.f96.body)) (i := 2) (op := Op.call { callee := Callee.value (Operand.func 105), args := #[Operand.tmp 11], argTypes := #[124] }) (dst := some 12) (by kernel_rfl)
      refine wpOp_plain ho hgd ?_
      obtain rfl := h1 rfl
      refine wp_callOp 105 _ Tryz.func105 (by kernel_rfl) (by kernel_rfl) #[.agg b] #[.tmp 11] _ hop (by simp [fr73, Act.eval]) _ hdst (.agg ds) _ (hc78 w) (fun w' hb => (ih b0 true true b3 b4 b5 b6 _ _ (by simp [cnt] at hc ⊢; omega) ?_))
      exact ⟨t5, t6, t10, _, _, g5, g6, rfl, hK.below hb, h0, h1, fun _ => rfl, h5.below hb, h6.below hb, hne⟩
    · obtain ⟨o, ho, hop, hdst, hgd⟩ := op_parts (ops := (secondOps Tryz.f96.body)) (i := 3) (op := Op.alloc 162) (dst := some 5) (by kernel_rfl)
      refine wpOp_plain ho hgd ?_
      refine wp_allocRow 162 hop _ hdst zk hzk ((ih b0 b1 b2 true b4 b5 b6 _ _ (by simp [cnt] at hc ⊢; omega) ?_))
      have hb : Below w.heap.size w (w.alloc (.cells zk 162)) := bal (Below.refl _ _) _
      have e5 : b5 = false := by unfold Slot at h5; simpa using h5.1
      subst e5
      exact ⟨_, t6, t10, t11, t12, w.heap.size, g6, rfl, hK.below hb, h0, h1, h2, ⟨rfl, hNs, Blk.new _ _ _⟩, h6.below hb, fun _ hb4 => by have := h6.lt hNs; omega⟩
    · obtain ⟨o, ho, hop, hdst, hgd⟩ := op_parts (ops := (secondOps Tryz.f96.body)) (i := 4) (op := Op.alloc 164) (dst := some 6) (by kernel_rfl)
      refine wpOp_plain ho hgd ?_
      refine wp_allocRow 164 hop _ hdst zd hzd ((ih b0 b1 b2 b3 true b5 b6 _ _ (by simp [cnt] at hc ⊢; omega) ?_))
      have hb : Below w.heap.size w (w.alloc (.cells zd 164)) := bal (Below.refl _ _) _
      have e6 : b6 = false := by unfold Slot at h6; simpa using h6.1
      subst e6
      exact ⟨t5, _, t10, t11, t12, g5, w.heap.size, rfl, hK.below hb, h0, h1, h2, h5.below hb, ⟨rfl, hNs, Blk.new _ _ _⟩, fun _ _ => by have := h5.lt hNs; omega⟩
    · obtain ⟨o, ho, hop, hdst, hgd⟩ := op_parts (ops := (secondOps Tryz.f96.body)) (i := 5) (op := Op.store 162 (Operand.tmp 5) (Operand.tmp 10)) (dst := none) (by kernel_rfl)
      refine wpOp_plain ho hgd ?_
      obtain rfl := h0 rfl
      obtain ⟨rfl, hg, hbk⟩ := h5
      refine wp_store_row 162 _ _ hop g5 ks rfl rfl 162 zk hbk hsk hsk2 hk1 ?_
      rw [hdst]
      refine ih true b1 b2 true b4 true b6 _ _ (by simp [cnt] at hc ⊢; omega) ?_
      refine ⟨_, t6, _, t11, t12, g5, g6, rfl, hK.row g5 hg ks, h0, h1, h2, ⟨rfl, hg, setRow_heap _ _ _ _ _ _ hbk⟩, ?_, hne⟩
      cases b4 with
      | true => exact h6.row g5 (fun e => hne rfl rfl e.symm) ks
      | false => unfold Slot at *; simpa using h6
    · obtain ⟨o, ho, hop, hdst, hgd⟩ := op_parts (ops := (secondOps Tryz.f96.body)) (i := 6) (op := Op.store 164 (Operand.tmp 6) (Operand.tmp 12)) (dst := none) (by kernel_rfl)
      refine wpOp_plain ho hgd ?_
      obtain rfl := h2 rfl
      obtain ⟨rfl, hg, hbk⟩ := h6
      refine wp_store_row 164 _ _ hop g6 ds rfl rfl 164 zd hbk hsd hsd2 hd1 ?_
      rw [hdst]
      refine ih b0 b1 true b3 true b5 true _ _ (by simp [cnt] at hc ⊢; omega) ?_
      refine ⟨t5, _, t10, t11, _, g5, g6, rfl, hK.row g6 hg ds, h0, h1, h2, ?_, ⟨rfl, hg, setRow_heap _ _ _ _ _ _ hbk⟩, hne⟩
      cases b3 with
      | true => exact h5.row g6 (fun e => hne rfl rfl e) ds
      | false => unfold Slot at *; simpa using h5
end Go.Proofs.YtncnibkojneejaaGreatDoor

/- The program's compress. -/
namespace Go.Proofs.YtncnibkojneejaaGreatDoor
open Go.RowKit Go.Deep

/-- The state, k words of it added. -/
def mixN (st R : List Nat) (k : Nat) : List Nat := (List.range 8).map fun j => if j < k then sumN st R j else R.getD j 0
theorem mixN_len (st R : List Nat) (k : Nat) : (mixN st R k).length = 8 := by simp [mixN]
theorem mixN_zero (st R : List Nat) (h : R.length = 8) : mixN st R 0 = R := by
  obtain ⟨x0, x1, x2, x3, x4, x5, x6, x7, rfl⟩ := eight h
  rfl
theorem mixN_get (st R : List Nat) (k : Nat) (h : k < 8) : (mixN st R k).getD k 0 = R.getD k 0 := by
  simp [mixN, List.getD_eq_getElem?_getD, h]
theorem mixN_succ (st R : List Nat) (k : Nat) (_h : k < 8) : (mixN st R k).set k ((R.getD k 0 + st.getD k 0) % 4294967296) = mixN st R (k + 1) := by
  apply List.ext_getElem
  · simp [mixN]
  · intro j h1 h2
    rw [List.getElem_set]
    simp only [mixN, List.getElem_map, List.getElem_range]
    split
    · next h => subst h; rw [if_pos (Nat.lt_succ_self _), sumN, Nat.add_comm]
    · next h =>
      by_cases hh : j < k
      · rw [if_pos hh, if_pos (by omega)]
      · rw [if_neg hh, if_neg (by omega)]
theorem mixN_end (st R : List Nat) : mixN st R 8 = (List.range 8).map (sumN st R) := by
  apply List.map_congr_left
  intro j hj
  rw [if_pos (by simpa using hj)]
/-- What the rounds leave alone. -/
def KC (w0 : World) (st ws : List Nat) (z : Array Value) (g5 g6 : Nat) (w : World) : Prop :=
  Urow w w0.heap.size 152 st ∧ Blk w (w0.heap.size + 1 + 1) 152 z ∧ Urow w g5 162 keysN ∧ Urow w g6 164 ws ∧ Below w0.heap.size w0 w
theorem KC.below {w0 : World} {st ws : List Nat} {z : Array Value} {g5 g6 : Nat} {w w' : World} (h : KC w0 st ws z g5 g6 w) (hb : Below w.heap.size w w') : KC w0 st ws z g5 g6 w' :=
  ⟨Blk.below h.1 hb, h.2.1.below hb, Blk.below h.2.2.1 hb, Blk.below h.2.2.2.1 hb, btr h.2.2.2.2 hb⟩
theorem KC.row {w0 : World} {st ws : List Nat} {z : Array Value} {g5 g6 : Nat} {w : World} (h : KC w0 st ws z g5 g6 w) (g : Nat) (hg : w0.heap.size + 1 + 1 < g) (h5 : g5 < g) (h6 : g6 < g) (cs : Array Value) : KC w0 st ws z g5 g6 (w.setRow g cs) :=
  ⟨(setRow_other w g _ cs (by omega)).trans h.1, (setRow_other w g _ cs (by omega)).trans h.2.1, (setRow_other w g _ cs (by omega)).trans h.2.2.1, (setRow_other w g _ cs (by omega)).trans h.2.2.2.1, below_setRow h.2.2.2.2 (by omega) cs⟩
theorem KC.cell {w0 : World} {st ws : List Nat} {z : Array Value} {g5 g6 : Nat} {w : World} (h : KC w0 st ws z g5 g6 w) (g j : Nat) (hg : w0.heap.size + 1 + 1 < g) (h5 : g5 < g) (h6 : g6 < g) (v : Value) : KC w0 st ws z g5 g6 (w.setCell ⟨g, j, none⟩ v) :=
  ⟨blk_far h.1 (by simp; omega) v, blk_far h.2.1 (by simp; omega) v, blk_far h.2.2.1 (by simp; omega) v, blk_far h.2.2.2.1 (by simp; omega) v, bst h.2.2.2.2 (by simp; omega) v⟩
set_option maxRecDepth 100000 in
set_option maxHeartbeats 8000000 in
theorem cmp_impl (st : List Nat) (l : List Int) (w : World) (hst : AllW st) (h8 : st.length = 8) (hl : Bytes l) (h64 : l.length = 64) :
    Calls Tryz.prog 96 #[.agg (U st), .agg (Ub l)] w fun e w' => e = .returned (.agg (U (compN st l))) ∧ Below w.heap.size w w' := by
  obtain ⟨ws, hws⟩ : ∃ ws, schedN l = ws := ⟨_, rfl⟩
  have hwL : ws.length = 64 := by rw [← hws, schedN, schedTo_len]
  have hwA : AllW ws := by rw [← hws]; exact schedTo_all hl _
  obtain ⟨s, hs⟩ : ∃ s, U st = s := ⟨_, rfl⟩
  obtain ⟨b, hb⟩ : ∃ b, Ub l = b := ⟨_, rfl⟩
  obtain ⟨z, hz⟩ : ∃ z, U (List.replicate 8 0) = z := ⟨_, rfl⟩
  obtain ⟨zk, hzk⟩ : ∃ z, U (List.replicate 64 0) = z := ⟨_, rfl⟩
  have ez := zero77
  rw [hz] at ez
  have ezk := zero90
  rw [hzk] at ezk
  have ezd := zero91
  rw [hzk] at ezd
  have hss : (Tryz.prog.info? 152).map (·.size) = some s.size := by rw [← hs, U_size, h8]; kernel_rfl
  have hs1 : s.all (·.oneCell') = true := by rw [← hs]; exact U_one st
  have hzs : z.size = s.size := by rw [← hs, ← hz, U_size, U_size, h8]; simp
  have hsb : (Tryz.prog.info? 124).map (·.size) = some b.size := by rw [← hb, show (Ub l).size = 64 from by simp [Ub, h64]]; kernel_rfl
  have hR := fun (Q : Exit → Act → World → Prop) (hQ) => reg73 w s b z (U keysN) zk (U ws) zk Q (fun w' => consts_any w') (fun w' => by have := sched_impl l w' hl h64; rwa [hb, hws] at this) ezk ezd hsb
    (by rw [U_size, keysN_len]; kernel_rfl) (by rw [← hzk, U_size, U_size, keysN_len]; simp) (U_one _) (by rw [U_size, hwL]; kernel_rfl) (by rw [← hzk, U_size, U_size, hwL]; simp) (U_one _) hQ
  have HR := hidH hR
  have HZ := hidH ez
  have H8 := hidH h8
  have HWL := hidH hwL
  have HWS := hidH hws
  have HSS := hidH hss
  have HS1 := hidH hs1
  have HZS := hidH hzs
  have HS := hidH hs
  rw [hs, hb]
  clear hR ez ezk ezd hss hsb hs1 hs hb hws hz hzk hzs h8 h64 hwL
  go_enter Tryz.func96, Tryz.ntmps96
  go_wp2_with (first | refine wpList_allocRow rfl 152 rfl _ rfl z HZ.out ?_ | refine wpList_boxRow rfl _ _ rfl _ rfl s rfl ?_ | refine wpList_boxRow rfl _ _ rfl _ rfl b rfl ?_)
  refine wp_region_any (by kernel_rfl) ?_
  refine HR.out _ ?_ 7 false false false false false false false _ _ (by decide) ?_
  rotate_left
  · have X := ((((Blk.new w 152 s).alloc (.cells b 124)).alloc (.cells z 152)))
    have Y := (Blk.new (w.alloc (.cells s 152)) 124 b).alloc (.cells z 152)
    have Z := Blk.new ((w.alloc (.cells s 152)).alloc (.cells b 124)) 152 z
    simp only [World.size_alloc] at Y Z
    exact ⟨undef, undef, undef, undef, undef, 0, 0, by simp [fr73, Act.put], ⟨X, Y, Z, Below.drew (bal (bal (bal (Below.refl _ _) _) _) _)⟩, (fun h => by cases h), (fun h => by cases h), (fun h => by cases h), ⟨rfl, rfl⟩, ⟨rfl, rfl⟩, (fun h => by cases h)⟩
  rintro a W ⟨t5, t6, t10, t11, t12, g5, g6, rfl, hK, h0, h1, h2, ⟨rfl, hg5, hb5⟩, ⟨rfl, hg6, hb6⟩, hne⟩
  have K0 : KC w st ws z g5 g6 W := ⟨by rw [Urow, HS.out]; exact hK.1, hK.2.2.1, hb5, hb6, hK.2.2.2⟩
  have l5 := Blk.lt hb5
  have l6 := Blk.lt hb6
  have lz := hK.2.2.1.lt
  have BS := hidH hK.1
  have K1 := hidH (K0.below (bal (Below.refl _ W) (.cells s 152)))
  have SZ := hidH (And.intro l5 (And.intro l6 lz))
  have N7 := hidH (show Urow (W.alloc (.cells s 152)) W.heap.size 152 (roundsN st ws 0) from by show Blk _ _ _ (U st); rw [HS.out]; exact Blk.new _ _ _)
  clear hK h0 h1 h2 hb5 hb6 hne K0 hg5 hg6 l5 l6 lz HR
  unfold fr73
  go_wp2_with (first | refine wpList_load_row rfl 152 _ rfl w.heap.size rfl 152 s (0, 0) (.array 8 150) BS.out (by kernel_rfl) rfl HSS.out ?_ | refine wpList_allocRow rfl 152 rfl _ rfl z HZ.out ?_ | refine wpList_store_rowTo rfl _ _ _ rfl rfl W.heap.size s rfl rfl 152 _ (heap_alloc_last W _) HSS.out HZS.out HS1.out ?_)
  rw [World.setRow_alloc_new]
  obtain ⟨g7, hg7⟩ : ∃ g7, W.heap.size = g7 := ⟨_, rfl⟩
  rw [hg7] at N7 SZ ⊢
  obtain ⟨W7, hW7⟩ : ∃ W7, W.alloc (.cells s 152) = W7 := ⟨_, rfl⟩
  rw [hW7] at N7 K1 ⊢
  clear BS hW7 hg7
  go_loopw [14] (fun i wr => ∃ k : Nat, k ≤ 64 ∧ i = .int .i64 k ∧ Urow wr g7 152 (roundsN st ws k) ∧ KC w st ws z g5 g6 wr) (fun i _ => 64 - (intOf i).toNat)
  case atStart => exact ⟨0, by omega, rfl, N7.out, K1.out⟩
  case round =>
    obtain ⟨k, hk, rfl, hN, hK⟩ := hrel
    by_cases hlt : k < 64
    · have hlt2 : (k : Int) < 64 := by omega
      have hlt0 : (0 : Int) ≤ (k : Int) := by omega
      have hl8 := roundsN_len (st := st) (ws := ws) H8.out k
      have hla := roundsN_all (st := st) (ws := ws) hst k
      have hsucc : roundsN st ws (k + 1) = stepN (roundsN st ws k) (keysN.getD k 0) (ws.getD k 0) := rfl
      have HSU := hidH hsucc
      obtain ⟨v, hv⟩ : ∃ v, roundsN st ws k = v := ⟨_, rfl⟩
      rw [hv] at HSU hN hl8 hla
      clear hv hsucc
      have ck := hK.2.2.1.cell k (by rw [keysN_len]; exact hlt)
      have cw := hK.2.2.2.1.cell k (by rw [HWL.out]; exact hlt)
      have hkk : keysN.getD k 0 < 4294967296 := keysN_all.get k
      have hww := hwA.get k
      generalize keysN.getD k 0 = kk at *
      generalize ws.getD k 0 = ww at *
      obtain ⟨x0, x1, x2, x3, x4, x5, x6, x7, rfl⟩ := eight hl8
      have c0 := hN.cell 0 (by simp)
      have c1 := hN.cell 1 (by simp)
      have c2 := hN.cell 2 (by simp)
      have c3 := hN.cell 3 (by simp)
      have c4 := hN.cell 4 (by simp)
      have c5 := hN.cell 5 (by simp)
      have c6 := hN.cell 6 (by simp)
      have c7 := hN.cell 7 (by simp)
      simp at c0 c1 c2 c3 c4 c5 c6 c7
      have HN := hidH hN
      have HK := hidH hK
      have HLA := hidH (And.intro hla hl8)
      clear hN hK hla hl8
      go_wp2
      go_still_tail 7, (by kernel_rfl)
      change wpList _ _ _ _ _ wr.drew
      have HN2 := hidH (show Urow wr.drew g7 152 _ from Blk.below HN.out (Below.refl _ wr).drew)
      have HK2 := hidH (HK.out.below (Below.refl _ wr).drew)
      have hrnd := rnd_any [x0, x1, x2, x3, x4, x5, x6, x7] kk ww wr.drew HLA.out.1 HLA.out.2 hkk hww
      rw [show U [x0, x1, x2, x3, x4, x5, x6, x7] = #[.int .u32 (x0 : Int), .int .u32 (x1 : Int), .int .u32 (x2 : Int), .int .u32 (x3 : Int), .int .u32 (x4 : Int), .int .u32 (x5 : Int), .int .u32 (x6 : Int), .int .u32 (x7 : Int)] from rfl] at hrnd
      obtain ⟨nv, hnv⟩ : ∃ nv, stepN [x0, x1, x2, x3, x4, x5, x6, x7] kk ww = nv := ⟨_, rfl⟩
      have hnL : nv.length = 8 := by rw [← hnv]; rfl
      rw [hnv] at hrnd HSU
      have HRND := hidH hrnd
      have HNL := hidH (show (Tryz.prog.info? 152).map (·.size) = some (U nv).size by rw [U_size, hnL]; kernel_rfl)
      have HNO := hidH (U_one nv)
      have HNS := hidH (show (U [x0, x1, x2, x3, x4, x5, x6, x7]).size = (U nv).size by rw [U_size, U_size, hnL]; rfl)
      clear hrnd hnv hnL c0 c1 c2 c3 c4 c5 c6 c7 ck cw HN HK HLA
      generalize wr.drew = w2 at *
      obtain ⟨nu, hnu⟩ : ∃ nu, U nv = nu := ⟨_, rfl⟩
      rw [hnu] at HRND HNL HNO HNS
      have HNU := hidH hnu
      clear hnu
      go_wp2_with (first | (go_at_call 106; refine (HRND.out).mono ?_; rintro e w3 ⟨rfl, b3⟩; have HN3 := hidH (Blk.below HN2.out b3); have HK3 := hidH (HK2.out.below b3); clear b3 HN2 HK2) | refine wpList_store_rowTo rfl _ _ _ rfl rfl g7 nu rfl rfl 152 _ HN3.out HNL.out HNS.out HNO.out ?_)
      go_roundw
      case rel => exact ⟨k + 1, by omega, by go_num, by rw [HSU.out, Urow, HNU.out]; exact setRow_heap _ _ _ _ _ _ HN3.out, HK3.out.row g7 (by have := SZ.out; omega) (by have := SZ.out; omega) (by have := SZ.out; omega) _⟩
      case measure => simp [intOf]; omega
    · obtain rfl : k = 64 := by omega
      obtain ⟨R, hR⟩ : ∃ R, roundsN st ws 64 = R := ⟨_, rfl⟩
      have hRL : R.length = 8 := by rw [← hR]; exact roundsN_len (st := st) (ws := ws) H8.out 64
      have hRA : AllW R := by rw [← hR]; exact roundsN_all (st := st) (ws := ws) hst 64
      have HCMP := hidH (show (List.range 8).map (sumN st R) = compN st l by rw [compN, HWS.out, hR])
      rw [hR, ← mixN_zero st R hRL] at hN
      have HN := hidH hN
      have HK := hidH hK
      clear hN hK hR hRL hlt hk N7 K1
      rw [show ((64 : Nat) : Int) = 64 from rfl]
      go_wp2
      go_loopw [26] (fun i wr => ∃ k : Nat, k ≤ 8 ∧ i = .int .i64 k ∧ Urow wr g7 152 (mixN st R k) ∧ KC w st ws z g5 g6 wr) (fun i _ => 8 - (intOf i).toNat)
      case atStart => exact ⟨0, by omega, rfl, HN.out, HK.out⟩
      case round =>
        obtain ⟨k, hk, rfl, hN, hK⟩ := hrel
        by_cases hlt : k < 8
        · have hlt2 : (k : Int) < 8 := by omega
          have hlt0 : (0 : Int) ≤ (k : Int) := by omega
          have c1 := hN.cell k (by rw [mixN_len]; exact hlt)
          rw [mixN_get _ _ _ hlt] at c1
          have f1 := Blk.frozen hN k
          have c2 := hK.1.cell k (by rw [H8.out]; exact hlt)
          have hs := hidH (mixN_succ st R k hlt)
          have h1 := hRA.get k
          have h2 := hst.get k
          generalize R.getD k 0 = x at *
          generalize st.getD k 0 = y at *
          have HN2 := hidH hN
          have HK2 := hidH hK
          clear hN hK
          go_wp2
          go_region
          have hv : ((x : Int) + (y : Int)) % 4294967296 = (((x + y) % 4294967296 : Nat) : Int) := by simp
          rw [hv]
          clear hv c1 f1 c2
          go_wp2
          go_roundw
          case rel => exact ⟨k + 1, by omega, by go_num, by rw [← hs.out]; exact Blk.below (HN2.out.set k _) (Below.refl _ _).drew, (HK2.out.cell g7 k (by have := SZ.out; omega) (by have := SZ.out; omega) (by have := SZ.out; omega) _).below (Below.refl _ _).drew⟩
          case measure => simp [intOf]; omega
        · obtain rfl : k = 8 := by omega
          rw [mixN_end, HCMP.out] at hN
          obtain ⟨os, hos⟩ : ∃ os, U (compN st l) = os := ⟨_, rfl⟩
          have hcL : (compN st l).length = 8 := by simp [compN]
          have HOL := hidH (show (Tryz.prog.info? 152).map (·.size) = some os.size by rw [← hos, U_size, hcL]; kernel_rfl)
          have HOO := hidH (show os.all (·.oneCell') = true from hos ▸ U_one _)
          have HOS := hidH (show z.size = os.size by rw [HZS.out, ← hos, U_size, hcL, ← HS.out, U_size, H8.out])
          rw [Urow, hos] at hN
          have HN3 := hidH hN
          have HK3 := hidH hK
          have HOE := hidH hos
          clear hN hK hos hcL hlt hk
          go_wp2_with (first | refine wpList_load_row rfl 152 _ rfl g7 rfl 152 os (0, 0) (.array 8 150) HN3.out (by kernel_rfl) rfl HOL.out ?_ | refine wpList_store_rowTo rfl _ _ _ rfl rfl (w.heap.size + 1 + 1) os rfl rfl 152 _ HK3.out.2.1 HOL.out HOS.out HOO.out ?_)
          exact bodyPost_ret (v := .agg os) (results_cell_row rfl _ _ (w.heap.size + 1 + 1) 152 _ (0, 0) (.array 8 150) rfl (setRow_heap _ _ _ _ _ _ HK3.out.2.1) (by kernel_rfl) rfl HOL.out) rfl ⟨by rw [HOE.out], below_setRow HK3.out.2.2.2.2 (by omega) _⟩
end Go.Proofs.YtncnibkojneejaaGreatDoor

/- The program's CompressBlock: its region that draws its order, by an invariant. -/
namespace Go.Proofs.YtncnibkojneejaaGreatDoor
open Go.RowKit Go.Deep

end Go.Proofs.YtncnibkojneejaaGreatDoor

/- The program's CompressBlock. -/
namespace Go.Proofs.YtncnibkojneejaaGreatDoor
open Go.RowKit Go.Deep

end Go.Proofs.YtncnibkojneejaaGreatDoor

/- slices.Chunk over bytes, sixty-four at a time: what its closure hands to a round of a loop. -/
namespace Go.Proofs.YtncnibkojneejaaGreatDoor
open Go.RowKit Go.Deep Go.Shelf
attribute [local go_sem] Oper.semAt_some

/-- Blocks i and j hold what they held. -/
def Kpp (i j : Nat) (A B : World) : Prop := B.heap[i]? = A.heap[i]? ∧ B.heap[j]? = A.heap[j]?
theorem kpp_t {i j : Nat} {A B C : World} (h : Kpp i j A B) (k : Kpp i j B C) : Kpp i j A C := ⟨k.1.trans h.1, k.2.trans h.2⟩
theorem kpp_b {i j : Nat} {w : World} (hi : i < w.heap.size) (hj : j < w.heap.size) (W : World) (l : Nat) (o o' : Obj) (hl : w.heap.size ≤ l) (_ : W.heap[l]? = some o) (_ : o.isCells = false) (_ : o.isWalk = false) : Kpp i j W (W.putObj l o') :=
  ⟨World.putObj_heap_other (by omega), World.putObj_heap_other (by omega)⟩
/-- The piece of number k (the last one beyond them) of a slice at b, off. -/
def ck (b off m k : Nat) : Value := .slice (some ⟨b, off + 64 * min k (m - 1), none⟩) 64 64
set_option maxHeartbeats 1000000 in
theorem chunk_any (A : Option Addr) (len cap : Nat) (w : World) : Calls Tryz.prog 95 #[.slice A len cap, .int .i64 64] w fun e w' =>
    e = .returned (.func (.func 103) #[] #[.pointer (some ⟨w.heap.size, 0, none⟩), .pointer (some ⟨w.heap.size + 1, 0, none⟩)]) ∧ (w.alloc (.cells #[.slice A len cap] 22)).alloc (.cells #[.int .i64 64] 3) = w' := by
  go_enter Tryz.func95, Tryz.ntmps95
  go_wp2
  go_ret
  exact ⟨rfl, rfl⟩
set_option maxRecDepth 100000 in
set_option maxHeartbeats 4000000 in
theorem chunk1_in (n l Bs Bn b off m L cap : Nat) (hn : 1 ≤ n) (hL : L = 64 * m) (hm : m ≤ 1000) (hcap : L ≤ cap) (hc2 : (cap : Int) ≤ 9223372036854775807) (J Jx : List Nat → World → Prop) (hJa : ∀ pre W n, J pre W → J pre (W.drewN n))
    (hY : ∀ pre x W, J pre W → pre.length < m → YieldAt Fence.wide (n - 1) Tryz.prog l #[ck b off m x] W fun e W' =>
      (e = .returned (.bool true) ∧ J (pre ++ [x]) W' ∧ Kpp Bs Bn W W') ∨ (e = .returned (.bool false) ∧ Jx (pre ++ [x]) W'))
    (W : World) (hBs : W.heap[Bs]? = some (.cells #[.slice (some ⟨b, off, none⟩) L cap] 22 (0, 0))) (hBn : W.heap[Bn]? = some (.cells #[.int .i64 64] 3 (0, 0))) (h0 : J [] W) :
    CallsIn Fence.wide n Tryz.prog 103 #[.func (.yield l) #[] #[], .pointer (some ⟨Bs, 0, none⟩), .pointer (some ⟨Bn, 0, none⟩)] W fun e W' => (∃ v, e = .returned v) ∧
      ((∃ ys, ys = List.range m ∧ J ys W') ∨ (∃ pre, True ∧ Jx pre W')) := by
  have HL := hidH hL
  have hL2 : (L : Int) ≤ 64000 := by omega
  clear hL
  refine callsIn_of_wp Tryz.func103 rfl trivial ?_ rfl
  simp only [Tryz.ntmps103, List.size_toArray, List.length_cons, List.length_nil, Nat.reduceAdd, Nat.reduceSub, Array.replicate_succ, Array.replicate_zero, List.push_toArray, List.append_toArray, List.nil_append, List.cons_append]
  gi_wp2
  gi_loopw [4] (fun i wr => ∃ k a : Nat, k ≤ m ∧ a = 64 * k ∧ i = .int .i64 a ∧ J (List.range k) wr ∧ Kpp Bs Bn W wr) (fun i _ => L - (intOf i).toNat)
  case atStart => exact ⟨0, 0, Nat.zero_le _, rfl, rfl, h0, rfl, rfl⟩
  case round =>
    obtain ⟨k, a, hk, ha, rfl, hJ, hK⟩ := hrel
    have HA := hidH ha
    clear ha
    have rS := hK.1.trans hBs
    have rN := hK.2.trans hBn
    have cS := (cell_of_row wr Bs 0 _ _ _ rS)
    have cN := (cell_of_row wr Bn 0 _ _ _ rN)
    simp only [List.getElem?_toArray, List.getElem?_cons_zero] at cS cN
    have HK := hidH hK
    clear rS rN hK
    by_cases hlt : a < L
    · have hk1 : k < m := by have h1 := HL.out; have h2 := HA.out; omega
      have e := hidH (show ck b off m k = .slice (some ⟨b, off + a, none⟩) 64 64 by rw [ck, Nat.min_eq_left (by omega), ← HA.out])
      have HJ := hidH hJ
      have h64 : a + 64 ≤ L := by have h1 := HL.out; have h2 := HA.out; omega
      have i1 : (a : Int) + 64 ≤ (L : Int) := by omega
      have i2 : (a : Int) < (L : Int) := by omega
      have i3 : (0 : Int) ≤ (a : Int) := by omega
      have i4 : (a : Int) + 64 ≤ (cap : Int) := by omega
      have i5 : (a : Int) ≤ (cap : Int) := by omega
      have hne : ¬ cap = a := by omega
      clear hJ
      gi_wp2
      refine wpIn_wide.2 ?_
      go_quiet (fail)
      obtain ⟨fn, tmps, assign, body, hy, hR⟩ := hY (List.range k) k _ (hJa _ _ nq HJ.out) (by simpa using hk1)
      rw [e.out] at hy
      gi_wp2
      refine hR.mono ?_
      rintro e W3 (⟨rfl, hJ3, hk3⟩ | ⟨rfl, hJx3⟩)
      · have HK3 := hidH (kpp_t HK.out (show Kpp Bs Bn wr W3 from hk3))
        have HJ3 := hidH hJ3
        have cN3 := cell_of_row W3 Bn 0 _ _ _ (HK3.out.2.trans hBn)
        simp only [List.getElem?_toArray, List.getElem?_cons_zero] at cN3
        clear hk3 hJ3 hy cS cN
        gi_wp2
        go_roundw
        case rel => exact ⟨k + 1, a + 64, by omega, by have := HA.out; omega, by go_num, by rw [List.range_succ]; exact HJ3.out, HK3.out⟩
        case measure => simp [intOf]; omega
      · gi_wp2
        refine bodyPost_ret (results_none rfl _ _ _) rfl ?_
        exact ⟨⟨_, rfl⟩, .inr ⟨_, trivial, hJx3⟩⟩
    · have hkm : k = m := by have h1 := HL.out; have h2 := HA.out; omega
      have hge : (L : Int) ≤ (a : Int) := by omega
      have hd2 : decide (a < L) = false := by simp; omega
      have HJ := hidH hJ
      have HKM := hidH hkm
      clear hkm hJ hlt hk
      gi_wp2
      go_end0
      exact ⟨⟨_, rfl⟩, .inl ⟨_, rfl, HKM.out ▸ HJ.out⟩⟩
theorem chunk_stops (n Bs Bn b off m L cap : Nat) (hn : 1 ≤ n) (hL : L = 64 * m) (hm : m ≤ 1000) (hcap : L ≤ cap) (hc2 : (cap : Int) ≤ 9223372036854775807) (w : World)
    (hBs : w.heap[Bs]? = some (.cells #[.slice (some ⟨b, off, none⟩) L cap] 22 (0, 0))) (hBn : w.heap[Bn]? = some (.cells #[.int .i64 64] 3 (0, 0))) :
    SeqStopsK Fence.wide n Tryz.prog 103 #[.pointer (some ⟨Bs, 0, none⟩), .pointer (some ⟨Bn, 0, none⟩)] (fun x : Nat => #[ck b off m x]) (Kpp Bs Bn) (fun ys => ys = List.range m) (fun _ => True) m w := fun l J Jx W hW hJ _ hY h0 => by
  have l1 := (Array.getElem?_eq_some_iff.1 hBs).1
  have l2 := (Array.getElem?_eq_some_iff.1 hBn).1
  exact chunk1_in n l Bs Bn b off m L cap hn hL hm hcap hc2 J Jx (fun pre W k h => hJ pre W (W.drewN k) none h ⟨rfl, rfl, rfl, Nat.le_refl _, fun _ _ _ => rfl⟩ (fun r e => by cases e)) hY W ((hW.block _ l1).trans hBs) ((hW.block _ l2).trans hBn) h0
end Go.Proofs.YtncnibkojneejaaGreatDoor

/- The program's digest of a state; the model's Sha256. -/
namespace Go.Proofs.YtncnibkojneejaaGreatDoor
open Go.RowKit Go.Deep

def shaM (l : List Int) : List Int := if l.length ≤ 700 then shaL l else []
theorem shaL_len (l : List Int) : (shaL l).length = 32 := by rw [shaL, wordsL_len _ _ (by rw [shaTo_len]; omega)]
theorem shaM_le (l : List Int) : ((shaM l).length : Int) ≤ 100000 := by
  unfold shaM; split
  · rw [shaL_len]; omega
  · simp
set_option maxRecDepth 100000 in
set_option maxHeartbeats 4000000 in
theorem dig_any (st : List Nat) (w : World) (h8 : st.length = 8) (hW : AllW st) : Calls Tryz.prog 97 #[.agg (U st)] w (OwnB w (wordsL st 8)) := by
  obtain ⟨i0, hi, hz0, hz1, hz2⟩ := info_parts infoU8
  have HI := hidH (And.intro hi (And.intro hz0 (And.intro hz1 hz2)))
  clear hi hz0 hz1 hz2
  have hg := fun k (hk : k < 8) => U_get st k (by omega)
  obtain ⟨s, hs⟩ : ∃ s, U st = s := ⟨_, rfl⟩
  have hsz : (Tryz.prog.info? 152).map (·.size) = some s.size := by rw [← hs, U_size, h8]; kernel_rfl
  rw [hs] at hg ⊢
  have HG := hidH hg
  have HS := hidH hsz
  have H8 := hidH h8
  clear hg hs hsz h8
  go_enter Tryz.func97, Tryz.ntmps97
  go_wp2_with (first | refine wpList_boxRow rfl _ _ rfl _ rfl s rfl ?_ | refine wpList_load_row rfl 152 _ rfl w.heap.size rfl 152 s (0, 0) (.array 8 150) SR.out (by kernel_rfl) rfl HS.out ?_ | (refine wpList_make_own _ rfl _ _ _ rfl w.heap.size 5 i0 _ 1 info22 HI.out.1 HI.out.2.1 HI.out.2.2.1 .i64 .i64 _ 32 rfl rfl rfl (by rw [HI.out.2.2.2]; omega) (by unfold maxLen; omega) (by simp) ?_; intro w1 o1 g1; have SR := hidH ((Blk.new w 152 s).below ((Below.refl _ _).grown g1 (Nat.le_refl _) (fun k hk => by cases hk))); have B1 := hidH ((bal (Below.refl w.heap.size w) (.cells s 152)).grown g1 (by simp) (fun k hk => by cases hk)); have O1 := hidH o1; clear o1 g1))
  go_loopw [3, 9] (fun v i wr => ∃ k : Nat, k ≤ 8 ∧ i = .int .i64 k ∧ wr.ownsRow w.heap.size 5 1 v (wordsL st k).length ((wordsL st k).map (Value.int .u8)) ∧ Below w.heap.size w wr) (fun _ i _ => 8 - (intOf i).toNat)
  case atStart => exact ⟨0, by omega, rfl, by have := O1.out; simpa [wordsL] using this, B1.out⟩
  case round =>
    obtain ⟨k, hk, rfl, hown, hB⟩ := hrel
    have hsz := hB.size
    have WL := hidH (wordsL_len st k (by rw [H8.out]; exact hk))
    by_cases hlt : k < 8
    · have hk0 : (0 : Int) ≤ (k : Int) := by omega
      have hk1 : (k : Int) < 8 := by omega
      have hGk := HG.out k hlt
      have x1 := hW.get k
      have hsucc := hidH (wordsL_succ st k (by rw [H8.out]; exact hlt))
      obtain ⟨x, hx⟩ : ∃ x, st.getD k 0 = x := ⟨_, rfl⟩
      rw [hx] at hGk x1
      have HX := hidH hx
      have HGK := hidH hGk
      have P5 := lit_bs (wr.alloc (.cells ((pk (x : Int)).map (Value.int .u8)).toArray 168)) 168 (pk (x : Int))
      simp only [World.size_alloc] at P5
      have P5 := hidH P5
      have OH := hidH hown
      have HB := hidH hB
      clear hx hGk hown hB
      go_wp2_with (first | refine wpList_indexArr rfl _ _ _ rfl _ rfl s .i64 k 8 150 _ rfl rfl (by kernel_rfl) hlt (by kernel_rfl) .u32 (by kernel_rfl) HGK.out ?_ | (go_at_call 107; refine (encode_any _ _ (by omega) (by omega)).mono ?_; rintro e w' ⟨rfl, rfl⟩) | (at_builtin; refine wpList_append_bs rfl _ _ rfl w.heap.size _ _ _ rfl ((OH.out.alloc _).alloc _) (some ⟨wr.heap.size + 1, 0, none⟩) (pk (x : Int)) 4 rfl P5.out (by have := WL.out; simp [pk]; omega) (by simp; omega) ?_))
      intro v6 w6 o6 g6
      have B6 := hidH ((bal (bal HB.out _) _).grown g6 (by simp; omega) (fun k hk => (OH.out.lt k hk).1))
      have O6 := hidH o6
      clear g6 o6
      go_wp2
      go_roundw
      case rel => exact ⟨k + 1, by omega, by go_num, by rw [hsucc.out, HX.out]; simpa using O6.out, B6.out⟩
      case measure => simp [intOf]; omega
    · obtain rfl : k = 8 := by omega
      have O := hidH hown
      have B := hidH hB
      clear hown hB hlt hk
      go_wp2
      go_ret
      exact ⟨_, rfl, O.out, B.out⟩
end Go.Proofs.YtncnibkojneejaaGreatDoor
