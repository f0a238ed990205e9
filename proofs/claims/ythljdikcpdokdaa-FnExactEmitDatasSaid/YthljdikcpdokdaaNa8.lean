import Derived.Test.YthljdikcpdokdaaNa5
import Derived.Test.YthljdikcpdokdaaNa7
import Derived.Test.YthljdikcpdokdaaNa3
import Derived.RangeFuncOwn

/- The region of the program's CutMessage that draws its order. -/
namespace Go.Proofs.Ythljdikcpdokdaa
open Go.RowKit Go.Deep

theorem own_slice9 {w : World} {B s n : Nat} {e : TypeId} {v : Value} {xs : List Value} (h : w.ownsRow B e s v n xs) : ∃ (A : Option Addr) (m c : Nat), v = .slice A m c := by
  obtain ⟨_, ⟨h2, _⟩ | ⟨g, cap, cur, h3, _⟩⟩ := h
  · exact ⟨_, _, _, h2⟩
  · exact ⟨_, _, _, h3⟩
theorem own_far9 {w : World} {B s n : Nat} {e : TypeId} {v : Value} {xs : List Value} (h : w.ownsRow B e s v n xs) {R : Nat} (hR : R < B) (i : Nat) (u : Value) : (w.setCell ⟨R, i, none⟩ u).ownsRow B e s v n xs := by
  obtain ⟨h1, h2 | ⟨g, cap, cur, h3, h4, h5, h6⟩⟩ := h
  · exact ⟨h1, .inl h2⟩
  · exact ⟨h1, .inr ⟨g, cap, cur, h3, h4, (Below.heap_setCell _ _ _ _ (show g ≠ R by omega)).trans h5, h6⟩⟩
theorem own_cellsO {w : World} {B s n : Nat} {e : TypeId} {v : Value} {xs : List Value} (h : w.ownsRow B e s v n xs) : ∀ (j : Nat) (o : Obj), v.ownBlock = some j → w.heap[j]? = some o → o.isCells = true := by
  intro j o hj ho
  obtain ⟨_, ⟨h2, _⟩ | ⟨g, cap, cur, h3, _, h5, _⟩⟩ := h
  · rw [h2] at hj; cases hj
  · rw [h3] at hj
    obtain rfl : g = j := by simpa [Value.ownBlock] using hj
    rw [h5] at ho
    cases ho; rfl
/-- Blocks of other types than pieces, but for the list's own, are kept. -/
def OthD (r : Nat) (w w' : World) : Prop := ∀ (g : Nat) (t : TypeId) (cs : Array Value), g ≠ r → t ≠ 69 → Blk w g t cs → Blk w' g t cs
theorem OthD.refl (r : Nat) (w : World) : OthD r w w := fun _ _ _ _ _ h => h
theorem OthD.below {r : Nat} {a w w' : World} (h : OthD r a w) (hb : Below w.heap.size w w') : OthD r a w' := fun g t cs hg ht k => (h g t cs hg ht k).below hb
theorem OthD.set {r : Nat} {a w : World} (h : OthD r a w) (i : Nat) (u : Value) : OthD r a (w.setCell ⟨r, i, none⟩ u) := fun g t cs hg ht k => (h g t cs hg ht k).far (p := ⟨r, i, none⟩) (fun e => hg e.symm) u
theorem OthD.grown {r : Nat} {a w w' : World} {B n : Nat} {v : Value} {xs : List Value} (h : OthD r a w) (hg : w.grownBy w' v.ownBlock) (ho : w.ownsRow B 69 7 v n xs) : OthD r a w' := fun g t cs hgr ht k => by
  have k2 := h g t cs hgr ht k
  refine (hg.block g k2.lt (fun e => ?_)).trans k2
  obtain ⟨_, ⟨h2, _⟩ | ⟨g2, cap, cur, h3, _, h5, _⟩⟩ := ho
  · rw [h2] at e; cases e
  · rw [h3] at e
    obtain rfl : g = g2 := by simpa [Value.ownBlock] using e
    have h4 : some (Obj.cells cur 69 (0, 0)) = some (Obj.cells cs t (0, 0)) := h5.symm.trans k2
    simp at h4
    exact ht h4.2.symm
theorem kO_below {w w' : World} (hb : Below w.heap.size w w') : KeepsOthers w w' := ⟨hb.size, fun k _ hk _ => (hb.block k (Array.getElem?_eq_some_iff.1 hk).1).trans hk⟩
set_option maxRecDepth 100000 in
set_option maxHeartbeats 1000000 in
theorem regI7 {Q : Exit → Act → World → Prop} (x0 x1 x2 x3 x5 x8 x9 x12 x13 x14 x15 x16 x17 x18 x19 x20 x21 x22 x23 x24 x25 u_26 u_27 u_28 u_29 u_30 u_31 u_32 u_33 u_34 u_35 u_36 u_37 u_38 u_39 u_40 u_41 u_42 u_43 u_44 u_45 u_46 u_47 u_48 u_49 u_50 v : Value) (xs0 : List Value) (ww : World) (gl gm gt gs n : Nat) (ts st sq : Int) (ub : Bool) (pA : Option Addr) (l : List Int) (pc : Nat)
    (hgm : gm < gl) (hgt : gt < gl) (hgs : gs < gl) (hnn : Hid (n ≤ 90000)) (hl : Hid (l.length ≤ 4000000)) (HA : Hid (∀ u : World, Below gl ww u → Bs u pA l))
    (r0 : ww.cell? ⟨gt, 0, none⟩ = some (.int .i64 ts)) (r1 : ww.cell? ⟨gm, 0, none⟩ = some (.int .i64 st)) (r2 : ww.cell? ⟨gs, 0, none⟩ = some (.int .i64 sq)) (r3 : ww.cell? ⟨gm, 1, none⟩ = some (.bool ub)) {ops : Array Oper}
    (hops : (ops.map fun o => (o.op, o.dst, o.guard)) = #[(Op.load 25 (Operand.tmp 10), some 26, none), (Op.load 2 (Operand.tmp 6), some 27, none), (Op.fieldAddr 57 (Operand.tmp 4) 0, some 28, none), (Op.load 2 (Operand.tmp 28), some 29, none), (Op.load 2 (Operand.tmp 7), some 30, none), (Op.fieldAddr 57 (Operand.tmp 4) 1, some 31, none), (Op.load 4 (Operand.tmp 31), some 32, none), (Op.move (Operand.tmp 11), some 33, none), (Op.call { callee := Callee.value (Operand.func 153), args := #[(Operand.tmp 33)], argTypes := #[22] }, some 34, none), (Op.build 69 #[(0, (Operand.tmp 27)), (1, (Operand.tmp 29)), (2, (Operand.tmp 30)), (5, (Operand.tmp 32)), (6, (Operand.tmp 34))], some 35, none), (Op.buildSlice 25 1 #[(0, (Operand.tmp 35))], some 36, none), (Op.call { callee := Callee.builtin Builtin.append, args := #[(Operand.tmp 26), (Operand.tmp 36)], argTypes := #[25, 25] }, some 37, none), (Op.store 25 (Operand.tmp 10) (Operand.tmp 37), none, none)])
    (hdeps : ((List.range 13).all fun i => ((fun i => [[], [], [], [2], [], [], [5], [], [7], [1, 3, 4, 6, 8], [9], [0, 10], [11]].getD i []) i).all fun j => ((ops[i]?).map fun o => o.after.any fun e => Region.binds .any e && e.on == j).getD false) = true)
    (hback : ((List.range 13).all fun i => ((ops[i]?).map fun o => o.after.all fun e => decide (e.on < i)).getD false) = true)
    {a0 : Act} {w0 : World} (ha : a0 = { tmps := #[x0, x1, x2, x3, .pointer (some ⟨gm, 0, none⟩), x5, .pointer (some ⟨gt, 0, none⟩), .pointer (some ⟨gs, 0, none⟩), x8, x9, .pointer (some ⟨gl, 0, none⟩), .slice pA l.length pc, x12, x13, x14, x15, x16, x17, x18, x19, x20, x21, x22, x23, x24, x25, u_26, u_27, u_28, u_29, u_30, u_31, u_32, u_33, u_34, u_35, u_36, u_37, u_38, u_39, u_40, u_41, u_42, u_43, u_44, u_45, u_46, u_47, u_48, u_49, u_50], defers := [] }) (hE : (false = true → false = true) ∧ (false = true → false = true)) (hP : false = false → Blk w0 gl 25 #[v]) (hG : false = false → w0.ownsRow (gl + 1) 69 7 v n xs0) (hO : Below gl ww w0) (hU : B8 ww w0) (hL : gl + 1 ≤ w0.heap.size) (hW : ww.heap.size ≤ w0.heap.size) (hT : OthD gl ww w0) (hK : KeepsOthers ww w0)
    (fin : ∀ t26 t27 t28 t29 t30 t31 t32 t33 t34 t35 t36 t37 (W : World), (Below gl ww W) → (B8 ww W) → (gl + 1 ≤ W.heap.size) → (ww.heap.size ≤ W.heap.size) → (OthD gl ww W) → (KeepsOthers ww W) → (∃ (v2 : Value) (A9 : Option Addr) (c9 : Nat), Blk W gl 25 #[v2] ∧ W.ownsRow (gl + 1) 69 7 v2 (n + 1) (xs0 ++ [.int .i64 ts, .int .i64 st, .int .i64 sq, .bool false, .bool false, .bool ub, .slice A9 l.length c9]) ∧ W.ownsRow ww.heap.size 5 1 (.slice A9 l.length c9) l.length (l.map (Value.int .u8))) → Q .normal { tmps := #[x0, x1, x2, x3, .pointer (some ⟨gm, 0, none⟩), x5, .pointer (some ⟨gt, 0, none⟩), .pointer (some ⟨gs, 0, none⟩), x8, x9, .pointer (some ⟨gl, 0, none⟩), .slice pA l.length pc, x12, x13, x14, x15, x16, x17, x18, x19, x20, x21, x22, x23, x24, x25, t26, t27, t28, t29, t30, t31, t32, t33, t34, t35, t36, t37, u_38, u_39, u_40, u_41, u_42, u_43, u_44, u_45, u_46, u_47, u_48, u_49, u_50], defers := [] } W) :
    wpAny Try.prog .any ops Q ops.size (Array.replicate ops.size false) a0 w0 := by
  have hn : ops.size = 13 := by have := congrArg Array.size hops; simpa using this
  obtain ⟨J, HJ⟩ : ∃ J : (Nat → Bool) → Act → World → Prop, ∀ dn ac W, J dn ac W ↔ (fun dn ac W => ∃ t26 t27 t28 t29 t30 t31 t32 t33 t34 t35 t36 t37, ac = { tmps := #[x0, x1, x2, x3, .pointer (some ⟨gm, 0, none⟩), x5, .pointer (some ⟨gt, 0, none⟩), .pointer (some ⟨gs, 0, none⟩), x8, x9, .pointer (some ⟨gl, 0, none⟩), .slice pA l.length pc, x12, x13, x14, x15, x16, x17, x18, x19, x20, x21, x22, x23, x24, x25, t26, t27, t28, t29, t30, t31, t32, t33, t34, t35, t36, t37, u_38, u_39, u_40, u_41, u_42, u_43, u_44, u_45, u_46, u_47, u_48, u_49, u_50], defers := [] } ∧ ((dn 12 = true → dn 11 = true) ∧ (dn 11 = true → dn 0 = true)) ∧ (dn 12 = false → Blk W gl 25 #[v]) ∧ (dn 11 = false → W.ownsRow (gl + 1) 69 7 v n xs0) ∧ (Below gl ww W) ∧ (B8 ww W) ∧ (gl + 1 ≤ W.heap.size) ∧ (ww.heap.size ≤ W.heap.size) ∧ (OthD gl ww W) ∧ (KeepsOthers ww W) ∧ (dn 0 = true → t26 = v) ∧ (dn 1 = true → t27 = .int .i64 ts) ∧ (dn 2 = true → t28 = .pointer (some ⟨gm, 0, none⟩)) ∧ (dn 3 = true → t29 = .int .i64 st) ∧ (dn 4 = true → t30 = .int .i64 sq) ∧ (dn 5 = true → t31 = .pointer (some ⟨gm, 1, none⟩)) ∧ (dn 6 = true → t32 = .bool ub) ∧ (dn 7 = true → t33 = .slice pA l.length pc) ∧ (dn 8 = true → ∃ (A9 : Option Addr) (c9 : Nat), t34 = .slice A9 l.length c9 ∧ W.ownsRow ww.heap.size 5 1 (.slice A9 l.length c9) l.length (l.map (Value.int .u8))) ∧ (dn 9 = true → ∃ (A9 : Option Addr) (c9 : Nat), t35 = .agg #[.int .i64 ts, .int .i64 st, .int .i64 sq, .bool false, .bool false, .bool ub, .slice A9 l.length c9] ∧ W.ownsRow ww.heap.size 5 1 (.slice A9 l.length c9) l.length (l.map (Value.int .u8))) ∧ (dn 10 = true → dn 11 = false → ∃ (q : Nat) (A9 : Option Addr) (c9 : Nat), t36 = .slice (some ⟨q, 0, none⟩) 1 1 ∧ Blk W q 69 #[.int .i64 ts, .int .i64 st, .int .i64 sq, .bool false, .bool false, .bool ub, .slice A9 l.length c9] ∧ W.ownsRow ww.heap.size 5 1 (.slice A9 l.length c9) l.length (l.map (Value.int .u8))) ∧ (dn 11 = true → dn 12 = false → ∃ (A9 : Option Addr) (c9 : Nat), W.ownsRow (gl + 1) 69 7 t37 (n + 1) (xs0 ++ [.int .i64 ts, .int .i64 st, .int .i64 sq, .bool false, .bool false, .bool ub, .slice A9 l.length c9]) ∧ W.ownsRow ww.heap.size 5 1 (.slice A9 l.length c9) l.length (l.map (Value.int .u8))) ∧ (dn 12 = true → ∃ (v2 : Value) (A9 : Option Addr) (c9 : Nat), Blk W gl 25 #[v2] ∧ W.ownsRow (gl + 1) 69 7 v2 (n + 1) (xs0 ++ [.int .i64 ts, .int .i64 st, .int .i64 sq, .bool false, .bool false, .bool ub, .slice A9 l.length c9]) ∧ W.ownsRow ww.heap.size 5 1 (.slice A9 l.length c9) l.length (l.map (Value.int .u8)))) dn ac W := ⟨_, fun _ _ _ => Iff.rfl⟩
  replace HJ := hidH HJ
  refine region_inv 13 (fun i => [[], [], [], [2], [], [], [5], [], [7], [1, 3, 4, 6, 8], [9], [0, 10], [11]].getD i []) J hn hdeps hback ?start ?step ?fin
  case start => exact (HJ.out _ _ _).2 ⟨u_26, u_27, u_28, u_29, u_30, u_31, u_32, u_33, u_34, u_35, u_36, u_37, ha, hE, hP, hG, hO, hU, hL, hW, hT, hK, fun h => by simp at h, fun h => by simp at h, fun h => by simp at h, fun h => by simp at h, fun h => by simp at h, fun h => by simp at h, fun h => by simp at h, fun h => by simp at h, fun h => by simp at h, fun h => by simp at h, fun h => by simp at h, fun h => by simp at h, fun h => by simp at h⟩
  all_goals clear ha hE hP hG hO hU hL hW hT hK
  case step =>
    clear fin hdeps hback
    intro i hi dn ac W hJ hdn hdep
    obtain ⟨t26, t27, t28, t29, t30, t31, t32, t33, t34, t35, t36, t37, rfl, hE, hP, hG, hO, hU, hL, hW, hT, hK, h0, h1, h2, h3, h4, h5, h6, h7, h8, h9, h10, h11, h12⟩ := (HJ.out _ _ _).1 hJ
    clear hJ
    match i, hi with
    | 0, _ =>
      obtain ⟨ty, ps, af, ho⟩ := op_lit hops (i := 0) (op := Op.load 25 (Operand.tmp 10)) (dst := some 26) (g := none) rfl
      have hk12 : dn 12 = false := by
        rcases hq : dn 12 with _ | _
        · rfl
        · have h3 : dn 0 = true := hE.2 (hE.1 hq)
          rw [hdn] at h3; cases h3
      refine wpOp_lit ho (fun j b h => by cases h) ?_
      clear hops hdep ho
      replace h1 := hidH h1
      replace h2 := hidH h2
      replace h3 := hidH h3
      replace h4 := hidH h4
      replace h5 := hidH h5
      replace h6 := hidH h6
      replace h7 := hidH h7
      replace h8 := hidH h8
      replace h9 := hidH h9
      replace h10 := hidH h10
      replace h11 := hidH h11
      replace h12 := hidH h12
      have hb := Below.refl W.heap.size W
      have kp := hP hk12
      have q1 := kp.cell 0
      simp only [List.getElem?_toArray, List.getElem?_cons_zero] at q1
      go_wp2
      exact (HJ.out _ _ _).2 ⟨_, _, _, _, _, _, _, _, _, _, _, _, rfl, ⟨hE.1, fun _ => rfl⟩, fun h => (hP h).below hb, fun h => own_below0 (hG h) hb, hO.trans (hb.mono (Nat.le_of_succ_le hL)), hU.trans (B8.of_below hb), Nat.le_trans hL hb.size, Nat.le_trans hW hb.size, hT.below hb, hK.trans (kO_below hb), fun _ => rfl, h1.out, h2.out, h3.out, h4.out, h5.out, h6.out, h7.out, fun h => by obtain ⟨A9, c9, q1, q2⟩ := h8.out h; exact ⟨A9, c9, q1, own_below0 q2 hb⟩, fun h => by obtain ⟨A9, c9, q1, q2⟩ := h9.out h; exact ⟨A9, c9, q1, own_below0 q2 hb⟩, (fun h h2 => by obtain ⟨q, A9, c9, q1, q2, q3⟩ := h10.out h h2; exact ⟨q, A9, c9, q1, q2.below hb, own_below0 q3 hb⟩), (fun h => by have h3 : dn 0 = true := hE.2 h; rw [hdn] at h3; cases h3), fun h => by obtain ⟨v2, A9, c9, q0, q1, q2⟩ := h12.out h; exact ⟨v2, A9, c9, q0.below hb, own_below0 q1 hb, own_below0 q2 hb⟩⟩
    | 1, _ =>
      obtain ⟨ty, ps, af, ho⟩ := op_lit hops (i := 1) (op := Op.load 2 (Operand.tmp 6)) (dst := some 27) (g := none) rfl
      refine wpOp_lit ho (fun j b h => by cases h) ?_
      clear hops hdep ho
      replace h0 := hidH h0
      replace h2 := hidH h2
      replace h3 := hidH h3
      replace h4 := hidH h4
      replace h5 := hidH h5
      replace h6 := hidH h6
      replace h7 := hidH h7
      replace h8 := hidH h8
      replace h9 := hidH h9
      replace h10 := hidH h10
      replace h11 := hidH h11
      replace h12 := hidH h12
      have hb := Below.refl W.heap.size W
      have q := (hO.cell (p := ⟨gt, 0, none⟩) hgt).trans r0
      go_wp2
      exact (HJ.out _ _ _).2 ⟨_, _, _, _, _, _, _, _, _, _, _, _, rfl, hE, fun h => (hP h).below hb, fun h => own_below0 (hG h) hb, hO.trans (hb.mono (Nat.le_of_succ_le hL)), hU.trans (B8.of_below hb), Nat.le_trans hL hb.size, Nat.le_trans hW hb.size, hT.below hb, hK.trans (kO_below hb), h0.out, fun _ => rfl, h2.out, h3.out, h4.out, h5.out, h6.out, h7.out, fun h => by obtain ⟨A9, c9, q1, q2⟩ := h8.out h; exact ⟨A9, c9, q1, own_below0 q2 hb⟩, fun h => by obtain ⟨A9, c9, q1, q2⟩ := h9.out h; exact ⟨A9, c9, q1, own_below0 q2 hb⟩, (fun h h2 => by obtain ⟨q, A9, c9, q1, q2, q3⟩ := h10.out h h2; exact ⟨q, A9, c9, q1, q2.below hb, own_below0 q3 hb⟩), fun h h2 => by obtain ⟨A9, c9, q1, q2⟩ := h11.out h h2; exact ⟨A9, c9, own_below0 q1 hb, own_below0 q2 hb⟩, fun h => by obtain ⟨v2, A9, c9, q0, q1, q2⟩ := h12.out h; exact ⟨v2, A9, c9, q0.below hb, own_below0 q1 hb, own_below0 q2 hb⟩⟩
    | 2, _ =>
      obtain ⟨ty, ps, af, ho⟩ := op_lit hops (i := 2) (op := Op.fieldAddr 57 (Operand.tmp 4) 0) (dst := some 28) (g := none) rfl
      refine wpOp_lit ho (fun j b h => by cases h) ?_
      clear hops hdep ho
      replace h0 := hidH h0
      replace h1 := hidH h1
      replace h3 := hidH h3
      replace h4 := hidH h4
      replace h5 := hidH h5
      replace h6 := hidH h6
      replace h7 := hidH h7
      replace h8 := hidH h8
      replace h9 := hidH h9
      replace h10 := hidH h10
      replace h11 := hidH h11
      replace h12 := hidH h12
      go_wp2
      exact (HJ.out _ _ _).2 ⟨_, _, _, _, _, _, _, _, _, _, _, _, rfl, hE, hP, hG, hO, hU, hL, hW, hT, hK, h0.out, h1.out, fun _ => rfl, h3.out, h4.out, h5.out, h6.out, h7.out, h8.out, h9.out, h10.out, h11.out, h12.out⟩
    | 3, _ =>
      obtain ⟨ty, ps, af, ho⟩ := op_lit hops (i := 3) (op := Op.load 2 (Operand.tmp 28)) (dst := some 29) (g := none) rfl
      obtain rfl := h2 (hdep 2 (by simp))
      refine wpOp_lit ho (fun j b h => by cases h) ?_
      clear hops hdep ho
      replace h0 := hidH h0
      replace h1 := hidH h1
      replace h2 := hidH h2
      replace h4 := hidH h4
      replace h5 := hidH h5
      replace h6 := hidH h6
      replace h7 := hidH h7
      replace h8 := hidH h8
      replace h9 := hidH h9
      replace h10 := hidH h10
      replace h11 := hidH h11
      replace h12 := hidH h12
      have hb := Below.refl W.heap.size W
      have q := (hO.cell (p := ⟨gm, 0, none⟩) hgm).trans r1
      go_wp2
      exact (HJ.out _ _ _).2 ⟨_, _, _, _, _, _, _, _, _, _, _, _, rfl, hE, fun h => (hP h).below hb, fun h => own_below0 (hG h) hb, hO.trans (hb.mono (Nat.le_of_succ_le hL)), hU.trans (B8.of_below hb), Nat.le_trans hL hb.size, Nat.le_trans hW hb.size, hT.below hb, hK.trans (kO_below hb), h0.out, h1.out, fun _ => rfl, fun _ => rfl, h4.out, h5.out, h6.out, h7.out, fun h => by obtain ⟨A9, c9, q1, q2⟩ := h8.out h; exact ⟨A9, c9, q1, own_below0 q2 hb⟩, fun h => by obtain ⟨A9, c9, q1, q2⟩ := h9.out h; exact ⟨A9, c9, q1, own_below0 q2 hb⟩, (fun h h2 => by obtain ⟨q, A9, c9, q1, q2, q3⟩ := h10.out h h2; exact ⟨q, A9, c9, q1, q2.below hb, own_below0 q3 hb⟩), fun h h2 => by obtain ⟨A9, c9, q1, q2⟩ := h11.out h h2; exact ⟨A9, c9, own_below0 q1 hb, own_below0 q2 hb⟩, fun h => by obtain ⟨v2, A9, c9, q0, q1, q2⟩ := h12.out h; exact ⟨v2, A9, c9, q0.below hb, own_below0 q1 hb, own_below0 q2 hb⟩⟩
    | 4, _ =>
      obtain ⟨ty, ps, af, ho⟩ := op_lit hops (i := 4) (op := Op.load 2 (Operand.tmp 7)) (dst := some 30) (g := none) rfl
      refine wpOp_lit ho (fun j b h => by cases h) ?_
      clear hops hdep ho
      replace h0 := hidH h0
      replace h1 := hidH h1
      replace h2 := hidH h2
      replace h3 := hidH h3
      replace h5 := hidH h5
      replace h6 := hidH h6
      replace h7 := hidH h7
      replace h8 := hidH h8
      replace h9 := hidH h9
      replace h10 := hidH h10
      replace h11 := hidH h11
      replace h12 := hidH h12
      have hb := Below.refl W.heap.size W
      have q := (hO.cell (p := ⟨gs, 0, none⟩) hgs).trans r2
      go_wp2
      exact (HJ.out _ _ _).2 ⟨_, _, _, _, _, _, _, _, _, _, _, _, rfl, hE, fun h => (hP h).below hb, fun h => own_below0 (hG h) hb, hO.trans (hb.mono (Nat.le_of_succ_le hL)), hU.trans (B8.of_below hb), Nat.le_trans hL hb.size, Nat.le_trans hW hb.size, hT.below hb, hK.trans (kO_below hb), h0.out, h1.out, h2.out, h3.out, fun _ => rfl, h5.out, h6.out, h7.out, fun h => by obtain ⟨A9, c9, q1, q2⟩ := h8.out h; exact ⟨A9, c9, q1, own_below0 q2 hb⟩, fun h => by obtain ⟨A9, c9, q1, q2⟩ := h9.out h; exact ⟨A9, c9, q1, own_below0 q2 hb⟩, (fun h h2 => by obtain ⟨q, A9, c9, q1, q2, q3⟩ := h10.out h h2; exact ⟨q, A9, c9, q1, q2.below hb, own_below0 q3 hb⟩), fun h h2 => by obtain ⟨A9, c9, q1, q2⟩ := h11.out h h2; exact ⟨A9, c9, own_below0 q1 hb, own_below0 q2 hb⟩, fun h => by obtain ⟨v2, A9, c9, q0, q1, q2⟩ := h12.out h; exact ⟨v2, A9, c9, q0.below hb, own_below0 q1 hb, own_below0 q2 hb⟩⟩
    | 5, _ =>
      obtain ⟨ty, ps, af, ho⟩ := op_lit hops (i := 5) (op := Op.fieldAddr 57 (Operand.tmp 4) 1) (dst := some 31) (g := none) rfl
      refine wpOp_lit ho (fun j b h => by cases h) ?_
      clear hops hdep ho
      replace h0 := hidH h0
      replace h1 := hidH h1
      replace h2 := hidH h2
      replace h3 := hidH h3
      replace h4 := hidH h4
      replace h6 := hidH h6
      replace h7 := hidH h7
      replace h8 := hidH h8
      replace h9 := hidH h9
      replace h10 := hidH h10
      replace h11 := hidH h11
      replace h12 := hidH h12
      go_wp2
      exact (HJ.out _ _ _).2 ⟨_, _, _, _, _, _, _, _, _, _, _, _, rfl, hE, hP, hG, hO, hU, hL, hW, hT, hK, h0.out, h1.out, h2.out, h3.out, h4.out, fun _ => rfl, h6.out, h7.out, h8.out, h9.out, h10.out, h11.out, h12.out⟩
    | 6, _ =>
      obtain ⟨ty, ps, af, ho⟩ := op_lit hops (i := 6) (op := Op.load 4 (Operand.tmp 31)) (dst := some 32) (g := none) rfl
      obtain rfl := h5 (hdep 5 (by simp))
      refine wpOp_lit ho (fun j b h => by cases h) ?_
      clear hops hdep ho
      replace h0 := hidH h0
      replace h1 := hidH h1
      replace h2 := hidH h2
      replace h3 := hidH h3
      replace h4 := hidH h4
      replace h5 := hidH h5
      replace h7 := hidH h7
      replace h8 := hidH h8
      replace h9 := hidH h9
      replace h10 := hidH h10
      replace h11 := hidH h11
      replace h12 := hidH h12
      have hb := Below.refl W.heap.size W
      have q := (hO.cell (p := ⟨gm, 1, none⟩) hgm).trans r3
      go_wp2
      exact (HJ.out _ _ _).2 ⟨_, _, _, _, _, _, _, _, _, _, _, _, rfl, hE, fun h => (hP h).below hb, fun h => own_below0 (hG h) hb, hO.trans (hb.mono (Nat.le_of_succ_le hL)), hU.trans (B8.of_below hb), Nat.le_trans hL hb.size, Nat.le_trans hW hb.size, hT.below hb, hK.trans (kO_below hb), h0.out, h1.out, h2.out, h3.out, h4.out, fun _ => rfl, fun _ => rfl, h7.out, fun h => by obtain ⟨A9, c9, q1, q2⟩ := h8.out h; exact ⟨A9, c9, q1, own_below0 q2 hb⟩, fun h => by obtain ⟨A9, c9, q1, q2⟩ := h9.out h; exact ⟨A9, c9, q1, own_below0 q2 hb⟩, (fun h h2 => by obtain ⟨q, A9, c9, q1, q2, q3⟩ := h10.out h h2; exact ⟨q, A9, c9, q1, q2.below hb, own_below0 q3 hb⟩), fun h h2 => by obtain ⟨A9, c9, q1, q2⟩ := h11.out h h2; exact ⟨A9, c9, own_below0 q1 hb, own_below0 q2 hb⟩, fun h => by obtain ⟨v2, A9, c9, q0, q1, q2⟩ := h12.out h; exact ⟨v2, A9, c9, q0.below hb, own_below0 q1 hb, own_below0 q2 hb⟩⟩
    | 7, _ =>
      obtain ⟨ty, ps, af, ho⟩ := op_lit hops (i := 7) (op := Op.move (Operand.tmp 11)) (dst := some 33) (g := none) rfl
      refine wpOp_lit ho (fun j b h => by cases h) ?_
      clear hops hdep ho
      replace h0 := hidH h0
      replace h1 := hidH h1
      replace h2 := hidH h2
      replace h3 := hidH h3
      replace h4 := hidH h4
      replace h5 := hidH h5
      replace h6 := hidH h6
      replace h8 := hidH h8
      replace h9 := hidH h9
      replace h10 := hidH h10
      replace h11 := hidH h11
      replace h12 := hidH h12
      go_wp2
      exact (HJ.out _ _ _).2 ⟨_, _, _, _, _, _, _, _, _, _, _, _, rfl, hE, hP, hG, hO, hU, hL, hW, hT, hK, h0.out, h1.out, h2.out, h3.out, h4.out, h5.out, h6.out, fun _ => rfl, h8.out, h9.out, h10.out, h11.out, h12.out⟩
    | 8, _ =>
      obtain ⟨ty, ps, af, ho⟩ := op_lit hops (i := 8) (op := Op.call { callee := Callee.value (Operand.func 153), args := #[(Operand.tmp 33)], argTypes := #[22] }) (dst := some 34) (g := none) rfl
      obtain rfl := h7 (hdep 7 (by simp))
      refine wpOp_lit ho (fun j b h => by cases h) ?_
      clear hops hdep ho
      replace h0 := hidH h0
      replace h1 := hidH h1
      replace h2 := hidH h2
      replace h3 := hidH h3
      replace h4 := hidH h4
      replace h5 := hidH h5
      replace h6 := hidH h6
      replace h7 := hidH h7
      replace h9 := hidH h9
      replace h10 := hidH h10
      replace h11 := hidH h11
      replace h12 := hidH h12
      have hS0 := hW
      have HC := hidH (clone_any pA l pc W (HA.out W hO) hl.out)
      go_wp2_with fail
      refine HC.out.mono ?_
      rintro e w9 ⟨v9, rfl, o9, hb⟩
      obtain ⟨A9, c9, rfl⟩ := own_lenT o9
      have O9 := hidH (own_monoT o9 hS0)
      clear o9
      go_wp2
      exact (HJ.out _ _ _).2 ⟨_, _, _, _, _, _, _, _, _, _, _, _, rfl, hE, fun h => (hP h).below hb, fun h => own_below0 (hG h) hb, hO.trans (hb.mono (Nat.le_of_succ_le hL)), hU.trans (B8.of_below hb), Nat.le_trans hL hb.size, Nat.le_trans hW hb.size, hT.below hb, hK.trans (kO_below hb), h0.out, h1.out, h2.out, h3.out, h4.out, h5.out, h6.out, fun _ => rfl, fun _ => ⟨A9, c9, rfl, O9.out⟩, fun h => by obtain ⟨A9, c9, q1, q2⟩ := h9.out h; exact ⟨A9, c9, q1, own_below0 q2 hb⟩, (fun h h2 => by obtain ⟨q, A9, c9, q1, q2, q3⟩ := h10.out h h2; exact ⟨q, A9, c9, q1, q2.below hb, own_below0 q3 hb⟩), fun h h2 => by obtain ⟨A9, c9, q1, q2⟩ := h11.out h h2; exact ⟨A9, c9, own_below0 q1 hb, own_below0 q2 hb⟩, fun h => by obtain ⟨v2, A9, c9, q0, q1, q2⟩ := h12.out h; exact ⟨v2, A9, c9, q0.below hb, own_below0 q1 hb, own_below0 q2 hb⟩⟩
    | 9, _ =>
      obtain ⟨ty, ps, af, ho⟩ := op_lit hops (i := 9) (op := Op.build 69 #[(0, (Operand.tmp 27)), (1, (Operand.tmp 29)), (2, (Operand.tmp 30)), (5, (Operand.tmp 32)), (6, (Operand.tmp 34))]) (dst := some 35) (g := none) rfl
      obtain rfl := h1 (hdep 1 (by simp))
      obtain rfl := h3 (hdep 3 (by simp))
      obtain rfl := h4 (hdep 4 (by simp))
      obtain rfl := h6 (hdep 6 (by simp))
      obtain ⟨A9, c9, rfl, o9⟩ := h8 (hdep 8 (by simp))
      refine wpOp_lit ho (fun j b h => by cases h) ?_
      clear hops hdep ho
      replace h0 := hidH h0
      replace h1 := hidH h1
      replace h2 := hidH h2
      replace h3 := hidH h3
      replace h4 := hidH h4
      replace h5 := hidH h5
      replace h6 := hidH h6
      replace h7 := hidH h7
      replace h8 := hidH h8
      replace h10 := hidH h10
      replace h11 := hidH h11
      replace h12 := hidH h12
      go_wp2
      exact (HJ.out _ _ _).2 ⟨_, _, _, _, _, _, _, _, _, _, _, _, rfl, hE, hP, hG, hO, hU, hL, hW, hT, hK, h0.out, fun _ => rfl, h2.out, fun _ => rfl, fun _ => rfl, h5.out, fun _ => rfl, h7.out, fun _ => ⟨A9, c9, rfl, o9⟩, fun _ => ⟨A9, c9, rfl, o9⟩, h10.out, h11.out, h12.out⟩
    | 10, _ =>
      obtain ⟨ty, ps, af, ho⟩ := op_lit hops (i := 10) (op := Op.buildSlice 25 1 #[(0, (Operand.tmp 35))]) (dst := some 36) (g := none) rfl
      obtain ⟨B9, d9, rfl, p9⟩ := h9 (hdep 9 (by simp))
      refine wpOp_lit ho (fun j b h => by cases h) ?_
      clear hops hdep ho
      replace h0 := hidH h0
      replace h1 := hidH h1
      replace h2 := hidH h2
      replace h3 := hidH h3
      replace h4 := hidH h4
      replace h5 := hidH h5
      replace h6 := hidH h6
      replace h7 := hidH h7
      replace h8 := hidH h8
      replace h9 := hidH h9
      replace h11 := hidH h11
      replace h12 := hidH h12
      have hb := bal (Below.refl W.heap.size W) (.cells #[.int .i64 ts, .int .i64 st, .int .i64 sq, .bool false, .bool false, .bool ub, .slice B9 l.length d9] 69)
      have KQ := hidH (Blk.new W 69 #[.int .i64 ts, .int .i64 st, .int .i64 sq, .bool false, .bool false, .bool ub, .slice B9 l.length d9])
      go_wp2
      exact (HJ.out _ _ _).2 ⟨_, _, _, _, _, _, _, _, _, _, _, _, rfl, hE, fun h => (hP h).below hb, fun h => own_below0 (hG h) hb, hO.trans (hb.mono (Nat.le_of_succ_le hL)), hU.trans (B8.of_below hb), Nat.le_trans hL hb.size, Nat.le_trans hW hb.size, hT.below hb, hK.trans (kO_below hb), h0.out, h1.out, h2.out, h3.out, h4.out, h5.out, h6.out, h7.out, fun h => by obtain ⟨A9, c9, q1, q2⟩ := h8.out h; exact ⟨A9, c9, q1, own_below0 q2 hb⟩, fun _ => ⟨B9, d9, rfl, own_below0 p9 hb⟩, fun _ => fun _ => ⟨_, B9, d9, rfl, KQ.out, own_below0 p9 hb⟩, fun h h2 => by obtain ⟨A9, c9, q1, q2⟩ := h11.out h h2; exact ⟨A9, c9, own_below0 q1 hb, own_below0 q2 hb⟩, fun h => by obtain ⟨v2, A9, c9, q0, q1, q2⟩ := h12.out h; exact ⟨v2, A9, c9, q0.below hb, own_below0 q1 hb, own_below0 q2 hb⟩⟩
    | 11, _ =>
      obtain ⟨ty, ps, af, ho⟩ := op_lit hops (i := 11) (op := Op.call { callee := Callee.builtin Builtin.append, args := #[(Operand.tmp 26), (Operand.tmp 36)], argTypes := #[25, 25] }) (dst := some 37) (g := none) rfl
      have ow := hidH (hG hdn)
      have hd0 := hidH (hdep 0 (by simp))
      obtain ⟨q, A9, c9, rfl, kq, o9⟩ := h10 (hdep 10 (by simp)) hdn
      obtain rfl := h0 (hdep 0 (by simp))
      refine wpOp_lit ho (fun j b h => by cases h) ?_
      clear hops hdep ho
      replace h0 := hidH h0
      replace h1 := hidH h1
      replace h2 := hidH h2
      replace h3 := hidH h3
      replace h4 := hidH h4
      replace h5 := hidH h5
      replace h6 := hidH h6
      replace h7 := hidH h7
      replace h8 := hidH h8
      replace h9 := hidH h9
      replace h10 := hidH h10
      replace h12 := hidH h12
      have hsz2 := hL
      go_wp2_with (at_builtin; go_loud (refine wpList_append_Da rfl _ _ rfl (gl + 1) _ n xs0 rfl ow.out q _ ts st sq false false ub A9 l.length c9 rfl kq hnn.out hsz2 ?_))
      intro v2 w2 o2 hg
      have BB := hidH ((Below.refl (gl + 1) W).grown hg hsz2 (fun x hx => (ow.out.lt x hx).1))
      have U14 := hidH (B8.of_grown hg ow.out (by decide))
      have KO := hidH (KeepsOthers.of_grownBy hg (own_cellsO ow.out))
      have hgr := hidH hg
      have OO := hidH (own_otherT o9 hg ow.out (by decide))
      have O8 := hidH o2
      clear o2 hg
      go_wp2
      exact (HJ.out _ _ _).2 ⟨_, _, _, _, _, _, _, _, _, _, _, _, rfl, ⟨(fun _ => rfl), (fun _ => hd0.out)⟩, (fun h => (BB.out.block gl (Nat.lt_succ_self gl)).trans (hP h)), (fun h2 => by simp at h2), hO.trans (BB.out.mono (Nat.le_succ gl)), hU.trans U14.out, Nat.le_trans hL BB.out.size, Nat.le_trans hW BB.out.size, hT.grown hgr.out ow.out, hK.trans KO.out, fun _ => rfl, h1.out, h2.out, h3.out, h4.out, h5.out, h6.out, h7.out, fun h => by obtain ⟨A9, c9, q1, q2⟩ := h8.out h; exact ⟨A9, c9, q1, own_otherT q2 hgr.out ow.out (by decide)⟩, fun h => by obtain ⟨A9, c9, q1, q2⟩ := h9.out h; exact ⟨A9, c9, q1, own_otherT q2 hgr.out ow.out (by decide)⟩, (fun _ h2 => by simp at h2), fun _ => fun _ => ⟨A9, c9, O8.out, OO.out⟩, (fun h => by have h3 : dn 11 = true := hE.1 h; rw [hdn] at h3; cases h3)⟩
    | 12, _ =>
      obtain ⟨ty, ps, af, ho⟩ := op_lit hops (i := 12) (op := Op.store 25 (Operand.tmp 10) (Operand.tmp 37)) (dst := none) (g := none) rfl
      have hd11 := hidH (hdep 11 (by simp))
      have kp := hidH (hP hdn)
      obtain ⟨A9, c9, o8, s8⟩ := h11 (hdep 11 (by simp)) hdn
      obtain ⟨A6, n6, c6, rfl⟩ := own_slice9 o8
      replace h11 := hidH h11
      refine wpOp_lit ho (fun j b h => by cases h) ?_
      clear hops hdep ho
      replace h0 := hidH h0
      replace h1 := hidH h1
      replace h2 := hidH h2
      replace h3 := hidH h3
      replace h4 := hidH h4
      replace h5 := hidH h5
      replace h6 := hidH h6
      replace h7 := hidH h7
      replace h8 := hidH h8
      replace h9 := hidH h9
      replace h10 := hidH h10
      replace h11 := hidH h11
      have x1 := kp.out.cell 0
      simp only [List.getElem?_toArray, List.getElem?_cons_zero] at x1
      have f1 := kp.out.frozen 0
      have hlt := kp.out.lt
      have KS := hidH (show Blk (W.setCell ⟨gl, 0, none⟩ (.slice A6 n6 c6)) gl 25 #[.slice A6 n6 c6] from kp.out.put 0 _)
      have O10 := hidH (own_far9 o8 (Nat.lt_succ_self gl) 0 (.slice A6 n6 c6))
      have O11 := hidH (own_farT s8 kp.out (by decide) 0 (.slice A6 n6 c6))
      have U15 := hidH (B8.of_win (set_win W gl 0 (.slice A6 n6 c6)) kp.out (by decide))
      clear o8 s8
      go_wp2
      exact (HJ.out _ _ _).2 ⟨_, _, _, _, _, _, _, _, _, _, _, _, rfl, ⟨(fun _ => hd11.out), hE.2⟩, (fun h2 => by simp at h2), (fun h2 => by have h3 : dn 11 = false := h2; rw [hd11.out] at h3; cases h3), hO.setCell (p := ⟨gl, 0, none⟩) (Nat.le_refl gl) _, hU.trans U15.out, (by simpa [World.setCell] using hL), (by simpa [World.setCell] using hW), hT.set _ _, hK.trans (KeepsOthers.setCell W _ _), h0.out, h1.out, h2.out, h3.out, h4.out, h5.out, h6.out, h7.out, fun h => by obtain ⟨A9, c9, q1, q2⟩ := h8.out h; exact ⟨A9, c9, q1, own_farT q2 kp.out (by decide) 0 (.slice A6 n6 c6)⟩, fun h => by obtain ⟨A9, c9, q1, q2⟩ := h9.out h; exact ⟨A9, c9, q1, own_farT q2 kp.out (by decide) 0 (.slice A6 n6 c6)⟩, (fun _ h2 => by have h3 : dn 11 = false := h2; rw [hd11.out] at h3; cases h3), (fun _ h2 => by simp at h2), fun _ => ⟨_, A9, c9, KS.out, O10.out, O11.out⟩⟩
    | n + 13, h => omega
  case fin =>
    clear hops hdeps hback
    rintro dn ac W hJ hall
    obtain ⟨t26, t27, t28, t29, t30, t31, t32, t33, t34, t35, t36, t37, rfl, hE, hP, hG, hO, hU, hL, hW, hT, hK, h0, h1, h2, h3, h4, h5, h6, h7, h8, h9, h10, h11, h12⟩ := (HJ.out _ _ _).1 hJ
    exact fin _ _ _ _ _ _ _ _ _ _ _ _ W hO hU hL hW hT hK (h12 (hall 12 (by omega)))
end Go.Proofs.Ythljdikcpdokdaa

/- Chapter 8: the pieces that the program's CutMessage makes, on lists. -/
namespace Go.Proofs.Ythljdikcpdokdaa
open Go.RowKit Go.Deep

theorem getD_at8 {r : List DataM} {j : Nat} (hj : j < r.length) : r.getD j dat0 = r[j] := by
  rw [List.getD_eq_getElem?_getD, List.getElem?_eq_getElem hj]; rfl
/-- The row of the list r whose bytes lie as ks says. -/
def RowZ (r : List DataM) (ks : List (Value × Nat × Nat)) : List RowE := List.zipWith (fun x k => daE x k.1 k.2.1 k.2.2) r ks
theorem RowZ.snoc {r : List DataM} {ks : List (Value × Nat × Nat)} (h : ks.length = r.length) (x : DataM) (k : Value × Nat × Nat) : RowZ (r ++ [x]) (ks ++ [k]) = RowZ r ks ++ [daE x k.1 k.2.1 k.2.2] := by
  unfold RowZ
  rw [List.zipWith_append h.symm]
  rfl
theorem RowZ.da : ∀ {r : List DataM} {ks : List (Value × Nat × Nat)}, ks.length = r.length → RowDa (RowZ r ks) r
  | [], [], _ => RowDa.nil
  | x :: r, k :: ks, h => (RowZ.da (r := r) (ks := ks) (by simpa using h)).cons x k.1 k.2.1 k.2.2
  | [], _ :: _, h => by simp at h
  | _ :: _, [], h => by simp at h
theorem flatZ_cons (x : DataM) (r : List DataM) (k : Value × Nat × Nat) (ks : List (Value × Nat × Nat)) : flatR (RowZ (x :: r) (k :: ks)) = [.int .i64 x.Tsn, .int .i64 x.Stream, .int .i64 x.Seq, .bool x.First, .bool x.Last, .bool x.Unordered, k.1] ++ flatR (RowZ r ks) := rfl
theorem flatZ_first : ∀ (r : List DataM) (ks : List (Value × Nat × Nat)) (i : Nat) (b : Bool), i < r.length → ks.length = r.length → (flatR (RowZ r ks)).set (i * 7 + 3) (.bool b) = flatR (RowZ (r.set i { r.getD i dat0 with First := b }) ks)
  | [], _, _, _, h, _ => by simp at h
  | _ :: _, [], _, _, _, h => by simp at h
  | x :: r, k :: ks, 0, b, _, _ => by rw [flatZ_cons]; simp [flatZ_cons]
  | x :: r, k :: ks, i + 1, b, h, h2 => by
    have ih := flatZ_first r ks i b (by simpa using h) (by simpa using h2)
    rw [flatZ_cons, show (i + 1) * 7 + 3 = (i * 7 + 3) + 7 by omega]
    simp only [List.cons_append, List.nil_append, List.set_cons_succ, List.set_cons_succ, ih]
    simp [flatZ_cons]
theorem flatZ_last : ∀ (r : List DataM) (ks : List (Value × Nat × Nat)) (i : Nat) (b : Bool), i < r.length → ks.length = r.length → (flatR (RowZ r ks)).set (i * 7 + 4) (.bool b) = flatR (RowZ (r.set i { r.getD i dat0 with Last := b }) ks)
  | [], _, _, _, h, _ => by simp at h
  | _ :: _, [], _, _, _, h => by simp at h
  | x :: r, k :: ks, 0, b, _, _ => by rw [flatZ_cons]; simp [flatZ_cons]
  | x :: r, k :: ks, i + 1, b, h, h2 => by
    have ih := flatZ_last r ks i b (by simpa using h) (by simpa using h2)
    rw [flatZ_cons, show (i + 1) * 7 + 4 = (i * 7 + 4) + 7 by omega]
    simp only [List.cons_append, List.nil_append, List.set_cons_succ, List.set_cons_succ, ih]
    simp [flatZ_cons]
/-- Rows whose bytes lie alike are owned alike. -/
theorem RTs.alike {B : Nat} {w : World} : ∀ {r r' : List DataM} {ks : List (Value × Nat × Nat)}, r.map DataM.Piece = r'.map DataM.Piece → ks.length = r.length → RTs B w (RowZ r ks) → RTs B w (RowZ r' ks)
  | [], [], _, _, _, h => h
  | [], _ :: _, _, h, _, _ => by simp at h
  | _ :: _, [], _, h, _, _ => by simp at h
  | _ :: _, _ :: _, [], _, h, _ => by simp at h
  | x :: r, x' :: r', k :: ks, h, h2, h3 => by
    simp only [List.map_cons, List.cons.injEq] at h
    have hx : RT w (daE x k.1 k.2.1 k.2.2) ∧ B ≤ k.2.1 := h3.1 _ (by simp [RowZ])
    have h4 : RTs B w (RowZ r ks) := ⟨fun y hy => h3.1 y (by simp only [RowZ, List.zipWith_cons_cons]; exact List.mem_cons_of_mem _ hy), by have := h3.2; simp only [RowZ, List.zipWith_cons_cons, List.pairwise_cons] at this; exact this.2⟩
    have ih := RTs.alike h.2 (by simpa using h2) h4
    have hx' : RT w (daE x' k.1 k.2.1 k.2.2) := by
      have h5 := hx.1
      unfold RT daE at h5 ⊢
      rw [← h.1]; exact h5
    have hp : ∀ y ∈ RowZ r ks, k.2.2 ≤ y.lo ∨ y.hi ≤ k.2.1 := by
      have := h3.2
      simp only [RowZ, List.zipWith_cons_cons, List.pairwise_cons] at this
      exact this.1
    refine ⟨fun y hy => ?_, ?_⟩
    · simp only [RowZ, List.zipWith_cons_cons, List.mem_cons] at hy
      rcases hy with rfl | hy
      · exact ⟨hx', hx.2⟩
      · exact ih.1 y hy
    · simp only [RowZ, List.zipWith_cons_cons, List.pairwise_cons]
      refine ⟨fun y hy => ?_, ih.2⟩
      obtain ⟨j, hj, rfl⟩ := List.mem_iff_getElem.1 hy
      have hlen : r.length = r'.length := by have := congrArg List.length h.2; simpa using this
      have hj2 : j < (RowZ r ks).length := by simp [RowZ] at hj ⊢; omega
      have := hp _ (List.getElem_mem hj2)
      simpa [RowZ, daE] using this
/-- The piece that comes at place i, cut out at number x (the last one beyond them). -/
def datAt (y : MessageM) (s : Nat) (t q : Int) (m i x : Nat) : DataM := ⟨(t + i) % 4294967296, y.Stream, q, false, false, y.Unordered, (y.Bytes.drop (min x (m - 1) * s)).take s⟩
def datP (y : MessageM) (s : Nat) (t q : Int) (m : Nat) (pre : List Nat) : List DataM := (List.range pre.length).map (fun i => datAt y s t q m i (pre.getD i 0))
theorem datP_len (y : MessageM) (s : Nat) (t q : Int) (m : Nat) (pre : List Nat) : (datP y s t q m pre).length = pre.length := by simp [datP]
theorem datP_snoc (y : MessageM) (s : Nat) (t q : Int) (m : Nat) (pre : List Nat) (x : Nat) : datP y s t q m (pre ++ [x]) = datP y s t q m pre ++ [datAt y s t q m pre.length x] := by
  unfold datP
  rw [List.length_append, List.length_singleton, List.range_succ, List.map_append]
  congr 1
  · refine List.map_congr_left (fun i hi => ?_)
    have := List.mem_range.1 hi
    simp [List.getD_eq_getElem?_getD, List.getElem?_append_left this]
  · simp [List.getD_eq_getElem?_getD]
theorem cut_fin {y : MessageM} {s : Nat} {t q : Int} {m : Nat} (hs : 0 < s) (hm : m = cutN y.Bytes.length s) (h1 : 1 ≤ m) :
    (((datP y s t q m (List.range m)).set 0 { (datP y s t q m (List.range m)).getD 0 dat0 with First := true }).set (m - 1) { ((datP y s t q m (List.range m)).set 0 { (datP y s t q m (List.range m)).getD 0 dat0 with First := true }).getD (m - 1) dat0 with Last := true }) = cutL y s t q := by
  have hl : (datP y s t q m (List.range m)).length = m := by rw [datP_len, List.length_range]
  have hg : ∀ j (hj : j < m), (datP y s t q m (List.range m))[j]'(by rw [hl]; exact hj) = datAt y s t q m j j := fun j hj => by
    simp [datP, List.getD_eq_getElem?_getD, List.getElem?_range hj]
  have hk : ∀ j, j < m → (decide (y.Bytes.length ≤ (j + 1) * s) = decide (j = m - 1)) := fun j hj => by
    have := cutN_lt (K := y.Bytes.length) (i := j + 1) hs
    rw [← hm] at this
    rw [decide_eq_decide]
    omega
  refine List.ext_getElem (by rw [List.length_set, List.length_set, hl, cutL_len, hm]) (fun j hj hj2 => ?_)
  have hjm : j < m := by rw [List.length_set, List.length_set, hl] at hj; exact hj
  have hc : (cutL y s t q)[j] = cutAt y s t q j := by simp [cutL]
  have h0 := hg 0 (by omega)
  have hA : ∀ i (hi : i < m), ((datP y s t q m (List.range m)).set 0 { (datP y s t q m (List.range m)).getD 0 dat0 with First := true })[i]'(by rw [List.length_set, hl]; exact hi) = { datAt y s t q m i i with First := decide (i = 0) } := fun i hi => by
    rw [List.getElem_set]
    split
    · next e => subst e; rw [getD_at8 (by omega), h0]; rfl
    · next e => rw [hg i hi]; simp [datAt, show ¬ i = 0 from fun h => e h.symm]
  rw [hc, List.getElem_set]
  have hmin : min j (m - 1) = j := by omega
  split
  · next e =>
    subst e
    rw [getD_at8 (by rw [List.length_set, hl]; omega), hA _ (by omega)]
    simp only [datAt, cutAt, hk _ hjm, hmin]
    simp
  · next e =>
    rw [hA j hjm]
    simp only [datAt, cutAt, hk _ hjm, hmin]
    simp [show ¬ j = m - 1 from fun h => e h.symm]
end Go.Proofs.Ythljdikcpdokdaa
