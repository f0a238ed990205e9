/- The regions of the model's l6Copies and PutSecret that draw their order. -/
import Derived.Test.YtjjileefdjjijaaS6O
import Derived.Test.YtjjileefdjjijaaApp
import Derived.Test.YtjjileefdjjijaaRegInv
namespace Go.Proofs.Ytjjileefdjjijaa
open Go.RowKit Go.Deep

set_option maxRecDepth 100000 in
set_option maxHeartbeats 1000000 in
theorem regCp {Q : Exit → Act → World → Prop} (x1 x2 x5 x6 x7 x8 x9 x10 x11 u_12 u_13 u_14 u_15 u_16 u_17 u_18 u_19 u_20 u_21 u_22 u_23 u_24 u_25 u_26 x27 bv : Value) (xs0 : List Value) (ww : World) (B n j ab ao an acp : Nat) (id : Int) (A : Option Addr) (l : List Int) (c : Nat)
    (hab : ab < B) (hnn : Hid (n ≤ 100000)) (hj : (j : Int) < (an : Int)) (hj0 : (0 : Int) ≤ (j : Int)) (hl : Hid (l.length ≤ 4000000)) (HA : Hid (∀ u : World, Below B ww u → Bs u A l)) (r0 : ww.cell? ⟨ab, ao + j * 2, none⟩ = some (.int .i64 id)) (r1 : ww.cell? ⟨ab, ao + j * 2 + 1, none⟩ = some (.slice A l.length c)) {ops : Array Oper}
    (hops : (ops.map fun o => (o.op, o.dst, o.guard)) = #[(Op.move (Operand.tmp 3), some 12, none), (Op.move (Operand.tmp 0), some 13, none), (Op.move (Operand.tmp 4), some 14, none), (Op.indexAddr 25 (Operand.tmp 13) (Operand.tmp 14), some 15, none), (Op.fieldAddr 58 (Operand.tmp 15) 0, some 16, none), (Op.load 2 (Operand.tmp 16), some 17, none), (Op.move (Operand.tmp 0), some 18, none), (Op.move (Operand.tmp 4), some 19, none), (Op.indexAddr 25 (Operand.tmp 18) (Operand.tmp 19), some 20, none), (Op.fieldAddr 58 (Operand.tmp 20) 1, some 21, none), (Op.load 29 (Operand.tmp 21), some 22, none), (Op.call { callee := Callee.value (Operand.func 58), args := #[(Operand.tmp 22)], argTypes := #[29] }, some 23, none), (Op.build 58 #[(0, (Operand.tmp 17)), (1, (Operand.tmp 23))], some 24, none), (Op.buildSlice 25 1 #[(0, (Operand.tmp 24))], some 25, none), (Op.call { callee := Callee.builtin Builtin.append, args := #[(Operand.tmp 12), (Operand.tmp 25)], argTypes := #[25, 25] }, some 26, none), (Op.assign (Operand.tmp 26), some 3, none)])
    (hdeps : ((List.range 16).all fun i => ((fun i => [[], [], [], [1, 2], [3], [4], [], [], [6, 7], [8], [9], [10], [5, 11], [12], [0, 13], [14]].getD i []) i).all fun j => ((ops[i]?).map fun o => o.after.any fun e => Region.binds .any e && e.on == j).getD false) = true)
    (hback : ((List.range 16).all fun i => ((ops[i]?).map fun o => o.after.all fun e => decide (e.on < i)).getD false) = true)
    {a0 : Act} {w0 : World} (ha : a0 = { tmps := #[.slice (some ⟨ab, ao, none⟩) an acp, x1, x2, bv, .int .i64 (j : Int), x5, x6, x7, x8, x9, x10, x11, u_12, u_13, u_14, u_15, u_16, u_17, u_18, u_19, u_20, u_21, u_22, u_23, u_24, u_25, u_26, x27], defers := [] }) (hE : false = true → false = true) (hE0 : false = true → false = true) (hE20 : false = true → false = true) (hO : Below B ww w0) (hU : U8K ww w0) (hBW : B ≤ w0.heap.size) (hW : ww.heap.size ≤ w0.heap.size) (hG : false = false → w0.ownsRow B 58 2 bv n xs0)
    (fin : ∀ t12 t13 t14 t15 t16 t17 t18 t19 t20 t21 t22 t23 t24 t25 t26 t3 (W : World), (Below B ww W) → (U8K ww W) → (B ≤ W.heap.size) → (ww.heap.size ≤ W.heap.size) → (∃ (A9 : Option Addr) (c9 : Nat), W.ownsRow B 58 2 t3 (n + 1) (xs0 ++ [.int .i64 id, .slice A9 l.length c9]) ∧ W.ownsRow ww.heap.size 5 1 (.slice A9 l.length c9) l.length (l.map (Value.int .u8))) → Q .normal { tmps := #[.slice (some ⟨ab, ao, none⟩) an acp, x1, x2, t3, .int .i64 (j : Int), x5, x6, x7, x8, x9, x10, x11, t12, t13, t14, t15, t16, t17, t18, t19, t20, t21, t22, t23, t24, t25, t26, x27], defers := [] } W) :
    wpAny Try.prog .any ops Q ops.size (Array.replicate ops.size false) a0 w0 := by
  have hn : ops.size = 16 := by have := congrArg Array.size hops; simpa using this
  obtain ⟨J, HJ⟩ : ∃ J : (Nat → Bool) → Act → World → Prop, ∀ dn ac W, J dn ac W ↔ (fun dn ac W => ∃ t12 t13 t14 t15 t16 t17 t18 t19 t20 t21 t22 t23 t24 t25 t26 t3, ac = { tmps := #[.slice (some ⟨ab, ao, none⟩) an acp, x1, x2, t3, .int .i64 (j : Int), x5, x6, x7, x8, x9, x10, x11, t12, t13, t14, t15, t16, t17, t18, t19, t20, t21, t22, t23, t24, t25, t26, x27], defers := [] } ∧ (dn 15 = true → dn 14 = true) ∧ (dn 15 = true → dn 0 = true) ∧ (dn 14 = true → dn 0 = true) ∧ (Below B ww W) ∧ (U8K ww W) ∧ (B ≤ W.heap.size) ∧ (ww.heap.size ≤ W.heap.size) ∧ (dn 14 = false → W.ownsRow B 58 2 bv n xs0) ∧ (dn 15 = false → t3 = bv) ∧ (dn 0 = true → t12 = bv) ∧ (dn 1 = true → t13 = .slice (some ⟨ab, ao, none⟩) an acp) ∧ (dn 2 = true → t14 = .int .i64 (j : Int)) ∧ (dn 3 = true → t15 = .pointer (some ⟨ab, ao + j * 2, none⟩)) ∧ (dn 4 = true → t16 = .pointer (some ⟨ab, ao + j * 2, none⟩)) ∧ (dn 5 = true → t17 = .int .i64 id) ∧ (dn 6 = true → t18 = .slice (some ⟨ab, ao, none⟩) an acp) ∧ (dn 7 = true → t19 = .int .i64 (j : Int)) ∧ (dn 8 = true → t20 = .pointer (some ⟨ab, ao + j * 2, none⟩)) ∧ (dn 9 = true → t21 = .pointer (some ⟨ab, ao + j * 2 + 1, none⟩)) ∧ (dn 10 = true → t22 = .slice A l.length c) ∧ (dn 11 = true → ∃ (A9 : Option Addr) (c9 : Nat), t23 = .slice A9 l.length c9 ∧ W.ownsRow ww.heap.size 5 1 (.slice A9 l.length c9) l.length (l.map (Value.int .u8))) ∧ (dn 12 = true → ∃ (A9 : Option Addr) (c9 : Nat), t24 = .agg #[.int .i64 id, .slice A9 l.length c9] ∧ W.ownsRow ww.heap.size 5 1 (.slice A9 l.length c9) l.length (l.map (Value.int .u8))) ∧ (dn 13 = true → dn 14 = false → ∃ (q : Nat) (A9 : Option Addr) (c9 : Nat), t25 = .slice (some ⟨q, 0, none⟩) 1 1 ∧ Blk W q 58 #[.int .i64 id, .slice A9 l.length c9] ∧ W.ownsRow ww.heap.size 5 1 (.slice A9 l.length c9) l.length (l.map (Value.int .u8))) ∧ (dn 14 = true → ∃ (A9 : Option Addr) (c9 : Nat), W.ownsRow B 58 2 t26 (n + 1) (xs0 ++ [.int .i64 id, .slice A9 l.length c9]) ∧ W.ownsRow ww.heap.size 5 1 (.slice A9 l.length c9) l.length (l.map (Value.int .u8))) ∧ (dn 15 = true → ∃ (A9 : Option Addr) (c9 : Nat), W.ownsRow B 58 2 t3 (n + 1) (xs0 ++ [.int .i64 id, .slice A9 l.length c9]) ∧ W.ownsRow ww.heap.size 5 1 (.slice A9 l.length c9) l.length (l.map (Value.int .u8)))) dn ac W := ⟨_, fun _ _ _ => Iff.rfl⟩
  replace HJ := hidH HJ
  refine region_inv 16 (fun i => [[], [], [], [1, 2], [3], [4], [], [], [6, 7], [8], [9], [10], [5, 11], [12], [0, 13], [14]].getD i []) J hn hdeps hback ?start ?step ?fin
  case start => exact (HJ.out _ _ _).2 ⟨u_12, u_13, u_14, u_15, u_16, u_17, u_18, u_19, u_20, u_21, u_22, u_23, u_24, u_25, u_26, bv, ha, hE, hE0, hE20, hO, hU, hBW, hW, hG, fun _ => rfl, fun h => by simp at h, fun h => by simp at h, fun h => by simp at h, fun h => by simp at h, fun h => by simp at h, fun h => by simp at h, fun h => by simp at h, fun h => by simp at h, fun h => by simp at h, fun h => by simp at h, fun h => by simp at h, fun h => by simp at h, fun h => by simp at h, fun h => by simp at h, fun h => by simp at h, fun h => by simp at h⟩
  all_goals clear ha hE hE0 hE20 hO hU hBW hW hG
  case step =>
    clear fin hdeps hback
    intro i hi dn ac W hJ hdn hdep
    obtain ⟨t12, t13, t14, t15, t16, t17, t18, t19, t20, t21, t22, t23, t24, t25, t26, t3, rfl, hE, hE0, hE20, hO, hU, hBW, hW, hG, o15, h0, h1, h2, h3, h4, h5, h6, h7, h8, h9, h10, h11, h12, h13, h14, h15⟩ := (HJ.out _ _ _).1 hJ
    clear hJ
    match i, hi with
    | 0, _ =>
      obtain ⟨ty, ps, af, ho⟩ := op_lit hops (i := 0) (op := Op.move (Operand.tmp 3)) (dst := some 12) (g := none) rfl
      have z15 : dn 15 = false := by
              cases h : dn 15 with
              | false => rfl
              | true => have h3 : dn 0 = true := hE0 h; rw [hdn] at h3; cases h3
      obtain rfl := o15 z15
      refine wpOp_lit ho (fun j b h => by cases h) ?_
      clear hops hdep ho
      replace h1 := hidH h1
      replace h2 := hidH h2
      replace h3 := hidH h3
      replace h4 := hidH h4
      replace h5 := hidH h5
      replace h6 := hidH h6
      replace h7 := hidH h7
      replace h8 := hidH h8
      replace h9 := hidH h9
      replace h10 := hidH h10
      replace h11 := hidH h11
      replace h12 := hidH h12
      replace h13 := hidH h13
      replace h14 := hidH h14
      replace h15 := hidH h15
      replace o15 := hidH o15
      have hb := Below.refl W.heap.size W
      go_wp2
      exact (HJ.out _ _ _).2 ⟨_, _, _, _, _, _, _, _, _, _, _, _, _, _, _, _, rfl, hE, fun _ => rfl, fun _ => rfl, hO.trans (hb.mono hBW), hU.trans (U8K.of_below hb), Nat.le_trans hBW hb.size, Nat.le_trans hW hb.size, fun h => own_below0 (hG h) hb, (fun _ => rfl), fun _ => rfl, h1.out, h2.out, h3.out, h4.out, h5.out, h6.out, h7.out, h8.out, h9.out, h10.out, fun h => by obtain ⟨A9, c9, q1, q2⟩ := h11.out h; exact ⟨A9, c9, q1, own_below0 q2 hb⟩, fun h => by obtain ⟨A9, c9, q1, q2⟩ := h12.out h; exact ⟨A9, c9, q1, own_below0 q2 hb⟩, (fun h h2 => by obtain ⟨q, A9, c9, q1, q2, q3⟩ := h13.out h h2; exact ⟨q, A9, c9, q1, q2.below hb, own_below0 q3 hb⟩), fun h => by obtain ⟨A9, c9, q1, q2⟩ := h14.out h; exact ⟨A9, c9, own_below0 q1 hb, own_below0 q2 hb⟩, fun h => by obtain ⟨A9, c9, q1, q2⟩ := h15.out h; exact ⟨A9, c9, own_below0 q1 hb, own_below0 q2 hb⟩⟩
    | 1, _ =>
      obtain ⟨ty, ps, af, ho⟩ := op_lit hops (i := 1) (op := Op.move (Operand.tmp 0)) (dst := some 13) (g := none) rfl
      refine wpOp_lit ho (fun j b h => by cases h) ?_
      clear hops hdep ho
      replace h0 := hidH h0
      replace h2 := hidH h2
      replace h3 := hidH h3
      replace h4 := hidH h4
      replace h5 := hidH h5
      replace h6 := hidH h6
      replace h7 := hidH h7
      replace h8 := hidH h8
      replace h9 := hidH h9
      replace h10 := hidH h10
      replace h11 := hidH h11
      replace h12 := hidH h12
      replace h13 := hidH h13
      replace h14 := hidH h14
      replace h15 := hidH h15
      replace o15 := hidH o15
      go_wp2
      exact (HJ.out _ _ _).2 ⟨_, _, _, _, _, _, _, _, _, _, _, _, _, _, _, _, rfl, hE, hE0, hE20, hO, hU, hBW, hW, hG, o15.out, h0.out, fun _ => rfl, h2.out, h3.out, h4.out, h5.out, h6.out, h7.out, h8.out, h9.out, h10.out, h11.out, h12.out, h13.out, h14.out, h15.out⟩
    | 2, _ =>
      obtain ⟨ty, ps, af, ho⟩ := op_lit hops (i := 2) (op := Op.move (Operand.tmp 4)) (dst := some 14) (g := none) rfl
      refine wpOp_lit ho (fun j b h => by cases h) ?_
      clear hops hdep ho
      replace h0 := hidH h0
      replace h1 := hidH h1
      replace h3 := hidH h3
      replace h4 := hidH h4
      replace h5 := hidH h5
      replace h6 := hidH h6
      replace h7 := hidH h7
      replace h8 := hidH h8
      replace h9 := hidH h9
      replace h10 := hidH h10
      replace h11 := hidH h11
      replace h12 := hidH h12
      replace h13 := hidH h13
      replace h14 := hidH h14
      replace h15 := hidH h15
      replace o15 := hidH o15
      go_wp2
      exact (HJ.out _ _ _).2 ⟨_, _, _, _, _, _, _, _, _, _, _, _, _, _, _, _, rfl, hE, hE0, hE20, hO, hU, hBW, hW, hG, o15.out, h0.out, h1.out, fun _ => rfl, h3.out, h4.out, h5.out, h6.out, h7.out, h8.out, h9.out, h10.out, h11.out, h12.out, h13.out, h14.out, h15.out⟩
    | 3, _ =>
      obtain ⟨ty, ps, af, ho⟩ := op_lit hops (i := 3) (op := Op.indexAddr 25 (Operand.tmp 13) (Operand.tmp 14)) (dst := some 15) (g := none) rfl
      obtain rfl := h1 (hdep 1 (by simp))
      obtain rfl := h2 (hdep 2 (by simp))
      refine wpOp_lit ho (fun j b h => by cases h) ?_
      clear hops hdep ho
      replace h0 := hidH h0
      replace h1 := hidH h1
      replace h2 := hidH h2
      replace h4 := hidH h4
      replace h5 := hidH h5
      replace h6 := hidH h6
      replace h7 := hidH h7
      replace h8 := hidH h8
      replace h9 := hidH h9
      replace h10 := hidH h10
      replace h11 := hidH h11
      replace h12 := hidH h12
      replace h13 := hidH h13
      replace h14 := hidH h14
      replace h15 := hidH h15
      replace o15 := hidH o15
      go_wp2
      exact (HJ.out _ _ _).2 ⟨_, _, _, _, _, _, _, _, _, _, _, _, _, _, _, _, rfl, hE, hE0, hE20, hO, hU, hBW, hW, hG, o15.out, h0.out, fun _ => rfl, fun _ => rfl, fun _ => rfl, h4.out, h5.out, h6.out, h7.out, h8.out, h9.out, h10.out, h11.out, h12.out, h13.out, h14.out, h15.out⟩
    | 4, _ =>
      obtain ⟨ty, ps, af, ho⟩ := op_lit hops (i := 4) (op := Op.fieldAddr 58 (Operand.tmp 15) 0) (dst := some 16) (g := none) rfl
      obtain rfl := h3 (hdep 3 (by simp))
      refine wpOp_lit ho (fun j b h => by cases h) ?_
      clear hops hdep ho
      replace h0 := hidH h0
      replace h1 := hidH h1
      replace h2 := hidH h2
      replace h3 := hidH h3
      replace h5 := hidH h5
      replace h6 := hidH h6
      replace h7 := hidH h7
      replace h8 := hidH h8
      replace h9 := hidH h9
      replace h10 := hidH h10
      replace h11 := hidH h11
      replace h12 := hidH h12
      replace h13 := hidH h13
      replace h14 := hidH h14
      replace h15 := hidH h15
      replace o15 := hidH o15
      go_wp2
      exact (HJ.out _ _ _).2 ⟨_, _, _, _, _, _, _, _, _, _, _, _, _, _, _, _, rfl, hE, hE0, hE20, hO, hU, hBW, hW, hG, o15.out, h0.out, h1.out, h2.out, fun _ => rfl, fun _ => rfl, h5.out, h6.out, h7.out, h8.out, h9.out, h10.out, h11.out, h12.out, h13.out, h14.out, h15.out⟩
    | 5, _ =>
      obtain ⟨ty, ps, af, ho⟩ := op_lit hops (i := 5) (op := Op.load 2 (Operand.tmp 16)) (dst := some 17) (g := none) rfl
      obtain rfl := h4 (hdep 4 (by simp))
      refine wpOp_lit ho (fun j b h => by cases h) ?_
      clear hops hdep ho
      replace h0 := hidH h0
      replace h1 := hidH h1
      replace h2 := hidH h2
      replace h3 := hidH h3
      replace h4 := hidH h4
      replace h6 := hidH h6
      replace h7 := hidH h7
      replace h8 := hidH h8
      replace h9 := hidH h9
      replace h10 := hidH h10
      replace h11 := hidH h11
      replace h12 := hidH h12
      replace h13 := hidH h13
      replace h14 := hidH h14
      replace h15 := hidH h15
      replace o15 := hidH o15
      have hb := Below.refl W.heap.size W
      have q := (hO.cell (p := ⟨ab, ao + j * 2, none⟩) hab).trans r0
      go_wp2
      exact (HJ.out _ _ _).2 ⟨_, _, _, _, _, _, _, _, _, _, _, _, _, _, _, _, rfl, hE, hE0, hE20, hO.trans (hb.mono hBW), hU.trans (U8K.of_below hb), Nat.le_trans hBW hb.size, Nat.le_trans hW hb.size, fun h => own_below0 (hG h) hb, o15.out, h0.out, h1.out, h2.out, h3.out, fun _ => rfl, fun _ => rfl, h6.out, h7.out, h8.out, h9.out, h10.out, fun h => by obtain ⟨A9, c9, q1, q2⟩ := h11.out h; exact ⟨A9, c9, q1, own_below0 q2 hb⟩, fun h => by obtain ⟨A9, c9, q1, q2⟩ := h12.out h; exact ⟨A9, c9, q1, own_below0 q2 hb⟩, (fun h h2 => by obtain ⟨q, A9, c9, q1, q2, q3⟩ := h13.out h h2; exact ⟨q, A9, c9, q1, q2.below hb, own_below0 q3 hb⟩), fun h => by obtain ⟨A9, c9, q1, q2⟩ := h14.out h; exact ⟨A9, c9, own_below0 q1 hb, own_below0 q2 hb⟩, fun h => by obtain ⟨A9, c9, q1, q2⟩ := h15.out h; exact ⟨A9, c9, own_below0 q1 hb, own_below0 q2 hb⟩⟩
    | 6, _ =>
      obtain ⟨ty, ps, af, ho⟩ := op_lit hops (i := 6) (op := Op.move (Operand.tmp 0)) (dst := some 18) (g := none) rfl
      refine wpOp_lit ho (fun j b h => by cases h) ?_
      clear hops hdep ho
      replace h0 := hidH h0
      replace h1 := hidH h1
      replace h2 := hidH h2
      replace h3 := hidH h3
      replace h4 := hidH h4
      replace h5 := hidH h5
      replace h7 := hidH h7
      replace h8 := hidH h8
      replace h9 := hidH h9
      replace h10 := hidH h10
      replace h11 := hidH h11
      replace h12 := hidH h12
      replace h13 := hidH h13
      replace h14 := hidH h14
      replace h15 := hidH h15
      replace o15 := hidH o15
      go_wp2
      exact (HJ.out _ _ _).2 ⟨_, _, _, _, _, _, _, _, _, _, _, _, _, _, _, _, rfl, hE, hE0, hE20, hO, hU, hBW, hW, hG, o15.out, h0.out, h1.out, h2.out, h3.out, h4.out, h5.out, fun _ => rfl, h7.out, h8.out, h9.out, h10.out, h11.out, h12.out, h13.out, h14.out, h15.out⟩
    | 7, _ =>
      obtain ⟨ty, ps, af, ho⟩ := op_lit hops (i := 7) (op := Op.move (Operand.tmp 4)) (dst := some 19) (g := none) rfl
      refine wpOp_lit ho (fun j b h => by cases h) ?_
      clear hops hdep ho
      replace h0 := hidH h0
      replace h1 := hidH h1
      replace h2 := hidH h2
      replace h3 := hidH h3
      replace h4 := hidH h4
      replace h5 := hidH h5
      replace h6 := hidH h6
      replace h8 := hidH h8
      replace h9 := hidH h9
      replace h10 := hidH h10
      replace h11 := hidH h11
      replace h12 := hidH h12
      replace h13 := hidH h13
      replace h14 := hidH h14
      replace h15 := hidH h15
      replace o15 := hidH o15
      go_wp2
      exact (HJ.out _ _ _).2 ⟨_, _, _, _, _, _, _, _, _, _, _, _, _, _, _, _, rfl, hE, hE0, hE20, hO, hU, hBW, hW, hG, o15.out, h0.out, h1.out, h2.out, h3.out, h4.out, h5.out, h6.out, fun _ => rfl, h8.out, h9.out, h10.out, h11.out, h12.out, h13.out, h14.out, h15.out⟩
    | 8, _ =>
      obtain ⟨ty, ps, af, ho⟩ := op_lit hops (i := 8) (op := Op.indexAddr 25 (Operand.tmp 18) (Operand.tmp 19)) (dst := some 20) (g := none) rfl
      obtain rfl := h6 (hdep 6 (by simp))
      obtain rfl := h7 (hdep 7 (by simp))
      refine wpOp_lit ho (fun j b h => by cases h) ?_
      clear hops hdep ho
      replace h0 := hidH h0
      replace h1 := hidH h1
      replace h2 := hidH h2
      replace h3 := hidH h3
      replace h4 := hidH h4
      replace h5 := hidH h5
      replace h6 := hidH h6
      replace h7 := hidH h7
      replace h9 := hidH h9
      replace h10 := hidH h10
      replace h11 := hidH h11
      replace h12 := hidH h12
      replace h13 := hidH h13
      replace h14 := hidH h14
      replace h15 := hidH h15
      replace o15 := hidH o15
      go_wp2
      exact (HJ.out _ _ _).2 ⟨_, _, _, _, _, _, _, _, _, _, _, _, _, _, _, _, rfl, hE, hE0, hE20, hO, hU, hBW, hW, hG, o15.out, h0.out, h1.out, h2.out, h3.out, h4.out, h5.out, fun _ => rfl, fun _ => rfl, fun _ => rfl, h9.out, h10.out, h11.out, h12.out, h13.out, h14.out, h15.out⟩
    | 9, _ =>
      obtain ⟨ty, ps, af, ho⟩ := op_lit hops (i := 9) (op := Op.fieldAddr 58 (Operand.tmp 20) 1) (dst := some 21) (g := none) rfl
      obtain rfl := h8 (hdep 8 (by simp))
      refine wpOp_lit ho (fun j b h => by cases h) ?_
      clear hops hdep ho
      replace h0 := hidH h0
      replace h1 := hidH h1
      replace h2 := hidH h2
      replace h3 := hidH h3
      replace h4 := hidH h4
      replace h5 := hidH h5
      replace h6 := hidH h6
      replace h7 := hidH h7
      replace h8 := hidH h8
      replace h10 := hidH h10
      replace h11 := hidH h11
      replace h12 := hidH h12
      replace h13 := hidH h13
      replace h14 := hidH h14
      replace h15 := hidH h15
      replace o15 := hidH o15
      go_wp2
      exact (HJ.out _ _ _).2 ⟨_, _, _, _, _, _, _, _, _, _, _, _, _, _, _, _, rfl, hE, hE0, hE20, hO, hU, hBW, hW, hG, o15.out, h0.out, h1.out, h2.out, h3.out, h4.out, h5.out, h6.out, h7.out, fun _ => rfl, fun _ => rfl, h10.out, h11.out, h12.out, h13.out, h14.out, h15.out⟩
    | 10, _ =>
      obtain ⟨ty, ps, af, ho⟩ := op_lit hops (i := 10) (op := Op.load 29 (Operand.tmp 21)) (dst := some 22) (g := none) rfl
      obtain rfl := h9 (hdep 9 (by simp))
      refine wpOp_lit ho (fun j b h => by cases h) ?_
      clear hops hdep ho
      replace h0 := hidH h0
      replace h1 := hidH h1
      replace h2 := hidH h2
      replace h3 := hidH h3
      replace h4 := hidH h4
      replace h5 := hidH h5
      replace h6 := hidH h6
      replace h7 := hidH h7
      replace h8 := hidH h8
      replace h9 := hidH h9
      replace h11 := hidH h11
      replace h12 := hidH h12
      replace h13 := hidH h13
      replace h14 := hidH h14
      replace h15 := hidH h15
      replace o15 := hidH o15
      have hb := Below.refl W.heap.size W
      have q := (hO.cell (p := ⟨ab, ao + j * 2 + 1, none⟩) hab).trans r1
      go_wp2
      exact (HJ.out _ _ _).2 ⟨_, _, _, _, _, _, _, _, _, _, _, _, _, _, _, _, rfl, hE, hE0, hE20, hO.trans (hb.mono hBW), hU.trans (U8K.of_below hb), Nat.le_trans hBW hb.size, Nat.le_trans hW hb.size, fun h => own_below0 (hG h) hb, o15.out, h0.out, h1.out, h2.out, h3.out, h4.out, h5.out, h6.out, h7.out, h8.out, fun _ => rfl, fun _ => rfl, fun h => by obtain ⟨A9, c9, q1, q2⟩ := h11.out h; exact ⟨A9, c9, q1, own_below0 q2 hb⟩, fun h => by obtain ⟨A9, c9, q1, q2⟩ := h12.out h; exact ⟨A9, c9, q1, own_below0 q2 hb⟩, (fun h h2 => by obtain ⟨q, A9, c9, q1, q2, q3⟩ := h13.out h h2; exact ⟨q, A9, c9, q1, q2.below hb, own_below0 q3 hb⟩), fun h => by obtain ⟨A9, c9, q1, q2⟩ := h14.out h; exact ⟨A9, c9, own_below0 q1 hb, own_below0 q2 hb⟩, fun h => by obtain ⟨A9, c9, q1, q2⟩ := h15.out h; exact ⟨A9, c9, own_below0 q1 hb, own_below0 q2 hb⟩⟩
    | 11, _ =>
      obtain ⟨ty, ps, af, ho⟩ := op_lit hops (i := 11) (op := Op.call { callee := Callee.value (Operand.func 58), args := #[(Operand.tmp 22)], argTypes := #[29] }) (dst := some 23) (g := none) rfl
      obtain rfl := h10 (hdep 10 (by simp))
      refine wpOp_lit ho (fun j b h => by cases h) ?_
      clear hops hdep ho
      replace h0 := hidH h0
      replace h1 := hidH h1
      replace h2 := hidH h2
      replace h3 := hidH h3
      replace h4 := hidH h4
      replace h5 := hidH h5
      replace h6 := hidH h6
      replace h7 := hidH h7
      replace h8 := hidH h8
      replace h9 := hidH h9
      replace h10 := hidH h10
      replace h12 := hidH h12
      replace h13 := hidH h13
      replace h14 := hidH h14
      replace h15 := hidH h15
      replace o15 := hidH o15
      have hS0 := hW
      have HC := hidH (copy_any A l c W (HA.out W hO) hl.out)
      go_wp2_with fail
      refine HC.out.mono ?_
      rintro e w9 ⟨v9, rfl, o9, hb⟩
      obtain ⟨A9, c9, rfl⟩ := own_lenS o9
      have O9 := hidH (own_monoS o9 hS0)
      clear o9
      go_wp2
      exact (HJ.out _ _ _).2 ⟨_, _, _, _, _, _, _, _, _, _, _, _, _, _, _, _, rfl, hE, hE0, hE20, hO.trans (hb.mono hBW), hU.trans (U8K.of_below hb), Nat.le_trans hBW hb.size, Nat.le_trans hW hb.size, fun h => own_below0 (hG h) hb, o15.out, h0.out, h1.out, h2.out, h3.out, h4.out, h5.out, h6.out, h7.out, h8.out, h9.out, fun _ => rfl, fun _ => ⟨A9, c9, rfl, O9.out⟩, fun h => by obtain ⟨A9, c9, q1, q2⟩ := h12.out h; exact ⟨A9, c9, q1, own_below0 q2 hb⟩, (fun h h2 => by obtain ⟨q, A9, c9, q1, q2, q3⟩ := h13.out h h2; exact ⟨q, A9, c9, q1, q2.below hb, own_below0 q3 hb⟩), fun h => by obtain ⟨A9, c9, q1, q2⟩ := h14.out h; exact ⟨A9, c9, own_below0 q1 hb, own_below0 q2 hb⟩, fun h => by obtain ⟨A9, c9, q1, q2⟩ := h15.out h; exact ⟨A9, c9, own_below0 q1 hb, own_below0 q2 hb⟩⟩
    | 12, _ =>
      obtain ⟨ty, ps, af, ho⟩ := op_lit hops (i := 12) (op := Op.build 58 #[(0, (Operand.tmp 17)), (1, (Operand.tmp 23))]) (dst := some 24) (g := none) rfl
      obtain rfl := h5 (hdep 5 (by simp))
      obtain ⟨A9, c9, rfl, o9⟩ := h11 (hdep 11 (by simp))
      refine wpOp_lit ho (fun j b h => by cases h) ?_
      clear hops hdep ho
      replace h0 := hidH h0
      replace h1 := hidH h1
      replace h2 := hidH h2
      replace h3 := hidH h3
      replace h4 := hidH h4
      replace h5 := hidH h5
      replace h6 := hidH h6
      replace h7 := hidH h7
      replace h8 := hidH h8
      replace h9 := hidH h9
      replace h10 := hidH h10
      replace h11 := hidH h11
      replace h13 := hidH h13
      replace h14 := hidH h14
      replace h15 := hidH h15
      replace o15 := hidH o15
      go_wp2
      exact (HJ.out _ _ _).2 ⟨_, _, _, _, _, _, _, _, _, _, _, _, _, _, _, _, rfl, hE, hE0, hE20, hO, hU, hBW, hW, hG, o15.out, h0.out, h1.out, h2.out, h3.out, h4.out, fun _ => rfl, h6.out, h7.out, h8.out, h9.out, h10.out, fun _ => ⟨A9, c9, rfl, o9⟩, fun _ => ⟨A9, c9, rfl, o9⟩, h13.out, h14.out, h15.out⟩
    | 13, _ =>
      obtain ⟨ty, ps, af, ho⟩ := op_lit hops (i := 13) (op := Op.buildSlice 25 1 #[(0, (Operand.tmp 24))]) (dst := some 25) (g := none) rfl
      obtain ⟨B9, d9, rfl, p9⟩ := h12 (hdep 12 (by simp))
      refine wpOp_lit ho (fun j b h => by cases h) ?_
      clear hops hdep ho
      replace h0 := hidH h0
      replace h1 := hidH h1
      replace h2 := hidH h2
      replace h3 := hidH h3
      replace h4 := hidH h4
      replace h5 := hidH h5
      replace h6 := hidH h6
      replace h7 := hidH h7
      replace h8 := hidH h8
      replace h9 := hidH h9
      replace h10 := hidH h10
      replace h11 := hidH h11
      replace h12 := hidH h12
      replace h14 := hidH h14
      replace h15 := hidH h15
      replace o15 := hidH o15
      have hb := bal (Below.refl W.heap.size W) (.cells #[.int .i64 id, .slice B9 l.length d9] 58)
      have KQ := hidH (Blk.new W 58 #[.int .i64 id, .slice B9 l.length d9])
      go_wp2
      exact (HJ.out _ _ _).2 ⟨_, _, _, _, _, _, _, _, _, _, _, _, _, _, _, _, rfl, hE, hE0, hE20, hO.trans (hb.mono hBW), hU.trans (U8K.of_below hb), Nat.le_trans hBW hb.size, Nat.le_trans hW hb.size, fun h => own_below0 (hG h) hb, o15.out, h0.out, h1.out, h2.out, h3.out, h4.out, h5.out, h6.out, h7.out, h8.out, h9.out, h10.out, fun h => by obtain ⟨A9, c9, q1, q2⟩ := h11.out h; exact ⟨A9, c9, q1, own_below0 q2 hb⟩, fun _ => ⟨B9, d9, rfl, own_below0 p9 hb⟩, fun _ => fun _ => ⟨_, B9, d9, rfl, KQ.out, own_below0 p9 hb⟩, fun h => by obtain ⟨A9, c9, q1, q2⟩ := h14.out h; exact ⟨A9, c9, own_below0 q1 hb, own_below0 q2 hb⟩, fun h => by obtain ⟨A9, c9, q1, q2⟩ := h15.out h; exact ⟨A9, c9, own_below0 q1 hb, own_below0 q2 hb⟩⟩
    | 14, _ =>
      obtain ⟨ty, ps, af, ho⟩ := op_lit hops (i := 14) (op := Op.call { callee := Callee.builtin Builtin.append, args := #[(Operand.tmp 12), (Operand.tmp 25)], argTypes := #[25, 25] }) (dst := some 26) (g := none) rfl
      have ow := hidH (hG hdn)
      have hd0 := hidH (hdep 0 (by simp))
      obtain ⟨q, A9, c9, rfl, kq, o9⟩ := h13 (hdep 13 (by simp)) hdn
      obtain rfl := h0 (hdep 0 (by simp))
      refine wpOp_lit ho (fun j b h => by cases h) ?_
      clear hops hdep ho
      replace h0 := hidH h0
      replace h1 := hidH h1
      replace h2 := hidH h2
      replace h3 := hidH h3
      replace h4 := hidH h4
      replace h5 := hidH h5
      replace h6 := hidH h6
      replace h7 := hidH h7
      replace h8 := hidH h8
      replace h9 := hidH h9
      replace h10 := hidH h10
      replace h11 := hidH h11
      replace h12 := hidH h12
      replace h13 := hidH h13
      replace h15 := hidH h15
      replace o15 := hidH o15
      have hsz := hBW
      go_wp2_with (at_builtin; go_loud (refine wpList_append_Sec rfl _ _ rfl B _ n xs0 rfl ow.out q _ id A9 l.length c9 rfl kq hnn.out hsz ?_))
      intro v2 w2 o2 hg
      have BB := hidH ((Below.refl B W).grown hg hsz (fun x hx => (ow.out.lt x hx).1))
      have U14 := hidH (U8K.of_grown hg ow.out)
      have hgr := hidH hg
      have OO := hidH (own_other o9 hg ow.out (by decide))
      have O8 := hidH o2
      clear o2 hg
      go_wp2
      exact (HJ.out _ _ _).2 ⟨_, _, _, _, _, _, _, _, _, _, _, _, _, _, _, _, rfl, fun _ => rfl, hE0, fun _ => hd0.out, hO.trans BB.out, hU.trans U14.out, Nat.le_trans hBW BB.out.size, Nat.le_trans hW BB.out.size, (fun h2 => by simp at h2), o15.out, fun _ => rfl, h1.out, h2.out, h3.out, h4.out, h5.out, h6.out, h7.out, h8.out, h9.out, h10.out, fun h => by obtain ⟨A9, c9, q1, q2⟩ := h11.out h; exact ⟨A9, c9, q1, own_other q2 hgr.out ow.out (by decide)⟩, fun h => by obtain ⟨A9, c9, q1, q2⟩ := h12.out h; exact ⟨A9, c9, q1, own_other q2 hgr.out ow.out (by decide)⟩, (fun _ h2 => by simp at h2), fun _ => ⟨A9, c9, O8.out, OO.out⟩, (fun h => by have h3 : dn 14 = true := hE h; rw [hdn] at h3; cases h3)⟩
    | 15, _ =>
      obtain ⟨ty, ps, af, ho⟩ := op_lit hops (i := 15) (op := Op.assign (Operand.tmp 26)) (dst := some 3) (g := none) rfl
      have hd14 := hidH (hdep 14 (by simp))
      obtain ⟨C9, e9, r9, s9⟩ := h14 (hdep 14 (by simp))
      obtain rfl := o15 hdn
      refine wpOp_lit ho (fun j b h => by cases h) ?_
      clear hops hdep ho
      replace h0 := hidH h0
      replace h1 := hidH h1
      replace h2 := hidH h2
      replace h3 := hidH h3
      replace h4 := hidH h4
      replace h5 := hidH h5
      replace h6 := hidH h6
      replace h7 := hidH h7
      replace h8 := hidH h8
      replace h9 := hidH h9
      replace h10 := hidH h10
      replace h11 := hidH h11
      replace h12 := hidH h12
      replace h13 := hidH h13
      replace h14 := hidH h14
      have hb := Below.refl W.heap.size W
      go_wp2
      exact (HJ.out _ _ _).2 ⟨_, _, _, _, _, _, _, _, _, _, _, _, _, _, _, _, rfl, fun _ => hd14.out, fun _ => hE20 hd14.out, hE20, hO.trans (hb.mono hBW), hU.trans (U8K.of_below hb), Nat.le_trans hBW hb.size, Nat.le_trans hW hb.size, (fun h => by have h3 : dn 14 = false := h; rw [hd14.out] at h3; cases h3), (fun h => by simp at h), h0.out, h1.out, h2.out, h3.out, h4.out, h5.out, h6.out, h7.out, h8.out, h9.out, h10.out, fun h => by obtain ⟨A9, c9, q1, q2⟩ := h11.out h; exact ⟨A9, c9, q1, own_below0 q2 hb⟩, fun h => by obtain ⟨A9, c9, q1, q2⟩ := h12.out h; exact ⟨A9, c9, q1, own_below0 q2 hb⟩, (fun h h2 => by obtain ⟨q, A9, c9, q1, q2, q3⟩ := h13.out h h2; exact ⟨q, A9, c9, q1, q2.below hb, own_below0 q3 hb⟩), fun _ => ⟨C9, e9, own_below0 r9 hb, own_below0 s9 hb⟩, fun _ => ⟨C9, e9, r9, s9⟩⟩
    | n + 16, h => omega
  case fin =>
    clear hops hdeps hback
    rintro dn ac W hJ hall
    obtain ⟨t12, t13, t14, t15, t16, t17, t18, t19, t20, t21, t22, t23, t24, t25, t26, t3, rfl, hE, hE0, hE20, hO, hU, hBW, hW, hG, o15, h0, h1, h2, h3, h4, h5, h6, h7, h8, h9, h10, h11, h12, h13, h14, h15⟩ := (HJ.out _ _ _).1 hJ
    exact fin _ _ _ _ _ _ _ _ _ _ _ _ _ _ _ _ W hO hU hBW hW (h15 (hall 15 (by omega)))
set_option maxRecDepth 100000 in
set_option maxHeartbeats 1000000 in
theorem regOw {Q : Exit → Act → World → Prop} (x0 x1 x2 x4 x5 x6 x7 x8 x12 x13 x14 x15 x16 x17 x18 x19 x20 x21 x22 x23 : Value) (ww : World) (k c : Nat) (id : Int) (A : Option Addr) (l : List Int)
    (hkl : k < ww.heap.size) (hk0 : ww.cell? ⟨k, 0, none⟩ = some (.int .i64 id)) (hk1 : ww.cell? ⟨k, 1, none⟩ = some (.slice A l.length c)) (hl : l.length ≤ 4000000) (HA : Hid (∀ u : World, Below ww.heap.size ww u → Bs u A l)) {ops : Array Oper}
    (hops : (ops.map fun o => (o.op, o.dst, o.guard)) = #[(Op.fieldAddr 58 (Operand.tmp 3) 0, some 24, none), (Op.load 2 (Operand.tmp 24), some 25, none), (Op.fieldAddr 58 (Operand.tmp 3) 1, some 26, none), (Op.load 29 (Operand.tmp 26), some 27, none), (Op.call { callee := Callee.value (Operand.func 58), args := #[(Operand.tmp 27)], argTypes := #[29] }, some 28, none), (Op.build 58 #[(0, (Operand.tmp 25)), (1, (Operand.tmp 28))], some 29, none), (Op.alloc 58, some 9, none), (Op.store 58 (Operand.tmp 9) (Operand.tmp 29), none, none)])
    (hdeps : ((List.range 8).all fun i => ((fun i => [[], [0], [], [2], [3], [1, 4], [], [5, 6]].getD i []) i).all fun j => ((ops[i]?).map fun o => o.after.any fun e => Region.binds .any e && e.on == j).getD false) = true)
    (hback : ((List.range 8).all fun i => ((ops[i]?).map fun o => o.after.all fun e => decide (e.on < i)).getD false) = true)
    {a0 : Act} {w0 : World} (ha : a0 = { tmps := #[x0, x1, x2, .pointer (some ⟨k, 0, none⟩), x4, x5, x6, x7, x8, undef, undef, undef, x12, x13, x14, x15, x16, x17, x18, x19, x20, x21, x22, x23, undef, undef, undef, undef, undef, undef, undef, undef, undef, undef, undef, undef, undef, undef, undef, undef, undef, undef, undef, undef, undef, undef, undef, undef, undef, undef, undef, undef, undef, undef, undef, undef, undef, undef, undef, undef, undef, undef, undef, undef, undef, undef, undef, undef, undef, undef, undef, undef, undef, undef, undef, undef, undef, undef, undef, undef, undef], defers := [] }) (hE : false = true → false = true) (hO : Below ww.heap.size ww w0)
    (fin : ∀ t24 t25 t26 t27 t28 t29 t9 (W : World), (Below ww.heap.size ww W) → (∃ (g : Nat) (A9 : Option Addr) (c9 : Nat), t9 = .pointer (some ⟨g, 0, none⟩) ∧ Blk W g 58 #[.int .i64 id, .slice A9 l.length c9] ∧ W.ownsRow ww.heap.size 5 1 (.slice A9 l.length c9) l.length (l.map (Value.int .u8)) ∧ ww.heap.size ≤ g) → Q .normal { tmps := #[x0, x1, x2, .pointer (some ⟨k, 0, none⟩), x4, x5, x6, x7, x8, t9, undef, undef, x12, x13, x14, x15, x16, x17, x18, x19, x20, x21, x22, x23, t24, t25, t26, t27, t28, t29, undef, undef, undef, undef, undef, undef, undef, undef, undef, undef, undef, undef, undef, undef, undef, undef, undef, undef, undef, undef, undef, undef, undef, undef, undef, undef, undef, undef, undef, undef, undef, undef, undef, undef, undef, undef, undef, undef, undef, undef, undef, undef, undef, undef, undef, undef, undef, undef, undef, undef, undef], defers := [] } W) :
    wpAny Try.prog .any ops Q ops.size (Array.replicate ops.size false) a0 w0 := by
  have hn : ops.size = 8 := by have := congrArg Array.size hops; simpa using this
  obtain ⟨J, HJ⟩ : ∃ J : (Nat → Bool) → Act → World → Prop, ∀ dn ac W, J dn ac W ↔ (fun dn ac W => ∃ t24 t25 t26 t27 t28 t29 t9, ac = { tmps := #[x0, x1, x2, .pointer (some ⟨k, 0, none⟩), x4, x5, x6, x7, x8, t9, undef, undef, x12, x13, x14, x15, x16, x17, x18, x19, x20, x21, x22, x23, t24, t25, t26, t27, t28, t29, undef, undef, undef, undef, undef, undef, undef, undef, undef, undef, undef, undef, undef, undef, undef, undef, undef, undef, undef, undef, undef, undef, undef, undef, undef, undef, undef, undef, undef, undef, undef, undef, undef, undef, undef, undef, undef, undef, undef, undef, undef, undef, undef, undef, undef, undef, undef, undef, undef, undef, undef], defers := [] } ∧ (dn 7 = true → dn 6 = true) ∧ (Below ww.heap.size ww W) ∧ (dn 0 = true → t24 = .pointer (some ⟨k, 0, none⟩)) ∧ (dn 1 = true → t25 = .int .i64 id) ∧ (dn 2 = true → t26 = .pointer (some ⟨k, 1, none⟩)) ∧ (dn 3 = true → t27 = .slice A l.length c) ∧ (dn 4 = true → ∃ (A9 : Option Addr) (c9 : Nat), t28 = .slice A9 l.length c9 ∧ W.ownsRow ww.heap.size 5 1 (.slice A9 l.length c9) l.length (l.map (Value.int .u8))) ∧ (dn 5 = true → ∃ (A9 : Option Addr) (c9 : Nat), t29 = .agg #[.int .i64 id, .slice A9 l.length c9] ∧ W.ownsRow ww.heap.size 5 1 (.slice A9 l.length c9) l.length (l.map (Value.int .u8))) ∧ (dn 6 = true → dn 7 = false → ∃ g : Nat, t9 = .pointer (some ⟨g, 0, none⟩) ∧ Blk W g 58 #[.int .i64 0, .slice none 0 0] ∧ ww.heap.size ≤ g) ∧ (dn 7 = true → ∃ (g : Nat) (A9 : Option Addr) (c9 : Nat), t9 = .pointer (some ⟨g, 0, none⟩) ∧ Blk W g 58 #[.int .i64 id, .slice A9 l.length c9] ∧ W.ownsRow ww.heap.size 5 1 (.slice A9 l.length c9) l.length (l.map (Value.int .u8)) ∧ ww.heap.size ≤ g)) dn ac W := ⟨_, fun _ _ _ => Iff.rfl⟩
  replace HJ := hidH HJ
  refine region_inv 8 (fun i => [[], [0], [], [2], [3], [1, 4], [], [5, 6]].getD i []) J hn hdeps hback ?start ?step ?fin
  case start => exact (HJ.out _ _ _).2 ⟨undef, undef, undef, undef, undef, undef, undef, ha, hE, hO, fun h => by simp at h, fun h => by simp at h, fun h => by simp at h, fun h => by simp at h, fun h => by simp at h, fun h => by simp at h, fun h => by simp at h, fun h => by simp at h⟩
  all_goals clear ha hE hO
  case step =>
    clear fin hdeps hback
    intro i hi dn ac W hJ hdn hdep
    obtain ⟨t24, t25, t26, t27, t28, t29, t9, rfl, hE, hO, h0, h1, h2, h3, h4, h5, h6, h7⟩ := (HJ.out _ _ _).1 hJ
    clear hJ
    match i, hi with
    | 0, _ =>
      obtain ⟨ty, ps, af, ho⟩ := op_lit hops (i := 0) (op := Op.fieldAddr 58 (Operand.tmp 3) 0) (dst := some 24) (g := none) rfl
      refine wpOp_lit ho (fun j b h => by cases h) ?_
      clear hops hdep ho
      replace h1 := hidH h1
      replace h2 := hidH h2
      replace h3 := hidH h3
      replace h4 := hidH h4
      replace h5 := hidH h5
      replace h6 := hidH h6
      replace h7 := hidH h7
      go_wp2
      exact (HJ.out _ _ _).2 ⟨_, _, _, _, _, _, _, rfl, hE, hO, fun _ => rfl, h1.out, h2.out, h3.out, h4.out, h5.out, h6.out, h7.out⟩
    | 1, _ =>
      obtain ⟨ty, ps, af, ho⟩ := op_lit hops (i := 1) (op := Op.load 2 (Operand.tmp 24)) (dst := some 25) (g := none) rfl
      obtain rfl := h0 (hdep 0 (by simp))
      refine wpOp_lit ho (fun j b h => by cases h) ?_
      clear hops hdep ho
      replace h0 := hidH h0
      replace h2 := hidH h2
      replace h3 := hidH h3
      replace h4 := hidH h4
      replace h5 := hidH h5
      replace h6 := hidH h6
      replace h7 := hidH h7
      have hb := Below.refl W.heap.size W
      have q := (hO.cell (p := ⟨k, 0, none⟩) hkl).trans hk0
      go_wp2
      exact (HJ.out _ _ _).2 ⟨_, _, _, _, _, _, _, rfl, hE, btr hO hb, fun _ => rfl, fun _ => rfl, h2.out, h3.out, fun h => by obtain ⟨A9, c9, q1, q2⟩ := h4.out h; exact ⟨A9, c9, q1, own_below0 q2 hb⟩, fun h => by obtain ⟨A9, c9, q1, q2⟩ := h5.out h; exact ⟨A9, c9, q1, own_below0 q2 hb⟩, (fun h h2 => by obtain ⟨g, q1, q2, q3⟩ := h6.out h h2; exact ⟨g, q1, q2.below hb, q3⟩), fun h => by obtain ⟨g, A9, c9, q1, q2, q3, q4⟩ := h7.out h; exact ⟨g, A9, c9, q1, q2.below hb, own_below0 q3 hb, q4⟩⟩
    | 2, _ =>
      obtain ⟨ty, ps, af, ho⟩ := op_lit hops (i := 2) (op := Op.fieldAddr 58 (Operand.tmp 3) 1) (dst := some 26) (g := none) rfl
      refine wpOp_lit ho (fun j b h => by cases h) ?_
      clear hops hdep ho
      replace h0 := hidH h0
      replace h1 := hidH h1
      replace h3 := hidH h3
      replace h4 := hidH h4
      replace h5 := hidH h5
      replace h6 := hidH h6
      replace h7 := hidH h7
      go_wp2
      exact (HJ.out _ _ _).2 ⟨_, _, _, _, _, _, _, rfl, hE, hO, h0.out, h1.out, fun _ => rfl, h3.out, h4.out, h5.out, h6.out, h7.out⟩
    | 3, _ =>
      obtain ⟨ty, ps, af, ho⟩ := op_lit hops (i := 3) (op := Op.load 29 (Operand.tmp 26)) (dst := some 27) (g := none) rfl
      obtain rfl := h2 (hdep 2 (by simp))
      refine wpOp_lit ho (fun j b h => by cases h) ?_
      clear hops hdep ho
      replace h0 := hidH h0
      replace h1 := hidH h1
      replace h2 := hidH h2
      replace h4 := hidH h4
      replace h5 := hidH h5
      replace h6 := hidH h6
      replace h7 := hidH h7
      have hb := Below.refl W.heap.size W
      have q := (hO.cell (p := ⟨k, 1, none⟩) hkl).trans hk1
      go_wp2
      exact (HJ.out _ _ _).2 ⟨_, _, _, _, _, _, _, rfl, hE, btr hO hb, h0.out, h1.out, fun _ => rfl, fun _ => rfl, fun h => by obtain ⟨A9, c9, q1, q2⟩ := h4.out h; exact ⟨A9, c9, q1, own_below0 q2 hb⟩, fun h => by obtain ⟨A9, c9, q1, q2⟩ := h5.out h; exact ⟨A9, c9, q1, own_below0 q2 hb⟩, (fun h h2 => by obtain ⟨g, q1, q2, q3⟩ := h6.out h h2; exact ⟨g, q1, q2.below hb, q3⟩), fun h => by obtain ⟨g, A9, c9, q1, q2, q3, q4⟩ := h7.out h; exact ⟨g, A9, c9, q1, q2.below hb, own_below0 q3 hb, q4⟩⟩
    | 4, _ =>
      obtain ⟨ty, ps, af, ho⟩ := op_lit hops (i := 4) (op := Op.call { callee := Callee.value (Operand.func 58), args := #[(Operand.tmp 27)], argTypes := #[29] }) (dst := some 28) (g := none) rfl
      obtain rfl := h3 (hdep 3 (by simp))
      refine wpOp_lit ho (fun j b h => by cases h) ?_
      clear hops hdep ho
      replace h0 := hidH h0
      replace h1 := hidH h1
      replace h2 := hidH h2
      replace h3 := hidH h3
      replace h5 := hidH h5
      replace h6 := hidH h6
      replace h7 := hidH h7
      have hS0 := hO.size
      have HC := hidH (copy_any A l c W (HA.out W hO) hl)
      go_wp2_with fail
      refine HC.out.mono ?_
      rintro e w9 ⟨v9, rfl, o9, hb⟩
      obtain ⟨A9, c9, rfl⟩ := own_lenS o9
      have O9 := hidH (own_monoS o9 hS0)
      clear o9
      go_wp2
      exact (HJ.out _ _ _).2 ⟨_, _, _, _, _, _, _, rfl, hE, btr hO hb, h0.out, h1.out, h2.out, fun _ => rfl, fun _ => ⟨A9, c9, rfl, O9.out⟩, fun h => by obtain ⟨A9, c9, q1, q2⟩ := h5.out h; exact ⟨A9, c9, q1, own_below0 q2 hb⟩, (fun h h2 => by obtain ⟨g, q1, q2, q3⟩ := h6.out h h2; exact ⟨g, q1, q2.below hb, q3⟩), fun h => by obtain ⟨g, A9, c9, q1, q2, q3, q4⟩ := h7.out h; exact ⟨g, A9, c9, q1, q2.below hb, own_below0 q3 hb, q4⟩⟩
    | 5, _ =>
      obtain ⟨ty, ps, af, ho⟩ := op_lit hops (i := 5) (op := Op.build 58 #[(0, (Operand.tmp 25)), (1, (Operand.tmp 28))]) (dst := some 29) (g := none) rfl
      obtain rfl := h1 (hdep 1 (by simp))
      obtain ⟨A9, c9, rfl, o9⟩ := h4 (hdep 4 (by simp))
      refine wpOp_lit ho (fun j b h => by cases h) ?_
      clear hops hdep ho
      replace h0 := hidH h0
      replace h1 := hidH h1
      replace h2 := hidH h2
      replace h3 := hidH h3
      replace h4 := hidH h4
      replace h6 := hidH h6
      replace h7 := hidH h7
      go_wp2
      exact (HJ.out _ _ _).2 ⟨_, _, _, _, _, _, _, rfl, hE, hO, h0.out, fun _ => rfl, h2.out, h3.out, fun _ => ⟨A9, c9, rfl, o9⟩, fun _ => ⟨A9, c9, rfl, o9⟩, h6.out, h7.out⟩
    | 6, _ =>
      obtain ⟨ty, ps, af, ho⟩ := op_lit hops (i := 6) (op := Op.alloc 58) (dst := some 9) (g := none) rfl
      refine wpOp_lit ho (fun j b h => by cases h) ?_
      clear hops hdep ho
      replace h0 := hidH h0
      replace h1 := hidH h1
      replace h2 := hidH h2
      replace h3 := hidH h3
      replace h4 := hidH h4
      replace h5 := hidH h5
      replace h7 := hidH h7
      have hb := bal (Below.refl W.heap.size W) (.cells #[.int .i64 0, .slice none 0 0] 58)
      have KG := hidH (Blk.new W 58 #[.int .i64 0, .slice none 0 0])
      have hG0 := hO.size
      go_wp2
      exact (HJ.out _ _ _).2 ⟨_, _, _, _, _, _, _, rfl, fun _ => rfl, btr hO hb, h0.out, h1.out, h2.out, h3.out, fun h => by obtain ⟨A9, c9, q1, q2⟩ := h4.out h; exact ⟨A9, c9, q1, own_below0 q2 hb⟩, fun h => by obtain ⟨A9, c9, q1, q2⟩ := h5.out h; exact ⟨A9, c9, q1, own_below0 q2 hb⟩, fun _ => fun _ => ⟨_, rfl, KG.out, hG0⟩, (fun h => by have h3 : dn 6 = true := hE h; rw [hdn] at h3; cases h3)⟩
    | 7, _ =>
      obtain ⟨ty, ps, af, ho⟩ := op_lit hops (i := 7) (op := Op.store 58 (Operand.tmp 9) (Operand.tmp 29)) (dst := none) (g := none) rfl
      have hd6 := hidH (hdep 6 (by simp))
      obtain ⟨g, rfl, kg, hgw⟩ := h6 (hdep 6 (by simp)) hdn
      obtain ⟨B9, d9, rfl, p9⟩ := h5 (hdep 5 (by simp))
      refine wpOp_lit ho (fun j b h => by cases h) ?_
      clear hops hdep ho
      replace h0 := hidH h0
      replace h1 := hidH h1
      replace h2 := hidH h2
      replace h3 := hidH h3
      replace h4 := hidH h4
      replace h5 := hidH h5
      replace h6 := hidH h6
      have y0 := kg.cell 0
      have y1 := kg.cell 1
      have v0 := kg.frozen 0
      have v1 := kg.frozen 1
      simp only [List.getElem?_toArray, List.getElem?_cons_succ, List.getElem?_cons_zero] at y0 y1
      have hlt := kg.lt
      have FAR := hidH (fun (A0 : Option Addr) (c0 : Nat) (h : W.ownsRow ww.heap.size 5 1 (.slice A0 l.length c0) l.length (l.map (Value.int .u8))) => own_farS (own_farS h kg (by decide) 0 (.int .i64 id)) (kg.put 0 _) (by decide) 1 (.slice B9 l.length d9))
      have KS := hidH (show Blk ((W.setCell ⟨g, 0, none⟩ (.int .i64 id)).setCell ⟨g, 1, none⟩ (.slice B9 l.length d9)) g 58 #[.int .i64 id, .slice B9 l.length d9] from (kg.put 0 _).put 1 _)
      clear kg
      go_wp2
      exact (HJ.out _ _ _).2 ⟨_, _, _, _, _, _, _, rfl, fun _ => hd6.out, (bst (bst hO hgw _) hgw _), h0.out, h1.out, h2.out, h3.out, fun h => by obtain ⟨A9, c9, q1, q2⟩ := h4.out h; exact ⟨A9, c9, q1, FAR.out _ _ q2⟩, fun _ => ⟨B9, d9, rfl, FAR.out _ _ p9⟩, (fun _ h2 => by simp at h2), fun _ => ⟨g, B9, d9, rfl, KS.out, FAR.out _ _ p9, hgw⟩⟩
    | n + 8, h => omega
  case fin =>
    clear hops hdeps hback
    rintro dn ac W hJ hall
    obtain ⟨t24, t25, t26, t27, t28, t29, t9, rfl, hE, hO, h0, h1, h2, h3, h4, h5, h6, h7⟩ := (HJ.out _ _ _).1 hJ
    exact fin _ _ _ _ _ _ _ W hO (h7 (hall 7 (by omega)))
end Go.Proofs.Ytjjileefdjjijaa
