/- The region of the model's l4Copies that draws its order. -/
import Derived.Test.YtncnibkojneejaaGreatDoorJa8
import Derived.Test.YtncnibkojneejaaGreatDoorJa4
import Derived.Test.YtncnibkojneejaaGreatDoorJa7
namespace Go.Proofs.YtncnibkojneejaaGreatDoor
open Go.RowKit Go.Deep

set_option maxRecDepth 100000 in
set_option maxHeartbeats 1000000 in
theorem regC4 {Q : Exit → Act → World → Prop} (x1 x2 x5 x6 x7 x8 x9 x10 x11 u_12 u_13 u_14 u_15 u_16 u_17 u_18 u_19 u_20 u_21 u_22 u_23 u_24 u_25 u_26 u_27 u_28 u_29 u_30 u_31 x32 bv : Value) (xs0 : List Value) (ww : World) (B n j ab ao an acp : Nat) (ki fi : Int) (A : Option Addr) (l : List Int) (c : Nat)
    (hab : ab < B) (hnn : Hid (n ≤ 90000)) (hj : (j : Int) < (an : Int)) (hj0 : (0 : Int) ≤ (j : Int)) (hl : Hid (l.length ≤ 4000000)) (HA : Hid (∀ u : World, Below B ww u → Bs u A l)) (r0 : ww.cell? ⟨ab, ao + j * 3, none⟩ = some (.int .i64 ki)) (r1 : ww.cell? ⟨ab, ao + j * 3 + 1, none⟩ = some (.int .i64 fi)) (r2 : ww.cell? ⟨ab, ao + j * 3 + 2, none⟩ = some (.slice A l.length c)) {ops : Array Oper}
    (hops : (ops.map fun o => (o.op, o.dst, o.guard)) = #[(Op.move (Operand.tmp 3), some 12, none), (Op.move (Operand.tmp 0), some 13, none), (Op.move (Operand.tmp 4), some 14, none), (Op.indexAddr 24 (Operand.tmp 13) (Operand.tmp 14), some 15, none), (Op.fieldAddr 37 (Operand.tmp 15) 0, some 16, none), (Op.load 2 (Operand.tmp 16), some 17, none), (Op.move (Operand.tmp 0), some 18, none), (Op.move (Operand.tmp 4), some 19, none), (Op.indexAddr 24 (Operand.tmp 18) (Operand.tmp 19), some 20, none), (Op.fieldAddr 37 (Operand.tmp 20) 1, some 21, none), (Op.load 2 (Operand.tmp 21), some 22, none), (Op.move (Operand.tmp 0), some 23, none), (Op.move (Operand.tmp 4), some 24, none), (Op.indexAddr 24 (Operand.tmp 23) (Operand.tmp 24), some 25, none), (Op.fieldAddr 37 (Operand.tmp 25) 2, some 26, none), (Op.load 22 (Operand.tmp 26), some 27, none), (Op.call { callee := Callee.value (Operand.func 64), args := #[(Operand.tmp 27)], argTypes := #[22] }, some 28, none), (Op.build 37 #[(0, (Operand.tmp 17)), (1, (Operand.tmp 22)), (2, (Operand.tmp 28))], some 29, none), (Op.buildSlice 24 1 #[(0, (Operand.tmp 29))], some 30, none), (Op.call { callee := Callee.builtin Builtin.append, args := #[(Operand.tmp 12), (Operand.tmp 30)], argTypes := #[24, 24] }, some 31, none), (Op.assign (Operand.tmp 31), some 3, none)])
    (hdeps : ((List.range 21).all fun i => ((fun i => [[], [], [], [1, 2], [3], [4], [], [], [6, 7], [8], [9], [], [], [11, 12], [13], [14], [15], [5, 10, 16], [17], [0, 18], [19]].getD i []) i).all fun j => ((ops[i]?).map fun o => o.after.any fun e => Region.binds .any e && e.on == j).getD false) = true)
    (hback : ((List.range 21).all fun i => ((ops[i]?).map fun o => o.after.all fun e => decide (e.on < i)).getD false) = true)
    {a0 : Act} {w0 : World} (ha : a0 = { tmps := #[.slice (some ⟨ab, ao, none⟩) an acp, x1, x2, bv, .int .i64 (j : Int), x5, x6, x7, x8, x9, x10, x11, u_12, u_13, u_14, u_15, u_16, u_17, u_18, u_19, u_20, u_21, u_22, u_23, u_24, u_25, u_26, u_27, u_28, u_29, u_30, u_31, x32], defers := [] }) (hE : false = true → false = true) (hE0 : false = true → false = true) (hE20 : false = true → false = true) (hO : Below B ww w0) (hU : B8 ww w0) (hBW : B ≤ w0.heap.size) (hW : ww.heap.size ≤ w0.heap.size) (hG : false = false → w0.ownsRow B 37 3 bv n xs0)
    (fin : ∀ t12 t13 t14 t15 t16 t17 t18 t19 t20 t21 t22 t23 t24 t25 t26 t27 t28 t29 t30 t31 t3 (W : World), (Below B ww W) → (B8 ww W) → (B ≤ W.heap.size) → (ww.heap.size ≤ W.heap.size) → (∃ (A9 : Option Addr) (c9 : Nat), W.ownsRow B 37 3 t3 (n + 1) (xs0 ++ [.int .i64 ki, .int .i64 fi, .slice A9 l.length c9]) ∧ W.ownsRow ww.heap.size 5 1 (.slice A9 l.length c9) l.length (l.map (Value.int .u8))) → Q .normal { tmps := #[.slice (some ⟨ab, ao, none⟩) an acp, x1, x2, t3, .int .i64 (j : Int), x5, x6, x7, x8, x9, x10, x11, t12, t13, t14, t15, t16, t17, t18, t19, t20, t21, t22, t23, t24, t25, t26, t27, t28, t29, t30, t31, x32], defers := [] } W) :
    wpAny Tryz.prog .any ops Q ops.size (Array.replicate ops.size false) a0 w0 := by
  have hn : ops.size = 21 := by have := congrArg Array.size hops; simpa using this
  obtain ⟨J, HJ⟩ : ∃ J : (Nat → Bool) → Act → World → Prop, ∀ dn ac W, J dn ac W ↔ (fun dn ac W => ∃ t12 t13 t14 t15 t16 t17 t18 t19 t20 t21 t22 t23 t24 t25 t26 t27 t28 t29 t30 t31 t3, ac = { tmps := #[.slice (some ⟨ab, ao, none⟩) an acp, x1, x2, t3, .int .i64 (j : Int), x5, x6, x7, x8, x9, x10, x11, t12, t13, t14, t15, t16, t17, t18, t19, t20, t21, t22, t23, t24, t25, t26, t27, t28, t29, t30, t31, x32], defers := [] } ∧ (dn 20 = true → dn 19 = true) ∧ (dn 20 = true → dn 0 = true) ∧ (dn 19 = true → dn 0 = true) ∧ (Below B ww W) ∧ (B8 ww W) ∧ (B ≤ W.heap.size) ∧ (ww.heap.size ≤ W.heap.size) ∧ (dn 19 = false → W.ownsRow B 37 3 bv n xs0) ∧ (dn 20 = false → t3 = bv) ∧ (dn 0 = true → t12 = bv) ∧ (dn 1 = true → t13 = .slice (some ⟨ab, ao, none⟩) an acp) ∧ (dn 2 = true → t14 = .int .i64 (j : Int)) ∧ (dn 3 = true → t15 = .pointer (some ⟨ab, ao + j * 3, none⟩)) ∧ (dn 4 = true → t16 = .pointer (some ⟨ab, ao + j * 3, none⟩)) ∧ (dn 5 = true → t17 = .int .i64 ki) ∧ (dn 6 = true → t18 = .slice (some ⟨ab, ao, none⟩) an acp) ∧ (dn 7 = true → t19 = .int .i64 (j : Int)) ∧ (dn 8 = true → t20 = .pointer (some ⟨ab, ao + j * 3, none⟩)) ∧ (dn 9 = true → t21 = .pointer (some ⟨ab, ao + j * 3 + 1, none⟩)) ∧ (dn 10 = true → t22 = .int .i64 fi) ∧ (dn 11 = true → t23 = .slice (some ⟨ab, ao, none⟩) an acp) ∧ (dn 12 = true → t24 = .int .i64 (j : Int)) ∧ (dn 13 = true → t25 = .pointer (some ⟨ab, ao + j * 3, none⟩)) ∧ (dn 14 = true → t26 = .pointer (some ⟨ab, ao + j * 3 + 2, none⟩)) ∧ (dn 15 = true → t27 = .slice A l.length c) ∧ (dn 16 = true → ∃ (A9 : Option Addr) (c9 : Nat), t28 = .slice A9 l.length c9 ∧ W.ownsRow ww.heap.size 5 1 (.slice A9 l.length c9) l.length (l.map (Value.int .u8))) ∧ (dn 17 = true → ∃ (A9 : Option Addr) (c9 : Nat), t29 = .agg #[.int .i64 ki, .int .i64 fi, .slice A9 l.length c9] ∧ W.ownsRow ww.heap.size 5 1 (.slice A9 l.length c9) l.length (l.map (Value.int .u8))) ∧ (dn 18 = true → dn 19 = false → ∃ (q : Nat) (A9 : Option Addr) (c9 : Nat), t30 = .slice (some ⟨q, 0, none⟩) 1 1 ∧ Blk W q 37 #[.int .i64 ki, .int .i64 fi, .slice A9 l.length c9] ∧ W.ownsRow ww.heap.size 5 1 (.slice A9 l.length c9) l.length (l.map (Value.int .u8))) ∧ (dn 19 = true → ∃ (A9 : Option Addr) (c9 : Nat), W.ownsRow B 37 3 t31 (n + 1) (xs0 ++ [.int .i64 ki, .int .i64 fi, .slice A9 l.length c9]) ∧ W.ownsRow ww.heap.size 5 1 (.slice A9 l.length c9) l.length (l.map (Value.int .u8))) ∧ (dn 20 = true → ∃ (A9 : Option Addr) (c9 : Nat), W.ownsRow B 37 3 t3 (n + 1) (xs0 ++ [.int .i64 ki, .int .i64 fi, .slice A9 l.length c9]) ∧ W.ownsRow ww.heap.size 5 1 (.slice A9 l.length c9) l.length (l.map (Value.int .u8)))) dn ac W := ⟨_, fun _ _ _ => Iff.rfl⟩
  replace HJ := hidH HJ
  refine region_inv 21 (fun i => [[], [], [], [1, 2], [3], [4], [], [], [6, 7], [8], [9], [], [], [11, 12], [13], [14], [15], [5, 10, 16], [17], [0, 18], [19]].getD i []) J hn hdeps hback ?start ?step ?fin
  case start => exact (HJ.out _ _ _).2 ⟨u_12, u_13, u_14, u_15, u_16, u_17, u_18, u_19, u_20, u_21, u_22, u_23, u_24, u_25, u_26, u_27, u_28, u_29, u_30, u_31, bv, ha, hE, hE0, hE20, hO, hU, hBW, hW, hG, fun _ => rfl, fun h => by simp at h, fun h => by simp at h, fun h => by simp at h, fun h => by simp at h, fun h => by simp at h, fun h => by simp at h, fun h => by simp at h, fun h => by simp at h, fun h => by simp at h, fun h => by simp at h, fun h => by simp at h, fun h => by simp at h, fun h => by simp at h, fun h => by simp at h, fun h => by simp at h, fun h => by simp at h, fun h => by simp at h, fun h => by simp at h, fun h => by simp at h, fun h => by simp at h, fun h => by simp at h⟩
  all_goals clear ha hE hE0 hE20 hO hU hBW hW hG
  case step =>
    clear fin hdeps hback
    intro i hi dn ac W hJ hdn hdep
    obtain ⟨t12, t13, t14, t15, t16, t17, t18, t19, t20, t21, t22, t23, t24, t25, t26, t27, t28, t29, t30, t31, t3, rfl, hE, hE0, hE20, hO, hU, hBW, hW, hG, o20, h0, h1, h2, h3, h4, h5, h6, h7, h8, h9, h10, h11, h12, h13, h14, h15, h16, h17, h18, h19, h20⟩ := (HJ.out _ _ _).1 hJ
    clear hJ
    match i, hi with
    | 0, _ =>
      obtain ⟨ty, ps, af, ho⟩ := op_lit hops (i := 0) (op := Op.move (Operand.tmp 3)) (dst := some 12) (g := none) rfl
      have z20 : dn 20 = false := by
              cases h : dn 20 with
              | false => rfl
              | true => have h3 : dn 0 = true := hE0 h; rw [hdn] at h3; cases h3
      obtain rfl := o20 z20
      refine wpOp_lit ho (fun j b h => by cases h) ?_
      clear hops hdep ho
      replace h1 := hidH h1
      replace h2 := hidH h2
      replace h3 := hidH h3
      replace h4 := hidH h4
      replace h5 := hidH h5
      replace h6 := hidH h6
      replace h7 := hidH h7
      replace h8 := hidH h8
      replace h9 := hidH h9
      replace h10 := hidH h10
      replace h11 := hidH h11
      replace h12 := hidH h12
      replace h13 := hidH h13
      replace h14 := hidH h14
      replace h15 := hidH h15
      replace h16 := hidH h16
      replace h17 := hidH h17
      replace h18 := hidH h18
      replace h19 := hidH h19
      replace h20 := hidH h20
      replace o20 := hidH o20
      have hb := Below.refl W.heap.size W
      go_wp2
      exact (HJ.out _ _ _).2 ⟨_, _, _, _, _, _, _, _, _, _, _, _, _, _, _, _, _, _, _, _, _, rfl, hE, fun _ => rfl, fun _ => rfl, hO.trans (hb.mono hBW), hU.trans (B8.of_below hb), Nat.le_trans hBW hb.size, Nat.le_trans hW hb.size, fun h => own_below0 (hG h) hb, (fun _ => rfl), fun _ => rfl, h1.out, h2.out, h3.out, h4.out, h5.out, h6.out, h7.out, h8.out, h9.out, h10.out, h11.out, h12.out, h13.out, h14.out, h15.out, fun h => by obtain ⟨A9, c9, q1, q2⟩ := h16.out h; exact ⟨A9, c9, q1, own_below0 q2 hb⟩, fun h => by obtain ⟨A9, c9, q1, q2⟩ := h17.out h; exact ⟨A9, c9, q1, own_below0 q2 hb⟩, (fun h h2 => by obtain ⟨q, A9, c9, q1, q2, q3⟩ := h18.out h h2; exact ⟨q, A9, c9, q1, q2.below hb, own_below0 q3 hb⟩), fun h => by obtain ⟨A9, c9, q1, q2⟩ := h19.out h; exact ⟨A9, c9, own_below0 q1 hb, own_below0 q2 hb⟩, fun h => by obtain ⟨A9, c9, q1, q2⟩ := h20.out h; exact ⟨A9, c9, own_below0 q1 hb, own_below0 q2 hb⟩⟩
    | 1, _ =>
      obtain ⟨ty, ps, af, ho⟩ := op_lit hops (i := 1) (op := Op.move (Operand.tmp 0)) (dst := some 13) (g := none) rfl
      refine wpOp_lit ho (fun j b h => by cases h) ?_
      clear hops hdep ho
      replace h0 := hidH h0
      replace h2 := hidH h2
      replace h3 := hidH h3
      replace h4 := hidH h4
      replace h5 := hidH h5
      replace h6 := hidH h6
      replace h7 := hidH h7
      replace h8 := hidH h8
      replace h9 := hidH h9
      replace h10 := hidH h10
      replace h11 := hidH h11
      replace h12 := hidH h12
      replace h13 := hidH h13
      replace h14 := hidH h14
      replace h15 := hidH h15
      replace h16 := hidH h16
      replace h17 := hidH h17
      replace h18 := hidH h18
      replace h19 := hidH h19
      replace h20 := hidH h20
      replace o20 := hidH o20
      go_wp2
      exact (HJ.out _ _ _).2 ⟨_, _, _, _, _, _, _, _, _, _, _, _, _, _, _, _, _, _, _, _, _, rfl, hE, hE0, hE20, hO, hU, hBW, hW, hG, o20.out, h0.out, fun _ => rfl, h2.out, h3.out, h4.out, h5.out, h6.out, h7.out, h8.out, h9.out, h10.out, h11.out, h12.out, h13.out, h14.out, h15.out, h16.out, h17.out, h18.out, h19.out, h20.out⟩
    | 2, _ =>
      obtain ⟨ty, ps, af, ho⟩ := op_lit hops (i := 2) (op := Op.move (Operand.tmp 4)) (dst := some 14) (g := none) rfl
      refine wpOp_lit ho (fun j b h => by cases h) ?_
      clear hops hdep ho
      replace h0 := hidH h0
      replace h1 := hidH h1
      replace h3 := hidH h3
      replace h4 := hidH h4
      replace h5 := hidH h5
      replace h6 := hidH h6
      replace h7 := hidH h7
      replace h8 := hidH h8
      replace h9 := hidH h9
      replace h10 := hidH h10
      replace h11 := hidH h11
      replace h12 := hidH h12
      replace h13 := hidH h13
      replace h14 := hidH h14
      replace h15 := hidH h15
      replace h16 := hidH h16
      replace h17 := hidH h17
      replace h18 := hidH h18
      replace h19 := hidH h19
      replace h20 := hidH h20
      replace o20 := hidH o20
      go_wp2
      exact (HJ.out _ _ _).2 ⟨_, _, _, _, _, _, _, _, _, _, _, _, _, _, _, _, _, _, _, _, _, rfl, hE, hE0, hE20, hO, hU, hBW, hW, hG, o20.out, h0.out, h1.out, fun _ => rfl, h3.out, h4.out, h5.out, h6.out, h7.out, h8.out, h9.out, h10.out, h11.out, h12.out, h13.out, h14.out, h15.out, h16.out, h17.out, h18.out, h19.out, h20.out⟩
    | 3, _ =>
      obtain ⟨ty, ps, af, ho⟩ := op_lit hops (i := 3) (op := Op.indexAddr 24 (Operand.tmp 13) (Operand.tmp 14)) (dst := some 15) (g := none) rfl
      obtain rfl := h1 (hdep 1 (by simp))
      obtain rfl := h2 (hdep 2 (by simp))
      refine wpOp_lit ho (fun j b h => by cases h) ?_
      clear hops hdep ho
      replace h0 := hidH h0
      replace h1 := hidH h1
      replace h2 := hidH h2
      replace h4 := hidH h4
      replace h5 := hidH h5
      replace h6 := hidH h6
      replace h7 := hidH h7
      replace h8 := hidH h8
      replace h9 := hidH h9
      replace h10 := hidH h10
      replace h11 := hidH h11
      replace h12 := hidH h12
      replace h13 := hidH h13
      replace h14 := hidH h14
      replace h15 := hidH h15
      replace h16 := hidH h16
      replace h17 := hidH h17
      replace h18 := hidH h18
      replace h19 := hidH h19
      replace h20 := hidH h20
      replace o20 := hidH o20
      go_wp2
      exact (HJ.out _ _ _).2 ⟨_, _, _, _, _, _, _, _, _, _, _, _, _, _, _, _, _, _, _, _, _, rfl, hE, hE0, hE20, hO, hU, hBW, hW, hG, o20.out, h0.out, fun _ => rfl, fun _ => rfl, fun _ => rfl, h4.out, h5.out, h6.out, h7.out, h8.out, h9.out, h10.out, h11.out, h12.out, h13.out, h14.out, h15.out, h16.out, h17.out, h18.out, h19.out, h20.out⟩
    | 4, _ =>
      obtain ⟨ty, ps, af, ho⟩ := op_lit hops (i := 4) (op := Op.fieldAddr 37 (Operand.tmp 15) 0) (dst := some 16) (g := none) rfl
      obtain rfl := h3 (hdep 3 (by simp))
      refine wpOp_lit ho (fun j b h => by cases h) ?_
      clear hops hdep ho
      replace h0 := hidH h0
      replace h1 := hidH h1
      replace h2 := hidH h2
      replace h3 := hidH h3
      replace h5 := hidH h5
      replace h6 := hidH h6
      replace h7 := hidH h7
      replace h8 := hidH h8
      replace h9 := hidH h9
      replace h10 := hidH h10
      replace h11 := hidH h11
      replace h12 := hidH h12
      replace h13 := hidH h13
      replace h14 := hidH h14
      replace h15 := hidH h15
      replace h16 := hidH h16
      replace h17 := hidH h17
      replace h18 := hidH h18
      replace h19 := hidH h19
      replace h20 := hidH h20
      replace o20 := hidH o20
      go_wp2
      exact (HJ.out _ _ _).2 ⟨_, _, _, _, _, _, _, _, _, _, _, _, _, _, _, _, _, _, _, _, _, rfl, hE, hE0, hE20, hO, hU, hBW, hW, hG, o20.out, h0.out, h1.out, h2.out, fun _ => rfl, fun _ => rfl, h5.out, h6.out, h7.out, h8.out, h9.out, h10.out, h11.out, h12.out, h13.out, h14.out, h15.out, h16.out, h17.out, h18.out, h19.out, h20.out⟩
    | 5, _ =>
      obtain ⟨ty, ps, af, ho⟩ := op_lit hops (i := 5) (op := Op.load 2 (Operand.tmp 16)) (dst := some 17) (g := none) rfl
      obtain rfl := h4 (hdep 4 (by simp))
      refine wpOp_lit ho (fun j b h => by cases h) ?_
      clear hops hdep ho
      replace h0 := hidH h0
      replace h1 := hidH h1
      replace h2 := hidH h2
      replace h3 := hidH h3
      replace h4 := hidH h4
      replace h6 := hidH h6
      replace h7 := hidH h7
      replace h8 := hidH h8
      replace h9 := hidH h9
      replace h10 := hidH h10
      replace h11 := hidH h11
      replace h12 := hidH h12
      replace h13 := hidH h13
      replace h14 := hidH h14
      replace h15 := hidH h15
      replace h16 := hidH h16
      replace h17 := hidH h17
      replace h18 := hidH h18
      replace h19 := hidH h19
      replace h20 := hidH h20
      replace o20 := hidH o20
      have hb := Below.refl W.heap.size W
      have q := (hO.cell (p := ⟨ab, ao + j * 3, none⟩) hab).trans r0
      go_wp2
      exact (HJ.out _ _ _).2 ⟨_, _, _, _, _, _, _, _, _, _, _, _, _, _, _, _, _, _, _, _, _, rfl, hE, hE0, hE20, hO.trans (hb.mono hBW), hU.trans (B8.of_below hb), Nat.le_trans hBW hb.size, Nat.le_trans hW hb.size, fun h => own_below0 (hG h) hb, o20.out, h0.out, h1.out, h2.out, h3.out, fun _ => rfl, fun _ => rfl, h6.out, h7.out, h8.out, h9.out, h10.out, h11.out, h12.out, h13.out, h14.out, h15.out, fun h => by obtain ⟨A9, c9, q1, q2⟩ := h16.out h; exact ⟨A9, c9, q1, own_below0 q2 hb⟩, fun h => by obtain ⟨A9, c9, q1, q2⟩ := h17.out h; exact ⟨A9, c9, q1, own_below0 q2 hb⟩, (fun h h2 => by obtain ⟨q, A9, c9, q1, q2, q3⟩ := h18.out h h2; exact ⟨q, A9, c9, q1, q2.below hb, own_below0 q3 hb⟩), fun h => by obtain ⟨A9, c9, q1, q2⟩ := h19.out h; exact ⟨A9, c9, own_below0 q1 hb, own_below0 q2 hb⟩, fun h => by obtain ⟨A9, c9, q1, q2⟩ := h20.out h; exact ⟨A9, c9, own_below0 q1 hb, own_below0 q2 hb⟩⟩
    | 6, _ =>
      obtain ⟨ty, ps, af, ho⟩ := op_lit hops (i := 6) (op := Op.move (Operand.tmp 0)) (dst := some 18) (g := none) rfl
      refine wpOp_lit ho (fun j b h => by cases h) ?_
      clear hops hdep ho
      replace h0 := hidH h0
      replace h1 := hidH h1
      replace h2 := hidH h2
      replace h3 := hidH h3
      replace h4 := hidH h4
      replace h5 := hidH h5
      replace h7 := hidH h7
      replace h8 := hidH h8
      replace h9 := hidH h9
      replace h10 := hidH h10
      replace h11 := hidH h11
      replace h12 := hidH h12
      replace h13 := hidH h13
      replace h14 := hidH h14
      replace h15 := hidH h15
      replace h16 := hidH h16
      replace h17 := hidH h17
      replace h18 := hidH h18
      replace h19 := hidH h19
      replace h20 := hidH h20
      replace o20 := hidH o20
      go_wp2
      exact (HJ.out _ _ _).2 ⟨_, _, _, _, _, _, _, _, _, _, _, _, _, _, _, _, _, _, _, _, _, rfl, hE, hE0, hE20, hO, hU, hBW, hW, hG, o20.out, h0.out, h1.out, h2.out, h3.out, h4.out, h5.out, fun _ => rfl, h7.out, h8.out, h9.out, h10.out, h11.out, h12.out, h13.out, h14.out, h15.out, h16.out, h17.out, h18.out, h19.out, h20.out⟩
    | 7, _ =>
      obtain ⟨ty, ps, af, ho⟩ := op_lit hops (i := 7) (op := Op.move (Operand.tmp 4)) (dst := some 19) (g := none) rfl
      refine wpOp_lit ho (fun j b h => by cases h) ?_
      clear hops hdep ho
      replace h0 := hidH h0
      replace h1 := hidH h1
      replace h2 := hidH h2
      replace h3 := hidH h3
      replace h4 := hidH h4
      replace h5 := hidH h5
      replace h6 := hidH h6
      replace h8 := hidH h8
      replace h9 := hidH h9
      replace h10 := hidH h10
      replace h11 := hidH h11
      replace h12 := hidH h12
      replace h13 := hidH h13
      replace h14 := hidH h14
      replace h15 := hidH h15
      replace h16 := hidH h16
      replace h17 := hidH h17
      replace h18 := hidH h18
      replace h19 := hidH h19
      replace h20 := hidH h20
      replace o20 := hidH o20
      go_wp2
      exact (HJ.out _ _ _).2 ⟨_, _, _, _, _, _, _, _, _, _, _, _, _, _, _, _, _, _, _, _, _, rfl, hE, hE0, hE20, hO, hU, hBW, hW, hG, o20.out, h0.out, h1.out, h2.out, h3.out, h4.out, h5.out, h6.out, fun _ => rfl, h8.out, h9.out, h10.out, h11.out, h12.out, h13.out, h14.out, h15.out, h16.out, h17.out, h18.out, h19.out, h20.out⟩
    | 8, _ =>
      obtain ⟨ty, ps, af, ho⟩ := op_lit hops (i := 8) (op := Op.indexAddr 24 (Operand.tmp 18) (Operand.tmp 19)) (dst := some 20) (g := none) rfl
      obtain rfl := h6 (hdep 6 (by simp))
      obtain rfl := h7 (hdep 7 (by simp))
      refine wpOp_lit ho (fun j b h => by cases h) ?_
      clear hops hdep ho
      replace h0 := hidH h0
      replace h1 := hidH h1
      replace h2 := hidH h2
      replace h3 := hidH h3
      replace h4 := hidH h4
      replace h5 := hidH h5
      replace h6 := hidH h6
      replace h7 := hidH h7
      replace h9 := hidH h9
      replace h10 := hidH h10
      replace h11 := hidH h11
      replace h12 := hidH h12
      replace h13 := hidH h13
      replace h14 := hidH h14
      replace h15 := hidH h15
      replace h16 := hidH h16
      replace h17 := hidH h17
      replace h18 := hidH h18
      replace h19 := hidH h19
      replace h20 := hidH h20
      replace o20 := hidH o20
      go_wp2
      exact (HJ.out _ _ _).2 ⟨_, _, _, _, _, _, _, _, _, _, _, _, _, _, _, _, _, _, _, _, _, rfl, hE, hE0, hE20, hO, hU, hBW, hW, hG, o20.out, h0.out, h1.out, h2.out, h3.out, h4.out, h5.out, fun _ => rfl, fun _ => rfl, fun _ => rfl, h9.out, h10.out, h11.out, h12.out, h13.out, h14.out, h15.out, h16.out, h17.out, h18.out, h19.out, h20.out⟩
    | 9, _ =>
      obtain ⟨ty, ps, af, ho⟩ := op_lit hops (i := 9) (op := Op.fieldAddr 37 (Operand.tmp 20) 1) (dst := some 21) (g := none) rfl
      obtain rfl := h8 (hdep 8 (by simp))
      refine wpOp_lit ho (fun j b h => by cases h) ?_
      clear hops hdep ho
      replace h0 := hidH h0
      replace h1 := hidH h1
      replace h2 := hidH h2
      replace h3 := hidH h3
      replace h4 := hidH h4
      replace h5 := hidH h5
      replace h6 := hidH h6
      replace h7 := hidH h7
      replace h8 := hidH h8
      replace h10 := hidH h10
      replace h11 := hidH h11
      replace h12 := hidH h12
      replace h13 := hidH h13
      replace h14 := hidH h14
      replace h15 := hidH h15
      replace h16 := hidH h16
      replace h17 := hidH h17
      replace h18 := hidH h18
      replace h19 := hidH h19
      replace h20 := hidH h20
      replace o20 := hidH o20
      go_wp2
      exact (HJ.out _ _ _).2 ⟨_, _, _, _, _, _, _, _, _, _, _, _, _, _, _, _, _, _, _, _, _, rfl, hE, hE0, hE20, hO, hU, hBW, hW, hG, o20.out, h0.out, h1.out, h2.out, h3.out, h4.out, h5.out, h6.out, h7.out, fun _ => rfl, fun _ => rfl, h10.out, h11.out, h12.out, h13.out, h14.out, h15.out, h16.out, h17.out, h18.out, h19.out, h20.out⟩
    | 10, _ =>
      obtain ⟨ty, ps, af, ho⟩ := op_lit hops (i := 10) (op := Op.load 2 (Operand.tmp 21)) (dst := some 22) (g := none) rfl
      obtain rfl := h9 (hdep 9 (by simp))
      refine wpOp_lit ho (fun j b h => by cases h) ?_
      clear hops hdep ho
      replace h0 := hidH h0
      replace h1 := hidH h1
      replace h2 := hidH h2
      replace h3 := hidH h3
      replace h4 := hidH h4
      replace h5 := hidH h5
      replace h6 := hidH h6
      replace h7 := hidH h7
      replace h8 := hidH h8
      replace h9 := hidH h9
      replace h11 := hidH h11
      replace h12 := hidH h12
      replace h13 := hidH h13
      replace h14 := hidH h14
      replace h15 := hidH h15
      replace h16 := hidH h16
      replace h17 := hidH h17
      replace h18 := hidH h18
      replace h19 := hidH h19
      replace h20 := hidH h20
      replace o20 := hidH o20
      have hb := Below.refl W.heap.size W
      have q := (hO.cell (p := ⟨ab, ao + j * 3 + 1, none⟩) hab).trans r1
      go_wp2
      exact (HJ.out _ _ _).2 ⟨_, _, _, _, _, _, _, _, _, _, _, _, _, _, _, _, _, _, _, _, _, rfl, hE, hE0, hE20, hO.trans (hb.mono hBW), hU.trans (B8.of_below hb), Nat.le_trans hBW hb.size, Nat.le_trans hW hb.size, fun h => own_below0 (hG h) hb, o20.out, h0.out, h1.out, h2.out, h3.out, h4.out, h5.out, h6.out, h7.out, h8.out, fun _ => rfl, fun _ => rfl, h11.out, h12.out, h13.out, h14.out, h15.out, fun h => by obtain ⟨A9, c9, q1, q2⟩ := h16.out h; exact ⟨A9, c9, q1, own_below0 q2 hb⟩, fun h => by obtain ⟨A9, c9, q1, q2⟩ := h17.out h; exact ⟨A9, c9, q1, own_below0 q2 hb⟩, (fun h h2 => by obtain ⟨q, A9, c9, q1, q2, q3⟩ := h18.out h h2; exact ⟨q, A9, c9, q1, q2.below hb, own_below0 q3 hb⟩), fun h => by obtain ⟨A9, c9, q1, q2⟩ := h19.out h; exact ⟨A9, c9, own_below0 q1 hb, own_below0 q2 hb⟩, fun h => by obtain ⟨A9, c9, q1, q2⟩ := h20.out h; exact ⟨A9, c9, own_below0 q1 hb, own_below0 q2 hb⟩⟩
    | 11, _ =>
      obtain ⟨ty, ps, af, ho⟩ := op_lit hops (i := 11) (op := Op.move (Operand.tmp 0)) (dst := some 23) (g := none) rfl
      refine wpOp_lit ho (fun j b h => by cases h) ?_
      clear hops hdep ho
      replace h0 := hidH h0
      replace h1 := hidH h1
      replace h2 := hidH h2
      replace h3 := hidH h3
      replace h4 := hidH h4
      replace h5 := hidH h5
      replace h6 := hidH h6
      replace h7 := hidH h7
      replace h8 := hidH h8
      replace h9 := hidH h9
      replace h10 := hidH h10
      replace h12 := hidH h12
      replace h13 := hidH h13
      replace h14 := hidH h14
      replace h15 := hidH h15
      replace h16 := hidH h16
      replace h17 := hidH h17
      replace h18 := hidH h18
      replace h19 := hidH h19
      replace h20 := hidH h20
      replace o20 := hidH o20
      go_wp2
      exact (HJ.out _ _ _).2 ⟨_, _, _, _, _, _, _, _, _, _, _, _, _, _, _, _, _, _, _, _, _, rfl, hE, hE0, hE20, hO, hU, hBW, hW, hG, o20.out, h0.out, h1.out, h2.out, h3.out, h4.out, h5.out, h6.out, h7.out, h8.out, h9.out, h10.out, fun _ => rfl, h12.out, h13.out, h14.out, h15.out, h16.out, h17.out, h18.out, h19.out, h20.out⟩
    | 12, _ =>
      obtain ⟨ty, ps, af, ho⟩ := op_lit hops (i := 12) (op := Op.move (Operand.tmp 4)) (dst := some 24) (g := none) rfl
      refine wpOp_lit ho (fun j b h => by cases h) ?_
      clear hops hdep ho
      replace h0 := hidH h0
      replace h1 := hidH h1
      replace h2 := hidH h2
      replace h3 := hidH h3
      replace h4 := hidH h4
      replace h5 := hidH h5
      replace h6 := hidH h6
      replace h7 := hidH h7
      replace h8 := hidH h8
      replace h9 := hidH h9
      replace h10 := hidH h10
      replace h11 := hidH h11
      replace h13 := hidH h13
      replace h14 := hidH h14
      replace h15 := hidH h15
      replace h16 := hidH h16
      replace h17 := hidH h17
      replace h18 := hidH h18
      replace h19 := hidH h19
      replace h20 := hidH h20
      replace o20 := hidH o20
      go_wp2
      exact (HJ.out _ _ _).2 ⟨_, _, _, _, _, _, _, _, _, _, _, _, _, _, _, _, _, _, _, _, _, rfl, hE, hE0, hE20, hO, hU, hBW, hW, hG, o20.out, h0.out, h1.out, h2.out, h3.out, h4.out, h5.out, h6.out, h7.out, h8.out, h9.out, h10.out, h11.out, fun _ => rfl, h13.out, h14.out, h15.out, h16.out, h17.out, h18.out, h19.out, h20.out⟩
    | 13, _ =>
      obtain ⟨ty, ps, af, ho⟩ := op_lit hops (i := 13) (op := Op.indexAddr 24 (Operand.tmp 23) (Operand.tmp 24)) (dst := some 25) (g := none) rfl
      obtain rfl := h11 (hdep 11 (by simp))
      obtain rfl := h12 (hdep 12 (by simp))
      refine wpOp_lit ho (fun j b h => by cases h) ?_
      clear hops hdep ho
      replace h0 := hidH h0
      replace h1 := hidH h1
      replace h2 := hidH h2
      replace h3 := hidH h3
      replace h4 := hidH h4
      replace h5 := hidH h5
      replace h6 := hidH h6
      replace h7 := hidH h7
      replace h8 := hidH h8
      replace h9 := hidH h9
      replace h10 := hidH h10
      replace h11 := hidH h11
      replace h12 := hidH h12
      replace h14 := hidH h14
      replace h15 := hidH h15
      replace h16 := hidH h16
      replace h17 := hidH h17
      replace h18 := hidH h18
      replace h19 := hidH h19
      replace h20 := hidH h20
      replace o20 := hidH o20
      go_wp2
      exact (HJ.out _ _ _).2 ⟨_, _, _, _, _, _, _, _, _, _, _, _, _, _, _, _, _, _, _, _, _, rfl, hE, hE0, hE20, hO, hU, hBW, hW, hG, o20.out, h0.out, h1.out, h2.out, h3.out, h4.out, h5.out, h6.out, h7.out, h8.out, h9.out, h10.out, fun _ => rfl, fun _ => rfl, fun _ => rfl, h14.out, h15.out, h16.out, h17.out, h18.out, h19.out, h20.out⟩
    | 14, _ =>
      obtain ⟨ty, ps, af, ho⟩ := op_lit hops (i := 14) (op := Op.fieldAddr 37 (Operand.tmp 25) 2) (dst := some 26) (g := none) rfl
      obtain rfl := h13 (hdep 13 (by simp))
      refine wpOp_lit ho (fun j b h => by cases h) ?_
      clear hops hdep ho
      replace h0 := hidH h0
      replace h1 := hidH h1
      replace h2 := hidH h2
      replace h3 := hidH h3
      replace h4 := hidH h4
      replace h5 := hidH h5
      replace h6 := hidH h6
      replace h7 := hidH h7
      replace h8 := hidH h8
      replace h9 := hidH h9
      replace h10 := hidH h10
      replace h11 := hidH h11
      replace h12 := hidH h12
      replace h13 := hidH h13
      replace h15 := hidH h15
      replace h16 := hidH h16
      replace h17 := hidH h17
      replace h18 := hidH h18
      replace h19 := hidH h19
      replace h20 := hidH h20
      replace o20 := hidH o20
      go_wp2
      exact (HJ.out _ _ _).2 ⟨_, _, _, _, _, _, _, _, _, _, _, _, _, _, _, _, _, _, _, _, _, rfl, hE, hE0, hE20, hO, hU, hBW, hW, hG, o20.out, h0.out, h1.out, h2.out, h3.out, h4.out, h5.out, h6.out, h7.out, h8.out, h9.out, h10.out, h11.out, h12.out, fun _ => rfl, fun _ => rfl, h15.out, h16.out, h17.out, h18.out, h19.out, h20.out⟩
    | 15, _ =>
      obtain ⟨ty, ps, af, ho⟩ := op_lit hops (i := 15) (op := Op.load 22 (Operand.tmp 26)) (dst := some 27) (g := none) rfl
      obtain rfl := h14 (hdep 14 (by simp))
      refine wpOp_lit ho (fun j b h => by cases h) ?_
      clear hops hdep ho
      replace h0 := hidH h0
      replace h1 := hidH h1
      replace h2 := hidH h2
      replace h3 := hidH h3
      replace h4 := hidH h4
      replace h5 := hidH h5
      replace h6 := hidH h6
      replace h7 := hidH h7
      replace h8 := hidH h8
      replace h9 := hidH h9
      replace h10 := hidH h10
      replace h11 := hidH h11
      replace h12 := hidH h12
      replace h13 := hidH h13
      replace h14 := hidH h14
      replace h16 := hidH h16
      replace h17 := hidH h17
      replace h18 := hidH h18
      replace h19 := hidH h19
      replace h20 := hidH h20
      replace o20 := hidH o20
      have hb := Below.refl W.heap.size W
      have q := (hO.cell (p := ⟨ab, ao + j * 3 + 2, none⟩) hab).trans r2
      go_wp2
      exact (HJ.out _ _ _).2 ⟨_, _, _, _, _, _, _, _, _, _, _, _, _, _, _, _, _, _, _, _, _, rfl, hE, hE0, hE20, hO.trans (hb.mono hBW), hU.trans (B8.of_below hb), Nat.le_trans hBW hb.size, Nat.le_trans hW hb.size, fun h => own_below0 (hG h) hb, o20.out, h0.out, h1.out, h2.out, h3.out, h4.out, h5.out, h6.out, h7.out, h8.out, h9.out, h10.out, h11.out, h12.out, h13.out, fun _ => rfl, fun _ => rfl, fun h => by obtain ⟨A9, c9, q1, q2⟩ := h16.out h; exact ⟨A9, c9, q1, own_below0 q2 hb⟩, fun h => by obtain ⟨A9, c9, q1, q2⟩ := h17.out h; exact ⟨A9, c9, q1, own_below0 q2 hb⟩, (fun h h2 => by obtain ⟨q, A9, c9, q1, q2, q3⟩ := h18.out h h2; exact ⟨q, A9, c9, q1, q2.below hb, own_below0 q3 hb⟩), fun h => by obtain ⟨A9, c9, q1, q2⟩ := h19.out h; exact ⟨A9, c9, own_below0 q1 hb, own_below0 q2 hb⟩, fun h => by obtain ⟨A9, c9, q1, q2⟩ := h20.out h; exact ⟨A9, c9, own_below0 q1 hb, own_below0 q2 hb⟩⟩
    | 16, _ =>
      obtain ⟨ty, ps, af, ho⟩ := op_lit hops (i := 16) (op := Op.call { callee := Callee.value (Operand.func 64), args := #[(Operand.tmp 27)], argTypes := #[22] }) (dst := some 28) (g := none) rfl
      obtain rfl := h15 (hdep 15 (by simp))
      refine wpOp_lit ho (fun j b h => by cases h) ?_
      clear hops hdep ho
      replace h0 := hidH h0
      replace h1 := hidH h1
      replace h2 := hidH h2
      replace h3 := hidH h3
      replace h4 := hidH h4
      replace h5 := hidH h5
      replace h6 := hidH h6
      replace h7 := hidH h7
      replace h8 := hidH h8
      replace h9 := hidH h9
      replace h10 := hidH h10
      replace h11 := hidH h11
      replace h12 := hidH h12
      replace h13 := hidH h13
      replace h14 := hidH h14
      replace h15 := hidH h15
      replace h17 := hidH h17
      replace h18 := hidH h18
      replace h19 := hidH h19
      replace h20 := hidH h20
      replace o20 := hidH o20
      have hS0 := hW
      have HC := hidH (copy_any A l c W (HA.out W hO) hl.out)
      go_wp2_with fail
      refine HC.out.mono ?_
      rintro e w9 ⟨v9, rfl, o9, hb⟩
      obtain ⟨A9, c9, rfl⟩ := own_lenT o9
      have O9 := hidH (own_monoT o9 hS0)
      clear o9
      go_wp2
      exact (HJ.out _ _ _).2 ⟨_, _, _, _, _, _, _, _, _, _, _, _, _, _, _, _, _, _, _, _, _, rfl, hE, hE0, hE20, hO.trans (hb.mono hBW), hU.trans (B8.of_below hb), Nat.le_trans hBW hb.size, Nat.le_trans hW hb.size, fun h => own_below0 (hG h) hb, o20.out, h0.out, h1.out, h2.out, h3.out, h4.out, h5.out, h6.out, h7.out, h8.out, h9.out, h10.out, h11.out, h12.out, h13.out, h14.out, fun _ => rfl, fun _ => ⟨A9, c9, rfl, O9.out⟩, fun h => by obtain ⟨A9, c9, q1, q2⟩ := h17.out h; exact ⟨A9, c9, q1, own_below0 q2 hb⟩, (fun h h2 => by obtain ⟨q, A9, c9, q1, q2, q3⟩ := h18.out h h2; exact ⟨q, A9, c9, q1, q2.below hb, own_below0 q3 hb⟩), fun h => by obtain ⟨A9, c9, q1, q2⟩ := h19.out h; exact ⟨A9, c9, own_below0 q1 hb, own_below0 q2 hb⟩, fun h => by obtain ⟨A9, c9, q1, q2⟩ := h20.out h; exact ⟨A9, c9, own_below0 q1 hb, own_below0 q2 hb⟩⟩
    | 17, _ =>
      obtain ⟨ty, ps, af, ho⟩ := op_lit hops (i := 17) (op := Op.build 37 #[(0, (Operand.tmp 17)), (1, (Operand.tmp 22)), (2, (Operand.tmp 28))]) (dst := some 29) (g := none) rfl
      obtain rfl := h5 (hdep 5 (by simp))
      obtain rfl := h10 (hdep 10 (by simp))
      obtain ⟨A9, c9, rfl, o9⟩ := h16 (hdep 16 (by simp))
      refine wpOp_lit ho (fun j b h => by cases h) ?_
      clear hops hdep ho
      replace h0 := hidH h0
      replace h1 := hidH h1
      replace h2 := hidH h2
      replace h3 := hidH h3
      replace h4 := hidH h4
      replace h5 := hidH h5
      replace h6 := hidH h6
      replace h7 := hidH h7
      replace h8 := hidH h8
      replace h9 := hidH h9
      replace h10 := hidH h10
      replace h11 := hidH h11
      replace h12 := hidH h12
      replace h13 := hidH h13
      replace h14 := hidH h14
      replace h15 := hidH h15
      replace h16 := hidH h16
      replace h18 := hidH h18
      replace h19 := hidH h19
      replace h20 := hidH h20
      replace o20 := hidH o20
      go_wp2
      exact (HJ.out _ _ _).2 ⟨_, _, _, _, _, _, _, _, _, _, _, _, _, _, _, _, _, _, _, _, _, rfl, hE, hE0, hE20, hO, hU, hBW, hW, hG, o20.out, h0.out, h1.out, h2.out, h3.out, h4.out, fun _ => rfl, h6.out, h7.out, h8.out, h9.out, fun _ => rfl, h11.out, h12.out, h13.out, h14.out, h15.out, fun _ => ⟨A9, c9, rfl, o9⟩, fun _ => ⟨A9, c9, rfl, o9⟩, h18.out, h19.out, h20.out⟩
    | 18, _ =>
      obtain ⟨ty, ps, af, ho⟩ := op_lit hops (i := 18) (op := Op.buildSlice 24 1 #[(0, (Operand.tmp 29))]) (dst := some 30) (g := none) rfl
      obtain ⟨B9, d9, rfl, p9⟩ := h17 (hdep 17 (by simp))
      refine wpOp_lit ho (fun j b h => by cases h) ?_
      clear hops hdep ho
      replace h0 := hidH h0
      replace h1 := hidH h1
      replace h2 := hidH h2
      replace h3 := hidH h3
      replace h4 := hidH h4
      replace h5 := hidH h5
      replace h6 := hidH h6
      replace h7 := hidH h7
      replace h8 := hidH h8
      replace h9 := hidH h9
      replace h10 := hidH h10
      replace h11 := hidH h11
      replace h12 := hidH h12
      replace h13 := hidH h13
      replace h14 := hidH h14
      replace h15 := hidH h15
      replace h16 := hidH h16
      replace h17 := hidH h17
      replace h19 := hidH h19
      replace h20 := hidH h20
      replace o20 := hidH o20
      have hb := bal (Below.refl W.heap.size W) (.cells #[.int .i64 ki, .int .i64 fi, .slice B9 l.length d9] 37)
      have KQ := hidH (Blk.new W 37 #[.int .i64 ki, .int .i64 fi, .slice B9 l.length d9])
      go_wp2
      exact (HJ.out _ _ _).2 ⟨_, _, _, _, _, _, _, _, _, _, _, _, _, _, _, _, _, _, _, _, _, rfl, hE, hE0, hE20, hO.trans (hb.mono hBW), hU.trans (B8.of_below hb), Nat.le_trans hBW hb.size, Nat.le_trans hW hb.size, fun h => own_below0 (hG h) hb, o20.out, h0.out, h1.out, h2.out, h3.out, h4.out, h5.out, h6.out, h7.out, h8.out, h9.out, h10.out, h11.out, h12.out, h13.out, h14.out, h15.out, fun h => by obtain ⟨A9, c9, q1, q2⟩ := h16.out h; exact ⟨A9, c9, q1, own_below0 q2 hb⟩, fun _ => ⟨B9, d9, rfl, own_below0 p9 hb⟩, fun _ => fun _ => ⟨_, B9, d9, rfl, KQ.out, own_below0 p9 hb⟩, fun h => by obtain ⟨A9, c9, q1, q2⟩ := h19.out h; exact ⟨A9, c9, own_below0 q1 hb, own_below0 q2 hb⟩, fun h => by obtain ⟨A9, c9, q1, q2⟩ := h20.out h; exact ⟨A9, c9, own_below0 q1 hb, own_below0 q2 hb⟩⟩
    | 19, _ =>
      obtain ⟨ty, ps, af, ho⟩ := op_lit hops (i := 19) (op := Op.call { callee := Callee.builtin Builtin.append, args := #[(Operand.tmp 12), (Operand.tmp 30)], argTypes := #[24, 24] }) (dst := some 31) (g := none) rfl
      have ow := hidH (hG hdn)
      have hd0 := hidH (hdep 0 (by simp))
      obtain ⟨q, A9, c9, rfl, kq, o9⟩ := h18 (hdep 18 (by simp)) hdn
      obtain rfl := h0 (hdep 0 (by simp))
      refine wpOp_lit ho (fun j b h => by cases h) ?_
      clear hops hdep ho
      replace h0 := hidH h0
      replace h1 := hidH h1
      replace h2 := hidH h2
      replace h3 := hidH h3
      replace h4 := hidH h4
      replace h5 := hidH h5
      replace h6 := hidH h6
      replace h7 := hidH h7
      replace h8 := hidH h8
      replace h9 := hidH h9
      replace h10 := hidH h10
      replace h11 := hidH h11
      replace h12 := hidH h12
      replace h13 := hidH h13
      replace h14 := hidH h14
      replace h15 := hidH h15
      replace h16 := hidH h16
      replace h17 := hidH h17
      replace h18 := hidH h18
      replace h20 := hidH h20
      replace o20 := hidH o20
      have hsz := hBW
      go_wp2_with (at_builtin; go_loud (refine wpList_append_Ck rfl _ _ rfl B _ n xs0 rfl ow.out q _ ki fi A9 l.length c9 rfl kq hnn.out hsz ?_))
      intro v2 w2 o2 hg
      have BB := hidH ((Below.refl B W).grown hg hsz (fun x hx => (ow.out.lt x hx).1))
      have U14 := hidH (B8.of_grown hg ow.out (by decide))
      have hgr := hidH hg
      have OO := hidH (own_otherT o9 hg ow.out (by decide))
      have O8 := hidH o2
      clear o2 hg
      go_wp2
      exact (HJ.out _ _ _).2 ⟨_, _, _, _, _, _, _, _, _, _, _, _, _, _, _, _, _, _, _, _, _, rfl, fun _ => rfl, hE0, fun _ => hd0.out, hO.trans BB.out, hU.trans U14.out, Nat.le_trans hBW BB.out.size, Nat.le_trans hW BB.out.size, (fun h2 => by simp at h2), o20.out, fun _ => rfl, h1.out, h2.out, h3.out, h4.out, h5.out, h6.out, h7.out, h8.out, h9.out, h10.out, h11.out, h12.out, h13.out, h14.out, h15.out, fun h => by obtain ⟨A9, c9, q1, q2⟩ := h16.out h; exact ⟨A9, c9, q1, own_otherT q2 hgr.out ow.out (by decide)⟩, fun h => by obtain ⟨A9, c9, q1, q2⟩ := h17.out h; exact ⟨A9, c9, q1, own_otherT q2 hgr.out ow.out (by decide)⟩, (fun _ h2 => by simp at h2), fun _ => ⟨A9, c9, O8.out, OO.out⟩, (fun h => by have h3 : dn 19 = true := hE h; rw [hdn] at h3; cases h3)⟩
    | 20, _ =>
      obtain ⟨ty, ps, af, ho⟩ := op_lit hops (i := 20) (op := Op.assign (Operand.tmp 31)) (dst := some 3) (g := none) rfl
      have hd19 := hidH (hdep 19 (by simp))
      obtain ⟨C9, e9, r9, s9⟩ := h19 (hdep 19 (by simp))
      obtain rfl := o20 hdn
      refine wpOp_lit ho (fun j b h => by cases h) ?_
      clear hops hdep ho
      replace h0 := hidH h0
      replace h1 := hidH h1
      replace h2 := hidH h2
      replace h3 := hidH h3
      replace h4 := hidH h4
      replace h5 := hidH h5
      replace h6 := hidH h6
      replace h7 := hidH h7
      replace h8 := hidH h8
      replace h9 := hidH h9
      replace h10 := hidH h10
      replace h11 := hidH h11
      replace h12 := hidH h12
      replace h13 := hidH h13
      replace h14 := hidH h14
      replace h15 := hidH h15
      replace h16 := hidH h16
      replace h17 := hidH h17
      replace h18 := hidH h18
      replace h19 := hidH h19
      have hb := Below.refl W.heap.size W
      go_wp2
      exact (HJ.out _ _ _).2 ⟨_, _, _, _, _, _, _, _, _, _, _, _, _, _, _, _, _, _, _, _, _, rfl, fun _ => hd19.out, fun _ => hE20 hd19.out, hE20, hO.trans (hb.mono hBW), hU.trans (B8.of_below hb), Nat.le_trans hBW hb.size, Nat.le_trans hW hb.size, (fun h => by have h3 : dn 19 = false := h; rw [hd19.out] at h3; cases h3), (fun h => by simp at h), h0.out, h1.out, h2.out, h3.out, h4.out, h5.out, h6.out, h7.out, h8.out, h9.out, h10.out, h11.out, h12.out, h13.out, h14.out, h15.out, fun h => by obtain ⟨A9, c9, q1, q2⟩ := h16.out h; exact ⟨A9, c9, q1, own_below0 q2 hb⟩, fun h => by obtain ⟨A9, c9, q1, q2⟩ := h17.out h; exact ⟨A9, c9, q1, own_below0 q2 hb⟩, (fun h h2 => by obtain ⟨q, A9, c9, q1, q2, q3⟩ := h18.out h h2; exact ⟨q, A9, c9, q1, q2.below hb, own_below0 q3 hb⟩), fun _ => ⟨C9, e9, own_below0 r9 hb, own_below0 s9 hb⟩, fun _ => ⟨C9, e9, r9, s9⟩⟩
    | n + 21, h => omega
  case fin =>
    clear hops hdeps hback
    rintro dn ac W hJ hall
    obtain ⟨t12, t13, t14, t15, t16, t17, t18, t19, t20, t21, t22, t23, t24, t25, t26, t27, t28, t29, t30, t31, t3, rfl, hE, hE0, hE20, hO, hU, hBW, hW, hG, o20, h0, h1, h2, h3, h4, h5, h6, h7, h8, h9, h10, h11, h12, h13, h14, h15, h16, h17, h18, h19, h20⟩ := (HJ.out _ _ _).1 hJ
    exact fin _ _ _ _ _ _ _ _ _ _ _ _ _ _ _ _ _ _ _ _ _ W hO hU hBW hW (h20 (hall 20 (by omega)))
end Go.Proofs.YtncnibkojneejaaGreatDoor
