/- The region of the model's l8Cut that draws its order. -/
import Derived.Test.YthljdikcpdokdaaNa5
import Derived.Test.YthljdikcpdokdaaNa3
import Derived.Test.YthljdikcpdokdaaNa6
namespace Go.Proofs.Ythljdikcpdokdaa
open Go.RowKit Go.Deep

set_option maxRecDepth 100000 in
set_option maxHeartbeats 1000000 in
theorem regK7 {Q : Exit → Act → World → Prop} (x4 x5 x6 x7 x8 x13 x14 x15 x16 x17 x18 x19 x20 x21 x22 x23 x24 x25 x26 x27 x28 x29 u_30 u_31 u_32 u_33 u_34 u_35 u_36 u_37 u_38 u_39 u_40 u_41 u_42 u_43 u_44 u_45 u_46 u_47 u_48 u_49 u_50 u_51 u_52 u_53 u_54 u_55 u_56 u_57 u_58 u_59 u_60 x61 bv : Value) (xs0 : List Value) (ww : World) (B n ii gm p sz K : Nat) (tn ts st sq : Int) (fb lb ub : Bool) (A : Option Addr) (l : List Int) (c : Nat)
    (hgm : gm < B) (hnn : Hid (n ≤ 90000)) (hp0 : (0 : Int) ≤ (p : Int)) (hsz : (0 : Int) < (sz : Int)) (hdv : (p : Int) / (sz : Int) = (ii : Int)) (hdt : (p : Int).tdiv (sz : Int) = (ii : Int)) (hii : (ii : Int) ≤ 1000) (hfb : ((p : Int) == 0) = fb) (hlb : ((p : Int) + (l.length : Int) == (K : Int)) = lb) (hpc : p + l.length ≤ c) (hl : Hid (l.length ≤ 4000000)) (HA : Hid (∀ u : World, Below B ww u → Bs u (cutA A p c) l))
    (ADD : ∀ u : World, Calls Try.prog 69 #[.int .i64 tn, .int .i64 (ii : Int)] u (fun e w' => e = .returned (.int .i64 ts) ∧ u = w')) (r0 : ww.cell? ⟨gm, 0, none⟩ = some (.int .i64 st)) (r1 : ww.cell? ⟨gm, 1, none⟩ = some (.bool ub)) (r2 : ww.cell? ⟨gm, 2, none⟩ = some (.slice A K c)) {ops : Array Oper}
    (hops : (ops.map fun o => (o.op, o.dst, o.guard)) = #[(Op.move (Operand.tmp 9), some 30, none), (Op.move (Operand.tmp 2), some 31, none), (Op.move (Operand.tmp 11), some 32, none), (Op.move (Operand.tmp 1), some 33, none), (Op.binOp BinOp.quo 2 (Operand.tmp 32) (Operand.tmp 33) 2, some 34, none), (Op.call { callee := Callee.value (Operand.func 69), args := #[(Operand.tmp 31), (Operand.tmp 34)], argTypes := #[2, 2] }, some 35, none), (Op.move (Operand.tmp 0), some 36, none), (Op.nilCheck (Operand.tmp 36), some 37, none), (Op.fieldAddr 57 (Operand.tmp 37) 0, some 38, none), (Op.load 2 (Operand.tmp 38), some 39, none), (Op.move (Operand.tmp 3), some 40, none), (Op.move (Operand.tmp 11), some 41, none), (Op.binOp BinOp.eql 2 (Operand.tmp 41) ((Operand.const (Value.int .i64 0))) 2, some 42, none), (Op.move (Operand.tmp 12), some 43, none), (Op.move (Operand.tmp 10), some 44, none), (Op.binOp BinOp.eql 2 (Operand.tmp 43) (Operand.tmp 44) 2, some 45, none), (Op.move (Operand.tmp 0), some 46, none), (Op.nilCheck (Operand.tmp 46), some 47, none), (Op.fieldAddr 57 (Operand.tmp 47) 1, some 48, none), (Op.load 4 (Operand.tmp 48), some 49, none), (Op.move (Operand.tmp 0), some 50, none), (Op.nilCheck (Operand.tmp 50), some 51, none), (Op.fieldAddr 57 (Operand.tmp 51) 2, some 52, none), (Op.load 22 (Operand.tmp 52), some 53, none), (Op.move (Operand.tmp 11), some 54, none), (Op.move (Operand.tmp 12), some 55, none), (Op.slice 22 (Operand.tmp 53) (some (Operand.tmp 54)) (some (Operand.tmp 55)) none, some 56, none), (Op.call { callee := Callee.value (Operand.func 148), args := #[(Operand.tmp 56)], argTypes := #[22] }, some 57, none), (Op.build 69 #[(0, (Operand.tmp 35)), (1, (Operand.tmp 39)), (2, (Operand.tmp 40)), (3, (Operand.tmp 42)), (4, (Operand.tmp 45)), (5, (Operand.tmp 49)), (6, (Operand.tmp 57))], some 58, none), (Op.buildSlice 25 1 #[(0, (Operand.tmp 58))], some 59, none), (Op.call { callee := Callee.builtin Builtin.append, args := #[(Operand.tmp 30), (Operand.tmp 59)], argTypes := #[25, 25] }, some 60, none), (Op.assign (Operand.tmp 60), some 9, none)])
    (hdeps : ((List.range 32).all fun i => ((fun i => [[], [], [], [], [2, 3], [1, 4], [], [6], [7], [8], [], [], [11], [], [], [13, 14], [], [16], [17], [18], [], [20], [21], [22], [], [], [23, 24, 25], [26], [5, 9, 10, 12, 15, 19, 27], [28], [0, 29], [30]].getD i []) i).all fun j => ((ops[i]?).map fun o => o.after.any fun e => Region.binds .any e && e.on == j).getD false) = true)
    (hback : ((List.range 32).all fun i => ((ops[i]?).map fun o => o.after.all fun e => decide (e.on < i)).getD false) = true)
    {a0 : Act} {w0 : World} (ha : a0 = { tmps := #[.pointer (some ⟨gm, 0, none⟩), .int .i64 (sz : Int), .int .i64 tn, .int .i64 sq, x4, x5, x6, x7, x8, bv, .int .i64 (K : Int), .int .i64 (p : Int), .int .i64 ((p : Int) + (l.length : Int)), x13, x14, x15, x16, x17, x18, x19, x20, x21, x22, x23, x24, x25, x26, x27, x28, x29, u_30, u_31, u_32, u_33, u_34, u_35, u_36, u_37, u_38, u_39, u_40, u_41, u_42, u_43, u_44, u_45, u_46, u_47, u_48, u_49, u_50, u_51, u_52, u_53, u_54, u_55, u_56, u_57, u_58, u_59, u_60, x61], defers := [] }) (hE : false = true → false = true) (hE0 : false = true → false = true) (hE20 : false = true → false = true) (hO : Below B ww w0) (hU : B8 ww w0) (hBW : B ≤ w0.heap.size) (hW : ww.heap.size ≤ w0.heap.size) (hG : false = false → w0.ownsRow B 69 7 bv n xs0)
    (fin : ∀ t30 t31 t32 t33 t34 t35 t36 t37 t38 t39 t40 t41 t42 t43 t44 t45 t46 t47 t48 t49 t50 t51 t52 t53 t54 t55 t56 t57 t58 t59 t60 t9 (W : World), (Below B ww W) → (B8 ww W) → (B ≤ W.heap.size) → (ww.heap.size ≤ W.heap.size) → (∃ (A9 : Option Addr) (c9 : Nat), W.ownsRow B 69 7 t9 (n + 1) (xs0 ++ [.int .i64 ts, .int .i64 st, .int .i64 sq, .bool fb, .bool lb, .bool ub, .slice A9 l.length c9]) ∧ W.ownsRow ww.heap.size 5 1 (.slice A9 l.length c9) l.length (l.map (Value.int .u8))) → Q .normal { tmps := #[.pointer (some ⟨gm, 0, none⟩), .int .i64 (sz : Int), .int .i64 tn, .int .i64 sq, x4, x5, x6, x7, x8, t9, .int .i64 (K : Int), .int .i64 (p : Int), .int .i64 ((p : Int) + (l.length : Int)), x13, x14, x15, x16, x17, x18, x19, x20, x21, x22, x23, x24, x25, x26, x27, x28, x29, t30, t31, t32, t33, t34, t35, t36, t37, t38, t39, t40, t41, t42, t43, t44, t45, t46, t47, t48, t49, t50, t51, t52, t53, t54, t55, t56, t57, t58, t59, t60, x61], defers := [] } W) :
    wpAny Try.prog .any ops Q ops.size (Array.replicate ops.size false) a0 w0 := by
  have hn : ops.size = 32 := by have := congrArg Array.size hops; simpa using this
  obtain ⟨J, HJ⟩ : ∃ J : (Nat → Bool) → Act → World → Prop, ∀ dn ac W, J dn ac W ↔ (fun dn ac W => ∃ t30 t31 t32 t33 t34 t35 t36 t37 t38 t39 t40 t41 t42 t43 t44 t45 t46 t47 t48 t49 t50 t51 t52 t53 t54 t55 t56 t57 t58 t59 t60 t9, ac = { tmps := #[.pointer (some ⟨gm, 0, none⟩), .int .i64 (sz : Int), .int .i64 tn, .int .i64 sq, x4, x5, x6, x7, x8, t9, .int .i64 (K : Int), .int .i64 (p : Int), .int .i64 ((p : Int) + (l.length : Int)), x13, x14, x15, x16, x17, x18, x19, x20, x21, x22, x23, x24, x25, x26, x27, x28, x29, t30, t31, t32, t33, t34, t35, t36, t37, t38, t39, t40, t41, t42, t43, t44, t45, t46, t47, t48, t49, t50, t51, t52, t53, t54, t55, t56, t57, t58, t59, t60, x61], defers := [] } ∧ (dn 31 = true → dn 30 = true) ∧ (dn 31 = true → dn 0 = true) ∧ (dn 30 = true → dn 0 = true) ∧ (Below B ww W) ∧ (B8 ww W) ∧ (B ≤ W.heap.size) ∧ (ww.heap.size ≤ W.heap.size) ∧ (dn 30 = false → W.ownsRow B 69 7 bv n xs0) ∧ (dn 31 = false → t9 = bv) ∧ (dn 0 = true → t30 = bv) ∧ (dn 1 = true → t31 = .int .i64 tn) ∧ (dn 2 = true → t32 = .int .i64 (p : Int)) ∧ (dn 3 = true → t33 = .int .i64 (sz : Int)) ∧ (dn 4 = true → t34 = .int .i64 (ii : Int)) ∧ (dn 5 = true → t35 = .int .i64 ts) ∧ (dn 6 = true → t36 = .pointer (some ⟨gm, 0, none⟩)) ∧ (dn 7 = true → t37 = .pointer (some ⟨gm, 0, none⟩)) ∧ (dn 8 = true → t38 = .pointer (some ⟨gm, 0, none⟩)) ∧ (dn 9 = true → t39 = .int .i64 st) ∧ (dn 10 = true → t40 = .int .i64 sq) ∧ (dn 11 = true → t41 = .int .i64 (p : Int)) ∧ (dn 12 = true → t42 = .bool fb) ∧ (dn 13 = true → t43 = .int .i64 ((p : Int) + (l.length : Int))) ∧ (dn 14 = true → t44 = .int .i64 (K : Int)) ∧ (dn 15 = true → t45 = .bool lb) ∧ (dn 16 = true → t46 = .pointer (some ⟨gm, 0, none⟩)) ∧ (dn 17 = true → t47 = .pointer (some ⟨gm, 0, none⟩)) ∧ (dn 18 = true → t48 = .pointer (some ⟨gm, 1, none⟩)) ∧ (dn 19 = true → t49 = .bool ub) ∧ (dn 20 = true → t50 = .pointer (some ⟨gm, 0, none⟩)) ∧ (dn 21 = true → t51 = .pointer (some ⟨gm, 0, none⟩)) ∧ (dn 22 = true → t52 = .pointer (some ⟨gm, 2, none⟩)) ∧ (dn 23 = true → t53 = .slice A K c) ∧ (dn 24 = true → t54 = .int .i64 (p : Int)) ∧ (dn 25 = true → t55 = .int .i64 ((p : Int) + (l.length : Int))) ∧ (dn 26 = true → t56 = .slice (cutA A p c) l.length (c - p)) ∧ (dn 27 = true → ∃ (A9 : Option Addr) (c9 : Nat), t57 = .slice A9 l.length c9 ∧ W.ownsRow ww.heap.size 5 1 (.slice A9 l.length c9) l.length (l.map (Value.int .u8))) ∧ (dn 28 = true → ∃ (A9 : Option Addr) (c9 : Nat), t58 = .agg #[.int .i64 ts, .int .i64 st, .int .i64 sq, .bool fb, .bool lb, .bool ub, .slice A9 l.length c9] ∧ W.ownsRow ww.heap.size 5 1 (.slice A9 l.length c9) l.length (l.map (Value.int .u8))) ∧ (dn 29 = true → dn 30 = false → ∃ (q : Nat) (A9 : Option Addr) (c9 : Nat), t59 = .slice (some ⟨q, 0, none⟩) 1 1 ∧ Blk W q 69 #[.int .i64 ts, .int .i64 st, .int .i64 sq, .bool fb, .bool lb, .bool ub, .slice A9 l.length c9] ∧ W.ownsRow ww.heap.size 5 1 (.slice A9 l.length c9) l.length (l.map (Value.int .u8))) ∧ (dn 30 = true → ∃ (A9 : Option Addr) (c9 : Nat), W.ownsRow B 69 7 t60 (n + 1) (xs0 ++ [.int .i64 ts, .int .i64 st, .int .i64 sq, .bool fb, .bool lb, .bool ub, .slice A9 l.length c9]) ∧ W.ownsRow ww.heap.size 5 1 (.slice A9 l.length c9) l.length (l.map (Value.int .u8))) ∧ (dn 31 = true → ∃ (A9 : Option Addr) (c9 : Nat), W.ownsRow B 69 7 t9 (n + 1) (xs0 ++ [.int .i64 ts, .int .i64 st, .int .i64 sq, .bool fb, .bool lb, .bool ub, .slice A9 l.length c9]) ∧ W.ownsRow ww.heap.size 5 1 (.slice A9 l.length c9) l.length (l.map (Value.int .u8)))) dn ac W := ⟨_, fun _ _ _ => Iff.rfl⟩
  replace HJ := hidH HJ
  refine region_inv 32 (fun i => [[], [], [], [], [2, 3], [1, 4], [], [6], [7], [8], [], [], [11], [], [], [13, 14], [], [16], [17], [18], [], [20], [21], [22], [], [], [23, 24, 25], [26], [5, 9, 10, 12, 15, 19, 27], [28], [0, 29], [30]].getD i []) J hn hdeps hback ?start ?step ?fin
  case start => exact (HJ.out _ _ _).2 ⟨u_30, u_31, u_32, u_33, u_34, u_35, u_36, u_37, u_38, u_39, u_40, u_41, u_42, u_43, u_44, u_45, u_46, u_47, u_48, u_49, u_50, u_51, u_52, u_53, u_54, u_55, u_56, u_57, u_58, u_59, u_60, bv, ha, hE, hE0, hE20, hO, hU, hBW, hW, hG, fun _ => rfl, fun h => by simp at h, fun h => by simp at h, fun h => by simp at h, fun h => by simp at h, fun h => by simp at h, fun h => by simp at h, fun h => by simp at h, fun h => by simp at h, fun h => by simp at h, fun h => by simp at h, fun h => by simp at h, fun h => by simp at h, fun h => by simp at h, fun h => by simp at h, fun h => by simp at h, fun h => by simp at h, fun h => by simp at h, fun h => by simp at h, fun h => by simp at h, fun h => by simp at h, fun h => by simp at h, fun h => by simp at h, fun h => by simp at h, fun h => by simp at h, fun h => by simp at h, fun h => by simp at h, fun h => by simp at h, fun h => by simp at h, fun h => by simp at h, fun h => by simp at h, fun h => by simp at h, fun h => by simp at h⟩
  all_goals clear ha hE hE0 hE20 hO hU hBW hW hG
  case step =>
    clear fin hdeps hback
    intro i hi dn ac W hJ hdn hdep
    obtain ⟨t30, t31, t32, t33, t34, t35, t36, t37, t38, t39, t40, t41, t42, t43, t44, t45, t46, t47, t48, t49, t50, t51, t52, t53, t54, t55, t56, t57, t58, t59, t60, t9, rfl, hE, hE0, hE20, hO, hU, hBW, hW, hG, o31, h0, h1, h2, h3, h4, h5, h6, h7, h8, h9, h10, h11, h12, h13, h14, h15, h16, h17, h18, h19, h20, h21, h22, h23, h24, h25, h26, h27, h28, h29, h30, h31⟩ := (HJ.out _ _ _).1 hJ
    clear hJ
    match i, hi with
    | 0, _ =>
      obtain ⟨ty, ps, af, ho⟩ := op_lit hops (i := 0) (op := Op.move (Operand.tmp 9)) (dst := some 30) (g := none) rfl
      have z20 : dn 31 = false := by
              cases h : dn 31 with
              | false => rfl
              | true => have h3 : dn 0 = true := hE0 h; rw [hdn] at h3; cases h3
      obtain rfl := o31 z20
      refine wpOp_lit ho (fun j b h => by cases h) ?_
      clear hops hdep ho
      replace h1 := hidH h1
      replace h2 := hidH h2
      replace h3 := hidH h3
      replace h4 := hidH h4
      replace h5 := hidH h5
      replace h6 := hidH h6
      replace h7 := hidH h7
      replace h8 := hidH h8
      replace h9 := hidH h9
      replace h10 := hidH h10
      replace h11 := hidH h11
      replace h12 := hidH h12
      replace h13 := hidH h13
      replace h14 := hidH h14
      replace h15 := hidH h15
      replace h16 := hidH h16
      replace h17 := hidH h17
      replace h18 := hidH h18
      replace h19 := hidH h19
      replace h20 := hidH h20
      replace h21 := hidH h21
      replace h22 := hidH h22
      replace h23 := hidH h23
      replace h24 := hidH h24
      replace h25 := hidH h25
      replace h26 := hidH h26
      replace h27 := hidH h27
      replace h28 := hidH h28
      replace h29 := hidH h29
      replace h30 := hidH h30
      replace h31 := hidH h31
      replace o31 := hidH o31
      have hb := Below.refl W.heap.size W
      go_wp2
      exact (HJ.out _ _ _).2 ⟨_, _, _, _, _, _, _, _, _, _, _, _, _, _, _, _, _, _, _, _, _, _, _, _, _, _, _, _, _, _, _, _, rfl, hE, fun _ => rfl, fun _ => rfl, hO.trans (hb.mono hBW), hU.trans (B8.of_below hb), Nat.le_trans hBW hb.size, Nat.le_trans hW hb.size, fun h => own_below0 (hG h) hb, (fun _ => rfl), fun _ => rfl, h1.out, h2.out, h3.out, h4.out, h5.out, h6.out, h7.out, h8.out, h9.out, h10.out, h11.out, h12.out, h13.out, h14.out, h15.out, h16.out, h17.out, h18.out, h19.out, h20.out, h21.out, h22.out, h23.out, h24.out, h25.out, h26.out, fun h => by obtain ⟨A9, c9, q1, q2⟩ := h27.out h; exact ⟨A9, c9, q1, own_below0 q2 hb⟩, fun h => by obtain ⟨A9, c9, q1, q2⟩ := h28.out h; exact ⟨A9, c9, q1, own_below0 q2 hb⟩, (fun h h2 => by obtain ⟨q, A9, c9, q1, q2, q3⟩ := h29.out h h2; exact ⟨q, A9, c9, q1, q2.below hb, own_below0 q3 hb⟩), fun h => by obtain ⟨A9, c9, q1, q2⟩ := h30.out h; exact ⟨A9, c9, own_below0 q1 hb, own_below0 q2 hb⟩, fun h => by obtain ⟨A9, c9, q1, q2⟩ := h31.out h; exact ⟨A9, c9, own_below0 q1 hb, own_below0 q2 hb⟩⟩
    | 1, _ =>
      obtain ⟨ty, ps, af, ho⟩ := op_lit hops (i := 1) (op := Op.move (Operand.tmp 2)) (dst := some 31) (g := none) rfl
      refine wpOp_lit ho (fun j b h => by cases h) ?_
      clear hops hdep ho
      replace h0 := hidH h0
      replace h2 := hidH h2
      replace h3 := hidH h3
      replace h4 := hidH h4
      replace h5 := hidH h5
      replace h6 := hidH h6
      replace h7 := hidH h7
      replace h8 := hidH h8
      replace h9 := hidH h9
      replace h10 := hidH h10
      replace h11 := hidH h11
      replace h12 := hidH h12
      replace h13 := hidH h13
      replace h14 := hidH h14
      replace h15 := hidH h15
      replace h16 := hidH h16
      replace h17 := hidH h17
      replace h18 := hidH h18
      replace h19 := hidH h19
      replace h20 := hidH h20
      replace h21 := hidH h21
      replace h22 := hidH h22
      replace h23 := hidH h23
      replace h24 := hidH h24
      replace h25 := hidH h25
      replace h26 := hidH h26
      replace h27 := hidH h27
      replace h28 := hidH h28
      replace h29 := hidH h29
      replace h30 := hidH h30
      replace h31 := hidH h31
      replace o31 := hidH o31
      go_wp2
      exact (HJ.out _ _ _).2 ⟨_, _, _, _, _, _, _, _, _, _, _, _, _, _, _, _, _, _, _, _, _, _, _, _, _, _, _, _, _, _, _, _, rfl, hE, hE0, hE20, hO, hU, hBW, hW, hG, o31.out, h0.out, fun _ => rfl, h2.out, h3.out, h4.out, h5.out, h6.out, h7.out, h8.out, h9.out, h10.out, h11.out, h12.out, h13.out, h14.out, h15.out, h16.out, h17.out, h18.out, h19.out, h20.out, h21.out, h22.out, h23.out, h24.out, h25.out, h26.out, h27.out, h28.out, h29.out, h30.out, h31.out⟩
    | 2, _ =>
      obtain ⟨ty, ps, af, ho⟩ := op_lit hops (i := 2) (op := Op.move (Operand.tmp 11)) (dst := some 32) (g := none) rfl
      refine wpOp_lit ho (fun j b h => by cases h) ?_
      clear hops hdep ho
      replace h0 := hidH h0
      replace h1 := hidH h1
      replace h3 := hidH h3
      replace h4 := hidH h4
      replace h5 := hidH h5
      replace h6 := hidH h6
      replace h7 := hidH h7
      replace h8 := hidH h8
      replace h9 := hidH h9
      replace h10 := hidH h10
      replace h11 := hidH h11
      replace h12 := hidH h12
      replace h13 := hidH h13
      replace h14 := hidH h14
      replace h15 := hidH h15
      replace h16 := hidH h16
      replace h17 := hidH h17
      replace h18 := hidH h18
      replace h19 := hidH h19
      replace h20 := hidH h20
      replace h21 := hidH h21
      replace h22 := hidH h22
      replace h23 := hidH h23
      replace h24 := hidH h24
      replace h25 := hidH h25
      replace h26 := hidH h26
      replace h27 := hidH h27
      replace h28 := hidH h28
      replace h29 := hidH h29
      replace h30 := hidH h30
      replace h31 := hidH h31
      replace o31 := hidH o31
      go_wp2
      exact (HJ.out _ _ _).2 ⟨_, _, _, _, _, _, _, _, _, _, _, _, _, _, _, _, _, _, _, _, _, _, _, _, _, _, _, _, _, _, _, _, rfl, hE, hE0, hE20, hO, hU, hBW, hW, hG, o31.out, h0.out, h1.out, fun _ => rfl, h3.out, h4.out, h5.out, h6.out, h7.out, h8.out, h9.out, h10.out, h11.out, h12.out, h13.out, h14.out, h15.out, h16.out, h17.out, h18.out, h19.out, h20.out, h21.out, h22.out, h23.out, h24.out, h25.out, h26.out, h27.out, h28.out, h29.out, h30.out, h31.out⟩
    | 3, _ =>
      obtain ⟨ty, ps, af, ho⟩ := op_lit hops (i := 3) (op := Op.move (Operand.tmp 1)) (dst := some 33) (g := none) rfl
      refine wpOp_lit ho (fun j b h => by cases h) ?_
      clear hops hdep ho
      replace h0 := hidH h0
      replace h1 := hidH h1
      replace h2 := hidH h2
      replace h4 := hidH h4
      replace h5 := hidH h5
      replace h6 := hidH h6
      replace h7 := hidH h7
      replace h8 := hidH h8
      replace h9 := hidH h9
      replace h10 := hidH h10
      replace h11 := hidH h11
      replace h12 := hidH h12
      replace h13 := hidH h13
      replace h14 := hidH h14
      replace h15 := hidH h15
      replace h16 := hidH h16
      replace h17 := hidH h17
      replace h18 := hidH h18
      replace h19 := hidH h19
      replace h20 := hidH h20
      replace h21 := hidH h21
      replace h22 := hidH h22
      replace h23 := hidH h23
      replace h24 := hidH h24
      replace h25 := hidH h25
      replace h26 := hidH h26
      replace h27 := hidH h27
      replace h28 := hidH h28
      replace h29 := hidH h29
      replace h30 := hidH h30
      replace h31 := hidH h31
      replace o31 := hidH o31
      go_wp2
      exact (HJ.out _ _ _).2 ⟨_, _, _, _, _, _, _, _, _, _, _, _, _, _, _, _, _, _, _, _, _, _, _, _, _, _, _, _, _, _, _, _, rfl, hE, hE0, hE20, hO, hU, hBW, hW, hG, o31.out, h0.out, h1.out, h2.out, fun _ => rfl, h4.out, h5.out, h6.out, h7.out, h8.out, h9.out, h10.out, h11.out, h12.out, h13.out, h14.out, h15.out, h16.out, h17.out, h18.out, h19.out, h20.out, h21.out, h22.out, h23.out, h24.out, h25.out, h26.out, h27.out, h28.out, h29.out, h30.out, h31.out⟩
    | 4, _ =>
      obtain ⟨ty, ps, af, ho⟩ := op_lit hops (i := 4) (op := Op.binOp BinOp.quo 2 (Operand.tmp 32) (Operand.tmp 33) 2) (dst := some 34) (g := none) rfl
      obtain rfl := h2 (hdep 2 (by simp))
      obtain rfl := h3 (hdep 3 (by simp))
      refine wpOp_lit ho (fun j b h => by cases h) ?_
      clear hops hdep ho
      replace h0 := hidH h0
      replace h1 := hidH h1
      replace h2 := hidH h2
      replace h3 := hidH h3
      replace h5 := hidH h5
      replace h6 := hidH h6
      replace h7 := hidH h7
      replace h8 := hidH h8
      replace h9 := hidH h9
      replace h10 := hidH h10
      replace h11 := hidH h11
      replace h12 := hidH h12
      replace h13 := hidH h13
      replace h14 := hidH h14
      replace h15 := hidH h15
      replace h16 := hidH h16
      replace h17 := hidH h17
      replace h18 := hidH h18
      replace h19 := hidH h19
      replace h20 := hidH h20
      replace h21 := hidH h21
      replace h22 := hidH h22
      replace h23 := hidH h23
      replace h24 := hidH h24
      replace h25 := hidH h25
      replace h26 := hidH h26
      replace h27 := hidH h27
      replace h28 := hidH h28
      replace h29 := hidH h29
      replace h30 := hidH h30
      replace h31 := hidH h31
      replace o31 := hidH o31
      have hA1 := hdv
      have hA2 := hdt
      have hA3 := hp0
      have hA4 := hsz
      have hA5 := hii
      go_wp2
      exact (HJ.out _ _ _).2 ⟨_, _, _, _, _, _, _, _, _, _, _, _, _, _, _, _, _, _, _, _, _, _, _, _, _, _, _, _, _, _, _, _, rfl, hE, hE0, hE20, hO, hU, hBW, hW, hG, o31.out, h0.out, h1.out, fun _ => rfl, fun _ => rfl, fun _ => rfl, h5.out, h6.out, h7.out, h8.out, h9.out, h10.out, h11.out, h12.out, h13.out, h14.out, h15.out, h16.out, h17.out, h18.out, h19.out, h20.out, h21.out, h22.out, h23.out, h24.out, h25.out, h26.out, h27.out, h28.out, h29.out, h30.out, h31.out⟩
    | 5, _ =>
      obtain ⟨ty, ps, af, ho⟩ := op_lit hops (i := 5) (op := Op.call { callee := Callee.value (Operand.func 69), args := #[(Operand.tmp 31), (Operand.tmp 34)], argTypes := #[2, 2] }) (dst := some 35) (g := none) rfl
      obtain rfl := h1 (hdep 1 (by simp))
      obtain rfl := h4 (hdep 4 (by simp))
      refine wpOp_lit ho (fun j b h => by cases h) ?_
      clear hops hdep ho
      replace h0 := hidH h0
      replace h1 := hidH h1
      replace h2 := hidH h2
      replace h3 := hidH h3
      replace h4 := hidH h4
      replace h6 := hidH h6
      replace h7 := hidH h7
      replace h8 := hidH h8
      replace h9 := hidH h9
      replace h10 := hidH h10
      replace h11 := hidH h11
      replace h12 := hidH h12
      replace h13 := hidH h13
      replace h14 := hidH h14
      replace h15 := hidH h15
      replace h16 := hidH h16
      replace h17 := hidH h17
      replace h18 := hidH h18
      replace h19 := hidH h19
      replace h20 := hidH h20
      replace h21 := hidH h21
      replace h22 := hidH h22
      replace h23 := hidH h23
      replace h24 := hidH h24
      replace h25 := hidH h25
      replace h26 := hidH h26
      replace h27 := hidH h27
      replace h28 := hidH h28
      replace h29 := hidH h29
      replace h30 := hidH h30
      replace h31 := hidH h31
      replace o31 := hidH o31
      have hb := Below.refl W.heap.size W
      go_wp2_with fail
      refine (ADD W).mono ?_
      rintro e w9 ⟨rfl, rfl⟩
      go_wp2
      exact (HJ.out _ _ _).2 ⟨_, _, _, _, _, _, _, _, _, _, _, _, _, _, _, _, _, _, _, _, _, _, _, _, _, _, _, _, _, _, _, _, rfl, hE, hE0, hE20, hO, hU, hBW, hW, hG, o31.out, h0.out, fun _ => rfl, h2.out, h3.out, fun _ => rfl, fun _ => rfl, h6.out, h7.out, h8.out, h9.out, h10.out, h11.out, h12.out, h13.out, h14.out, h15.out, h16.out, h17.out, h18.out, h19.out, h20.out, h21.out, h22.out, h23.out, h24.out, h25.out, h26.out, h27.out, h28.out, h29.out, h30.out, h31.out⟩
    | 6, _ =>
      obtain ⟨ty, ps, af, ho⟩ := op_lit hops (i := 6) (op := Op.move (Operand.tmp 0)) (dst := some 36) (g := none) rfl
      refine wpOp_lit ho (fun j b h => by cases h) ?_
      clear hops hdep ho
      replace h0 := hidH h0
      replace h1 := hidH h1
      replace h2 := hidH h2
      replace h3 := hidH h3
      replace h4 := hidH h4
      replace h5 := hidH h5
      replace h7 := hidH h7
      replace h8 := hidH h8
      replace h9 := hidH h9
      replace h10 := hidH h10
      replace h11 := hidH h11
      replace h12 := hidH h12
      replace h13 := hidH h13
      replace h14 := hidH h14
      replace h15 := hidH h15
      replace h16 := hidH h16
      replace h17 := hidH h17
      replace h18 := hidH h18
      replace h19 := hidH h19
      replace h20 := hidH h20
      replace h21 := hidH h21
      replace h22 := hidH h22
      replace h23 := hidH h23
      replace h24 := hidH h24
      replace h25 := hidH h25
      replace h26 := hidH h26
      replace h27 := hidH h27
      replace h28 := hidH h28
      replace h29 := hidH h29
      replace h30 := hidH h30
      replace h31 := hidH h31
      replace o31 := hidH o31
      go_wp2
      exact (HJ.out _ _ _).2 ⟨_, _, _, _, _, _, _, _, _, _, _, _, _, _, _, _, _, _, _, _, _, _, _, _, _, _, _, _, _, _, _, _, rfl, hE, hE0, hE20, hO, hU, hBW, hW, hG, o31.out, h0.out, h1.out, h2.out, h3.out, h4.out, h5.out, fun _ => rfl, h7.out, h8.out, h9.out, h10.out, h11.out, h12.out, h13.out, h14.out, h15.out, h16.out, h17.out, h18.out, h19.out, h20.out, h21.out, h22.out, h23.out, h24.out, h25.out, h26.out, h27.out, h28.out, h29.out, h30.out, h31.out⟩
    | 7, _ =>
      obtain ⟨ty, ps, af, ho⟩ := op_lit hops (i := 7) (op := Op.nilCheck (Operand.tmp 36)) (dst := some 37) (g := none) rfl
      obtain rfl := h6 (hdep 6 (by simp))
      refine wpOp_lit ho (fun j b h => by cases h) ?_
      clear hops hdep ho
      replace h0 := hidH h0
      replace h1 := hidH h1
      replace h2 := hidH h2
      replace h3 := hidH h3
      replace h4 := hidH h4
      replace h5 := hidH h5
      replace h6 := hidH h6
      replace h8 := hidH h8
      replace h9 := hidH h9
      replace h10 := hidH h10
      replace h11 := hidH h11
      replace h12 := hidH h12
      replace h13 := hidH h13
      replace h14 := hidH h14
      replace h15 := hidH h15
      replace h16 := hidH h16
      replace h17 := hidH h17
      replace h18 := hidH h18
      replace h19 := hidH h19
      replace h20 := hidH h20
      replace h21 := hidH h21
      replace h22 := hidH h22
      replace h23 := hidH h23
      replace h24 := hidH h24
      replace h25 := hidH h25
      replace h26 := hidH h26
      replace h27 := hidH h27
      replace h28 := hidH h28
      replace h29 := hidH h29
      replace h30 := hidH h30
      replace h31 := hidH h31
      replace o31 := hidH o31
      go_wp2
      exact (HJ.out _ _ _).2 ⟨_, _, _, _, _, _, _, _, _, _, _, _, _, _, _, _, _, _, _, _, _, _, _, _, _, _, _, _, _, _, _, _, rfl, hE, hE0, hE20, hO, hU, hBW, hW, hG, o31.out, h0.out, h1.out, h2.out, h3.out, h4.out, h5.out, fun _ => rfl, fun _ => rfl, h8.out, h9.out, h10.out, h11.out, h12.out, h13.out, h14.out, h15.out, h16.out, h17.out, h18.out, h19.out, h20.out, h21.out, h22.out, h23.out, h24.out, h25.out, h26.out, h27.out, h28.out, h29.out, h30.out, h31.out⟩
    | 8, _ =>
      obtain ⟨ty, ps, af, ho⟩ := op_lit hops (i := 8) (op := Op.fieldAddr 57 (Operand.tmp 37) 0) (dst := some 38) (g := none) rfl
      obtain rfl := h7 (hdep 7 (by simp))
      refine wpOp_lit ho (fun j b h => by cases h) ?_
      clear hops hdep ho
      replace h0 := hidH h0
      replace h1 := hidH h1
      replace h2 := hidH h2
      replace h3 := hidH h3
      replace h4 := hidH h4
      replace h5 := hidH h5
      replace h6 := hidH h6
      replace h7 := hidH h7
      replace h9 := hidH h9
      replace h10 := hidH h10
      replace h11 := hidH h11
      replace h12 := hidH h12
      replace h13 := hidH h13
      replace h14 := hidH h14
      replace h15 := hidH h15
      replace h16 := hidH h16
      replace h17 := hidH h17
      replace h18 := hidH h18
      replace h19 := hidH h19
      replace h20 := hidH h20
      replace h21 := hidH h21
      replace h22 := hidH h22
      replace h23 := hidH h23
      replace h24 := hidH h24
      replace h25 := hidH h25
      replace h26 := hidH h26
      replace h27 := hidH h27
      replace h28 := hidH h28
      replace h29 := hidH h29
      replace h30 := hidH h30
      replace h31 := hidH h31
      replace o31 := hidH o31
      go_wp2
      exact (HJ.out _ _ _).2 ⟨_, _, _, _, _, _, _, _, _, _, _, _, _, _, _, _, _, _, _, _, _, _, _, _, _, _, _, _, _, _, _, _, rfl, hE, hE0, hE20, hO, hU, hBW, hW, hG, o31.out, h0.out, h1.out, h2.out, h3.out, h4.out, h5.out, h6.out, fun _ => rfl, fun _ => rfl, h9.out, h10.out, h11.out, h12.out, h13.out, h14.out, h15.out, h16.out, h17.out, h18.out, h19.out, h20.out, h21.out, h22.out, h23.out, h24.out, h25.out, h26.out, h27.out, h28.out, h29.out, h30.out, h31.out⟩
    | 9, _ =>
      obtain ⟨ty, ps, af, ho⟩ := op_lit hops (i := 9) (op := Op.load 2 (Operand.tmp 38)) (dst := some 39) (g := none) rfl
      obtain rfl := h8 (hdep 8 (by simp))
      refine wpOp_lit ho (fun j b h => by cases h) ?_
      clear hops hdep ho
      replace h0 := hidH h0
      replace h1 := hidH h1
      replace h2 := hidH h2
      replace h3 := hidH h3
      replace h4 := hidH h4
      replace h5 := hidH h5
      replace h6 := hidH h6
      replace h7 := hidH h7
      replace h8 := hidH h8
      replace h10 := hidH h10
      replace h11 := hidH h11
      replace h12 := hidH h12
      replace h13 := hidH h13
      replace h14 := hidH h14
      replace h15 := hidH h15
      replace h16 := hidH h16
      replace h17 := hidH h17
      replace h18 := hidH h18
      replace h19 := hidH h19
      replace h20 := hidH h20
      replace h21 := hidH h21
      replace h22 := hidH h22
      replace h23 := hidH h23
      replace h24 := hidH h24
      replace h25 := hidH h25
      replace h26 := hidH h26
      replace h27 := hidH h27
      replace h28 := hidH h28
      replace h29 := hidH h29
      replace h30 := hidH h30
      replace h31 := hidH h31
      replace o31 := hidH o31
      have hb := Below.refl W.heap.size W
      have q := (hO.cell (p := ⟨gm, 0, none⟩) hgm).trans r0
      go_wp2
      exact (HJ.out _ _ _).2 ⟨_, _, _, _, _, _, _, _, _, _, _, _, _, _, _, _, _, _, _, _, _, _, _, _, _, _, _, _, _, _, _, _, rfl, hE, hE0, hE20, hO.trans (hb.mono hBW), hU.trans (B8.of_below hb), Nat.le_trans hBW hb.size, Nat.le_trans hW hb.size, fun h => own_below0 (hG h) hb, o31.out, h0.out, h1.out, h2.out, h3.out, h4.out, h5.out, h6.out, h7.out, fun _ => rfl, fun _ => rfl, h10.out, h11.out, h12.out, h13.out, h14.out, h15.out, h16.out, h17.out, h18.out, h19.out, h20.out, h21.out, h22.out, h23.out, h24.out, h25.out, h26.out, fun h => by obtain ⟨A9, c9, q1, q2⟩ := h27.out h; exact ⟨A9, c9, q1, own_below0 q2 hb⟩, fun h => by obtain ⟨A9, c9, q1, q2⟩ := h28.out h; exact ⟨A9, c9, q1, own_below0 q2 hb⟩, (fun h h2 => by obtain ⟨q, A9, c9, q1, q2, q3⟩ := h29.out h h2; exact ⟨q, A9, c9, q1, q2.below hb, own_below0 q3 hb⟩), fun h => by obtain ⟨A9, c9, q1, q2⟩ := h30.out h; exact ⟨A9, c9, own_below0 q1 hb, own_below0 q2 hb⟩, fun h => by obtain ⟨A9, c9, q1, q2⟩ := h31.out h; exact ⟨A9, c9, own_below0 q1 hb, own_below0 q2 hb⟩⟩
    | 10, _ =>
      obtain ⟨ty, ps, af, ho⟩ := op_lit hops (i := 10) (op := Op.move (Operand.tmp 3)) (dst := some 40) (g := none) rfl
      refine wpOp_lit ho (fun j b h => by cases h) ?_
      clear hops hdep ho
      replace h0 := hidH h0
      replace h1 := hidH h1
      replace h2 := hidH h2
      replace h3 := hidH h3
      replace h4 := hidH h4
      replace h5 := hidH h5
      replace h6 := hidH h6
      replace h7 := hidH h7
      replace h8 := hidH h8
      replace h9 := hidH h9
      replace h11 := hidH h11
      replace h12 := hidH h12
      replace h13 := hidH h13
      replace h14 := hidH h14
      replace h15 := hidH h15
      replace h16 := hidH h16
      replace h17 := hidH h17
      replace h18 := hidH h18
      replace h19 := hidH h19
      replace h20 := hidH h20
      replace h21 := hidH h21
      replace h22 := hidH h22
      replace h23 := hidH h23
      replace h24 := hidH h24
      replace h25 := hidH h25
      replace h26 := hidH h26
      replace h27 := hidH h27
      replace h28 := hidH h28
      replace h29 := hidH h29
      replace h30 := hidH h30
      replace h31 := hidH h31
      replace o31 := hidH o31
      go_wp2
      exact (HJ.out _ _ _).2 ⟨_, _, _, _, _, _, _, _, _, _, _, _, _, _, _, _, _, _, _, _, _, _, _, _, _, _, _, _, _, _, _, _, rfl, hE, hE0, hE20, hO, hU, hBW, hW, hG, o31.out, h0.out, h1.out, h2.out, h3.out, h4.out, h5.out, h6.out, h7.out, h8.out, h9.out, fun _ => rfl, h11.out, h12.out, h13.out, h14.out, h15.out, h16.out, h17.out, h18.out, h19.out, h20.out, h21.out, h22.out, h23.out, h24.out, h25.out, h26.out, h27.out, h28.out, h29.out, h30.out, h31.out⟩
    | 11, _ =>
      obtain ⟨ty, ps, af, ho⟩ := op_lit hops (i := 11) (op := Op.move (Operand.tmp 11)) (dst := some 41) (g := none) rfl
      refine wpOp_lit ho (fun j b h => by cases h) ?_
      clear hops hdep ho
      replace h0 := hidH h0
      replace h1 := hidH h1
      replace h2 := hidH h2
      replace h3 := hidH h3
      replace h4 := hidH h4
      replace h5 := hidH h5
      replace h6 := hidH h6
      replace h7 := hidH h7
      replace h8 := hidH h8
      replace h9 := hidH h9
      replace h10 := hidH h10
      replace h12 := hidH h12
      replace h13 := hidH h13
      replace h14 := hidH h14
      replace h15 := hidH h15
      replace h16 := hidH h16
      replace h17 := hidH h17
      replace h18 := hidH h18
      replace h19 := hidH h19
      replace h20 := hidH h20
      replace h21 := hidH h21
      replace h22 := hidH h22
      replace h23 := hidH h23
      replace h24 := hidH h24
      replace h25 := hidH h25
      replace h26 := hidH h26
      replace h27 := hidH h27
      replace h28 := hidH h28
      replace h29 := hidH h29
      replace h30 := hidH h30
      replace h31 := hidH h31
      replace o31 := hidH o31
      go_wp2
      exact (HJ.out _ _ _).2 ⟨_, _, _, _, _, _, _, _, _, _, _, _, _, _, _, _, _, _, _, _, _, _, _, _, _, _, _, _, _, _, _, _, rfl, hE, hE0, hE20, hO, hU, hBW, hW, hG, o31.out, h0.out, h1.out, h2.out, h3.out, h4.out, h5.out, h6.out, h7.out, h8.out, h9.out, h10.out, fun _ => rfl, h12.out, h13.out, h14.out, h15.out, h16.out, h17.out, h18.out, h19.out, h20.out, h21.out, h22.out, h23.out, h24.out, h25.out, h26.out, h27.out, h28.out, h29.out, h30.out, h31.out⟩
    | 12, _ =>
      obtain ⟨ty, ps, af, ho⟩ := op_lit hops (i := 12) (op := Op.binOp BinOp.eql 2 (Operand.tmp 41) ((Operand.const (Value.int .i64 0))) 2) (dst := some 42) (g := none) rfl
      obtain rfl := h11 (hdep 11 (by simp))
      refine wpOp_lit ho (fun j b h => by cases h) ?_
      clear hops hdep ho
      replace h0 := hidH h0
      replace h1 := hidH h1
      replace h2 := hidH h2
      replace h3 := hidH h3
      replace h4 := hidH h4
      replace h5 := hidH h5
      replace h6 := hidH h6
      replace h7 := hidH h7
      replace h8 := hidH h8
      replace h9 := hidH h9
      replace h10 := hidH h10
      replace h11 := hidH h11
      replace h13 := hidH h13
      replace h14 := hidH h14
      replace h15 := hidH h15
      replace h16 := hidH h16
      replace h17 := hidH h17
      replace h18 := hidH h18
      replace h19 := hidH h19
      replace h20 := hidH h20
      replace h21 := hidH h21
      replace h22 := hidH h22
      replace h23 := hidH h23
      replace h24 := hidH h24
      replace h25 := hidH h25
      replace h26 := hidH h26
      replace h27 := hidH h27
      replace h28 := hidH h28
      replace h29 := hidH h29
      replace h30 := hidH h30
      replace h31 := hidH h31
      replace o31 := hidH o31
      have hA1 := hfb
      go_wp2
      exact (HJ.out _ _ _).2 ⟨_, _, _, _, _, _, _, _, _, _, _, _, _, _, _, _, _, _, _, _, _, _, _, _, _, _, _, _, _, _, _, _, rfl, hE, hE0, hE20, hO, hU, hBW, hW, hG, o31.out, h0.out, h1.out, h2.out, h3.out, h4.out, h5.out, h6.out, h7.out, h8.out, h9.out, h10.out, fun _ => rfl, fun _ => rfl, h13.out, h14.out, h15.out, h16.out, h17.out, h18.out, h19.out, h20.out, h21.out, h22.out, h23.out, h24.out, h25.out, h26.out, h27.out, h28.out, h29.out, h30.out, h31.out⟩
    | 13, _ =>
      obtain ⟨ty, ps, af, ho⟩ := op_lit hops (i := 13) (op := Op.move (Operand.tmp 12)) (dst := some 43) (g := none) rfl
      refine wpOp_lit ho (fun j b h => by cases h) ?_
      clear hops hdep ho
      replace h0 := hidH h0
      replace h1 := hidH h1
      replace h2 := hidH h2
      replace h3 := hidH h3
      replace h4 := hidH h4
      replace h5 := hidH h5
      replace h6 := hidH h6
      replace h7 := hidH h7
      replace h8 := hidH h8
      replace h9 := hidH h9
      replace h10 := hidH h10
      replace h11 := hidH h11
      replace h12 := hidH h12
      replace h14 := hidH h14
      replace h15 := hidH h15
      replace h16 := hidH h16
      replace h17 := hidH h17
      replace h18 := hidH h18
      replace h19 := hidH h19
      replace h20 := hidH h20
      replace h21 := hidH h21
      replace h22 := hidH h22
      replace h23 := hidH h23
      replace h24 := hidH h24
      replace h25 := hidH h25
      replace h26 := hidH h26
      replace h27 := hidH h27
      replace h28 := hidH h28
      replace h29 := hidH h29
      replace h30 := hidH h30
      replace h31 := hidH h31
      replace o31 := hidH o31
      go_wp2
      exact (HJ.out _ _ _).2 ⟨_, _, _, _, _, _, _, _, _, _, _, _, _, _, _, _, _, _, _, _, _, _, _, _, _, _, _, _, _, _, _, _, rfl, hE, hE0, hE20, hO, hU, hBW, hW, hG, o31.out, h0.out, h1.out, h2.out, h3.out, h4.out, h5.out, h6.out, h7.out, h8.out, h9.out, h10.out, h11.out, h12.out, fun _ => rfl, h14.out, h15.out, h16.out, h17.out, h18.out, h19.out, h20.out, h21.out, h22.out, h23.out, h24.out, h25.out, h26.out, h27.out, h28.out, h29.out, h30.out, h31.out⟩
    | 14, _ =>
      obtain ⟨ty, ps, af, ho⟩ := op_lit hops (i := 14) (op := Op.move (Operand.tmp 10)) (dst := some 44) (g := none) rfl
      refine wpOp_lit ho (fun j b h => by cases h) ?_
      clear hops hdep ho
      replace h0 := hidH h0
      replace h1 := hidH h1
      replace h2 := hidH h2
      replace h3 := hidH h3
      replace h4 := hidH h4
      replace h5 := hidH h5
      replace h6 := hidH h6
      replace h7 := hidH h7
      replace h8 := hidH h8
      replace h9 := hidH h9
      replace h10 := hidH h10
      replace h11 := hidH h11
      replace h12 := hidH h12
      replace h13 := hidH h13
      replace h15 := hidH h15
      replace h16 := hidH h16
      replace h17 := hidH h17
      replace h18 := hidH h18
      replace h19 := hidH h19
      replace h20 := hidH h20
      replace h21 := hidH h21
      replace h22 := hidH h22
      replace h23 := hidH h23
      replace h24 := hidH h24
      replace h25 := hidH h25
      replace h26 := hidH h26
      replace h27 := hidH h27
      replace h28 := hidH h28
      replace h29 := hidH h29
      replace h30 := hidH h30
      replace h31 := hidH h31
      replace o31 := hidH o31
      go_wp2
      exact (HJ.out _ _ _).2 ⟨_, _, _, _, _, _, _, _, _, _, _, _, _, _, _, _, _, _, _, _, _, _, _, _, _, _, _, _, _, _, _, _, rfl, hE, hE0, hE20, hO, hU, hBW, hW, hG, o31.out, h0.out, h1.out, h2.out, h3.out, h4.out, h5.out, h6.out, h7.out, h8.out, h9.out, h10.out, h11.out, h12.out, h13.out, fun _ => rfl, h15.out, h16.out, h17.out, h18.out, h19.out, h20.out, h21.out, h22.out, h23.out, h24.out, h25.out, h26.out, h27.out, h28.out, h29.out, h30.out, h31.out⟩
    | 15, _ =>
      obtain ⟨ty, ps, af, ho⟩ := op_lit hops (i := 15) (op := Op.binOp BinOp.eql 2 (Operand.tmp 43) (Operand.tmp 44) 2) (dst := some 45) (g := none) rfl
      obtain rfl := h13 (hdep 13 (by simp))
      obtain rfl := h14 (hdep 14 (by simp))
      refine wpOp_lit ho (fun j b h => by cases h) ?_
      clear hops hdep ho
      replace h0 := hidH h0
      replace h1 := hidH h1
      replace h2 := hidH h2
      replace h3 := hidH h3
      replace h4 := hidH h4
      replace h5 := hidH h5
      replace h6 := hidH h6
      replace h7 := hidH h7
      replace h8 := hidH h8
      replace h9 := hidH h9
      replace h10 := hidH h10
      replace h11 := hidH h11
      replace h12 := hidH h12
      replace h13 := hidH h13
      replace h14 := hidH h14
      replace h16 := hidH h16
      replace h17 := hidH h17
      replace h18 := hidH h18
      replace h19 := hidH h19
      replace h20 := hidH h20
      replace h21 := hidH h21
      replace h22 := hidH h22
      replace h23 := hidH h23
      replace h24 := hidH h24
      replace h25 := hidH h25
      replace h26 := hidH h26
      replace h27 := hidH h27
      replace h28 := hidH h28
      replace h29 := hidH h29
      replace h30 := hidH h30
      replace h31 := hidH h31
      replace o31 := hidH o31
      have hA1 := hlb
      go_wp2
      exact (HJ.out _ _ _).2 ⟨_, _, _, _, _, _, _, _, _, _, _, _, _, _, _, _, _, _, _, _, _, _, _, _, _, _, _, _, _, _, _, _, rfl, hE, hE0, hE20, hO, hU, hBW, hW, hG, o31.out, h0.out, h1.out, h2.out, h3.out, h4.out, h5.out, h6.out, h7.out, h8.out, h9.out, h10.out, h11.out, h12.out, fun _ => rfl, fun _ => rfl, fun _ => rfl, h16.out, h17.out, h18.out, h19.out, h20.out, h21.out, h22.out, h23.out, h24.out, h25.out, h26.out, h27.out, h28.out, h29.out, h30.out, h31.out⟩
    | 16, _ =>
      obtain ⟨ty, ps, af, ho⟩ := op_lit hops (i := 16) (op := Op.move (Operand.tmp 0)) (dst := some 46) (g := none) rfl
      refine wpOp_lit ho (fun j b h => by cases h) ?_
      clear hops hdep ho
      replace h0 := hidH h0
      replace h1 := hidH h1
      replace h2 := hidH h2
      replace h3 := hidH h3
      replace h4 := hidH h4
      replace h5 := hidH h5
      replace h6 := hidH h6
      replace h7 := hidH h7
      replace h8 := hidH h8
      replace h9 := hidH h9
      replace h10 := hidH h10
      replace h11 := hidH h11
      replace h12 := hidH h12
      replace h13 := hidH h13
      replace h14 := hidH h14
      replace h15 := hidH h15
      replace h17 := hidH h17
      replace h18 := hidH h18
      replace h19 := hidH h19
      replace h20 := hidH h20
      replace h21 := hidH h21
      replace h22 := hidH h22
      replace h23 := hidH h23
      replace h24 := hidH h24
      replace h25 := hidH h25
      replace h26 := hidH h26
      replace h27 := hidH h27
      replace h28 := hidH h28
      replace h29 := hidH h29
      replace h30 := hidH h30
      replace h31 := hidH h31
      replace o31 := hidH o31
      go_wp2
      exact (HJ.out _ _ _).2 ⟨_, _, _, _, _, _, _, _, _, _, _, _, _, _, _, _, _, _, _, _, _, _, _, _, _, _, _, _, _, _, _, _, rfl, hE, hE0, hE20, hO, hU, hBW, hW, hG, o31.out, h0.out, h1.out, h2.out, h3.out, h4.out, h5.out, h6.out, h7.out, h8.out, h9.out, h10.out, h11.out, h12.out, h13.out, h14.out, h15.out, fun _ => rfl, h17.out, h18.out, h19.out, h20.out, h21.out, h22.out, h23.out, h24.out, h25.out, h26.out, h27.out, h28.out, h29.out, h30.out, h31.out⟩
    | 17, _ =>
      obtain ⟨ty, ps, af, ho⟩ := op_lit hops (i := 17) (op := Op.nilCheck (Operand.tmp 46)) (dst := some 47) (g := none) rfl
      obtain rfl := h16 (hdep 16 (by simp))
      refine wpOp_lit ho (fun j b h => by cases h) ?_
      clear hops hdep ho
      replace h0 := hidH h0
      replace h1 := hidH h1
      replace h2 := hidH h2
      replace h3 := hidH h3
      replace h4 := hidH h4
      replace h5 := hidH h5
      replace h6 := hidH h6
      replace h7 := hidH h7
      replace h8 := hidH h8
      replace h9 := hidH h9
      replace h10 := hidH h10
      replace h11 := hidH h11
      replace h12 := hidH h12
      replace h13 := hidH h13
      replace h14 := hidH h14
      replace h15 := hidH h15
      replace h16 := hidH h16
      replace h18 := hidH h18
      replace h19 := hidH h19
      replace h20 := hidH h20
      replace h21 := hidH h21
      replace h22 := hidH h22
      replace h23 := hidH h23
      replace h24 := hidH h24
      replace h25 := hidH h25
      replace h26 := hidH h26
      replace h27 := hidH h27
      replace h28 := hidH h28
      replace h29 := hidH h29
      replace h30 := hidH h30
      replace h31 := hidH h31
      replace o31 := hidH o31
      go_wp2
      exact (HJ.out _ _ _).2 ⟨_, _, _, _, _, _, _, _, _, _, _, _, _, _, _, _, _, _, _, _, _, _, _, _, _, _, _, _, _, _, _, _, rfl, hE, hE0, hE20, hO, hU, hBW, hW, hG, o31.out, h0.out, h1.out, h2.out, h3.out, h4.out, h5.out, h6.out, h7.out, h8.out, h9.out, h10.out, h11.out, h12.out, h13.out, h14.out, h15.out, fun _ => rfl, fun _ => rfl, h18.out, h19.out, h20.out, h21.out, h22.out, h23.out, h24.out, h25.out, h26.out, h27.out, h28.out, h29.out, h30.out, h31.out⟩
    | 18, _ =>
      obtain ⟨ty, ps, af, ho⟩ := op_lit hops (i := 18) (op := Op.fieldAddr 57 (Operand.tmp 47) 1) (dst := some 48) (g := none) rfl
      obtain rfl := h17 (hdep 17 (by simp))
      refine wpOp_lit ho (fun j b h => by cases h) ?_
      clear hops hdep ho
      replace h0 := hidH h0
      replace h1 := hidH h1
      replace h2 := hidH h2
      replace h3 := hidH h3
      replace h4 := hidH h4
      replace h5 := hidH h5
      replace h6 := hidH h6
      replace h7 := hidH h7
      replace h8 := hidH h8
      replace h9 := hidH h9
      replace h10 := hidH h10
      replace h11 := hidH h11
      replace h12 := hidH h12
      replace h13 := hidH h13
      replace h14 := hidH h14
      replace h15 := hidH h15
      replace h16 := hidH h16
      replace h17 := hidH h17
      replace h19 := hidH h19
      replace h20 := hidH h20
      replace h21 := hidH h21
      replace h22 := hidH h22
      replace h23 := hidH h23
      replace h24 := hidH h24
      replace h25 := hidH h25
      replace h26 := hidH h26
      replace h27 := hidH h27
      replace h28 := hidH h28
      replace h29 := hidH h29
      replace h30 := hidH h30
      replace h31 := hidH h31
      replace o31 := hidH o31
      go_wp2
      exact (HJ.out _ _ _).2 ⟨_, _, _, _, _, _, _, _, _, _, _, _, _, _, _, _, _, _, _, _, _, _, _, _, _, _, _, _, _, _, _, _, rfl, hE, hE0, hE20, hO, hU, hBW, hW, hG, o31.out, h0.out, h1.out, h2.out, h3.out, h4.out, h5.out, h6.out, h7.out, h8.out, h9.out, h10.out, h11.out, h12.out, h13.out, h14.out, h15.out, h16.out, fun _ => rfl, fun _ => rfl, h19.out, h20.out, h21.out, h22.out, h23.out, h24.out, h25.out, h26.out, h27.out, h28.out, h29.out, h30.out, h31.out⟩
    | 19, _ =>
      obtain ⟨ty, ps, af, ho⟩ := op_lit hops (i := 19) (op := Op.load 4 (Operand.tmp 48)) (dst := some 49) (g := none) rfl
      obtain rfl := h18 (hdep 18 (by simp))
      refine wpOp_lit ho (fun j b h => by cases h) ?_
      clear hops hdep ho
      replace h0 := hidH h0
      replace h1 := hidH h1
      replace h2 := hidH h2
      replace h3 := hidH h3
      replace h4 := hidH h4
      replace h5 := hidH h5
      replace h6 := hidH h6
      replace h7 := hidH h7
      replace h8 := hidH h8
      replace h9 := hidH h9
      replace h10 := hidH h10
      replace h11 := hidH h11
      replace h12 := hidH h12
      replace h13 := hidH h13
      replace h14 := hidH h14
      replace h15 := hidH h15
      replace h16 := hidH h16
      replace h17 := hidH h17
      replace h18 := hidH h18
      replace h20 := hidH h20
      replace h21 := hidH h21
      replace h22 := hidH h22
      replace h23 := hidH h23
      replace h24 := hidH h24
      replace h25 := hidH h25
      replace h26 := hidH h26
      replace h27 := hidH h27
      replace h28 := hidH h28
      replace h29 := hidH h29
      replace h30 := hidH h30
      replace h31 := hidH h31
      replace o31 := hidH o31
      have hb := Below.refl W.heap.size W
      have q := (hO.cell (p := ⟨gm, 1, none⟩) hgm).trans r1
      go_wp2
      exact (HJ.out _ _ _).2 ⟨_, _, _, _, _, _, _, _, _, _, _, _, _, _, _, _, _, _, _, _, _, _, _, _, _, _, _, _, _, _, _, _, rfl, hE, hE0, hE20, hO.trans (hb.mono hBW), hU.trans (B8.of_below hb), Nat.le_trans hBW hb.size, Nat.le_trans hW hb.size, fun h => own_below0 (hG h) hb, o31.out, h0.out, h1.out, h2.out, h3.out, h4.out, h5.out, h6.out, h7.out, h8.out, h9.out, h10.out, h11.out, h12.out, h13.out, h14.out, h15.out, h16.out, h17.out, fun _ => rfl, fun _ => rfl, h20.out, h21.out, h22.out, h23.out, h24.out, h25.out, h26.out, fun h => by obtain ⟨A9, c9, q1, q2⟩ := h27.out h; exact ⟨A9, c9, q1, own_below0 q2 hb⟩, fun h => by obtain ⟨A9, c9, q1, q2⟩ := h28.out h; exact ⟨A9, c9, q1, own_below0 q2 hb⟩, (fun h h2 => by obtain ⟨q, A9, c9, q1, q2, q3⟩ := h29.out h h2; exact ⟨q, A9, c9, q1, q2.below hb, own_below0 q3 hb⟩), fun h => by obtain ⟨A9, c9, q1, q2⟩ := h30.out h; exact ⟨A9, c9, own_below0 q1 hb, own_below0 q2 hb⟩, fun h => by obtain ⟨A9, c9, q1, q2⟩ := h31.out h; exact ⟨A9, c9, own_below0 q1 hb, own_below0 q2 hb⟩⟩
    | 20, _ =>
      obtain ⟨ty, ps, af, ho⟩ := op_lit hops (i := 20) (op := Op.move (Operand.tmp 0)) (dst := some 50) (g := none) rfl
      refine wpOp_lit ho (fun j b h => by cases h) ?_
      clear hops hdep ho
      replace h0 := hidH h0
      replace h1 := hidH h1
      replace h2 := hidH h2
      replace h3 := hidH h3
      replace h4 := hidH h4
      replace h5 := hidH h5
      replace h6 := hidH h6
      replace h7 := hidH h7
      replace h8 := hidH h8
      replace h9 := hidH h9
      replace h10 := hidH h10
      replace h11 := hidH h11
      replace h12 := hidH h12
      replace h13 := hidH h13
      replace h14 := hidH h14
      replace h15 := hidH h15
      replace h16 := hidH h16
      replace h17 := hidH h17
      replace h18 := hidH h18
      replace h19 := hidH h19
      replace h21 := hidH h21
      replace h22 := hidH h22
      replace h23 := hidH h23
      replace h24 := hidH h24
      replace h25 := hidH h25
      replace h26 := hidH h26
      replace h27 := hidH h27
      replace h28 := hidH h28
      replace h29 := hidH h29
      replace h30 := hidH h30
      replace h31 := hidH h31
      replace o31 := hidH o31
      go_wp2
      exact (HJ.out _ _ _).2 ⟨_, _, _, _, _, _, _, _, _, _, _, _, _, _, _, _, _, _, _, _, _, _, _, _, _, _, _, _, _, _, _, _, rfl, hE, hE0, hE20, hO, hU, hBW, hW, hG, o31.out, h0.out, h1.out, h2.out, h3.out, h4.out, h5.out, h6.out, h7.out, h8.out, h9.out, h10.out, h11.out, h12.out, h13.out, h14.out, h15.out, h16.out, h17.out, h18.out, h19.out, fun _ => rfl, h21.out, h22.out, h23.out, h24.out, h25.out, h26.out, h27.out, h28.out, h29.out, h30.out, h31.out⟩
    | 21, _ =>
      obtain ⟨ty, ps, af, ho⟩ := op_lit hops (i := 21) (op := Op.nilCheck (Operand.tmp 50)) (dst := some 51) (g := none) rfl
      obtain rfl := h20 (hdep 20 (by simp))
      refine wpOp_lit ho (fun j b h => by cases h) ?_
      clear hops hdep ho
      replace h0 := hidH h0
      replace h1 := hidH h1
      replace h2 := hidH h2
      replace h3 := hidH h3
      replace h4 := hidH h4
      replace h5 := hidH h5
      replace h6 := hidH h6
      replace h7 := hidH h7
      replace h8 := hidH h8
      replace h9 := hidH h9
      replace h10 := hidH h10
      replace h11 := hidH h11
      replace h12 := hidH h12
      replace h13 := hidH h13
      replace h14 := hidH h14
      replace h15 := hidH h15
      replace h16 := hidH h16
      replace h17 := hidH h17
      replace h18 := hidH h18
      replace h19 := hidH h19
      replace h20 := hidH h20
      replace h22 := hidH h22
      replace h23 := hidH h23
      replace h24 := hidH h24
      replace h25 := hidH h25
      replace h26 := hidH h26
      replace h27 := hidH h27
      replace h28 := hidH h28
      replace h29 := hidH h29
      replace h30 := hidH h30
      replace h31 := hidH h31
      replace o31 := hidH o31
      go_wp2
      exact (HJ.out _ _ _).2 ⟨_, _, _, _, _, _, _, _, _, _, _, _, _, _, _, _, _, _, _, _, _, _, _, _, _, _, _, _, _, _, _, _, rfl, hE, hE0, hE20, hO, hU, hBW, hW, hG, o31.out, h0.out, h1.out, h2.out, h3.out, h4.out, h5.out, h6.out, h7.out, h8.out, h9.out, h10.out, h11.out, h12.out, h13.out, h14.out, h15.out, h16.out, h17.out, h18.out, h19.out, fun _ => rfl, fun _ => rfl, h22.out, h23.out, h24.out, h25.out, h26.out, h27.out, h28.out, h29.out, h30.out, h31.out⟩
    | 22, _ =>
      obtain ⟨ty, ps, af, ho⟩ := op_lit hops (i := 22) (op := Op.fieldAddr 57 (Operand.tmp 51) 2) (dst := some 52) (g := none) rfl
      obtain rfl := h21 (hdep 21 (by simp))
      refine wpOp_lit ho (fun j b h => by cases h) ?_
      clear hops hdep ho
      replace h0 := hidH h0
      replace h1 := hidH h1
      replace h2 := hidH h2
      replace h3 := hidH h3
      replace h4 := hidH h4
      replace h5 := hidH h5
      replace h6 := hidH h6
      replace h7 := hidH h7
      replace h8 := hidH h8
      replace h9 := hidH h9
      replace h10 := hidH h10
      replace h11 := hidH h11
      replace h12 := hidH h12
      replace h13 := hidH h13
      replace h14 := hidH h14
      replace h15 := hidH h15
      replace h16 := hidH h16
      replace h17 := hidH h17
      replace h18 := hidH h18
      replace h19 := hidH h19
      replace h20 := hidH h20
      replace h21 := hidH h21
      replace h23 := hidH h23
      replace h24 := hidH h24
      replace h25 := hidH h25
      replace h26 := hidH h26
      replace h27 := hidH h27
      replace h28 := hidH h28
      replace h29 := hidH h29
      replace h30 := hidH h30
      replace h31 := hidH h31
      replace o31 := hidH o31
      go_wp2
      exact (HJ.out _ _ _).2 ⟨_, _, _, _, _, _, _, _, _, _, _, _, _, _, _, _, _, _, _, _, _, _, _, _, _, _, _, _, _, _, _, _, rfl, hE, hE0, hE20, hO, hU, hBW, hW, hG, o31.out, h0.out, h1.out, h2.out, h3.out, h4.out, h5.out, h6.out, h7.out, h8.out, h9.out, h10.out, h11.out, h12.out, h13.out, h14.out, h15.out, h16.out, h17.out, h18.out, h19.out, h20.out, fun _ => rfl, fun _ => rfl, h23.out, h24.out, h25.out, h26.out, h27.out, h28.out, h29.out, h30.out, h31.out⟩
    | 23, _ =>
      obtain ⟨ty, ps, af, ho⟩ := op_lit hops (i := 23) (op := Op.load 22 (Operand.tmp 52)) (dst := some 53) (g := none) rfl
      obtain rfl := h22 (hdep 22 (by simp))
      refine wpOp_lit ho (fun j b h => by cases h) ?_
      clear hops hdep ho
      replace h0 := hidH h0
      replace h1 := hidH h1
      replace h2 := hidH h2
      replace h3 := hidH h3
      replace h4 := hidH h4
      replace h5 := hidH h5
      replace h6 := hidH h6
      replace h7 := hidH h7
      replace h8 := hidH h8
      replace h9 := hidH h9
      replace h10 := hidH h10
      replace h11 := hidH h11
      replace h12 := hidH h12
      replace h13 := hidH h13
      replace h14 := hidH h14
      replace h15 := hidH h15
      replace h16 := hidH h16
      replace h17 := hidH h17
      replace h18 := hidH h18
      replace h19 := hidH h19
      replace h20 := hidH h20
      replace h21 := hidH h21
      replace h22 := hidH h22
      replace h24 := hidH h24
      replace h25 := hidH h25
      replace h26 := hidH h26
      replace h27 := hidH h27
      replace h28 := hidH h28
      replace h29 := hidH h29
      replace h30 := hidH h30
      replace h31 := hidH h31
      replace o31 := hidH o31
      have hb := Below.refl W.heap.size W
      have q := (hO.cell (p := ⟨gm, 2, none⟩) hgm).trans r2
      go_wp2
      exact (HJ.out _ _ _).2 ⟨_, _, _, _, _, _, _, _, _, _, _, _, _, _, _, _, _, _, _, _, _, _, _, _, _, _, _, _, _, _, _, _, rfl, hE, hE0, hE20, hO.trans (hb.mono hBW), hU.trans (B8.of_below hb), Nat.le_trans hBW hb.size, Nat.le_trans hW hb.size, fun h => own_below0 (hG h) hb, o31.out, h0.out, h1.out, h2.out, h3.out, h4.out, h5.out, h6.out, h7.out, h8.out, h9.out, h10.out, h11.out, h12.out, h13.out, h14.out, h15.out, h16.out, h17.out, h18.out, h19.out, h20.out, h21.out, fun _ => rfl, fun _ => rfl, h24.out, h25.out, h26.out, fun h => by obtain ⟨A9, c9, q1, q2⟩ := h27.out h; exact ⟨A9, c9, q1, own_below0 q2 hb⟩, fun h => by obtain ⟨A9, c9, q1, q2⟩ := h28.out h; exact ⟨A9, c9, q1, own_below0 q2 hb⟩, (fun h h2 => by obtain ⟨q, A9, c9, q1, q2, q3⟩ := h29.out h h2; exact ⟨q, A9, c9, q1, q2.below hb, own_below0 q3 hb⟩), fun h => by obtain ⟨A9, c9, q1, q2⟩ := h30.out h; exact ⟨A9, c9, own_below0 q1 hb, own_below0 q2 hb⟩, fun h => by obtain ⟨A9, c9, q1, q2⟩ := h31.out h; exact ⟨A9, c9, own_below0 q1 hb, own_below0 q2 hb⟩⟩
    | 24, _ =>
      obtain ⟨ty, ps, af, ho⟩ := op_lit hops (i := 24) (op := Op.move (Operand.tmp 11)) (dst := some 54) (g := none) rfl
      refine wpOp_lit ho (fun j b h => by cases h) ?_
      clear hops hdep ho
      replace h0 := hidH h0
      replace h1 := hidH h1
      replace h2 := hidH h2
      replace h3 := hidH h3
      replace h4 := hidH h4
      replace h5 := hidH h5
      replace h6 := hidH h6
      replace h7 := hidH h7
      replace h8 := hidH h8
      replace h9 := hidH h9
      replace h10 := hidH h10
      replace h11 := hidH h11
      replace h12 := hidH h12
      replace h13 := hidH h13
      replace h14 := hidH h14
      replace h15 := hidH h15
      replace h16 := hidH h16
      replace h17 := hidH h17
      replace h18 := hidH h18
      replace h19 := hidH h19
      replace h20 := hidH h20
      replace h21 := hidH h21
      replace h22 := hidH h22
      replace h23 := hidH h23
      replace h25 := hidH h25
      replace h26 := hidH h26
      replace h27 := hidH h27
      replace h28 := hidH h28
      replace h29 := hidH h29
      replace h30 := hidH h30
      replace h31 := hidH h31
      replace o31 := hidH o31
      go_wp2
      exact (HJ.out _ _ _).2 ⟨_, _, _, _, _, _, _, _, _, _, _, _, _, _, _, _, _, _, _, _, _, _, _, _, _, _, _, _, _, _, _, _, rfl, hE, hE0, hE20, hO, hU, hBW, hW, hG, o31.out, h0.out, h1.out, h2.out, h3.out, h4.out, h5.out, h6.out, h7.out, h8.out, h9.out, h10.out, h11.out, h12.out, h13.out, h14.out, h15.out, h16.out, h17.out, h18.out, h19.out, h20.out, h21.out, h22.out, h23.out, fun _ => rfl, h25.out, h26.out, h27.out, h28.out, h29.out, h30.out, h31.out⟩
    | 25, _ =>
      obtain ⟨ty, ps, af, ho⟩ := op_lit hops (i := 25) (op := Op.move (Operand.tmp 12)) (dst := some 55) (g := none) rfl
      refine wpOp_lit ho (fun j b h => by cases h) ?_
      clear hops hdep ho
      replace h0 := hidH h0
      replace h1 := hidH h1
      replace h2 := hidH h2
      replace h3 := hidH h3
      replace h4 := hidH h4
      replace h5 := hidH h5
      replace h6 := hidH h6
      replace h7 := hidH h7
      replace h8 := hidH h8
      replace h9 := hidH h9
      replace h10 := hidH h10
      replace h11 := hidH h11
      replace h12 := hidH h12
      replace h13 := hidH h13
      replace h14 := hidH h14
      replace h15 := hidH h15
      replace h16 := hidH h16
      replace h17 := hidH h17
      replace h18 := hidH h18
      replace h19 := hidH h19
      replace h20 := hidH h20
      replace h21 := hidH h21
      replace h22 := hidH h22
      replace h23 := hidH h23
      replace h24 := hidH h24
      replace h26 := hidH h26
      replace h27 := hidH h27
      replace h28 := hidH h28
      replace h29 := hidH h29
      replace h30 := hidH h30
      replace h31 := hidH h31
      replace o31 := hidH o31
      go_wp2
      exact (HJ.out _ _ _).2 ⟨_, _, _, _, _, _, _, _, _, _, _, _, _, _, _, _, _, _, _, _, _, _, _, _, _, _, _, _, _, _, _, _, rfl, hE, hE0, hE20, hO, hU, hBW, hW, hG, o31.out, h0.out, h1.out, h2.out, h3.out, h4.out, h5.out, h6.out, h7.out, h8.out, h9.out, h10.out, h11.out, h12.out, h13.out, h14.out, h15.out, h16.out, h17.out, h18.out, h19.out, h20.out, h21.out, h22.out, h23.out, h24.out, fun _ => rfl, h26.out, h27.out, h28.out, h29.out, h30.out, h31.out⟩
    | 26, _ =>
      obtain ⟨ty, ps, af, ho⟩ := op_lit hops (i := 26) (op := Op.slice 22 (Operand.tmp 53) (some (Operand.tmp 54)) (some (Operand.tmp 55)) none) (dst := some 56) (g := none) rfl
      obtain rfl := h23 (hdep 23 (by simp))
      obtain rfl := h24 (hdep 24 (by simp))
      obtain rfl := h25 (hdep 25 (by simp))
      refine wpOp_lit ho (fun j b h => by cases h) ?_
      clear hops hdep ho
      replace h0 := hidH h0
      replace h1 := hidH h1
      replace h2 := hidH h2
      replace h3 := hidH h3
      replace h4 := hidH h4
      replace h5 := hidH h5
      replace h6 := hidH h6
      replace h7 := hidH h7
      replace h8 := hidH h8
      replace h9 := hidH h9
      replace h10 := hidH h10
      replace h11 := hidH h11
      replace h12 := hidH h12
      replace h13 := hidH h13
      replace h14 := hidH h14
      replace h15 := hidH h15
      replace h16 := hidH h16
      replace h17 := hidH h17
      replace h18 := hidH h18
      replace h19 := hidH h19
      replace h20 := hidH h20
      replace h21 := hidH h21
      replace h22 := hidH h22
      replace h23 := hidH h23
      replace h24 := hidH h24
      replace h25 := hidH h25
      replace h27 := hidH h27
      replace h28 := hidH h28
      replace h29 := hidH h29
      replace h30 := hidH h30
      replace h31 := hidH h31
      replace o31 := hidH o31
      have hs := cut_lh A K c p l.length ((p : Int) + (l.length : Int)) rfl hpc W
      go_wp2
      exact (HJ.out _ _ _).2 ⟨_, _, _, _, _, _, _, _, _, _, _, _, _, _, _, _, _, _, _, _, _, _, _, _, _, _, _, _, _, _, _, _, rfl, hE, hE0, hE20, hO, hU, hBW, hW, hG, o31.out, h0.out, h1.out, h2.out, h3.out, h4.out, h5.out, h6.out, h7.out, h8.out, h9.out, h10.out, h11.out, h12.out, h13.out, h14.out, h15.out, h16.out, h17.out, h18.out, h19.out, h20.out, h21.out, h22.out, fun _ => rfl, fun _ => rfl, fun _ => rfl, fun _ => rfl, h27.out, h28.out, h29.out, h30.out, h31.out⟩
    | 27, _ =>
      obtain ⟨ty, ps, af, ho⟩ := op_lit hops (i := 27) (op := Op.call { callee := Callee.value (Operand.func 148), args := #[(Operand.tmp 56)], argTypes := #[22] }) (dst := some 57) (g := none) rfl
      obtain rfl := h26 (hdep 26 (by simp))
      refine wpOp_lit ho (fun j b h => by cases h) ?_
      clear hops hdep ho
      replace h0 := hidH h0
      replace h1 := hidH h1
      replace h2 := hidH h2
      replace h3 := hidH h3
      replace h4 := hidH h4
      replace h5 := hidH h5
      replace h6 := hidH h6
      replace h7 := hidH h7
      replace h8 := hidH h8
      replace h9 := hidH h9
      replace h10 := hidH h10
      replace h11 := hidH h11
      replace h12 := hidH h12
      replace h13 := hidH h13
      replace h14 := hidH h14
      replace h15 := hidH h15
      replace h16 := hidH h16
      replace h17 := hidH h17
      replace h18 := hidH h18
      replace h19 := hidH h19
      replace h20 := hidH h20
      replace h21 := hidH h21
      replace h22 := hidH h22
      replace h23 := hidH h23
      replace h24 := hidH h24
      replace h25 := hidH h25
      replace h26 := hidH h26
      replace h28 := hidH h28
      replace h29 := hidH h29
      replace h30 := hidH h30
      replace h31 := hidH h31
      replace o31 := hidH o31
      have hS0 := hW
      have HC := hidH (copy_any (cutA A p c) l (c - p) W (HA.out W hO) hl.out)
      go_wp2_with fail
      refine HC.out.mono ?_
      rintro e w9 ⟨v9, rfl, o9, hb⟩
      obtain ⟨A9, c9, rfl⟩ := own_lenT o9
      have O9 := hidH (own_monoT o9 hS0)
      clear o9
      go_wp2
      exact (HJ.out _ _ _).2 ⟨_, _, _, _, _, _, _, _, _, _, _, _, _, _, _, _, _, _, _, _, _, _, _, _, _, _, _, _, _, _, _, _, rfl, hE, hE0, hE20, hO.trans (hb.mono hBW), hU.trans (B8.of_below hb), Nat.le_trans hBW hb.size, Nat.le_trans hW hb.size, fun h => own_below0 (hG h) hb, o31.out, h0.out, h1.out, h2.out, h3.out, h4.out, h5.out, h6.out, h7.out, h8.out, h9.out, h10.out, h11.out, h12.out, h13.out, h14.out, h15.out, h16.out, h17.out, h18.out, h19.out, h20.out, h21.out, h22.out, h23.out, h24.out, h25.out, fun _ => rfl, fun _ => ⟨A9, c9, rfl, O9.out⟩, fun h => by obtain ⟨A9, c9, q1, q2⟩ := h28.out h; exact ⟨A9, c9, q1, own_below0 q2 hb⟩, (fun h h2 => by obtain ⟨q, A9, c9, q1, q2, q3⟩ := h29.out h h2; exact ⟨q, A9, c9, q1, q2.below hb, own_below0 q3 hb⟩), fun h => by obtain ⟨A9, c9, q1, q2⟩ := h30.out h; exact ⟨A9, c9, own_below0 q1 hb, own_below0 q2 hb⟩, fun h => by obtain ⟨A9, c9, q1, q2⟩ := h31.out h; exact ⟨A9, c9, own_below0 q1 hb, own_below0 q2 hb⟩⟩
    | 28, _ =>
      obtain ⟨ty, ps, af, ho⟩ := op_lit hops (i := 28) (op := Op.build 69 #[(0, (Operand.tmp 35)), (1, (Operand.tmp 39)), (2, (Operand.tmp 40)), (3, (Operand.tmp 42)), (4, (Operand.tmp 45)), (5, (Operand.tmp 49)), (6, (Operand.tmp 57))]) (dst := some 58) (g := none) rfl
      obtain rfl := h5 (hdep 5 (by simp))
      obtain rfl := h9 (hdep 9 (by simp))
      obtain rfl := h10 (hdep 10 (by simp))
      obtain rfl := h12 (hdep 12 (by simp))
      obtain rfl := h15 (hdep 15 (by simp))
      obtain rfl := h19 (hdep 19 (by simp))
      obtain ⟨A9, c9, rfl, o9⟩ := h27 (hdep 27 (by simp))
      refine wpOp_lit ho (fun j b h => by cases h) ?_
      clear hops hdep ho
      replace h0 := hidH h0
      replace h1 := hidH h1
      replace h2 := hidH h2
      replace h3 := hidH h3
      replace h4 := hidH h4
      replace h5 := hidH h5
      replace h6 := hidH h6
      replace h7 := hidH h7
      replace h8 := hidH h8
      replace h9 := hidH h9
      replace h10 := hidH h10
      replace h11 := hidH h11
      replace h12 := hidH h12
      replace h13 := hidH h13
      replace h14 := hidH h14
      replace h15 := hidH h15
      replace h16 := hidH h16
      replace h17 := hidH h17
      replace h18 := hidH h18
      replace h19 := hidH h19
      replace h20 := hidH h20
      replace h21 := hidH h21
      replace h22 := hidH h22
      replace h23 := hidH h23
      replace h24 := hidH h24
      replace h25 := hidH h25
      replace h26 := hidH h26
      replace h27 := hidH h27
      replace h29 := hidH h29
      replace h30 := hidH h30
      replace h31 := hidH h31
      replace o31 := hidH o31
      go_wp2
      exact (HJ.out _ _ _).2 ⟨_, _, _, _, _, _, _, _, _, _, _, _, _, _, _, _, _, _, _, _, _, _, _, _, _, _, _, _, _, _, _, _, rfl, hE, hE0, hE20, hO, hU, hBW, hW, hG, o31.out, h0.out, h1.out, h2.out, h3.out, h4.out, fun _ => rfl, h6.out, h7.out, h8.out, fun _ => rfl, fun _ => rfl, h11.out, fun _ => rfl, h13.out, h14.out, fun _ => rfl, h16.out, h17.out, h18.out, fun _ => rfl, h20.out, h21.out, h22.out, h23.out, h24.out, h25.out, h26.out, fun _ => ⟨A9, c9, rfl, o9⟩, fun _ => ⟨A9, c9, rfl, o9⟩, h29.out, h30.out, h31.out⟩
    | 29, _ =>
      obtain ⟨ty, ps, af, ho⟩ := op_lit hops (i := 29) (op := Op.buildSlice 25 1 #[(0, (Operand.tmp 58))]) (dst := some 59) (g := none) rfl
      obtain ⟨B9, d9, rfl, p9⟩ := h28 (hdep 28 (by simp))
      refine wpOp_lit ho (fun j b h => by cases h) ?_
      clear hops hdep ho
      replace h0 := hidH h0
      replace h1 := hidH h1
      replace h2 := hidH h2
      replace h3 := hidH h3
      replace h4 := hidH h4
      replace h5 := hidH h5
      replace h6 := hidH h6
      replace h7 := hidH h7
      replace h8 := hidH h8
      replace h9 := hidH h9
      replace h10 := hidH h10
      replace h11 := hidH h11
      replace h12 := hidH h12
      replace h13 := hidH h13
      replace h14 := hidH h14
      replace h15 := hidH h15
      replace h16 := hidH h16
      replace h17 := hidH h17
      replace h18 := hidH h18
      replace h19 := hidH h19
      replace h20 := hidH h20
      replace h21 := hidH h21
      replace h22 := hidH h22
      replace h23 := hidH h23
      replace h24 := hidH h24
      replace h25 := hidH h25
      replace h26 := hidH h26
      replace h27 := hidH h27
      replace h28 := hidH h28
      replace h30 := hidH h30
      replace h31 := hidH h31
      replace o31 := hidH o31
      have hb := bal (Below.refl W.heap.size W) (.cells #[.int .i64 ts, .int .i64 st, .int .i64 sq, .bool fb, .bool lb, .bool ub, .slice B9 l.length d9] 69)
      have KQ := hidH (Blk.new W 69 #[.int .i64 ts, .int .i64 st, .int .i64 sq, .bool fb, .bool lb, .bool ub, .slice B9 l.length d9])
      go_wp2
      exact (HJ.out _ _ _).2 ⟨_, _, _, _, _, _, _, _, _, _, _, _, _, _, _, _, _, _, _, _, _, _, _, _, _, _, _, _, _, _, _, _, rfl, hE, hE0, hE20, hO.trans (hb.mono hBW), hU.trans (B8.of_below hb), Nat.le_trans hBW hb.size, Nat.le_trans hW hb.size, fun h => own_below0 (hG h) hb, o31.out, h0.out, h1.out, h2.out, h3.out, h4.out, h5.out, h6.out, h7.out, h8.out, h9.out, h10.out, h11.out, h12.out, h13.out, h14.out, h15.out, h16.out, h17.out, h18.out, h19.out, h20.out, h21.out, h22.out, h23.out, h24.out, h25.out, h26.out, fun h => by obtain ⟨A9, c9, q1, q2⟩ := h27.out h; exact ⟨A9, c9, q1, own_below0 q2 hb⟩, fun _ => ⟨B9, d9, rfl, own_below0 p9 hb⟩, fun _ => fun _ => ⟨_, B9, d9, rfl, KQ.out, own_below0 p9 hb⟩, fun h => by obtain ⟨A9, c9, q1, q2⟩ := h30.out h; exact ⟨A9, c9, own_below0 q1 hb, own_below0 q2 hb⟩, fun h => by obtain ⟨A9, c9, q1, q2⟩ := h31.out h; exact ⟨A9, c9, own_below0 q1 hb, own_below0 q2 hb⟩⟩
    | 30, _ =>
      obtain ⟨ty, ps, af, ho⟩ := op_lit hops (i := 30) (op := Op.call { callee := Callee.builtin Builtin.append, args := #[(Operand.tmp 30), (Operand.tmp 59)], argTypes := #[25, 25] }) (dst := some 60) (g := none) rfl
      have ow := hidH (hG hdn)
      have hd0 := hidH (hdep 0 (by simp))
      obtain ⟨q, A9, c9, rfl, kq, o9⟩ := h29 (hdep 29 (by simp)) hdn
      obtain rfl := h0 (hdep 0 (by simp))
      refine wpOp_lit ho (fun j b h => by cases h) ?_
      clear hops hdep ho
      replace h0 := hidH h0
      replace h1 := hidH h1
      replace h2 := hidH h2
      replace h3 := hidH h3
      replace h4 := hidH h4
      replace h5 := hidH h5
      replace h6 := hidH h6
      replace h7 := hidH h7
      replace h8 := hidH h8
      replace h9 := hidH h9
      replace h10 := hidH h10
      replace h11 := hidH h11
      replace h12 := hidH h12
      replace h13 := hidH h13
      replace h14 := hidH h14
      replace h15 := hidH h15
      replace h16 := hidH h16
      replace h17 := hidH h17
      replace h18 := hidH h18
      replace h19 := hidH h19
      replace h20 := hidH h20
      replace h21 := hidH h21
      replace h22 := hidH h22
      replace h23 := hidH h23
      replace h24 := hidH h24
      replace h25 := hidH h25
      replace h26 := hidH h26
      replace h27 := hidH h27
      replace h28 := hidH h28
      replace h29 := hidH h29
      replace h31 := hidH h31
      replace o31 := hidH o31
      have hsz2 := hBW
      go_wp2_with (at_builtin; go_loud (refine wpList_append_Da rfl _ _ rfl B _ n xs0 rfl ow.out q _ ts st sq fb lb ub A9 l.length c9 rfl kq hnn.out hsz2 ?_))
      intro v2 w2 o2 hg
      have BB := hidH ((Below.refl B W).grown hg hsz2 (fun x hx => (ow.out.lt x hx).1))
      have U14 := hidH (B8.of_grown hg ow.out (by decide))
      have hgr := hidH hg
      have OO := hidH (own_otherT o9 hg ow.out (by decide))
      have O8 := hidH o2
      clear o2 hg
      go_wp2
      exact (HJ.out _ _ _).2 ⟨_, _, _, _, _, _, _, _, _, _, _, _, _, _, _, _, _, _, _, _, _, _, _, _, _, _, _, _, _, _, _, _, rfl, fun _ => rfl, hE0, fun _ => hd0.out, hO.trans BB.out, hU.trans U14.out, Nat.le_trans hBW BB.out.size, Nat.le_trans hW BB.out.size, (fun h2 => by simp at h2), o31.out, fun _ => rfl, h1.out, h2.out, h3.out, h4.out, h5.out, h6.out, h7.out, h8.out, h9.out, h10.out, h11.out, h12.out, h13.out, h14.out, h15.out, h16.out, h17.out, h18.out, h19.out, h20.out, h21.out, h22.out, h23.out, h24.out, h25.out, h26.out, fun h => by obtain ⟨A9, c9, q1, q2⟩ := h27.out h; exact ⟨A9, c9, q1, own_otherT q2 hgr.out ow.out (by decide)⟩, fun h => by obtain ⟨A9, c9, q1, q2⟩ := h28.out h; exact ⟨A9, c9, q1, own_otherT q2 hgr.out ow.out (by decide)⟩, (fun _ h2 => by simp at h2), fun _ => ⟨A9, c9, O8.out, OO.out⟩, (fun h => by have h3 : dn 30 = true := hE h; rw [hdn] at h3; cases h3)⟩
    | 31, _ =>
      obtain ⟨ty, ps, af, ho⟩ := op_lit hops (i := 31) (op := Op.assign (Operand.tmp 60)) (dst := some 9) (g := none) rfl
      have hd19 := hidH (hdep 30 (by simp))
      obtain ⟨C9, e9, r9, s9⟩ := h30 (hdep 30 (by simp))
      obtain rfl := o31 hdn
      refine wpOp_lit ho (fun j b h => by cases h) ?_
      clear hops hdep ho
      replace h0 := hidH h0
      replace h1 := hidH h1
      replace h2 := hidH h2
      replace h3 := hidH h3
      replace h4 := hidH h4
      replace h5 := hidH h5
      replace h6 := hidH h6
      replace h7 := hidH h7
      replace h8 := hidH h8
      replace h9 := hidH h9
      replace h10 := hidH h10
      replace h11 := hidH h11
      replace h12 := hidH h12
      replace h13 := hidH h13
      replace h14 := hidH h14
      replace h15 := hidH h15
      replace h16 := hidH h16
      replace h17 := hidH h17
      replace h18 := hidH h18
      replace h19 := hidH h19
      replace h20 := hidH h20
      replace h21 := hidH h21
      replace h22 := hidH h22
      replace h23 := hidH h23
      replace h24 := hidH h24
      replace h25 := hidH h25
      replace h26 := hidH h26
      replace h27 := hidH h27
      replace h28 := hidH h28
      replace h29 := hidH h29
      replace h30 := hidH h30
      have hb := Below.refl W.heap.size W
      go_wp2
      exact (HJ.out _ _ _).2 ⟨_, _, _, _, _, _, _, _, _, _, _, _, _, _, _, _, _, _, _, _, _, _, _, _, _, _, _, _, _, _, _, _, rfl, fun _ => hd19.out, fun _ => hE20 hd19.out, hE20, hO.trans (hb.mono hBW), hU.trans (B8.of_below hb), Nat.le_trans hBW hb.size, Nat.le_trans hW hb.size, (fun h => by have h3 : dn 30 = false := h; rw [hd19.out] at h3; cases h3), (fun h => by simp at h), h0.out, h1.out, h2.out, h3.out, h4.out, h5.out, h6.out, h7.out, h8.out, h9.out, h10.out, h11.out, h12.out, h13.out, h14.out, h15.out, h16.out, h17.out, h18.out, h19.out, h20.out, h21.out, h22.out, h23.out, h24.out, h25.out, h26.out, fun h => by obtain ⟨A9, c9, q1, q2⟩ := h27.out h; exact ⟨A9, c9, q1, own_below0 q2 hb⟩, fun h => by obtain ⟨A9, c9, q1, q2⟩ := h28.out h; exact ⟨A9, c9, q1, own_below0 q2 hb⟩, (fun h h2 => by obtain ⟨q, A9, c9, q1, q2, q3⟩ := h29.out h h2; exact ⟨q, A9, c9, q1, q2.below hb, own_below0 q3 hb⟩), fun _ => ⟨C9, e9, own_below0 r9 hb, own_below0 s9 hb⟩, fun _ => ⟨C9, e9, r9, s9⟩⟩
    | n + 32, h => omega
  case fin =>
    clear hops hdeps hback
    rintro dn ac W hJ hall
    obtain ⟨t30, t31, t32, t33, t34, t35, t36, t37, t38, t39, t40, t41, t42, t43, t44, t45, t46, t47, t48, t49, t50, t51, t52, t53, t54, t55, t56, t57, t58, t59, t60, t9, rfl, hE, hE0, hE20, hO, hU, hBW, hW, hG, o31, h0, h1, h2, h3, h4, h5, h6, h7, h8, h9, h10, h11, h12, h13, h14, h15, h16, h17, h18, h19, h20, h21, h22, h23, h24, h25, h26, h27, h28, h29, h30, h31⟩ := (HJ.out _ _ _).1 hJ
    exact fin _ _ _ _ _ _ _ _ _ _ _ _ _ _ _ _ _ _ _ _ _ _ _ _ _ _ _ _ _ _ _ _ W hO hU hBW hW (h31 (hall 31 (by omega)))
end Go.Proofs.Ythljdikcpdokdaa
