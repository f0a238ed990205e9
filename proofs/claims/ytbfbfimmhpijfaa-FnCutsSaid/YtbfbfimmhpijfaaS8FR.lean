/- The region of the law FnCuts that draws its order. -/
import Derived.Test.YtbfbfimmhpijfaaUniR
import Derived.Test.YtbfbfimmhpijfaaRegInv2
namespace Go.Proofs.Ytbfbfimmhpijfaa
open Go.RowKit Go.Deep

theorem fldDR8 (c : Int) (A : Option Addr) (n cp : Nat) (w : World) : (Instr.field 30 (.agg #[.int .i64 c, .slice A n cp]) 0).run Try.prog w = .ok (.int .i64 c) w := by kernel_rfl
theorem fldMR8 (c z1 : Int) (z2 : Bool) (A : Option Addr) (n cp : Nat) (w : World) : (Instr.field 34 (.agg #[.int .i64 c, .int .i64 z1, .bool z2, .slice A n cp]) 0).run Try.prog w = .ok (.int .i64 c) w := by kernel_rfl
set_option maxRecDepth 100000 in
set_option maxHeartbeats 1000000 in
theorem regFu7 {Q : Exit → Act → World → Prop} (x0 x1 x10 x11 x12 x13 x14 x15 x16 x17 x18 x19 x20 x21 x22 x23 x24 x25 x26 x27 x28 x29 v8 : Value) (ww : World) (g3 g7 g9 xn xc : Nat) (st s t q C Jn F : Int) (ub : Bool) (X : Option Addr)
    (hg3 : g3 < ww.heap.size) (hg7 : g7 < ww.heap.size) (hg9 : g9 < ww.heap.size) (m0 : ww.cell? ⟨g3, 0, none⟩ = some (.int .i64 st)) (m1 : ww.cell? ⟨g3, 1, none⟩ = some (.bool ub)) (m2 : ww.cell? ⟨g3, 2, none⟩ = some (.slice X xn xc)) (r7 : ww.cell? ⟨g7, 0, none⟩ = some (.int .i64 C)) (r9 : ww.cell? ⟨g9, 0, none⟩ = some (.int .i64 Jn))
    (B1 : ∀ u : World, Below ww.heap.size ww u → Calls Try.prog 14 #[.agg #[.int .i64 st, .bool ub, .slice X xn xc], .int .i64 s, .int .i64 t, .int .i64 q] u (fun e w' => ∃ (A1 : Option Addr) (n1 c1 : Nat), e = .returned (.agg #[.int .i64 C, .slice A1 n1 c1]) ∧ Below u.heap.size u w'))
    (B2 : ∀ u : World, Below ww.heap.size ww u → Calls Try.prog 15 #[v8] u (fun e w' => ∃ (z1 : Int) (z2 : Bool) (A1 : Option Addr) (n1 c1 : Nat), e = .returned (.agg #[.int .i64 Jn, .int .i64 z1, .bool z2, .slice A1 n1 c1]) ∧ Below u.heap.size u w'))
    (B3 : ∀ u : World, Below ww.heap.size ww u → Calls Try.prog 16 #[.agg #[.int .i64 st, .bool ub, .slice X xn xc]] u (fun e w' => e = .returned (.int .i64 F) ∧ Below u.heap.size u w'))
    (B4 : ∀ u : World, Below ww.heap.size ww u → Calls Try.prog 17 #[.agg #[.int .i64 st, .bool ub, .slice X xn xc]] u (fun e w' => e = .returned (.int .i64 F) ∧ Below u.heap.size u w')) {ops : Array Oper}
    (hops : (ops.map fun o => (o.op, o.dst, o.guard)) = #[(Op.fieldAddr 30 (Operand.tmp 7) 0, some 30, none), (Op.load 2 (Operand.tmp 30), some 31, none), (Op.load 25 (Operand.tmp 3), some 32, none), (Op.move (Operand.tmp 4), some 33, none), (Op.move (Operand.tmp 5), some 34, none), (Op.move (Operand.tmp 6), some 35, none), (Op.call { callee := Callee.value (Operand.func 14), args := #[(Operand.tmp 32), (Operand.tmp 33), (Operand.tmp 34), (Operand.tmp 35)], argTypes := #[25, 2, 2, 2] }, some 36, none), (Op.field 30 (Operand.tmp 36) 0, some 37, none), (Op.binOp BinOp.neq 2 (Operand.tmp 31) (Operand.tmp 37) 2, some 38, none), (Op.move (Operand.tmp 38), some 39, none), (Op.fieldAddr 34 (Operand.tmp 9) 0, some 40, some (9, false)), (Op.load 2 (Operand.tmp 40), some 41, some (9, false)), (Op.move (Operand.tmp 8), some 42, some (9, false)), (Op.call { callee := Callee.value (Operand.func 15), args := #[(Operand.tmp 42)], argTypes := #[28] }, some 43, some (9, false)), (Op.field 34 (Operand.tmp 43) 0, some 44, some (9, false)), (Op.binOp BinOp.neq 2 (Operand.tmp 41) (Operand.tmp 44) 2, some 45, some (9, false)), (Op.pick (Operand.tmp 39) (Operand.const (Value.bool true)) (Operand.tmp 45), some 46, none), (Op.move (Operand.tmp 46), some 47, none), (Op.load 25 (Operand.tmp 3), some 48, some (17, false)), (Op.call { callee := Callee.value (Operand.func 16), args := #[(Operand.tmp 48)], argTypes := #[25] }, some 49, some (17, false)), (Op.load 25 (Operand.tmp 3), some 50, some (17, false)), (Op.call { callee := Callee.value (Operand.func 17), args := #[(Operand.tmp 50)], argTypes := #[25] }, some 51, some (17, false)), (Op.binOp BinOp.neq 2 (Operand.tmp 49) (Operand.tmp 51) 2, some 52, some (17, false)), (Op.pick (Operand.tmp 47) (Operand.const (Value.bool true)) (Operand.tmp 52), some 53, none)])
    (hdeps : ((List.range 24).all fun i => ((fun i => [[], [0], [], [], [], [], [2, 3, 4, 5], [6], [1, 7], [8], [9], [9, 10], [9], [9, 12], [9, 13], [9, 11, 14], [9, 15], [16], [17], [17, 18], [17], [17, 20], [17, 19, 21], [17, 22]].getD i []) i).all fun j => ((ops[i]?).map fun o => o.after.any fun e => Region.binds .any e && e.on == j).getD false) = true)
    (hback : ((List.range 24).all fun i => ((ops[i]?).map fun o => o.after.all fun e => !(Region.binds .any e) || decide (e.on < i)).getD false) = true)
    {a0 : Act} {w0 : World} (ha : a0 = { tmps := #[x0, x1, .bool false, .pointer (some ⟨g3, 0, none⟩), .int .i64 s, .int .i64 t, .int .i64 q, .pointer (some ⟨g7, 0, none⟩), v8, .pointer (some ⟨g9, 0, none⟩), x10, x11, x12, x13, x14, x15, x16, x17, x18, x19, x20, x21, x22, x23, x24, x25, x26, x27, x28, x29, undef, undef, undef, undef, undef, undef, undef, undef, undef, undef, undef, undef, undef, undef, undef, undef, undef, undef, undef, undef, undef, undef, undef, undef, undef, undef, undef, undef, undef, undef, undef, undef, undef, undef, undef, undef, undef, undef, undef, undef, undef, undef, undef, undef, undef, undef, undef, undef, undef, undef, undef, undef, undef, undef, undef, undef, undef, undef, undef, undef, undef, undef, undef, undef, undef, undef, undef, undef, undef, undef, undef, undef, undef, undef, undef, undef, undef, undef, undef, undef, undef, undef, undef, undef, undef, undef, undef, undef, undef, undef, undef, undef, undef], defers := [] }) (hO : Below ww.heap.size ww w0)
    (fin : ∀ t30 t31 t32 t33 t34 t35 t36 t37 t38 t39 t40 t41 t42 t43 t44 t45 t46 t47 t48 t49 t50 t51 t52 (W : World), (Below ww.heap.size ww W) → Q .normal { tmps := #[x0, x1, .bool false, .pointer (some ⟨g3, 0, none⟩), .int .i64 s, .int .i64 t, .int .i64 q, .pointer (some ⟨g7, 0, none⟩), v8, .pointer (some ⟨g9, 0, none⟩), x10, x11, x12, x13, x14, x15, x16, x17, x18, x19, x20, x21, x22, x23, x24, x25, x26, x27, x28, x29, t30, t31, t32, t33, t34, t35, t36, t37, t38, t39, t40, t41, t42, t43, t44, t45, t46, t47, t48, t49, t50, t51, t52, .bool false, undef, undef, undef, undef, undef, undef, undef, undef, undef, undef, undef, undef, undef, undef, undef, undef, undef, undef, undef, undef, undef, undef, undef, undef, undef, undef, undef, undef, undef, undef, undef, undef, undef, undef, undef, undef, undef, undef, undef, undef, undef, undef, undef, undef, undef, undef, undef, undef, undef, undef, undef, undef, undef, undef, undef, undef, undef, undef, undef, undef, undef, undef, undef, undef, undef, undef, undef, undef, undef], defers := [] } W) :
    wpAny Try.prog .any ops Q ops.size (Array.replicate ops.size false) a0 w0 := by
  have hn : ops.size = 24 := by have := congrArg Array.size hops; simpa using this
  obtain ⟨J, HJ⟩ : ∃ J : (Nat → Bool) → Act → World → Prop, ∀ dn ac W, J dn ac W ↔ (fun dn ac W => ∃ t30 t31 t32 t33 t34 t35 t36 t37 t38 t39 t40 t41 t42 t43 t44 t45 t46 t47 t48 t49 t50 t51 t52 t53, ac = { tmps := #[x0, x1, .bool false, .pointer (some ⟨g3, 0, none⟩), .int .i64 s, .int .i64 t, .int .i64 q, .pointer (some ⟨g7, 0, none⟩), v8, .pointer (some ⟨g9, 0, none⟩), x10, x11, x12, x13, x14, x15, x16, x17, x18, x19, x20, x21, x22, x23, x24, x25, x26, x27, x28, x29, t30, t31, t32, t33, t34, t35, t36, t37, t38, t39, t40, t41, t42, t43, t44, t45, t46, t47, t48, t49, t50, t51, t52, t53, undef, undef, undef, undef, undef, undef, undef, undef, undef, undef, undef, undef, undef, undef, undef, undef, undef, undef, undef, undef, undef, undef, undef, undef, undef, undef, undef, undef, undef, undef, undef, undef, undef, undef, undef, undef, undef, undef, undef, undef, undef, undef, undef, undef, undef, undef, undef, undef, undef, undef, undef, undef, undef, undef, undef, undef, undef, undef, undef, undef, undef, undef, undef, undef, undef, undef, undef, undef, undef], defers := [] } ∧ (Below ww.heap.size ww W) ∧ (dn 0 = true → t30 = .pointer (some ⟨g7, 0, none⟩)) ∧ (dn 1 = true → t31 = .int .i64 C) ∧ (dn 2 = true → t32 = .agg #[.int .i64 st, .bool ub, .slice X xn xc]) ∧ (dn 3 = true → t33 = .int .i64 s) ∧ (dn 4 = true → t34 = .int .i64 t) ∧ (dn 5 = true → t35 = .int .i64 q) ∧ (dn 6 = true → ∃ (A1 : Option Addr) (n1 c1 : Nat), t36 = .agg #[.int .i64 C, .slice A1 n1 c1]) ∧ (dn 7 = true → t37 = .int .i64 C) ∧ (dn 8 = true → t38 = .bool false) ∧ (dn 9 = true → t39 = .bool false) ∧ (dn 10 = true → t40 = .pointer (some ⟨g9, 0, none⟩)) ∧ (dn 11 = true → t41 = .int .i64 Jn) ∧ (dn 12 = true → t42 = v8) ∧ (dn 13 = true → ∃ (z1 : Int) (z2 : Bool) (A1 : Option Addr) (n1 c1 : Nat), t43 = .agg #[.int .i64 Jn, .int .i64 z1, .bool z2, .slice A1 n1 c1]) ∧ (dn 14 = true → t44 = .int .i64 Jn) ∧ (dn 15 = true → t45 = .bool false) ∧ (dn 16 = true → t46 = .bool false) ∧ (dn 17 = true → t47 = .bool false) ∧ (dn 18 = true → t48 = .agg #[.int .i64 st, .bool ub, .slice X xn xc]) ∧ (dn 19 = true → t49 = .int .i64 F) ∧ (dn 20 = true → t50 = .agg #[.int .i64 st, .bool ub, .slice X xn xc]) ∧ (dn 21 = true → t51 = .int .i64 F) ∧ (dn 22 = true → t52 = .bool false) ∧ (dn 23 = true → t53 = .bool false)) dn ac W := ⟨_, fun _ _ _ => Iff.rfl⟩
  replace HJ := hidH HJ
  refine region_inv2 24 (fun i => [[], [0], [], [], [], [], [2, 3, 4, 5], [6], [1, 7], [8], [9], [9, 10], [9], [9, 12], [9, 13], [9, 11, 14], [9, 15], [16], [17], [17, 18], [17], [17, 20], [17, 19, 21], [17, 22]].getD i []) J hn hdeps hback ?start ?step ?fin
  case start => exact (HJ.out _ _ _).2 ⟨undef, undef, undef, undef, undef, undef, undef, undef, undef, undef, undef, undef, undef, undef, undef, undef, undef, undef, undef, undef, undef, undef, undef, undef, ha, hO, fun h => by simp at h, fun h => by simp at h, fun h => by simp at h, fun h => by simp at h, fun h => by simp at h, fun h => by simp at h, fun h => by simp at h, fun h => by simp at h, fun h => by simp at h, fun h => by simp at h, fun h => by simp at h, fun h => by simp at h, fun h => by simp at h, fun h => by simp at h, fun h => by simp at h, fun h => by simp at h, fun h => by simp at h, fun h => by simp at h, fun h => by simp at h, fun h => by simp at h, fun h => by simp at h, fun h => by simp at h, fun h => by simp at h, fun h => by simp at h⟩
  all_goals clear ha hO
  case step =>
    clear fin hdeps hback
    intro i hi dn ac W hJ hdn hdep
    obtain ⟨t30, t31, t32, t33, t34, t35, t36, t37, t38, t39, t40, t41, t42, t43, t44, t45, t46, t47, t48, t49, t50, t51, t52, t53, rfl, hO, h0, h1, h2, h3, h4, h5, h6, h7, h8, h9, h10, h11, h12, h13, h14, h15, h16, h17, h18, h19, h20, h21, h22, h23⟩ := (HJ.out _ _ _).1 hJ
    clear hJ
    match i, hi with
    | 0, _ =>
      obtain ⟨ty, ps, af, ho⟩ := op_lit hops (i := 0) (op := Op.fieldAddr 30 (Operand.tmp 7) 0) (dst := some 30) (g := none) rfl
      refine wpOp_lit ho (fun j b h => by cases h) ?_
      clear hops hdep ho
      replace h1 := hidH h1
      replace h2 := hidH h2
      replace h3 := hidH h3
      replace h4 := hidH h4
      replace h5 := hidH h5
      replace h6 := hidH h6
      replace h7 := hidH h7
      replace h8 := hidH h8
      replace h9 := hidH h9
      replace h10 := hidH h10
      replace h11 := hidH h11
      replace h12 := hidH h12
      replace h13 := hidH h13
      replace h14 := hidH h14
      replace h15 := hidH h15
      replace h16 := hidH h16
      replace h17 := hidH h17
      replace h18 := hidH h18
      replace h19 := hidH h19
      replace h20 := hidH h20
      replace h21 := hidH h21
      replace h22 := hidH h22
      replace h23 := hidH h23
      go_wp2
      exact (HJ.out _ _ _).2 ⟨_, _, _, _, _, _, _, _, _, _, _, _, _, _, _, _, _, _, _, _, _, _, _, _, rfl, hO, fun _ => rfl, h1.out, h2.out, h3.out, h4.out, h5.out, h6.out, h7.out, h8.out, h9.out, h10.out, h11.out, h12.out, h13.out, h14.out, h15.out, h16.out, h17.out, h18.out, h19.out, h20.out, h21.out, h22.out, h23.out⟩
    | 1, _ =>
      obtain ⟨ty, ps, af, ho⟩ := op_lit hops (i := 1) (op := Op.load 2 (Operand.tmp 30)) (dst := some 31) (g := none) rfl
      obtain rfl := h0 (hdep 0 (by simp))
      refine wpOp_lit ho (fun j b h => by cases h) ?_
      clear hops hdep ho
      replace h0 := hidH h0
      replace h2 := hidH h2
      replace h3 := hidH h3
      replace h4 := hidH h4
      replace h5 := hidH h5
      replace h6 := hidH h6
      replace h7 := hidH h7
      replace h8 := hidH h8
      replace h9 := hidH h9
      replace h10 := hidH h10
      replace h11 := hidH h11
      replace h12 := hidH h12
      replace h13 := hidH h13
      replace h14 := hidH h14
      replace h15 := hidH h15
      replace h16 := hidH h16
      replace h17 := hidH h17
      replace h18 := hidH h18
      replace h19 := hidH h19
      replace h20 := hidH h20
      replace h21 := hidH h21
      replace h22 := hidH h22
      replace h23 := hidH h23
      have q9 := (hO.cell (p := ⟨g7, 0, none⟩) hg7).trans r7
      go_wp2
      exact (HJ.out _ _ _).2 ⟨_, _, _, _, _, _, _, _, _, _, _, _, _, _, _, _, _, _, _, _, _, _, _, _, rfl, hO, fun _ => rfl, fun _ => rfl, h2.out, h3.out, h4.out, h5.out, h6.out, h7.out, h8.out, h9.out, h10.out, h11.out, h12.out, h13.out, h14.out, h15.out, h16.out, h17.out, h18.out, h19.out, h20.out, h21.out, h22.out, h23.out⟩
    | 2, _ =>
      obtain ⟨ty, ps, af, ho⟩ := op_lit hops (i := 2) (op := Op.load 25 (Operand.tmp 3)) (dst := some 32) (g := none) rfl
      refine wpOp_lit ho (fun j b h => by cases h) ?_
      clear hops hdep ho
      replace h0 := hidH h0
      replace h1 := hidH h1
      replace h3 := hidH h3
      replace h4 := hidH h4
      replace h5 := hidH h5
      replace h6 := hidH h6
      replace h7 := hidH h7
      replace h8 := hidH h8
      replace h9 := hidH h9
      replace h10 := hidH h10
      replace h11 := hidH h11
      replace h12 := hidH h12
      replace h13 := hidH h13
      replace h14 := hidH h14
      replace h15 := hidH h15
      replace h16 := hidH h16
      replace h17 := hidH h17
      replace h18 := hidH h18
      replace h19 := hidH h19
      replace h20 := hidH h20
      replace h21 := hidH h21
      replace h22 := hidH h22
      replace h23 := hidH h23
      have q90 := (hO.cell (p := ⟨g3, 0, none⟩) hg3).trans m0
      have q91 := (hO.cell (p := ⟨g3, 1, none⟩) hg3).trans m1
      have q92 := (hO.cell (p := ⟨g3, 2, none⟩) hg3).trans m2
      go_wp2
      exact (HJ.out _ _ _).2 ⟨_, _, _, _, _, _, _, _, _, _, _, _, _, _, _, _, _, _, _, _, _, _, _, _, rfl, hO, h0.out, h1.out, fun _ => rfl, h3.out, h4.out, h5.out, h6.out, h7.out, h8.out, h9.out, h10.out, h11.out, h12.out, h13.out, h14.out, h15.out, h16.out, h17.out, h18.out, h19.out, h20.out, h21.out, h22.out, h23.out⟩
    | 3, _ =>
      obtain ⟨ty, ps, af, ho⟩ := op_lit hops (i := 3) (op := Op.move (Operand.tmp 4)) (dst := some 33) (g := none) rfl
      refine wpOp_lit ho (fun j b h => by cases h) ?_
      clear hops hdep ho
      replace h0 := hidH h0
      replace h1 := hidH h1
      replace h2 := hidH h2
      replace h4 := hidH h4
      replace h5 := hidH h5
      replace h6 := hidH h6
      replace h7 := hidH h7
      replace h8 := hidH h8
      replace h9 := hidH h9
      replace h10 := hidH h10
      replace h11 := hidH h11
      replace h12 := hidH h12
      replace h13 := hidH h13
      replace h14 := hidH h14
      replace h15 := hidH h15
      replace h16 := hidH h16
      replace h17 := hidH h17
      replace h18 := hidH h18
      replace h19 := hidH h19
      replace h20 := hidH h20
      replace h21 := hidH h21
      replace h22 := hidH h22
      replace h23 := hidH h23
      go_wp2
      exact (HJ.out _ _ _).2 ⟨_, _, _, _, _, _, _, _, _, _, _, _, _, _, _, _, _, _, _, _, _, _, _, _, rfl, hO, h0.out, h1.out, h2.out, fun _ => rfl, h4.out, h5.out, h6.out, h7.out, h8.out, h9.out, h10.out, h11.out, h12.out, h13.out, h14.out, h15.out, h16.out, h17.out, h18.out, h19.out, h20.out, h21.out, h22.out, h23.out⟩
    | 4, _ =>
      obtain ⟨ty, ps, af, ho⟩ := op_lit hops (i := 4) (op := Op.move (Operand.tmp 5)) (dst := some 34) (g := none) rfl
      refine wpOp_lit ho (fun j b h => by cases h) ?_
      clear hops hdep ho
      replace h0 := hidH h0
      replace h1 := hidH h1
      replace h2 := hidH h2
      replace h3 := hidH h3
      replace h5 := hidH h5
      replace h6 := hidH h6
      replace h7 := hidH h7
      replace h8 := hidH h8
      replace h9 := hidH h9
      replace h10 := hidH h10
      replace h11 := hidH h11
      replace h12 := hidH h12
      replace h13 := hidH h13
      replace h14 := hidH h14
      replace h15 := hidH h15
      replace h16 := hidH h16
      replace h17 := hidH h17
      replace h18 := hidH h18
      replace h19 := hidH h19
      replace h20 := hidH h20
      replace h21 := hidH h21
      replace h22 := hidH h22
      replace h23 := hidH h23
      go_wp2
      exact (HJ.out _ _ _).2 ⟨_, _, _, _, _, _, _, _, _, _, _, _, _, _, _, _, _, _, _, _, _, _, _, _, rfl, hO, h0.out, h1.out, h2.out, h3.out, fun _ => rfl, h5.out, h6.out, h7.out, h8.out, h9.out, h10.out, h11.out, h12.out, h13.out, h14.out, h15.out, h16.out, h17.out, h18.out, h19.out, h20.out, h21.out, h22.out, h23.out⟩
    | 5, _ =>
      obtain ⟨ty, ps, af, ho⟩ := op_lit hops (i := 5) (op := Op.move (Operand.tmp 6)) (dst := some 35) (g := none) rfl
      refine wpOp_lit ho (fun j b h => by cases h) ?_
      clear hops hdep ho
      replace h0 := hidH h0
      replace h1 := hidH h1
      replace h2 := hidH h2
      replace h3 := hidH h3
      replace h4 := hidH h4
      replace h6 := hidH h6
      replace h7 := hidH h7
      replace h8 := hidH h8
      replace h9 := hidH h9
      replace h10 := hidH h10
      replace h11 := hidH h11
      replace h12 := hidH h12
      replace h13 := hidH h13
      replace h14 := hidH h14
      replace h15 := hidH h15
      replace h16 := hidH h16
      replace h17 := hidH h17
      replace h18 := hidH h18
      replace h19 := hidH h19
      replace h20 := hidH h20
      replace h21 := hidH h21
      replace h22 := hidH h22
      replace h23 := hidH h23
      go_wp2
      exact (HJ.out _ _ _).2 ⟨_, _, _, _, _, _, _, _, _, _, _, _, _, _, _, _, _, _, _, _, _, _, _, _, rfl, hO, h0.out, h1.out, h2.out, h3.out, h4.out, fun _ => rfl, h6.out, h7.out, h8.out, h9.out, h10.out, h11.out, h12.out, h13.out, h14.out, h15.out, h16.out, h17.out, h18.out, h19.out, h20.out, h21.out, h22.out, h23.out⟩
    | 6, _ =>
      obtain ⟨ty, ps, af, ho⟩ := op_lit hops (i := 6) (op := Op.call { callee := Callee.value (Operand.func 14), args := #[(Operand.tmp 32), (Operand.tmp 33), (Operand.tmp 34), (Operand.tmp 35)], argTypes := #[25, 2, 2, 2] }) (dst := some 36) (g := none) rfl
      obtain rfl := h2 (hdep 2 (by simp))
      obtain rfl := h3 (hdep 3 (by simp))
      obtain rfl := h4 (hdep 4 (by simp))
      obtain rfl := h5 (hdep 5 (by simp))
      refine wpOp_lit ho (fun j b h => by cases h) ?_
      clear hops hdep ho
      replace h0 := hidH h0
      replace h1 := hidH h1
      replace h2 := hidH h2
      replace h3 := hidH h3
      replace h4 := hidH h4
      replace h5 := hidH h5
      replace h7 := hidH h7
      replace h8 := hidH h8
      replace h9 := hidH h9
      replace h10 := hidH h10
      replace h11 := hidH h11
      replace h12 := hidH h12
      replace h13 := hidH h13
      replace h14 := hidH h14
      replace h15 := hidH h15
      replace h16 := hidH h16
      replace h17 := hidH h17
      replace h18 := hidH h18
      replace h19 := hidH h19
      replace h20 := hidH h20
      replace h21 := hidH h21
      replace h22 := hidH h22
      replace h23 := hidH h23
      go_wp2_with fail
      refine (B1 W hO).mono ?_
      rintro e w9 ⟨A1, n1, c1, rfl, hb⟩
      go_wp2
      exact (HJ.out _ _ _).2 ⟨_, _, _, _, _, _, _, _, _, _, _, _, _, _, _, _, _, _, _, _, _, _, _, _, rfl, btr hO hb, h0.out, h1.out, fun _ => rfl, fun _ => rfl, fun _ => rfl, fun _ => rfl, fun _ => ⟨A1, n1, c1, rfl⟩, h7.out, h8.out, h9.out, h10.out, h11.out, h12.out, h13.out, h14.out, h15.out, h16.out, h17.out, h18.out, h19.out, h20.out, h21.out, h22.out, h23.out⟩
    | 7, _ =>
      obtain ⟨ty, ps, af, ho⟩ := op_lit hops (i := 7) (op := Op.field 30 (Operand.tmp 36) 0) (dst := some 37) (g := none) rfl
      obtain ⟨A1, n1, c1, rfl⟩ := h6 (hdep 6 (by simp))
      refine wpOp_lit ho (fun j b h => by cases h) ?_
      clear hops hdep ho
      replace h0 := hidH h0
      replace h1 := hidH h1
      replace h2 := hidH h2
      replace h3 := hidH h3
      replace h4 := hidH h4
      replace h5 := hidH h5
      replace h6 := hidH h6
      replace h8 := hidH h8
      replace h9 := hidH h9
      replace h10 := hidH h10
      replace h11 := hidH h11
      replace h12 := hidH h12
      replace h13 := hidH h13
      replace h14 := hidH h14
      replace h15 := hidH h15
      replace h16 := hidH h16
      replace h17 := hidH h17
      replace h18 := hidH h18
      replace h19 := hidH h19
      replace h20 := hidH h20
      replace h21 := hidH h21
      replace h22 := hidH h22
      replace h23 := hidH h23
      have f8 := fldDR8
      go_wp2
      exact (HJ.out _ _ _).2 ⟨_, _, _, _, _, _, _, _, _, _, _, _, _, _, _, _, _, _, _, _, _, _, _, _, rfl, hO, h0.out, h1.out, h2.out, h3.out, h4.out, h5.out, fun _ => ⟨A1, n1, c1, rfl⟩, fun _ => rfl, h8.out, h9.out, h10.out, h11.out, h12.out, h13.out, h14.out, h15.out, h16.out, h17.out, h18.out, h19.out, h20.out, h21.out, h22.out, h23.out⟩
    | 8, _ =>
      obtain ⟨ty, ps, af, ho⟩ := op_lit hops (i := 8) (op := Op.binOp BinOp.neq 2 (Operand.tmp 31) (Operand.tmp 37) 2) (dst := some 38) (g := none) rfl
      obtain rfl := h1 (hdep 1 (by simp))
      obtain rfl := h7 (hdep 7 (by simp))
      refine wpOp_lit ho (fun j b h => by cases h) ?_
      clear hops hdep ho
      replace h0 := hidH h0
      replace h1 := hidH h1
      replace h2 := hidH h2
      replace h3 := hidH h3
      replace h4 := hidH h4
      replace h5 := hidH h5
      replace h6 := hidH h6
      replace h7 := hidH h7
      replace h9 := hidH h9
      replace h10 := hidH h10
      replace h11 := hidH h11
      replace h12 := hidH h12
      replace h13 := hidH h13
      replace h14 := hidH h14
      replace h15 := hidH h15
      replace h16 := hidH h16
      replace h17 := hidH h17
      replace h18 := hidH h18
      replace h19 := hidH h19
      replace h20 := hidH h20
      replace h21 := hidH h21
      replace h22 := hidH h22
      replace h23 := hidH h23
      go_wp2
      exact (HJ.out _ _ _).2 ⟨_, _, _, _, _, _, _, _, _, _, _, _, _, _, _, _, _, _, _, _, _, _, _, _, rfl, hO, h0.out, fun _ => rfl, h2.out, h3.out, h4.out, h5.out, h6.out, fun _ => rfl, fun _ => rfl, h9.out, h10.out, h11.out, h12.out, h13.out, h14.out, h15.out, h16.out, h17.out, h18.out, h19.out, h20.out, h21.out, h22.out, h23.out⟩
    | 9, _ =>
      obtain ⟨ty, ps, af, ho⟩ := op_lit hops (i := 9) (op := Op.move (Operand.tmp 38)) (dst := some 39) (g := none) rfl
      obtain rfl := h8 (hdep 8 (by simp))
      refine wpOp_lit ho (fun j b h => by cases h) ?_
      clear hops hdep ho
      replace h0 := hidH h0
      replace h1 := hidH h1
      replace h2 := hidH h2
      replace h3 := hidH h3
      replace h4 := hidH h4
      replace h5 := hidH h5
      replace h6 := hidH h6
      replace h7 := hidH h7
      replace h8 := hidH h8
      replace h10 := hidH h10
      replace h11 := hidH h11
      replace h12 := hidH h12
      replace h13 := hidH h13
      replace h14 := hidH h14
      replace h15 := hidH h15
      replace h16 := hidH h16
      replace h17 := hidH h17
      replace h18 := hidH h18
      replace h19 := hidH h19
      replace h20 := hidH h20
      replace h21 := hidH h21
      replace h22 := hidH h22
      replace h23 := hidH h23
      go_wp2
      exact (HJ.out _ _ _).2 ⟨_, _, _, _, _, _, _, _, _, _, _, _, _, _, _, _, _, _, _, _, _, _, _, _, rfl, hO, h0.out, h1.out, h2.out, h3.out, h4.out, h5.out, h6.out, h7.out, fun _ => rfl, fun _ => rfl, h10.out, h11.out, h12.out, h13.out, h14.out, h15.out, h16.out, h17.out, h18.out, h19.out, h20.out, h21.out, h22.out, h23.out⟩
    | 10, _ =>
      obtain ⟨ty, ps, af, ho⟩ := op_lit hops (i := 10) (op := Op.fieldAddr 34 (Operand.tmp 9) 0) (dst := some 40) (g := some (9, false)) rfl
      obtain rfl := h9 (hdep 9 (by simp))
      have hy := fun tmps ht => yielded_lit hops (i := 9) (op := Op.move (Operand.tmp 38)) (t := 39) (g := none) rfl tmps false ht
      refine wpOp_lit ho (fun j b h => by cases h; exact hy _ rfl) ?_
      clear hops hdep ho hy
      replace h0 := hidH h0
      replace h1 := hidH h1
      replace h2 := hidH h2
      replace h3 := hidH h3
      replace h4 := hidH h4
      replace h5 := hidH h5
      replace h6 := hidH h6
      replace h7 := hidH h7
      replace h8 := hidH h8
      replace h9 := hidH h9
      replace h11 := hidH h11
      replace h12 := hidH h12
      replace h13 := hidH h13
      replace h14 := hidH h14
      replace h15 := hidH h15
      replace h16 := hidH h16
      replace h17 := hidH h17
      replace h18 := hidH h18
      replace h19 := hidH h19
      replace h20 := hidH h20
      replace h21 := hidH h21
      replace h22 := hidH h22
      replace h23 := hidH h23
      go_wp2
      exact (HJ.out _ _ _).2 ⟨_, _, _, _, _, _, _, _, _, _, _, _, _, _, _, _, _, _, _, _, _, _, _, _, rfl, hO, h0.out, h1.out, h2.out, h3.out, h4.out, h5.out, h6.out, h7.out, h8.out, fun _ => rfl, fun _ => rfl, h11.out, h12.out, h13.out, h14.out, h15.out, h16.out, h17.out, h18.out, h19.out, h20.out, h21.out, h22.out, h23.out⟩
    | 11, _ =>
      obtain ⟨ty, ps, af, ho⟩ := op_lit hops (i := 11) (op := Op.load 2 (Operand.tmp 40)) (dst := some 41) (g := some (9, false)) rfl
      obtain rfl := h9 (hdep 9 (by simp))
      have hy := fun tmps ht => yielded_lit hops (i := 9) (op := Op.move (Operand.tmp 38)) (t := 39) (g := none) rfl tmps false ht
      obtain rfl := h10 (hdep 10 (by simp))
      refine wpOp_lit ho (fun j b h => by cases h; exact hy _ rfl) ?_
      clear hops hdep ho hy
      replace h0 := hidH h0
      replace h1 := hidH h1
      replace h2 := hidH h2
      replace h3 := hidH h3
      replace h4 := hidH h4
      replace h5 := hidH h5
      replace h6 := hidH h6
      replace h7 := hidH h7
      replace h8 := hidH h8
      replace h9 := hidH h9
      replace h10 := hidH h10
      replace h12 := hidH h12
      replace h13 := hidH h13
      replace h14 := hidH h14
      replace h15 := hidH h15
      replace h16 := hidH h16
      replace h17 := hidH h17
      replace h18 := hidH h18
      replace h19 := hidH h19
      replace h20 := hidH h20
      replace h21 := hidH h21
      replace h22 := hidH h22
      replace h23 := hidH h23
      have q9 := (hO.cell (p := ⟨g9, 0, none⟩) hg9).trans r9
      go_wp2
      exact (HJ.out _ _ _).2 ⟨_, _, _, _, _, _, _, _, _, _, _, _, _, _, _, _, _, _, _, _, _, _, _, _, rfl, hO, h0.out, h1.out, h2.out, h3.out, h4.out, h5.out, h6.out, h7.out, h8.out, fun _ => rfl, fun _ => rfl, fun _ => rfl, h12.out, h13.out, h14.out, h15.out, h16.out, h17.out, h18.out, h19.out, h20.out, h21.out, h22.out, h23.out⟩
    | 12, _ =>
      obtain ⟨ty, ps, af, ho⟩ := op_lit hops (i := 12) (op := Op.move (Operand.tmp 8)) (dst := some 42) (g := some (9, false)) rfl
      obtain rfl := h9 (hdep 9 (by simp))
      have hy := fun tmps ht => yielded_lit hops (i := 9) (op := Op.move (Operand.tmp 38)) (t := 39) (g := none) rfl tmps false ht
      refine wpOp_lit ho (fun j b h => by cases h; exact hy _ rfl) ?_
      clear hops hdep ho hy
      replace h0 := hidH h0
      replace h1 := hidH h1
      replace h2 := hidH h2
      replace h3 := hidH h3
      replace h4 := hidH h4
      replace h5 := hidH h5
      replace h6 := hidH h6
      replace h7 := hidH h7
      replace h8 := hidH h8
      replace h9 := hidH h9
      replace h10 := hidH h10
      replace h11 := hidH h11
      replace h13 := hidH h13
      replace h14 := hidH h14
      replace h15 := hidH h15
      replace h16 := hidH h16
      replace h17 := hidH h17
      replace h18 := hidH h18
      replace h19 := hidH h19
      replace h20 := hidH h20
      replace h21 := hidH h21
      replace h22 := hidH h22
      replace h23 := hidH h23
      go_wp2
      exact (HJ.out _ _ _).2 ⟨_, _, _, _, _, _, _, _, _, _, _, _, _, _, _, _, _, _, _, _, _, _, _, _, rfl, hO, h0.out, h1.out, h2.out, h3.out, h4.out, h5.out, h6.out, h7.out, h8.out, fun _ => rfl, h10.out, h11.out, fun _ => rfl, h13.out, h14.out, h15.out, h16.out, h17.out, h18.out, h19.out, h20.out, h21.out, h22.out, h23.out⟩
    | 13, _ =>
      obtain ⟨ty, ps, af, ho⟩ := op_lit hops (i := 13) (op := Op.call { callee := Callee.value (Operand.func 15), args := #[(Operand.tmp 42)], argTypes := #[28] }) (dst := some 43) (g := some (9, false)) rfl
      obtain rfl := h9 (hdep 9 (by simp))
      have hy := fun tmps ht => yielded_lit hops (i := 9) (op := Op.move (Operand.tmp 38)) (t := 39) (g := none) rfl tmps false ht
      obtain rfl := h12 (hdep 12 (by simp))
      refine wpOp_lit ho (fun j b h => by cases h; exact hy _ rfl) ?_
      clear hops hdep ho hy
      replace h0 := hidH h0
      replace h1 := hidH h1
      replace h2 := hidH h2
      replace h3 := hidH h3
      replace h4 := hidH h4
      replace h5 := hidH h5
      replace h6 := hidH h6
      replace h7 := hidH h7
      replace h8 := hidH h8
      replace h9 := hidH h9
      replace h10 := hidH h10
      replace h11 := hidH h11
      replace h12 := hidH h12
      replace h14 := hidH h14
      replace h15 := hidH h15
      replace h16 := hidH h16
      replace h17 := hidH h17
      replace h18 := hidH h18
      replace h19 := hidH h19
      replace h20 := hidH h20
      replace h21 := hidH h21
      replace h22 := hidH h22
      replace h23 := hidH h23
      go_wp2_with fail
      refine (B2 W hO).mono ?_
      rintro e w9 ⟨z1, z2, A1, n1, c1, rfl, hb⟩
      go_wp2
      exact (HJ.out _ _ _).2 ⟨_, _, _, _, _, _, _, _, _, _, _, _, _, _, _, _, _, _, _, _, _, _, _, _, rfl, btr hO hb, h0.out, h1.out, h2.out, h3.out, h4.out, h5.out, h6.out, h7.out, h8.out, fun _ => rfl, h10.out, h11.out, fun _ => rfl, fun _ => ⟨z1, z2, A1, n1, c1, rfl⟩, h14.out, h15.out, h16.out, h17.out, h18.out, h19.out, h20.out, h21.out, h22.out, h23.out⟩
    | 14, _ =>
      obtain ⟨ty, ps, af, ho⟩ := op_lit hops (i := 14) (op := Op.field 34 (Operand.tmp 43) 0) (dst := some 44) (g := some (9, false)) rfl
      obtain rfl := h9 (hdep 9 (by simp))
      have hy := fun tmps ht => yielded_lit hops (i := 9) (op := Op.move (Operand.tmp 38)) (t := 39) (g := none) rfl tmps false ht
      obtain ⟨z1, z2, A1, n1, c1, rfl⟩ := h13 (hdep 13 (by simp))
      refine wpOp_lit ho (fun j b h => by cases h; exact hy _ rfl) ?_
      clear hops hdep ho hy
      replace h0 := hidH h0
      replace h1 := hidH h1
      replace h2 := hidH h2
      replace h3 := hidH h3
      replace h4 := hidH h4
      replace h5 := hidH h5
      replace h6 := hidH h6
      replace h7 := hidH h7
      replace h8 := hidH h8
      replace h9 := hidH h9
      replace h10 := hidH h10
      replace h11 := hidH h11
      replace h12 := hidH h12
      replace h13 := hidH h13
      replace h15 := hidH h15
      replace h16 := hidH h16
      replace h17 := hidH h17
      replace h18 := hidH h18
      replace h19 := hidH h19
      replace h20 := hidH h20
      replace h21 := hidH h21
      replace h22 := hidH h22
      replace h23 := hidH h23
      have f8 := fldMR8
      go_wp2
      exact (HJ.out _ _ _).2 ⟨_, _, _, _, _, _, _, _, _, _, _, _, _, _, _, _, _, _, _, _, _, _, _, _, rfl, hO, h0.out, h1.out, h2.out, h3.out, h4.out, h5.out, h6.out, h7.out, h8.out, fun _ => rfl, h10.out, h11.out, h12.out, fun _ => ⟨z1, z2, A1, n1, c1, rfl⟩, fun _ => rfl, h15.out, h16.out, h17.out, h18.out, h19.out, h20.out, h21.out, h22.out, h23.out⟩
    | 15, _ =>
      obtain ⟨ty, ps, af, ho⟩ := op_lit hops (i := 15) (op := Op.binOp BinOp.neq 2 (Operand.tmp 41) (Operand.tmp 44) 2) (dst := some 45) (g := some (9, false)) rfl
      obtain rfl := h9 (hdep 9 (by simp))
      have hy := fun tmps ht => yielded_lit hops (i := 9) (op := Op.move (Operand.tmp 38)) (t := 39) (g := none) rfl tmps false ht
      obtain rfl := h11 (hdep 11 (by simp))
      obtain rfl := h14 (hdep 14 (by simp))
      refine wpOp_lit ho (fun j b h => by cases h; exact hy _ rfl) ?_
      clear hops hdep ho hy
      replace h0 := hidH h0
      replace h1 := hidH h1
      replace h2 := hidH h2
      replace h3 := hidH h3
      replace h4 := hidH h4
      replace h5 := hidH h5
      replace h6 := hidH h6
      replace h7 := hidH h7
      replace h8 := hidH h8
      replace h9 := hidH h9
      replace h10 := hidH h10
      replace h11 := hidH h11
      replace h12 := hidH h12
      replace h13 := hidH h13
      replace h14 := hidH h14
      replace h16 := hidH h16
      replace h17 := hidH h17
      replace h18 := hidH h18
      replace h19 := hidH h19
      replace h20 := hidH h20
      replace h21 := hidH h21
      replace h22 := hidH h22
      replace h23 := hidH h23
      go_wp2
      exact (HJ.out _ _ _).2 ⟨_, _, _, _, _, _, _, _, _, _, _, _, _, _, _, _, _, _, _, _, _, _, _, _, rfl, hO, h0.out, h1.out, h2.out, h3.out, h4.out, h5.out, h6.out, h7.out, h8.out, fun _ => rfl, h10.out, fun _ => rfl, h12.out, h13.out, fun _ => rfl, fun _ => rfl, h16.out, h17.out, h18.out, h19.out, h20.out, h21.out, h22.out, h23.out⟩
    | 16, _ =>
      obtain ⟨ty, ps, af, ho⟩ := op_lit hops (i := 16) (op := Op.pick (Operand.tmp 39) (Operand.const (Value.bool true)) (Operand.tmp 45)) (dst := some 46) (g := none) rfl
      obtain rfl := h9 (hdep 9 (by simp))
      obtain rfl := h15 (hdep 15 (by simp))
      refine wpOp_lit ho (fun j b h => by cases h) ?_
      clear hops hdep ho
      replace h0 := hidH h0
      replace h1 := hidH h1
      replace h2 := hidH h2
      replace h3 := hidH h3
      replace h4 := hidH h4
      replace h5 := hidH h5
      replace h6 := hidH h6
      replace h7 := hidH h7
      replace h8 := hidH h8
      replace h9 := hidH h9
      replace h10 := hidH h10
      replace h11 := hidH h11
      replace h12 := hidH h12
      replace h13 := hidH h13
      replace h14 := hidH h14
      replace h15 := hidH h15
      replace h17 := hidH h17
      replace h18 := hidH h18
      replace h19 := hidH h19
      replace h20 := hidH h20
      replace h21 := hidH h21
      replace h22 := hidH h22
      replace h23 := hidH h23
      go_wp2
      exact (HJ.out _ _ _).2 ⟨_, _, _, _, _, _, _, _, _, _, _, _, _, _, _, _, _, _, _, _, _, _, _, _, rfl, hO, h0.out, h1.out, h2.out, h3.out, h4.out, h5.out, h6.out, h7.out, h8.out, fun _ => rfl, h10.out, h11.out, h12.out, h13.out, h14.out, fun _ => rfl, fun _ => rfl, h17.out, h18.out, h19.out, h20.out, h21.out, h22.out, h23.out⟩
    | 17, _ =>
      obtain ⟨ty, ps, af, ho⟩ := op_lit hops (i := 17) (op := Op.move (Operand.tmp 46)) (dst := some 47) (g := none) rfl
      obtain rfl := h16 (hdep 16 (by simp))
      refine wpOp_lit ho (fun j b h => by cases h) ?_
      clear hops hdep ho
      replace h0 := hidH h0
      replace h1 := hidH h1
      replace h2 := hidH h2
      replace h3 := hidH h3
      replace h4 := hidH h4
      replace h5 := hidH h5
      replace h6 := hidH h6
      replace h7 := hidH h7
      replace h8 := hidH h8
      replace h9 := hidH h9
      replace h10 := hidH h10
      replace h11 := hidH h11
      replace h12 := hidH h12
      replace h13 := hidH h13
      replace h14 := hidH h14
      replace h15 := hidH h15
      replace h16 := hidH h16
      replace h18 := hidH h18
      replace h19 := hidH h19
      replace h20 := hidH h20
      replace h21 := hidH h21
      replace h22 := hidH h22
      replace h23 := hidH h23
      go_wp2
      exact (HJ.out _ _ _).2 ⟨_, _, _, _, _, _, _, _, _, _, _, _, _, _, _, _, _, _, _, _, _, _, _, _, rfl, hO, h0.out, h1.out, h2.out, h3.out, h4.out, h5.out, h6.out, h7.out, h8.out, h9.out, h10.out, h11.out, h12.out, h13.out, h14.out, h15.out, fun _ => rfl, fun _ => rfl, h18.out, h19.out, h20.out, h21.out, h22.out, h23.out⟩
    | 18, _ =>
      obtain ⟨ty, ps, af, ho⟩ := op_lit hops (i := 18) (op := Op.load 25 (Operand.tmp 3)) (dst := some 48) (g := some (17, false)) rfl
      obtain rfl := h17 (hdep 17 (by simp))
      have hy := fun tmps ht => yielded_lit hops (i := 17) (op := Op.move (Operand.tmp 46)) (t := 47) (g := none) rfl tmps false ht
      refine wpOp_lit ho (fun j b h => by cases h; exact hy _ rfl) ?_
      clear hops hdep ho hy
      replace h0 := hidH h0
      replace h1 := hidH h1
      replace h2 := hidH h2
      replace h3 := hidH h3
      replace h4 := hidH h4
      replace h5 := hidH h5
      replace h6 := hidH h6
      replace h7 := hidH h7
      replace h8 := hidH h8
      replace h9 := hidH h9
      replace h10 := hidH h10
      replace h11 := hidH h11
      replace h12 := hidH h12
      replace h13 := hidH h13
      replace h14 := hidH h14
      replace h15 := hidH h15
      replace h16 := hidH h16
      replace h17 := hidH h17
      replace h19 := hidH h19
      replace h20 := hidH h20
      replace h21 := hidH h21
      replace h22 := hidH h22
      replace h23 := hidH h23
      have q90 := (hO.cell (p := ⟨g3, 0, none⟩) hg3).trans m0
      have q91 := (hO.cell (p := ⟨g3, 1, none⟩) hg3).trans m1
      have q92 := (hO.cell (p := ⟨g3, 2, none⟩) hg3).trans m2
      go_wp2
      exact (HJ.out _ _ _).2 ⟨_, _, _, _, _, _, _, _, _, _, _, _, _, _, _, _, _, _, _, _, _, _, _, _, rfl, hO, h0.out, h1.out, h2.out, h3.out, h4.out, h5.out, h6.out, h7.out, h8.out, h9.out, h10.out, h11.out, h12.out, h13.out, h14.out, h15.out, h16.out, fun _ => rfl, fun _ => rfl, h19.out, h20.out, h21.out, h22.out, h23.out⟩
    | 19, _ =>
      obtain ⟨ty, ps, af, ho⟩ := op_lit hops (i := 19) (op := Op.call { callee := Callee.value (Operand.func 16), args := #[(Operand.tmp 48)], argTypes := #[25] }) (dst := some 49) (g := some (17, false)) rfl
      obtain rfl := h17 (hdep 17 (by simp))
      have hy := fun tmps ht => yielded_lit hops (i := 17) (op := Op.move (Operand.tmp 46)) (t := 47) (g := none) rfl tmps false ht
      obtain rfl := h18 (hdep 18 (by simp))
      refine wpOp_lit ho (fun j b h => by cases h; exact hy _ rfl) ?_
      clear hops hdep ho hy
      replace h0 := hidH h0
      replace h1 := hidH h1
      replace h2 := hidH h2
      replace h3 := hidH h3
      replace h4 := hidH h4
      replace h5 := hidH h5
      replace h6 := hidH h6
      replace h7 := hidH h7
      replace h8 := hidH h8
      replace h9 := hidH h9
      replace h10 := hidH h10
      replace h11 := hidH h11
      replace h12 := hidH h12
      replace h13 := hidH h13
      replace h14 := hidH h14
      replace h15 := hidH h15
      replace h16 := hidH h16
      replace h17 := hidH h17
      replace h18 := hidH h18
      replace h20 := hidH h20
      replace h21 := hidH h21
      replace h22 := hidH h22
      replace h23 := hidH h23
      go_wp2_with fail
      refine (B3 W hO).mono ?_
      rintro e w9 ⟨rfl, hb⟩
      go_wp2
      exact (HJ.out _ _ _).2 ⟨_, _, _, _, _, _, _, _, _, _, _, _, _, _, _, _, _, _, _, _, _, _, _, _, rfl, btr hO hb, h0.out, h1.out, h2.out, h3.out, h4.out, h5.out, h6.out, h7.out, h8.out, h9.out, h10.out, h11.out, h12.out, h13.out, h14.out, h15.out, h16.out, fun _ => rfl, fun _ => rfl, fun _ => rfl, h20.out, h21.out, h22.out, h23.out⟩
    | 20, _ =>
      obtain ⟨ty, ps, af, ho⟩ := op_lit hops (i := 20) (op := Op.load 25 (Operand.tmp 3)) (dst := some 50) (g := some (17, false)) rfl
      obtain rfl := h17 (hdep 17 (by simp))
      have hy := fun tmps ht => yielded_lit hops (i := 17) (op := Op.move (Operand.tmp 46)) (t := 47) (g := none) rfl tmps false ht
      refine wpOp_lit ho (fun j b h => by cases h; exact hy _ rfl) ?_
      clear hops hdep ho hy
      replace h0 := hidH h0
      replace h1 := hidH h1
      replace h2 := hidH h2
      replace h3 := hidH h3
      replace h4 := hidH h4
      replace h5 := hidH h5
      replace h6 := hidH h6
      replace h7 := hidH h7
      replace h8 := hidH h8
      replace h9 := hidH h9
      replace h10 := hidH h10
      replace h11 := hidH h11
      replace h12 := hidH h12
      replace h13 := hidH h13
      replace h14 := hidH h14
      replace h15 := hidH h15
      replace h16 := hidH h16
      replace h17 := hidH h17
      replace h18 := hidH h18
      replace h19 := hidH h19
      replace h21 := hidH h21
      replace h22 := hidH h22
      replace h23 := hidH h23
      have q90 := (hO.cell (p := ⟨g3, 0, none⟩) hg3).trans m0
      have q91 := (hO.cell (p := ⟨g3, 1, none⟩) hg3).trans m1
      have q92 := (hO.cell (p := ⟨g3, 2, none⟩) hg3).trans m2
      go_wp2
      exact (HJ.out _ _ _).2 ⟨_, _, _, _, _, _, _, _, _, _, _, _, _, _, _, _, _, _, _, _, _, _, _, _, rfl, hO, h0.out, h1.out, h2.out, h3.out, h4.out, h5.out, h6.out, h7.out, h8.out, h9.out, h10.out, h11.out, h12.out, h13.out, h14.out, h15.out, h16.out, fun _ => rfl, h18.out, h19.out, fun _ => rfl, h21.out, h22.out, h23.out⟩
    | 21, _ =>
      obtain ⟨ty, ps, af, ho⟩ := op_lit hops (i := 21) (op := Op.call { callee := Callee.value (Operand.func 17), args := #[(Operand.tmp 50)], argTypes := #[25] }) (dst := some 51) (g := some (17, false)) rfl
      obtain rfl := h17 (hdep 17 (by simp))
      have hy := fun tmps ht => yielded_lit hops (i := 17) (op := Op.move (Operand.tmp 46)) (t := 47) (g := none) rfl tmps false ht
      obtain rfl := h20 (hdep 20 (by simp))
      refine wpOp_lit ho (fun j b h => by cases h; exact hy _ rfl) ?_
      clear hops hdep ho hy
      replace h0 := hidH h0
      replace h1 := hidH h1
      replace h2 := hidH h2
      replace h3 := hidH h3
      replace h4 := hidH h4
      replace h5 := hidH h5
      replace h6 := hidH h6
      replace h7 := hidH h7
      replace h8 := hidH h8
      replace h9 := hidH h9
      replace h10 := hidH h10
      replace h11 := hidH h11
      replace h12 := hidH h12
      replace h13 := hidH h13
      replace h14 := hidH h14
      replace h15 := hidH h15
      replace h16 := hidH h16
      replace h17 := hidH h17
      replace h18 := hidH h18
      replace h19 := hidH h19
      replace h20 := hidH h20
      replace h22 := hidH h22
      replace h23 := hidH h23
      go_wp2_with fail
      refine (B4 W hO).mono ?_
      rintro e w9 ⟨rfl, hb⟩
      go_wp2
      exact (HJ.out _ _ _).2 ⟨_, _, _, _, _, _, _, _, _, _, _, _, _, _, _, _, _, _, _, _, _, _, _, _, rfl, btr hO hb, h0.out, h1.out, h2.out, h3.out, h4.out, h5.out, h6.out, h7.out, h8.out, h9.out, h10.out, h11.out, h12.out, h13.out, h14.out, h15.out, h16.out, fun _ => rfl, h18.out, h19.out, fun _ => rfl, fun _ => rfl, h22.out, h23.out⟩
    | 22, _ =>
      obtain ⟨ty, ps, af, ho⟩ := op_lit hops (i := 22) (op := Op.binOp BinOp.neq 2 (Operand.tmp 49) (Operand.tmp 51) 2) (dst := some 52) (g := some (17, false)) rfl
      obtain rfl := h17 (hdep 17 (by simp))
      have hy := fun tmps ht => yielded_lit hops (i := 17) (op := Op.move (Operand.tmp 46)) (t := 47) (g := none) rfl tmps false ht
      obtain rfl := h19 (hdep 19 (by simp))
      obtain rfl := h21 (hdep 21 (by simp))
      refine wpOp_lit ho (fun j b h => by cases h; exact hy _ rfl) ?_
      clear hops hdep ho hy
      replace h0 := hidH h0
      replace h1 := hidH h1
      replace h2 := hidH h2
      replace h3 := hidH h3
      replace h4 := hidH h4
      replace h5 := hidH h5
      replace h6 := hidH h6
      replace h7 := hidH h7
      replace h8 := hidH h8
      replace h9 := hidH h9
      replace h10 := hidH h10
      replace h11 := hidH h11
      replace h12 := hidH h12
      replace h13 := hidH h13
      replace h14 := hidH h14
      replace h15 := hidH h15
      replace h16 := hidH h16
      replace h17 := hidH h17
      replace h18 := hidH h18
      replace h19 := hidH h19
      replace h20 := hidH h20
      replace h21 := hidH h21
      replace h23 := hidH h23
      go_wp2
      exact (HJ.out _ _ _).2 ⟨_, _, _, _, _, _, _, _, _, _, _, _, _, _, _, _, _, _, _, _, _, _, _, _, rfl, hO, h0.out, h1.out, h2.out, h3.out, h4.out, h5.out, h6.out, h7.out, h8.out, h9.out, h10.out, h11.out, h12.out, h13.out, h14.out, h15.out, h16.out, fun _ => rfl, h18.out, fun _ => rfl, h20.out, fun _ => rfl, fun _ => rfl, h23.out⟩
    | 23, _ =>
      obtain ⟨ty, ps, af, ho⟩ := op_lit hops (i := 23) (op := Op.pick (Operand.tmp 47) (Operand.const (Value.bool true)) (Operand.tmp 52)) (dst := some 53) (g := none) rfl
      obtain rfl := h17 (hdep 17 (by simp))
      obtain rfl := h22 (hdep 22 (by simp))
      refine wpOp_lit ho (fun j b h => by cases h) ?_
      clear hops hdep ho
      replace h0 := hidH h0
      replace h1 := hidH h1
      replace h2 := hidH h2
      replace h3 := hidH h3
      replace h4 := hidH h4
      replace h5 := hidH h5
      replace h6 := hidH h6
      replace h7 := hidH h7
      replace h8 := hidH h8
      replace h9 := hidH h9
      replace h10 := hidH h10
      replace h11 := hidH h11
      replace h12 := hidH h12
      replace h13 := hidH h13
      replace h14 := hidH h14
      replace h15 := hidH h15
      replace h16 := hidH h16
      replace h17 := hidH h17
      replace h18 := hidH h18
      replace h19 := hidH h19
      replace h20 := hidH h20
      replace h21 := hidH h21
      replace h22 := hidH h22
      go_wp2
      exact (HJ.out _ _ _).2 ⟨_, _, _, _, _, _, _, _, _, _, _, _, _, _, _, _, _, _, _, _, _, _, _, _, rfl, hO, h0.out, h1.out, h2.out, h3.out, h4.out, h5.out, h6.out, h7.out, h8.out, h9.out, h10.out, h11.out, h12.out, h13.out, h14.out, h15.out, h16.out, fun _ => rfl, h18.out, h19.out, h20.out, h21.out, fun _ => rfl, fun _ => rfl⟩
    | n + 24, h => omega
  case fin =>
    clear hops hdeps hback
    rintro dn ac W hJ hall
    obtain ⟨t30, t31, t32, t33, t34, t35, t36, t37, t38, t39, t40, t41, t42, t43, t44, t45, t46, t47, t48, t49, t50, t51, t52, t53, rfl, hO, h0, h1, h2, h3, h4, h5, h6, h7, h8, h9, h10, h11, h12, h13, h14, h15, h16, h17, h18, h19, h20, h21, h22, h23⟩ := (HJ.out _ _ _).1 hJ
    obtain rfl := h23 (hall 23 (by omega))
    exact fin _ _ _ _ _ _ _ _ _ _ _ _ _ _ _ _ _ _ _ _ _ _ _ W hO
end Go.Proofs.Ytbfbfimmhpijfaa
