/- The regions of the law FnAuths that draw their order. -/
import Derived.Test.YtncnibkojneejaaGreatDoorJa7
import Derived.Test.YtncnibkojneejaaGreatDoorS7KR
import Derived.Test.YtncnibkojneejaaGreatDoorTyChs
import Derived.Test.YtncnibkojneejaaGreatDoorJa3
import Derived.Test.YtncnibkojneejaaGreatDoorJa4
import Derived.Test.YtncnibkojneejaaGreatDoorRegInv2
import Derived.Laws.OwnMore
namespace Go.Proofs.YtncnibkojneejaaGreatDoor
open Go.RowKit Go.Deep

theorem ob_bs_far {B C g : Nat} {w : World} {A : Option Addr} {l : List Int} (h : Ob B C w A l) (hg : g < B) (i : Nat) (u : Value) : Bs (w.setCell ⟨g, i, none⟩ u) A l := by
  rcases h with h | ⟨b, off, h1, h2, h3, h4, h5⟩
  · exact .inl h
  · have h6 : b < w.heap.size := by omega
    exact .inr ⟨b, off, h1, by simpa [World.setCell] using h6, fun j hj => (World.cell?_setCell_other _ _ _ _ (fun e => by injection e with e3 _; omega)).trans (h5 j hj).1⟩
theorem fldC0 (c : Int) (A : Option Addr) (n cp : Nat) (w : World) : (Instr.field 28 (.agg #[.int .i64 c, .slice A n cp]) 0).run Tryz.prog w = .ok (.int .i64 c) w := by kernel_rfl
set_option maxRecDepth 100000 in
set_option maxHeartbeats 1000000 in
theorem regFA7 {Q : Exit → Act → World → Prop} (x0 x1 x2 x10 x11 x12 x13 x14 x15 x16 x17 x18 x19 x20 x21 x22 x23 x24 x25 x26 x27 x28 x29 x30 x31 vk v vo vm : Value) (ww : World) (gp gc pn pc : Nat) (id C : Int) (PA : Option Addr) (Y Z : AuthResultM)
    (F5 : ∀ u : World, Below ww.heap.size ww u → Calls Tryz.prog 9 #[.int .i64 id, vk, v] u (fun e w' => ∃ (A : Option Addr) (n c : Nat), e = .returned (.agg #[.int .i64 C, .slice A n c]) ∧ Below u.heap.size u w'))
    (F12 : ∀ u : World, Below ww.heap.size ww u → Calls Tryz.prog 10 #[vo, vm] u (fun e w' => e = .returned (.agg #[.int .i64 Y.Code, .int .i64 Y.KeyId, .int .i64 Y.From]) ∧ Below u.heap.size u w'))
    (F17 : ∀ u : World, Below ww.heap.size ww u → Calls Tryz.prog 11 #[vm] u (fun e w' => e = .returned (.agg #[.int .i64 Z.Code, .int .i64 Z.KeyId, .int .i64 Z.From]) ∧ Below u.heap.size u w'))
    (F19 : ∀ u : World, Below ww.heap.size ww u → Calls Tryz.prog 12 #[vm] u (fun e w' => e = .returned (.agg #[.int .i64 Z.Code, .int .i64 Z.KeyId, .int .i64 Z.From]) ∧ Below u.heap.size u w')) {ops : Array Oper}
    (hops : (ops.map fun o => (o.op, o.dst, o.guard)) = #[(Op.fieldAddr 28 (Operand.tmp 6) 0, some 32, none), (Op.load 2 (Operand.tmp 32), some 33, none), (Op.move (Operand.tmp 3), some 34, none), (Op.move (Operand.tmp 4), some 35, none), (Op.move (Operand.tmp 5), some 36, none), (Op.call { callee := Callee.value (Operand.func 9), args := #[(Operand.tmp 34), (Operand.tmp 35), (Operand.tmp 36)], argTypes := #[2, 22, 24] }, some 37, none), (Op.field 28 (Operand.tmp 37) 0, some 38, none), (Op.binOp BinOp.neq 2 (Operand.tmp 33) (Operand.tmp 38) 2, some 39, none), (Op.move (Operand.tmp 39), some 40, none), (Op.load 33 (Operand.tmp 9), some 41, some (8, false)), (Op.move (Operand.tmp 7), some 42, some (8, false)), (Op.move (Operand.tmp 8), some 43, some (8, false)), (Op.call { callee := Callee.value (Operand.func 10), args := #[(Operand.tmp 42), (Operand.tmp 43)], argTypes := #[22, 24] }, some 44, some (8, false)), (Op.binOp BinOp.neq 33 (Operand.tmp 41) (Operand.tmp 44) 33, some 45, some (8, false)), (Op.pick (Operand.tmp 40) (Operand.const (Value.bool true)) (Operand.tmp 45), some 46, none), (Op.move (Operand.tmp 46), some 47, none), (Op.move (Operand.tmp 8), some 48, some (15, false)), (Op.call { callee := Callee.value (Operand.func 11), args := #[(Operand.tmp 48)], argTypes := #[24] }, some 49, some (15, false)), (Op.move (Operand.tmp 8), some 50, some (15, false)), (Op.call { callee := Callee.value (Operand.func 12), args := #[(Operand.tmp 50)], argTypes := #[24] }, some 51, some (15, false)), (Op.binOp BinOp.neq 33 (Operand.tmp 49) (Operand.tmp 51) 33, some 52, some (15, false)), (Op.pick (Operand.tmp 47) (Operand.const (Value.bool true)) (Operand.tmp 52), some 53, none)])
    (hdeps : ((List.range 22).all fun i => ((fun i => [[], [0], [], [], [], [2, 3, 4], [5], [1, 6], [7], [8], [8], [8], [8, 10, 11], [8, 9, 12], [8, 13], [14], [15], [15, 16], [15], [15, 17, 18], [15, 17, 19], [15, 20]].getD i []) i).all fun j => ((ops[i]?).map fun o => o.after.any fun e => Region.binds .any e && e.on == j).getD false) = true)
    (hback : ((List.range 22).all fun i => ((ops[i]?).map fun o => o.after.all fun e => !(Region.binds .any e) || decide (e.on < i)).getD false) = true)
    {a0 : Act} {w0 : World} (ha : a0 = { tmps := #[x0, x1, x2, .int .i64 id, vk, v, .pointer (some ⟨gp, 0, none⟩), vo, vm, .pointer (some ⟨gc, 0, none⟩), x10, x11, x12, x13, x14, x15, x16, x17, x18, x19, x20, x21, x22, x23, x24, x25, x26, x27, x28, x29, x30, x31, undef, undef, undef, undef, undef, undef, undef, undef, undef, undef, undef, undef, undef, undef, undef, undef, undef, undef, undef, undef, undef, undef, undef, undef, undef, undef, undef, undef, undef, undef, undef, undef, undef, undef, undef, undef, undef, undef, undef, undef, undef, undef, undef, undef, undef, undef, undef, undef, undef, undef, undef, undef, undef, undef, undef, undef, undef, undef, undef, undef, undef, undef, undef, undef, undef, undef, undef, undef, undef, undef, undef, undef, undef, undef, undef, undef, undef, undef, undef, undef, undef, undef, undef, undef, undef, undef], defers := [] }) (hP : Blk w0 gp 28 #[.int .i64 C, .slice PA pn pc]) (hC : Blk w0 gc 33 #[.int .i64 Y.Code, .int .i64 Y.KeyId, .int .i64 Y.From]) (hO : Below ww.heap.size ww w0)
    (fin : ∀ t32 t33 t34 t35 t36 t37 t38 t39 t40 t41 t42 t43 t44 t45 t46 t47 t48 t49 t50 t51 t52 (W : World), (Below ww.heap.size ww W) → Q .normal { tmps := #[x0, x1, x2, .int .i64 id, vk, v, .pointer (some ⟨gp, 0, none⟩), vo, vm, .pointer (some ⟨gc, 0, none⟩), x10, x11, x12, x13, x14, x15, x16, x17, x18, x19, x20, x21, x22, x23, x24, x25, x26, x27, x28, x29, x30, x31, t32, t33, t34, t35, t36, t37, t38, t39, t40, t41, t42, t43, t44, t45, t46, t47, t48, t49, t50, t51, t52, .bool false, undef, undef, undef, undef, undef, undef, undef, undef, undef, undef, undef, undef, undef, undef, undef, undef, undef, undef, undef, undef, undef, undef, undef, undef, undef, undef, undef, undef, undef, undef, undef, undef, undef, undef, undef, undef, undef, undef, undef, undef, undef, undef, undef, undef, undef, undef, undef, undef, undef, undef, undef, undef, undef, undef, undef, undef, undef, undef, undef, undef, undef, undef, undef, undef], defers := [] } W) :
    wpAny Tryz.prog .any ops Q ops.size (Array.replicate ops.size false) a0 w0 := by
  have hn : ops.size = 22 := by have := congrArg Array.size hops; simpa using this
  obtain ⟨J, HJ⟩ : ∃ J : (Nat → Bool) → Act → World → Prop, ∀ dn ac W, J dn ac W ↔ (fun dn ac W => ∃ t32 t33 t34 t35 t36 t37 t38 t39 t40 t41 t42 t43 t44 t45 t46 t47 t48 t49 t50 t51 t52 t53, ac = { tmps := #[x0, x1, x2, .int .i64 id, vk, v, .pointer (some ⟨gp, 0, none⟩), vo, vm, .pointer (some ⟨gc, 0, none⟩), x10, x11, x12, x13, x14, x15, x16, x17, x18, x19, x20, x21, x22, x23, x24, x25, x26, x27, x28, x29, x30, x31, t32, t33, t34, t35, t36, t37, t38, t39, t40, t41, t42, t43, t44, t45, t46, t47, t48, t49, t50, t51, t52, t53, undef, undef, undef, undef, undef, undef, undef, undef, undef, undef, undef, undef, undef, undef, undef, undef, undef, undef, undef, undef, undef, undef, undef, undef, undef, undef, undef, undef, undef, undef, undef, undef, undef, undef, undef, undef, undef, undef, undef, undef, undef, undef, undef, undef, undef, undef, undef, undef, undef, undef, undef, undef, undef, undef, undef, undef, undef, undef, undef, undef, undef, undef, undef, undef], defers := [] } ∧ (Blk W gp 28 #[.int .i64 C, .slice PA pn pc]) ∧ (Blk W gc 33 #[.int .i64 Y.Code, .int .i64 Y.KeyId, .int .i64 Y.From]) ∧ (Below ww.heap.size ww W) ∧ (dn 0 = true → t32 = .pointer (some ⟨gp, 0, none⟩)) ∧ (dn 1 = true → t33 = .int .i64 C) ∧ (dn 2 = true → t34 = .int .i64 id) ∧ (dn 3 = true → t35 = vk) ∧ (dn 4 = true → t36 = v) ∧ (dn 5 = true → ∃ (A : Option Addr) (n c : Nat), t37 = .agg #[.int .i64 C, .slice A n c]) ∧ (dn 6 = true → t38 = .int .i64 C) ∧ (dn 7 = true → t39 = .bool false) ∧ (dn 8 = true → t40 = .bool false) ∧ (dn 9 = true → t41 = .agg #[.int .i64 Y.Code, .int .i64 Y.KeyId, .int .i64 Y.From]) ∧ (dn 10 = true → t42 = vo) ∧ (dn 11 = true → t43 = vm) ∧ (dn 12 = true → t44 = .agg #[.int .i64 Y.Code, .int .i64 Y.KeyId, .int .i64 Y.From]) ∧ (dn 13 = true → t45 = .bool false) ∧ (dn 14 = true → t46 = .bool false) ∧ (dn 15 = true → t47 = .bool false) ∧ (dn 16 = true → t48 = vm) ∧ (dn 17 = true → t49 = .agg #[.int .i64 Z.Code, .int .i64 Z.KeyId, .int .i64 Z.From]) ∧ (dn 18 = true → t50 = vm) ∧ (dn 19 = true → t51 = .agg #[.int .i64 Z.Code, .int .i64 Z.KeyId, .int .i64 Z.From]) ∧ (dn 20 = true → t52 = .bool false) ∧ (dn 21 = true → t53 = .bool false)) dn ac W := ⟨_, fun _ _ _ => Iff.rfl⟩
  replace HJ := hidH HJ
  refine region_inv2 22 (fun i => [[], [0], [], [], [], [2, 3, 4], [5], [1, 6], [7], [8], [8], [8], [8, 10, 11], [8, 9, 12], [8, 13], [14], [15], [15, 16], [15], [15, 17, 18], [15, 17, 19], [15, 20]].getD i []) J hn hdeps hback ?start ?step ?fin
  case start => exact (HJ.out _ _ _).2 ⟨undef, undef, undef, undef, undef, undef, undef, undef, undef, undef, undef, undef, undef, undef, undef, undef, undef, undef, undef, undef, undef, undef, ha, hP, hC, hO, fun h => by simp at h, fun h => by simp at h, fun h => by simp at h, fun h => by simp at h, fun h => by simp at h, fun h => by simp at h, fun h => by simp at h, fun h => by simp at h, fun h => by simp at h, fun h => by simp at h, fun h => by simp at h, fun h => by simp at h, fun h => by simp at h, fun h => by simp at h, fun h => by simp at h, fun h => by simp at h, fun h => by simp at h, fun h => by simp at h, fun h => by simp at h, fun h => by simp at h, fun h => by simp at h, fun h => by simp at h⟩
  all_goals clear ha hP hC hO
  case step =>
    clear fin hdeps hback
    intro i hi dn ac W hJ hdn hdep
    obtain ⟨t32, t33, t34, t35, t36, t37, t38, t39, t40, t41, t42, t43, t44, t45, t46, t47, t48, t49, t50, t51, t52, t53, rfl, hP, hC, hO, h0, h1, h2, h3, h4, h5, h6, h7, h8, h9, h10, h11, h12, h13, h14, h15, h16, h17, h18, h19, h20, h21⟩ := (HJ.out _ _ _).1 hJ
    clear hJ
    match i, hi with
    | 0, _ =>
      obtain ⟨ty, ps, af, ho⟩ := op_lit hops (i := 0) (op := Op.fieldAddr 28 (Operand.tmp 6) 0) (dst := some 32) (g := none) rfl
      refine wpOp_lit ho (fun j b h => by cases h) ?_
      clear hops hdep ho
      replace h1 := hidH h1
      replace h2 := hidH h2
      replace h3 := hidH h3
      replace h4 := hidH h4
      replace h5 := hidH h5
      replace h6 := hidH h6
      replace h7 := hidH h7
      replace h8 := hidH h8
      replace h9 := hidH h9
      replace h10 := hidH h10
      replace h11 := hidH h11
      replace h12 := hidH h12
      replace h13 := hidH h13
      replace h14 := hidH h14
      replace h15 := hidH h15
      replace h16 := hidH h16
      replace h17 := hidH h17
      replace h18 := hidH h18
      replace h19 := hidH h19
      replace h20 := hidH h20
      replace h21 := hidH h21
      go_wp2
      exact (HJ.out _ _ _).2 ⟨_, _, _, _, _, _, _, _, _, _, _, _, _, _, _, _, _, _, _, _, _, _, rfl, hP, hC, hO, fun _ => rfl, h1.out, h2.out, h3.out, h4.out, h5.out, h6.out, h7.out, h8.out, h9.out, h10.out, h11.out, h12.out, h13.out, h14.out, h15.out, h16.out, h17.out, h18.out, h19.out, h20.out, h21.out⟩
    | 1, _ =>
      obtain ⟨ty, ps, af, ho⟩ := op_lit hops (i := 1) (op := Op.load 2 (Operand.tmp 32)) (dst := some 33) (g := none) rfl
      obtain rfl := h0 (hdep 0 (by simp))
      refine wpOp_lit ho (fun j b h => by cases h) ?_
      clear hops hdep ho
      replace h0 := hidH h0
      replace h2 := hidH h2
      replace h3 := hidH h3
      replace h4 := hidH h4
      replace h5 := hidH h5
      replace h6 := hidH h6
      replace h7 := hidH h7
      replace h8 := hidH h8
      replace h9 := hidH h9
      replace h10 := hidH h10
      replace h11 := hidH h11
      replace h12 := hidH h12
      replace h13 := hidH h13
      replace h14 := hidH h14
      replace h15 := hidH h15
      replace h16 := hidH h16
      replace h17 := hidH h17
      replace h18 := hidH h18
      replace h19 := hidH h19
      replace h20 := hidH h20
      replace h21 := hidH h21
      have q0 := hP.cell 0
      simp only [List.getElem?_toArray, List.getElem?_cons_zero] at q0
      go_wp2
      exact (HJ.out _ _ _).2 ⟨_, _, _, _, _, _, _, _, _, _, _, _, _, _, _, _, _, _, _, _, _, _, rfl, hP, hC, hO, fun _ => rfl, fun _ => rfl, h2.out, h3.out, h4.out, h5.out, h6.out, h7.out, h8.out, h9.out, h10.out, h11.out, h12.out, h13.out, h14.out, h15.out, h16.out, h17.out, h18.out, h19.out, h20.out, h21.out⟩
    | 2, _ =>
      obtain ⟨ty, ps, af, ho⟩ := op_lit hops (i := 2) (op := Op.move (Operand.tmp 3)) (dst := some 34) (g := none) rfl
      refine wpOp_lit ho (fun j b h => by cases h) ?_
      clear hops hdep ho
      replace h0 := hidH h0
      replace h1 := hidH h1
      replace h3 := hidH h3
      replace h4 := hidH h4
      replace h5 := hidH h5
      replace h6 := hidH h6
      replace h7 := hidH h7
      replace h8 := hidH h8
      replace h9 := hidH h9
      replace h10 := hidH h10
      replace h11 := hidH h11
      replace h12 := hidH h12
      replace h13 := hidH h13
      replace h14 := hidH h14
      replace h15 := hidH h15
      replace h16 := hidH h16
      replace h17 := hidH h17
      replace h18 := hidH h18
      replace h19 := hidH h19
      replace h20 := hidH h20
      replace h21 := hidH h21
      go_wp2
      exact (HJ.out _ _ _).2 ⟨_, _, _, _, _, _, _, _, _, _, _, _, _, _, _, _, _, _, _, _, _, _, rfl, hP, hC, hO, h0.out, h1.out, fun _ => rfl, h3.out, h4.out, h5.out, h6.out, h7.out, h8.out, h9.out, h10.out, h11.out, h12.out, h13.out, h14.out, h15.out, h16.out, h17.out, h18.out, h19.out, h20.out, h21.out⟩
    | 3, _ =>
      obtain ⟨ty, ps, af, ho⟩ := op_lit hops (i := 3) (op := Op.move (Operand.tmp 4)) (dst := some 35) (g := none) rfl
      refine wpOp_lit ho (fun j b h => by cases h) ?_
      clear hops hdep ho
      replace h0 := hidH h0
      replace h1 := hidH h1
      replace h2 := hidH h2
      replace h4 := hidH h4
      replace h5 := hidH h5
      replace h6 := hidH h6
      replace h7 := hidH h7
      replace h8 := hidH h8
      replace h9 := hidH h9
      replace h10 := hidH h10
      replace h11 := hidH h11
      replace h12 := hidH h12
      replace h13 := hidH h13
      replace h14 := hidH h14
      replace h15 := hidH h15
      replace h16 := hidH h16
      replace h17 := hidH h17
      replace h18 := hidH h18
      replace h19 := hidH h19
      replace h20 := hidH h20
      replace h21 := hidH h21
      go_wp2
      exact (HJ.out _ _ _).2 ⟨_, _, _, _, _, _, _, _, _, _, _, _, _, _, _, _, _, _, _, _, _, _, rfl, hP, hC, hO, h0.out, h1.out, h2.out, fun _ => rfl, h4.out, h5.out, h6.out, h7.out, h8.out, h9.out, h10.out, h11.out, h12.out, h13.out, h14.out, h15.out, h16.out, h17.out, h18.out, h19.out, h20.out, h21.out⟩
    | 4, _ =>
      obtain ⟨ty, ps, af, ho⟩ := op_lit hops (i := 4) (op := Op.move (Operand.tmp 5)) (dst := some 36) (g := none) rfl
      refine wpOp_lit ho (fun j b h => by cases h) ?_
      clear hops hdep ho
      replace h0 := hidH h0
      replace h1 := hidH h1
      replace h2 := hidH h2
      replace h3 := hidH h3
      replace h5 := hidH h5
      replace h6 := hidH h6
      replace h7 := hidH h7
      replace h8 := hidH h8
      replace h9 := hidH h9
      replace h10 := hidH h10
      replace h11 := hidH h11
      replace h12 := hidH h12
      replace h13 := hidH h13
      replace h14 := hidH h14
      replace h15 := hidH h15
      replace h16 := hidH h16
      replace h17 := hidH h17
      replace h18 := hidH h18
      replace h19 := hidH h19
      replace h20 := hidH h20
      replace h21 := hidH h21
      go_wp2
      exact (HJ.out _ _ _).2 ⟨_, _, _, _, _, _, _, _, _, _, _, _, _, _, _, _, _, _, _, _, _, _, rfl, hP, hC, hO, h0.out, h1.out, h2.out, h3.out, fun _ => rfl, h5.out, h6.out, h7.out, h8.out, h9.out, h10.out, h11.out, h12.out, h13.out, h14.out, h15.out, h16.out, h17.out, h18.out, h19.out, h20.out, h21.out⟩
    | 5, _ =>
      obtain ⟨ty, ps, af, ho⟩ := op_lit hops (i := 5) (op := Op.call { callee := Callee.value (Operand.func 9), args := #[(Operand.tmp 34), (Operand.tmp 35), (Operand.tmp 36)], argTypes := #[2, 22, 24] }) (dst := some 37) (g := none) rfl
      obtain rfl := h2 (hdep 2 (by simp))
      obtain rfl := h3 (hdep 3 (by simp))
      obtain rfl := h4 (hdep 4 (by simp))
      refine wpOp_lit ho (fun j b h => by cases h) ?_
      clear hops hdep ho
      replace h0 := hidH h0
      replace h1 := hidH h1
      replace h2 := hidH h2
      replace h3 := hidH h3
      replace h4 := hidH h4
      replace h6 := hidH h6
      replace h7 := hidH h7
      replace h8 := hidH h8
      replace h9 := hidH h9
      replace h10 := hidH h10
      replace h11 := hidH h11
      replace h12 := hidH h12
      replace h13 := hidH h13
      replace h14 := hidH h14
      replace h15 := hidH h15
      replace h16 := hidH h16
      replace h17 := hidH h17
      replace h18 := hidH h18
      replace h19 := hidH h19
      replace h20 := hidH h20
      replace h21 := hidH h21
      go_wp2_with fail
      refine (F5 W hO).mono ?_
      rintro e w9 ⟨A5, n5, c5, rfl, hb⟩
      go_wp2
      exact (HJ.out _ _ _).2 ⟨_, _, _, _, _, _, _, _, _, _, _, _, _, _, _, _, _, _, _, _, _, _, rfl, hP.below hb, hC.below hb, btr hO hb, h0.out, h1.out, fun _ => rfl, fun _ => rfl, fun _ => rfl, fun _ => ⟨A5, n5, c5, rfl⟩, h6.out, h7.out, h8.out, h9.out, h10.out, h11.out, h12.out, h13.out, h14.out, h15.out, h16.out, h17.out, h18.out, h19.out, h20.out, h21.out⟩
    | 6, _ =>
      obtain ⟨ty, ps, af, ho⟩ := op_lit hops (i := 6) (op := Op.field 28 (Operand.tmp 37) 0) (dst := some 38) (g := none) rfl
      obtain ⟨A5, n5, c5, rfl⟩ := h5 (hdep 5 (by simp))
      refine wpOp_lit ho (fun j b h => by cases h) ?_
      clear hops hdep ho
      replace h0 := hidH h0
      replace h1 := hidH h1
      replace h2 := hidH h2
      replace h3 := hidH h3
      replace h4 := hidH h4
      replace h5 := hidH h5
      replace h7 := hidH h7
      replace h8 := hidH h8
      replace h9 := hidH h9
      replace h10 := hidH h10
      replace h11 := hidH h11
      replace h12 := hidH h12
      replace h13 := hidH h13
      replace h14 := hidH h14
      replace h15 := hidH h15
      replace h16 := hidH h16
      replace h17 := hidH h17
      replace h18 := hidH h18
      replace h19 := hidH h19
      replace h20 := hidH h20
      replace h21 := hidH h21
      have f1 := fldC0
      go_wp2
      exact (HJ.out _ _ _).2 ⟨_, _, _, _, _, _, _, _, _, _, _, _, _, _, _, _, _, _, _, _, _, _, rfl, hP, hC, hO, h0.out, h1.out, h2.out, h3.out, h4.out, fun _ => ⟨A5, n5, c5, rfl⟩, fun _ => rfl, h7.out, h8.out, h9.out, h10.out, h11.out, h12.out, h13.out, h14.out, h15.out, h16.out, h17.out, h18.out, h19.out, h20.out, h21.out⟩
    | 7, _ =>
      obtain ⟨ty, ps, af, ho⟩ := op_lit hops (i := 7) (op := Op.binOp BinOp.neq 2 (Operand.tmp 33) (Operand.tmp 38) 2) (dst := some 39) (g := none) rfl
      obtain rfl := h1 (hdep 1 (by simp))
      obtain rfl := h6 (hdep 6 (by simp))
      refine wpOp_lit ho (fun j b h => by cases h) ?_
      clear hops hdep ho
      replace h0 := hidH h0
      replace h1 := hidH h1
      replace h2 := hidH h2
      replace h3 := hidH h3
      replace h4 := hidH h4
      replace h5 := hidH h5
      replace h6 := hidH h6
      replace h8 := hidH h8
      replace h9 := hidH h9
      replace h10 := hidH h10
      replace h11 := hidH h11
      replace h12 := hidH h12
      replace h13 := hidH h13
      replace h14 := hidH h14
      replace h15 := hidH h15
      replace h16 := hidH h16
      replace h17 := hidH h17
      replace h18 := hidH h18
      replace h19 := hidH h19
      replace h20 := hidH h20
      replace h21 := hidH h21
      go_wp2
      exact (HJ.out _ _ _).2 ⟨_, _, _, _, _, _, _, _, _, _, _, _, _, _, _, _, _, _, _, _, _, _, rfl, hP, hC, hO, h0.out, fun _ => rfl, h2.out, h3.out, h4.out, h5.out, fun _ => rfl, fun _ => rfl, h8.out, h9.out, h10.out, h11.out, h12.out, h13.out, h14.out, h15.out, h16.out, h17.out, h18.out, h19.out, h20.out, h21.out⟩
    | 8, _ =>
      obtain ⟨ty, ps, af, ho⟩ := op_lit hops (i := 8) (op := Op.move (Operand.tmp 39)) (dst := some 40) (g := none) rfl
      obtain rfl := h7 (hdep 7 (by simp))
      refine wpOp_lit ho (fun j b h => by cases h) ?_
      clear hops hdep ho
      replace h0 := hidH h0
      replace h1 := hidH h1
      replace h2 := hidH h2
      replace h3 := hidH h3
      replace h4 := hidH h4
      replace h5 := hidH h5
      replace h6 := hidH h6
      replace h7 := hidH h7
      replace h9 := hidH h9
      replace h10 := hidH h10
      replace h11 := hidH h11
      replace h12 := hidH h12
      replace h13 := hidH h13
      replace h14 := hidH h14
      replace h15 := hidH h15
      replace h16 := hidH h16
      replace h17 := hidH h17
      replace h18 := hidH h18
      replace h19 := hidH h19
      replace h20 := hidH h20
      replace h21 := hidH h21
      go_wp2
      exact (HJ.out _ _ _).2 ⟨_, _, _, _, _, _, _, _, _, _, _, _, _, _, _, _, _, _, _, _, _, _, rfl, hP, hC, hO, h0.out, h1.out, h2.out, h3.out, h4.out, h5.out, h6.out, fun _ => rfl, fun _ => rfl, h9.out, h10.out, h11.out, h12.out, h13.out, h14.out, h15.out, h16.out, h17.out, h18.out, h19.out, h20.out, h21.out⟩
    | 9, _ =>
      obtain ⟨ty, ps, af, ho⟩ := op_lit hops (i := 9) (op := Op.load 33 (Operand.tmp 9)) (dst := some 41) (g := some (8, false)) rfl
      obtain rfl := h8 (hdep 8 (by simp))
      have hy := fun tmps ht => yielded_lit hops (i := 8) (op := Op.move (Operand.tmp 39)) (t := 40) (g := none) rfl tmps false ht
      refine wpOp_lit ho (fun j b h => by cases h; exact hy _ rfl) ?_
      clear hops hdep ho hy
      replace h0 := hidH h0
      replace h1 := hidH h1
      replace h2 := hidH h2
      replace h3 := hidH h3
      replace h4 := hidH h4
      replace h5 := hidH h5
      replace h6 := hidH h6
      replace h7 := hidH h7
      replace h8 := hidH h8
      replace h10 := hidH h10
      replace h11 := hidH h11
      replace h12 := hidH h12
      replace h13 := hidH h13
      replace h14 := hidH h14
      replace h15 := hidH h15
      replace h16 := hidH h16
      replace h17 := hidH h17
      replace h18 := hidH h18
      replace h19 := hidH h19
      replace h20 := hidH h20
      replace h21 := hidH h21
      have q0 := hC.cell 0
      have q1 := hC.cell 1
      have q2 := hC.cell 2
      simp only [List.getElem?_toArray, List.getElem?_cons_succ, List.getElem?_cons_zero] at q0 q1 q2
      go_wp2
      exact (HJ.out _ _ _).2 ⟨_, _, _, _, _, _, _, _, _, _, _, _, _, _, _, _, _, _, _, _, _, _, rfl, hP, hC, hO, h0.out, h1.out, h2.out, h3.out, h4.out, h5.out, h6.out, h7.out, fun _ => rfl, fun _ => rfl, h10.out, h11.out, h12.out, h13.out, h14.out, h15.out, h16.out, h17.out, h18.out, h19.out, h20.out, h21.out⟩
    | 10, _ =>
      obtain ⟨ty, ps, af, ho⟩ := op_lit hops (i := 10) (op := Op.move (Operand.tmp 7)) (dst := some 42) (g := some (8, false)) rfl
      obtain rfl := h8 (hdep 8 (by simp))
      have hy := fun tmps ht => yielded_lit hops (i := 8) (op := Op.move (Operand.tmp 39)) (t := 40) (g := none) rfl tmps false ht
      refine wpOp_lit ho (fun j b h => by cases h; exact hy _ rfl) ?_
      clear hops hdep ho hy
      replace h0 := hidH h0
      replace h1 := hidH h1
      replace h2 := hidH h2
      replace h3 := hidH h3
      replace h4 := hidH h4
      replace h5 := hidH h5
      replace h6 := hidH h6
      replace h7 := hidH h7
      replace h8 := hidH h8
      replace h9 := hidH h9
      replace h11 := hidH h11
      replace h12 := hidH h12
      replace h13 := hidH h13
      replace h14 := hidH h14
      replace h15 := hidH h15
      replace h16 := hidH h16
      replace h17 := hidH h17
      replace h18 := hidH h18
      replace h19 := hidH h19
      replace h20 := hidH h20
      replace h21 := hidH h21
      go_wp2
      exact (HJ.out _ _ _).2 ⟨_, _, _, _, _, _, _, _, _, _, _, _, _, _, _, _, _, _, _, _, _, _, rfl, hP, hC, hO, h0.out, h1.out, h2.out, h3.out, h4.out, h5.out, h6.out, h7.out, fun _ => rfl, h9.out, fun _ => rfl, h11.out, h12.out, h13.out, h14.out, h15.out, h16.out, h17.out, h18.out, h19.out, h20.out, h21.out⟩
    | 11, _ =>
      obtain ⟨ty, ps, af, ho⟩ := op_lit hops (i := 11) (op := Op.move (Operand.tmp 8)) (dst := some 43) (g := some (8, false)) rfl
      obtain rfl := h8 (hdep 8 (by simp))
      have hy := fun tmps ht => yielded_lit hops (i := 8) (op := Op.move (Operand.tmp 39)) (t := 40) (g := none) rfl tmps false ht
      refine wpOp_lit ho (fun j b h => by cases h; exact hy _ rfl) ?_
      clear hops hdep ho hy
      replace h0 := hidH h0
      replace h1 := hidH h1
      replace h2 := hidH h2
      replace h3 := hidH h3
      replace h4 := hidH h4
      replace h5 := hidH h5
      replace h6 := hidH h6
      replace h7 := hidH h7
      replace h8 := hidH h8
      replace h9 := hidH h9
      replace h10 := hidH h10
      replace h12 := hidH h12
      replace h13 := hidH h13
      replace h14 := hidH h14
      replace h15 := hidH h15
      replace h16 := hidH h16
      replace h17 := hidH h17
      replace h18 := hidH h18
      replace h19 := hidH h19
      replace h20 := hidH h20
      replace h21 := hidH h21
      go_wp2
      exact (HJ.out _ _ _).2 ⟨_, _, _, _, _, _, _, _, _, _, _, _, _, _, _, _, _, _, _, _, _, _, rfl, hP, hC, hO, h0.out, h1.out, h2.out, h3.out, h4.out, h5.out, h6.out, h7.out, fun _ => rfl, h9.out, h10.out, fun _ => rfl, h12.out, h13.out, h14.out, h15.out, h16.out, h17.out, h18.out, h19.out, h20.out, h21.out⟩
    | 12, _ =>
      obtain ⟨ty, ps, af, ho⟩ := op_lit hops (i := 12) (op := Op.call { callee := Callee.value (Operand.func 10), args := #[(Operand.tmp 42), (Operand.tmp 43)], argTypes := #[22, 24] }) (dst := some 44) (g := some (8, false)) rfl
      obtain rfl := h8 (hdep 8 (by simp))
      have hy := fun tmps ht => yielded_lit hops (i := 8) (op := Op.move (Operand.tmp 39)) (t := 40) (g := none) rfl tmps false ht
      obtain rfl := h10 (hdep 10 (by simp))
      obtain rfl := h11 (hdep 11 (by simp))
      refine wpOp_lit ho (fun j b h => by cases h; exact hy _ rfl) ?_
      clear hops hdep ho hy
      replace h0 := hidH h0
      replace h1 := hidH h1
      replace h2 := hidH h2
      replace h3 := hidH h3
      replace h4 := hidH h4
      replace h5 := hidH h5
      replace h6 := hidH h6
      replace h7 := hidH h7
      replace h8 := hidH h8
      replace h9 := hidH h9
      replace h10 := hidH h10
      replace h11 := hidH h11
      replace h13 := hidH h13
      replace h14 := hidH h14
      replace h15 := hidH h15
      replace h16 := hidH h16
      replace h17 := hidH h17
      replace h18 := hidH h18
      replace h19 := hidH h19
      replace h20 := hidH h20
      replace h21 := hidH h21
      go_wp2_with fail
      refine (F12 W hO).mono ?_
      rintro e w9 ⟨rfl, hb⟩
      go_wp2
      exact (HJ.out _ _ _).2 ⟨_, _, _, _, _, _, _, _, _, _, _, _, _, _, _, _, _, _, _, _, _, _, rfl, hP.below hb, hC.below hb, btr hO hb, h0.out, h1.out, h2.out, h3.out, h4.out, h5.out, h6.out, h7.out, fun _ => rfl, h9.out, fun _ => rfl, fun _ => rfl, fun _ => rfl, h13.out, h14.out, h15.out, h16.out, h17.out, h18.out, h19.out, h20.out, h21.out⟩
    | 13, _ =>
      obtain ⟨ty, ps, af, ho⟩ := op_lit hops (i := 13) (op := Op.binOp BinOp.neq 33 (Operand.tmp 41) (Operand.tmp 44) 33) (dst := some 45) (g := some (8, false)) rfl
      obtain rfl := h8 (hdep 8 (by simp))
      have hy := fun tmps ht => yielded_lit hops (i := 8) (op := Op.move (Operand.tmp 39)) (t := 40) (g := none) rfl tmps false ht
      obtain rfl := h9 (hdep 9 (by simp))
      obtain rfl := h12 (hdep 12 (by simp))
      refine wpOp_lit ho (fun j b h => by cases h; exact hy _ rfl) ?_
      clear hops hdep ho hy
      replace h0 := hidH h0
      replace h1 := hidH h1
      replace h2 := hidH h2
      replace h3 := hidH h3
      replace h4 := hidH h4
      replace h5 := hidH h5
      replace h6 := hidH h6
      replace h7 := hidH h7
      replace h8 := hidH h8
      replace h9 := hidH h9
      replace h10 := hidH h10
      replace h11 := hidH h11
      replace h12 := hidH h12
      replace h14 := hidH h14
      replace h15 := hidH h15
      replace h16 := hidH h16
      replace h17 := hidH h17
      replace h18 := hidH h18
      replace h19 := hidH h19
      replace h20 := hidH h20
      replace h21 := hidH h21
      go_wp2
      exact (HJ.out _ _ _).2 ⟨_, _, _, _, _, _, _, _, _, _, _, _, _, _, _, _, _, _, _, _, _, _, rfl, hP, hC, hO, h0.out, h1.out, h2.out, h3.out, h4.out, h5.out, h6.out, h7.out, fun _ => rfl, fun _ => rfl, h10.out, h11.out, fun _ => rfl, fun _ => rfl, h14.out, h15.out, h16.out, h17.out, h18.out, h19.out, h20.out, h21.out⟩
    | 14, _ =>
      obtain ⟨ty, ps, af, ho⟩ := op_lit hops (i := 14) (op := Op.pick (Operand.tmp 40) (Operand.const (Value.bool true)) (Operand.tmp 45)) (dst := some 46) (g := none) rfl
      obtain rfl := h8 (hdep 8 (by simp))
      obtain rfl := h13 (hdep 13 (by simp))
      refine wpOp_lit ho (fun j b h => by cases h) ?_
      clear hops hdep ho
      replace h0 := hidH h0
      replace h1 := hidH h1
      replace h2 := hidH h2
      replace h3 := hidH h3
      replace h4 := hidH h4
      replace h5 := hidH h5
      replace h6 := hidH h6
      replace h7 := hidH h7
      replace h8 := hidH h8
      replace h9 := hidH h9
      replace h10 := hidH h10
      replace h11 := hidH h11
      replace h12 := hidH h12
      replace h13 := hidH h13
      replace h15 := hidH h15
      replace h16 := hidH h16
      replace h17 := hidH h17
      replace h18 := hidH h18
      replace h19 := hidH h19
      replace h20 := hidH h20
      replace h21 := hidH h21
      go_wp2
      exact (HJ.out _ _ _).2 ⟨_, _, _, _, _, _, _, _, _, _, _, _, _, _, _, _, _, _, _, _, _, _, rfl, hP, hC, hO, h0.out, h1.out, h2.out, h3.out, h4.out, h5.out, h6.out, h7.out, fun _ => rfl, h9.out, h10.out, h11.out, h12.out, fun _ => rfl, fun _ => rfl, h15.out, h16.out, h17.out, h18.out, h19.out, h20.out, h21.out⟩
    | 15, _ =>
      obtain ⟨ty, ps, af, ho⟩ := op_lit hops (i := 15) (op := Op.move (Operand.tmp 46)) (dst := some 47) (g := none) rfl
      obtain rfl := h14 (hdep 14 (by simp))
      refine wpOp_lit ho (fun j b h => by cases h) ?_
      clear hops hdep ho
      replace h0 := hidH h0
      replace h1 := hidH h1
      replace h2 := hidH h2
      replace h3 := hidH h3
      replace h4 := hidH h4
      replace h5 := hidH h5
      replace h6 := hidH h6
      replace h7 := hidH h7
      replace h8 := hidH h8
      replace h9 := hidH h9
      replace h10 := hidH h10
      replace h11 := hidH h11
      replace h12 := hidH h12
      replace h13 := hidH h13
      replace h14 := hidH h14
      replace h16 := hidH h16
      replace h17 := hidH h17
      replace h18 := hidH h18
      replace h19 := hidH h19
      replace h20 := hidH h20
      replace h21 := hidH h21
      go_wp2
      exact (HJ.out _ _ _).2 ⟨_, _, _, _, _, _, _, _, _, _, _, _, _, _, _, _, _, _, _, _, _, _, rfl, hP, hC, hO, h0.out, h1.out, h2.out, h3.out, h4.out, h5.out, h6.out, h7.out, h8.out, h9.out, h10.out, h11.out, h12.out, h13.out, fun _ => rfl, fun _ => rfl, h16.out, h17.out, h18.out, h19.out, h20.out, h21.out⟩
    | 16, _ =>
      obtain ⟨ty, ps, af, ho⟩ := op_lit hops (i := 16) (op := Op.move (Operand.tmp 8)) (dst := some 48) (g := some (15, false)) rfl
      obtain rfl := h15 (hdep 15 (by simp))
      have hy := fun tmps ht => yielded_lit hops (i := 15) (op := Op.move (Operand.tmp 46)) (t := 47) (g := none) rfl tmps false ht
      refine wpOp_lit ho (fun j b h => by cases h; exact hy _ rfl) ?_
      clear hops hdep ho hy
      replace h0 := hidH h0
      replace h1 := hidH h1
      replace h2 := hidH h2
      replace h3 := hidH h3
      replace h4 := hidH h4
      replace h5 := hidH h5
      replace h6 := hidH h6
      replace h7 := hidH h7
      replace h8 := hidH h8
      replace h9 := hidH h9
      replace h10 := hidH h10
      replace h11 := hidH h11
      replace h12 := hidH h12
      replace h13 := hidH h13
      replace h14 := hidH h14
      replace h15 := hidH h15
      replace h17 := hidH h17
      replace h18 := hidH h18
      replace h19 := hidH h19
      replace h20 := hidH h20
      replace h21 := hidH h21
      go_wp2
      exact (HJ.out _ _ _).2 ⟨_, _, _, _, _, _, _, _, _, _, _, _, _, _, _, _, _, _, _, _, _, _, rfl, hP, hC, hO, h0.out, h1.out, h2.out, h3.out, h4.out, h5.out, h6.out, h7.out, h8.out, h9.out, h10.out, h11.out, h12.out, h13.out, h14.out, fun _ => rfl, fun _ => rfl, h17.out, h18.out, h19.out, h20.out, h21.out⟩
    | 17, _ =>
      obtain ⟨ty, ps, af, ho⟩ := op_lit hops (i := 17) (op := Op.call { callee := Callee.value (Operand.func 11), args := #[(Operand.tmp 48)], argTypes := #[24] }) (dst := some 49) (g := some (15, false)) rfl
      obtain rfl := h15 (hdep 15 (by simp))
      have hy := fun tmps ht => yielded_lit hops (i := 15) (op := Op.move (Operand.tmp 46)) (t := 47) (g := none) rfl tmps false ht
      obtain rfl := h16 (hdep 16 (by simp))
      refine wpOp_lit ho (fun j b h => by cases h; exact hy _ rfl) ?_
      clear hops hdep ho hy
      replace h0 := hidH h0
      replace h1 := hidH h1
      replace h2 := hidH h2
      replace h3 := hidH h3
      replace h4 := hidH h4
      replace h5 := hidH h5
      replace h6 := hidH h6
      replace h7 := hidH h7
      replace h8 := hidH h8
      replace h9 := hidH h9
      replace h10 := hidH h10
      replace h11 := hidH h11
      replace h12 := hidH h12
      replace h13 := hidH h13
      replace h14 := hidH h14
      replace h15 := hidH h15
      replace h16 := hidH h16
      replace h18 := hidH h18
      replace h19 := hidH h19
      replace h20 := hidH h20
      replace h21 := hidH h21
      go_wp2_with fail
      refine (F17 W hO).mono ?_
      rintro e w9 ⟨rfl, hb⟩
      go_wp2
      exact (HJ.out _ _ _).2 ⟨_, _, _, _, _, _, _, _, _, _, _, _, _, _, _, _, _, _, _, _, _, _, rfl, hP.below hb, hC.below hb, btr hO hb, h0.out, h1.out, h2.out, h3.out, h4.out, h5.out, h6.out, h7.out, h8.out, h9.out, h10.out, h11.out, h12.out, h13.out, h14.out, fun _ => rfl, fun _ => rfl, fun _ => rfl, h18.out, h19.out, h20.out, h21.out⟩
    | 18, _ =>
      obtain ⟨ty, ps, af, ho⟩ := op_lit hops (i := 18) (op := Op.move (Operand.tmp 8)) (dst := some 50) (g := some (15, false)) rfl
      obtain rfl := h15 (hdep 15 (by simp))
      have hy := fun tmps ht => yielded_lit hops (i := 15) (op := Op.move (Operand.tmp 46)) (t := 47) (g := none) rfl tmps false ht
      refine wpOp_lit ho (fun j b h => by cases h; exact hy _ rfl) ?_
      clear hops hdep ho hy
      replace h0 := hidH h0
      replace h1 := hidH h1
      replace h2 := hidH h2
      replace h3 := hidH h3
      replace h4 := hidH h4
      replace h5 := hidH h5
      replace h6 := hidH h6
      replace h7 := hidH h7
      replace h8 := hidH h8
      replace h9 := hidH h9
      replace h10 := hidH h10
      replace h11 := hidH h11
      replace h12 := hidH h12
      replace h13 := hidH h13
      replace h14 := hidH h14
      replace h15 := hidH h15
      replace h16 := hidH h16
      replace h17 := hidH h17
      replace h19 := hidH h19
      replace h20 := hidH h20
      replace h21 := hidH h21
      go_wp2
      exact (HJ.out _ _ _).2 ⟨_, _, _, _, _, _, _, _, _, _, _, _, _, _, _, _, _, _, _, _, _, _, rfl, hP, hC, hO, h0.out, h1.out, h2.out, h3.out, h4.out, h5.out, h6.out, h7.out, h8.out, h9.out, h10.out, h11.out, h12.out, h13.out, h14.out, fun _ => rfl, h16.out, h17.out, fun _ => rfl, h19.out, h20.out, h21.out⟩
    | 19, _ =>
      obtain ⟨ty, ps, af, ho⟩ := op_lit hops (i := 19) (op := Op.call { callee := Callee.value (Operand.func 12), args := #[(Operand.tmp 50)], argTypes := #[24] }) (dst := some 51) (g := some (15, false)) rfl
      obtain rfl := h15 (hdep 15 (by simp))
      have hy := fun tmps ht => yielded_lit hops (i := 15) (op := Op.move (Operand.tmp 46)) (t := 47) (g := none) rfl tmps false ht
      obtain rfl := h18 (hdep 18 (by simp))
      refine wpOp_lit ho (fun j b h => by cases h; exact hy _ rfl) ?_
      clear hops hdep ho hy
      replace h0 := hidH h0
      replace h1 := hidH h1
      replace h2 := hidH h2
      replace h3 := hidH h3
      replace h4 := hidH h4
      replace h5 := hidH h5
      replace h6 := hidH h6
      replace h7 := hidH h7
      replace h8 := hidH h8
      replace h9 := hidH h9
      replace h10 := hidH h10
      replace h11 := hidH h11
      replace h12 := hidH h12
      replace h13 := hidH h13
      replace h14 := hidH h14
      replace h15 := hidH h15
      replace h16 := hidH h16
      replace h17 := hidH h17
      replace h18 := hidH h18
      replace h20 := hidH h20
      replace h21 := hidH h21
      go_wp2_with fail
      refine (F19 W hO).mono ?_
      rintro e w9 ⟨rfl, hb⟩
      go_wp2
      exact (HJ.out _ _ _).2 ⟨_, _, _, _, _, _, _, _, _, _, _, _, _, _, _, _, _, _, _, _, _, _, rfl, hP.below hb, hC.below hb, btr hO hb, h0.out, h1.out, h2.out, h3.out, h4.out, h5.out, h6.out, h7.out, h8.out, h9.out, h10.out, h11.out, h12.out, h13.out, h14.out, fun _ => rfl, h16.out, h17.out, fun _ => rfl, fun _ => rfl, h20.out, h21.out⟩
    | 20, _ =>
      obtain ⟨ty, ps, af, ho⟩ := op_lit hops (i := 20) (op := Op.binOp BinOp.neq 33 (Operand.tmp 49) (Operand.tmp 51) 33) (dst := some 52) (g := some (15, false)) rfl
      obtain rfl := h15 (hdep 15 (by simp))
      have hy := fun tmps ht => yielded_lit hops (i := 15) (op := Op.move (Operand.tmp 46)) (t := 47) (g := none) rfl tmps false ht
      obtain rfl := h17 (hdep 17 (by simp))
      obtain rfl := h19 (hdep 19 (by simp))
      refine wpOp_lit ho (fun j b h => by cases h; exact hy _ rfl) ?_
      clear hops hdep ho hy
      replace h0 := hidH h0
      replace h1 := hidH h1
      replace h2 := hidH h2
      replace h3 := hidH h3
      replace h4 := hidH h4
      replace h5 := hidH h5
      replace h6 := hidH h6
      replace h7 := hidH h7
      replace h8 := hidH h8
      replace h9 := hidH h9
      replace h10 := hidH h10
      replace h11 := hidH h11
      replace h12 := hidH h12
      replace h13 := hidH h13
      replace h14 := hidH h14
      replace h15 := hidH h15
      replace h16 := hidH h16
      replace h17 := hidH h17
      replace h18 := hidH h18
      replace h19 := hidH h19
      replace h21 := hidH h21
      go_wp2
      exact (HJ.out _ _ _).2 ⟨_, _, _, _, _, _, _, _, _, _, _, _, _, _, _, _, _, _, _, _, _, _, rfl, hP, hC, hO, h0.out, h1.out, h2.out, h3.out, h4.out, h5.out, h6.out, h7.out, h8.out, h9.out, h10.out, h11.out, h12.out, h13.out, h14.out, fun _ => rfl, h16.out, fun _ => rfl, h18.out, fun _ => rfl, fun _ => rfl, h21.out⟩
    | 21, _ =>
      obtain ⟨ty, ps, af, ho⟩ := op_lit hops (i := 21) (op := Op.pick (Operand.tmp 47) (Operand.const (Value.bool true)) (Operand.tmp 52)) (dst := some 53) (g := none) rfl
      obtain rfl := h15 (hdep 15 (by simp))
      obtain rfl := h20 (hdep 20 (by simp))
      refine wpOp_lit ho (fun j b h => by cases h) ?_
      clear hops hdep ho
      replace h0 := hidH h0
      replace h1 := hidH h1
      replace h2 := hidH h2
      replace h3 := hidH h3
      replace h4 := hidH h4
      replace h5 := hidH h5
      replace h6 := hidH h6
      replace h7 := hidH h7
      replace h8 := hidH h8
      replace h9 := hidH h9
      replace h10 := hidH h10
      replace h11 := hidH h11
      replace h12 := hidH h12
      replace h13 := hidH h13
      replace h14 := hidH h14
      replace h15 := hidH h15
      replace h16 := hidH h16
      replace h17 := hidH h17
      replace h18 := hidH h18
      replace h19 := hidH h19
      replace h20 := hidH h20
      go_wp2
      exact (HJ.out _ _ _).2 ⟨_, _, _, _, _, _, _, _, _, _, _, _, _, _, _, _, _, _, _, _, _, _, rfl, hP, hC, hO, h0.out, h1.out, h2.out, h3.out, h4.out, h5.out, h6.out, h7.out, h8.out, h9.out, h10.out, h11.out, h12.out, h13.out, h14.out, fun _ => rfl, h16.out, h17.out, h18.out, h19.out, fun _ => rfl, fun _ => rfl⟩
    | n + 22, h => omega
  case fin =>
    clear hops hdeps hback
    rintro dn ac W hJ hall
    obtain ⟨t32, t33, t34, t35, t36, t37, t38, t39, t40, t41, t42, t43, t44, t45, t46, t47, t48, t49, t50, t51, t52, t53, rfl, hP, hC, hO, h0, h1, h2, h3, h4, h5, h6, h7, h8, h9, h10, h11, h12, h13, h14, h15, h16, h17, h18, h19, h20, h21⟩ := (HJ.out _ _ _).1 hJ
    obtain rfl := h21 (hall 21 (by omega))
    exact fin _ _ _ _ _ _ _ _ _ _ _ _ _ _ _ _ _ _ _ _ _ W hO
set_option maxRecDepth 100000 in
set_option maxHeartbeats 1000000 in
theorem regFA15 {Q : Exit → Act → World → Prop} (x1 x2 x3 x4 x5 x6 x7 x8 x9 x10 x12 x13 x14 x15 x16 x17 x18 x19 x20 x21 x22 x23 x24 x25 x26 x27 x28 x29 x30 x31 x32 x33 x34 x35 x36 x37 x38 x39 x40 x41 x42 x43 x44 x45 x46 x47 x48 x49 x50 x51 x52 x53 x54 x55 x56 x57 x58 x59 x60 x61 x62 x63 x64 x65 x66 x67 x68 x69 x70 x71 x72 x73 x74 x75 x76 x77 x78 x79 x80 x81 x82 x83 x84 x85 x86 : Value) (ww : World) (gb n cb B ln lc cx : Nat) (lA X : Option Addr) (ys : List Value) (bl : List Int)
    (hgb : ww.heap.size ≤ gb) (hn1 : 1 ≤ n) (hx2 : ys[2]? = some (.slice X 34 cx))
    (FK : ∀ u : World, Below ww.heap.size ww u → Calls Tryz.prog 14 #[.slice lA ln lc, .int .i64 2, .int .i64 32] u (fun e w' => ∃ k : Nat, e = .returned (.int .i64 (k : Int)) ∧ (k : Int) < 32 ∧ Below u.heap.size u w'))
    (FM : ∀ u : World, Below ww.heap.size ww u → Calls Tryz.prog 14 #[.slice lA ln lc, .int .i64 3, .int .i64 255] u (fun e w' => ∃ k : Nat, e = .returned (.int .i64 (k : Int)) ∧ (k : Int) < 255 ∧ Below u.heap.size u w'))
    (FT : ∀ u : World, Below ww.heap.size ww u → ∀ k m : Nat, k < 32 → m < 255 → Calls Tryz.prog 13 #[.slice X 34 cx, .int .i64 ((2 + k : Nat) : Int), .int .i64 (1 + (m : Int))] u (fun e w' => ∃ (A : Option Addr) (c : Nat), e = .returned (.slice A 34 c) ∧ Ob u.heap.size w'.heap.size w' A (turnL bl (2 + k) (1 + m)) ∧ Caps 34 c ∧ Below u.heap.size u w')) {ops : Array Oper}
    (hops : (ops.map fun o => (o.op, o.dst, o.guard)) = #[(Op.move (Operand.tmp 11), some 87, none), (Op.move (Operand.tmp 11), some 88, none), (Op.indexAddr 24 (Operand.tmp 88) ((Operand.const (Value.int .i64 0))), some 89, none), (Op.fieldAddr 37 (Operand.tmp 89) 2, some 90, none), (Op.load 22 (Operand.tmp 90), some 91, none), (Op.move (Operand.tmp 0), some 92, none), (Op.call { callee := Callee.value (Operand.func 14), args := #[(Operand.tmp 92), (Operand.const (Value.int .i64 2)), (Operand.const (Value.int .i64 32))], argTypes := #[22, 2, 2] }, some 93, none), (Op.binOp BinOp.add 2 ((Operand.const (Value.int .i64 2))) (Operand.tmp 93) 2, some 94, none), (Op.move (Operand.tmp 0), some 95, none), (Op.call { callee := Callee.value (Operand.func 14), args := #[(Operand.tmp 95), (Operand.const (Value.int .i64 3)), (Operand.const (Value.int .i64 255))], argTypes := #[22, 2, 2] }, some 96, none), (Op.binOp BinOp.add 2 ((Operand.const (Value.int .i64 1))) (Operand.tmp 96) 2, some 97, none), (Op.call { callee := Callee.value (Operand.func 13), args := #[(Operand.tmp 91), (Operand.tmp 94), (Operand.tmp 97)], argTypes := #[22, 2, 2] }, some 98, none), (Op.indexAddr 24 (Operand.tmp 87) ((Operand.const (Value.int .i64 0))), some 99, none), (Op.fieldAddr 37 (Operand.tmp 99) 2, some 100, none), (Op.store 22 (Operand.tmp 100) (Operand.tmp 98), none, none)])
    (hdeps : ((List.range 15).all fun i => ((fun i => [[], [], [1], [2], [3], [], [5], [6], [], [6, 8], [9], [4, 7, 9, 10], [0], [12], [0, 1, 2, 3, 4, 5, 6, 7, 8, 9, 10, 11, 13]].getD i []) i).all fun j => ((ops[i]?).map fun o => o.after.any fun e => Region.binds .any e && e.on == j).getD false) = true)
    (hback : ((List.range 15).all fun i => ((ops[i]?).map fun o => o.after.all fun e => decide (e.on < i)).getD false) = true)
    {a0 : Act} {w0 : World} (ha : a0 = { tmps := #[.slice lA ln lc, x1, x2, x3, x4, x5, x6, x7, x8, x9, x10, .slice (some ⟨gb, 0, none⟩) n cb, x12, x13, x14, x15, x16, x17, x18, x19, x20, x21, x22, x23, x24, x25, x26, x27, x28, x29, x30, x31, x32, x33, x34, x35, x36, x37, x38, x39, x40, x41, x42, x43, x44, x45, x46, x47, x48, x49, x50, x51, x52, x53, x54, x55, x56, x57, x58, x59, x60, x61, x62, x63, x64, x65, x66, x67, x68, x69, x70, x71, x72, x73, x74, x75, x76, x77, x78, x79, x80, x81, x82, x83, x84, x85, x86, undef, undef, undef, undef, undef, undef, undef, undef, undef, undef, undef, undef, undef, undef, undef, undef, undef, undef, undef, undef, undef, undef, undef, undef, undef, undef, undef, undef, undef, undef, undef], defers := [] }) (hE : (false = true → false = true) ∧ (false = true → false = true)) (hR : false = false → w0.ownsRow B 37 3 (.slice (some ⟨gb, 0, none⟩) n cb) n ys) (hF : false = true → ∃ (k m : Nat) (A : Option Addr) (c : Nat), (k < 32 ∧ m < 255 ∧ Caps 34 c) ∧ w0.ownsRow B 37 3 (.slice (some ⟨gb, 0, none⟩) n cb) n (ys.set 2 (.slice A 34 c)) ∧ Bs w0 A (turnL bl (2 + k) (1 + m))) (hO : Below ww.heap.size ww w0)
    (fin : ∀ t87 t88 t89 t90 t91 t92 t93 t94 t95 t96 t97 t98 t99 t100 (W : World), (∃ (k m : Nat) (A : Option Addr) (c : Nat), (k < 32 ∧ m < 255 ∧ Caps 34 c) ∧ W.ownsRow B 37 3 (.slice (some ⟨gb, 0, none⟩) n cb) n (ys.set 2 (.slice A 34 c)) ∧ Bs W A (turnL bl (2 + k) (1 + m))) → (Below ww.heap.size ww W) → Q .normal { tmps := #[.slice lA ln lc, x1, x2, x3, x4, x5, x6, x7, x8, x9, x10, .slice (some ⟨gb, 0, none⟩) n cb, x12, x13, x14, x15, x16, x17, x18, x19, x20, x21, x22, x23, x24, x25, x26, x27, x28, x29, x30, x31, x32, x33, x34, x35, x36, x37, x38, x39, x40, x41, x42, x43, x44, x45, x46, x47, x48, x49, x50, x51, x52, x53, x54, x55, x56, x57, x58, x59, x60, x61, x62, x63, x64, x65, x66, x67, x68, x69, x70, x71, x72, x73, x74, x75, x76, x77, x78, x79, x80, x81, x82, x83, x84, x85, x86, t87, t88, t89, t90, t91, t92, t93, t94, t95, t96, t97, t98, t99, t100, undef, undef, undef, undef, undef, undef, undef, undef, undef, undef, undef, undef, undef, undef, undef, undef, undef], defers := [] } W) :
    wpAny Tryz.prog .any ops Q ops.size (Array.replicate ops.size false) a0 w0 := by
  have hn : ops.size = 15 := by have := congrArg Array.size hops; simpa using this
  obtain ⟨J, HJ⟩ : ∃ J : (Nat → Bool) → Act → World → Prop, ∀ dn ac W, J dn ac W ↔ (fun dn ac W => ∃ t87 t88 t89 t90 t91 t92 t93 t94 t95 t96 t97 t98 t99 t100, ac = { tmps := #[.slice lA ln lc, x1, x2, x3, x4, x5, x6, x7, x8, x9, x10, .slice (some ⟨gb, 0, none⟩) n cb, x12, x13, x14, x15, x16, x17, x18, x19, x20, x21, x22, x23, x24, x25, x26, x27, x28, x29, x30, x31, x32, x33, x34, x35, x36, x37, x38, x39, x40, x41, x42, x43, x44, x45, x46, x47, x48, x49, x50, x51, x52, x53, x54, x55, x56, x57, x58, x59, x60, x61, x62, x63, x64, x65, x66, x67, x68, x69, x70, x71, x72, x73, x74, x75, x76, x77, x78, x79, x80, x81, x82, x83, x84, x85, x86, t87, t88, t89, t90, t91, t92, t93, t94, t95, t96, t97, t98, t99, t100, undef, undef, undef, undef, undef, undef, undef, undef, undef, undef, undef, undef, undef, undef, undef, undef, undef], defers := [] } ∧ ((dn 14 = true → dn 4 = true) ∧ (dn 14 = true → dn 11 = true)) ∧ (dn 14 = false → W.ownsRow B 37 3 (.slice (some ⟨gb, 0, none⟩) n cb) n ys) ∧ (dn 14 = true → ∃ (k m : Nat) (A : Option Addr) (c : Nat), (k < 32 ∧ m < 255 ∧ Caps 34 c) ∧ W.ownsRow B 37 3 (.slice (some ⟨gb, 0, none⟩) n cb) n (ys.set 2 (.slice A 34 c)) ∧ Bs W A (turnL bl (2 + k) (1 + m))) ∧ (Below ww.heap.size ww W) ∧ (dn 0 = true → t87 = .slice (some ⟨gb, 0, none⟩) n cb) ∧ (dn 1 = true → t88 = .slice (some ⟨gb, 0, none⟩) n cb) ∧ (dn 2 = true → t89 = .pointer (some ⟨gb, 0, none⟩)) ∧ (dn 3 = true → t90 = .pointer (some ⟨gb, 2, none⟩)) ∧ (dn 4 = true → t91 = .slice X 34 cx) ∧ (dn 5 = true → t92 = .slice lA ln lc) ∧ (dn 6 = true → ∃ k : Nat, t93 = .int .i64 (k : Int) ∧ (k : Int) < 32) ∧ (dn 7 = true → ∃ k : Nat, t94 = .int .i64 ((2 + k : Nat) : Int) ∧ (k : Int) < 32) ∧ (dn 8 = true → t95 = .slice lA ln lc) ∧ (dn 9 = true → ∃ m : Nat, t96 = .int .i64 (m : Int) ∧ (m : Int) < 255) ∧ (dn 10 = true → ∃ m : Nat, t97 = .int .i64 (1 + (m : Int)) ∧ (m : Int) < 255) ∧ (dn 11 = true → ∃ (k m : Nat) (A : Option Addr) (c : Nat), t98 = .slice A 34 c ∧ (k < 32 ∧ m < 255 ∧ Caps 34 c) ∧ (dn 14 = false → ∃ B9 C9 : Nat, gb < B9 ∧ Ob B9 C9 W A (turnL bl (2 + k) (1 + m)))) ∧ (dn 12 = true → t99 = .pointer (some ⟨gb, 0, none⟩)) ∧ (dn 13 = true → t100 = .pointer (some ⟨gb, 2, none⟩))) dn ac W := ⟨_, fun _ _ _ => Iff.rfl⟩
  replace HJ := hidH HJ
  refine region_inv 15 (fun i => [[], [], [1], [2], [3], [], [5], [6], [], [6, 8], [9], [4, 7, 9, 10], [0], [12], [0, 1, 2, 3, 4, 5, 6, 7, 8, 9, 10, 11, 13]].getD i []) J hn hdeps hback ?start ?step ?fin
  case start => exact (HJ.out _ _ _).2 ⟨undef, undef, undef, undef, undef, undef, undef, undef, undef, undef, undef, undef, undef, undef, ha, hE, hR, hF, hO, fun h => by simp at h, fun h => by simp at h, fun h => by simp at h, fun h => by simp at h, fun h => by simp at h, fun h => by simp at h, fun h => by simp at h, fun h => by simp at h, fun h => by simp at h, fun h => by simp at h, fun h => by simp at h, fun h => by simp at h, fun h => by simp at h, fun h => by simp at h⟩
  all_goals clear ha hE hR hF hO
  case step =>
    clear fin hdeps hback
    intro i hi dn ac W hJ hdn hdep
    obtain ⟨t87, t88, t89, t90, t91, t92, t93, t94, t95, t96, t97, t98, t99, t100, rfl, hE, hR, hF, hO, h0, h1, h2, h3, h4, h5, h6, h7, h8, h9, h10, h11, h12, h13⟩ := (HJ.out _ _ _).1 hJ
    clear hJ
    match i, hi with
    | 0, _ =>
      obtain ⟨ty, ps, af, ho⟩ := op_lit hops (i := 0) (op := Op.move (Operand.tmp 11)) (dst := some 87) (g := none) rfl
      refine wpOp_lit ho (fun j b h => by cases h) ?_
      clear hops hdep ho
      replace h1 := hidH h1
      replace h2 := hidH h2
      replace h3 := hidH h3
      replace h4 := hidH h4
      replace h5 := hidH h5
      replace h6 := hidH h6
      replace h7 := hidH h7
      replace h8 := hidH h8
      replace h9 := hidH h9
      replace h10 := hidH h10
      replace h11 := hidH h11
      replace h12 := hidH h12
      replace h13 := hidH h13
      go_wp2
      exact (HJ.out _ _ _).2 ⟨_, _, _, _, _, _, _, _, _, _, _, _, _, _, rfl, hE, hR, hF, hO, fun _ => rfl, h1.out, h2.out, h3.out, h4.out, h5.out, h6.out, h7.out, h8.out, h9.out, h10.out, h11.out, h12.out, h13.out⟩
    | 1, _ =>
      obtain ⟨ty, ps, af, ho⟩ := op_lit hops (i := 1) (op := Op.move (Operand.tmp 11)) (dst := some 88) (g := none) rfl
      refine wpOp_lit ho (fun j b h => by cases h) ?_
      clear hops hdep ho
      replace h0 := hidH h0
      replace h2 := hidH h2
      replace h3 := hidH h3
      replace h4 := hidH h4
      replace h5 := hidH h5
      replace h6 := hidH h6
      replace h7 := hidH h7
      replace h8 := hidH h8
      replace h9 := hidH h9
      replace h10 := hidH h10
      replace h11 := hidH h11
      replace h12 := hidH h12
      replace h13 := hidH h13
      go_wp2
      exact (HJ.out _ _ _).2 ⟨_, _, _, _, _, _, _, _, _, _, _, _, _, _, rfl, hE, hR, hF, hO, h0.out, fun _ => rfl, h2.out, h3.out, h4.out, h5.out, h6.out, h7.out, h8.out, h9.out, h10.out, h11.out, h12.out, h13.out⟩
    | 2, _ =>
      obtain ⟨ty, ps, af, ho⟩ := op_lit hops (i := 2) (op := Op.indexAddr 24 (Operand.tmp 88) ((Operand.const (Value.int .i64 0)))) (dst := some 89) (g := none) rfl
      obtain rfl := h1 (hdep 1 (by simp))
      refine wpOp_lit ho (fun j b h => by cases h) ?_
      clear hops hdep ho
      replace h0 := hidH h0
      replace h1 := hidH h1
      replace h3 := hidH h3
      replace h4 := hidH h4
      replace h5 := hidH h5
      replace h6 := hidH h6
      replace h7 := hidH h7
      replace h8 := hidH h8
      replace h9 := hidH h9
      replace h10 := hidH h10
      replace h11 := hidH h11
      replace h12 := hidH h12
      replace h13 := hidH h13
      go_wp2
      exact (HJ.out _ _ _).2 ⟨_, _, _, _, _, _, _, _, _, _, _, _, _, _, rfl, hE, hR, hF, hO, h0.out, fun _ => rfl, fun _ => rfl, h3.out, h4.out, h5.out, h6.out, h7.out, h8.out, h9.out, h10.out, h11.out, h12.out, h13.out⟩
    | 3, _ =>
      obtain ⟨ty, ps, af, ho⟩ := op_lit hops (i := 3) (op := Op.fieldAddr 37 (Operand.tmp 89) 2) (dst := some 90) (g := none) rfl
      obtain rfl := h2 (hdep 2 (by simp))
      refine wpOp_lit ho (fun j b h => by cases h) ?_
      clear hops hdep ho
      replace h0 := hidH h0
      replace h1 := hidH h1
      replace h2 := hidH h2
      replace h4 := hidH h4
      replace h5 := hidH h5
      replace h6 := hidH h6
      replace h7 := hidH h7
      replace h8 := hidH h8
      replace h9 := hidH h9
      replace h10 := hidH h10
      replace h11 := hidH h11
      replace h12 := hidH h12
      replace h13 := hidH h13
      go_wp2
      exact (HJ.out _ _ _).2 ⟨_, _, _, _, _, _, _, _, _, _, _, _, _, _, rfl, hE, hR, hF, hO, h0.out, h1.out, fun _ => rfl, fun _ => rfl, h4.out, h5.out, h6.out, h7.out, h8.out, h9.out, h10.out, h11.out, h12.out, h13.out⟩
    | 4, _ =>
      obtain ⟨ty, ps, af, ho⟩ := op_lit hops (i := 4) (op := Op.load 22 (Operand.tmp 90)) (dst := some 91) (g := none) rfl
      obtain rfl := h3 (hdep 3 (by simp))
      refine wpOp_lit ho (fun j b h => by cases h) ?_
      clear hops hdep ho
      replace h0 := hidH h0
      replace h1 := hidH h1
      replace h2 := hidH h2
      replace h3 := hidH h3
      replace h5 := hidH h5
      replace h6 := hidH h6
      replace h7 := hidH h7
      replace h8 := hidH h8
      replace h9 := hidH h9
      replace h10 := hidH h10
      replace h11 := hidH h11
      replace h12 := hidH h12
      replace h13 := hidH h13
      have z14 : dn 14 = false := by
        rcases hq : dn 14 with _ | _
        · rfl
        · have h3 : dn 4 = true := hE.1 hq
          rw [hdn] at h3; cases h3
      have hb := Below.refl W.heap.size W
      have q2 := (hR z14).cellAt 2 (by omega)
      rw [hx2] at q2
      go_wp2
      exact (HJ.out _ _ _).2 ⟨_, _, _, _, _, _, _, _, _, _, _, _, _, _, rfl, ⟨(fun _ => rfl), hE.2⟩, fun h => own_below0 (hR h) hb, fun h => by obtain ⟨k, m, A, c, q1, q2, q3⟩ := hF h; exact ⟨k, m, A, c, q1, own_below0 q2 hb, bs_below q3 hb⟩, btr hO hb, h0.out, h1.out, h2.out, fun _ => rfl, fun _ => rfl, h5.out, h6.out, h7.out, h8.out, h9.out, h10.out, fun h => by obtain ⟨k, m, A, c, q1, q2, q3⟩ := h11.out h; exact ⟨k, m, A, c, q1, q2, fun z => by obtain ⟨B9, C9, q4, q5⟩ := q3 z; exact ⟨B9, C9, q4, q5.below hb⟩⟩, h12.out, h13.out⟩
    | 5, _ =>
      obtain ⟨ty, ps, af, ho⟩ := op_lit hops (i := 5) (op := Op.move (Operand.tmp 0)) (dst := some 92) (g := none) rfl
      refine wpOp_lit ho (fun j b h => by cases h) ?_
      clear hops hdep ho
      replace h0 := hidH h0
      replace h1 := hidH h1
      replace h2 := hidH h2
      replace h3 := hidH h3
      replace h4 := hidH h4
      replace h6 := hidH h6
      replace h7 := hidH h7
      replace h8 := hidH h8
      replace h9 := hidH h9
      replace h10 := hidH h10
      replace h11 := hidH h11
      replace h12 := hidH h12
      replace h13 := hidH h13
      go_wp2
      exact (HJ.out _ _ _).2 ⟨_, _, _, _, _, _, _, _, _, _, _, _, _, _, rfl, hE, hR, hF, hO, h0.out, h1.out, h2.out, h3.out, h4.out, fun _ => rfl, h6.out, h7.out, h8.out, h9.out, h10.out, h11.out, h12.out, h13.out⟩
    | 6, _ =>
      obtain ⟨ty, ps, af, ho⟩ := op_lit hops (i := 6) (op := Op.call { callee := Callee.value (Operand.func 14), args := #[(Operand.tmp 92), (Operand.const (Value.int .i64 2)), (Operand.const (Value.int .i64 32))], argTypes := #[22, 2, 2] }) (dst := some 93) (g := none) rfl
      obtain rfl := h5 (hdep 5 (by simp))
      refine wpOp_lit ho (fun j b h => by cases h) ?_
      clear hops hdep ho
      replace h0 := hidH h0
      replace h1 := hidH h1
      replace h2 := hidH h2
      replace h3 := hidH h3
      replace h4 := hidH h4
      replace h5 := hidH h5
      replace h7 := hidH h7
      replace h8 := hidH h8
      replace h9 := hidH h9
      replace h10 := hidH h10
      replace h11 := hidH h11
      replace h12 := hidH h12
      replace h13 := hidH h13
      go_wp2_with fail
      refine (FK W (hO)).mono ?_
      rintro e w9 ⟨k, rfl, hk, hb⟩
      go_wp2
      exact (HJ.out _ _ _).2 ⟨_, _, _, _, _, _, _, _, _, _, _, _, _, _, rfl, hE, fun h => own_below0 (hR h) hb, fun h => by obtain ⟨k, m, A, c, q1, q2, q3⟩ := hF h; exact ⟨k, m, A, c, q1, own_below0 q2 hb, bs_below q3 hb⟩, btr hO hb, h0.out, h1.out, h2.out, h3.out, h4.out, fun _ => rfl, fun _ => ⟨k, rfl, hk⟩, h7.out, h8.out, h9.out, h10.out, fun h => by obtain ⟨k, m, A, c, q1, q2, q3⟩ := h11.out h; exact ⟨k, m, A, c, q1, q2, fun z => by obtain ⟨B9, C9, q4, q5⟩ := q3 z; exact ⟨B9, C9, q4, q5.below hb⟩⟩, h12.out, h13.out⟩
    | 7, _ =>
      obtain ⟨ty, ps, af, ho⟩ := op_lit hops (i := 7) (op := Op.binOp BinOp.add 2 ((Operand.const (Value.int .i64 2))) (Operand.tmp 93) 2) (dst := some 94) (g := none) rfl
      obtain ⟨k, rfl, hk⟩ := h6 (hdep 6 (by simp))
      refine wpOp_lit ho (fun j b h => by cases h) ?_
      clear hops hdep ho
      replace h0 := hidH h0
      replace h1 := hidH h1
      replace h2 := hidH h2
      replace h3 := hidH h3
      replace h4 := hidH h4
      replace h5 := hidH h5
      replace h6 := hidH h6
      replace h8 := hidH h8
      replace h9 := hidH h9
      replace h10 := hidH h10
      replace h11 := hidH h11
      replace h12 := hidH h12
      replace h13 := hidH h13
      have hk0 : (0 : Int) ≤ (k : Int) := by omega
      go_wp2
      have hk2 : (2 : Int) + (k : Int) = ((2 + k : Nat) : Int) := by omega
      exact (HJ.out _ _ _).2 ⟨_, _, _, _, _, _, _, _, _, _, _, _, _, _, rfl, hE, hR, hF, hO, h0.out, h1.out, h2.out, h3.out, h4.out, h5.out, fun _ => ⟨k, rfl, hk⟩, fun _ => ⟨k, congrArg (Value.int .i64) hk2, hk⟩, h8.out, h9.out, h10.out, h11.out, h12.out, h13.out⟩
    | 8, _ =>
      obtain ⟨ty, ps, af, ho⟩ := op_lit hops (i := 8) (op := Op.move (Operand.tmp 0)) (dst := some 95) (g := none) rfl
      refine wpOp_lit ho (fun j b h => by cases h) ?_
      clear hops hdep ho
      replace h0 := hidH h0
      replace h1 := hidH h1
      replace h2 := hidH h2
      replace h3 := hidH h3
      replace h4 := hidH h4
      replace h5 := hidH h5
      replace h6 := hidH h6
      replace h7 := hidH h7
      replace h9 := hidH h9
      replace h10 := hidH h10
      replace h11 := hidH h11
      replace h12 := hidH h12
      replace h13 := hidH h13
      go_wp2
      exact (HJ.out _ _ _).2 ⟨_, _, _, _, _, _, _, _, _, _, _, _, _, _, rfl, hE, hR, hF, hO, h0.out, h1.out, h2.out, h3.out, h4.out, h5.out, h6.out, h7.out, fun _ => rfl, h9.out, h10.out, h11.out, h12.out, h13.out⟩
    | 9, _ =>
      obtain ⟨ty, ps, af, ho⟩ := op_lit hops (i := 9) (op := Op.call { callee := Callee.value (Operand.func 14), args := #[(Operand.tmp 95), (Operand.const (Value.int .i64 3)), (Operand.const (Value.int .i64 255))], argTypes := #[22, 2, 2] }) (dst := some 96) (g := none) rfl
      obtain rfl := h8 (hdep 8 (by simp))
      refine wpOp_lit ho (fun j b h => by cases h) ?_
      clear hops hdep ho
      replace h0 := hidH h0
      replace h1 := hidH h1
      replace h2 := hidH h2
      replace h3 := hidH h3
      replace h4 := hidH h4
      replace h5 := hidH h5
      replace h6 := hidH h6
      replace h7 := hidH h7
      replace h8 := hidH h8
      replace h10 := hidH h10
      replace h11 := hidH h11
      replace h12 := hidH h12
      replace h13 := hidH h13
      go_wp2_with fail
      refine (FM W (hO)).mono ?_
      rintro e w9 ⟨m, rfl, hm, hb⟩
      go_wp2
      exact (HJ.out _ _ _).2 ⟨_, _, _, _, _, _, _, _, _, _, _, _, _, _, rfl, hE, fun h => own_below0 (hR h) hb, fun h => by obtain ⟨k, m, A, c, q1, q2, q3⟩ := hF h; exact ⟨k, m, A, c, q1, own_below0 q2 hb, bs_below q3 hb⟩, btr hO hb, h0.out, h1.out, h2.out, h3.out, h4.out, h5.out, h6.out, h7.out, fun _ => rfl, fun _ => ⟨m, rfl, hm⟩, h10.out, fun h => by obtain ⟨k, m, A, c, q1, q2, q3⟩ := h11.out h; exact ⟨k, m, A, c, q1, q2, fun z => by obtain ⟨B9, C9, q4, q5⟩ := q3 z; exact ⟨B9, C9, q4, q5.below hb⟩⟩, h12.out, h13.out⟩
    | 10, _ =>
      obtain ⟨ty, ps, af, ho⟩ := op_lit hops (i := 10) (op := Op.binOp BinOp.add 2 ((Operand.const (Value.int .i64 1))) (Operand.tmp 96) 2) (dst := some 97) (g := none) rfl
      obtain ⟨m, rfl, hm⟩ := h9 (hdep 9 (by simp))
      refine wpOp_lit ho (fun j b h => by cases h) ?_
      clear hops hdep ho
      replace h0 := hidH h0
      replace h1 := hidH h1
      replace h2 := hidH h2
      replace h3 := hidH h3
      replace h4 := hidH h4
      replace h5 := hidH h5
      replace h6 := hidH h6
      replace h7 := hidH h7
      replace h8 := hidH h8
      replace h9 := hidH h9
      replace h11 := hidH h11
      replace h12 := hidH h12
      replace h13 := hidH h13
      have hm0 : (0 : Int) ≤ (m : Int) := by omega
      go_wp2
      exact (HJ.out _ _ _).2 ⟨_, _, _, _, _, _, _, _, _, _, _, _, _, _, rfl, hE, hR, hF, hO, h0.out, h1.out, h2.out, h3.out, h4.out, h5.out, h6.out, h7.out, h8.out, fun _ => ⟨m, rfl, hm⟩, fun _ => ⟨m, rfl, hm⟩, h11.out, h12.out, h13.out⟩
    | 11, _ =>
      obtain ⟨ty, ps, af, ho⟩ := op_lit hops (i := 11) (op := Op.call { callee := Callee.value (Operand.func 13), args := #[(Operand.tmp 91), (Operand.tmp 94), (Operand.tmp 97)], argTypes := #[22, 2, 2] }) (dst := some 98) (g := none) rfl
      obtain rfl := h4 (hdep 4 (by simp))
      obtain ⟨k, rfl, hk⟩ := h7 (hdep 7 (by simp))
      obtain ⟨m, rfl, hm⟩ := h10 (hdep 10 (by simp))
      refine wpOp_lit ho (fun j b h => by cases h) ?_
      clear hops hdep ho
      replace h0 := hidH h0
      replace h1 := hidH h1
      replace h2 := hidH h2
      replace h3 := hidH h3
      replace h4 := hidH h4
      replace h5 := hidH h5
      replace h6 := hidH h6
      replace h7 := hidH h7
      replace h8 := hidH h8
      replace h9 := hidH h9
      replace h10 := hidH h10
      replace h12 := hidH h12
      replace h13 := hidH h13
      have z14 : dn 14 = false := by
        rcases hq : dn 14 with _ | _
        · rfl
        · have h3 : dn 11 = true := hE.2 hq
          rw [hdn] at h3; cases h3
      have hgW := hidH (show gb < W.heap.size from ((hR z14).lt gb rfl).2)
      go_wp2_with fail
      refine (FT W hO k m (by omega) (by omega)).mono ?_
      rintro e w9 ⟨A9, c9, rfl, hB9, hcap9, hb⟩
      go_wp2
      exact (HJ.out _ _ _).2 ⟨_, _, _, _, _, _, _, _, _, _, _, _, _, _, rfl, ⟨hE.1, fun _ => rfl⟩, fun h => own_below0 (hR h) hb, fun h => by obtain ⟨k, m, A, c, q1, q2, q3⟩ := hF h; exact ⟨k, m, A, c, q1, own_below0 q2 hb, bs_below q3 hb⟩, btr hO hb, h0.out, h1.out, h2.out, h3.out, fun _ => rfl, h5.out, h6.out, fun _ => ⟨k, rfl, hk⟩, h8.out, h9.out, fun _ => ⟨m, rfl, hm⟩, fun _ => ⟨k, m, A9, c9, rfl, ⟨by omega, by omega, hcap9⟩, fun _ => ⟨_, _, hgW.out, hB9⟩⟩, h12.out, h13.out⟩
    | 12, _ =>
      obtain ⟨ty, ps, af, ho⟩ := op_lit hops (i := 12) (op := Op.indexAddr 24 (Operand.tmp 87) ((Operand.const (Value.int .i64 0)))) (dst := some 99) (g := none) rfl
      obtain rfl := h0 (hdep 0 (by simp))
      refine wpOp_lit ho (fun j b h => by cases h) ?_
      clear hops hdep ho
      replace h0 := hidH h0
      replace h1 := hidH h1
      replace h2 := hidH h2
      replace h3 := hidH h3
      replace h4 := hidH h4
      replace h5 := hidH h5
      replace h6 := hidH h6
      replace h7 := hidH h7
      replace h8 := hidH h8
      replace h9 := hidH h9
      replace h10 := hidH h10
      replace h11 := hidH h11
      replace h13 := hidH h13
      go_wp2
      exact (HJ.out _ _ _).2 ⟨_, _, _, _, _, _, _, _, _, _, _, _, _, _, rfl, hE, hR, hF, hO, fun _ => rfl, h1.out, h2.out, h3.out, h4.out, h5.out, h6.out, h7.out, h8.out, h9.out, h10.out, h11.out, fun _ => rfl, h13.out⟩
    | 13, _ =>
      obtain ⟨ty, ps, af, ho⟩ := op_lit hops (i := 13) (op := Op.fieldAddr 37 (Operand.tmp 99) 2) (dst := some 100) (g := none) rfl
      obtain rfl := h12 (hdep 12 (by simp))
      refine wpOp_lit ho (fun j b h => by cases h) ?_
      clear hops hdep ho
      replace h0 := hidH h0
      replace h1 := hidH h1
      replace h2 := hidH h2
      replace h3 := hidH h3
      replace h4 := hidH h4
      replace h5 := hidH h5
      replace h6 := hidH h6
      replace h7 := hidH h7
      replace h8 := hidH h8
      replace h9 := hidH h9
      replace h10 := hidH h10
      replace h11 := hidH h11
      replace h12 := hidH h12
      go_wp2
      exact (HJ.out _ _ _).2 ⟨_, _, _, _, _, _, _, _, _, _, _, _, _, _, rfl, hE, hR, hF, hO, h0.out, h1.out, h2.out, h3.out, h4.out, h5.out, h6.out, h7.out, h8.out, h9.out, h10.out, h11.out, fun _ => rfl, fun _ => rfl⟩
    | 14, _ =>
      obtain ⟨ty, ps, af, ho⟩ := op_lit hops (i := 14) (op := Op.store 22 (Operand.tmp 100) (Operand.tmp 98)) (dst := none) (g := none) rfl
      obtain ⟨k, m, A9, c9, rfl, hkm, hB9⟩ := h11 (hdep 11 (by simp))
      have hd4 := hidH (hdep 4 (by simp))
      have hd11 := hidH (hdep 11 (by simp))
      obtain rfl := h13 (hdep 13 (by simp))
      refine wpOp_lit ho (fun j b h => by cases h) ?_
      clear hops hdep ho
      replace h0 := hidH h0
      replace h1 := hidH h1
      replace h2 := hidH h2
      replace h3 := hidH h3
      replace h4 := hidH h4
      replace h5 := hidH h5
      replace h6 := hidH h6
      replace h7 := hidH h7
      replace h8 := hidH h8
      replace h9 := hidH h9
      replace h10 := hidH h10
      replace h11 := hidH h11
      replace h12 := hidH h12
      replace h13 := hidH h13
      have hR2 := hR hdn
      obtain ⟨hR3, _⟩ := hR2.stored 2 (.slice A9 34 c9)
      have c0 : ∃ u, W.cell? ⟨gb, 2, none⟩ = some u := ⟨_, (hR2.cellAt 2 (by omega)).trans hx2⟩
      have f0 := hR2.frozenAt 2
      have l0 : gb < W.heap.size := (hR2.lt gb rfl).2
      have HS := hidH hR3
      obtain ⟨B9, C9, hgB9, hO9⟩ := hB9 hdn
      have HB := hidH (ob_bs_far hO9 hgB9 2 (.slice A9 34 c9))
      obtain ⟨u0, c1⟩ := c0
      clear hR2 hR3 hB9
      go_wp2
      exact (HJ.out _ _ _).2 ⟨_, _, _, _, _, _, _, _, _, _, _, _, _, _, rfl, ⟨(fun _ => hd4.out), fun _ => hd11.out⟩, (fun h2 => by simp at h2), (fun _ => ⟨k, m, A9, c9, hkm, HS.out, HB.out⟩), bst hO (show ww.heap.size ≤ gb from hgb) _, h0.out, h1.out, h2.out, h3.out, h4.out, h5.out, h6.out, h7.out, h8.out, h9.out, h10.out, fun h => by obtain ⟨k, m, A, c, q1, q2, q3⟩ := h11.out h; exact ⟨k, m, A, c, q1, q2, fun z => by simp at z⟩, h12.out, fun _ => rfl⟩
    | n + 15, h => omega
  case fin =>
    clear hops hdeps hback
    rintro dn ac W hJ hall
    obtain ⟨t87, t88, t89, t90, t91, t92, t93, t94, t95, t96, t97, t98, t99, t100, rfl, hE, hR, hF, hO, h0, h1, h2, h3, h4, h5, h6, h7, h8, h9, h10, h11, h12, h13⟩ := (HJ.out _ _ _).1 hJ
    exact fin _ _ _ _ _ _ _ _ _ _ _ _ _ _ W (hF (hall 14 (by omega))) hO
end Go.Proofs.YtncnibkojneejaaGreatDoor
