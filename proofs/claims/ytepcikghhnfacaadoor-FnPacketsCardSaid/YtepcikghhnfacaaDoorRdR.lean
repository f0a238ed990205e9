/- The region of the model's l4Read that draws its order. -/
import Derived.Test.YtepcikghhnfacaaDoorRdA
import Derived.Test.YtepcikghhnfacaaDoorJa2
namespace Go.Proofs.YtepcikghhnfacaaDoor
open Go.RowKit Go.Deep

theorem blk_put2 {w : World} {g : Nat} {t : TypeId} {a b : Value} (h : Blk w g t #[a, b]) (v : Value) : Blk (w.setCell ⟨g, 1, none⟩ v) g t #[a, v] := by
  have h1 := heap_setCell_same w g 1 _ _ v h
  unfold Blk
  rw [h1]
  rfl
set_option maxRecDepth 100000 in
set_option maxHeartbeats 1000000 in
theorem regRd {Q : Exit → Act → World → Prop} (x1 x2 x5 x7 x8 x9 x10 x11 x12 x13 x14 x15 x16 x17 x18 x19 x20 x21 x22 x23 x24 x25 x26 x27 x28 x29 u_30 u_31 u_32 u_33 u_34 u_35 u_36 u_37 u_38 u_39 u_40 u_41 u_42 u_43 u_44 u_45 u_46 u_47 u_48 u_49 u_50 u_51 u_52 u_53 u_54 u_55 u_56 u_57 u_58 u_59 u_60 u_61 : Value) (ws : World) (b off len c g B T at_ m : Nat) (k0 f0 tag : Int) (v : Value) (cs : List Chk) (A4 : Option Addr) (c4 : Nat) (body : List Int)
    (hlen : (len : Int) ≤ 1000) (hm : (m : Int) ≤ 1000) (hat : (at_ : Int) + 4 ≤ (len : Int)) (hbw : b < ws.heap.size) (e0 : ws.cell? ⟨b, off + at_, none⟩ = some (.int .u8 k0)) (e1 : ws.cell? ⟨b, off + (at_ + 1), none⟩ = some (.int .u8 f0)) (k0a : 0 ≤ k0) (k0b : k0 ≤ 255) (f0a : 0 ≤ f0) (f0b : f0 ≤ 255)
    (HB : Hid (Bs ws A4 body)) (hbl : body.length ≤ 1000) (hgB : g < B) (hwB : ws.heap.size ≤ B) (hgw : ws.heap.size ≤ g) (hBT : B ≤ T) (hcn : cs.length ≤ 100000)
    (HSL : ∀ u : World, (Instr.slice 22 (.slice (some ⟨b, off, none⟩) len c) (some (.int .i64 ((at_ : Int) + 4))) (some (.int .i64 ((at_ : Int) + ((m : Int) + 4)))) none).run Tryd.prog u = .ok (.slice A4 body.length c4) u) {ops : Array Oper}
    (hops : (ops.map fun o => (o.op, o.dst, o.guard)) = #[(Op.fieldAddr 26 (Operand.tmp 3) 1, some 30, none), (Op.load 24 (Operand.tmp 30), some 31, none), (Op.move (Operand.tmp 0), some 32, none), (Op.move (Operand.tmp 4), some 33, none), (Op.indexAddr 22 (Operand.tmp 32) (Operand.tmp 33), some 34, none), (Op.load 5 (Operand.tmp 34), some 35, none), (Op.convert 5 2 (Operand.tmp 35), some 36, none), (Op.move (Operand.tmp 0), some 37, none), (Op.move (Operand.tmp 4), some 38, none), (Op.binOp BinOp.add 2 (Operand.tmp 38) ((Operand.const (Value.int .i64 1))) 2, some 39, none), (Op.indexAddr 22 (Operand.tmp 37) (Operand.tmp 39), some 40, none), (Op.load 5 (Operand.tmp 40), some 41, none), (Op.convert 5 2 (Operand.tmp 41), some 42, none), (Op.move (Operand.tmp 0), some 43, none), (Op.move (Operand.tmp 4), some 44, none), (Op.binOp BinOp.add 2 (Operand.tmp 44) ((Operand.const (Value.int .i64 4))) 2, some 45, none), (Op.move (Operand.tmp 4), some 46, none), (Op.move (Operand.tmp 6), some 47, none), (Op.binOp BinOp.add 2 (Operand.tmp 46) (Operand.tmp 47) 2, some 48, none), (Op.slice 22 (Operand.tmp 43) (some (Operand.tmp 45)) (some (Operand.tmp 48)) none, some 49, none), (Op.call { callee := Callee.value (Operand.func 35), args := #[(Operand.tmp 49)], argTypes := #[22] }, some 50, none), (Op.build 49 #[(0, (Operand.tmp 36)), (1, (Operand.tmp 42)), (2, (Operand.tmp 50))], some 51, none), (Op.buildSlice 24 1 #[(0, (Operand.tmp 51))], some 52, none), (Op.call { callee := Callee.builtin Builtin.append, args := #[(Operand.tmp 31), (Operand.tmp 52)], argTypes := #[24, 24] }, some 53, none), (Op.fieldAddr 26 (Operand.tmp 3) 1, some 54, none), (Op.store 24 (Operand.tmp 54) (Operand.tmp 53), none, none)])
    (hdeps : ((List.range 26).all fun i => ((fun i => [[], [0], [], [], [2, 3], [4], [5], [], [], [8], [7, 9], [10], [11], [], [], [14], [], [], [16, 17], [13, 15, 18], [19], [6, 12, 20], [21], [1, 22], [], [23, 24]].getD i []) i).all fun j => ((ops[i]?).map fun o => o.after.any fun e => Region.binds .any e && e.on == j).getD false) = true)
    (hback : ((List.range 26).all fun i => ((ops[i]?).map fun o => o.after.all fun e => decide (e.on < i)).getD false) = true)
    {a0 : Act} {w0 : World} (ha : a0 = { tmps := #[.slice (some ⟨b, off, none⟩) len c, x1, x2, .pointer (some ⟨g, 0, none⟩), .int .i64 (at_ : Int), x5, .int .i64 ((m : Int) + 4), x7, x8, x9, x10, x11, x12, x13, x14, x15, x16, x17, x18, x19, x20, x21, x22, x23, x24, x25, x26, x27, x28, x29, u_30, u_31, u_32, u_33, u_34, u_35, u_36, u_37, u_38, u_39, u_40, u_41, u_42, u_43, u_44, u_45, u_46, u_47, u_48, u_49, u_50, u_51, u_52, u_53, u_54, u_55, u_56, u_57, u_58, u_59, u_60, u_61], defers := [] }) (hE : (false = true → false = true) ∧ (false = true → false = true) ∧ (false = true → false = true) ∧ (false = true → false = true) ∧ (false = true → false = true)) (hP : false = false → Blk w0 g 26 #[.int .i64 tag, v]) (hG : false = false → Gr B T w0 v cs) (hW : Below ws.heap.size ws w0) (hT : w0.heap.size ≤ w0.heap.size) (hGT : T ≤ w0.heap.size)
    (fin : ∀ t30 t31 t32 t33 t34 t35 t36 t37 t38 t39 t40 t41 t42 t43 t44 t45 t46 t47 t48 t49 t50 t51 t52 t53 t54 (W : World), (Below ws.heap.size ws W) → (∃ v2 T2, Blk W g 26 #[.int .i64 tag, v2] ∧ Gr B T2 W v2 (cs ++ [⟨k0, f0, body⟩]) ∧ w0.heap.size ≤ T2) → Q .normal { tmps := #[.slice (some ⟨b, off, none⟩) len c, x1, x2, .pointer (some ⟨g, 0, none⟩), .int .i64 (at_ : Int), x5, .int .i64 ((m : Int) + 4), x7, x8, x9, x10, x11, x12, x13, x14, x15, x16, x17, x18, x19, x20, x21, x22, x23, x24, x25, x26, x27, x28, x29, t30, t31, t32, t33, t34, t35, t36, t37, t38, t39, t40, t41, t42, t43, t44, t45, t46, t47, t48, t49, t50, t51, t52, t53, t54, u_55, u_56, u_57, u_58, u_59, u_60, u_61], defers := [] } W) :
    wpAny Tryd.prog .any ops Q ops.size (Array.replicate ops.size false) a0 w0 := by
  have hn : ops.size = 26 := by have := congrArg Array.size hops; simpa using this
  obtain ⟨J, HJ⟩ : ∃ J : (Nat → Bool) → Act → World → Prop, ∀ dn ac W, J dn ac W ↔ (fun dn ac W => ∃ t30 t31 t32 t33 t34 t35 t36 t37 t38 t39 t40 t41 t42 t43 t44 t45 t46 t47 t48 t49 t50 t51 t52 t53 t54, ac = { tmps := #[.slice (some ⟨b, off, none⟩) len c, x1, x2, .pointer (some ⟨g, 0, none⟩), .int .i64 (at_ : Int), x5, .int .i64 ((m : Int) + 4), x7, x8, x9, x10, x11, x12, x13, x14, x15, x16, x17, x18, x19, x20, x21, x22, x23, x24, x25, x26, x27, x28, x29, t30, t31, t32, t33, t34, t35, t36, t37, t38, t39, t40, t41, t42, t43, t44, t45, t46, t47, t48, t49, t50, t51, t52, t53, t54, u_55, u_56, u_57, u_58, u_59, u_60, u_61], defers := [] } ∧ ((dn 25 = true → dn 23 = true) ∧ (dn 23 = true → dn 22 = true) ∧ (dn 21 = true → dn 20 = true) ∧ (dn 23 = true → dn 1 = true) ∧ (dn 22 = true → dn 21 = true)) ∧ (dn 25 = false → Blk W g 26 #[.int .i64 tag, v]) ∧ (dn 23 = false → Gr B T W v cs) ∧ (Below ws.heap.size ws W) ∧ (w0.heap.size ≤ W.heap.size) ∧ (T ≤ w0.heap.size) ∧ (dn 0 = true → t30 = .pointer (some ⟨g, 1, none⟩)) ∧ (dn 1 = true → t31 = v) ∧ (dn 2 = true → t32 = .slice (some ⟨b, off, none⟩) len c) ∧ (dn 3 = true → t33 = .int .i64 (at_ : Int)) ∧ (dn 4 = true → t34 = .pointer (some ⟨b, off + at_, none⟩)) ∧ (dn 5 = true → t35 = .int .u8 k0) ∧ (dn 6 = true → t36 = .int .i64 k0) ∧ (dn 7 = true → t37 = .slice (some ⟨b, off, none⟩) len c) ∧ (dn 8 = true → t38 = .int .i64 (at_ : Int)) ∧ (dn 9 = true → t39 = .int .i64 ((at_ : Int) + 1)) ∧ (dn 10 = true → t40 = .pointer (some ⟨b, off + (at_ + 1), none⟩)) ∧ (dn 11 = true → t41 = .int .u8 f0) ∧ (dn 12 = true → t42 = .int .i64 f0) ∧ (dn 13 = true → t43 = .slice (some ⟨b, off, none⟩) len c) ∧ (dn 14 = true → t44 = .int .i64 (at_ : Int)) ∧ (dn 15 = true → t45 = .int .i64 ((at_ : Int) + 4)) ∧ (dn 16 = true → t46 = .int .i64 (at_ : Int)) ∧ (dn 17 = true → t47 = .int .i64 ((m : Int) + 4)) ∧ (dn 18 = true → t48 = .int .i64 ((at_ : Int) + ((m : Int) + 4))) ∧ (dn 19 = true → t49 = .slice A4 body.length c4) ∧ (dn 20 = true → dn 23 = false → ∃ (A2 : Option Addr) (c2 b2 : Nat), t50 = .slice A2 body.length c2 ∧ Tb W b2 A2 body ∧ (body = [] ∨ w0.heap.size ≤ b2 ∧ b2 < W.heap.size)) ∧ (dn 21 = true → dn 23 = false → ∃ (A2 : Option Addr) (c2 b2 : Nat), t51 = .agg #[.int .i64 k0, .int .i64 f0, .slice A2 body.length c2] ∧ Tb W b2 A2 body ∧ (body = [] ∨ w0.heap.size ≤ b2 ∧ b2 < W.heap.size)) ∧ (dn 22 = true → dn 23 = false → ∃ (A2 : Option Addr) (c2 b2 q : Nat), t52 = .slice (some ⟨q, 0, none⟩) 1 1 ∧ Blk W q 49 #[.int .i64 k0, .int .i64 f0, .slice A2 body.length c2] ∧ Tb W b2 A2 body ∧ w0.heap.size ≤ b2 ∧ b2 < W.heap.size) ∧ (dn 23 = true → dn 25 = false → ∃ T2, Gr B T2 W t53 (cs ++ [⟨k0, f0, body⟩]) ∧ w0.heap.size ≤ T2) ∧ (dn 24 = true → t54 = .pointer (some ⟨g, 1, none⟩)) ∧ (dn 25 = true → ∃ v2 T2, Blk W g 26 #[.int .i64 tag, v2] ∧ Gr B T2 W v2 (cs ++ [⟨k0, f0, body⟩]) ∧ w0.heap.size ≤ T2)) dn ac W := ⟨_, fun _ _ _ => Iff.rfl⟩
  replace HJ := hidH HJ
  refine region_inv 26 (fun i => [[], [0], [], [], [2, 3], [4], [5], [], [], [8], [7, 9], [10], [11], [], [], [14], [], [], [16, 17], [13, 15, 18], [19], [6, 12, 20], [21], [1, 22], [], [23, 24]].getD i []) J hn hdeps hback ?start ?step ?fin
  case start => exact (HJ.out _ _ _).2 ⟨u_30, u_31, u_32, u_33, u_34, u_35, u_36, u_37, u_38, u_39, u_40, u_41, u_42, u_43, u_44, u_45, u_46, u_47, u_48, u_49, u_50, u_51, u_52, u_53, u_54, ha, hE, hP, hG, hW, hT, hGT, fun h => by simp at h, fun h => by simp at h, fun h => by simp at h, fun h => by simp at h, fun h => by simp at h, fun h => by simp at h, fun h => by simp at h, fun h => by simp at h, fun h => by simp at h, fun h => by simp at h, fun h => by simp at h, fun h => by simp at h, fun h => by simp at h, fun h => by simp at h, fun h => by simp at h, fun h => by simp at h, fun h => by simp at h, fun h => by simp at h, fun h => by simp at h, fun h => by simp at h, fun h => by simp at h, fun h => by simp at h, fun h => by simp at h, fun h => by simp at h, fun h => by simp at h, fun h => by simp at h⟩
  all_goals clear ha hE hP hG hW hT hGT
  case step =>
    clear fin hdeps hback
    intro i hi dn ac W hJ hdn hdep
    obtain ⟨t30, t31, t32, t33, t34, t35, t36, t37, t38, t39, t40, t41, t42, t43, t44, t45, t46, t47, t48, t49, t50, t51, t52, t53, t54, rfl, hE, hP, hG, hW, hT, hGT, h0, h1, h2, h3, h4, h5, h6, h7, h8, h9, h10, h11, h12, h13, h14, h15, h16, h17, h18, h19, h20, h21, h22, h23, h24, h25⟩ := (HJ.out _ _ _).1 hJ
    clear hJ
    match i, hi with
    | 0, _ =>
      obtain ⟨ty, ps, af, ho⟩ := op_lit hops (i := 0) (op := Op.fieldAddr 26 (Operand.tmp 3) 1) (dst := some 30) (g := none) rfl
      refine wpOp_lit ho (fun j b h => by cases h) ?_
      clear hops hdep ho
      replace h1 := hidH h1
      replace h2 := hidH h2
      replace h3 := hidH h3
      replace h4 := hidH h4
      replace h5 := hidH h5
      replace h6 := hidH h6
      replace h7 := hidH h7
      replace h8 := hidH h8
      replace h9 := hidH h9
      replace h10 := hidH h10
      replace h11 := hidH h11
      replace h12 := hidH h12
      replace h13 := hidH h13
      replace h14 := hidH h14
      replace h15 := hidH h15
      replace h16 := hidH h16
      replace h17 := hidH h17
      replace h18 := hidH h18
      replace h19 := hidH h19
      replace h20 := hidH h20
      replace h21 := hidH h21
      replace h22 := hidH h22
      replace h23 := hidH h23
      replace h24 := hidH h24
      replace h25 := hidH h25
      go_wp2
      exact (HJ.out _ _ _).2 ⟨_, _, _, _, _, _, _, _, _, _, _, _, _, _, _, _, _, _, _, _, _, _, _, _, _, rfl, hE, hP, hG, hW, hT, hGT, fun _ => rfl, h1.out, h2.out, h3.out, h4.out, h5.out, h6.out, h7.out, h8.out, h9.out, h10.out, h11.out, h12.out, h13.out, h14.out, h15.out, h16.out, h17.out, h18.out, h19.out, h20.out, h21.out, h22.out, h23.out, h24.out, h25.out⟩
    | 1, _ =>
      obtain ⟨ty, ps, af, ho⟩ := op_lit hops (i := 1) (op := Op.load 24 (Operand.tmp 30)) (dst := some 31) (g := none) rfl
      have hk25 : dn 25 = false := by
        rcases hq : dn 25 with _ | _
        · rfl
        · have h3 : dn 1 = true := hE.2.2.2.1 (hE.1 hq)
          rw [hdn] at h3; cases h3
      obtain rfl := h0 (hdep 0 (by simp))
      refine wpOp_lit ho (fun j b h => by cases h) ?_
      clear hops hdep ho
      replace h0 := hidH h0
      replace h2 := hidH h2
      replace h3 := hidH h3
      replace h4 := hidH h4
      replace h5 := hidH h5
      replace h6 := hidH h6
      replace h7 := hidH h7
      replace h8 := hidH h8
      replace h9 := hidH h9
      replace h10 := hidH h10
      replace h11 := hidH h11
      replace h12 := hidH h12
      replace h13 := hidH h13
      replace h14 := hidH h14
      replace h15 := hidH h15
      replace h16 := hidH h16
      replace h17 := hidH h17
      replace h18 := hidH h18
      replace h19 := hidH h19
      replace h20 := hidH h20
      replace h21 := hidH h21
      replace h22 := hidH h22
      replace h23 := hidH h23
      replace h24 := hidH h24
      replace h25 := hidH h25
      have hb := Below.refl W.heap.size W
      have kp := hP hk25
      have q1 := kp.cell 1
      simp only [List.getElem?_toArray, List.getElem?_cons_succ, List.getElem?_cons_zero] at q1
      have hlt := kp.lt
      go_wp2
      exact (HJ.out _ _ _).2 ⟨_, _, _, _, _, _, _, _, _, _, _, _, _, _, _, _, _, _, _, _, _, _, _, _, _, rfl, ⟨hE.1, hE.2.1, hE.2.2.1, (fun _ => rfl), hE.2.2.2.2⟩, fun h => (hP h).below hb, fun h => (hG h).below hb, btr hW hb, Nat.le_trans hT hb.size, hGT, fun _ => rfl, fun _ => rfl, h2.out, h3.out, h4.out, h5.out, h6.out, h7.out, h8.out, h9.out, h10.out, h11.out, h12.out, h13.out, h14.out, h15.out, h16.out, h17.out, h18.out, h19.out, fun h h2 => by obtain ⟨A2, c2, b2, q1, q2, q3⟩ := h20.out h h2; exact ⟨A2, c2, b2, q1, q2.below hb, q3.imp id (fun q => ⟨q.1, Nat.lt_of_lt_of_le q.2 hb.size⟩)⟩, fun h h2 => by obtain ⟨A2, c2, b2, q1, q2, q3⟩ := h21.out h h2; exact ⟨A2, c2, b2, q1, q2.below hb, q3.imp id (fun q => ⟨q.1, Nat.lt_of_lt_of_le q.2 hb.size⟩)⟩, fun h h2 => by obtain ⟨A2, c2, b2, q, q1, qb, q2, q3, q4⟩ := h22.out h h2; exact ⟨A2, c2, b2, q, q1, qb.below hb, q2.below hb, q3, Nat.lt_of_lt_of_le q4 hb.size⟩, fun h h2 => by obtain ⟨T2, q, qt⟩ := h23.out h h2; exact ⟨T2, q.below hb, qt⟩, h24.out, (fun h => by have h3 : dn 1 = true := hE.2.2.2.1 (hE.1 h); rw [hdn] at h3; cases h3)⟩
    | 2, _ =>
      obtain ⟨ty, ps, af, ho⟩ := op_lit hops (i := 2) (op := Op.move (Operand.tmp 0)) (dst := some 32) (g := none) rfl
      refine wpOp_lit ho (fun j b h => by cases h) ?_
      clear hops hdep ho
      replace h0 := hidH h0
      replace h1 := hidH h1
      replace h3 := hidH h3
      replace h4 := hidH h4
      replace h5 := hidH h5
      replace h6 := hidH h6
      replace h7 := hidH h7
      replace h8 := hidH h8
      replace h9 := hidH h9
      replace h10 := hidH h10
      replace h11 := hidH h11
      replace h12 := hidH h12
      replace h13 := hidH h13
      replace h14 := hidH h14
      replace h15 := hidH h15
      replace h16 := hidH h16
      replace h17 := hidH h17
      replace h18 := hidH h18
      replace h19 := hidH h19
      replace h20 := hidH h20
      replace h21 := hidH h21
      replace h22 := hidH h22
      replace h23 := hidH h23
      replace h24 := hidH h24
      replace h25 := hidH h25
      go_wp2
      exact (HJ.out _ _ _).2 ⟨_, _, _, _, _, _, _, _, _, _, _, _, _, _, _, _, _, _, _, _, _, _, _, _, _, rfl, hE, hP, hG, hW, hT, hGT, h0.out, h1.out, fun _ => rfl, h3.out, h4.out, h5.out, h6.out, h7.out, h8.out, h9.out, h10.out, h11.out, h12.out, h13.out, h14.out, h15.out, h16.out, h17.out, h18.out, h19.out, h20.out, h21.out, h22.out, h23.out, h24.out, h25.out⟩
    | 3, _ =>
      obtain ⟨ty, ps, af, ho⟩ := op_lit hops (i := 3) (op := Op.move (Operand.tmp 4)) (dst := some 33) (g := none) rfl
      refine wpOp_lit ho (fun j b h => by cases h) ?_
      clear hops hdep ho
      replace h0 := hidH h0
      replace h1 := hidH h1
      replace h2 := hidH h2
      replace h4 := hidH h4
      replace h5 := hidH h5
      replace h6 := hidH h6
      replace h7 := hidH h7
      replace h8 := hidH h8
      replace h9 := hidH h9
      replace h10 := hidH h10
      replace h11 := hidH h11
      replace h12 := hidH h12
      replace h13 := hidH h13
      replace h14 := hidH h14
      replace h15 := hidH h15
      replace h16 := hidH h16
      replace h17 := hidH h17
      replace h18 := hidH h18
      replace h19 := hidH h19
      replace h20 := hidH h20
      replace h21 := hidH h21
      replace h22 := hidH h22
      replace h23 := hidH h23
      replace h24 := hidH h24
      replace h25 := hidH h25
      go_wp2
      exact (HJ.out _ _ _).2 ⟨_, _, _, _, _, _, _, _, _, _, _, _, _, _, _, _, _, _, _, _, _, _, _, _, _, rfl, hE, hP, hG, hW, hT, hGT, h0.out, h1.out, h2.out, fun _ => rfl, h4.out, h5.out, h6.out, h7.out, h8.out, h9.out, h10.out, h11.out, h12.out, h13.out, h14.out, h15.out, h16.out, h17.out, h18.out, h19.out, h20.out, h21.out, h22.out, h23.out, h24.out, h25.out⟩
    | 4, _ =>
      obtain ⟨ty, ps, af, ho⟩ := op_lit hops (i := 4) (op := Op.indexAddr 22 (Operand.tmp 32) (Operand.tmp 33)) (dst := some 34) (g := none) rfl
      obtain rfl := h2 (hdep 2 (by simp))
      obtain rfl := h3 (hdep 3 (by simp))
      refine wpOp_lit ho (fun j b h => by cases h) ?_
      clear hops hdep ho
      replace h0 := hidH h0
      replace h1 := hidH h1
      replace h2 := hidH h2
      replace h3 := hidH h3
      replace h5 := hidH h5
      replace h6 := hidH h6
      replace h7 := hidH h7
      replace h8 := hidH h8
      replace h9 := hidH h9
      replace h10 := hidH h10
      replace h11 := hidH h11
      replace h12 := hidH h12
      replace h13 := hidH h13
      replace h14 := hidH h14
      replace h15 := hidH h15
      replace h16 := hidH h16
      replace h17 := hidH h17
      replace h18 := hidH h18
      replace h19 := hidH h19
      replace h20 := hidH h20
      replace h21 := hidH h21
      replace h22 := hidH h22
      replace h23 := hidH h23
      replace h24 := hidH h24
      replace h25 := hidH h25
      go_wp2
      exact (HJ.out _ _ _).2 ⟨_, _, _, _, _, _, _, _, _, _, _, _, _, _, _, _, _, _, _, _, _, _, _, _, _, rfl, hE, hP, hG, hW, hT, hGT, h0.out, h1.out, fun _ => rfl, fun _ => rfl, fun _ => rfl, h5.out, h6.out, h7.out, h8.out, h9.out, h10.out, h11.out, h12.out, h13.out, h14.out, h15.out, h16.out, h17.out, h18.out, h19.out, h20.out, h21.out, h22.out, h23.out, h24.out, h25.out⟩
    | 5, _ =>
      obtain ⟨ty, ps, af, ho⟩ := op_lit hops (i := 5) (op := Op.load 5 (Operand.tmp 34)) (dst := some 35) (g := none) rfl
      obtain rfl := h4 (hdep 4 (by simp))
      refine wpOp_lit ho (fun j b h => by cases h) ?_
      clear hops hdep ho
      replace h0 := hidH h0
      replace h1 := hidH h1
      replace h2 := hidH h2
      replace h3 := hidH h3
      replace h4 := hidH h4
      replace h6 := hidH h6
      replace h7 := hidH h7
      replace h8 := hidH h8
      replace h9 := hidH h9
      replace h10 := hidH h10
      replace h11 := hidH h11
      replace h12 := hidH h12
      replace h13 := hidH h13
      replace h14 := hidH h14
      replace h15 := hidH h15
      replace h16 := hidH h16
      replace h17 := hidH h17
      replace h18 := hidH h18
      replace h19 := hidH h19
      replace h20 := hidH h20
      replace h21 := hidH h21
      replace h22 := hidH h22
      replace h23 := hidH h23
      replace h24 := hidH h24
      replace h25 := hidH h25
      have q := (hW.cell (p := ⟨b, off + at_, none⟩) hbw).trans e0
      go_wp2
      exact (HJ.out _ _ _).2 ⟨_, _, _, _, _, _, _, _, _, _, _, _, _, _, _, _, _, _, _, _, _, _, _, _, _, rfl, hE, hP, hG, hW, hT, hGT, h0.out, h1.out, h2.out, h3.out, fun _ => rfl, fun _ => rfl, h6.out, h7.out, h8.out, h9.out, h10.out, h11.out, h12.out, h13.out, h14.out, h15.out, h16.out, h17.out, h18.out, h19.out, h20.out, h21.out, h22.out, h23.out, h24.out, h25.out⟩
    | 6, _ =>
      obtain ⟨ty, ps, af, ho⟩ := op_lit hops (i := 6) (op := Op.convert 5 2 (Operand.tmp 35)) (dst := some 36) (g := none) rfl
      obtain rfl := h5 (hdep 5 (by simp))
      refine wpOp_lit ho (fun j b h => by cases h) ?_
      clear hops hdep ho
      replace h0 := hidH h0
      replace h1 := hidH h1
      replace h2 := hidH h2
      replace h3 := hidH h3
      replace h4 := hidH h4
      replace h5 := hidH h5
      replace h7 := hidH h7
      replace h8 := hidH h8
      replace h9 := hidH h9
      replace h10 := hidH h10
      replace h11 := hidH h11
      replace h12 := hidH h12
      replace h13 := hidH h13
      replace h14 := hidH h14
      replace h15 := hidH h15
      replace h16 := hidH h16
      replace h17 := hidH h17
      replace h18 := hidH h18
      replace h19 := hidH h19
      replace h20 := hidH h20
      replace h21 := hidH h21
      replace h22 := hidH h22
      replace h23 := hidH h23
      replace h24 := hidH h24
      replace h25 := hidH h25
      go_wp2
      exact (HJ.out _ _ _).2 ⟨_, _, _, _, _, _, _, _, _, _, _, _, _, _, _, _, _, _, _, _, _, _, _, _, _, rfl, hE, hP, hG, hW, hT, hGT, h0.out, h1.out, h2.out, h3.out, h4.out, fun _ => rfl, fun _ => rfl, h7.out, h8.out, h9.out, h10.out, h11.out, h12.out, h13.out, h14.out, h15.out, h16.out, h17.out, h18.out, h19.out, h20.out, h21.out, h22.out, h23.out, h24.out, h25.out⟩
    | 7, _ =>
      obtain ⟨ty, ps, af, ho⟩ := op_lit hops (i := 7) (op := Op.move (Operand.tmp 0)) (dst := some 37) (g := none) rfl
      refine wpOp_lit ho (fun j b h => by cases h) ?_
      clear hops hdep ho
      replace h0 := hidH h0
      replace h1 := hidH h1
      replace h2 := hidH h2
      replace h3 := hidH h3
      replace h4 := hidH h4
      replace h5 := hidH h5
      replace h6 := hidH h6
      replace h8 := hidH h8
      replace h9 := hidH h9
      replace h10 := hidH h10
      replace h11 := hidH h11
      replace h12 := hidH h12
      replace h13 := hidH h13
      replace h14 := hidH h14
      replace h15 := hidH h15
      replace h16 := hidH h16
      replace h17 := hidH h17
      replace h18 := hidH h18
      replace h19 := hidH h19
      replace h20 := hidH h20
      replace h21 := hidH h21
      replace h22 := hidH h22
      replace h23 := hidH h23
      replace h24 := hidH h24
      replace h25 := hidH h25
      go_wp2
      exact (HJ.out _ _ _).2 ⟨_, _, _, _, _, _, _, _, _, _, _, _, _, _, _, _, _, _, _, _, _, _, _, _, _, rfl, hE, hP, hG, hW, hT, hGT, h0.out, h1.out, h2.out, h3.out, h4.out, h5.out, h6.out, fun _ => rfl, h8.out, h9.out, h10.out, h11.out, h12.out, h13.out, h14.out, h15.out, h16.out, h17.out, h18.out, h19.out, h20.out, h21.out, h22.out, h23.out, h24.out, h25.out⟩
    | 8, _ =>
      obtain ⟨ty, ps, af, ho⟩ := op_lit hops (i := 8) (op := Op.move (Operand.tmp 4)) (dst := some 38) (g := none) rfl
      refine wpOp_lit ho (fun j b h => by cases h) ?_
      clear hops hdep ho
      replace h0 := hidH h0
      replace h1 := hidH h1
      replace h2 := hidH h2
      replace h3 := hidH h3
      replace h4 := hidH h4
      replace h5 := hidH h5
      replace h6 := hidH h6
      replace h7 := hidH h7
      replace h9 := hidH h9
      replace h10 := hidH h10
      replace h11 := hidH h11
      replace h12 := hidH h12
      replace h13 := hidH h13
      replace h14 := hidH h14
      replace h15 := hidH h15
      replace h16 := hidH h16
      replace h17 := hidH h17
      replace h18 := hidH h18
      replace h19 := hidH h19
      replace h20 := hidH h20
      replace h21 := hidH h21
      replace h22 := hidH h22
      replace h23 := hidH h23
      replace h24 := hidH h24
      replace h25 := hidH h25
      go_wp2
      exact (HJ.out _ _ _).2 ⟨_, _, _, _, _, _, _, _, _, _, _, _, _, _, _, _, _, _, _, _, _, _, _, _, _, rfl, hE, hP, hG, hW, hT, hGT, h0.out, h1.out, h2.out, h3.out, h4.out, h5.out, h6.out, h7.out, fun _ => rfl, h9.out, h10.out, h11.out, h12.out, h13.out, h14.out, h15.out, h16.out, h17.out, h18.out, h19.out, h20.out, h21.out, h22.out, h23.out, h24.out, h25.out⟩
    | 9, _ =>
      obtain ⟨ty, ps, af, ho⟩ := op_lit hops (i := 9) (op := Op.binOp BinOp.add 2 (Operand.tmp 38) ((Operand.const (Value.int .i64 1))) 2) (dst := some 39) (g := none) rfl
      obtain rfl := h8 (hdep 8 (by simp))
      refine wpOp_lit ho (fun j b h => by cases h) ?_
      clear hops hdep ho
      replace h0 := hidH h0
      replace h1 := hidH h1
      replace h2 := hidH h2
      replace h3 := hidH h3
      replace h4 := hidH h4
      replace h5 := hidH h5
      replace h6 := hidH h6
      replace h7 := hidH h7
      replace h8 := hidH h8
      replace h10 := hidH h10
      replace h11 := hidH h11
      replace h12 := hidH h12
      replace h13 := hidH h13
      replace h14 := hidH h14
      replace h15 := hidH h15
      replace h16 := hidH h16
      replace h17 := hidH h17
      replace h18 := hidH h18
      replace h19 := hidH h19
      replace h20 := hidH h20
      replace h21 := hidH h21
      replace h22 := hidH h22
      replace h23 := hidH h23
      replace h24 := hidH h24
      replace h25 := hidH h25
      go_wp2
      exact (HJ.out _ _ _).2 ⟨_, _, _, _, _, _, _, _, _, _, _, _, _, _, _, _, _, _, _, _, _, _, _, _, _, rfl, hE, hP, hG, hW, hT, hGT, h0.out, h1.out, h2.out, h3.out, h4.out, h5.out, h6.out, h7.out, fun _ => rfl, fun _ => rfl, h10.out, h11.out, h12.out, h13.out, h14.out, h15.out, h16.out, h17.out, h18.out, h19.out, h20.out, h21.out, h22.out, h23.out, h24.out, h25.out⟩
    | 10, _ =>
      obtain ⟨ty, ps, af, ho⟩ := op_lit hops (i := 10) (op := Op.indexAddr 22 (Operand.tmp 37) (Operand.tmp 39)) (dst := some 40) (g := none) rfl
      obtain rfl := h7 (hdep 7 (by simp))
      obtain rfl := h9 (hdep 9 (by simp))
      refine wpOp_lit ho (fun j b h => by cases h) ?_
      clear hops hdep ho
      replace h0 := hidH h0
      replace h1 := hidH h1
      replace h2 := hidH h2
      replace h3 := hidH h3
      replace h4 := hidH h4
      replace h5 := hidH h5
      replace h6 := hidH h6
      replace h7 := hidH h7
      replace h8 := hidH h8
      replace h9 := hidH h9
      replace h11 := hidH h11
      replace h12 := hidH h12
      replace h13 := hidH h13
      replace h14 := hidH h14
      replace h15 := hidH h15
      replace h16 := hidH h16
      replace h17 := hidH h17
      replace h18 := hidH h18
      replace h19 := hidH h19
      replace h20 := hidH h20
      replace h21 := hidH h21
      replace h22 := hidH h22
      replace h23 := hidH h23
      replace h24 := hidH h24
      replace h25 := hidH h25
      have t1 : ((at_ : Int) + 1).toNat = at_ + 1 := by omega
      go_wp2
      exact (HJ.out _ _ _).2 ⟨_, _, _, _, _, _, _, _, _, _, _, _, _, _, _, _, _, _, _, _, _, _, _, _, _, rfl, hE, hP, hG, hW, hT, hGT, h0.out, h1.out, h2.out, h3.out, h4.out, h5.out, h6.out, fun _ => rfl, h8.out, fun _ => rfl, fun _ => rfl, h11.out, h12.out, h13.out, h14.out, h15.out, h16.out, h17.out, h18.out, h19.out, h20.out, h21.out, h22.out, h23.out, h24.out, h25.out⟩
    | 11, _ =>
      obtain ⟨ty, ps, af, ho⟩ := op_lit hops (i := 11) (op := Op.load 5 (Operand.tmp 40)) (dst := some 41) (g := none) rfl
      obtain rfl := h10 (hdep 10 (by simp))
      refine wpOp_lit ho (fun j b h => by cases h) ?_
      clear hops hdep ho
      replace h0 := hidH h0
      replace h1 := hidH h1
      replace h2 := hidH h2
      replace h3 := hidH h3
      replace h4 := hidH h4
      replace h5 := hidH h5
      replace h6 := hidH h6
      replace h7 := hidH h7
      replace h8 := hidH h8
      replace h9 := hidH h9
      replace h10 := hidH h10
      replace h12 := hidH h12
      replace h13 := hidH h13
      replace h14 := hidH h14
      replace h15 := hidH h15
      replace h16 := hidH h16
      replace h17 := hidH h17
      replace h18 := hidH h18
      replace h19 := hidH h19
      replace h20 := hidH h20
      replace h21 := hidH h21
      replace h22 := hidH h22
      replace h23 := hidH h23
      replace h24 := hidH h24
      replace h25 := hidH h25
      have q := (hW.cell (p := ⟨b, off + (at_ + 1), none⟩) hbw).trans e1
      go_wp2
      exact (HJ.out _ _ _).2 ⟨_, _, _, _, _, _, _, _, _, _, _, _, _, _, _, _, _, _, _, _, _, _, _, _, _, rfl, hE, hP, hG, hW, hT, hGT, h0.out, h1.out, h2.out, h3.out, h4.out, h5.out, h6.out, h7.out, h8.out, h9.out, fun _ => rfl, fun _ => rfl, h12.out, h13.out, h14.out, h15.out, h16.out, h17.out, h18.out, h19.out, h20.out, h21.out, h22.out, h23.out, h24.out, h25.out⟩
    | 12, _ =>
      obtain ⟨ty, ps, af, ho⟩ := op_lit hops (i := 12) (op := Op.convert 5 2 (Operand.tmp 41)) (dst := some 42) (g := none) rfl
      obtain rfl := h11 (hdep 11 (by simp))
      refine wpOp_lit ho (fun j b h => by cases h) ?_
      clear hops hdep ho
      replace h0 := hidH h0
      replace h1 := hidH h1
      replace h2 := hidH h2
      replace h3 := hidH h3
      replace h4 := hidH h4
      replace h5 := hidH h5
      replace h6 := hidH h6
      replace h7 := hidH h7
      replace h8 := hidH h8
      replace h9 := hidH h9
      replace h10 := hidH h10
      replace h11 := hidH h11
      replace h13 := hidH h13
      replace h14 := hidH h14
      replace h15 := hidH h15
      replace h16 := hidH h16
      replace h17 := hidH h17
      replace h18 := hidH h18
      replace h19 := hidH h19
      replace h20 := hidH h20
      replace h21 := hidH h21
      replace h22 := hidH h22
      replace h23 := hidH h23
      replace h24 := hidH h24
      replace h25 := hidH h25
      go_wp2
      exact (HJ.out _ _ _).2 ⟨_, _, _, _, _, _, _, _, _, _, _, _, _, _, _, _, _, _, _, _, _, _, _, _, _, rfl, hE, hP, hG, hW, hT, hGT, h0.out, h1.out, h2.out, h3.out, h4.out, h5.out, h6.out, h7.out, h8.out, h9.out, h10.out, fun _ => rfl, fun _ => rfl, h13.out, h14.out, h15.out, h16.out, h17.out, h18.out, h19.out, h20.out, h21.out, h22.out, h23.out, h24.out, h25.out⟩
    | 13, _ =>
      obtain ⟨ty, ps, af, ho⟩ := op_lit hops (i := 13) (op := Op.move (Operand.tmp 0)) (dst := some 43) (g := none) rfl
      refine wpOp_lit ho (fun j b h => by cases h) ?_
      clear hops hdep ho
      replace h0 := hidH h0
      replace h1 := hidH h1
      replace h2 := hidH h2
      replace h3 := hidH h3
      replace h4 := hidH h4
      replace h5 := hidH h5
      replace h6 := hidH h6
      replace h7 := hidH h7
      replace h8 := hidH h8
      replace h9 := hidH h9
      replace h10 := hidH h10
      replace h11 := hidH h11
      replace h12 := hidH h12
      replace h14 := hidH h14
      replace h15 := hidH h15
      replace h16 := hidH h16
      replace h17 := hidH h17
      replace h18 := hidH h18
      replace h19 := hidH h19
      replace h20 := hidH h20
      replace h21 := hidH h21
      replace h22 := hidH h22
      replace h23 := hidH h23
      replace h24 := hidH h24
      replace h25 := hidH h25
      go_wp2
      exact (HJ.out _ _ _).2 ⟨_, _, _, _, _, _, _, _, _, _, _, _, _, _, _, _, _, _, _, _, _, _, _, _, _, rfl, hE, hP, hG, hW, hT, hGT, h0.out, h1.out, h2.out, h3.out, h4.out, h5.out, h6.out, h7.out, h8.out, h9.out, h10.out, h11.out, h12.out, fun _ => rfl, h14.out, h15.out, h16.out, h17.out, h18.out, h19.out, h20.out, h21.out, h22.out, h23.out, h24.out, h25.out⟩
    | 14, _ =>
      obtain ⟨ty, ps, af, ho⟩ := op_lit hops (i := 14) (op := Op.move (Operand.tmp 4)) (dst := some 44) (g := none) rfl
      refine wpOp_lit ho (fun j b h => by cases h) ?_
      clear hops hdep ho
      replace h0 := hidH h0
      replace h1 := hidH h1
      replace h2 := hidH h2
      replace h3 := hidH h3
      replace h4 := hidH h4
      replace h5 := hidH h5
      replace h6 := hidH h6
      replace h7 := hidH h7
      replace h8 := hidH h8
      replace h9 := hidH h9
      replace h10 := hidH h10
      replace h11 := hidH h11
      replace h12 := hidH h12
      replace h13 := hidH h13
      replace h15 := hidH h15
      replace h16 := hidH h16
      replace h17 := hidH h17
      replace h18 := hidH h18
      replace h19 := hidH h19
      replace h20 := hidH h20
      replace h21 := hidH h21
      replace h22 := hidH h22
      replace h23 := hidH h23
      replace h24 := hidH h24
      replace h25 := hidH h25
      go_wp2
      exact (HJ.out _ _ _).2 ⟨_, _, _, _, _, _, _, _, _, _, _, _, _, _, _, _, _, _, _, _, _, _, _, _, _, rfl, hE, hP, hG, hW, hT, hGT, h0.out, h1.out, h2.out, h3.out, h4.out, h5.out, h6.out, h7.out, h8.out, h9.out, h10.out, h11.out, h12.out, h13.out, fun _ => rfl, h15.out, h16.out, h17.out, h18.out, h19.out, h20.out, h21.out, h22.out, h23.out, h24.out, h25.out⟩
    | 15, _ =>
      obtain ⟨ty, ps, af, ho⟩ := op_lit hops (i := 15) (op := Op.binOp BinOp.add 2 (Operand.tmp 44) ((Operand.const (Value.int .i64 4))) 2) (dst := some 45) (g := none) rfl
      obtain rfl := h14 (hdep 14 (by simp))
      refine wpOp_lit ho (fun j b h => by cases h) ?_
      clear hops hdep ho
      replace h0 := hidH h0
      replace h1 := hidH h1
      replace h2 := hidH h2
      replace h3 := hidH h3
      replace h4 := hidH h4
      replace h5 := hidH h5
      replace h6 := hidH h6
      replace h7 := hidH h7
      replace h8 := hidH h8
      replace h9 := hidH h9
      replace h10 := hidH h10
      replace h11 := hidH h11
      replace h12 := hidH h12
      replace h13 := hidH h13
      replace h14 := hidH h14
      replace h16 := hidH h16
      replace h17 := hidH h17
      replace h18 := hidH h18
      replace h19 := hidH h19
      replace h20 := hidH h20
      replace h21 := hidH h21
      replace h22 := hidH h22
      replace h23 := hidH h23
      replace h24 := hidH h24
      replace h25 := hidH h25
      go_wp2
      exact (HJ.out _ _ _).2 ⟨_, _, _, _, _, _, _, _, _, _, _, _, _, _, _, _, _, _, _, _, _, _, _, _, _, rfl, hE, hP, hG, hW, hT, hGT, h0.out, h1.out, h2.out, h3.out, h4.out, h5.out, h6.out, h7.out, h8.out, h9.out, h10.out, h11.out, h12.out, h13.out, fun _ => rfl, fun _ => rfl, h16.out, h17.out, h18.out, h19.out, h20.out, h21.out, h22.out, h23.out, h24.out, h25.out⟩
    | 16, _ =>
      obtain ⟨ty, ps, af, ho⟩ := op_lit hops (i := 16) (op := Op.move (Operand.tmp 4)) (dst := some 46) (g := none) rfl
      refine wpOp_lit ho (fun j b h => by cases h) ?_
      clear hops hdep ho
      replace h0 := hidH h0
      replace h1 := hidH h1
      replace h2 := hidH h2
      replace h3 := hidH h3
      replace h4 := hidH h4
      replace h5 := hidH h5
      replace h6 := hidH h6
      replace h7 := hidH h7
      replace h8 := hidH h8
      replace h9 := hidH h9
      replace h10 := hidH h10
      replace h11 := hidH h11
      replace h12 := hidH h12
      replace h13 := hidH h13
      replace h14 := hidH h14
      replace h15 := hidH h15
      replace h17 := hidH h17
      replace h18 := hidH h18
      replace h19 := hidH h19
      replace h20 := hidH h20
      replace h21 := hidH h21
      replace h22 := hidH h22
      replace h23 := hidH h23
      replace h24 := hidH h24
      replace h25 := hidH h25
      go_wp2
      exact (HJ.out _ _ _).2 ⟨_, _, _, _, _, _, _, _, _, _, _, _, _, _, _, _, _, _, _, _, _, _, _, _, _, rfl, hE, hP, hG, hW, hT, hGT, h0.out, h1.out, h2.out, h3.out, h4.out, h5.out, h6.out, h7.out, h8.out, h9.out, h10.out, h11.out, h12.out, h13.out, h14.out, h15.out, fun _ => rfl, h17.out, h18.out, h19.out, h20.out, h21.out, h22.out, h23.out, h24.out, h25.out⟩
    | 17, _ =>
      obtain ⟨ty, ps, af, ho⟩ := op_lit hops (i := 17) (op := Op.move (Operand.tmp 6)) (dst := some 47) (g := none) rfl
      refine wpOp_lit ho (fun j b h => by cases h) ?_
      clear hops hdep ho
      replace h0 := hidH h0
      replace h1 := hidH h1
      replace h2 := hidH h2
      replace h3 := hidH h3
      replace h4 := hidH h4
      replace h5 := hidH h5
      replace h6 := hidH h6
      replace h7 := hidH h7
      replace h8 := hidH h8
      replace h9 := hidH h9
      replace h10 := hidH h10
      replace h11 := hidH h11
      replace h12 := hidH h12
      replace h13 := hidH h13
      replace h14 := hidH h14
      replace h15 := hidH h15
      replace h16 := hidH h16
      replace h18 := hidH h18
      replace h19 := hidH h19
      replace h20 := hidH h20
      replace h21 := hidH h21
      replace h22 := hidH h22
      replace h23 := hidH h23
      replace h24 := hidH h24
      replace h25 := hidH h25
      go_wp2
      exact (HJ.out _ _ _).2 ⟨_, _, _, _, _, _, _, _, _, _, _, _, _, _, _, _, _, _, _, _, _, _, _, _, _, rfl, hE, hP, hG, hW, hT, hGT, h0.out, h1.out, h2.out, h3.out, h4.out, h5.out, h6.out, h7.out, h8.out, h9.out, h10.out, h11.out, h12.out, h13.out, h14.out, h15.out, h16.out, fun _ => rfl, h18.out, h19.out, h20.out, h21.out, h22.out, h23.out, h24.out, h25.out⟩
    | 18, _ =>
      obtain ⟨ty, ps, af, ho⟩ := op_lit hops (i := 18) (op := Op.binOp BinOp.add 2 (Operand.tmp 46) (Operand.tmp 47) 2) (dst := some 48) (g := none) rfl
      obtain rfl := h16 (hdep 16 (by simp))
      obtain rfl := h17 (hdep 17 (by simp))
      refine wpOp_lit ho (fun j b h => by cases h) ?_
      clear hops hdep ho
      replace h0 := hidH h0
      replace h1 := hidH h1
      replace h2 := hidH h2
      replace h3 := hidH h3
      replace h4 := hidH h4
      replace h5 := hidH h5
      replace h6 := hidH h6
      replace h7 := hidH h7
      replace h8 := hidH h8
      replace h9 := hidH h9
      replace h10 := hidH h10
      replace h11 := hidH h11
      replace h12 := hidH h12
      replace h13 := hidH h13
      replace h14 := hidH h14
      replace h15 := hidH h15
      replace h16 := hidH h16
      replace h17 := hidH h17
      replace h19 := hidH h19
      replace h20 := hidH h20
      replace h21 := hidH h21
      replace h22 := hidH h22
      replace h23 := hidH h23
      replace h24 := hidH h24
      replace h25 := hidH h25
      go_wp2
      exact (HJ.out _ _ _).2 ⟨_, _, _, _, _, _, _, _, _, _, _, _, _, _, _, _, _, _, _, _, _, _, _, _, _, rfl, hE, hP, hG, hW, hT, hGT, h0.out, h1.out, h2.out, h3.out, h4.out, h5.out, h6.out, h7.out, h8.out, h9.out, h10.out, h11.out, h12.out, h13.out, h14.out, h15.out, fun _ => rfl, fun _ => rfl, fun _ => rfl, h19.out, h20.out, h21.out, h22.out, h23.out, h24.out, h25.out⟩
    | 19, _ =>
      obtain ⟨ty, ps, af, ho⟩ := op_lit hops (i := 19) (op := Op.slice 22 (Operand.tmp 43) (some (Operand.tmp 45)) (some (Operand.tmp 48)) none) (dst := some 49) (g := none) rfl
      obtain rfl := h13 (hdep 13 (by simp))
      obtain rfl := h15 (hdep 15 (by simp))
      obtain rfl := h18 (hdep 18 (by simp))
      refine wpOp_lit ho (fun j b h => by cases h) ?_
      clear hops hdep ho
      replace h0 := hidH h0
      replace h1 := hidH h1
      replace h2 := hidH h2
      replace h3 := hidH h3
      replace h4 := hidH h4
      replace h5 := hidH h5
      replace h6 := hidH h6
      replace h7 := hidH h7
      replace h8 := hidH h8
      replace h9 := hidH h9
      replace h10 := hidH h10
      replace h11 := hidH h11
      replace h12 := hidH h12
      replace h13 := hidH h13
      replace h14 := hidH h14
      replace h15 := hidH h15
      replace h16 := hidH h16
      replace h17 := hidH h17
      replace h18 := hidH h18
      replace h20 := hidH h20
      replace h21 := hidH h21
      replace h22 := hidH h22
      replace h23 := hidH h23
      replace h24 := hidH h24
      replace h25 := hidH h25
      have hsl := HSL
      go_wp2
      exact (HJ.out _ _ _).2 ⟨_, _, _, _, _, _, _, _, _, _, _, _, _, _, _, _, _, _, _, _, _, _, _, _, _, rfl, hE, hP, hG, hW, hT, hGT, h0.out, h1.out, h2.out, h3.out, h4.out, h5.out, h6.out, h7.out, h8.out, h9.out, h10.out, h11.out, h12.out, fun _ => rfl, h14.out, fun _ => rfl, h16.out, h17.out, fun _ => rfl, fun _ => rfl, h20.out, h21.out, h22.out, h23.out, h24.out, h25.out⟩
    | 20, _ =>
      obtain ⟨ty, ps, af, ho⟩ := op_lit hops (i := 20) (op := Op.call { callee := Callee.value (Operand.func 35), args := #[(Operand.tmp 49)], argTypes := #[22] }) (dst := some 50) (g := none) rfl
      have hk23 : dn 23 = false := by
        rcases hq : dn 23 with _ | _
        · rfl
        · have h3 : dn 20 = true := hE.2.2.1 (hE.2.2.2.2 (hE.2.1 hq))
          rw [hdn] at h3; cases h3
      obtain rfl := h19 (hdep 19 (by simp))
      refine wpOp_lit ho (fun j b h => by cases h) ?_
      clear hops hdep ho
      replace h0 := hidH h0
      replace h1 := hidH h1
      replace h2 := hidH h2
      replace h3 := hidH h3
      replace h4 := hidH h4
      replace h5 := hidH h5
      replace h6 := hidH h6
      replace h7 := hidH h7
      replace h8 := hidH h8
      replace h9 := hidH h9
      replace h10 := hidH h10
      replace h11 := hidH h11
      replace h12 := hidH h12
      replace h13 := hidH h13
      replace h14 := hidH h14
      replace h15 := hidH h15
      replace h16 := hidH h16
      replace h17 := hidH h17
      replace h18 := hidH h18
      replace h19 := hidH h19
      replace h21 := hidH h21
      replace h22 := hidH h22
      replace h23 := hidH h23
      replace h24 := hidH h24
      replace h25 := hidH h25
      go_wp2_with fail
      refine (copy_any A4 body c4 _ (bs_below HB.out hW) (by omega)).mono ?_
      rintro e w1 ⟨v8, rfl, ow, hb⟩
      obtain ⟨A2, c2, b2, rfl, r1, r2⟩ := own_tb ow
      have S2 := hidH (And.intro r1 (r2.imp id (fun q => And.intro (Nat.le_trans hT q.1) q.2)))
      clear ow r1 r2
      go_wp2
      exact (HJ.out _ _ _).2 ⟨_, _, _, _, _, _, _, _, _, _, _, _, _, _, _, _, _, _, _, _, _, _, _, _, _, rfl, ⟨hE.1, hE.2.1, (fun _ => rfl), hE.2.2.2.1, hE.2.2.2.2⟩, fun h => (hP h).below hb, fun h => (hG h).below hb, btr hW hb, Nat.le_trans hT hb.size, hGT, h0.out, h1.out, h2.out, h3.out, h4.out, h5.out, h6.out, h7.out, h8.out, h9.out, h10.out, h11.out, h12.out, h13.out, h14.out, h15.out, h16.out, h17.out, h18.out, fun _ => rfl, fun _ => fun _ => ⟨A2, c2, b2, rfl, S2.out⟩, fun h h2 => by obtain ⟨A2, c2, b2, q1, q2, q3⟩ := h21.out h h2; exact ⟨A2, c2, b2, q1, q2.below hb, q3.imp id (fun q => ⟨q.1, Nat.lt_of_lt_of_le q.2 hb.size⟩)⟩, fun h h2 => by obtain ⟨A2, c2, b2, q, q1, qb, q2, q3, q4⟩ := h22.out h h2; exact ⟨A2, c2, b2, q, q1, qb.below hb, q2.below hb, q3, Nat.lt_of_lt_of_le q4 hb.size⟩, fun h h2 => by obtain ⟨T2, q, qt⟩ := h23.out h h2; exact ⟨T2, q.below hb, qt⟩, h24.out, (fun h => by have h3 : dn 20 = true := hE.2.2.1 (hE.2.2.2.2 (hE.2.1 (hE.1 h))); rw [hdn] at h3; cases h3)⟩
    | 21, _ =>
      obtain ⟨ty, ps, af, ho⟩ := op_lit hops (i := 21) (op := Op.build 49 #[(0, (Operand.tmp 36)), (1, (Operand.tmp 42)), (2, (Operand.tmp 50))]) (dst := some 51) (g := none) rfl
      have hk23 : dn 23 = false := by
        rcases hq : dn 23 with _ | _
        · rfl
        · have h3 : dn 21 = true := hE.2.2.2.2 (hE.2.1 hq)
          rw [hdn] at h3; cases h3
      have hd20 := hidH (hdep 20 (by simp))
      obtain ⟨A2, c2, b2, rfl, S2⟩ := h20 (hdep 20 (by simp)) hk23
      have S2 := hidH S2
      obtain rfl := h6 (hdep 6 (by simp))
      obtain rfl := h12 (hdep 12 (by simp))
      refine wpOp_lit ho (fun j b h => by cases h) ?_
      clear hops hdep ho
      replace h0 := hidH h0
      replace h1 := hidH h1
      replace h2 := hidH h2
      replace h3 := hidH h3
      replace h4 := hidH h4
      replace h5 := hidH h5
      replace h6 := hidH h6
      replace h7 := hidH h7
      replace h8 := hidH h8
      replace h9 := hidH h9
      replace h10 := hidH h10
      replace h11 := hidH h11
      replace h12 := hidH h12
      replace h13 := hidH h13
      replace h14 := hidH h14
      replace h15 := hidH h15
      replace h16 := hidH h16
      replace h17 := hidH h17
      replace h18 := hidH h18
      replace h19 := hidH h19
      replace h20 := hidH h20
      replace h22 := hidH h22
      replace h23 := hidH h23
      replace h24 := hidH h24
      replace h25 := hidH h25
      have hb := Below.refl W.heap.size W
      go_wp2
      exact (HJ.out _ _ _).2 ⟨_, _, _, _, _, _, _, _, _, _, _, _, _, _, _, _, _, _, _, _, _, _, _, _, _, rfl, ⟨hE.1, hE.2.1, (fun _ => hd20.out), hE.2.2.2.1, (fun _ => rfl)⟩, fun h => (hP h).below hb, fun h => (hG h).below hb, btr hW hb, Nat.le_trans hT hb.size, hGT, h0.out, h1.out, h2.out, h3.out, h4.out, h5.out, fun _ => rfl, h7.out, h8.out, h9.out, h10.out, h11.out, fun _ => rfl, h13.out, h14.out, h15.out, h16.out, h17.out, h18.out, h19.out, fun h h2 => by obtain ⟨A2, c2, b2, q1, q2, q3⟩ := h20.out h h2; exact ⟨A2, c2, b2, q1, q2.below hb, q3.imp id (fun q => ⟨q.1, Nat.lt_of_lt_of_le q.2 hb.size⟩)⟩, fun _ => fun _ => ⟨A2, c2, b2, rfl, S2.out⟩, fun h h2 => by obtain ⟨A2, c2, b2, q, q1, qb, q2, q3, q4⟩ := h22.out h h2; exact ⟨A2, c2, b2, q, q1, qb.below hb, q2.below hb, q3, Nat.lt_of_lt_of_le q4 hb.size⟩, fun h h2 => by obtain ⟨T2, q, qt⟩ := h23.out h h2; exact ⟨T2, q.below hb, qt⟩, h24.out, (fun h => by have h3 : dn 21 = true := hE.2.2.2.2 (hE.2.1 (hE.1 h)); rw [hdn] at h3; cases h3)⟩
    | 22, _ =>
      obtain ⟨ty, ps, af, ho⟩ := op_lit hops (i := 22) (op := Op.buildSlice 24 1 #[(0, (Operand.tmp 51))]) (dst := some 52) (g := none) rfl
      have hk23 : dn 23 = false := by
        rcases hq : dn 23 with _ | _
        · rfl
        · have h3 : dn 22 = true := hE.2.1 hq
          rw [hdn] at h3; cases h3
      have hd21 := hidH (hdep 21 (by simp))
      obtain ⟨A2, c2, b2, rfl, r1, r2⟩ := h21 (hdep 21 (by simp)) hk23
      refine wpOp_lit ho (fun j b h => by cases h) ?_
      clear hops hdep ho
      replace h0 := hidH h0
      replace h1 := hidH h1
      replace h2 := hidH h2
      replace h3 := hidH h3
      replace h4 := hidH h4
      replace h5 := hidH h5
      replace h6 := hidH h6
      replace h7 := hidH h7
      replace h8 := hidH h8
      replace h9 := hidH h9
      replace h10 := hidH h10
      replace h11 := hidH h11
      replace h12 := hidH h12
      replace h13 := hidH h13
      replace h14 := hidH h14
      replace h15 := hidH h15
      replace h16 := hidH h16
      replace h17 := hidH h17
      replace h18 := hidH h18
      replace h19 := hidH h19
      replace h20 := hidH h20
      replace h21 := hidH h21
      replace h23 := hidH h23
      replace h24 := hidH h24
      replace h25 := hidH h25
      have hb := bal (Below.refl W.heap.size W) (.cells #[.int .i64 k0, .int .i64 f0, .slice A2 body.length c2] 49)
      have KQ := Blk.new W 49 #[.int .i64 k0, .int .i64 f0, .slice A2 body.length c2]
      obtain ⟨b3, s1, s2, s3⟩ := tb_pick (r1.below hb) (B := w0.heap.size) (q := W.heap.size) hT KQ.lt (r2.imp id (fun q => ⟨q.1, Nat.lt_of_lt_of_le q.2 hb.size⟩))
      have S2 := hidH (And.intro KQ (And.intro s1 (And.intro s2 s3)))
      clear KQ s1 s2 s3 r1 r2
      go_wp2
      exact (HJ.out _ _ _).2 ⟨_, _, _, _, _, _, _, _, _, _, _, _, _, _, _, _, _, _, _, _, _, _, _, _, _, rfl, ⟨hE.1, (fun _ => rfl), hE.2.2.1, hE.2.2.2.1, (fun _ => hd21.out)⟩, fun h => (hP h).below hb, fun h => (hG h).below hb, btr hW hb, Nat.le_trans hT hb.size, hGT, h0.out, h1.out, h2.out, h3.out, h4.out, h5.out, h6.out, h7.out, h8.out, h9.out, h10.out, h11.out, h12.out, h13.out, h14.out, h15.out, h16.out, h17.out, h18.out, h19.out, fun h h2 => by obtain ⟨A2, c2, b2, q1, q2, q3⟩ := h20.out h h2; exact ⟨A2, c2, b2, q1, q2.below hb, q3.imp id (fun q => ⟨q.1, Nat.lt_of_lt_of_le q.2 hb.size⟩)⟩, fun h h2 => by obtain ⟨A2, c2, b2, q1, q2, q3⟩ := h21.out h h2; exact ⟨A2, c2, b2, q1, q2.below hb, q3.imp id (fun q => ⟨q.1, Nat.lt_of_lt_of_le q.2 hb.size⟩)⟩, fun _ => fun _ => ⟨A2, c2, b3, _, rfl, S2.out⟩, fun h h2 => by obtain ⟨T2, q, qt⟩ := h23.out h h2; exact ⟨T2, q.below hb, qt⟩, h24.out, (fun h => by have h3 : dn 22 = true := hE.2.1 (hE.1 h); rw [hdn] at h3; cases h3)⟩
    | 23, _ =>
      obtain ⟨ty, ps, af, ho⟩ := op_lit hops (i := 23) (op := Op.call { callee := Callee.builtin Builtin.append, args := #[(Operand.tmp 31), (Operand.tmp 52)], argTypes := #[24, 24] }) (dst := some 53) (g := none) rfl
      have hd22 := hidH (hdep 22 (by simp))
      have hd1 := hidH (hdep 1 (by simp))
      obtain ⟨A2, c2, b2, q, rfl, kq, r1, r2, r3⟩ := h22 (hdep 22 (by simp)) hdn
      obtain rfl := h1 (hdep 1 (by simp))
      refine wpOp_lit ho (fun j b h => by cases h) ?_
      clear hops hdep ho
      replace h0 := hidH h0
      replace h1 := hidH h1
      replace h2 := hidH h2
      replace h3 := hidH h3
      replace h4 := hidH h4
      replace h5 := hidH h5
      replace h6 := hidH h6
      replace h7 := hidH h7
      replace h8 := hidH h8
      replace h9 := hidH h9
      replace h10 := hidH h10
      replace h11 := hidH h11
      replace h12 := hidH h12
      replace h13 := hidH h13
      replace h14 := hidH h14
      replace h15 := hidH h15
      replace h16 := hidH h16
      replace h17 := hidH h17
      replace h18 := hidH h18
      replace h19 := hidH h19
      replace h20 := hidH h20
      replace h21 := hidH h21
      replace h22 := hidH h22
      replace h24 := hidH h24
      replace h25 := hidH h25
      have gk := hG hdn
      have gk2 := gk.mono hGT hT
      go_wp2_with (at_builtin; go_loud (refine wpList_append_gr rfl _ _ rfl B w0.heap.size _ cs rfl gk2 q ⟨k0, f0, body⟩ A2 c2 b2 _ rfl kq r1 r2 r3 (Nat.le_trans hBT hGT) hcn ?_))
      intro v6 w6 g6 hb
      have G6 := hidH g6
      clear g6
      go_wp2
      exact (HJ.out _ _ _).2 ⟨_, _, _, _, _, _, _, _, _, _, _, _, _, _, _, _, _, _, _, _, _, _, _, _, _, rfl, ⟨(fun _ => rfl), (fun _ => hd22.out), hE.2.2.1, (fun _ => hd1.out), hE.2.2.2.2⟩, (fun h => (hb.block g hgB).trans (hP h)), (fun h2 => by simp at h2), hW.trans (hb.mono hwB), Nat.le_trans hT hb.size, hGT, h0.out, fun _ => rfl, h2.out, h3.out, h4.out, h5.out, h6.out, h7.out, h8.out, h9.out, h10.out, h11.out, h12.out, h13.out, h14.out, h15.out, h16.out, h17.out, h18.out, h19.out, (fun _ h2 => by simp at h2), (fun _ h2 => by simp at h2), (fun _ h2 => by simp at h2), fun _ => fun _ => ⟨_, G6.out, hT⟩, h24.out, (fun h => by have h3 : dn 23 = true := hE.1 h; rw [hdn] at h3; cases h3)⟩
    | 24, _ =>
      obtain ⟨ty, ps, af, ho⟩ := op_lit hops (i := 24) (op := Op.fieldAddr 26 (Operand.tmp 3) 1) (dst := some 54) (g := none) rfl
      refine wpOp_lit ho (fun j b h => by cases h) ?_
      clear hops hdep ho
      replace h0 := hidH h0
      replace h1 := hidH h1
      replace h2 := hidH h2
      replace h3 := hidH h3
      replace h4 := hidH h4
      replace h5 := hidH h5
      replace h6 := hidH h6
      replace h7 := hidH h7
      replace h8 := hidH h8
      replace h9 := hidH h9
      replace h10 := hidH h10
      replace h11 := hidH h11
      replace h12 := hidH h12
      replace h13 := hidH h13
      replace h14 := hidH h14
      replace h15 := hidH h15
      replace h16 := hidH h16
      replace h17 := hidH h17
      replace h18 := hidH h18
      replace h19 := hidH h19
      replace h20 := hidH h20
      replace h21 := hidH h21
      replace h22 := hidH h22
      replace h23 := hidH h23
      replace h25 := hidH h25
      go_wp2
      exact (HJ.out _ _ _).2 ⟨_, _, _, _, _, _, _, _, _, _, _, _, _, _, _, _, _, _, _, _, _, _, _, _, _, rfl, hE, hP, hG, hW, hT, hGT, h0.out, h1.out, h2.out, h3.out, h4.out, h5.out, h6.out, h7.out, h8.out, h9.out, h10.out, h11.out, h12.out, h13.out, h14.out, h15.out, h16.out, h17.out, h18.out, h19.out, h20.out, h21.out, h22.out, h23.out, fun _ => rfl, h25.out⟩
    | 25, _ =>
      obtain ⟨ty, ps, af, ho⟩ := op_lit hops (i := 25) (op := Op.store 24 (Operand.tmp 54) (Operand.tmp 53)) (dst := none) (g := none) rfl
      have hd23 := hidH (hdep 23 (by simp))
      obtain ⟨T2, g5, g5t⟩ := h23 (hdep 23 (by simp)) hdn
      obtain ⟨P6, n6, c6, rfl⟩ := g5.sliceN
      replace h23 := hidH h23
      obtain rfl := h24 (hdep 24 (by simp))
      refine wpOp_lit ho (fun j b h => by cases h) ?_
      clear hops hdep ho
      replace h0 := hidH h0
      replace h1 := hidH h1
      replace h2 := hidH h2
      replace h3 := hidH h3
      replace h4 := hidH h4
      replace h5 := hidH h5
      replace h6 := hidH h6
      replace h7 := hidH h7
      replace h8 := hidH h8
      replace h9 := hidH h9
      replace h10 := hidH h10
      replace h11 := hidH h11
      replace h12 := hidH h12
      replace h13 := hidH h13
      replace h14 := hidH h14
      replace h15 := hidH h15
      replace h16 := hidH h16
      replace h17 := hidH h17
      replace h18 := hidH h18
      replace h19 := hidH h19
      replace h20 := hidH h20
      replace h21 := hidH h21
      replace h22 := hidH h22
      replace h23 := hidH h23
      replace h24 := hidH h24
      have kp := hP hdn
      have x1 := kp.cell 1
      simp only [List.getElem?_toArray, List.getElem?_cons_succ, List.getElem?_cons_zero] at x1
      have f1 := kp.frozen 1
      have hlt := kp.lt
      have KS := hidH (blk_put2 kp (.slice P6 n6 c6))
      have G7 := hidH (g5.win (win_set W g 1 (.slice P6 n6 c6)) hgB)
      clear g5
      go_wp2
      exact (HJ.out _ _ _).2 ⟨_, _, _, _, _, _, _, _, _, _, _, _, _, _, _, _, _, _, _, _, _, _, _, _, _, rfl, ⟨(fun _ => hd23.out), hE.2⟩, (fun h2 => by simp at h2), (fun h2 => by have h3 : dn 23 = false := h2; rw [hd23.out] at h3; cases h3), bst hW hgw _, (by simpa [World.setCell] using hT), hGT, h0.out, h1.out, h2.out, h3.out, h4.out, h5.out, h6.out, h7.out, h8.out, h9.out, h10.out, h11.out, h12.out, h13.out, h14.out, h15.out, h16.out, h17.out, h18.out, h19.out, (fun _ h2 => by have h3 : dn 23 = false := h2; rw [hd23.out] at h3; cases h3), (fun _ h2 => by have h3 : dn 23 = false := h2; rw [hd23.out] at h3; cases h3), (fun _ h2 => by have h3 : dn 23 = false := h2; rw [hd23.out] at h3; cases h3), (fun _ h2 => by simp at h2), fun _ => rfl, fun _ => ⟨_, T2, KS.out, G7.out, g5t⟩⟩
    | n + 26, h => omega
  case fin =>
    clear hops hdeps hback
    rintro dn ac W hJ hall
    obtain ⟨t30, t31, t32, t33, t34, t35, t36, t37, t38, t39, t40, t41, t42, t43, t44, t45, t46, t47, t48, t49, t50, t51, t52, t53, t54, rfl, hE, hP, hG, hW, hT, hGT, h0, h1, h2, h3, h4, h5, h6, h7, h8, h9, h10, h11, h12, h13, h14, h15, h16, h17, h18, h19, h20, h21, h22, h23, h24, h25⟩ := (HJ.out _ _ _).1 hJ
    exact fin _ _ _ _ _ _ _ _ _ _ _ _ _ _ _ _ _ _ _ _ _ _ _ _ _ W hW (h25 (hall 25 (by omega)))
end Go.Proofs.YtepcikghhnfacaaDoor
