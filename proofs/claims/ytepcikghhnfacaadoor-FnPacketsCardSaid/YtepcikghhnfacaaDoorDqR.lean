/- The region of l4BentPacket's loop that draws its order. -/
import Derived.Test.YtepcikghhnfacaaDoorDpR
namespace Go.Proofs.YtepcikghhnfacaaDoor
open Go.RowKit Go.Deep

set_option maxRecDepth 100000 in
set_option maxHeartbeats 1000000 in
theorem regDq {Q : Exit → Act → World → Prop} (x1 x2 x4 x5 x6 x7 x8 x9 x10 x11 x12 x13 x14 x15 x16 x17 x18 x19 x20 x21 x22 x23 x24 x25 x26 u_27 u_28 u_29 u_30 u_31 u_32 u_33 u_34 u_35 u_36 u_37 : Value) (ws : World) (r g B T : Nat) (tag : Int) (v : Value) (cs : List Chk) (A : Option Addr) (l : List Int) (c at_ : Nat)
    (hrg : r < g) (hrB : r < B) (hwB : ws.heap.size ≤ B) (hgw : ws.heap.size ≤ g) (hBT : B ≤ T) (hcn : cs.length ≤ 100000) (hat : (at_ : Int) ≤ 600000000) {ops : Array Oper}
    (hops : (ops.map fun o => (o.op, o.dst, o.guard)) = #[(Op.fieldAddr 26 (Operand.tmp 3) 1, some 27, none), (Op.load 24 (Operand.tmp 27), some 28, none), (Op.move (Operand.tmp 0), some 29, none), (Op.move (Operand.tmp 0), some 30, none), (Op.buildSlice 84 2 #[(0, (Operand.const (Value.int .i64 0))), (1, (Operand.const (Value.int .i64 60)))], some 31, none), (Op.call { callee := Callee.value (Operand.func 37), args := #[(Operand.tmp 30), (Operand.tmp 31)], argTypes := #[44, 84] }, some 32, none), (Op.call { callee := Callee.value (Operand.func 36), args := #[(Operand.tmp 29), (Operand.tmp 32)], argTypes := #[44, 2] }, some 33, none), (Op.build 49 #[(0, (Operand.const (Value.int .i64 4))), (2, (Operand.tmp 33))], some 34, none), (Op.buildSlice 24 1 #[(0, (Operand.tmp 34))], some 35, none), (Op.call { callee := Callee.builtin Builtin.append, args := #[(Operand.tmp 28), (Operand.tmp 35)], argTypes := #[24, 24] }, some 36, none), (Op.fieldAddr 26 (Operand.tmp 3) 1, some 37, none), (Op.store 24 (Operand.tmp 37) (Operand.tmp 36), none, none)])
    (hdeps : ((List.range 12).all fun i => ((fun i => [[], [0], [], [], [], [3, 4], [2, 5], [6], [7], [1, 8], [], [9, 10]].getD i []) i).all fun j => ((ops[i]?).map fun o => o.after.any fun e => Region.binds .any e && e.on == j).getD false) = true)
    (hback : ((List.range 12).all fun i => ((ops[i]?).map fun o => o.after.all fun e => decide (e.on < i)).getD false) = true)
    {a0 : Act} {w0 : World} (ha : a0 = { tmps := #[.pointer (some ⟨r, 0, none⟩), x1, x2, .pointer (some ⟨g, 0, none⟩), x4, x5, x6, x7, x8, x9, x10, x11, x12, x13, x14, x15, x16, x17, x18, x19, x20, x21, x22, x23, x24, x25, x26, u_27, u_28, u_29, u_30, u_31, u_32, u_33, u_34, u_35, u_36, u_37, undef, undef, undef, undef, undef, undef, undef, undef, undef, undef], defers := [] }) (hE : (false = true → false = true) ∧ (false = true → false = true) ∧ (false = true → false = true) ∧ (false = true → false = true) ∧ (false = true → false = true) ∧ (false = true → false = true) ∧ (false = true → false = true)) (hP : false = false → Blk w0 g 26 #[.int .i64 tag, v]) (hG : false = false → Gr B T w0 v cs) (hRE : (false = false → SrcLe w0 r A l c at_) ∧ (false = false → SrcLe w0 r A l c (at_ + 10)) ∧ SrcLe w0 r A l c (at_ + 200)) (hW : Win r (r + 1) ws w0) (hT : w0.heap.size ≤ w0.heap.size) (hGT : T ≤ w0.heap.size)
    (fin : ∀ t27 t28 t29 t30 t31 t32 t33 t34 t35 t36 t37 (W : World), (SrcLe W r A l c (at_ + 200)) → (Win r (r + 1) ws W) → (∃ y v2 T2, (Bytes y.body ∧ y.body.length ≤ 200) ∧ Blk W g 26 #[.int .i64 tag, v2] ∧ Gr B T2 W v2 (cs ++ [y]) ∧ w0.heap.size ≤ T2) → Q .normal { tmps := #[.pointer (some ⟨r, 0, none⟩), x1, x2, .pointer (some ⟨g, 0, none⟩), x4, x5, x6, x7, x8, x9, x10, x11, x12, x13, x14, x15, x16, x17, x18, x19, x20, x21, x22, x23, x24, x25, x26, t27, t28, t29, t30, t31, t32, t33, t34, t35, t36, t37, undef, undef, undef, undef, undef, undef, undef, undef, undef, undef], defers := [] } W) :
    wpAny Tryd.prog .any ops Q ops.size (Array.replicate ops.size false) a0 w0 := by
  have hn : ops.size = 12 := by have := congrArg Array.size hops; simpa using this
  obtain ⟨J, HJ⟩ : ∃ J : (Nat → Bool) → Act → World → Prop, ∀ dn ac W, J dn ac W ↔ (fun dn ac W => ∃ t27 t28 t29 t30 t31 t32 t33 t34 t35 t36 t37, ac = { tmps := #[.pointer (some ⟨r, 0, none⟩), x1, x2, .pointer (some ⟨g, 0, none⟩), x4, x5, x6, x7, x8, x9, x10, x11, x12, x13, x14, x15, x16, x17, x18, x19, x20, x21, x22, x23, x24, x25, x26, t27, t28, t29, t30, t31, t32, t33, t34, t35, t36, t37, undef, undef, undef, undef, undef, undef, undef, undef, undef, undef], defers := [] } ∧ ((dn 11 = true → dn 9 = true) ∧ (dn 9 = true → dn 8 = true) ∧ (dn 8 = true → dn 7 = true) ∧ (dn 7 = true → dn 6 = true) ∧ (dn 6 = true → dn 5 = true) ∧ (dn 5 = true → dn 4 = true) ∧ (dn 9 = true → dn 1 = true)) ∧ (dn 11 = false → Blk W g 26 #[.int .i64 tag, v]) ∧ (dn 9 = false → Gr B T W v cs) ∧ ((dn 5 = false → SrcLe W r A l c at_) ∧ (dn 6 = false → SrcLe W r A l c (at_ + 10)) ∧ SrcLe W r A l c (at_ + 200)) ∧ (Win r (r + 1) ws W) ∧ (w0.heap.size ≤ W.heap.size) ∧ (T ≤ w0.heap.size) ∧ (dn 0 = true → t27 = .pointer (some ⟨g, 1, none⟩)) ∧ (dn 1 = true → t28 = v) ∧ (dn 2 = true → t29 = .pointer (some ⟨r, 0, none⟩)) ∧ (dn 3 = true → t30 = .pointer (some ⟨r, 0, none⟩)) ∧ (dn 4 = true → dn 5 = false → ∃ q : Nat, t31 = .slice (some ⟨q, 0, none⟩) 2 2 ∧ Blk W q 2 #[.int .i64 0, .int .i64 60] ∧ r < q) ∧ (dn 5 = true → ∃ N : Nat, t32 = .int .i64 N ∧ N ≤ 60) ∧ (dn 6 = true → dn 9 = false → ∃ (A2 : Option Addr) (c2 b2 : Nat) (d : List Int), t33 = .slice A2 d.length c2 ∧ (Bytes d ∧ d.length ≤ 200) ∧ Tb W b2 A2 d ∧ (d = [] ∨ w0.heap.size ≤ b2 ∧ b2 < W.heap.size)) ∧ (dn 7 = true → dn 9 = false → ∃ (y : Chk) (A2 : Option Addr) (c2 b2 : Nat), t34 = .agg #[.int .i64 y.kind, .int .i64 y.flags, .slice A2 y.body.length c2] ∧ (Bytes y.body ∧ y.body.length ≤ 200) ∧ Tb W b2 A2 y.body ∧ (y.body = [] ∨ w0.heap.size ≤ b2 ∧ b2 < W.heap.size)) ∧ (dn 8 = true → dn 9 = false → ∃ (y : Chk) (A2 : Option Addr) (c2 b2 q : Nat), t35 = .slice (some ⟨q, 0, none⟩) 1 1 ∧ (Bytes y.body ∧ y.body.length ≤ 200) ∧ Blk W q 49 #[.int .i64 y.kind, .int .i64 y.flags, .slice A2 y.body.length c2] ∧ Tb W b2 A2 y.body ∧ w0.heap.size ≤ b2 ∧ b2 < W.heap.size) ∧ (dn 9 = true → dn 11 = false → ∃ y T2, (Bytes y.body ∧ y.body.length ≤ 200) ∧ Gr B T2 W t36 (cs ++ [y]) ∧ w0.heap.size ≤ T2) ∧ (dn 10 = true → t37 = .pointer (some ⟨g, 1, none⟩)) ∧ (dn 11 = true → ∃ y v2 T2, (Bytes y.body ∧ y.body.length ≤ 200) ∧ Blk W g 26 #[.int .i64 tag, v2] ∧ Gr B T2 W v2 (cs ++ [y]) ∧ w0.heap.size ≤ T2)) dn ac W := ⟨_, fun _ _ _ => Iff.rfl⟩
  replace HJ := hidH HJ
  refine region_inv 12 (fun i => [[], [0], [], [], [], [3, 4], [2, 5], [6], [7], [1, 8], [], [9, 10]].getD i []) J hn hdeps hback ?start ?step ?fin
  case start => exact (HJ.out _ _ _).2 ⟨u_27, u_28, u_29, u_30, u_31, u_32, u_33, u_34, u_35, u_36, u_37, ha, hE, hP, hG, hRE, hW, hT, hGT, fun h => by simp at h, fun h => by simp at h, fun h => by simp at h, fun h => by simp at h, fun h => by simp at h, fun h => by simp at h, fun h => by simp at h, fun h => by simp at h, fun h => by simp at h, fun h => by simp at h, fun h => by simp at h, fun h => by simp at h⟩
  all_goals clear ha hE hP hG hRE hW hT hGT
  case step =>
    clear fin hdeps hback
    intro i hi dn ac W hJ hdn hdep
    obtain ⟨t27, t28, t29, t30, t31, t32, t33, t34, t35, t36, t37, rfl, hE, hP, hG, hRE, hW, hT, hGT, h0, h1, h2, h3, h4, h5, h6, h7, h8, h9, h10, h11⟩ := (HJ.out _ _ _).1 hJ
    clear hJ
    match i, hi with
    | 0, _ =>
      obtain ⟨ty, ps, af, ho⟩ := op_lit hops (i := 0) (op := Op.fieldAddr 26 (Operand.tmp 3) 1) (dst := some 27) (g := none) rfl
      refine wpOp_lit ho (fun j b h => by cases h) ?_
      clear hops hdep ho
      replace h1 := hidH h1
      replace h2 := hidH h2
      replace h3 := hidH h3
      replace h4 := hidH h4
      replace h5 := hidH h5
      replace h6 := hidH h6
      replace h7 := hidH h7
      replace h8 := hidH h8
      replace h9 := hidH h9
      replace h10 := hidH h10
      replace h11 := hidH h11
      go_wp2
      exact (HJ.out _ _ _).2 ⟨_, _, _, _, _, _, _, _, _, _, _, rfl, hE, hP, hG, hRE, hW, hT, hGT, fun _ => rfl, h1.out, h2.out, h3.out, h4.out, h5.out, h6.out, h7.out, h8.out, h9.out, h10.out, h11.out⟩
    | 1, _ =>
      obtain ⟨ty, ps, af, ho⟩ := op_lit hops (i := 1) (op := Op.load 24 (Operand.tmp 27)) (dst := some 28) (g := none) rfl
      have hk11 : dn 11 = false := by
        rcases hq : dn 11 with _ | _
        · rfl
        · have h3 : dn 1 = true := hE.2.2.2.2.2.2 (hE.1 (hq))
          rw [hdn] at h3; cases h3
      obtain rfl := h0 (hdep 0 (by simp))
      refine wpOp_lit ho (fun j b h => by cases h) ?_
      clear hops hdep ho
      replace h0 := hidH h0
      replace h2 := hidH h2
      replace h3 := hidH h3
      replace h4 := hidH h4
      replace h5 := hidH h5
      replace h6 := hidH h6
      replace h7 := hidH h7
      replace h8 := hidH h8
      replace h9 := hidH h9
      replace h10 := hidH h10
      replace h11 := hidH h11
      have hb := Below.refl W.heap.size W
      have kp := hP hk11
      have q1 := kp.cell 1
      simp only [List.getElem?_toArray, List.getElem?_cons_succ, List.getElem?_cons_zero] at q1
      have hlt := kp.lt
      go_wp2
      exact (HJ.out _ _ _).2 ⟨_, _, _, _, _, _, _, _, _, _, _, rfl, ⟨hE.1, hE.2.1, hE.2.2.1, hE.2.2.2.1, hE.2.2.2.2.1, hE.2.2.2.2.2.1, (fun _ => rfl)⟩, fun h => (hP h).below hb, fun h => (hG h).below hb, ⟨(fun h => (hRE.1 h).below hb), (fun h => (hRE.2.1 h).below hb), hRE.2.2.below hb⟩, hW.andBelow (hb.mono hW.size), Nat.le_trans hT hb.size, hGT, fun _ => rfl, fun _ => rfl, h2.out, h3.out, fun h h2 => by obtain ⟨q, q1, q2, q3⟩ := h4.out h h2; exact ⟨q, q1, q2.below hb, q3⟩, h5.out, fun h h2 => by obtain ⟨A2, c2, b2, d, q1, qy, q2, q3⟩ := h6.out h h2; exact ⟨A2, c2, b2, d, q1, qy, q2.below hb, q3.imp id (fun q => ⟨q.1, Nat.lt_of_lt_of_le q.2 hb.size⟩)⟩, fun h h2 => by obtain ⟨y, A2, c2, b2, q1, qy, q2, q3⟩ := h7.out h h2; exact ⟨y, A2, c2, b2, q1, qy, q2.below hb, q3.imp id (fun q => ⟨q.1, Nat.lt_of_lt_of_le q.2 hb.size⟩)⟩, fun h h2 => by obtain ⟨y, A2, c2, b2, q, q1, qy, qb, q2, q3, q4⟩ := h8.out h h2; exact ⟨y, A2, c2, b2, q, q1, qy, qb.below hb, q2.below hb, q3, Nat.lt_of_lt_of_le q4 hb.size⟩, fun h h2 => by obtain ⟨y, T2, qy, q, qt⟩ := h9.out h h2; exact ⟨y, T2, qy, q.below hb, qt⟩, h10.out, (fun h => by have h3 : dn 1 = true := hE.2.2.2.2.2.2 (hE.1 (h)); rw [hdn] at h3; cases h3)⟩
    | 2, _ =>
      obtain ⟨ty, ps, af, ho⟩ := op_lit hops (i := 2) (op := Op.move (Operand.tmp 0)) (dst := some 29) (g := none) rfl
      refine wpOp_lit ho (fun j b h => by cases h) ?_
      clear hops hdep ho
      replace h0 := hidH h0
      replace h1 := hidH h1
      replace h3 := hidH h3
      replace h4 := hidH h4
      replace h5 := hidH h5
      replace h6 := hidH h6
      replace h7 := hidH h7
      replace h8 := hidH h8
      replace h9 := hidH h9
      replace h10 := hidH h10
      replace h11 := hidH h11
      go_wp2
      exact (HJ.out _ _ _).2 ⟨_, _, _, _, _, _, _, _, _, _, _, rfl, hE, hP, hG, hRE, hW, hT, hGT, h0.out, h1.out, fun _ => rfl, h3.out, h4.out, h5.out, h6.out, h7.out, h8.out, h9.out, h10.out, h11.out⟩
    | 3, _ =>
      obtain ⟨ty, ps, af, ho⟩ := op_lit hops (i := 3) (op := Op.move (Operand.tmp 0)) (dst := some 30) (g := none) rfl
      refine wpOp_lit ho (fun j b h => by cases h) ?_
      clear hops hdep ho
      replace h0 := hidH h0
      replace h1 := hidH h1
      replace h2 := hidH h2
      replace h4 := hidH h4
      replace h5 := hidH h5
      replace h6 := hidH h6
      replace h7 := hidH h7
      replace h8 := hidH h8
      replace h9 := hidH h9
      replace h10 := hidH h10
      replace h11 := hidH h11
      go_wp2
      exact (HJ.out _ _ _).2 ⟨_, _, _, _, _, _, _, _, _, _, _, rfl, hE, hP, hG, hRE, hW, hT, hGT, h0.out, h1.out, h2.out, fun _ => rfl, h4.out, h5.out, h6.out, h7.out, h8.out, h9.out, h10.out, h11.out⟩
    | 4, _ =>
      obtain ⟨ty, ps, af, ho⟩ := op_lit hops (i := 4) (op := Op.buildSlice 84 2 #[(0, (Operand.const (Value.int .i64 0))), (1, (Operand.const (Value.int .i64 60)))]) (dst := some 31) (g := none) rfl
      refine wpOp_lit ho (fun j b h => by cases h) ?_
      clear hops hdep ho
      replace h0 := hidH h0
      replace h1 := hidH h1
      replace h2 := hidH h2
      replace h3 := hidH h3
      replace h5 := hidH h5
      replace h6 := hidH h6
      replace h7 := hidH h7
      replace h8 := hidH h8
      replace h9 := hidH h9
      replace h10 := hidH h10
      replace h11 := hidH h11
      have hb := bal (Below.refl W.heap.size W) (.cells #[.int .i64 0, .int .i64 60] 2)
      have S4 := hidH (And.intro (Blk.new W 2 #[.int .i64 0, .int .i64 60]) hRE.2.2.lt)
      go_wp2
      exact (HJ.out _ _ _).2 ⟨_, _, _, _, _, _, _, _, _, _, _, rfl, ⟨hE.1, hE.2.1, hE.2.2.1, hE.2.2.2.1, hE.2.2.2.2.1, (fun _ => rfl), hE.2.2.2.2.2.2⟩, fun h => (hP h).below hb, fun h => (hG h).below hb, ⟨(fun h => (hRE.1 h).below hb), (fun h => (hRE.2.1 h).below hb), hRE.2.2.below hb⟩, hW.andBelow (hb.mono hW.size), Nat.le_trans hT hb.size, hGT, h0.out, h1.out, h2.out, h3.out, fun _ => fun _ => ⟨_, rfl, S4.out⟩, h5.out, fun h h2 => by obtain ⟨A2, c2, b2, d, q1, qy, q2, q3⟩ := h6.out h h2; exact ⟨A2, c2, b2, d, q1, qy, q2.below hb, q3.imp id (fun q => ⟨q.1, Nat.lt_of_lt_of_le q.2 hb.size⟩)⟩, fun h h2 => by obtain ⟨y, A2, c2, b2, q1, qy, q2, q3⟩ := h7.out h h2; exact ⟨y, A2, c2, b2, q1, qy, q2.below hb, q3.imp id (fun q => ⟨q.1, Nat.lt_of_lt_of_le q.2 hb.size⟩)⟩, fun h h2 => by obtain ⟨y, A2, c2, b2, q, q1, qy, qb, q2, q3, q4⟩ := h8.out h h2; exact ⟨y, A2, c2, b2, q, q1, qy, qb.below hb, q2.below hb, q3, Nat.lt_of_lt_of_le q4 hb.size⟩, fun h h2 => by obtain ⟨y, T2, qy, q, qt⟩ := h9.out h h2; exact ⟨y, T2, qy, q.below hb, qt⟩, h10.out, (fun h => by have h3 : dn 4 = true := hE.2.2.2.2.2.1 (hE.2.2.2.2.1 (hE.2.2.2.1 (hE.2.2.1 (hE.2.1 (hE.1 (h)))))); rw [hdn] at h3; cases h3)⟩
    | 5, _ =>
      obtain ⟨ty, ps, af, ho⟩ := op_lit hops (i := 5) (op := Op.call { callee := Callee.value (Operand.func 37), args := #[(Operand.tmp 30), (Operand.tmp 31)], argTypes := #[44, 84] }) (dst := some 32) (g := none) rfl
      have hd4 := hidH (hdep 4 (by simp))
      obtain ⟨q, rfl, kq, hqr⟩ := h4 (hdep 4 (by simp)) hdn
      obtain rfl := h3 (hdep 3 (by simp))
      refine wpOp_lit ho (fun j b h => by cases h) ?_
      clear hops hdep ho
      replace h0 := hidH h0
      replace h1 := hidH h1
      replace h2 := hidH h2
      replace h3 := hidH h3
      replace h4 := hidH h4
      replace h6 := hidH h6
      replace h7 := hidH h7
      replace h8 := hidH h8
      replace h9 := hidH h9
      replace h10 := hidH h10
      replace h11 := hidH h11
      obtain ⟨a0, S0, ha0⟩ := hRE.1 hdn
      go_wp2_with fail
      refine (pick_any r A l c a0 q [0, 60] _ S0 (by omega) (Ns.of_blk kq) (by simp) (by simp) (by omega)).mono ?_
      rintro e w1 ⟨y, a1, rfl, hy, ha1, S1, hw⟩
      obtain ⟨N, rfl, hN⟩ : ∃ N : Nat, y = N ∧ N ≤ 60 := by
        simp at hy
        rcases hy with rfl | rfl
        · exact ⟨0, rfl, by omega⟩
        · exact ⟨60, rfl, by omega⟩
      have R3 : Hid (SrcLe w1 r A l c (at_ + 10)) := hidH ⟨a1, S1, by omega⟩
      replace hN := hidH hN
      clear S0 ha0 hy ha1 S1 kq
      go_wp2
      exact (HJ.out _ _ _).2 ⟨_, _, _, _, _, _, _, _, _, _, _, rfl, ⟨hE.1, hE.2.1, hE.2.2.1, hE.2.2.2.1, (fun _ => rfl), (fun _ => hd4.out), hE.2.2.2.2.2.2⟩, (fun h => hw.blk (hP h) (.inr hrg)), (fun h => (hG h).win hw hrB), ⟨(fun h => by simp at h), (fun _ => R3.out), R3.out.up (by omega)⟩, hW.trans hw, Nat.le_trans hT hw.size, hGT, h0.out, h1.out, h2.out, fun _ => rfl, (fun _ h2 => by simp at h2), fun _ => ⟨N, rfl, hN.out⟩, (fun h => by have h3 : dn 5 = true := hE.2.2.2.2.1 (h); rw [hdn] at h3; cases h3), (fun h => by have h3 : dn 5 = true := hE.2.2.2.2.1 (hE.2.2.2.1 (h)); rw [hdn] at h3; cases h3), (fun h => by have h3 : dn 5 = true := hE.2.2.2.2.1 (hE.2.2.2.1 (hE.2.2.1 (h))); rw [hdn] at h3; cases h3), (fun h => by have h3 : dn 5 = true := hE.2.2.2.2.1 (hE.2.2.2.1 (hE.2.2.1 (hE.2.1 (h)))); rw [hdn] at h3; cases h3), h10.out, (fun h => by have h3 : dn 5 = true := hE.2.2.2.2.1 (hE.2.2.2.1 (hE.2.2.1 (hE.2.1 (hE.1 (h))))); rw [hdn] at h3; cases h3)⟩
    | 6, _ =>
      obtain ⟨ty, ps, af, ho⟩ := op_lit hops (i := 6) (op := Op.call { callee := Callee.value (Operand.func 36), args := #[(Operand.tmp 29), (Operand.tmp 32)], argTypes := #[44, 2] }) (dst := some 33) (g := none) rfl
      have hd5 := hidH (hdep 5 (by simp))
      obtain ⟨N, rfl, hN⟩ := h5 (hdep 5 (by simp))
      obtain rfl := h2 (hdep 2 (by simp))
      refine wpOp_lit ho (fun j b h => by cases h) ?_
      clear hops hdep ho
      replace h0 := hidH h0
      replace h1 := hidH h1
      replace h2 := hidH h2
      replace h3 := hidH h3
      replace h4 := hidH h4
      replace h5 := hidH h5
      replace h7 := hidH h7
      replace h8 := hidH h8
      replace h9 := hidH h9
      replace h10 := hidH h10
      replace h11 := hidH h11
      obtain ⟨a0, S0, ha0⟩ := hRE.2.1 hdn
      go_wp2_with fail
      refine (some_any N r A l c a0 _ S0 (by omega) (by omega)).mono ?_
      rintro e w1 ⟨v4, d, a4, rfl, hd4, hl4, O4, S1, ha4, hw⟩
      obtain ⟨A2, c2, b2, rfl, r1, r2⟩ := own_tb O4
      have R3 : Hid (SrcLe w1 r A l c (at_ + 200)) := hidH ⟨a4, S1, by omega⟩
      have S6 := hidH (And.intro (And.intro hd4 (show d.length ≤ 200 by omega)) (And.intro r1 (r2.imp id (fun q => And.intro (Nat.le_trans hT q.1) q.2))))
      clear S0 ha0 hd4 hl4 O4 S1 ha4 r1 r2
      go_wp2
      exact (HJ.out _ _ _).2 ⟨_, _, _, _, _, _, _, _, _, _, _, rfl, ⟨hE.1, hE.2.1, hE.2.2.1, (fun _ => rfl), (fun _ => hd5.out), hE.2.2.2.2.2.1, hE.2.2.2.2.2.2⟩, (fun h => hw.blk (hP h) (.inr hrg)), (fun h => (hG h).win hw hrB), ⟨(fun h2 => by have h3 : dn 5 = false := h2; rw [hd5.out] at h3; cases h3), (fun h => by simp at h), R3.out⟩, hW.trans hw, Nat.le_trans hT hw.size, hGT, h0.out, h1.out, fun _ => rfl, h3.out, (fun _ h2 => by have h3 : dn 5 = false := h2; rw [hd5.out] at h3; cases h3), h5.out, fun _ => fun _ => ⟨A2, c2, b2, d, rfl, S6.out⟩, (fun h => by have h3 : dn 6 = true := hE.2.2.2.1 (h); rw [hdn] at h3; cases h3), (fun h => by have h3 : dn 6 = true := hE.2.2.2.1 (hE.2.2.1 (h)); rw [hdn] at h3; cases h3), (fun h => by have h3 : dn 6 = true := hE.2.2.2.1 (hE.2.2.1 (hE.2.1 (h))); rw [hdn] at h3; cases h3), h10.out, (fun h => by have h3 : dn 6 = true := hE.2.2.2.1 (hE.2.2.1 (hE.2.1 (hE.1 (h)))); rw [hdn] at h3; cases h3)⟩
    | 7, _ =>
      obtain ⟨ty, ps, af, ho⟩ := op_lit hops (i := 7) (op := Op.build 49 #[(0, (Operand.const (Value.int .i64 4))), (2, (Operand.tmp 33))]) (dst := some 34) (g := none) rfl
      have hk9 : dn 9 = false := by
        rcases hq : dn 9 with _ | _
        · rfl
        · have h3 : dn 7 = true := hE.2.2.1 (hE.2.1 (hq))
          rw [hdn] at h3; cases h3
      have hd6 := hidH (hdep 6 (by simp))
      obtain ⟨A2, c2, b2, d, rfl, rd, r1, r2⟩ := h6 (hdep 6 (by simp)) hk9
      refine wpOp_lit ho (fun j b h => by cases h) ?_
      clear hops hdep ho
      replace h0 := hidH h0
      replace h1 := hidH h1
      replace h2 := hidH h2
      replace h3 := hidH h3
      replace h4 := hidH h4
      replace h5 := hidH h5
      replace h6 := hidH h6
      replace h8 := hidH h8
      replace h9 := hidH h9
      replace h10 := hidH h10
      replace h11 := hidH h11
      have hb := Below.refl W.heap.size W
      have S7 := hidH (And.intro rd (And.intro r1 r2))
      clear rd r1 r2
      go_wp2
      exact (HJ.out _ _ _).2 ⟨_, _, _, _, _, _, _, _, _, _, _, rfl, ⟨hE.1, hE.2.1, (fun _ => rfl), (fun _ => hd6.out), hE.2.2.2.2.1, hE.2.2.2.2.2.1, hE.2.2.2.2.2.2⟩, fun h => (hP h).below hb, fun h => (hG h).below hb, ⟨(fun h => (hRE.1 h).below hb), (fun h => (hRE.2.1 h).below hb), hRE.2.2.below hb⟩, hW.andBelow (hb.mono hW.size), Nat.le_trans hT hb.size, hGT, h0.out, h1.out, h2.out, h3.out, fun h h2 => by obtain ⟨q, q1, q2, q3⟩ := h4.out h h2; exact ⟨q, q1, q2.below hb, q3⟩, h5.out, fun h h2 => by obtain ⟨A2, c2, b2, d, q1, qy, q2, q3⟩ := h6.out h h2; exact ⟨A2, c2, b2, d, q1, qy, q2.below hb, q3.imp id (fun q => ⟨q.1, Nat.lt_of_lt_of_le q.2 hb.size⟩)⟩, fun _ => fun _ => ⟨⟨4, 0, d⟩, A2, c2, b2, rfl, S7.out⟩, fun h h2 => by obtain ⟨y, A2, c2, b2, q, q1, qy, qb, q2, q3, q4⟩ := h8.out h h2; exact ⟨y, A2, c2, b2, q, q1, qy, qb.below hb, q2.below hb, q3, Nat.lt_of_lt_of_le q4 hb.size⟩, fun h h2 => by obtain ⟨y, T2, qy, q, qt⟩ := h9.out h h2; exact ⟨y, T2, qy, q.below hb, qt⟩, h10.out, (fun h => by have h3 : dn 7 = true := hE.2.2.1 (hE.2.1 (hE.1 (h))); rw [hdn] at h3; cases h3)⟩
    | 8, _ =>
      obtain ⟨ty, ps, af, ho⟩ := op_lit hops (i := 8) (op := Op.buildSlice 24 1 #[(0, (Operand.tmp 34))]) (dst := some 35) (g := none) rfl
      have hk9 : dn 9 = false := by
        rcases hq : dn 9 with _ | _
        · rfl
        · have h3 : dn 8 = true := hE.2.1 (hq)
          rw [hdn] at h3; cases h3
      have hd7 := hidH (hdep 7 (by simp))
      obtain ⟨y, A2, c2, b2, rfl, ry, r1, r2⟩ := h7 (hdep 7 (by simp)) hk9
      refine wpOp_lit ho (fun j b h => by cases h) ?_
      clear hops hdep ho
      replace h0 := hidH h0
      replace h1 := hidH h1
      replace h2 := hidH h2
      replace h3 := hidH h3
      replace h4 := hidH h4
      replace h5 := hidH h5
      replace h6 := hidH h6
      replace h7 := hidH h7
      replace h9 := hidH h9
      replace h10 := hidH h10
      replace h11 := hidH h11
      have hb := bal (Below.refl W.heap.size W) (.cells #[.int .i64 y.kind, .int .i64 y.flags, .slice A2 y.body.length c2] 49)
      have KQ := Blk.new W 49 #[.int .i64 y.kind, .int .i64 y.flags, .slice A2 y.body.length c2]
      obtain ⟨b3, s1, s2, s3⟩ := tb_pick (r1.below hb) (B := w0.heap.size) (q := W.heap.size) hT KQ.lt (r2.imp id (fun q => ⟨q.1, Nat.lt_of_lt_of_le q.2 hb.size⟩))
      have S3 := hidH (And.intro ry (And.intro KQ (And.intro s1 (And.intro s2 s3))))
      clear KQ s1 s2 s3 r1 r2 ry
      go_wp2
      exact (HJ.out _ _ _).2 ⟨_, _, _, _, _, _, _, _, _, _, _, rfl, ⟨hE.1, (fun _ => rfl), (fun _ => hd7.out), hE.2.2.2.1, hE.2.2.2.2.1, hE.2.2.2.2.2.1, hE.2.2.2.2.2.2⟩, fun h => (hP h).below hb, fun h => (hG h).below hb, ⟨(fun h => (hRE.1 h).below hb), (fun h => (hRE.2.1 h).below hb), hRE.2.2.below hb⟩, hW.andBelow (hb.mono hW.size), Nat.le_trans hT hb.size, hGT, h0.out, h1.out, h2.out, h3.out, fun h h2 => by obtain ⟨q, q1, q2, q3⟩ := h4.out h h2; exact ⟨q, q1, q2.below hb, q3⟩, h5.out, fun h h2 => by obtain ⟨A2, c2, b2, d, q1, qy, q2, q3⟩ := h6.out h h2; exact ⟨A2, c2, b2, d, q1, qy, q2.below hb, q3.imp id (fun q => ⟨q.1, Nat.lt_of_lt_of_le q.2 hb.size⟩)⟩, fun h h2 => by obtain ⟨y, A2, c2, b2, q1, qy, q2, q3⟩ := h7.out h h2; exact ⟨y, A2, c2, b2, q1, qy, q2.below hb, q3.imp id (fun q => ⟨q.1, Nat.lt_of_lt_of_le q.2 hb.size⟩)⟩, fun _ => fun _ => ⟨y, A2, c2, b3, _, rfl, S3.out⟩, fun h h2 => by obtain ⟨y, T2, qy, q, qt⟩ := h9.out h h2; exact ⟨y, T2, qy, q.below hb, qt⟩, h10.out, (fun h => by have h3 : dn 8 = true := hE.2.1 (hE.1 (h)); rw [hdn] at h3; cases h3)⟩
    | 9, _ =>
      obtain ⟨ty, ps, af, ho⟩ := op_lit hops (i := 9) (op := Op.call { callee := Callee.builtin Builtin.append, args := #[(Operand.tmp 28), (Operand.tmp 35)], argTypes := #[24, 24] }) (dst := some 36) (g := none) rfl
      have hd8 := hidH (hdep 8 (by simp))
      have hd1 := hidH (hdep 1 (by simp))
      have hd5 := hidH (hE.2.2.2.2.1 (hE.2.2.2.1 (hE.2.2.1 (hd8.out))))
      obtain ⟨y, A2, c2, b2, q, rfl, ry, kq, r1, r2, r3⟩ := h8 (hdep 8 (by simp)) hdn
      obtain rfl := h1 (hdep 1 (by simp))
      refine wpOp_lit ho (fun j b h => by cases h) ?_
      clear hops hdep ho
      replace h0 := hidH h0
      replace h1 := hidH h1
      replace h2 := hidH h2
      replace h3 := hidH h3
      replace h4 := hidH h4
      replace h5 := hidH h5
      replace h6 := hidH h6
      replace h7 := hidH h7
      replace h8 := hidH h8
      replace h10 := hidH h10
      replace h11 := hidH h11
      have gk := hG hdn
      have gk2 := gk.mono hGT hT
      go_wp2_with (at_builtin; go_loud (refine wpList_append_gp rfl _ _ rfl B w0.heap.size _ cs rfl gk2 q y A2 c2 b2 _ rfl kq r1 r2 r3 (Nat.le_trans hBT hGT) hcn ?_))
      intro v6 w6 g6 hb hpk
      have G6 := hidH g6
      clear g6
      go_wp2
      exact (HJ.out _ _ _).2 ⟨_, _, _, _, _, _, _, _, _, _, _, rfl, ⟨(fun _ => rfl), (fun _ => hd8.out), hE.2.2.1, hE.2.2.2.1, hE.2.2.2.2.1, hE.2.2.2.2.2.1, (fun _ => hd1.out)⟩, (fun h => hpk _ _ (hP h)), (fun h2 => by simp at h2), ⟨(fun h => (hRE.1 h).lowB hb hrB), (fun h => (hRE.2.1 h).lowB hb hrB), hRE.2.2.lowB hb hrB⟩, hW.andBelow (hb.mono hwB), Nat.le_trans hT hb.size, hGT, h0.out, fun _ => rfl, h2.out, h3.out, (fun _ h2 => by have h3 : dn 5 = false := h2; rw [hd5.out] at h3; cases h3), h5.out, (fun _ h2 => by simp at h2), (fun _ h2 => by simp at h2), (fun _ h2 => by simp at h2), fun _ => fun _ => ⟨y, _, ry, G6.out, hT⟩, h10.out, (fun h => by have h3 : dn 9 = true := hE.1 (h); rw [hdn] at h3; cases h3)⟩
    | 10, _ =>
      obtain ⟨ty, ps, af, ho⟩ := op_lit hops (i := 10) (op := Op.fieldAddr 26 (Operand.tmp 3) 1) (dst := some 37) (g := none) rfl
      refine wpOp_lit ho (fun j b h => by cases h) ?_
      clear hops hdep ho
      replace h0 := hidH h0
      replace h1 := hidH h1
      replace h2 := hidH h2
      replace h3 := hidH h3
      replace h4 := hidH h4
      replace h5 := hidH h5
      replace h6 := hidH h6
      replace h7 := hidH h7
      replace h8 := hidH h8
      replace h9 := hidH h9
      replace h11 := hidH h11
      go_wp2
      exact (HJ.out _ _ _).2 ⟨_, _, _, _, _, _, _, _, _, _, _, rfl, hE, hP, hG, hRE, hW, hT, hGT, h0.out, h1.out, h2.out, h3.out, h4.out, h5.out, h6.out, h7.out, h8.out, h9.out, fun _ => rfl, h11.out⟩
    | 11, _ =>
      obtain ⟨ty, ps, af, ho⟩ := op_lit hops (i := 11) (op := Op.store 24 (Operand.tmp 37) (Operand.tmp 36)) (dst := none) (g := none) rfl
      have hd9 := hidH (hdep 9 (by simp))
      have hd5 := hidH (hE.2.2.2.2.1 (hE.2.2.2.1 (hE.2.2.1 (hE.2.1 (hd9.out)))))
      obtain ⟨y, T2, ry, g5, g5t⟩ := h9 (hdep 9 (by simp)) hdn
      obtain ⟨P6, n6, c6, rfl⟩ := g5.sliceN
      replace h9 := hidH h9
      obtain rfl := h10 (hdep 10 (by simp))
      refine wpOp_lit ho (fun j b h => by cases h) ?_
      clear hops hdep ho
      replace h0 := hidH h0
      replace h1 := hidH h1
      replace h2 := hidH h2
      replace h3 := hidH h3
      replace h4 := hidH h4
      replace h5 := hidH h5
      replace h6 := hidH h6
      replace h7 := hidH h7
      replace h8 := hidH h8
      replace h9 := hidH h9
      replace h10 := hidH h10
      have kp := hP hdn
      have x1 := kp.cell 1
      simp only [List.getElem?_toArray, List.getElem?_cons_succ, List.getElem?_cons_zero] at x1
      have f1 := kp.frozen 1
      have hlt := kp.lt
      have KS := hidH (blk_put2 kp (.slice P6 n6 c6))
      have G7 := hidH (g5.put kp (i := 1) (.slice P6 n6 c6))
      clear g5
      go_wp2
      exact (HJ.out _ _ _).2 ⟨_, _, _, _, _, _, _, _, _, _, _, rfl, ⟨(fun _ => hd9.out), hE.2.1, hE.2.2.1, hE.2.2.2.1, hE.2.2.2.2.1, hE.2.2.2.2.2.1, hE.2.2.2.2.2.2⟩, (fun h2 => by simp at h2), (fun h2 => by have h3 : dn 9 = false := h2; rw [hd9.out] at h3; cases h3), ⟨(fun h => (hRE.1 h).far (p := ⟨g, 1, none⟩) hrg _), (fun h => (hRE.2.1 h).far (p := ⟨g, 1, none⟩) hrg _), hRE.2.2.far (p := ⟨g, 1, none⟩) hrg _⟩, hW.andBelow ((Below.refl ws.heap.size W).setCell (p := ⟨g, 1, none⟩) hgw _), (by simpa [World.setCell] using hT), hGT, h0.out, h1.out, h2.out, h3.out, (fun _ h2 => by have h3 : dn 5 = false := h2; rw [hd5.out] at h3; cases h3), h5.out, (fun _ h2 => by have h3 : dn 9 = false := h2; rw [hd9.out] at h3; cases h3), (fun _ h2 => by have h3 : dn 9 = false := h2; rw [hd9.out] at h3; cases h3), (fun _ h2 => by have h3 : dn 9 = false := h2; rw [hd9.out] at h3; cases h3), (fun _ h2 => by simp at h2), fun _ => rfl, fun _ => ⟨y, _, T2, ry, KS.out, G7.out, g5t⟩⟩
    | n + 12, h => omega
  case fin =>
    clear hops hdeps hback
    rintro dn ac W hJ hall
    obtain ⟨t27, t28, t29, t30, t31, t32, t33, t34, t35, t36, t37, rfl, hE, hP, hG, hRE, hW, hT, hGT, h0, h1, h2, h3, h4, h5, h6, h7, h8, h9, h10, h11⟩ := (HJ.out _ _ _).1 hJ
    exact fin _ _ _ _ _ _ _ _ _ _ _ W hRE.2.2 hW (h11 (hall 11 (by omega)))
end Go.Proofs.YtepcikghhnfacaaDoor
