/- The regions of l5Asconf that draw their order. -/
import Derived.Test.YtjjileefdjjijaaDoorMa7
import Derived.Test.YtjjileefdjjijaaDoorS5DR
namespace Go.Proofs.YtjjileefdjjijaaDoor
open Go.RowKit Go.Deep

theorem lit_bs1 {w : World} {g : Nat} {t : TypeId} {x : Int} (h : Blk w g t #[.int .u8 x]) : Bs w (some ⟨g, 0, none⟩) [x] :=
  .inr ⟨g, 0, rfl, h.lt, fun j hj => by
    rw [Nat.zero_add, h.cell]
    match j, hj with
    | 0, _ => rfl⟩
set_option maxRecDepth 100000 in
set_option maxHeartbeats 1000000 in
theorem regQ1 {Q : Exit → Act → World → Prop} (x1 x2 u_3 x4 : Value) (g o R : Nat) (y : AsconfM) (A : Option Addr) (c : Nat) (ww wq : World) (ht0 : 0 ≤ y.Serial) (ht1 : y.Serial ≤ 4294967295) (hnl : (y.Ops.length : Int) ≤ 200) (q0 : ww.cell? ⟨g, o, none⟩ = some (.int .i64 y.Serial)) (q1 : ww.cell? ⟨g, o + 1, none⟩ = some (.slice A y.Ops.length c)) (hgl : g < ww.heap.size) (hB : ww.heap.size ≤ wq.heap.size) (hRl : R < wq.heap.size) {ops : Array Oper}
    (hops : (ops.map fun o => (o.op, o.dst, o.guard)) = #[(Op.move (Operand.tmp 0), some 5, none), (Op.nilCheck (Operand.tmp 5), some 6, none), (Op.fieldAddr 59 (Operand.tmp 6) 0, some 7, none), (Op.load 2 (Operand.tmp 7), some 8, none), (Op.call { callee := Callee.value (Operand.func 108), args := #[(Operand.tmp 8)], argTypes := #[2] }, some 9, none), (Op.move (Operand.tmp 0), some 10, none), (Op.nilCheck (Operand.tmp 10), some 11, none), (Op.fieldAddr 59 (Operand.tmp 11) 1, some 12, none), (Op.load 57 (Operand.tmp 12), some 13, none), (Op.call { callee := Callee.builtin Builtin.len, args := #[(Operand.tmp 13)], argTypes := #[57] }, some 14, none), (Op.convert 3 5 (Operand.tmp 14), some 15, none), (Op.buildSlice 22 1 #[(0, (Operand.tmp 15))], some 16, none), (Op.call { callee := Callee.builtin Builtin.append, args := #[(Operand.tmp 9), (Operand.tmp 16)], argTypes := #[22, 22] }, some 17, none), (Op.assign (Operand.tmp 17), some 3, none)])
    (hdeps : ((List.range 14).all fun i => ((fun i => [[], [0], [1], [2], [3], [], [5], [6], [7], [8], [9], [10], [4, 11], [12]].getD i []) i).all fun j => ((ops[i]?).map fun o => o.after.any fun e => Region.binds .any e && e.on == j).getD false) = true)
    (hback : ((List.range 14).all fun i => ((ops[i]?).map fun o => o.after.all fun e => decide (e.on < i)).getD false) = true)
    {a0 : Act} (ha : a0 = { tmps := #[.pointer (some ⟨g, o, none⟩), x1, x2, u_3, x4, undef, undef, undef, undef, undef, undef, undef, undef, undef, undef, undef, undef, undef, undef, undef, undef, undef, undef, undef, undef, undef, undef, undef, undef, undef, undef, undef, undef, undef, undef, undef, undef, undef, undef, undef, undef, undef, undef, undef, undef, undef, undef, undef, undef, undef], defers := [] }) (hE : false = true → false = true) (hO : Below ww.heap.size ww wq) (hS : wq.heap.size ≤ wq.heap.size) (hR : Blk wq R 28 #[.int .i64 0, .int .i64 0, .slice none 0 0])
    (fin : ∀ t5 t6 t7 t8 t9 t10 t11 t12 t13 t14 t15 t16 t17 t3 (W : World), (Below ww.heap.size ww W) → (wq.heap.size ≤ W.heap.size) → (Blk W R 28 #[.int .i64 0, .int .i64 0, .slice none 0 0]) → (W.ownsRow wq.heap.size 5 1 t3 5 ((pk y.Serial ++ [(y.Ops.length : Int)]).map (Value.int .u8))) → Q .normal { tmps := #[.pointer (some ⟨g, o, none⟩), x1, x2, t3, x4, t5, t6, t7, t8, t9, t10, t11, t12, t13, t14, t15, t16, t17, undef, undef, undef, undef, undef, undef, undef, undef, undef, undef, undef, undef, undef, undef, undef, undef, undef, undef, undef, undef, undef, undef, undef, undef, undef, undef, undef, undef, undef, undef, undef, undef], defers := [] } W) :
    wpAny Tryd.prog .any ops Q ops.size (Array.replicate ops.size false) a0 wq := by
  have hn : ops.size = 14 := by have := congrArg Array.size hops; simpa using this
  obtain ⟨J, HJ⟩ : ∃ J : (Nat → Bool) → Act → World → Prop, ∀ dn ac W, J dn ac W ↔ (fun dn ac W => ∃ t5 t6 t7 t8 t9 t10 t11 t12 t13 t14 t15 t16 t17 t3, ac = { tmps := #[.pointer (some ⟨g, o, none⟩), x1, x2, t3, x4, t5, t6, t7, t8, t9, t10, t11, t12, t13, t14, t15, t16, t17, undef, undef, undef, undef, undef, undef, undef, undef, undef, undef, undef, undef, undef, undef, undef, undef, undef, undef, undef, undef, undef, undef, undef, undef, undef, undef, undef, undef, undef, undef, undef, undef], defers := [] } ∧ (dn 13 = true → dn 12 = true) ∧ (Below ww.heap.size ww W) ∧ (wq.heap.size ≤ W.heap.size) ∧ (Blk W R 28 #[.int .i64 0, .int .i64 0, .slice none 0 0]) ∧ (dn 0 = true → t5 = .pointer (some ⟨g, o, none⟩)) ∧ (dn 1 = true → t6 = .pointer (some ⟨g, o, none⟩)) ∧ (dn 2 = true → t7 = .pointer (some ⟨g, o, none⟩)) ∧ (dn 3 = true → t8 = .int .i64 y.Serial) ∧ (dn 4 = true → dn 12 = false → W.ownsRow wq.heap.size 5 1 t9 4 ((pk y.Serial).map (Value.int .u8))) ∧ (dn 5 = true → t10 = .pointer (some ⟨g, o, none⟩)) ∧ (dn 6 = true → t11 = .pointer (some ⟨g, o, none⟩)) ∧ (dn 7 = true → t12 = .pointer (some ⟨g, o + 1, none⟩)) ∧ (dn 8 = true → t13 = .slice A y.Ops.length c) ∧ (dn 9 = true → t14 = .int .i64 (y.Ops.length : Int)) ∧ (dn 10 = true → t15 = .int .u8 (y.Ops.length : Int)) ∧ (dn 11 = true → dn 12 = false → ∃ g2 : Nat, t16 = .slice (some ⟨g2, 0, none⟩) 1 1 ∧ Blk W g2 5 #[.int .u8 (y.Ops.length : Int)]) ∧ (dn 12 = true → W.ownsRow wq.heap.size 5 1 t17 5 ((pk y.Serial ++ [(y.Ops.length : Int)]).map (Value.int .u8))) ∧ (dn 13 = true → W.ownsRow wq.heap.size 5 1 t3 5 ((pk y.Serial ++ [(y.Ops.length : Int)]).map (Value.int .u8)))) dn ac W := ⟨_, fun _ _ _ => Iff.rfl⟩
  replace HJ := hidH HJ
  refine region_inv 14 (fun i => [[], [0], [1], [2], [3], [], [5], [6], [7], [8], [9], [10], [4, 11], [12]].getD i []) J hn hdeps hback ?start ?step ?fin
  case start => exact (HJ.out _ _ _).2 ⟨undef, undef, undef, undef, undef, undef, undef, undef, undef, undef, undef, undef, undef, u_3, ha, hE, hO, hS, hR, fun h => by simp at h, fun h => by simp at h, fun h => by simp at h, fun h => by simp at h, fun h => by simp at h, fun h => by simp at h, fun h => by simp at h, fun h => by simp at h, fun h => by simp at h, fun h => by simp at h, fun h => by simp at h, fun h => by simp at h, fun h => by simp at h, fun h => by simp at h⟩
  all_goals clear ha hE hO hS hR
  case step =>
    clear fin hdeps hback
    intro i hi dn ac W hJ hdn hdep
    obtain ⟨t5, t6, t7, t8, t9, t10, t11, t12, t13, t14, t15, t16, t17, t3, rfl, hE, hO, hS, hR, h0, h1, h2, h3, h4, h5, h6, h7, h8, h9, h10, h11, h12, h13⟩ := (HJ.out _ _ _).1 hJ
    clear hJ
    match i, hi with
    | 0, _ =>
      obtain ⟨ty, ps, af, ho⟩ := op_lit hops (i := 0) (op := Op.move (Operand.tmp 0)) (dst := some 5) (g := none) rfl
      refine wpOp_lit ho (fun j b h => by cases h) ?_
      clear hops hdep ho
      replace h1 := hidH h1
      replace h2 := hidH h2
      replace h3 := hidH h3
      replace h4 := hidH h4
      replace h5 := hidH h5
      replace h6 := hidH h6
      replace h7 := hidH h7
      replace h8 := hidH h8
      replace h9 := hidH h9
      replace h10 := hidH h10
      replace h11 := hidH h11
      replace h12 := hidH h12
      replace h13 := hidH h13
      go_wp2
      exact (HJ.out _ _ _).2 ⟨_, _, _, _, _, _, _, _, _, _, _, _, _, _, rfl, hE, hO, hS, hR, fun _ => rfl, h1.out, h2.out, h3.out, h4.out, h5.out, h6.out, h7.out, h8.out, h9.out, h10.out, h11.out, h12.out, h13.out⟩
    | 1, _ =>
      obtain ⟨ty, ps, af, ho⟩ := op_lit hops (i := 1) (op := Op.nilCheck (Operand.tmp 5)) (dst := some 6) (g := none) rfl
      obtain rfl := h0 (hdep 0 (by simp))
      refine wpOp_lit ho (fun j b h => by cases h) ?_
      clear hops hdep ho
      replace h0 := hidH h0
      replace h2 := hidH h2
      replace h3 := hidH h3
      replace h4 := hidH h4
      replace h5 := hidH h5
      replace h6 := hidH h6
      replace h7 := hidH h7
      replace h8 := hidH h8
      replace h9 := hidH h9
      replace h10 := hidH h10
      replace h11 := hidH h11
      replace h12 := hidH h12
      replace h13 := hidH h13
      go_wp2
      exact (HJ.out _ _ _).2 ⟨_, _, _, _, _, _, _, _, _, _, _, _, _, _, rfl, hE, hO, hS, hR, fun _ => rfl, fun _ => rfl, h2.out, h3.out, h4.out, h5.out, h6.out, h7.out, h8.out, h9.out, h10.out, h11.out, h12.out, h13.out⟩
    | 2, _ =>
      obtain ⟨ty, ps, af, ho⟩ := op_lit hops (i := 2) (op := Op.fieldAddr 59 (Operand.tmp 6) 0) (dst := some 7) (g := none) rfl
      obtain rfl := h1 (hdep 1 (by simp))
      refine wpOp_lit ho (fun j b h => by cases h) ?_
      clear hops hdep ho
      replace h0 := hidH h0
      replace h1 := hidH h1
      replace h3 := hidH h3
      replace h4 := hidH h4
      replace h5 := hidH h5
      replace h6 := hidH h6
      replace h7 := hidH h7
      replace h8 := hidH h8
      replace h9 := hidH h9
      replace h10 := hidH h10
      replace h11 := hidH h11
      replace h12 := hidH h12
      replace h13 := hidH h13
      go_wp2
      exact (HJ.out _ _ _).2 ⟨_, _, _, _, _, _, _, _, _, _, _, _, _, _, rfl, hE, hO, hS, hR, h0.out, fun _ => rfl, fun _ => rfl, h3.out, h4.out, h5.out, h6.out, h7.out, h8.out, h9.out, h10.out, h11.out, h12.out, h13.out⟩
    | 3, _ =>
      obtain ⟨ty, ps, af, ho⟩ := op_lit hops (i := 3) (op := Op.load 2 (Operand.tmp 7)) (dst := some 8) (g := none) rfl
      obtain rfl := h2 (hdep 2 (by simp))
      refine wpOp_lit ho (fun j b h => by cases h) ?_
      clear hops hdep ho
      replace h0 := hidH h0
      replace h1 := hidH h1
      replace h2 := hidH h2
      replace h4 := hidH h4
      replace h5 := hidH h5
      replace h6 := hidH h6
      replace h7 := hidH h7
      replace h8 := hidH h8
      replace h9 := hidH h9
      replace h10 := hidH h10
      replace h11 := hidH h11
      replace h12 := hidH h12
      replace h13 := hidH h13
      have q := (hO.cell (p := ⟨g, o, none⟩) hgl).trans q0
      go_wp2
      exact (HJ.out _ _ _).2 ⟨_, _, _, _, _, _, _, _, _, _, _, _, _, _, rfl, hE, hO, hS, hR, h0.out, h1.out, fun _ => rfl, fun _ => rfl, h4.out, h5.out, h6.out, h7.out, h8.out, h9.out, h10.out, h11.out, h12.out, h13.out⟩
    | 4, _ =>
      obtain ⟨ty, ps, af, ho⟩ := op_lit hops (i := 4) (op := Op.call { callee := Callee.value (Operand.func 108), args := #[(Operand.tmp 8)], argTypes := #[2] }) (dst := some 9) (g := none) rfl
      obtain rfl := h3 (hdep 3 (by simp))
      refine wpOp_lit ho (fun j b h => by cases h) ?_
      clear hops hdep ho
      replace h0 := hidH h0
      replace h1 := hidH h1
      replace h2 := hidH h2
      replace h3 := hidH h3
      replace h5 := hidH h5
      replace h6 := hidH h6
      replace h7 := hidH h7
      replace h8 := hidH h8
      replace h9 := hidH h9
      replace h10 := hidH h10
      replace h11 := hidH h11
      replace h12 := hidH h12
      replace h13 := hidH h13
      go_wp2_with fail
      refine (l1Pack_any _ _ ht0 ht1).mono ?_
      rintro e w1 ⟨rfl, rfl⟩
      have hb := bal (Below.refl W.heap.size W) (.cells #[.int .u8 (y.Serial / 16777216), .int .u8 (y.Serial / 65536 % 256), .int .u8 (y.Serial / 256 % 256), .int .u8 (y.Serial % 256)] 5)
      go_wp2
      exact (HJ.out _ _ _).2 ⟨_, _, _, _, _, _, _, _, _, _, _, _, _, _, rfl, hE, btr hO hb, Nat.le_trans hS hb.size, hR.below hb, h0.out, h1.out, h2.out, fun _ => rfl, fun _ => fun _ => World.ownsRow_lit _ #[.int .u8 (y.Serial / 16777216), .int .u8 (y.Serial / 65536 % 256), .int .u8 (y.Serial / 256 % 256), .int .u8 (y.Serial % 256)] 4 hS (by unfold maxLen; omega) rfl, h5.out, h6.out, h7.out, h8.out, h9.out, h10.out, (fun h h2 => by obtain ⟨g2, q1, q2⟩ := h11.out h h2; exact ⟨g2, q1, q2.below hb⟩), fun h => own_below0 (h12.out h) hb, fun h => own_below0 (h13.out h) hb⟩
    | 5, _ =>
      obtain ⟨ty, ps, af, ho⟩ := op_lit hops (i := 5) (op := Op.move (Operand.tmp 0)) (dst := some 10) (g := none) rfl
      refine wpOp_lit ho (fun j b h => by cases h) ?_
      clear hops hdep ho
      replace h0 := hidH h0
      replace h1 := hidH h1
      replace h2 := hidH h2
      replace h3 := hidH h3
      replace h4 := hidH h4
      replace h6 := hidH h6
      replace h7 := hidH h7
      replace h8 := hidH h8
      replace h9 := hidH h9
      replace h10 := hidH h10
      replace h11 := hidH h11
      replace h12 := hidH h12
      replace h13 := hidH h13
      go_wp2
      exact (HJ.out _ _ _).2 ⟨_, _, _, _, _, _, _, _, _, _, _, _, _, _, rfl, hE, hO, hS, hR, h0.out, h1.out, h2.out, h3.out, h4.out, fun _ => rfl, h6.out, h7.out, h8.out, h9.out, h10.out, h11.out, h12.out, h13.out⟩
    | 6, _ =>
      obtain ⟨ty, ps, af, ho⟩ := op_lit hops (i := 6) (op := Op.nilCheck (Operand.tmp 10)) (dst := some 11) (g := none) rfl
      obtain rfl := h5 (hdep 5 (by simp))
      refine wpOp_lit ho (fun j b h => by cases h) ?_
      clear hops hdep ho
      replace h0 := hidH h0
      replace h1 := hidH h1
      replace h2 := hidH h2
      replace h3 := hidH h3
      replace h4 := hidH h4
      replace h5 := hidH h5
      replace h7 := hidH h7
      replace h8 := hidH h8
      replace h9 := hidH h9
      replace h10 := hidH h10
      replace h11 := hidH h11
      replace h12 := hidH h12
      replace h13 := hidH h13
      go_wp2
      exact (HJ.out _ _ _).2 ⟨_, _, _, _, _, _, _, _, _, _, _, _, _, _, rfl, hE, hO, hS, hR, h0.out, h1.out, h2.out, h3.out, h4.out, fun _ => rfl, fun _ => rfl, h7.out, h8.out, h9.out, h10.out, h11.out, h12.out, h13.out⟩
    | 7, _ =>
      obtain ⟨ty, ps, af, ho⟩ := op_lit hops (i := 7) (op := Op.fieldAddr 59 (Operand.tmp 11) 1) (dst := some 12) (g := none) rfl
      obtain rfl := h6 (hdep 6 (by simp))
      refine wpOp_lit ho (fun j b h => by cases h) ?_
      clear hops hdep ho
      replace h0 := hidH h0
      replace h1 := hidH h1
      replace h2 := hidH h2
      replace h3 := hidH h3
      replace h4 := hidH h4
      replace h5 := hidH h5
      replace h6 := hidH h6
      replace h8 := hidH h8
      replace h9 := hidH h9
      replace h10 := hidH h10
      replace h11 := hidH h11
      replace h12 := hidH h12
      replace h13 := hidH h13
      go_wp2
      exact (HJ.out _ _ _).2 ⟨_, _, _, _, _, _, _, _, _, _, _, _, _, _, rfl, hE, hO, hS, hR, h0.out, h1.out, h2.out, h3.out, h4.out, h5.out, fun _ => rfl, fun _ => rfl, h8.out, h9.out, h10.out, h11.out, h12.out, h13.out⟩
    | 8, _ =>
      obtain ⟨ty, ps, af, ho⟩ := op_lit hops (i := 8) (op := Op.load 57 (Operand.tmp 12)) (dst := some 13) (g := none) rfl
      obtain rfl := h7 (hdep 7 (by simp))
      refine wpOp_lit ho (fun j b h => by cases h) ?_
      clear hops hdep ho
      replace h0 := hidH h0
      replace h1 := hidH h1
      replace h2 := hidH h2
      replace h3 := hidH h3
      replace h4 := hidH h4
      replace h5 := hidH h5
      replace h6 := hidH h6
      replace h7 := hidH h7
      replace h9 := hidH h9
      replace h10 := hidH h10
      replace h11 := hidH h11
      replace h12 := hidH h12
      replace h13 := hidH h13
      have q := (hO.cell (p := ⟨g, o + 1, none⟩) hgl).trans q1
      go_wp2
      exact (HJ.out _ _ _).2 ⟨_, _, _, _, _, _, _, _, _, _, _, _, _, _, rfl, hE, hO, hS, hR, h0.out, h1.out, h2.out, h3.out, h4.out, h5.out, h6.out, fun _ => rfl, fun _ => rfl, h9.out, h10.out, h11.out, h12.out, h13.out⟩
    | 9, _ =>
      obtain ⟨ty, ps, af, ho⟩ := op_lit hops (i := 9) (op := Op.call { callee := Callee.builtin Builtin.len, args := #[(Operand.tmp 13)], argTypes := #[57] }) (dst := some 14) (g := none) rfl
      obtain rfl := h8 (hdep 8 (by simp))
      refine wpOp_lit ho (fun j b h => by cases h) ?_
      clear hops hdep ho
      replace h0 := hidH h0
      replace h1 := hidH h1
      replace h2 := hidH h2
      replace h3 := hidH h3
      replace h4 := hidH h4
      replace h5 := hidH h5
      replace h6 := hidH h6
      replace h7 := hidH h7
      replace h8 := hidH h8
      replace h10 := hidH h10
      replace h11 := hidH h11
      replace h12 := hidH h12
      replace h13 := hidH h13
      go_wp2
      exact (HJ.out _ _ _).2 ⟨_, _, _, _, _, _, _, _, _, _, _, _, _, _, rfl, hE, hO, hS, hR, h0.out, h1.out, h2.out, h3.out, h4.out, h5.out, h6.out, h7.out, fun _ => rfl, fun _ => rfl, h10.out, h11.out, h12.out, h13.out⟩
    | 10, _ =>
      obtain ⟨ty, ps, af, ho⟩ := op_lit hops (i := 10) (op := Op.convert 3 5 (Operand.tmp 14)) (dst := some 15) (g := none) rfl
      obtain rfl := h9 (hdep 9 (by simp))
      refine wpOp_lit ho (fun j b h => by cases h) ?_
      clear hops hdep ho
      replace h0 := hidH h0
      replace h1 := hidH h1
      replace h2 := hidH h2
      replace h3 := hidH h3
      replace h4 := hidH h4
      replace h5 := hidH h5
      replace h6 := hidH h6
      replace h7 := hidH h7
      replace h8 := hidH h8
      replace h9 := hidH h9
      replace h11 := hidH h11
      replace h12 := hidH h12
      replace h13 := hidH h13
      go_wp2
      exact (HJ.out _ _ _).2 ⟨_, _, _, _, _, _, _, _, _, _, _, _, _, _, rfl, hE, hO, hS, hR, h0.out, h1.out, h2.out, h3.out, h4.out, h5.out, h6.out, h7.out, h8.out, fun _ => rfl, fun _ => rfl, h11.out, h12.out, h13.out⟩
    | 11, _ =>
      obtain ⟨ty, ps, af, ho⟩ := op_lit hops (i := 11) (op := Op.buildSlice 22 1 #[(0, (Operand.tmp 15))]) (dst := some 16) (g := none) rfl
      obtain rfl := h10 (hdep 10 (by simp))
      refine wpOp_lit ho (fun j b h => by cases h) ?_
      clear hops hdep ho
      replace h0 := hidH h0
      replace h1 := hidH h1
      replace h2 := hidH h2
      replace h3 := hidH h3
      replace h4 := hidH h4
      replace h5 := hidH h5
      replace h6 := hidH h6
      replace h7 := hidH h7
      replace h8 := hidH h8
      replace h9 := hidH h9
      replace h10 := hidH h10
      replace h12 := hidH h12
      replace h13 := hidH h13
      have hb := bal (Below.refl W.heap.size W) (.cells #[.int .u8 (y.Ops.length : Int)] 5)
      go_wp2
      exact (HJ.out _ _ _).2 ⟨_, _, _, _, _, _, _, _, _, _, _, _, _, _, rfl, hE, btr hO hb, Nat.le_trans hS hb.size, hR.below hb, h0.out, h1.out, h2.out, h3.out, fun h h2 => own_below0 (h4.out h h2) hb, h5.out, h6.out, h7.out, h8.out, h9.out, fun _ => rfl, fun _ => fun _ => ⟨_, rfl, Blk.new _ _ _⟩, fun h => own_below0 (h12.out h) hb, fun h => own_below0 (h13.out h) hb⟩
    | 12, _ =>
      obtain ⟨ty, ps, af, ho⟩ := op_lit hops (i := 12) (op := Op.call { callee := Callee.builtin Builtin.append, args := #[(Operand.tmp 9), (Operand.tmp 16)], argTypes := #[22, 22] }) (dst := some 17) (g := none) rfl
      have o4 := hidH (h4 (hdep 4 (by simp)) hdn)
      obtain ⟨g2, rfl, q2⟩ := h11 (hdep 11 (by simp)) hdn
      refine wpOp_lit ho (fun j b h => by cases h) ?_
      clear hops hdep ho
      replace h0 := hidH h0
      replace h1 := hidH h1
      replace h2 := hidH h2
      replace h3 := hidH h3
      replace h4 := hidH h4
      replace h5 := hidH h5
      replace h6 := hidH h6
      replace h7 := hidH h7
      replace h8 := hidH h8
      replace h9 := hidH h9
      replace h10 := hidH h10
      replace h11 := hidH h11
      replace h13 := hidH h13
      have s2 : Bs W (some ⟨g2, 0, none⟩) [(y.Ops.length : Int)] := lit_bs1 q2
      have hsz := hS
      go_wp2_with (at_builtin; refine wpList_append_bs rfl _ _ rfl wq.heap.size _ _ _ rfl o4.out (some ⟨g2, 0, none⟩) [(y.Ops.length : Int)] 1 rfl s2 (by simp) hsz ?_)
      intro v2 w2 o2 hg
      have BB := hidH ((Below.refl wq.heap.size W).grown hg hsz (fun x hx => (o4.out.lt x hx).1))
      have O8 := hidH (show w2.ownsRow wq.heap.size 5 1 v2 5 ((pk y.Serial ++ [(y.Ops.length : Int)]).map (Value.int .u8)) by simpa [pk] using o2)
      clear o2 hg
      go_wp2
      exact (HJ.out _ _ _).2 ⟨_, _, _, _, _, _, _, _, _, _, _, _, _, _, rfl, fun _ => rfl, hO.trans (BB.out.mono hB), Nat.le_trans hS BB.out.size, (BB.out.block R hRl).trans hR, h0.out, h1.out, h2.out, h3.out, (fun _ h2 => by simp at h2), h5.out, h6.out, h7.out, h8.out, h9.out, h10.out, (fun _ h2 => by simp at h2), fun _ => O8.out, (fun h => by have h3 : dn 12 = true := hE h; rw [hdn] at h3; cases h3)⟩
    | 13, _ =>
      obtain ⟨ty, ps, af, ho⟩ := op_lit hops (i := 13) (op := Op.assign (Operand.tmp 17)) (dst := some 3) (g := none) rfl
      have hd12 := hidH (hdep 12 (by simp))
      obtain p12 := h12 (hdep 12 (by simp))
      refine wpOp_lit ho (fun j b h => by cases h) ?_
      clear hops hdep ho
      replace h0 := hidH h0
      replace h1 := hidH h1
      replace h2 := hidH h2
      replace h3 := hidH h3
      replace h4 := hidH h4
      replace h5 := hidH h5
      replace h6 := hidH h6
      replace h7 := hidH h7
      replace h8 := hidH h8
      replace h9 := hidH h9
      replace h10 := hidH h10
      replace h11 := hidH h11
      replace h12 := hidH h12
      have hb := Below.refl W.heap.size W
      go_wp2
      exact (HJ.out _ _ _).2 ⟨_, _, _, _, _, _, _, _, _, _, _, _, _, _, rfl, fun _ => hd12.out, btr hO hb, Nat.le_trans hS hb.size, hR.below hb, h0.out, h1.out, h2.out, h3.out, fun h h2 => own_below0 (h4.out h h2) hb, h5.out, h6.out, h7.out, h8.out, h9.out, h10.out, (fun h h2 => by obtain ⟨g2, q1, q2⟩ := h11.out h h2; exact ⟨g2, q1, q2.below hb⟩), fun _ => own_below0 p12 hb, fun _ => p12⟩
    | n + 14, h => omega
  case fin =>
    clear hops hdeps hback
    rintro dn ac W hJ hall
    obtain ⟨t5, t6, t7, t8, t9, t10, t11, t12, t13, t14, t15, t16, t17, t3, rfl, hE, hO, hS, hR, h0, h1, h2, h3, h4, h5, h6, h7, h8, h9, h10, h11, h12, h13⟩ := (HJ.out _ _ _).1 hJ
    exact fin _ _ _ _ _ _ _ _ _ _ _ _ _ _ W hO hS hR (h13 (hall 13 (by omega)))
set_option maxRecDepth 100000 in
set_option maxHeartbeats 1000000 in
theorem regQ5 {Q : Exit → Act → World → Prop} (x1 x2 x5 x6 x7 x8 x9 x10 x11 x12 x13 x14 x15 x16 x17 x18 x19 x20 x21 x22 x23 x24 x25 x26 u_27 u_28 u_29 u_30 u_31 u_32 u_33 u_34 u_35 u_36 u_37 u_38 u_39 u_40 u_41 u_42 u_43 u_44 u_45 u_46 u_47 x48 x49 bv : Value) (xs0 : List Value) (g o R b0 n0 j sb so : Nat) (kk aa : Int) (y : AsconfM) (c : Nat) (ww : World) (hk0 : 0 ≤ kk) (hk1 : kk ≤ 255) (ha0 : 0 ≤ aa) (ha1 : aa ≤ 255) (hn : n0 ≤ 1000) (hj : (j : Int) < y.Ops.length) (hj0 : (0 : Int) ≤ j) (q1 : ww.cell? ⟨g, o + 1, none⟩ = some (.slice (some ⟨sb, so, none⟩) y.Ops.length c)) (r0 : ww.cell? ⟨sb, so + j * 2, none⟩ = some (.int .i64 kk)) (r1 : ww.cell? ⟨sb, so + j * 2 + 1, none⟩ = some (.int .i64 aa)) (hgl : g < ww.heap.size) (hsl : sb < ww.heap.size) (hB : ww.heap.size ≤ b0) (hRl : R < b0) {ops : Array Oper}
    (hops : (ops.map fun o => (o.op, o.dst, o.guard)) = #[(Op.move (Operand.tmp 3), some 27, none), (Op.move (Operand.tmp 0), some 28, none), (Op.nilCheck (Operand.tmp 28), some 29, none), (Op.fieldAddr 59 (Operand.tmp 29) 1, some 30, none), (Op.load 57 (Operand.tmp 30), some 31, none), (Op.move (Operand.tmp 4), some 32, none), (Op.indexAddr 57 (Operand.tmp 31) (Operand.tmp 32), some 33, none), (Op.fieldAddr 70 (Operand.tmp 33) 0, some 34, none), (Op.load 2 (Operand.tmp 34), some 35, none), (Op.convert 2 5 (Operand.tmp 35), some 36, none), (Op.move (Operand.tmp 0), some 37, none), (Op.nilCheck (Operand.tmp 37), some 38, none), (Op.fieldAddr 59 (Operand.tmp 38) 1, some 39, none), (Op.load 57 (Operand.tmp 39), some 40, none), (Op.move (Operand.tmp 4), some 41, none), (Op.indexAddr 57 (Operand.tmp 40) (Operand.tmp 41), some 42, none), (Op.fieldAddr 70 (Operand.tmp 42) 1, some 43, none), (Op.load 2 (Operand.tmp 43), some 44, none), (Op.convert 2 5 (Operand.tmp 44), some 45, none), (Op.buildSlice 22 2 #[(0, (Operand.tmp 36)), (1, (Operand.tmp 45))], some 46, none), (Op.call { callee := Callee.builtin Builtin.append, args := #[(Operand.tmp 27), (Operand.tmp 46)], argTypes := #[22, 22] }, some 47, none), (Op.assign (Operand.tmp 47), some 3, none)])
    (hdeps : ((List.range 22).all fun i => ((fun i => [[], [], [1], [2], [3], [], [4, 5], [6], [7], [8], [], [10], [11], [12], [], [13, 14], [15], [16], [17], [9, 18], [0, 19], [20]].getD i []) i).all fun j => ((ops[i]?).map fun o => o.after.any fun e => Region.binds .any e && e.on == j).getD false) = true)
    (hback : ((List.range 22).all fun i => ((ops[i]?).map fun o => o.after.all fun e => decide (e.on < i)).getD false) = true)
    {a0 : Act} {w0 : World} (ha : a0 = { tmps := #[.pointer (some ⟨g, o, none⟩), x1, x2, bv, .int .i64 j, x5, x6, x7, x8, x9, x10, x11, x12, x13, x14, x15, x16, x17, x18, x19, x20, x21, x22, x23, x24, x25, x26, u_27, u_28, u_29, u_30, u_31, u_32, u_33, u_34, u_35, u_36, u_37, u_38, u_39, u_40, u_41, u_42, u_43, u_44, u_45, u_46, u_47, x48, x49], defers := [] }) (hE : false = true → false = true) (hE0 : false = true → false = true) (hE20 : false = true → false = true) (hO : Below ww.heap.size ww w0) (hS : b0 ≤ w0.heap.size) (hR : Blk w0 R 28 #[.int .i64 0, .int .i64 0, .slice none 0 0]) (hW0 : false = false → w0.ownsRow b0 5 1 bv n0 xs0)
    (fin : ∀ t27 t28 t29 t30 t31 t32 t33 t34 t35 t36 t37 t38 t39 t40 t41 t42 t43 t44 t45 t46 t47 t3 (W : World), (Below ww.heap.size ww W) → (b0 ≤ W.heap.size) → (Blk W R 28 #[.int .i64 0, .int .i64 0, .slice none 0 0]) → (W.ownsRow b0 5 1 t3 (n0 + 2) (xs0 ++ [.int .u8 kk, .int .u8 aa])) → Q .normal { tmps := #[.pointer (some ⟨g, o, none⟩), x1, x2, t3, .int .i64 j, x5, x6, x7, x8, x9, x10, x11, x12, x13, x14, x15, x16, x17, x18, x19, x20, x21, x22, x23, x24, x25, x26, t27, t28, t29, t30, t31, t32, t33, t34, t35, t36, t37, t38, t39, t40, t41, t42, t43, t44, t45, t46, t47, x48, x49], defers := [] } W) :
    wpAny Tryd.prog .any ops Q ops.size (Array.replicate ops.size false) a0 w0 := by
  have hn : ops.size = 22 := by have := congrArg Array.size hops; simpa using this
  obtain ⟨J, HJ⟩ : ∃ J : (Nat → Bool) → Act → World → Prop, ∀ dn ac W, J dn ac W ↔ (fun dn ac W => ∃ t27 t28 t29 t30 t31 t32 t33 t34 t35 t36 t37 t38 t39 t40 t41 t42 t43 t44 t45 t46 t47 t3, ac = { tmps := #[.pointer (some ⟨g, o, none⟩), x1, x2, t3, .int .i64 j, x5, x6, x7, x8, x9, x10, x11, x12, x13, x14, x15, x16, x17, x18, x19, x20, x21, x22, x23, x24, x25, x26, t27, t28, t29, t30, t31, t32, t33, t34, t35, t36, t37, t38, t39, t40, t41, t42, t43, t44, t45, t46, t47, x48, x49], defers := [] } ∧ (dn 21 = true → dn 20 = true) ∧ (dn 21 = true → dn 0 = true) ∧ (dn 20 = true → dn 0 = true) ∧ (Below ww.heap.size ww W) ∧ (b0 ≤ W.heap.size) ∧ (Blk W R 28 #[.int .i64 0, .int .i64 0, .slice none 0 0]) ∧ (dn 20 = false → W.ownsRow b0 5 1 bv n0 xs0) ∧ (dn 21 = false → t3 = bv) ∧ (dn 0 = true → t27 = bv) ∧ (dn 1 = true → t28 = .pointer (some ⟨g, o, none⟩)) ∧ (dn 2 = true → t29 = .pointer (some ⟨g, o, none⟩)) ∧ (dn 3 = true → t30 = .pointer (some ⟨g, o + 1, none⟩)) ∧ (dn 4 = true → t31 = .slice (some ⟨sb, so, none⟩) y.Ops.length c) ∧ (dn 5 = true → t32 = .int .i64 j) ∧ (dn 6 = true → t33 = .pointer (some ⟨sb, so + j * 2, none⟩)) ∧ (dn 7 = true → t34 = .pointer (some ⟨sb, so + j * 2, none⟩)) ∧ (dn 8 = true → t35 = .int .i64 kk) ∧ (dn 9 = true → t36 = .int .u8 kk) ∧ (dn 10 = true → t37 = .pointer (some ⟨g, o, none⟩)) ∧ (dn 11 = true → t38 = .pointer (some ⟨g, o, none⟩)) ∧ (dn 12 = true → t39 = .pointer (some ⟨g, o + 1, none⟩)) ∧ (dn 13 = true → t40 = .slice (some ⟨sb, so, none⟩) y.Ops.length c) ∧ (dn 14 = true → t41 = .int .i64 j) ∧ (dn 15 = true → t42 = .pointer (some ⟨sb, so + j * 2, none⟩)) ∧ (dn 16 = true → t43 = .pointer (some ⟨sb, so + j * 2 + 1, none⟩)) ∧ (dn 17 = true → t44 = .int .i64 aa) ∧ (dn 18 = true → t45 = .int .u8 aa) ∧ (dn 19 = true → dn 20 = false → ∃ g2 : Nat, t46 = .slice (some ⟨g2, 0, none⟩) 2 2 ∧ Blk W g2 5 #[.int .u8 kk, .int .u8 aa]) ∧ (dn 20 = true → W.ownsRow b0 5 1 t47 (n0 + 2) (xs0 ++ [.int .u8 kk, .int .u8 aa])) ∧ (dn 21 = true → W.ownsRow b0 5 1 t3 (n0 + 2) (xs0 ++ [.int .u8 kk, .int .u8 aa]))) dn ac W := ⟨_, fun _ _ _ => Iff.rfl⟩
  replace HJ := hidH HJ
  refine region_inv 22 (fun i => [[], [], [1], [2], [3], [], [4, 5], [6], [7], [8], [], [10], [11], [12], [], [13, 14], [15], [16], [17], [9, 18], [0, 19], [20]].getD i []) J hn hdeps hback ?start ?step ?fin
  case start => exact (HJ.out _ _ _).2 ⟨u_27, u_28, u_29, u_30, u_31, u_32, u_33, u_34, u_35, u_36, u_37, u_38, u_39, u_40, u_41, u_42, u_43, u_44, u_45, u_46, u_47, bv, ha, hE, hE0, hE20, hO, hS, hR, hW0, fun _ => rfl, fun h => by simp at h, fun h => by simp at h, fun h => by simp at h, fun h => by simp at h, fun h => by simp at h, fun h => by simp at h, fun h => by simp at h, fun h => by simp at h, fun h => by simp at h, fun h => by simp at h, fun h => by simp at h, fun h => by simp at h, fun h => by simp at h, fun h => by simp at h, fun h => by simp at h, fun h => by simp at h, fun h => by simp at h, fun h => by simp at h, fun h => by simp at h, fun h => by simp at h, fun h => by simp at h, fun h => by simp at h⟩
  all_goals clear ha hE hE0 hE20 hO hS hR hW0
  case step =>
    clear fin hdeps hback
    intro i hi dn ac W hJ hdn hdep
    obtain ⟨t27, t28, t29, t30, t31, t32, t33, t34, t35, t36, t37, t38, t39, t40, t41, t42, t43, t44, t45, t46, t47, t3, rfl, hE, hE0, hE20, hO, hS, hR, hW0, o21, h0, h1, h2, h3, h4, h5, h6, h7, h8, h9, h10, h11, h12, h13, h14, h15, h16, h17, h18, h19, h20, h21⟩ := (HJ.out _ _ _).1 hJ
    clear hJ
    match i, hi with
    | 0, _ =>
      obtain ⟨ty, ps, af, ho⟩ := op_lit hops (i := 0) (op := Op.move (Operand.tmp 3)) (dst := some 27) (g := none) rfl
      have z21 : dn 21 = false := by
              cases h : dn 21 with
              | false => rfl
              | true => have h3 : dn 0 = true := hE0 h; rw [hdn] at h3; cases h3
      obtain rfl := o21 z21
      refine wpOp_lit ho (fun j b h => by cases h) ?_
      clear hops hdep ho
      replace h1 := hidH h1
      replace h2 := hidH h2
      replace h3 := hidH h3
      replace h4 := hidH h4
      replace h5 := hidH h5
      replace h6 := hidH h6
      replace h7 := hidH h7
      replace h8 := hidH h8
      replace h9 := hidH h9
      replace h10 := hidH h10
      replace h11 := hidH h11
      replace h12 := hidH h12
      replace h13 := hidH h13
      replace h14 := hidH h14
      replace h15 := hidH h15
      replace h16 := hidH h16
      replace h17 := hidH h17
      replace h18 := hidH h18
      replace h19 := hidH h19
      replace h20 := hidH h20
      replace h21 := hidH h21
      replace o21 := hidH o21
      have hb := Below.refl W.heap.size W
      go_wp2
      exact (HJ.out _ _ _).2 ⟨_, _, _, _, _, _, _, _, _, _, _, _, _, _, _, _, _, _, _, _, _, _, rfl, hE, fun _ => rfl, fun _ => rfl, btr hO hb, Nat.le_trans hS hb.size, hR.below hb, fun h => own_below0 (hW0 h) hb, (fun _ => rfl), fun _ => rfl, h1.out, h2.out, h3.out, h4.out, h5.out, h6.out, h7.out, h8.out, h9.out, h10.out, h11.out, h12.out, h13.out, h14.out, h15.out, h16.out, h17.out, h18.out, (fun h h2 => by obtain ⟨g2, q1, q2⟩ := h19.out h h2; exact ⟨g2, q1, q2.below hb⟩), fun h => own_below0 (h20.out h) hb, fun h => own_below0 (h21.out h) hb⟩
    | 1, _ =>
      obtain ⟨ty, ps, af, ho⟩ := op_lit hops (i := 1) (op := Op.move (Operand.tmp 0)) (dst := some 28) (g := none) rfl
      refine wpOp_lit ho (fun j b h => by cases h) ?_
      clear hops hdep ho
      replace h0 := hidH h0
      replace h2 := hidH h2
      replace h3 := hidH h3
      replace h4 := hidH h4
      replace h5 := hidH h5
      replace h6 := hidH h6
      replace h7 := hidH h7
      replace h8 := hidH h8
      replace h9 := hidH h9
      replace h10 := hidH h10
      replace h11 := hidH h11
      replace h12 := hidH h12
      replace h13 := hidH h13
      replace h14 := hidH h14
      replace h15 := hidH h15
      replace h16 := hidH h16
      replace h17 := hidH h17
      replace h18 := hidH h18
      replace h19 := hidH h19
      replace h20 := hidH h20
      replace h21 := hidH h21
      replace o21 := hidH o21
      go_wp2
      exact (HJ.out _ _ _).2 ⟨_, _, _, _, _, _, _, _, _, _, _, _, _, _, _, _, _, _, _, _, _, _, rfl, hE, hE0, hE20, hO, hS, hR, hW0, o21.out, h0.out, fun _ => rfl, h2.out, h3.out, h4.out, h5.out, h6.out, h7.out, h8.out, h9.out, h10.out, h11.out, h12.out, h13.out, h14.out, h15.out, h16.out, h17.out, h18.out, h19.out, h20.out, h21.out⟩
    | 2, _ =>
      obtain ⟨ty, ps, af, ho⟩ := op_lit hops (i := 2) (op := Op.nilCheck (Operand.tmp 28)) (dst := some 29) (g := none) rfl
      obtain rfl := h1 (hdep 1 (by simp))
      refine wpOp_lit ho (fun j b h => by cases h) ?_
      clear hops hdep ho
      replace h0 := hidH h0
      replace h1 := hidH h1
      replace h3 := hidH h3
      replace h4 := hidH h4
      replace h5 := hidH h5
      replace h6 := hidH h6
      replace h7 := hidH h7
      replace h8 := hidH h8
      replace h9 := hidH h9
      replace h10 := hidH h10
      replace h11 := hidH h11
      replace h12 := hidH h12
      replace h13 := hidH h13
      replace h14 := hidH h14
      replace h15 := hidH h15
      replace h16 := hidH h16
      replace h17 := hidH h17
      replace h18 := hidH h18
      replace h19 := hidH h19
      replace h20 := hidH h20
      replace h21 := hidH h21
      replace o21 := hidH o21
      go_wp2
      exact (HJ.out _ _ _).2 ⟨_, _, _, _, _, _, _, _, _, _, _, _, _, _, _, _, _, _, _, _, _, _, rfl, hE, hE0, hE20, hO, hS, hR, hW0, o21.out, h0.out, fun _ => rfl, fun _ => rfl, h3.out, h4.out, h5.out, h6.out, h7.out, h8.out, h9.out, h10.out, h11.out, h12.out, h13.out, h14.out, h15.out, h16.out, h17.out, h18.out, h19.out, h20.out, h21.out⟩
    | 3, _ =>
      obtain ⟨ty, ps, af, ho⟩ := op_lit hops (i := 3) (op := Op.fieldAddr 59 (Operand.tmp 29) 1) (dst := some 30) (g := none) rfl
      obtain rfl := h2 (hdep 2 (by simp))
      refine wpOp_lit ho (fun j b h => by cases h) ?_
      clear hops hdep ho
      replace h0 := hidH h0
      replace h1 := hidH h1
      replace h2 := hidH h2
      replace h4 := hidH h4
      replace h5 := hidH h5
      replace h6 := hidH h6
      replace h7 := hidH h7
      replace h8 := hidH h8
      replace h9 := hidH h9
      replace h10 := hidH h10
      replace h11 := hidH h11
      replace h12 := hidH h12
      replace h13 := hidH h13
      replace h14 := hidH h14
      replace h15 := hidH h15
      replace h16 := hidH h16
      replace h17 := hidH h17
      replace h18 := hidH h18
      replace h19 := hidH h19
      replace h20 := hidH h20
      replace h21 := hidH h21
      replace o21 := hidH o21
      go_wp2
      exact (HJ.out _ _ _).2 ⟨_, _, _, _, _, _, _, _, _, _, _, _, _, _, _, _, _, _, _, _, _, _, rfl, hE, hE0, hE20, hO, hS, hR, hW0, o21.out, h0.out, h1.out, fun _ => rfl, fun _ => rfl, h4.out, h5.out, h6.out, h7.out, h8.out, h9.out, h10.out, h11.out, h12.out, h13.out, h14.out, h15.out, h16.out, h17.out, h18.out, h19.out, h20.out, h21.out⟩
    | 4, _ =>
      obtain ⟨ty, ps, af, ho⟩ := op_lit hops (i := 4) (op := Op.load 57 (Operand.tmp 30)) (dst := some 31) (g := none) rfl
      obtain rfl := h3 (hdep 3 (by simp))
      refine wpOp_lit ho (fun j b h => by cases h) ?_
      clear hops hdep ho
      replace h0 := hidH h0
      replace h1 := hidH h1
      replace h2 := hidH h2
      replace h3 := hidH h3
      replace h5 := hidH h5
      replace h6 := hidH h6
      replace h7 := hidH h7
      replace h8 := hidH h8
      replace h9 := hidH h9
      replace h10 := hidH h10
      replace h11 := hidH h11
      replace h12 := hidH h12
      replace h13 := hidH h13
      replace h14 := hidH h14
      replace h15 := hidH h15
      replace h16 := hidH h16
      replace h17 := hidH h17
      replace h18 := hidH h18
      replace h19 := hidH h19
      replace h20 := hidH h20
      replace h21 := hidH h21
      replace o21 := hidH o21
      have q := (hO.cell (p := ⟨g, o + 1, none⟩) hgl).trans q1
      go_wp2
      exact (HJ.out _ _ _).2 ⟨_, _, _, _, _, _, _, _, _, _, _, _, _, _, _, _, _, _, _, _, _, _, rfl, hE, hE0, hE20, hO, hS, hR, hW0, o21.out, h0.out, h1.out, h2.out, fun _ => rfl, fun _ => rfl, h5.out, h6.out, h7.out, h8.out, h9.out, h10.out, h11.out, h12.out, h13.out, h14.out, h15.out, h16.out, h17.out, h18.out, h19.out, h20.out, h21.out⟩
    | 5, _ =>
      obtain ⟨ty, ps, af, ho⟩ := op_lit hops (i := 5) (op := Op.move (Operand.tmp 4)) (dst := some 32) (g := none) rfl
      refine wpOp_lit ho (fun j b h => by cases h) ?_
      clear hops hdep ho
      replace h0 := hidH h0
      replace h1 := hidH h1
      replace h2 := hidH h2
      replace h3 := hidH h3
      replace h4 := hidH h4
      replace h6 := hidH h6
      replace h7 := hidH h7
      replace h8 := hidH h8
      replace h9 := hidH h9
      replace h10 := hidH h10
      replace h11 := hidH h11
      replace h12 := hidH h12
      replace h13 := hidH h13
      replace h14 := hidH h14
      replace h15 := hidH h15
      replace h16 := hidH h16
      replace h17 := hidH h17
      replace h18 := hidH h18
      replace h19 := hidH h19
      replace h20 := hidH h20
      replace h21 := hidH h21
      replace o21 := hidH o21
      go_wp2
      exact (HJ.out _ _ _).2 ⟨_, _, _, _, _, _, _, _, _, _, _, _, _, _, _, _, _, _, _, _, _, _, rfl, hE, hE0, hE20, hO, hS, hR, hW0, o21.out, h0.out, h1.out, h2.out, h3.out, h4.out, fun _ => rfl, h6.out, h7.out, h8.out, h9.out, h10.out, h11.out, h12.out, h13.out, h14.out, h15.out, h16.out, h17.out, h18.out, h19.out, h20.out, h21.out⟩
    | 6, _ =>
      obtain ⟨ty, ps, af, ho⟩ := op_lit hops (i := 6) (op := Op.indexAddr 57 (Operand.tmp 31) (Operand.tmp 32)) (dst := some 33) (g := none) rfl
      obtain rfl := h4 (hdep 4 (by simp))
      obtain rfl := h5 (hdep 5 (by simp))
      refine wpOp_lit ho (fun j b h => by cases h) ?_
      clear hops hdep ho
      replace h0 := hidH h0
      replace h1 := hidH h1
      replace h2 := hidH h2
      replace h3 := hidH h3
      replace h4 := hidH h4
      replace h5 := hidH h5
      replace h7 := hidH h7
      replace h8 := hidH h8
      replace h9 := hidH h9
      replace h10 := hidH h10
      replace h11 := hidH h11
      replace h12 := hidH h12
      replace h13 := hidH h13
      replace h14 := hidH h14
      replace h15 := hidH h15
      replace h16 := hidH h16
      replace h17 := hidH h17
      replace h18 := hidH h18
      replace h19 := hidH h19
      replace h20 := hidH h20
      replace h21 := hidH h21
      replace o21 := hidH o21
      go_wp2
      exact (HJ.out _ _ _).2 ⟨_, _, _, _, _, _, _, _, _, _, _, _, _, _, _, _, _, _, _, _, _, _, rfl, hE, hE0, hE20, hO, hS, hR, hW0, o21.out, h0.out, h1.out, h2.out, h3.out, fun _ => rfl, fun _ => rfl, fun _ => rfl, h7.out, h8.out, h9.out, h10.out, h11.out, h12.out, h13.out, h14.out, h15.out, h16.out, h17.out, h18.out, h19.out, h20.out, h21.out⟩
    | 7, _ =>
      obtain ⟨ty, ps, af, ho⟩ := op_lit hops (i := 7) (op := Op.fieldAddr 70 (Operand.tmp 33) 0) (dst := some 34) (g := none) rfl
      obtain rfl := h6 (hdep 6 (by simp))
      refine wpOp_lit ho (fun j b h => by cases h) ?_
      clear hops hdep ho
      replace h0 := hidH h0
      replace h1 := hidH h1
      replace h2 := hidH h2
      replace h3 := hidH h3
      replace h4 := hidH h4
      replace h5 := hidH h5
      replace h6 := hidH h6
      replace h8 := hidH h8
      replace h9 := hidH h9
      replace h10 := hidH h10
      replace h11 := hidH h11
      replace h12 := hidH h12
      replace h13 := hidH h13
      replace h14 := hidH h14
      replace h15 := hidH h15
      replace h16 := hidH h16
      replace h17 := hidH h17
      replace h18 := hidH h18
      replace h19 := hidH h19
      replace h20 := hidH h20
      replace h21 := hidH h21
      replace o21 := hidH o21
      go_wp2
      exact (HJ.out _ _ _).2 ⟨_, _, _, _, _, _, _, _, _, _, _, _, _, _, _, _, _, _, _, _, _, _, rfl, hE, hE0, hE20, hO, hS, hR, hW0, o21.out, h0.out, h1.out, h2.out, h3.out, h4.out, h5.out, fun _ => rfl, fun _ => rfl, h8.out, h9.out, h10.out, h11.out, h12.out, h13.out, h14.out, h15.out, h16.out, h17.out, h18.out, h19.out, h20.out, h21.out⟩
    | 8, _ =>
      obtain ⟨ty, ps, af, ho⟩ := op_lit hops (i := 8) (op := Op.load 2 (Operand.tmp 34)) (dst := some 35) (g := none) rfl
      obtain rfl := h7 (hdep 7 (by simp))
      refine wpOp_lit ho (fun j b h => by cases h) ?_
      clear hops hdep ho
      replace h0 := hidH h0
      replace h1 := hidH h1
      replace h2 := hidH h2
      replace h3 := hidH h3
      replace h4 := hidH h4
      replace h5 := hidH h5
      replace h6 := hidH h6
      replace h7 := hidH h7
      replace h9 := hidH h9
      replace h10 := hidH h10
      replace h11 := hidH h11
      replace h12 := hidH h12
      replace h13 := hidH h13
      replace h14 := hidH h14
      replace h15 := hidH h15
      replace h16 := hidH h16
      replace h17 := hidH h17
      replace h18 := hidH h18
      replace h19 := hidH h19
      replace h20 := hidH h20
      replace h21 := hidH h21
      replace o21 := hidH o21
      have q := (hO.cell (p := ⟨sb, so + j * 2, none⟩) hsl).trans r0
      go_wp2
      exact (HJ.out _ _ _).2 ⟨_, _, _, _, _, _, _, _, _, _, _, _, _, _, _, _, _, _, _, _, _, _, rfl, hE, hE0, hE20, hO, hS, hR, hW0, o21.out, h0.out, h1.out, h2.out, h3.out, h4.out, h5.out, h6.out, fun _ => rfl, fun _ => rfl, h9.out, h10.out, h11.out, h12.out, h13.out, h14.out, h15.out, h16.out, h17.out, h18.out, h19.out, h20.out, h21.out⟩
    | 9, _ =>
      obtain ⟨ty, ps, af, ho⟩ := op_lit hops (i := 9) (op := Op.convert 2 5 (Operand.tmp 35)) (dst := some 36) (g := none) rfl
      obtain rfl := h8 (hdep 8 (by simp))
      refine wpOp_lit ho (fun j b h => by cases h) ?_
      clear hops hdep ho
      replace h0 := hidH h0
      replace h1 := hidH h1
      replace h2 := hidH h2
      replace h3 := hidH h3
      replace h4 := hidH h4
      replace h5 := hidH h5
      replace h6 := hidH h6
      replace h7 := hidH h7
      replace h8 := hidH h8
      replace h10 := hidH h10
      replace h11 := hidH h11
      replace h12 := hidH h12
      replace h13 := hidH h13
      replace h14 := hidH h14
      replace h15 := hidH h15
      replace h16 := hidH h16
      replace h17 := hidH h17
      replace h18 := hidH h18
      replace h19 := hidH h19
      replace h20 := hidH h20
      replace h21 := hidH h21
      replace o21 := hidH o21
      go_wp2
      exact (HJ.out _ _ _).2 ⟨_, _, _, _, _, _, _, _, _, _, _, _, _, _, _, _, _, _, _, _, _, _, rfl, hE, hE0, hE20, hO, hS, hR, hW0, o21.out, h0.out, h1.out, h2.out, h3.out, h4.out, h5.out, h6.out, h7.out, fun _ => rfl, fun _ => rfl, h10.out, h11.out, h12.out, h13.out, h14.out, h15.out, h16.out, h17.out, h18.out, h19.out, h20.out, h21.out⟩
    | 10, _ =>
      obtain ⟨ty, ps, af, ho⟩ := op_lit hops (i := 10) (op := Op.move (Operand.tmp 0)) (dst := some 37) (g := none) rfl
      refine wpOp_lit ho (fun j b h => by cases h) ?_
      clear hops hdep ho
      replace h0 := hidH h0
      replace h1 := hidH h1
      replace h2 := hidH h2
      replace h3 := hidH h3
      replace h4 := hidH h4
      replace h5 := hidH h5
      replace h6 := hidH h6
      replace h7 := hidH h7
      replace h8 := hidH h8
      replace h9 := hidH h9
      replace h11 := hidH h11
      replace h12 := hidH h12
      replace h13 := hidH h13
      replace h14 := hidH h14
      replace h15 := hidH h15
      replace h16 := hidH h16
      replace h17 := hidH h17
      replace h18 := hidH h18
      replace h19 := hidH h19
      replace h20 := hidH h20
      replace h21 := hidH h21
      replace o21 := hidH o21
      go_wp2
      exact (HJ.out _ _ _).2 ⟨_, _, _, _, _, _, _, _, _, _, _, _, _, _, _, _, _, _, _, _, _, _, rfl, hE, hE0, hE20, hO, hS, hR, hW0, o21.out, h0.out, h1.out, h2.out, h3.out, h4.out, h5.out, h6.out, h7.out, h8.out, h9.out, fun _ => rfl, h11.out, h12.out, h13.out, h14.out, h15.out, h16.out, h17.out, h18.out, h19.out, h20.out, h21.out⟩
    | 11, _ =>
      obtain ⟨ty, ps, af, ho⟩ := op_lit hops (i := 11) (op := Op.nilCheck (Operand.tmp 37)) (dst := some 38) (g := none) rfl
      obtain rfl := h10 (hdep 10 (by simp))
      refine wpOp_lit ho (fun j b h => by cases h) ?_
      clear hops hdep ho
      replace h0 := hidH h0
      replace h1 := hidH h1
      replace h2 := hidH h2
      replace h3 := hidH h3
      replace h4 := hidH h4
      replace h5 := hidH h5
      replace h6 := hidH h6
      replace h7 := hidH h7
      replace h8 := hidH h8
      replace h9 := hidH h9
      replace h10 := hidH h10
      replace h12 := hidH h12
      replace h13 := hidH h13
      replace h14 := hidH h14
      replace h15 := hidH h15
      replace h16 := hidH h16
      replace h17 := hidH h17
      replace h18 := hidH h18
      replace h19 := hidH h19
      replace h20 := hidH h20
      replace h21 := hidH h21
      replace o21 := hidH o21
      go_wp2
      exact (HJ.out _ _ _).2 ⟨_, _, _, _, _, _, _, _, _, _, _, _, _, _, _, _, _, _, _, _, _, _, rfl, hE, hE0, hE20, hO, hS, hR, hW0, o21.out, h0.out, h1.out, h2.out, h3.out, h4.out, h5.out, h6.out, h7.out, h8.out, h9.out, fun _ => rfl, fun _ => rfl, h12.out, h13.out, h14.out, h15.out, h16.out, h17.out, h18.out, h19.out, h20.out, h21.out⟩
    | 12, _ =>
      obtain ⟨ty, ps, af, ho⟩ := op_lit hops (i := 12) (op := Op.fieldAddr 59 (Operand.tmp 38) 1) (dst := some 39) (g := none) rfl
      obtain rfl := h11 (hdep 11 (by simp))
      refine wpOp_lit ho (fun j b h => by cases h) ?_
      clear hops hdep ho
      replace h0 := hidH h0
      replace h1 := hidH h1
      replace h2 := hidH h2
      replace h3 := hidH h3
      replace h4 := hidH h4
      replace h5 := hidH h5
      replace h6 := hidH h6
      replace h7 := hidH h7
      replace h8 := hidH h8
      replace h9 := hidH h9
      replace h10 := hidH h10
      replace h11 := hidH h11
      replace h13 := hidH h13
      replace h14 := hidH h14
      replace h15 := hidH h15
      replace h16 := hidH h16
      replace h17 := hidH h17
      replace h18 := hidH h18
      replace h19 := hidH h19
      replace h20 := hidH h20
      replace h21 := hidH h21
      replace o21 := hidH o21
      go_wp2
      exact (HJ.out _ _ _).2 ⟨_, _, _, _, _, _, _, _, _, _, _, _, _, _, _, _, _, _, _, _, _, _, rfl, hE, hE0, hE20, hO, hS, hR, hW0, o21.out, h0.out, h1.out, h2.out, h3.out, h4.out, h5.out, h6.out, h7.out, h8.out, h9.out, h10.out, fun _ => rfl, fun _ => rfl, h13.out, h14.out, h15.out, h16.out, h17.out, h18.out, h19.out, h20.out, h21.out⟩
    | 13, _ =>
      obtain ⟨ty, ps, af, ho⟩ := op_lit hops (i := 13) (op := Op.load 57 (Operand.tmp 39)) (dst := some 40) (g := none) rfl
      obtain rfl := h12 (hdep 12 (by simp))
      refine wpOp_lit ho (fun j b h => by cases h) ?_
      clear hops hdep ho
      replace h0 := hidH h0
      replace h1 := hidH h1
      replace h2 := hidH h2
      replace h3 := hidH h3
      replace h4 := hidH h4
      replace h5 := hidH h5
      replace h6 := hidH h6
      replace h7 := hidH h7
      replace h8 := hidH h8
      replace h9 := hidH h9
      replace h10 := hidH h10
      replace h11 := hidH h11
      replace h12 := hidH h12
      replace h14 := hidH h14
      replace h15 := hidH h15
      replace h16 := hidH h16
      replace h17 := hidH h17
      replace h18 := hidH h18
      replace h19 := hidH h19
      replace h20 := hidH h20
      replace h21 := hidH h21
      replace o21 := hidH o21
      have q := (hO.cell (p := ⟨g, o + 1, none⟩) hgl).trans q1
      go_wp2
      exact (HJ.out _ _ _).2 ⟨_, _, _, _, _, _, _, _, _, _, _, _, _, _, _, _, _, _, _, _, _, _, rfl, hE, hE0, hE20, hO, hS, hR, hW0, o21.out, h0.out, h1.out, h2.out, h3.out, h4.out, h5.out, h6.out, h7.out, h8.out, h9.out, h10.out, h11.out, fun _ => rfl, fun _ => rfl, h14.out, h15.out, h16.out, h17.out, h18.out, h19.out, h20.out, h21.out⟩
    | 14, _ =>
      obtain ⟨ty, ps, af, ho⟩ := op_lit hops (i := 14) (op := Op.move (Operand.tmp 4)) (dst := some 41) (g := none) rfl
      refine wpOp_lit ho (fun j b h => by cases h) ?_
      clear hops hdep ho
      replace h0 := hidH h0
      replace h1 := hidH h1
      replace h2 := hidH h2
      replace h3 := hidH h3
      replace h4 := hidH h4
      replace h5 := hidH h5
      replace h6 := hidH h6
      replace h7 := hidH h7
      replace h8 := hidH h8
      replace h9 := hidH h9
      replace h10 := hidH h10
      replace h11 := hidH h11
      replace h12 := hidH h12
      replace h13 := hidH h13
      replace h15 := hidH h15
      replace h16 := hidH h16
      replace h17 := hidH h17
      replace h18 := hidH h18
      replace h19 := hidH h19
      replace h20 := hidH h20
      replace h21 := hidH h21
      replace o21 := hidH o21
      go_wp2
      exact (HJ.out _ _ _).2 ⟨_, _, _, _, _, _, _, _, _, _, _, _, _, _, _, _, _, _, _, _, _, _, rfl, hE, hE0, hE20, hO, hS, hR, hW0, o21.out, h0.out, h1.out, h2.out, h3.out, h4.out, h5.out, h6.out, h7.out, h8.out, h9.out, h10.out, h11.out, h12.out, h13.out, fun _ => rfl, h15.out, h16.out, h17.out, h18.out, h19.out, h20.out, h21.out⟩
    | 15, _ =>
      obtain ⟨ty, ps, af, ho⟩ := op_lit hops (i := 15) (op := Op.indexAddr 57 (Operand.tmp 40) (Operand.tmp 41)) (dst := some 42) (g := none) rfl
      obtain rfl := h13 (hdep 13 (by simp))
      obtain rfl := h14 (hdep 14 (by simp))
      refine wpOp_lit ho (fun j b h => by cases h) ?_
      clear hops hdep ho
      replace h0 := hidH h0
      replace h1 := hidH h1
      replace h2 := hidH h2
      replace h3 := hidH h3
      replace h4 := hidH h4
      replace h5 := hidH h5
      replace h6 := hidH h6
      replace h7 := hidH h7
      replace h8 := hidH h8
      replace h9 := hidH h9
      replace h10 := hidH h10
      replace h11 := hidH h11
      replace h12 := hidH h12
      replace h13 := hidH h13
      replace h14 := hidH h14
      replace h16 := hidH h16
      replace h17 := hidH h17
      replace h18 := hidH h18
      replace h19 := hidH h19
      replace h20 := hidH h20
      replace h21 := hidH h21
      replace o21 := hidH o21
      go_wp2
      exact (HJ.out _ _ _).2 ⟨_, _, _, _, _, _, _, _, _, _, _, _, _, _, _, _, _, _, _, _, _, _, rfl, hE, hE0, hE20, hO, hS, hR, hW0, o21.out, h0.out, h1.out, h2.out, h3.out, h4.out, h5.out, h6.out, h7.out, h8.out, h9.out, h10.out, h11.out, h12.out, fun _ => rfl, fun _ => rfl, fun _ => rfl, h16.out, h17.out, h18.out, h19.out, h20.out, h21.out⟩
    | 16, _ =>
      obtain ⟨ty, ps, af, ho⟩ := op_lit hops (i := 16) (op := Op.fieldAddr 70 (Operand.tmp 42) 1) (dst := some 43) (g := none) rfl
      obtain rfl := h15 (hdep 15 (by simp))
      refine wpOp_lit ho (fun j b h => by cases h) ?_
      clear hops hdep ho
      replace h0 := hidH h0
      replace h1 := hidH h1
      replace h2 := hidH h2
      replace h3 := hidH h3
      replace h4 := hidH h4
      replace h5 := hidH h5
      replace h6 := hidH h6
      replace h7 := hidH h7
      replace h8 := hidH h8
      replace h9 := hidH h9
      replace h10 := hidH h10
      replace h11 := hidH h11
      replace h12 := hidH h12
      replace h13 := hidH h13
      replace h14 := hidH h14
      replace h15 := hidH h15
      replace h17 := hidH h17
      replace h18 := hidH h18
      replace h19 := hidH h19
      replace h20 := hidH h20
      replace h21 := hidH h21
      replace o21 := hidH o21
      go_wp2
      exact (HJ.out _ _ _).2 ⟨_, _, _, _, _, _, _, _, _, _, _, _, _, _, _, _, _, _, _, _, _, _, rfl, hE, hE0, hE20, hO, hS, hR, hW0, o21.out, h0.out, h1.out, h2.out, h3.out, h4.out, h5.out, h6.out, h7.out, h8.out, h9.out, h10.out, h11.out, h12.out, h13.out, h14.out, fun _ => rfl, fun _ => rfl, h17.out, h18.out, h19.out, h20.out, h21.out⟩
    | 17, _ =>
      obtain ⟨ty, ps, af, ho⟩ := op_lit hops (i := 17) (op := Op.load 2 (Operand.tmp 43)) (dst := some 44) (g := none) rfl
      obtain rfl := h16 (hdep 16 (by simp))
      refine wpOp_lit ho (fun j b h => by cases h) ?_
      clear hops hdep ho
      replace h0 := hidH h0
      replace h1 := hidH h1
      replace h2 := hidH h2
      replace h3 := hidH h3
      replace h4 := hidH h4
      replace h5 := hidH h5
      replace h6 := hidH h6
      replace h7 := hidH h7
      replace h8 := hidH h8
      replace h9 := hidH h9
      replace h10 := hidH h10
      replace h11 := hidH h11
      replace h12 := hidH h12
      replace h13 := hidH h13
      replace h14 := hidH h14
      replace h15 := hidH h15
      replace h16 := hidH h16
      replace h18 := hidH h18
      replace h19 := hidH h19
      replace h20 := hidH h20
      replace h21 := hidH h21
      replace o21 := hidH o21
      have q := (hO.cell (p := ⟨sb, so + j * 2 + 1, none⟩) hsl).trans r1
      go_wp2
      exact (HJ.out _ _ _).2 ⟨_, _, _, _, _, _, _, _, _, _, _, _, _, _, _, _, _, _, _, _, _, _, rfl, hE, hE0, hE20, hO, hS, hR, hW0, o21.out, h0.out, h1.out, h2.out, h3.out, h4.out, h5.out, h6.out, h7.out, h8.out, h9.out, h10.out, h11.out, h12.out, h13.out, h14.out, h15.out, fun _ => rfl, fun _ => rfl, h18.out, h19.out, h20.out, h21.out⟩
    | 18, _ =>
      obtain ⟨ty, ps, af, ho⟩ := op_lit hops (i := 18) (op := Op.convert 2 5 (Operand.tmp 44)) (dst := some 45) (g := none) rfl
      obtain rfl := h17 (hdep 17 (by simp))
      refine wpOp_lit ho (fun j b h => by cases h) ?_
      clear hops hdep ho
      replace h0 := hidH h0
      replace h1 := hidH h1
      replace h2 := hidH h2
      replace h3 := hidH h3
      replace h4 := hidH h4
      replace h5 := hidH h5
      replace h6 := hidH h6
      replace h7 := hidH h7
      replace h8 := hidH h8
      replace h9 := hidH h9
      replace h10 := hidH h10
      replace h11 := hidH h11
      replace h12 := hidH h12
      replace h13 := hidH h13
      replace h14 := hidH h14
      replace h15 := hidH h15
      replace h16 := hidH h16
      replace h17 := hidH h17
      replace h19 := hidH h19
      replace h20 := hidH h20
      replace h21 := hidH h21
      replace o21 := hidH o21
      go_wp2
      exact (HJ.out _ _ _).2 ⟨_, _, _, _, _, _, _, _, _, _, _, _, _, _, _, _, _, _, _, _, _, _, rfl, hE, hE0, hE20, hO, hS, hR, hW0, o21.out, h0.out, h1.out, h2.out, h3.out, h4.out, h5.out, h6.out, h7.out, h8.out, h9.out, h10.out, h11.out, h12.out, h13.out, h14.out, h15.out, h16.out, fun _ => rfl, fun _ => rfl, h19.out, h20.out, h21.out⟩
    | 19, _ =>
      obtain ⟨ty, ps, af, ho⟩ := op_lit hops (i := 19) (op := Op.buildSlice 22 2 #[(0, (Operand.tmp 36)), (1, (Operand.tmp 45))]) (dst := some 46) (g := none) rfl
      obtain rfl := h9 (hdep 9 (by simp))
      obtain rfl := h18 (hdep 18 (by simp))
      refine wpOp_lit ho (fun j b h => by cases h) ?_
      clear hops hdep ho
      replace h0 := hidH h0
      replace h1 := hidH h1
      replace h2 := hidH h2
      replace h3 := hidH h3
      replace h4 := hidH h4
      replace h5 := hidH h5
      replace h6 := hidH h6
      replace h7 := hidH h7
      replace h8 := hidH h8
      replace h9 := hidH h9
      replace h10 := hidH h10
      replace h11 := hidH h11
      replace h12 := hidH h12
      replace h13 := hidH h13
      replace h14 := hidH h14
      replace h15 := hidH h15
      replace h16 := hidH h16
      replace h17 := hidH h17
      replace h18 := hidH h18
      replace h20 := hidH h20
      replace h21 := hidH h21
      replace o21 := hidH o21
      have hb := bal (Below.refl W.heap.size W) (.cells #[.int .u8 kk, .int .u8 aa] 5)
      go_wp2
      exact (HJ.out _ _ _).2 ⟨_, _, _, _, _, _, _, _, _, _, _, _, _, _, _, _, _, _, _, _, _, _, rfl, hE, hE0, hE20, btr hO hb, Nat.le_trans hS hb.size, hR.below hb, fun h => own_below0 (hW0 h) hb, o21.out, h0.out, h1.out, h2.out, h3.out, h4.out, h5.out, h6.out, h7.out, h8.out, fun _ => rfl, h10.out, h11.out, h12.out, h13.out, h14.out, h15.out, h16.out, h17.out, fun _ => rfl, fun _ => fun _ => ⟨_, rfl, Blk.new _ _ _⟩, fun h => own_below0 (h20.out h) hb, fun h => own_below0 (h21.out h) hb⟩
    | 20, _ =>
      obtain ⟨ty, ps, af, ho⟩ := op_lit hops (i := 20) (op := Op.call { callee := Callee.builtin Builtin.append, args := #[(Operand.tmp 27), (Operand.tmp 46)], argTypes := #[22, 22] }) (dst := some 47) (g := none) rfl
      have ow := hidH (hW0 hdn)
      have hd0 := hidH (hdep 0 (by simp))
      obtain ⟨g2, rfl, q2⟩ := h19 (hdep 19 (by simp)) hdn
      obtain rfl := h0 (hdep 0 (by simp))
      refine wpOp_lit ho (fun j b h => by cases h) ?_
      clear hops hdep ho
      replace h0 := hidH h0
      replace h1 := hidH h1
      replace h2 := hidH h2
      replace h3 := hidH h3
      replace h4 := hidH h4
      replace h5 := hidH h5
      replace h6 := hidH h6
      replace h7 := hidH h7
      replace h8 := hidH h8
      replace h9 := hidH h9
      replace h10 := hidH h10
      replace h11 := hidH h11
      replace h12 := hidH h12
      replace h13 := hidH h13
      replace h14 := hidH h14
      replace h15 := hidH h15
      replace h16 := hidH h16
      replace h17 := hidH h17
      replace h18 := hidH h18
      replace h19 := hidH h19
      replace h21 := hidH h21
      replace o21 := hidH o21
      have s2 : Bs W (some ⟨g2, 0, none⟩) [kk, aa] := lit_bs2 q2
      have hsz := hS
      have hn0 := hidH hn
      go_wp2_with (at_builtin; refine wpList_append_bs rfl _ _ rfl b0 _ _ _ rfl ow.out (some ⟨g2, 0, none⟩) [kk, aa] 2 rfl s2 (by have := hn0.out; simp; omega) hsz ?_)
      intro v2 w2 o2 hg
      have BB := hidH ((Below.refl b0 W).grown hg hsz (fun x hx => (ow.out.lt x hx).1))
      have O8 := hidH (show w2.ownsRow b0 5 1 v2 (n0 + 2) (xs0 ++ [.int .u8 kk, .int .u8 aa]) by simpa using o2)
      clear o2 hg
      go_wp2
      exact (HJ.out _ _ _).2 ⟨_, _, _, _, _, _, _, _, _, _, _, _, _, _, _, _, _, _, _, _, _, _, rfl, fun _ => rfl, hE0, fun _ => hd0.out, hO.trans (BB.out.mono hB), Nat.le_trans hS BB.out.size, (BB.out.block R hRl).trans hR, (fun h => by simp at h), o21.out, fun _ => rfl, h1.out, h2.out, h3.out, h4.out, h5.out, h6.out, h7.out, h8.out, h9.out, h10.out, h11.out, h12.out, h13.out, h14.out, h15.out, h16.out, h17.out, h18.out, (fun _ h2 => by simp at h2), fun _ => O8.out, (fun h => by have h3 : dn 20 = true := hE h; rw [hdn] at h3; cases h3)⟩
    | 21, _ =>
      obtain ⟨ty, ps, af, ho⟩ := op_lit hops (i := 21) (op := Op.assign (Operand.tmp 47)) (dst := some 3) (g := none) rfl
      have hd20 := hidH (hdep 20 (by simp))
      obtain p20 := h20 (hdep 20 (by simp))
      obtain rfl := o21 hdn
      refine wpOp_lit ho (fun j b h => by cases h) ?_
      clear hops hdep ho
      replace h0 := hidH h0
      replace h1 := hidH h1
      replace h2 := hidH h2
      replace h3 := hidH h3
      replace h4 := hidH h4
      replace h5 := hidH h5
      replace h6 := hidH h6
      replace h7 := hidH h7
      replace h8 := hidH h8
      replace h9 := hidH h9
      replace h10 := hidH h10
      replace h11 := hidH h11
      replace h12 := hidH h12
      replace h13 := hidH h13
      replace h14 := hidH h14
      replace h15 := hidH h15
      replace h16 := hidH h16
      replace h17 := hidH h17
      replace h18 := hidH h18
      replace h19 := hidH h19
      replace h20 := hidH h20
      have hb := Below.refl W.heap.size W
      go_wp2
      exact (HJ.out _ _ _).2 ⟨_, _, _, _, _, _, _, _, _, _, _, _, _, _, _, _, _, _, _, _, _, _, rfl, fun _ => hd20.out, fun _ => hE20 hd20.out, hE20, btr hO hb, Nat.le_trans hS hb.size, hR.below hb, (fun h => by have h3 : dn 20 = false := h; rw [hd20.out] at h3; cases h3), (fun h => by simp at h), h0.out, h1.out, h2.out, h3.out, h4.out, h5.out, h6.out, h7.out, h8.out, h9.out, h10.out, h11.out, h12.out, h13.out, h14.out, h15.out, h16.out, h17.out, h18.out, (fun h h2 => by obtain ⟨g2, q1, q2⟩ := h19.out h h2; exact ⟨g2, q1, q2.below hb⟩), fun _ => own_below0 p20 hb, fun _ => p20⟩
    | n + 22, h => omega
  case fin =>
    clear hops hdeps hback
    rintro dn ac W hJ hall
    obtain ⟨t27, t28, t29, t30, t31, t32, t33, t34, t35, t36, t37, t38, t39, t40, t41, t42, t43, t44, t45, t46, t47, t3, rfl, hE, hE0, hE20, hO, hS, hR, hW0, o21, h0, h1, h2, h3, h4, h5, h6, h7, h8, h9, h10, h11, h12, h13, h14, h15, h16, h17, h18, h19, h20, h21⟩ := (HJ.out _ _ _).1 hJ
    exact fin _ _ _ _ _ _ _ _ _ _ _ _ _ _ _ _ _ _ _ _ _ _ W hO hS hR (h21 (hall 21 (by omega)))
end Go.Proofs.YtjjileefdjjijaaDoor
