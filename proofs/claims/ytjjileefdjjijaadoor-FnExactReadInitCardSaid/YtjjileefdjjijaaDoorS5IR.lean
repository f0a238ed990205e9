/- The regions of l5Init that draw their order. -/
import Derived.Test.YtjjileefdjjijaaDoorS5I
import Derived.Test.YtjjileefdjjijaaDoorMa6
import Derived.Test.YtjjileefdjjijaaDoorS5QR
namespace Go.Proofs.YtjjileefdjjijaaDoor
open Go.RowKit Go.Deep

set_option maxRecDepth 100000 in
set_option maxHeartbeats 1000000 in
theorem regI1 {Q : Exit → Act → World → Prop} (x2 x3 u_5 : Value) (g o R : Nat) (k : Int) (y : InitM) (A2 : Option Addr) (c2 : Nat) (ww wq : World) (ht0 : 0 ≤ y.Tag) (ht1 : y.Tag ≤ 4294967295) (hs0 : 0 ≤ y.Tsn) (hs1 : y.Tsn ≤ 4294967295) (hrl : y.Random.length ≤ 1000) (q0 : ww.cell? ⟨g, o, none⟩ = some (.int .i64 y.Tag)) (q1 : ww.cell? ⟨g, o + 1, none⟩ = some (.int .i64 y.Tsn)) (q2 : ww.cell? ⟨g, o + 2, none⟩ = some (.slice A2 y.Random.length c2)) (hP : Bs ww A2 y.Random) (hgl : g < ww.heap.size) (hB : ww.heap.size ≤ wq.heap.size) (hRl : R < wq.heap.size) {ops : Array Oper}
    (hops : (ops.map fun o => (o.op, o.dst, o.guard)) = #[(Op.move (Operand.tmp 0), some 6, none), (Op.nilCheck (Operand.tmp 6), some 7, none), (Op.fieldAddr 39 (Operand.tmp 7) 0, some 8, none), (Op.load 2 (Operand.tmp 8), some 9, none), (Op.call { callee := Callee.value (Operand.func 108), args := #[(Operand.tmp 9)], argTypes := #[2] }, some 10, none), (Op.move (Operand.tmp 0), some 11, none), (Op.nilCheck (Operand.tmp 11), some 12, none), (Op.fieldAddr 39 (Operand.tmp 12) 1, some 13, none), (Op.load 2 (Operand.tmp 13), some 14, none), (Op.call { callee := Callee.value (Operand.func 108), args := #[(Operand.tmp 14)], argTypes := #[2] }, some 15, none), (Op.call { callee := Callee.builtin Builtin.append, args := #[(Operand.tmp 10), (Operand.tmp 15)], argTypes := #[22, 22] }, some 16, none), (Op.move (Operand.tmp 0), some 17, none), (Op.nilCheck (Operand.tmp 17), some 18, none), (Op.fieldAddr 39 (Operand.tmp 18) 2, some 19, none), (Op.load 22 (Operand.tmp 19), some 20, none), (Op.call { callee := Callee.builtin Builtin.append, args := #[(Operand.tmp 16), (Operand.tmp 20)], argTypes := #[22, 22] }, some 21, none), (Op.assign (Operand.tmp 21), some 5, none)])
    (hdeps : ((List.range 17).all fun i => ((fun i => [[], [0], [1], [2], [3], [], [5], [6], [7], [4, 8], [4, 9], [], [11], [12], [13], [10, 14], [15]].getD i []) i).all fun j => ((ops[i]?).map fun o => o.after.any fun e => Region.binds .any e && e.on == j).getD false) = true)
    (hback : ((List.range 17).all fun i => ((ops[i]?).map fun o => o.after.all fun e => decide (e.on < i)).getD false) = true)
    {a0 : Act} (ha : a0 = { tmps := #[.pointer (some ⟨g, o, none⟩), .int .i64 k, x2, x3, .pointer (some ⟨R, 0, none⟩), u_5, undef, undef, undef, undef, undef, undef, undef, undef, undef, undef, undef, undef, undef, undef, undef, undef, undef, undef, undef, undef, undef, undef, undef, undef, undef, undef, undef, undef, undef, undef, undef, undef, undef, undef, undef, undef, undef, undef, undef], defers := [] }) (hE_4_9 : false = true → false = true) (hE_4_10 : false = true → false = true) (hE_4_15 : false = true → false = true) (hE_4_16 : false = true → false = true) (hE_9_10 : false = true → false = true) (hE_9_15 : false = true → false = true) (hE_9_16 : false = true → false = true) (hE_10_15 : false = true → false = true) (hE_10_16 : false = true → false = true) (hE_15_16 : false = true → false = true) (hO : Below ww.heap.size ww wq) (hS : wq.heap.size ≤ wq.heap.size) (hR : Blk wq R 28 #[.int .i64 0, .int .i64 0, .slice none 0 0])
    (fin : ∀ t6 t7 t8 t9 t10 t11 t12 t13 t14 t15 t16 t17 t18 t19 t20 t21 t5 (W : World), (Below ww.heap.size ww W) → (wq.heap.size ≤ W.heap.size) → (Blk W R 28 #[.int .i64 0, .int .i64 0, .slice none 0 0]) → (W.ownsRow wq.heap.size 5 1 t5 (8 + y.Random.length) ((pk y.Tag ++ pk y.Tsn ++ y.Random).map (Value.int .u8))) → Q .normal { tmps := #[.pointer (some ⟨g, o, none⟩), .int .i64 k, x2, x3, .pointer (some ⟨R, 0, none⟩), t5, t6, t7, t8, t9, t10, t11, t12, t13, t14, t15, t16, t17, t18, t19, t20, t21, undef, undef, undef, undef, undef, undef, undef, undef, undef, undef, undef, undef, undef, undef, undef, undef, undef, undef, undef, undef, undef, undef, undef], defers := [] } W) :
    wpAny Tryd.prog .any ops Q ops.size (Array.replicate ops.size false) a0 wq := by
  have hn : ops.size = 17 := by have := congrArg Array.size hops; simpa using this
  obtain ⟨J, HJ⟩ : ∃ J : (Nat → Bool) → Act → World → Prop, ∀ dn ac W, J dn ac W ↔ (fun dn ac W => ∃ t6 t7 t8 t9 t10 t11 t12 t13 t14 t15 t16 t17 t18 t19 t20 t21 t5, ac = { tmps := #[.pointer (some ⟨g, o, none⟩), .int .i64 k, x2, x3, .pointer (some ⟨R, 0, none⟩), t5, t6, t7, t8, t9, t10, t11, t12, t13, t14, t15, t16, t17, t18, t19, t20, t21, undef, undef, undef, undef, undef, undef, undef, undef, undef, undef, undef, undef, undef, undef, undef, undef, undef, undef, undef, undef, undef, undef, undef], defers := [] } ∧ (dn 9 = true → dn 4 = true) ∧ (dn 10 = true → dn 4 = true) ∧ (dn 15 = true → dn 4 = true) ∧ (dn 16 = true → dn 4 = true) ∧ (dn 10 = true → dn 9 = true) ∧ (dn 15 = true → dn 9 = true) ∧ (dn 16 = true → dn 9 = true) ∧ (dn 15 = true → dn 10 = true) ∧ (dn 16 = true → dn 10 = true) ∧ (dn 16 = true → dn 15 = true) ∧ (Below ww.heap.size ww W) ∧ (wq.heap.size ≤ W.heap.size) ∧ (Blk W R 28 #[.int .i64 0, .int .i64 0, .slice none 0 0]) ∧ (dn 0 = true → t6 = .pointer (some ⟨g, o, none⟩)) ∧ (dn 1 = true → t7 = .pointer (some ⟨g, o, none⟩)) ∧ (dn 2 = true → t8 = .pointer (some ⟨g, o, none⟩)) ∧ (dn 3 = true → t9 = .int .i64 y.Tag) ∧ (dn 4 = true → dn 10 = false → W.ownsRow wq.heap.size 5 1 t10 4 ((pk y.Tag).map (Value.int .u8))) ∧ (dn 5 = true → t11 = .pointer (some ⟨g, o, none⟩)) ∧ (dn 6 = true → t12 = .pointer (some ⟨g, o, none⟩)) ∧ (dn 7 = true → t13 = .pointer (some ⟨g, o + 1, none⟩)) ∧ (dn 8 = true → t14 = .int .i64 y.Tsn) ∧ (dn 9 = true → dn 10 = false → ∃ g2 : Nat, t15 = .slice (some ⟨g2, 0, none⟩) 4 4 ∧ Bs W (some ⟨g2, 0, none⟩) (pk y.Tsn)) ∧ (dn 10 = true → dn 15 = false → W.ownsRow wq.heap.size 5 1 t16 8 ((pk y.Tag ++ pk y.Tsn).map (Value.int .u8))) ∧ (dn 11 = true → t17 = .pointer (some ⟨g, o, none⟩)) ∧ (dn 12 = true → t18 = .pointer (some ⟨g, o, none⟩)) ∧ (dn 13 = true → t19 = .pointer (some ⟨g, o + 2, none⟩)) ∧ (dn 14 = true → t20 = .slice A2 y.Random.length c2) ∧ (dn 15 = true → dn 16 = false → W.ownsRow wq.heap.size 5 1 t21 (8 + y.Random.length) ((pk y.Tag ++ pk y.Tsn ++ y.Random).map (Value.int .u8))) ∧ (dn 16 = true → W.ownsRow wq.heap.size 5 1 t5 (8 + y.Random.length) ((pk y.Tag ++ pk y.Tsn ++ y.Random).map (Value.int .u8)))) dn ac W := ⟨_, fun _ _ _ => Iff.rfl⟩
  replace HJ := hidH HJ
  refine region_inv 17 (fun i => [[], [0], [1], [2], [3], [], [5], [6], [7], [4, 8], [4, 9], [], [11], [12], [13], [10, 14], [15]].getD i []) J hn hdeps hback ?start ?step ?fin
  case start => exact (HJ.out _ _ _).2 ⟨undef, undef, undef, undef, undef, undef, undef, undef, undef, undef, undef, undef, undef, undef, undef, undef, u_5, ha, hE_4_9, hE_4_10, hE_4_15, hE_4_16, hE_9_10, hE_9_15, hE_9_16, hE_10_15, hE_10_16, hE_15_16, hO, hS, hR, fun h => by simp at h, fun h => by simp at h, fun h => by simp at h, fun h => by simp at h, fun h => by simp at h, fun h => by simp at h, fun h => by simp at h, fun h => by simp at h, fun h => by simp at h, fun h => by simp at h, fun h => by simp at h, fun h => by simp at h, fun h => by simp at h, fun h => by simp at h, fun h => by simp at h, fun h => by simp at h, fun h => by simp at h⟩
  all_goals clear ha hE_4_9 hE_4_10 hE_4_15 hE_4_16 hE_9_10 hE_9_15 hE_9_16 hE_10_15 hE_10_16 hE_15_16 hO hS hR
  case step =>
    clear fin hdeps hback
    intro i hi dn ac W hJ hdn hdep
    obtain ⟨t6, t7, t8, t9, t10, t11, t12, t13, t14, t15, t16, t17, t18, t19, t20, t21, t5, rfl, hE_4_9, hE_4_10, hE_4_15, hE_4_16, hE_9_10, hE_9_15, hE_9_16, hE_10_15, hE_10_16, hE_15_16, hO, hS, hR, h0, h1, h2, h3, h4, h5, h6, h7, h8, h9, h10, h11, h12, h13, h14, h15, h16⟩ := (HJ.out _ _ _).1 hJ
    clear hJ
    match i, hi with
    | 0, _ =>
      obtain ⟨ty, ps, af, ho⟩ := op_lit hops (i := 0) (op := Op.move (Operand.tmp 0)) (dst := some 6) (g := none) rfl
      refine wpOp_lit ho (fun j b h => by cases h) ?_
      clear hops hdep ho
      replace h1 := hidH h1
      replace h2 := hidH h2
      replace h3 := hidH h3
      replace h4 := hidH h4
      replace h5 := hidH h5
      replace h6 := hidH h6
      replace h7 := hidH h7
      replace h8 := hidH h8
      replace h9 := hidH h9
      replace h10 := hidH h10
      replace h11 := hidH h11
      replace h12 := hidH h12
      replace h13 := hidH h13
      replace h14 := hidH h14
      replace h15 := hidH h15
      replace h16 := hidH h16
      go_wp2
      exact (HJ.out _ _ _).2 ⟨_, _, _, _, _, _, _, _, _, _, _, _, _, _, _, _, _, rfl, hE_4_9, hE_4_10, hE_4_15, hE_4_16, hE_9_10, hE_9_15, hE_9_16, hE_10_15, hE_10_16, hE_15_16, hO, hS, hR, fun _ => rfl, h1.out, h2.out, h3.out, h4.out, h5.out, h6.out, h7.out, h8.out, h9.out, h10.out, h11.out, h12.out, h13.out, h14.out, h15.out, h16.out⟩
    | 1, _ =>
      obtain ⟨ty, ps, af, ho⟩ := op_lit hops (i := 1) (op := Op.nilCheck (Operand.tmp 6)) (dst := some 7) (g := none) rfl
      obtain rfl := h0 (hdep 0 (by simp))
      refine wpOp_lit ho (fun j b h => by cases h) ?_
      clear hops hdep ho
      replace h0 := hidH h0
      replace h2 := hidH h2
      replace h3 := hidH h3
      replace h4 := hidH h4
      replace h5 := hidH h5
      replace h6 := hidH h6
      replace h7 := hidH h7
      replace h8 := hidH h8
      replace h9 := hidH h9
      replace h10 := hidH h10
      replace h11 := hidH h11
      replace h12 := hidH h12
      replace h13 := hidH h13
      replace h14 := hidH h14
      replace h15 := hidH h15
      replace h16 := hidH h16
      go_wp2
      exact (HJ.out _ _ _).2 ⟨_, _, _, _, _, _, _, _, _, _, _, _, _, _, _, _, _, rfl, hE_4_9, hE_4_10, hE_4_15, hE_4_16, hE_9_10, hE_9_15, hE_9_16, hE_10_15, hE_10_16, hE_15_16, hO, hS, hR, fun _ => rfl, fun _ => rfl, h2.out, h3.out, h4.out, h5.out, h6.out, h7.out, h8.out, h9.out, h10.out, h11.out, h12.out, h13.out, h14.out, h15.out, h16.out⟩
    | 2, _ =>
      obtain ⟨ty, ps, af, ho⟩ := op_lit hops (i := 2) (op := Op.fieldAddr 39 (Operand.tmp 7) 0) (dst := some 8) (g := none) rfl
      obtain rfl := h1 (hdep 1 (by simp))
      refine wpOp_lit ho (fun j b h => by cases h) ?_
      clear hops hdep ho
      replace h0 := hidH h0
      replace h1 := hidH h1
      replace h3 := hidH h3
      replace h4 := hidH h4
      replace h5 := hidH h5
      replace h6 := hidH h6
      replace h7 := hidH h7
      replace h8 := hidH h8
      replace h9 := hidH h9
      replace h10 := hidH h10
      replace h11 := hidH h11
      replace h12 := hidH h12
      replace h13 := hidH h13
      replace h14 := hidH h14
      replace h15 := hidH h15
      replace h16 := hidH h16
      go_wp2
      exact (HJ.out _ _ _).2 ⟨_, _, _, _, _, _, _, _, _, _, _, _, _, _, _, _, _, rfl, hE_4_9, hE_4_10, hE_4_15, hE_4_16, hE_9_10, hE_9_15, hE_9_16, hE_10_15, hE_10_16, hE_15_16, hO, hS, hR, h0.out, fun _ => rfl, fun _ => rfl, h3.out, h4.out, h5.out, h6.out, h7.out, h8.out, h9.out, h10.out, h11.out, h12.out, h13.out, h14.out, h15.out, h16.out⟩
    | 3, _ =>
      obtain ⟨ty, ps, af, ho⟩ := op_lit hops (i := 3) (op := Op.load 2 (Operand.tmp 8)) (dst := some 9) (g := none) rfl
      obtain rfl := h2 (hdep 2 (by simp))
      refine wpOp_lit ho (fun j b h => by cases h) ?_
      clear hops hdep ho
      replace h0 := hidH h0
      replace h1 := hidH h1
      replace h2 := hidH h2
      replace h4 := hidH h4
      replace h5 := hidH h5
      replace h6 := hidH h6
      replace h7 := hidH h7
      replace h8 := hidH h8
      replace h9 := hidH h9
      replace h10 := hidH h10
      replace h11 := hidH h11
      replace h12 := hidH h12
      replace h13 := hidH h13
      replace h14 := hidH h14
      replace h15 := hidH h15
      replace h16 := hidH h16
      have q := (hO.cell (p := ⟨g, o, none⟩) hgl).trans q0
      go_wp2
      exact (HJ.out _ _ _).2 ⟨_, _, _, _, _, _, _, _, _, _, _, _, _, _, _, _, _, rfl, hE_4_9, hE_4_10, hE_4_15, hE_4_16, hE_9_10, hE_9_15, hE_9_16, hE_10_15, hE_10_16, hE_15_16, hO, hS, hR, h0.out, h1.out, fun _ => rfl, fun _ => rfl, h4.out, h5.out, h6.out, h7.out, h8.out, h9.out, h10.out, h11.out, h12.out, h13.out, h14.out, h15.out, h16.out⟩
    | 4, _ =>
      obtain ⟨ty, ps, af, ho⟩ := op_lit hops (i := 4) (op := Op.call { callee := Callee.value (Operand.func 108), args := #[(Operand.tmp 9)], argTypes := #[2] }) (dst := some 10) (g := none) rfl
      obtain rfl := h3 (hdep 3 (by simp))
      refine wpOp_lit ho (fun j b h => by cases h) ?_
      clear hops hdep ho
      replace h0 := hidH h0
      replace h1 := hidH h1
      replace h2 := hidH h2
      replace h3 := hidH h3
      replace h5 := hidH h5
      replace h6 := hidH h6
      replace h7 := hidH h7
      replace h8 := hidH h8
      replace h9 := hidH h9
      replace h10 := hidH h10
      replace h11 := hidH h11
      replace h12 := hidH h12
      replace h13 := hidH h13
      replace h14 := hidH h14
      replace h15 := hidH h15
      replace h16 := hidH h16
      go_wp2_with fail
      refine (l1Pack_any _ _ ht0 ht1).mono ?_
      rintro e w1 ⟨rfl, rfl⟩
      have hb := bal (Below.refl W.heap.size W) (.cells #[.int .u8 (y.Tag / 16777216), .int .u8 (y.Tag / 65536 % 256), .int .u8 (y.Tag / 256 % 256), .int .u8 (y.Tag % 256)] 5)
      go_wp2
      exact (HJ.out _ _ _).2 ⟨_, _, _, _, _, _, _, _, _, _, _, _, _, _, _, _, _, rfl, fun _ => rfl, fun _ => rfl, fun _ => rfl, fun _ => rfl, hE_9_10, hE_9_15, hE_9_16, hE_10_15, hE_10_16, hE_15_16, btr hO hb, Nat.le_trans hS hb.size, hR.below hb, h0.out, h1.out, h2.out, fun _ => rfl, fun _ => fun _ => World.ownsRow_lit _ #[.int .u8 (y.Tag / 16777216), .int .u8 (y.Tag / 65536 % 256), .int .u8 (y.Tag / 256 % 256), .int .u8 (y.Tag % 256)] 4 hS (by unfold maxLen; omega) rfl, h5.out, h6.out, h7.out, h8.out, (fun h => by have h3 : dn 4 = true := hE_4_9 h; rw [hdn] at h3; cases h3), (fun h => by have h3 : dn 4 = true := hE_4_10 h; rw [hdn] at h3; cases h3), h11.out, h12.out, h13.out, h14.out, (fun h => by have h3 : dn 4 = true := hE_4_15 h; rw [hdn] at h3; cases h3), (fun h => by have h3 : dn 4 = true := hE_4_16 h; rw [hdn] at h3; cases h3)⟩
    | 5, _ =>
      obtain ⟨ty, ps, af, ho⟩ := op_lit hops (i := 5) (op := Op.move (Operand.tmp 0)) (dst := some 11) (g := none) rfl
      refine wpOp_lit ho (fun j b h => by cases h) ?_
      clear hops hdep ho
      replace h0 := hidH h0
      replace h1 := hidH h1
      replace h2 := hidH h2
      replace h3 := hidH h3
      replace h4 := hidH h4
      replace h6 := hidH h6
      replace h7 := hidH h7
      replace h8 := hidH h8
      replace h9 := hidH h9
      replace h10 := hidH h10
      replace h11 := hidH h11
      replace h12 := hidH h12
      replace h13 := hidH h13
      replace h14 := hidH h14
      replace h15 := hidH h15
      replace h16 := hidH h16
      go_wp2
      exact (HJ.out _ _ _).2 ⟨_, _, _, _, _, _, _, _, _, _, _, _, _, _, _, _, _, rfl, hE_4_9, hE_4_10, hE_4_15, hE_4_16, hE_9_10, hE_9_15, hE_9_16, hE_10_15, hE_10_16, hE_15_16, hO, hS, hR, h0.out, h1.out, h2.out, h3.out, h4.out, fun _ => rfl, h6.out, h7.out, h8.out, h9.out, h10.out, h11.out, h12.out, h13.out, h14.out, h15.out, h16.out⟩
    | 6, _ =>
      obtain ⟨ty, ps, af, ho⟩ := op_lit hops (i := 6) (op := Op.nilCheck (Operand.tmp 11)) (dst := some 12) (g := none) rfl
      obtain rfl := h5 (hdep 5 (by simp))
      refine wpOp_lit ho (fun j b h => by cases h) ?_
      clear hops hdep ho
      replace h0 := hidH h0
      replace h1 := hidH h1
      replace h2 := hidH h2
      replace h3 := hidH h3
      replace h4 := hidH h4
      replace h5 := hidH h5
      replace h7 := hidH h7
      replace h8 := hidH h8
      replace h9 := hidH h9
      replace h10 := hidH h10
      replace h11 := hidH h11
      replace h12 := hidH h12
      replace h13 := hidH h13
      replace h14 := hidH h14
      replace h15 := hidH h15
      replace h16 := hidH h16
      go_wp2
      exact (HJ.out _ _ _).2 ⟨_, _, _, _, _, _, _, _, _, _, _, _, _, _, _, _, _, rfl, hE_4_9, hE_4_10, hE_4_15, hE_4_16, hE_9_10, hE_9_15, hE_9_16, hE_10_15, hE_10_16, hE_15_16, hO, hS, hR, h0.out, h1.out, h2.out, h3.out, h4.out, fun _ => rfl, fun _ => rfl, h7.out, h8.out, h9.out, h10.out, h11.out, h12.out, h13.out, h14.out, h15.out, h16.out⟩
    | 7, _ =>
      obtain ⟨ty, ps, af, ho⟩ := op_lit hops (i := 7) (op := Op.fieldAddr 39 (Operand.tmp 12) 1) (dst := some 13) (g := none) rfl
      obtain rfl := h6 (hdep 6 (by simp))
      refine wpOp_lit ho (fun j b h => by cases h) ?_
      clear hops hdep ho
      replace h0 := hidH h0
      replace h1 := hidH h1
      replace h2 := hidH h2
      replace h3 := hidH h3
      replace h4 := hidH h4
      replace h5 := hidH h5
      replace h6 := hidH h6
      replace h8 := hidH h8
      replace h9 := hidH h9
      replace h10 := hidH h10
      replace h11 := hidH h11
      replace h12 := hidH h12
      replace h13 := hidH h13
      replace h14 := hidH h14
      replace h15 := hidH h15
      replace h16 := hidH h16
      go_wp2
      exact (HJ.out _ _ _).2 ⟨_, _, _, _, _, _, _, _, _, _, _, _, _, _, _, _, _, rfl, hE_4_9, hE_4_10, hE_4_15, hE_4_16, hE_9_10, hE_9_15, hE_9_16, hE_10_15, hE_10_16, hE_15_16, hO, hS, hR, h0.out, h1.out, h2.out, h3.out, h4.out, h5.out, fun _ => rfl, fun _ => rfl, h8.out, h9.out, h10.out, h11.out, h12.out, h13.out, h14.out, h15.out, h16.out⟩
    | 8, _ =>
      obtain ⟨ty, ps, af, ho⟩ := op_lit hops (i := 8) (op := Op.load 2 (Operand.tmp 13)) (dst := some 14) (g := none) rfl
      obtain rfl := h7 (hdep 7 (by simp))
      refine wpOp_lit ho (fun j b h => by cases h) ?_
      clear hops hdep ho
      replace h0 := hidH h0
      replace h1 := hidH h1
      replace h2 := hidH h2
      replace h3 := hidH h3
      replace h4 := hidH h4
      replace h5 := hidH h5
      replace h6 := hidH h6
      replace h7 := hidH h7
      replace h9 := hidH h9
      replace h10 := hidH h10
      replace h11 := hidH h11
      replace h12 := hidH h12
      replace h13 := hidH h13
      replace h14 := hidH h14
      replace h15 := hidH h15
      replace h16 := hidH h16
      have q := (hO.cell (p := ⟨g, o + 1, none⟩) hgl).trans q1
      go_wp2
      exact (HJ.out _ _ _).2 ⟨_, _, _, _, _, _, _, _, _, _, _, _, _, _, _, _, _, rfl, hE_4_9, hE_4_10, hE_4_15, hE_4_16, hE_9_10, hE_9_15, hE_9_16, hE_10_15, hE_10_16, hE_15_16, hO, hS, hR, h0.out, h1.out, h2.out, h3.out, h4.out, h5.out, h6.out, fun _ => rfl, fun _ => rfl, h9.out, h10.out, h11.out, h12.out, h13.out, h14.out, h15.out, h16.out⟩
    | 9, _ =>
      obtain ⟨ty, ps, af, ho⟩ := op_lit hops (i := 9) (op := Op.call { callee := Callee.value (Operand.func 108), args := #[(Operand.tmp 14)], argTypes := #[2] }) (dst := some 15) (g := none) rfl
      have hd4 := hidH (hdep 4 (by simp))
      obtain rfl := h8 (hdep 8 (by simp))
      refine wpOp_lit ho (fun j b h => by cases h) ?_
      clear hops hdep ho
      replace h0 := hidH h0
      replace h1 := hidH h1
      replace h2 := hidH h2
      replace h3 := hidH h3
      replace h4 := hidH h4
      replace h5 := hidH h5
      replace h6 := hidH h6
      replace h7 := hidH h7
      replace h8 := hidH h8
      replace h10 := hidH h10
      replace h11 := hidH h11
      replace h12 := hidH h12
      replace h13 := hidH h13
      replace h14 := hidH h14
      replace h15 := hidH h15
      replace h16 := hidH h16
      go_wp2_with fail
      refine (l1Pack_any _ _ hs0 hs1).mono ?_
      rintro e w1 ⟨rfl, rfl⟩
      have hb := bal (Below.refl W.heap.size W) (.cells #[.int .u8 (y.Tsn / 16777216), .int .u8 (y.Tsn / 65536 % 256), .int .u8 (y.Tsn / 256 % 256), .int .u8 (y.Tsn % 256)] 5)
      go_wp2
      exact (HJ.out _ _ _).2 ⟨_, _, _, _, _, _, _, _, _, _, _, _, _, _, _, _, _, rfl, fun _ => hd4.out, hE_4_10, hE_4_15, hE_4_16, fun _ => rfl, fun _ => rfl, fun _ => rfl, hE_10_15, hE_10_16, hE_15_16, btr hO hb, Nat.le_trans hS hb.size, hR.below hb, h0.out, h1.out, h2.out, h3.out, fun h h2 => own_below0 (h4.out h h2) hb, h5.out, h6.out, h7.out, fun _ => rfl, fun _ => fun _ => ⟨_, rfl, lit_bs _ 5 (pk y.Tsn)⟩, (fun h => by have h3 : dn 9 = true := hE_9_10 h; rw [hdn] at h3; cases h3), h11.out, h12.out, h13.out, h14.out, (fun h => by have h3 : dn 9 = true := hE_9_15 h; rw [hdn] at h3; cases h3), (fun h => by have h3 : dn 9 = true := hE_9_16 h; rw [hdn] at h3; cases h3)⟩
    | 10, _ =>
      obtain ⟨ty, ps, af, ho⟩ := op_lit hops (i := 10) (op := Op.call { callee := Callee.builtin Builtin.append, args := #[(Operand.tmp 10), (Operand.tmp 15)], argTypes := #[22, 22] }) (dst := some 16) (g := none) rfl
      have hd9 := hidH (hdep 9 (by simp))
      have hd4 := hidH (hE_4_9 hd9.out)
      have o4 := hidH (h4 hd4.out hdn)
      obtain ⟨g2, rfl, q2⟩ := h9 hd9.out hdn
      refine wpOp_lit ho (fun j b h => by cases h) ?_
      clear hops hdep ho
      replace h0 := hidH h0
      replace h1 := hidH h1
      replace h2 := hidH h2
      replace h3 := hidH h3
      replace h4 := hidH h4
      replace h5 := hidH h5
      replace h6 := hidH h6
      replace h7 := hidH h7
      replace h8 := hidH h8
      replace h9 := hidH h9
      replace h11 := hidH h11
      replace h12 := hidH h12
      replace h13 := hidH h13
      replace h14 := hidH h14
      replace h15 := hidH h15
      replace h16 := hidH h16
      have hsz := hS
      have HL := hidH hrl
      go_wp2_with (at_builtin; refine wpList_append_bs rfl _ _ rfl wq.heap.size _ _ _ rfl o4.out (some ⟨g2, 0, none⟩) (pk y.Tsn) 4 rfl q2 (by simp [pk]) hsz ?_)
      intro v2 w2 o2 hg
      have BB := hidH ((Below.refl wq.heap.size W).grown hg hsz (fun x hx => (o4.out.lt x hx).1))
      have O8 := hidH (show w2.ownsRow wq.heap.size 5 1 v2 8 ((pk y.Tag ++ pk y.Tsn).map (Value.int .u8)) by simpa [pk] using o2)
      clear o2 hg
      go_wp2
      exact (HJ.out _ _ _).2 ⟨_, _, _, _, _, _, _, _, _, _, _, _, _, _, _, _, _, rfl, hE_4_9, fun _ => hd4.out, hE_4_15, hE_4_16, fun _ => hd9.out, hE_9_15, hE_9_16, fun _ => rfl, fun _ => rfl, hE_15_16, hO.trans (BB.out.mono hB), Nat.le_trans hS BB.out.size, (BB.out.block R hRl).trans hR, h0.out, h1.out, h2.out, h3.out, (fun _ h2 => by simp at h2), h5.out, h6.out, h7.out, h8.out, (fun _ h2 => by simp at h2), fun _ => fun _ => O8.out, h11.out, h12.out, h13.out, h14.out, (fun h => by have h3 : dn 10 = true := hE_10_15 h; rw [hdn] at h3; cases h3), (fun h => by have h3 : dn 10 = true := hE_10_16 h; rw [hdn] at h3; cases h3)⟩
    | 11, _ =>
      obtain ⟨ty, ps, af, ho⟩ := op_lit hops (i := 11) (op := Op.move (Operand.tmp 0)) (dst := some 17) (g := none) rfl
      refine wpOp_lit ho (fun j b h => by cases h) ?_
      clear hops hdep ho
      replace h0 := hidH h0
      replace h1 := hidH h1
      replace h2 := hidH h2
      replace h3 := hidH h3
      replace h4 := hidH h4
      replace h5 := hidH h5
      replace h6 := hidH h6
      replace h7 := hidH h7
      replace h8 := hidH h8
      replace h9 := hidH h9
      replace h10 := hidH h10
      replace h12 := hidH h12
      replace h13 := hidH h13
      replace h14 := hidH h14
      replace h15 := hidH h15
      replace h16 := hidH h16
      go_wp2
      exact (HJ.out _ _ _).2 ⟨_, _, _, _, _, _, _, _, _, _, _, _, _, _, _, _, _, rfl, hE_4_9, hE_4_10, hE_4_15, hE_4_16, hE_9_10, hE_9_15, hE_9_16, hE_10_15, hE_10_16, hE_15_16, hO, hS, hR, h0.out, h1.out, h2.out, h3.out, h4.out, h5.out, h6.out, h7.out, h8.out, h9.out, h10.out, fun _ => rfl, h12.out, h13.out, h14.out, h15.out, h16.out⟩
    | 12, _ =>
      obtain ⟨ty, ps, af, ho⟩ := op_lit hops (i := 12) (op := Op.nilCheck (Operand.tmp 17)) (dst := some 18) (g := none) rfl
      obtain rfl := h11 (hdep 11 (by simp))
      refine wpOp_lit ho (fun j b h => by cases h) ?_
      clear hops hdep ho
      replace h0 := hidH h0
      replace h1 := hidH h1
      replace h2 := hidH h2
      replace h3 := hidH h3
      replace h4 := hidH h4
      replace h5 := hidH h5
      replace h6 := hidH h6
      replace h7 := hidH h7
      replace h8 := hidH h8
      replace h9 := hidH h9
      replace h10 := hidH h10
      replace h11 := hidH h11
      replace h13 := hidH h13
      replace h14 := hidH h14
      replace h15 := hidH h15
      replace h16 := hidH h16
      go_wp2
      exact (HJ.out _ _ _).2 ⟨_, _, _, _, _, _, _, _, _, _, _, _, _, _, _, _, _, rfl, hE_4_9, hE_4_10, hE_4_15, hE_4_16, hE_9_10, hE_9_15, hE_9_16, hE_10_15, hE_10_16, hE_15_16, hO, hS, hR, h0.out, h1.out, h2.out, h3.out, h4.out, h5.out, h6.out, h7.out, h8.out, h9.out, h10.out, fun _ => rfl, fun _ => rfl, h13.out, h14.out, h15.out, h16.out⟩
    | 13, _ =>
      obtain ⟨ty, ps, af, ho⟩ := op_lit hops (i := 13) (op := Op.fieldAddr 39 (Operand.tmp 18) 2) (dst := some 19) (g := none) rfl
      obtain rfl := h12 (hdep 12 (by simp))
      refine wpOp_lit ho (fun j b h => by cases h) ?_
      clear hops hdep ho
      replace h0 := hidH h0
      replace h1 := hidH h1
      replace h2 := hidH h2
      replace h3 := hidH h3
      replace h4 := hidH h4
      replace h5 := hidH h5
      replace h6 := hidH h6
      replace h7 := hidH h7
      replace h8 := hidH h8
      replace h9 := hidH h9
      replace h10 := hidH h10
      replace h11 := hidH h11
      replace h12 := hidH h12
      replace h14 := hidH h14
      replace h15 := hidH h15
      replace h16 := hidH h16
      go_wp2
      exact (HJ.out _ _ _).2 ⟨_, _, _, _, _, _, _, _, _, _, _, _, _, _, _, _, _, rfl, hE_4_9, hE_4_10, hE_4_15, hE_4_16, hE_9_10, hE_9_15, hE_9_16, hE_10_15, hE_10_16, hE_15_16, hO, hS, hR, h0.out, h1.out, h2.out, h3.out, h4.out, h5.out, h6.out, h7.out, h8.out, h9.out, h10.out, h11.out, fun _ => rfl, fun _ => rfl, h14.out, h15.out, h16.out⟩
    | 14, _ =>
      obtain ⟨ty, ps, af, ho⟩ := op_lit hops (i := 14) (op := Op.load 22 (Operand.tmp 19)) (dst := some 20) (g := none) rfl
      obtain rfl := h13 (hdep 13 (by simp))
      refine wpOp_lit ho (fun j b h => by cases h) ?_
      clear hops hdep ho
      replace h0 := hidH h0
      replace h1 := hidH h1
      replace h2 := hidH h2
      replace h3 := hidH h3
      replace h4 := hidH h4
      replace h5 := hidH h5
      replace h6 := hidH h6
      replace h7 := hidH h7
      replace h8 := hidH h8
      replace h9 := hidH h9
      replace h10 := hidH h10
      replace h11 := hidH h11
      replace h12 := hidH h12
      replace h13 := hidH h13
      replace h15 := hidH h15
      replace h16 := hidH h16
      have q := (hO.cell (p := ⟨g, o + 2, none⟩) hgl).trans q2
      go_wp2
      exact (HJ.out _ _ _).2 ⟨_, _, _, _, _, _, _, _, _, _, _, _, _, _, _, _, _, rfl, hE_4_9, hE_4_10, hE_4_15, hE_4_16, hE_9_10, hE_9_15, hE_9_16, hE_10_15, hE_10_16, hE_15_16, hO, hS, hR, h0.out, h1.out, h2.out, h3.out, h4.out, h5.out, h6.out, h7.out, h8.out, h9.out, h10.out, h11.out, h12.out, fun _ => rfl, fun _ => rfl, h15.out, h16.out⟩
    | 15, _ =>
      obtain ⟨ty, ps, af, ho⟩ := op_lit hops (i := 15) (op := Op.call { callee := Callee.builtin Builtin.append, args := #[(Operand.tmp 16), (Operand.tmp 20)], argTypes := #[22, 22] }) (dst := some 21) (g := none) rfl
      have hd10 := hidH (hdep 10 (by simp))
      have hd4 := hidH (hE_4_10 hd10.out)
      have hd9 := hidH (hE_9_10 hd10.out)
      have o10 := hidH (h10 hd10.out hdn)
      obtain rfl := h14 (hdep 14 (by simp))
      refine wpOp_lit ho (fun j b h => by cases h) ?_
      clear hops hdep ho
      replace h0 := hidH h0
      replace h1 := hidH h1
      replace h2 := hidH h2
      replace h3 := hidH h3
      replace h4 := hidH h4
      replace h5 := hidH h5
      replace h6 := hidH h6
      replace h7 := hidH h7
      replace h8 := hidH h8
      replace h9 := hidH h9
      replace h10 := hidH h10
      replace h11 := hidH h11
      replace h12 := hidH h12
      replace h13 := hidH h13
      replace h14 := hidH h14
      replace h16 := hidH h16
      have s2 : Bs W A2 y.Random := bs_below hP hO
      have hsz := hS
      have HL := hidH hrl
      go_wp2_with (at_builtin; refine wpList_append_bs rfl _ _ rfl wq.heap.size _ _ _ rfl o10.out A2 y.Random c2 rfl s2 (by have := HL.out; omega) hsz ?_)
      intro v2 w2 o2 hg
      have BB := hidH ((Below.refl wq.heap.size W).grown hg hsz (fun x hx => (o10.out.lt x hx).1))
      have O8 := hidH (show w2.ownsRow wq.heap.size 5 1 v2 (8 + y.Random.length) ((pk y.Tag ++ pk y.Tsn ++ y.Random).map (Value.int .u8)) by simpa [pk] using o2)
      clear o2 hg
      go_wp2
      exact (HJ.out _ _ _).2 ⟨_, _, _, _, _, _, _, _, _, _, _, _, _, _, _, _, _, rfl, hE_4_9, hE_4_10, fun _ => hd4.out, hE_4_16, hE_9_10, fun _ => hd9.out, hE_9_16, fun _ => hd10.out, hE_10_16, fun _ => rfl, hO.trans (BB.out.mono hB), Nat.le_trans hS BB.out.size, (BB.out.block R hRl).trans hR, h0.out, h1.out, h2.out, h3.out, (fun _ h2 => by have h3 : dn 10 = false := h2; rw [hd10.out] at h3; cases h3), h5.out, h6.out, h7.out, h8.out, (fun _ h2 => by have h3 : dn 10 = false := h2; rw [hd10.out] at h3; cases h3), (fun _ h2 => by simp at h2), h11.out, h12.out, h13.out, fun _ => rfl, fun _ => fun _ => O8.out, (fun h => by have h3 : dn 15 = true := hE_15_16 h; rw [hdn] at h3; cases h3)⟩
    | 16, _ =>
      obtain ⟨ty, ps, af, ho⟩ := op_lit hops (i := 16) (op := Op.assign (Operand.tmp 21)) (dst := some 5) (g := none) rfl
      have hd15 := hidH (hdep 15 (by simp))
      have hd4 := hidH (hE_4_15 hd15.out)
      have hd9 := hidH (hE_9_15 hd15.out)
      have hd10 := hidH (hE_10_15 hd15.out)
      have o15 := hidH (h15 hd15.out hdn)
      refine wpOp_lit ho (fun j b h => by cases h) ?_
      clear hops hdep ho
      replace h0 := hidH h0
      replace h1 := hidH h1
      replace h2 := hidH h2
      replace h3 := hidH h3
      replace h4 := hidH h4
      replace h5 := hidH h5
      replace h6 := hidH h6
      replace h7 := hidH h7
      replace h8 := hidH h8
      replace h9 := hidH h9
      replace h10 := hidH h10
      replace h11 := hidH h11
      replace h12 := hidH h12
      replace h13 := hidH h13
      replace h14 := hidH h14
      replace h15 := hidH h15
      have hb := Below.refl W.heap.size W
      go_wp2
      exact (HJ.out _ _ _).2 ⟨_, _, _, _, _, _, _, _, _, _, _, _, _, _, _, _, _, rfl, hE_4_9, hE_4_10, hE_4_15, fun _ => hd4.out, hE_9_10, hE_9_15, fun _ => hd9.out, hE_10_15, fun _ => hd10.out, fun _ => hd15.out, btr hO hb, Nat.le_trans hS hb.size, hR.below hb, h0.out, h1.out, h2.out, h3.out, (fun _ h2 => by have h3 : dn 10 = false := h2; rw [hd10.out] at h3; cases h3), h5.out, h6.out, h7.out, h8.out, (fun _ h2 => by have h3 : dn 10 = false := h2; rw [hd10.out] at h3; cases h3), (fun _ h2 => by have h3 : dn 15 = false := h2; rw [hd15.out] at h3; cases h3), h11.out, h12.out, h13.out, h14.out, (fun _ h2 => by simp at h2), fun _ => o15.out⟩
    | n + 17, h => omega
  case fin =>
    clear hops hdeps hback
    rintro dn ac W hJ hall
    obtain ⟨t6, t7, t8, t9, t10, t11, t12, t13, t14, t15, t16, t17, t18, t19, t20, t21, t5, rfl, hE_4_9, hE_4_10, hE_4_15, hE_4_16, hE_9_10, hE_9_15, hE_9_16, hE_10_15, hE_10_16, hE_15_16, hO, hS, hR, h0, h1, h2, h3, h4, h5, h6, h7, h8, h9, h10, h11, h12, h13, h14, h15, h16⟩ := (HJ.out _ _ _).1 hJ
    exact fin _ _ _ _ _ _ _ _ _ _ _ _ _ _ _ _ _ W hO hS hR (h16 (hall 16 (by omega)))
set_option maxRecDepth 100000 in
set_option maxHeartbeats 1000000 in
theorem regI2 {Q : Exit → Act → World → Prop} (x1 x2 x3 x4 x6 x7 x8 x9 x10 x11 x12 x13 x14 x15 x16 x17 x18 x19 x20 x21 bv : Value) (xs0 : List Value) (g o R b0 n0 : Nat) (y : InitM) (A3 : Option Addr) (c3 : Nat) (A4 : Option Addr) (c4 : Nat) (ww wq : World) (hlb : ∀ x, bv.ownBlock = some x → x < wq.heap.size) (hn : n0 ≤ 1000) (hcs : ∀ j, j < y.Addrs.length → 0 ≤ y.Addrs.getD j 0 ∧ y.Addrs.getD j 0 ≤ 255) (hal : y.Addrs.length ≤ 200) (hcl : (y.Cookie.length : Int) ≤ 200) (hI : Is ww A3 y.Addrs) (q3 : ww.cell? ⟨g, o + 3, none⟩ = some (.slice A3 y.Addrs.length c3)) (q4 : ww.cell? ⟨g, o + 4, none⟩ = some (.slice A4 y.Cookie.length c4)) (hgl : g < ww.heap.size) (hB : ww.heap.size ≤ b0) (hRl : R < b0) {ops : Array Oper}
    (hops : (ops.map fun o => (o.op, o.dst, o.guard)) = #[(Op.move (Operand.tmp 5), some 22, none), (Op.move (Operand.tmp 0), some 23, none), (Op.nilCheck (Operand.tmp 23), some 24, none), (Op.fieldAddr 39 (Operand.tmp 24) 3, some 25, none), (Op.load 37 (Operand.tmp 25), some 26, none), (Op.call { callee := Callee.value (Operand.func 111), args := #[(Operand.tmp 26)], argTypes := #[37] }, some 27, none), (Op.call { callee := Callee.builtin Builtin.append, args := #[(Operand.tmp 22), (Operand.tmp 27)], argTypes := #[22, 22] }, some 28, none), (Op.move (Operand.tmp 0), some 29, none), (Op.nilCheck (Operand.tmp 29), some 30, none), (Op.fieldAddr 39 (Operand.tmp 30) 4, some 31, none), (Op.load 22 (Operand.tmp 31), some 32, none), (Op.call { callee := Callee.builtin Builtin.len, args := #[(Operand.tmp 32)], argTypes := #[22] }, some 33, none), (Op.convert 3 5 (Operand.tmp 33), some 34, none), (Op.buildSlice 22 1 #[(0, (Operand.tmp 34))], some 35, none), (Op.call { callee := Callee.builtin Builtin.append, args := #[(Operand.tmp 28), (Operand.tmp 35)], argTypes := #[22, 22] }, some 36, none), (Op.assign (Operand.tmp 36), some 5, none)])
    (hdeps : ((List.range 16).all fun i => ((fun i => [[], [], [1], [2], [3], [4], [0, 5], [], [7], [8], [9], [10], [11], [12], [6, 13], [14]].getD i []) i).all fun j => ((ops[i]?).map fun o => o.after.any fun e => Region.binds .any e && e.on == j).getD false) = true)
    (hback : ((List.range 16).all fun i => ((ops[i]?).map fun o => o.after.all fun e => decide (e.on < i)).getD false) = true)
    {a0 : Act} (ha : a0 = { tmps := #[.pointer (some ⟨g, o, none⟩), x1, x2, x3, x4, bv, x6, x7, x8, x9, x10, x11, x12, x13, x14, x15, x16, x17, x18, x19, x20, x21, undef, undef, undef, undef, undef, undef, undef, undef, undef, undef, undef, undef, undef, undef, undef, undef, undef, undef, undef, undef, undef, undef, undef], defers := [] }) (hE_5_6 : false = true → false = true) (hE_5_14 : false = true → false = true) (hE_5_15 : false = true → false = true) (hE_6_14 : false = true → false = true) (hE_6_15 : false = true → false = true) (hE_14_15 : false = true → false = true) (hE06 : false = true → false = true) (hE0 : false = true → false = true) (hO : Below ww.heap.size ww wq) (hS : b0 ≤ wq.heap.size) (hZ : wq.heap.size ≤ wq.heap.size) (hR : Blk wq R 28 #[.int .i64 0, .int .i64 0, .slice none 0 0]) (hW0 : false = false → wq.ownsRow b0 5 1 bv n0 xs0)
    (fin : ∀ t22 t23 t24 t25 t26 t27 t28 t29 t30 t31 t32 t33 t34 t35 t36 t5 (W : World), (Below ww.heap.size ww W) → (b0 ≤ W.heap.size) → (wq.heap.size ≤ W.heap.size) → (Blk W R 28 #[.int .i64 0, .int .i64 0, .slice none 0 0]) → (W.ownsRow b0 5 1 t5 (n0 + (y.Addrs.length + 1 + 1)) (xs0 ++ (((((y.Addrs.length : Int) :: y.Addrs)).map (Value.int .u8)) ++ [.int .u8 (y.Cookie.length : Int)]))) → Q .normal { tmps := #[.pointer (some ⟨g, o, none⟩), x1, x2, x3, x4, t5, x6, x7, x8, x9, x10, x11, x12, x13, x14, x15, x16, x17, x18, x19, x20, x21, t22, t23, t24, t25, t26, t27, t28, t29, t30, t31, t32, t33, t34, t35, t36, undef, undef, undef, undef, undef, undef, undef, undef], defers := [] } W) :
    wpAny Tryd.prog .any ops Q ops.size (Array.replicate ops.size false) a0 wq := by
  have hn : ops.size = 16 := by have := congrArg Array.size hops; simpa using this
  obtain ⟨J, HJ⟩ : ∃ J : (Nat → Bool) → Act → World → Prop, ∀ dn ac W, J dn ac W ↔ (fun dn ac W => ∃ t22 t23 t24 t25 t26 t27 t28 t29 t30 t31 t32 t33 t34 t35 t36 t5, ac = { tmps := #[.pointer (some ⟨g, o, none⟩), x1, x2, x3, x4, t5, x6, x7, x8, x9, x10, x11, x12, x13, x14, x15, x16, x17, x18, x19, x20, x21, t22, t23, t24, t25, t26, t27, t28, t29, t30, t31, t32, t33, t34, t35, t36, undef, undef, undef, undef, undef, undef, undef, undef], defers := [] } ∧ (dn 6 = true → dn 5 = true) ∧ (dn 14 = true → dn 5 = true) ∧ (dn 15 = true → dn 5 = true) ∧ (dn 14 = true → dn 6 = true) ∧ (dn 15 = true → dn 6 = true) ∧ (dn 15 = true → dn 14 = true) ∧ (dn 6 = true → dn 0 = true) ∧ (dn 15 = true → dn 0 = true) ∧ (Below ww.heap.size ww W) ∧ (b0 ≤ W.heap.size) ∧ (wq.heap.size ≤ W.heap.size) ∧ (Blk W R 28 #[.int .i64 0, .int .i64 0, .slice none 0 0]) ∧ (dn 6 = false → W.ownsRow b0 5 1 bv n0 xs0) ∧ (dn 15 = false → t5 = bv) ∧ (dn 0 = true → t22 = bv) ∧ (dn 1 = true → t23 = .pointer (some ⟨g, o, none⟩)) ∧ (dn 2 = true → t24 = .pointer (some ⟨g, o, none⟩)) ∧ (dn 3 = true → t25 = .pointer (some ⟨g, o + 3, none⟩)) ∧ (dn 4 = true → t26 = .slice A3 y.Addrs.length c3) ∧ (dn 5 = true → dn 6 = false → ∃ (A9 : Option Addr) (c9 : Nat), t27 = .slice A9 ((y.Addrs.length : Int) :: y.Addrs).length c9 ∧ Bs W A9 ((y.Addrs.length : Int) :: y.Addrs)) ∧ (dn 6 = true → dn 14 = false → W.ownsRow b0 5 1 t28 (n0 + (y.Addrs.length + 1)) (xs0 ++ ((((y.Addrs.length : Int) :: y.Addrs)).map (Value.int .u8)))) ∧ (dn 7 = true → t29 = .pointer (some ⟨g, o, none⟩)) ∧ (dn 8 = true → t30 = .pointer (some ⟨g, o, none⟩)) ∧ (dn 9 = true → t31 = .pointer (some ⟨g, o + 4, none⟩)) ∧ (dn 10 = true → t32 = .slice A4 y.Cookie.length c4) ∧ (dn 11 = true → t33 = .int .i64 (y.Cookie.length : Int)) ∧ (dn 12 = true → t34 = .int .u8 (y.Cookie.length : Int)) ∧ (dn 13 = true → dn 14 = false → ∃ g2 : Nat, t35 = .slice (some ⟨g2, 0, none⟩) 1 1 ∧ wq.heap.size ≤ g2 ∧ Blk W g2 5 #[.int .u8 (y.Cookie.length : Int)]) ∧ (dn 14 = true → dn 15 = false → W.ownsRow b0 5 1 t36 (n0 + (y.Addrs.length + 1 + 1)) (xs0 ++ (((((y.Addrs.length : Int) :: y.Addrs)).map (Value.int .u8)) ++ [.int .u8 (y.Cookie.length : Int)]))) ∧ (dn 15 = true → W.ownsRow b0 5 1 t5 (n0 + (y.Addrs.length + 1 + 1)) (xs0 ++ (((((y.Addrs.length : Int) :: y.Addrs)).map (Value.int .u8)) ++ [.int .u8 (y.Cookie.length : Int)])))) dn ac W := ⟨_, fun _ _ _ => Iff.rfl⟩
  replace HJ := hidH HJ
  refine region_inv 16 (fun i => [[], [], [1], [2], [3], [4], [0, 5], [], [7], [8], [9], [10], [11], [12], [6, 13], [14]].getD i []) J hn hdeps hback ?start ?step ?fin
  case start => exact (HJ.out _ _ _).2 ⟨undef, undef, undef, undef, undef, undef, undef, undef, undef, undef, undef, undef, undef, undef, undef, bv, ha, hE_5_6, hE_5_14, hE_5_15, hE_6_14, hE_6_15, hE_14_15, hE06, hE0, hO, hS, hZ, hR, hW0, fun _ => rfl, fun h => by simp at h, fun h => by simp at h, fun h => by simp at h, fun h => by simp at h, fun h => by simp at h, fun h => by simp at h, fun h => by simp at h, fun h => by simp at h, fun h => by simp at h, fun h => by simp at h, fun h => by simp at h, fun h => by simp at h, fun h => by simp at h, fun h => by simp at h, fun h => by simp at h, fun h => by simp at h⟩
  all_goals clear ha hE_5_6 hE_5_14 hE_5_15 hE_6_14 hE_6_15 hE_14_15 hE06 hE0 hO hS hZ hR hW0
  case step =>
    clear fin hdeps hback
    intro i hi dn ac W hJ hdn hdep
    obtain ⟨t22, t23, t24, t25, t26, t27, t28, t29, t30, t31, t32, t33, t34, t35, t36, t5, rfl, hE_5_6, hE_5_14, hE_5_15, hE_6_14, hE_6_15, hE_14_15, hE06, hE0, hO, hS, hZ, hR, hW0, o15, h0, h1, h2, h3, h4, h5, h6, h7, h8, h9, h10, h11, h12, h13, h14, h15⟩ := (HJ.out _ _ _).1 hJ
    clear hJ
    match i, hi with
    | 0, _ =>
      obtain ⟨ty, ps, af, ho⟩ := op_lit hops (i := 0) (op := Op.move (Operand.tmp 5)) (dst := some 22) (g := none) rfl
      have z15 : dn 15 = false := by
              cases h : dn 15 with
              | false => rfl
              | true => have h3 : dn 0 = true := hE0 h; rw [hdn] at h3; cases h3
      obtain rfl := o15 z15
      refine wpOp_lit ho (fun j b h => by cases h) ?_
      clear hops hdep ho
      replace h1 := hidH h1
      replace h2 := hidH h2
      replace h3 := hidH h3
      replace h4 := hidH h4
      replace h5 := hidH h5
      replace h6 := hidH h6
      replace h7 := hidH h7
      replace h8 := hidH h8
      replace h9 := hidH h9
      replace h10 := hidH h10
      replace h11 := hidH h11
      replace h12 := hidH h12
      replace h13 := hidH h13
      replace h14 := hidH h14
      replace h15 := hidH h15
      replace o15 := hidH o15
      have hb := Below.refl W.heap.size W
      go_wp2
      exact (HJ.out _ _ _).2 ⟨_, _, _, _, _, _, _, _, _, _, _, _, _, _, _, _, rfl, hE_5_6, hE_5_14, hE_5_15, hE_6_14, hE_6_15, hE_14_15, fun _ => rfl, fun _ => rfl, btr hO hb, Nat.le_trans hS hb.size, Nat.le_trans hZ hb.size, hR.below hb, fun h => own_below0 (hW0 h) hb, (fun _ => rfl), fun _ => rfl, h1.out, h2.out, h3.out, h4.out, (fun h h2 => by obtain ⟨A9, c9, q1, q2⟩ := h5.out h h2; exact ⟨A9, c9, q1, bs_below q2 hb⟩), fun h h2 => own_below0 (h6.out h h2) hb, h7.out, h8.out, h9.out, h10.out, h11.out, h12.out, (fun h h2 => by obtain ⟨g2, q1, q3, q2⟩ := h13.out h h2; exact ⟨g2, q1, q3, q2.below hb⟩), fun h h2 => own_below0 (h14.out h h2) hb, fun h => own_below0 (h15.out h) hb⟩
    | 1, _ =>
      obtain ⟨ty, ps, af, ho⟩ := op_lit hops (i := 1) (op := Op.move (Operand.tmp 0)) (dst := some 23) (g := none) rfl
      refine wpOp_lit ho (fun j b h => by cases h) ?_
      clear hops hdep ho
      replace h0 := hidH h0
      replace h2 := hidH h2
      replace h3 := hidH h3
      replace h4 := hidH h4
      replace h5 := hidH h5
      replace h6 := hidH h6
      replace h7 := hidH h7
      replace h8 := hidH h8
      replace h9 := hidH h9
      replace h10 := hidH h10
      replace h11 := hidH h11
      replace h12 := hidH h12
      replace h13 := hidH h13
      replace h14 := hidH h14
      replace h15 := hidH h15
      replace o15 := hidH o15
      go_wp2
      exact (HJ.out _ _ _).2 ⟨_, _, _, _, _, _, _, _, _, _, _, _, _, _, _, _, rfl, hE_5_6, hE_5_14, hE_5_15, hE_6_14, hE_6_15, hE_14_15, hE06, hE0, hO, hS, hZ, hR, hW0, o15.out, h0.out, fun _ => rfl, h2.out, h3.out, h4.out, h5.out, h6.out, h7.out, h8.out, h9.out, h10.out, h11.out, h12.out, h13.out, h14.out, h15.out⟩
    | 2, _ =>
      obtain ⟨ty, ps, af, ho⟩ := op_lit hops (i := 2) (op := Op.nilCheck (Operand.tmp 23)) (dst := some 24) (g := none) rfl
      obtain rfl := h1 (hdep 1 (by simp))
      refine wpOp_lit ho (fun j b h => by cases h) ?_
      clear hops hdep ho
      replace h0 := hidH h0
      replace h1 := hidH h1
      replace h3 := hidH h3
      replace h4 := hidH h4
      replace h5 := hidH h5
      replace h6 := hidH h6
      replace h7 := hidH h7
      replace h8 := hidH h8
      replace h9 := hidH h9
      replace h10 := hidH h10
      replace h11 := hidH h11
      replace h12 := hidH h12
      replace h13 := hidH h13
      replace h14 := hidH h14
      replace h15 := hidH h15
      replace o15 := hidH o15
      go_wp2
      exact (HJ.out _ _ _).2 ⟨_, _, _, _, _, _, _, _, _, _, _, _, _, _, _, _, rfl, hE_5_6, hE_5_14, hE_5_15, hE_6_14, hE_6_15, hE_14_15, hE06, hE0, hO, hS, hZ, hR, hW0, o15.out, h0.out, fun _ => rfl, fun _ => rfl, h3.out, h4.out, h5.out, h6.out, h7.out, h8.out, h9.out, h10.out, h11.out, h12.out, h13.out, h14.out, h15.out⟩
    | 3, _ =>
      obtain ⟨ty, ps, af, ho⟩ := op_lit hops (i := 3) (op := Op.fieldAddr 39 (Operand.tmp 24) 3) (dst := some 25) (g := none) rfl
      obtain rfl := h2 (hdep 2 (by simp))
      refine wpOp_lit ho (fun j b h => by cases h) ?_
      clear hops hdep ho
      replace h0 := hidH h0
      replace h1 := hidH h1
      replace h2 := hidH h2
      replace h4 := hidH h4
      replace h5 := hidH h5
      replace h6 := hidH h6
      replace h7 := hidH h7
      replace h8 := hidH h8
      replace h9 := hidH h9
      replace h10 := hidH h10
      replace h11 := hidH h11
      replace h12 := hidH h12
      replace h13 := hidH h13
      replace h14 := hidH h14
      replace h15 := hidH h15
      replace o15 := hidH o15
      go_wp2
      exact (HJ.out _ _ _).2 ⟨_, _, _, _, _, _, _, _, _, _, _, _, _, _, _, _, rfl, hE_5_6, hE_5_14, hE_5_15, hE_6_14, hE_6_15, hE_14_15, hE06, hE0, hO, hS, hZ, hR, hW0, o15.out, h0.out, h1.out, fun _ => rfl, fun _ => rfl, h4.out, h5.out, h6.out, h7.out, h8.out, h9.out, h10.out, h11.out, h12.out, h13.out, h14.out, h15.out⟩
    | 4, _ =>
      obtain ⟨ty, ps, af, ho⟩ := op_lit hops (i := 4) (op := Op.load 37 (Operand.tmp 25)) (dst := some 26) (g := none) rfl
      obtain rfl := h3 (hdep 3 (by simp))
      refine wpOp_lit ho (fun j b h => by cases h) ?_
      clear hops hdep ho
      replace h0 := hidH h0
      replace h1 := hidH h1
      replace h2 := hidH h2
      replace h3 := hidH h3
      replace h5 := hidH h5
      replace h6 := hidH h6
      replace h7 := hidH h7
      replace h8 := hidH h8
      replace h9 := hidH h9
      replace h10 := hidH h10
      replace h11 := hidH h11
      replace h12 := hidH h12
      replace h13 := hidH h13
      replace h14 := hidH h14
      replace h15 := hidH h15
      replace o15 := hidH o15
      have q := (hO.cell (p := ⟨g, o + 3, none⟩) hgl).trans q3
      go_wp2
      exact (HJ.out _ _ _).2 ⟨_, _, _, _, _, _, _, _, _, _, _, _, _, _, _, _, rfl, hE_5_6, hE_5_14, hE_5_15, hE_6_14, hE_6_15, hE_14_15, hE06, hE0, hO, hS, hZ, hR, hW0, o15.out, h0.out, h1.out, h2.out, fun _ => rfl, fun _ => rfl, h5.out, h6.out, h7.out, h8.out, h9.out, h10.out, h11.out, h12.out, h13.out, h14.out, h15.out⟩
    | 5, _ =>
      obtain ⟨ty, ps, af, ho⟩ := op_lit hops (i := 5) (op := Op.call { callee := Callee.value (Operand.func 111), args := #[(Operand.tmp 26)], argTypes := #[37] }) (dst := some 27) (g := none) rfl
      obtain rfl := h4 (hdep 4 (by simp))
      refine wpOp_lit ho (fun j b h => by cases h) ?_
      clear hops hdep ho
      replace h0 := hidH h0
      replace h1 := hidH h1
      replace h2 := hidH h2
      replace h3 := hidH h3
      replace h4 := hidH h4
      replace h6 := hidH h6
      replace h7 := hidH h7
      replace h8 := hidH h8
      replace h9 := hidH h9
      replace h10 := hidH h10
      replace h11 := hidH h11
      replace h12 := hidH h12
      replace h13 := hidH h13
      replace h14 := hidH h14
      replace h15 := hidH h15
      replace o15 := hidH o15
      go_wp2_with fail
      refine (l5Bytes_any A3 y.Addrs c3 _ (is_below hI hO) hcs hal).mono ?_
      rintro e w1 ⟨v1, rfl, o1, hb⟩
      obtain ⟨A9, c9, e9, ob9, _, _⟩ := own_ob o1
      subst e9
      have S9 := hidH ob9.bs
      clear o1 ob9
      go_wp2
      exact (HJ.out _ _ _).2 ⟨_, _, _, _, _, _, _, _, _, _, _, _, _, _, _, _, rfl, fun _ => rfl, fun _ => rfl, fun _ => rfl, hE_6_14, hE_6_15, hE_14_15, hE06, hE0, btr hO hb, Nat.le_trans hS hb.size, Nat.le_trans hZ hb.size, hR.below hb, fun h => own_below0 (hW0 h) hb, o15.out, h0.out, h1.out, h2.out, h3.out, fun _ => rfl, fun _ => fun _ => ⟨_, _, rfl, S9.out⟩, (fun h => by have h3 : dn 5 = true := hE_5_6 h; rw [hdn] at h3; cases h3), h7.out, h8.out, h9.out, h10.out, h11.out, h12.out, (fun h h2 => by obtain ⟨g2, q1, q3, q2⟩ := h13.out h h2; exact ⟨g2, q1, q3, q2.below hb⟩), (fun h => by have h3 : dn 5 = true := hE_5_14 h; rw [hdn] at h3; cases h3), (fun h => by have h3 : dn 5 = true := hE_5_15 h; rw [hdn] at h3; cases h3)⟩
    | 6, _ =>
      obtain ⟨ty, ps, af, ho⟩ := op_lit hops (i := 6) (op := Op.call { callee := Callee.builtin Builtin.append, args := #[(Operand.tmp 22), (Operand.tmp 27)], argTypes := #[22, 22] }) (dst := some 28) (g := none) rfl
      have hd5 := hidH (hdep 5 (by simp))
      have hd0 := hidH (hdep 0 (by simp))
      have ow := hidH (hW0 hdn)
      obtain ⟨A9, c9, rfl, s9⟩ := h5 hd5.out hdn
      obtain rfl := h0 (hdep 0 (by simp))
      refine wpOp_lit ho (fun j b h => by cases h) ?_
      clear hops hdep ho
      replace h0 := hidH h0
      replace h1 := hidH h1
      replace h2 := hidH h2
      replace h3 := hidH h3
      replace h4 := hidH h4
      replace h5 := hidH h5
      replace h7 := hidH h7
      replace h8 := hidH h8
      replace h9 := hidH h9
      replace h10 := hidH h10
      replace h11 := hidH h11
      replace h12 := hidH h12
      replace h13 := hidH h13
      replace h14 := hidH h14
      replace h15 := hidH h15
      replace o15 := hidH o15
      have hsz := hS
      have hn0 := hidH (And.intro hn hal)
      go_wp2_with (at_builtin; refine wpList_append_bs rfl _ _ rfl b0 _ _ _ rfl ow.out A9 ((y.Addrs.length : Int) :: y.Addrs) c9 rfl s9 (by have := hn0.out; simp; omega) hsz ?_)
      intro v2 w2 o2 hg
      have GB := hidH hg
      have BB := hidH ((Below.refl b0 W).grown hg hsz (fun x hx => (ow.out.lt x hx).1))
      have O8 := hidH (show w2.ownsRow b0 5 1 v2 (n0 + (y.Addrs.length + 1)) (xs0 ++ ((((y.Addrs.length : Int) :: y.Addrs)).map (Value.int .u8))) by simpa using o2)
      clear o2 hg
      go_wp2
      exact (HJ.out _ _ _).2 ⟨_, _, _, _, _, _, _, _, _, _, _, _, _, _, _, _, rfl, fun _ => hd5.out, hE_5_14, hE_5_15, fun _ => rfl, fun _ => rfl, hE_14_15, fun _ => hd0.out, hE0, hO.trans (BB.out.mono hB), Nat.le_trans hS BB.out.size, Nat.le_trans hZ BB.out.size, (BB.out.block R hRl).trans hR, (fun h => by simp at h), o15.out, fun _ => rfl, h1.out, h2.out, h3.out, h4.out, (fun _ h2 => by simp at h2), fun _ => fun _ => O8.out, h7.out, h8.out, h9.out, h10.out, h11.out, h12.out, (fun h h2 => by obtain ⟨g2, q1, q3, q2⟩ := h13.out h h2; exact ⟨g2, q1, q3, (GB.out.block g2 q2.lt (fun e => by have := hlb _ e.symm; omega)).trans q2⟩), (fun h => by have h3 : dn 6 = true := hE_6_14 h; rw [hdn] at h3; cases h3), (fun h => by have h3 : dn 6 = true := hE_6_15 h; rw [hdn] at h3; cases h3)⟩
    | 7, _ =>
      obtain ⟨ty, ps, af, ho⟩ := op_lit hops (i := 7) (op := Op.move (Operand.tmp 0)) (dst := some 29) (g := none) rfl
      refine wpOp_lit ho (fun j b h => by cases h) ?_
      clear hops hdep ho
      replace h0 := hidH h0
      replace h1 := hidH h1
      replace h2 := hidH h2
      replace h3 := hidH h3
      replace h4 := hidH h4
      replace h5 := hidH h5
      replace h6 := hidH h6
      replace h8 := hidH h8
      replace h9 := hidH h9
      replace h10 := hidH h10
      replace h11 := hidH h11
      replace h12 := hidH h12
      replace h13 := hidH h13
      replace h14 := hidH h14
      replace h15 := hidH h15
      replace o15 := hidH o15
      go_wp2
      exact (HJ.out _ _ _).2 ⟨_, _, _, _, _, _, _, _, _, _, _, _, _, _, _, _, rfl, hE_5_6, hE_5_14, hE_5_15, hE_6_14, hE_6_15, hE_14_15, hE06, hE0, hO, hS, hZ, hR, hW0, o15.out, h0.out, h1.out, h2.out, h3.out, h4.out, h5.out, h6.out, fun _ => rfl, h8.out, h9.out, h10.out, h11.out, h12.out, h13.out, h14.out, h15.out⟩
    | 8, _ =>
      obtain ⟨ty, ps, af, ho⟩ := op_lit hops (i := 8) (op := Op.nilCheck (Operand.tmp 29)) (dst := some 30) (g := none) rfl
      obtain rfl := h7 (hdep 7 (by simp))
      refine wpOp_lit ho (fun j b h => by cases h) ?_
      clear hops hdep ho
      replace h0 := hidH h0
      replace h1 := hidH h1
      replace h2 := hidH h2
      replace h3 := hidH h3
      replace h4 := hidH h4
      replace h5 := hidH h5
      replace h6 := hidH h6
      replace h7 := hidH h7
      replace h9 := hidH h9
      replace h10 := hidH h10
      replace h11 := hidH h11
      replace h12 := hidH h12
      replace h13 := hidH h13
      replace h14 := hidH h14
      replace h15 := hidH h15
      replace o15 := hidH o15
      go_wp2
      exact (HJ.out _ _ _).2 ⟨_, _, _, _, _, _, _, _, _, _, _, _, _, _, _, _, rfl, hE_5_6, hE_5_14, hE_5_15, hE_6_14, hE_6_15, hE_14_15, hE06, hE0, hO, hS, hZ, hR, hW0, o15.out, h0.out, h1.out, h2.out, h3.out, h4.out, h5.out, h6.out, fun _ => rfl, fun _ => rfl, h9.out, h10.out, h11.out, h12.out, h13.out, h14.out, h15.out⟩
    | 9, _ =>
      obtain ⟨ty, ps, af, ho⟩ := op_lit hops (i := 9) (op := Op.fieldAddr 39 (Operand.tmp 30) 4) (dst := some 31) (g := none) rfl
      obtain rfl := h8 (hdep 8 (by simp))
      refine wpOp_lit ho (fun j b h => by cases h) ?_
      clear hops hdep ho
      replace h0 := hidH h0
      replace h1 := hidH h1
      replace h2 := hidH h2
      replace h3 := hidH h3
      replace h4 := hidH h4
      replace h5 := hidH h5
      replace h6 := hidH h6
      replace h7 := hidH h7
      replace h8 := hidH h8
      replace h10 := hidH h10
      replace h11 := hidH h11
      replace h12 := hidH h12
      replace h13 := hidH h13
      replace h14 := hidH h14
      replace h15 := hidH h15
      replace o15 := hidH o15
      go_wp2
      exact (HJ.out _ _ _).2 ⟨_, _, _, _, _, _, _, _, _, _, _, _, _, _, _, _, rfl, hE_5_6, hE_5_14, hE_5_15, hE_6_14, hE_6_15, hE_14_15, hE06, hE0, hO, hS, hZ, hR, hW0, o15.out, h0.out, h1.out, h2.out, h3.out, h4.out, h5.out, h6.out, h7.out, fun _ => rfl, fun _ => rfl, h10.out, h11.out, h12.out, h13.out, h14.out, h15.out⟩
    | 10, _ =>
      obtain ⟨ty, ps, af, ho⟩ := op_lit hops (i := 10) (op := Op.load 22 (Operand.tmp 31)) (dst := some 32) (g := none) rfl
      obtain rfl := h9 (hdep 9 (by simp))
      refine wpOp_lit ho (fun j b h => by cases h) ?_
      clear hops hdep ho
      replace h0 := hidH h0
      replace h1 := hidH h1
      replace h2 := hidH h2
      replace h3 := hidH h3
      replace h4 := hidH h4
      replace h5 := hidH h5
      replace h6 := hidH h6
      replace h7 := hidH h7
      replace h8 := hidH h8
      replace h9 := hidH h9
      replace h11 := hidH h11
      replace h12 := hidH h12
      replace h13 := hidH h13
      replace h14 := hidH h14
      replace h15 := hidH h15
      replace o15 := hidH o15
      have q := (hO.cell (p := ⟨g, o + 4, none⟩) hgl).trans q4
      go_wp2
      exact (HJ.out _ _ _).2 ⟨_, _, _, _, _, _, _, _, _, _, _, _, _, _, _, _, rfl, hE_5_6, hE_5_14, hE_5_15, hE_6_14, hE_6_15, hE_14_15, hE06, hE0, hO, hS, hZ, hR, hW0, o15.out, h0.out, h1.out, h2.out, h3.out, h4.out, h5.out, h6.out, h7.out, h8.out, fun _ => rfl, fun _ => rfl, h11.out, h12.out, h13.out, h14.out, h15.out⟩
    | 11, _ =>
      obtain ⟨ty, ps, af, ho⟩ := op_lit hops (i := 11) (op := Op.call { callee := Callee.builtin Builtin.len, args := #[(Operand.tmp 32)], argTypes := #[22] }) (dst := some 33) (g := none) rfl
      obtain rfl := h10 (hdep 10 (by simp))
      refine wpOp_lit ho (fun j b h => by cases h) ?_
      clear hops hdep ho
      replace h0 := hidH h0
      replace h1 := hidH h1
      replace h2 := hidH h2
      replace h3 := hidH h3
      replace h4 := hidH h4
      replace h5 := hidH h5
      replace h6 := hidH h6
      replace h7 := hidH h7
      replace h8 := hidH h8
      replace h9 := hidH h9
      replace h10 := hidH h10
      replace h12 := hidH h12
      replace h13 := hidH h13
      replace h14 := hidH h14
      replace h15 := hidH h15
      replace o15 := hidH o15
      go_wp2
      exact (HJ.out _ _ _).2 ⟨_, _, _, _, _, _, _, _, _, _, _, _, _, _, _, _, rfl, hE_5_6, hE_5_14, hE_5_15, hE_6_14, hE_6_15, hE_14_15, hE06, hE0, hO, hS, hZ, hR, hW0, o15.out, h0.out, h1.out, h2.out, h3.out, h4.out, h5.out, h6.out, h7.out, h8.out, h9.out, fun _ => rfl, fun _ => rfl, h12.out, h13.out, h14.out, h15.out⟩
    | 12, _ =>
      obtain ⟨ty, ps, af, ho⟩ := op_lit hops (i := 12) (op := Op.convert 3 5 (Operand.tmp 33)) (dst := some 34) (g := none) rfl
      obtain rfl := h11 (hdep 11 (by simp))
      refine wpOp_lit ho (fun j b h => by cases h) ?_
      clear hops hdep ho
      replace h0 := hidH h0
      replace h1 := hidH h1
      replace h2 := hidH h2
      replace h3 := hidH h3
      replace h4 := hidH h4
      replace h5 := hidH h5
      replace h6 := hidH h6
      replace h7 := hidH h7
      replace h8 := hidH h8
      replace h9 := hidH h9
      replace h10 := hidH h10
      replace h11 := hidH h11
      replace h13 := hidH h13
      replace h14 := hidH h14
      replace h15 := hidH h15
      replace o15 := hidH o15
      go_wp2
      exact (HJ.out _ _ _).2 ⟨_, _, _, _, _, _, _, _, _, _, _, _, _, _, _, _, rfl, hE_5_6, hE_5_14, hE_5_15, hE_6_14, hE_6_15, hE_14_15, hE06, hE0, hO, hS, hZ, hR, hW0, o15.out, h0.out, h1.out, h2.out, h3.out, h4.out, h5.out, h6.out, h7.out, h8.out, h9.out, h10.out, fun _ => rfl, fun _ => rfl, h13.out, h14.out, h15.out⟩
    | 13, _ =>
      obtain ⟨ty, ps, af, ho⟩ := op_lit hops (i := 13) (op := Op.buildSlice 22 1 #[(0, (Operand.tmp 34))]) (dst := some 35) (g := none) rfl
      obtain rfl := h12 (hdep 12 (by simp))
      refine wpOp_lit ho (fun j b h => by cases h) ?_
      clear hops hdep ho
      replace h0 := hidH h0
      replace h1 := hidH h1
      replace h2 := hidH h2
      replace h3 := hidH h3
      replace h4 := hidH h4
      replace h5 := hidH h5
      replace h6 := hidH h6
      replace h7 := hidH h7
      replace h8 := hidH h8
      replace h9 := hidH h9
      replace h10 := hidH h10
      replace h11 := hidH h11
      replace h12 := hidH h12
      replace h14 := hidH h14
      replace h15 := hidH h15
      replace o15 := hidH o15
      have hb := bal (Below.refl W.heap.size W) (.cells #[.int .u8 (y.Cookie.length : Int)] 5)
      go_wp2
      exact (HJ.out _ _ _).2 ⟨_, _, _, _, _, _, _, _, _, _, _, _, _, _, _, _, rfl, hE_5_6, hE_5_14, hE_5_15, hE_6_14, hE_6_15, hE_14_15, hE06, hE0, btr hO hb, Nat.le_trans hS hb.size, Nat.le_trans hZ hb.size, hR.below hb, fun h => own_below0 (hW0 h) hb, o15.out, h0.out, h1.out, h2.out, h3.out, h4.out, (fun h h2 => by obtain ⟨A9, c9, q1, q2⟩ := h5.out h h2; exact ⟨A9, c9, q1, bs_below q2 hb⟩), fun h h2 => own_below0 (h6.out h h2) hb, h7.out, h8.out, h9.out, h10.out, h11.out, fun _ => rfl, fun _ => fun _ => ⟨_, rfl, hZ, Blk.new _ _ _⟩, fun h h2 => own_below0 (h14.out h h2) hb, fun h => own_below0 (h15.out h) hb⟩
    | 14, _ =>
      obtain ⟨ty, ps, af, ho⟩ := op_lit hops (i := 14) (op := Op.call { callee := Callee.builtin Builtin.append, args := #[(Operand.tmp 28), (Operand.tmp 35)], argTypes := #[22, 22] }) (dst := some 36) (g := none) rfl
      have hd6 := hidH (hdep 6 (by simp))
      have hd5 := hidH (hE_5_6 hd6.out)
      have o6 := hidH (h6 hd6.out hdn)
      obtain ⟨g2, rfl, _, q2⟩ := h13 (hdep 13 (by simp)) hdn
      refine wpOp_lit ho (fun j b h => by cases h) ?_
      clear hops hdep ho
      replace h0 := hidH h0
      replace h1 := hidH h1
      replace h2 := hidH h2
      replace h3 := hidH h3
      replace h4 := hidH h4
      replace h5 := hidH h5
      replace h6 := hidH h6
      replace h7 := hidH h7
      replace h8 := hidH h8
      replace h9 := hidH h9
      replace h10 := hidH h10
      replace h11 := hidH h11
      replace h12 := hidH h12
      replace h13 := hidH h13
      replace h15 := hidH h15
      replace o15 := hidH o15
      have s2 : Bs W (some ⟨g2, 0, none⟩) [(y.Cookie.length : Int)] := lit_bs1 q2
      have hsz := hS
      have hn0 := hidH (And.intro hn hal)
      go_wp2_with (at_builtin; refine wpList_append_bs rfl _ _ rfl b0 _ _ _ rfl o6.out (some ⟨g2, 0, none⟩) [(y.Cookie.length : Int)] 1 rfl s2 (by have := hn0.out; simp; omega) hsz ?_)
      intro v2 w2 o2 hg
      have GB := hidH hg
      have BB := hidH ((Below.refl b0 W).grown hg hsz (fun x hx => (o6.out.lt x hx).1))
      have O8 := hidH (show w2.ownsRow b0 5 1 v2 (n0 + (y.Addrs.length + 1 + 1)) (xs0 ++ (((((y.Addrs.length : Int) :: y.Addrs)).map (Value.int .u8)) ++ [.int .u8 (y.Cookie.length : Int)])) by simpa [Nat.add_assoc] using o2)
      clear o2 hg
      go_wp2
      exact (HJ.out _ _ _).2 ⟨_, _, _, _, _, _, _, _, _, _, _, _, _, _, _, _, rfl, hE_5_6, fun _ => hd5.out, hE_5_15, fun _ => hd6.out, hE_6_15, fun _ => rfl, hE06, hE0, hO.trans (BB.out.mono hB), Nat.le_trans hS BB.out.size, Nat.le_trans hZ BB.out.size, (BB.out.block R hRl).trans hR, (fun h => by have h3 : dn 6 = false := h; rw [hd6.out] at h3; cases h3), o15.out, h0.out, h1.out, h2.out, h3.out, h4.out, (fun _ h2 => by have h3 : dn 6 = false := h2; rw [hd6.out] at h3; cases h3), (fun _ h2 => by simp at h2), h7.out, h8.out, h9.out, h10.out, h11.out, h12.out, (fun _ h2 => by simp at h2), fun _ => fun _ => O8.out, (fun h => by have h3 : dn 14 = true := hE_14_15 h; rw [hdn] at h3; cases h3)⟩
    | 15, _ =>
      obtain ⟨ty, ps, af, ho⟩ := op_lit hops (i := 15) (op := Op.assign (Operand.tmp 36)) (dst := some 5) (g := none) rfl
      have hd14 := hidH (hdep 14 (by simp))
      have hd5 := hidH (hE_5_14 hd14.out)
      have hd6 := hidH (hE_6_14 hd14.out)
      have o14 := hidH (h14 hd14.out hdn)
      obtain rfl := o15 hdn
      refine wpOp_lit ho (fun j b h => by cases h) ?_
      clear hops hdep ho
      replace h0 := hidH h0
      replace h1 := hidH h1
      replace h2 := hidH h2
      replace h3 := hidH h3
      replace h4 := hidH h4
      replace h5 := hidH h5
      replace h6 := hidH h6
      replace h7 := hidH h7
      replace h8 := hidH h8
      replace h9 := hidH h9
      replace h10 := hidH h10
      replace h11 := hidH h11
      replace h12 := hidH h12
      replace h13 := hidH h13
      replace h14 := hidH h14
      have hb := Below.refl W.heap.size W
      go_wp2
      exact (HJ.out _ _ _).2 ⟨_, _, _, _, _, _, _, _, _, _, _, _, _, _, _, _, rfl, hE_5_6, hE_5_14, fun _ => hd5.out, hE_6_14, fun _ => hd6.out, fun _ => hd14.out, hE06, fun _ => hE06 hd6.out, btr hO hb, Nat.le_trans hS hb.size, Nat.le_trans hZ hb.size, hR.below hb, (fun h => by have h3 : dn 6 = false := h; rw [hd6.out] at h3; cases h3), (fun h => by simp at h), h0.out, h1.out, h2.out, h3.out, h4.out, (fun _ h2 => by have h3 : dn 6 = false := h2; rw [hd6.out] at h3; cases h3), (fun _ h2 => by have h3 : dn 14 = false := h2; rw [hd14.out] at h3; cases h3), h7.out, h8.out, h9.out, h10.out, h11.out, h12.out, (fun _ h2 => by have h3 : dn 14 = false := h2; rw [hd14.out] at h3; cases h3), (fun _ h2 => by simp at h2), fun _ => o14.out⟩
    | n + 16, h => omega
  case fin =>
    clear hops hdeps hback
    rintro dn ac W hJ hall
    obtain ⟨t22, t23, t24, t25, t26, t27, t28, t29, t30, t31, t32, t33, t34, t35, t36, t5, rfl, hE_5_6, hE_5_14, hE_5_15, hE_6_14, hE_6_15, hE_14_15, hE06, hE0, hO, hS, hZ, hR, hW0, o15, h0, h1, h2, h3, h4, h5, h6, h7, h8, h9, h10, h11, h12, h13, h14, h15⟩ := (HJ.out _ _ _).1 hJ
    exact fin _ _ _ _ _ _ _ _ _ _ _ _ _ _ _ _ W hO hS hZ hR (h15 (hall 15 (by omega)))
end Go.Proofs.YtjjileefdjjijaaDoor
