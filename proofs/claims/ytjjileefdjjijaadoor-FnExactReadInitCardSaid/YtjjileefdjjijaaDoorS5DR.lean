/- The regions of l5Data that draw their order. -/
import Derived.Test.YtjjileefdjjijaaDoorS5Data
import Derived.Test.YtjjileefdjjijaaDoorRegInv
namespace Go.Proofs.YtjjileefdjjijaaDoor
open Go.RowKit Go.Deep

theorem own_far {w : World} {B : Nat} {e : TypeId} {s n : Nat} {v : Value} {xs : List Value} (h : w.ownsRow B e s v n xs) {R i : Nat} (hR : R < B) (u : Value) : (w.setCell ⟨R, i, none⟩ u).ownsRow B e s v n xs := by
  obtain ⟨h1, h2 | ⟨g, cap, cur, h3, h4, h5, h6⟩⟩ := h
  · exact ⟨h1, .inl h2⟩
  · exact ⟨h1, .inr ⟨g, cap, cur, h3, h4, (Below.heap_setCell _ _ _ _ (by show g ≠ R; omega)).trans h5, h6⟩⟩
set_option maxRecDepth 100000 in
set_option maxHeartbeats 1000000 in
theorem regD8 {Q : Exit → Act → World → Prop} (x1 x2 x4 x5 x6 x7 x8 x9 x10 x11 x12 x13 x14 x15 x16 x17 x18 x19 x20 x21 x22 x23 x24 x25 : Value) (g o R R0 B : Nat) (f : Int) (z0 z1 z2 : Value) (y : DataM) (wq : World) (ht0 : 0 ≤ y.Tsn) (ht1 : y.Tsn ≤ 4294967295) (hs0 : 0 ≤ y.Stream) (hs1 : y.Stream < 65536) (hz0 : 0 ≤ y.Seq) (hz1 : y.Seq < 65536) (q0 : wq.cell? ⟨g, o, none⟩ = some (.int .i64 y.Tsn)) (q1 : wq.cell? ⟨g, o + 1, none⟩ = some (.int .i64 y.Stream)) (q2 : wq.cell? ⟨g, o + 2, none⟩ = some (.int .i64 y.Seq)) (hgB : g < B) (hB : B ≤ wq.heap.size) (hBR : B ≤ R) (hRl : R < wq.heap.size) (hR0l : R0 < wq.heap.size) (hne : R ≠ R0) {ops : Array Oper}
    (hops : (ops.map fun o => (o.op, o.dst, o.guard)) = #[(Op.move (Operand.tmp 0), some 26, none), (Op.nilCheck (Operand.tmp 26), some 27, none), (Op.fieldAddr 25 (Operand.tmp 27) 0, some 28, none), (Op.load 2 (Operand.tmp 28), some 29, none), (Op.call { callee := Callee.value (Operand.func 108), args := #[(Operand.tmp 29)], argTypes := #[2] }, some 30, none), (Op.move (Operand.tmp 0), some 31, none), (Op.nilCheck (Operand.tmp 31), some 32, none), (Op.fieldAddr 25 (Operand.tmp 32) 1, some 33, none), (Op.load 2 (Operand.tmp 33), some 34, none), (Op.call { callee := Callee.value (Operand.func 109), args := #[(Operand.tmp 34)], argTypes := #[2] }, some 35, none), (Op.call { callee := Callee.builtin Builtin.append, args := #[(Operand.tmp 30), (Operand.tmp 35)], argTypes := #[22, 22] }, some 36, none), (Op.move (Operand.tmp 0), some 37, none), (Op.nilCheck (Operand.tmp 37), some 38, none), (Op.fieldAddr 25 (Operand.tmp 38) 2, some 39, none), (Op.load 2 (Operand.tmp 39), some 40, none), (Op.call { callee := Callee.value (Operand.func 109), args := #[(Operand.tmp 40)], argTypes := #[2] }, some 41, none), (Op.call { callee := Callee.builtin Builtin.append, args := #[(Operand.tmp 36), (Operand.tmp 41)], argTypes := #[22, 22] }, some 42, none), (Op.fieldAddr 28 (Operand.tmp 3) 2, some 43, none), (Op.store 22 (Operand.tmp 43) (Operand.tmp 42), none, none)])
    (hdeps : ((List.range 19).all fun i => ((fun i => [[], [0], [1], [2], [3], [], [5], [6], [7], [4, 8], [4, 9], [], [11], [12], [13], [10, 14], [10, 15], [], [16, 17]].getD i []) i).all fun j => ((ops[i]?).map fun o => o.after.any fun e => Region.binds .any e && e.on == j).getD false) = true)
    (hback : ((List.range 19).all fun i => ((ops[i]?).map fun o => o.after.all fun e => decide (e.on < i)).getD false) = true)
    {a0 : Act} (ha : a0 = { tmps := #[.pointer (some ⟨g, o, none⟩), x1, x2, .pointer (some ⟨R, 0, none⟩), x4, x5, x6, x7, x8, x9, x10, x11, x12, x13, x14, x15, x16, x17, x18, x19, x20, x21, x22, x23, x24, x25, undef, undef, undef, undef, undef, undef, undef, undef, undef, undef, undef, undef, undef, undef, undef, undef, undef, undef, undef, undef, undef, undef, undef, undef, undef, undef, undef], defers := [] }) (hE_4_9 : false = true → false = true) (hE_4_10 : false = true → false = true) (hE_4_15 : false = true → false = true) (hE_4_16 : false = true → false = true) (hE_4_18 : false = true → false = true) (hE_9_10 : false = true → false = true) (hE_9_15 : false = true → false = true) (hE_9_16 : false = true → false = true) (hE_9_18 : false = true → false = true) (hE_10_15 : false = true → false = true) (hE_10_16 : false = true → false = true) (hE_10_18 : false = true → false = true) (hE_15_16 : false = true → false = true) (hE_15_18 : false = true → false = true) (hE_16_18 : false = true → false = true) (hO : Below B wq wq) (hS : wq.heap.size ≤ wq.heap.size) (hR0 : Blk wq R0 28 #[z0, z1, z2]) (hC0 : false = false → Blk wq R 28 #[.int .i64 0, .int .i64 f, .slice none 0 0])
    (fin : ∀ t26 t27 t28 t29 t30 t31 t32 t33 t34 t35 t36 t37 t38 t39 t40 t41 t42 t43 (W : World), (Below B wq W) → (wq.heap.size ≤ W.heap.size) → (Blk W R0 28 #[z0, z1, z2]) → (W.ownsRow wq.heap.size 5 1 t42 8 ((pk y.Tsn ++ pairL y.Stream ++ pairL y.Seq).map (Value.int .u8))) → (Blk W R 28 #[.int .i64 0, .int .i64 f, t42]) → Q .normal { tmps := #[.pointer (some ⟨g, o, none⟩), x1, x2, .pointer (some ⟨R, 0, none⟩), x4, x5, x6, x7, x8, x9, x10, x11, x12, x13, x14, x15, x16, x17, x18, x19, x20, x21, x22, x23, x24, x25, t26, t27, t28, t29, t30, t31, t32, t33, t34, t35, t36, t37, t38, t39, t40, t41, t42, t43, undef, undef, undef, undef, undef, undef, undef, undef, undef], defers := [] } W) :
    wpAny Tryd.prog .any ops Q ops.size (Array.replicate ops.size false) a0 wq := by
  have hn : ops.size = 19 := by have := congrArg Array.size hops; simpa using this
  obtain ⟨J, HJ⟩ : ∃ J : (Nat → Bool) → Act → World → Prop, ∀ dn ac W, J dn ac W ↔ (fun dn ac W => ∃ t26 t27 t28 t29 t30 t31 t32 t33 t34 t35 t36 t37 t38 t39 t40 t41 t42 t43, ac = { tmps := #[.pointer (some ⟨g, o, none⟩), x1, x2, .pointer (some ⟨R, 0, none⟩), x4, x5, x6, x7, x8, x9, x10, x11, x12, x13, x14, x15, x16, x17, x18, x19, x20, x21, x22, x23, x24, x25, t26, t27, t28, t29, t30, t31, t32, t33, t34, t35, t36, t37, t38, t39, t40, t41, t42, t43, undef, undef, undef, undef, undef, undef, undef, undef, undef], defers := [] } ∧ (dn 9 = true → dn 4 = true) ∧ (dn 10 = true → dn 4 = true) ∧ (dn 15 = true → dn 4 = true) ∧ (dn 16 = true → dn 4 = true) ∧ (dn 18 = true → dn 4 = true) ∧ (dn 10 = true → dn 9 = true) ∧ (dn 15 = true → dn 9 = true) ∧ (dn 16 = true → dn 9 = true) ∧ (dn 18 = true → dn 9 = true) ∧ (dn 15 = true → dn 10 = true) ∧ (dn 16 = true → dn 10 = true) ∧ (dn 18 = true → dn 10 = true) ∧ (dn 16 = true → dn 15 = true) ∧ (dn 18 = true → dn 15 = true) ∧ (dn 18 = true → dn 16 = true) ∧ (Below B wq W) ∧ (wq.heap.size ≤ W.heap.size) ∧ (Blk W R0 28 #[z0, z1, z2]) ∧ (dn 18 = false → Blk W R 28 #[.int .i64 0, .int .i64 f, .slice none 0 0]) ∧ (dn 0 = true → t26 = .pointer (some ⟨g, o, none⟩)) ∧ (dn 1 = true → t27 = .pointer (some ⟨g, o, none⟩)) ∧ (dn 2 = true → t28 = .pointer (some ⟨g, o, none⟩)) ∧ (dn 3 = true → t29 = .int .i64 y.Tsn) ∧ (dn 4 = true → dn 10 = false → W.ownsRow wq.heap.size 5 1 t30 4 ((pk y.Tsn).map (Value.int .u8))) ∧ (dn 5 = true → t31 = .pointer (some ⟨g, o, none⟩)) ∧ (dn 6 = true → t32 = .pointer (some ⟨g, o, none⟩)) ∧ (dn 7 = true → t33 = .pointer (some ⟨g, o + 1, none⟩)) ∧ (dn 8 = true → t34 = .int .i64 y.Stream) ∧ (dn 9 = true → dn 10 = false → ∃ g2 : Nat, t35 = .slice (some ⟨g2, 0, none⟩) 2 2 ∧ Blk W g2 5 #[.int .u8 (y.Stream / 256), .int .u8 (y.Stream % 256)]) ∧ (dn 10 = true → dn 16 = false → W.ownsRow wq.heap.size 5 1 t36 6 ((pk y.Tsn ++ pairL y.Stream).map (Value.int .u8))) ∧ (dn 11 = true → t37 = .pointer (some ⟨g, o, none⟩)) ∧ (dn 12 = true → t38 = .pointer (some ⟨g, o, none⟩)) ∧ (dn 13 = true → t39 = .pointer (some ⟨g, o + 2, none⟩)) ∧ (dn 14 = true → t40 = .int .i64 y.Seq) ∧ (dn 15 = true → dn 16 = false → ∃ g2 : Nat, t41 = .slice (some ⟨g2, 0, none⟩) 2 2 ∧ Blk W g2 5 #[.int .u8 (y.Seq / 256), .int .u8 (y.Seq % 256)]) ∧ (dn 16 = true → W.ownsRow wq.heap.size 5 1 t42 8 ((pk y.Tsn ++ pairL y.Stream ++ pairL y.Seq).map (Value.int .u8))) ∧ (dn 17 = true → t43 = .pointer (some ⟨R, 2, none⟩)) ∧ (dn 18 = true → Blk W R 28 #[.int .i64 0, .int .i64 f, t42])) dn ac W := ⟨_, fun _ _ _ => Iff.rfl⟩
  replace HJ := hidH HJ
  refine region_inv 19 (fun i => [[], [0], [1], [2], [3], [], [5], [6], [7], [4, 8], [4, 9], [], [11], [12], [13], [10, 14], [10, 15], [], [16, 17]].getD i []) J hn hdeps hback ?start ?step ?fin
  case start => exact (HJ.out _ _ _).2 ⟨undef, undef, undef, undef, undef, undef, undef, undef, undef, undef, undef, undef, undef, undef, undef, undef, undef, undef, ha, hE_4_9, hE_4_10, hE_4_15, hE_4_16, hE_4_18, hE_9_10, hE_9_15, hE_9_16, hE_9_18, hE_10_15, hE_10_16, hE_10_18, hE_15_16, hE_15_18, hE_16_18, hO, hS, hR0, hC0, fun h => by simp at h, fun h => by simp at h, fun h => by simp at h, fun h => by simp at h, fun h => by simp at h, fun h => by simp at h, fun h => by simp at h, fun h => by simp at h, fun h => by simp at h, fun h => by simp at h, fun h => by simp at h, fun h => by simp at h, fun h => by simp at h, fun h => by simp at h, fun h => by simp at h, fun h => by simp at h, fun h => by simp at h, fun h => by simp at h, fun h => by simp at h⟩
  all_goals clear ha hE_4_9 hE_4_10 hE_4_15 hE_4_16 hE_4_18 hE_9_10 hE_9_15 hE_9_16 hE_9_18 hE_10_15 hE_10_16 hE_10_18 hE_15_16 hE_15_18 hE_16_18 hO hS hR0 hC0
  case step =>
    clear fin hdeps hback
    intro i hi dn ac W hJ hdn hdep
    obtain ⟨t26, t27, t28, t29, t30, t31, t32, t33, t34, t35, t36, t37, t38, t39, t40, t41, t42, t43, rfl, hE_4_9, hE_4_10, hE_4_15, hE_4_16, hE_4_18, hE_9_10, hE_9_15, hE_9_16, hE_9_18, hE_10_15, hE_10_16, hE_10_18, hE_15_16, hE_15_18, hE_16_18, hO, hS, hR0, hC0, h0, h1, h2, h3, h4, h5, h6, h7, h8, h9, h10, h11, h12, h13, h14, h15, h16, h17, h18⟩ := (HJ.out _ _ _).1 hJ
    clear hJ
    match i, hi with
    | 0, _ =>
      obtain ⟨ty, ps, af, ho⟩ := op_lit hops (i := 0) (op := Op.move (Operand.tmp 0)) (dst := some 26) (g := none) rfl
      refine wpOp_lit ho (fun j b h => by cases h) ?_
      clear hops hdep ho
      replace h1 := hidH h1
      replace h2 := hidH h2
      replace h3 := hidH h3
      replace h4 := hidH h4
      replace h5 := hidH h5
      replace h6 := hidH h6
      replace h7 := hidH h7
      replace h8 := hidH h8
      replace h9 := hidH h9
      replace h10 := hidH h10
      replace h11 := hidH h11
      replace h12 := hidH h12
      replace h13 := hidH h13
      replace h14 := hidH h14
      replace h15 := hidH h15
      replace h16 := hidH h16
      replace h17 := hidH h17
      replace h18 := hidH h18
      go_wp2
      exact (HJ.out _ _ _).2 ⟨_, _, _, _, _, _, _, _, _, _, _, _, _, _, _, _, _, _, rfl, hE_4_9, hE_4_10, hE_4_15, hE_4_16, hE_4_18, hE_9_10, hE_9_15, hE_9_16, hE_9_18, hE_10_15, hE_10_16, hE_10_18, hE_15_16, hE_15_18, hE_16_18, hO, hS, hR0, hC0, fun _ => rfl, h1.out, h2.out, h3.out, h4.out, h5.out, h6.out, h7.out, h8.out, h9.out, h10.out, h11.out, h12.out, h13.out, h14.out, h15.out, h16.out, h17.out, h18.out⟩
    | 1, _ =>
      obtain ⟨ty, ps, af, ho⟩ := op_lit hops (i := 1) (op := Op.nilCheck (Operand.tmp 26)) (dst := some 27) (g := none) rfl
      obtain rfl := h0 (hdep 0 (by simp))
      refine wpOp_lit ho (fun j b h => by cases h) ?_
      clear hops hdep ho
      replace h0 := hidH h0
      replace h2 := hidH h2
      replace h3 := hidH h3
      replace h4 := hidH h4
      replace h5 := hidH h5
      replace h6 := hidH h6
      replace h7 := hidH h7
      replace h8 := hidH h8
      replace h9 := hidH h9
      replace h10 := hidH h10
      replace h11 := hidH h11
      replace h12 := hidH h12
      replace h13 := hidH h13
      replace h14 := hidH h14
      replace h15 := hidH h15
      replace h16 := hidH h16
      replace h17 := hidH h17
      replace h18 := hidH h18
      go_wp2
      exact (HJ.out _ _ _).2 ⟨_, _, _, _, _, _, _, _, _, _, _, _, _, _, _, _, _, _, rfl, hE_4_9, hE_4_10, hE_4_15, hE_4_16, hE_4_18, hE_9_10, hE_9_15, hE_9_16, hE_9_18, hE_10_15, hE_10_16, hE_10_18, hE_15_16, hE_15_18, hE_16_18, hO, hS, hR0, hC0, fun _ => rfl, fun _ => rfl, h2.out, h3.out, h4.out, h5.out, h6.out, h7.out, h8.out, h9.out, h10.out, h11.out, h12.out, h13.out, h14.out, h15.out, h16.out, h17.out, h18.out⟩
    | 2, _ =>
      obtain ⟨ty, ps, af, ho⟩ := op_lit hops (i := 2) (op := Op.fieldAddr 25 (Operand.tmp 27) 0) (dst := some 28) (g := none) rfl
      obtain rfl := h1 (hdep 1 (by simp))
      refine wpOp_lit ho (fun j b h => by cases h) ?_
      clear hops hdep ho
      replace h0 := hidH h0
      replace h1 := hidH h1
      replace h3 := hidH h3
      replace h4 := hidH h4
      replace h5 := hidH h5
      replace h6 := hidH h6
      replace h7 := hidH h7
      replace h8 := hidH h8
      replace h9 := hidH h9
      replace h10 := hidH h10
      replace h11 := hidH h11
      replace h12 := hidH h12
      replace h13 := hidH h13
      replace h14 := hidH h14
      replace h15 := hidH h15
      replace h16 := hidH h16
      replace h17 := hidH h17
      replace h18 := hidH h18
      go_wp2
      exact (HJ.out _ _ _).2 ⟨_, _, _, _, _, _, _, _, _, _, _, _, _, _, _, _, _, _, rfl, hE_4_9, hE_4_10, hE_4_15, hE_4_16, hE_4_18, hE_9_10, hE_9_15, hE_9_16, hE_9_18, hE_10_15, hE_10_16, hE_10_18, hE_15_16, hE_15_18, hE_16_18, hO, hS, hR0, hC0, h0.out, fun _ => rfl, fun _ => rfl, h3.out, h4.out, h5.out, h6.out, h7.out, h8.out, h9.out, h10.out, h11.out, h12.out, h13.out, h14.out, h15.out, h16.out, h17.out, h18.out⟩
    | 3, _ =>
      obtain ⟨ty, ps, af, ho⟩ := op_lit hops (i := 3) (op := Op.load 2 (Operand.tmp 28)) (dst := some 29) (g := none) rfl
      obtain rfl := h2 (hdep 2 (by simp))
      refine wpOp_lit ho (fun j b h => by cases h) ?_
      clear hops hdep ho
      replace h0 := hidH h0
      replace h1 := hidH h1
      replace h2 := hidH h2
      replace h4 := hidH h4
      replace h5 := hidH h5
      replace h6 := hidH h6
      replace h7 := hidH h7
      replace h8 := hidH h8
      replace h9 := hidH h9
      replace h10 := hidH h10
      replace h11 := hidH h11
      replace h12 := hidH h12
      replace h13 := hidH h13
      replace h14 := hidH h14
      replace h15 := hidH h15
      replace h16 := hidH h16
      replace h17 := hidH h17
      replace h18 := hidH h18
      have q := (hO.cell (p := ⟨g, o, none⟩) hgB).trans q0
      go_wp2
      exact (HJ.out _ _ _).2 ⟨_, _, _, _, _, _, _, _, _, _, _, _, _, _, _, _, _, _, rfl, hE_4_9, hE_4_10, hE_4_15, hE_4_16, hE_4_18, hE_9_10, hE_9_15, hE_9_16, hE_9_18, hE_10_15, hE_10_16, hE_10_18, hE_15_16, hE_15_18, hE_16_18, hO, hS, hR0, hC0, h0.out, h1.out, fun _ => rfl, fun _ => rfl, h4.out, h5.out, h6.out, h7.out, h8.out, h9.out, h10.out, h11.out, h12.out, h13.out, h14.out, h15.out, h16.out, h17.out, h18.out⟩
    | 4, _ =>
      obtain ⟨ty, ps, af, ho⟩ := op_lit hops (i := 4) (op := Op.call { callee := Callee.value (Operand.func 108), args := #[(Operand.tmp 29)], argTypes := #[2] }) (dst := some 30) (g := none) rfl
      obtain rfl := h3 (hdep 3 (by simp))
      refine wpOp_lit ho (fun j b h => by cases h) ?_
      clear hops hdep ho
      replace h0 := hidH h0
      replace h1 := hidH h1
      replace h2 := hidH h2
      replace h3 := hidH h3
      replace h5 := hidH h5
      replace h6 := hidH h6
      replace h7 := hidH h7
      replace h8 := hidH h8
      replace h9 := hidH h9
      replace h10 := hidH h10
      replace h11 := hidH h11
      replace h12 := hidH h12
      replace h13 := hidH h13
      replace h14 := hidH h14
      replace h15 := hidH h15
      replace h16 := hidH h16
      replace h17 := hidH h17
      replace h18 := hidH h18
      go_wp2_with fail
      refine (l1Pack_any _ _ ht0 ht1).mono ?_
      rintro e w1 ⟨rfl, rfl⟩
      have hb := bal (Below.refl W.heap.size W) (.cells #[.int .u8 (y.Tsn / 16777216), .int .u8 (y.Tsn / 65536 % 256), .int .u8 (y.Tsn / 256 % 256), .int .u8 (y.Tsn % 256)] 5)
      go_wp2
      exact (HJ.out _ _ _).2 ⟨_, _, _, _, _, _, _, _, _, _, _, _, _, _, _, _, _, _, rfl, fun _ => rfl, fun _ => rfl, fun _ => rfl, fun _ => rfl, fun _ => rfl, hE_9_10, hE_9_15, hE_9_16, hE_9_18, hE_10_15, hE_10_16, hE_10_18, hE_15_16, hE_15_18, hE_16_18, hO.trans (hb.mono (Nat.le_trans hB hS)), Nat.le_trans hS hb.size, hR0.below hb, fun h => (hC0 h).below hb, h0.out, h1.out, h2.out, fun _ => rfl, fun _ => fun _ => World.ownsRow_lit _ #[.int .u8 (y.Tsn / 16777216), .int .u8 (y.Tsn / 65536 % 256), .int .u8 (y.Tsn / 256 % 256), .int .u8 (y.Tsn % 256)] 4 hS (by unfold maxLen; omega) rfl, h5.out, h6.out, h7.out, h8.out, (fun h => by have h3 : dn 4 = true := hE_4_9 h; rw [hdn] at h3; cases h3), (fun h => by have h3 : dn 4 = true := hE_4_10 h; rw [hdn] at h3; cases h3), h11.out, h12.out, h13.out, h14.out, (fun h => by have h3 : dn 4 = true := hE_4_15 h; rw [hdn] at h3; cases h3), (fun h => by have h3 : dn 4 = true := hE_4_16 h; rw [hdn] at h3; cases h3), h17.out, (fun h => by have h3 : dn 4 = true := hE_4_18 h; rw [hdn] at h3; cases h3)⟩
    | 5, _ =>
      obtain ⟨ty, ps, af, ho⟩ := op_lit hops (i := 5) (op := Op.move (Operand.tmp 0)) (dst := some 31) (g := none) rfl
      refine wpOp_lit ho (fun j b h => by cases h) ?_
      clear hops hdep ho
      replace h0 := hidH h0
      replace h1 := hidH h1
      replace h2 := hidH h2
      replace h3 := hidH h3
      replace h4 := hidH h4
      replace h6 := hidH h6
      replace h7 := hidH h7
      replace h8 := hidH h8
      replace h9 := hidH h9
      replace h10 := hidH h10
      replace h11 := hidH h11
      replace h12 := hidH h12
      replace h13 := hidH h13
      replace h14 := hidH h14
      replace h15 := hidH h15
      replace h16 := hidH h16
      replace h17 := hidH h17
      replace h18 := hidH h18
      go_wp2
      exact (HJ.out _ _ _).2 ⟨_, _, _, _, _, _, _, _, _, _, _, _, _, _, _, _, _, _, rfl, hE_4_9, hE_4_10, hE_4_15, hE_4_16, hE_4_18, hE_9_10, hE_9_15, hE_9_16, hE_9_18, hE_10_15, hE_10_16, hE_10_18, hE_15_16, hE_15_18, hE_16_18, hO, hS, hR0, hC0, h0.out, h1.out, h2.out, h3.out, h4.out, fun _ => rfl, h6.out, h7.out, h8.out, h9.out, h10.out, h11.out, h12.out, h13.out, h14.out, h15.out, h16.out, h17.out, h18.out⟩
    | 6, _ =>
      obtain ⟨ty, ps, af, ho⟩ := op_lit hops (i := 6) (op := Op.nilCheck (Operand.tmp 31)) (dst := some 32) (g := none) rfl
      obtain rfl := h5 (hdep 5 (by simp))
      refine wpOp_lit ho (fun j b h => by cases h) ?_
      clear hops hdep ho
      replace h0 := hidH h0
      replace h1 := hidH h1
      replace h2 := hidH h2
      replace h3 := hidH h3
      replace h4 := hidH h4
      replace h5 := hidH h5
      replace h7 := hidH h7
      replace h8 := hidH h8
      replace h9 := hidH h9
      replace h10 := hidH h10
      replace h11 := hidH h11
      replace h12 := hidH h12
      replace h13 := hidH h13
      replace h14 := hidH h14
      replace h15 := hidH h15
      replace h16 := hidH h16
      replace h17 := hidH h17
      replace h18 := hidH h18
      go_wp2
      exact (HJ.out _ _ _).2 ⟨_, _, _, _, _, _, _, _, _, _, _, _, _, _, _, _, _, _, rfl, hE_4_9, hE_4_10, hE_4_15, hE_4_16, hE_4_18, hE_9_10, hE_9_15, hE_9_16, hE_9_18, hE_10_15, hE_10_16, hE_10_18, hE_15_16, hE_15_18, hE_16_18, hO, hS, hR0, hC0, h0.out, h1.out, h2.out, h3.out, h4.out, fun _ => rfl, fun _ => rfl, h7.out, h8.out, h9.out, h10.out, h11.out, h12.out, h13.out, h14.out, h15.out, h16.out, h17.out, h18.out⟩
    | 7, _ =>
      obtain ⟨ty, ps, af, ho⟩ := op_lit hops (i := 7) (op := Op.fieldAddr 25 (Operand.tmp 32) 1) (dst := some 33) (g := none) rfl
      obtain rfl := h6 (hdep 6 (by simp))
      refine wpOp_lit ho (fun j b h => by cases h) ?_
      clear hops hdep ho
      replace h0 := hidH h0
      replace h1 := hidH h1
      replace h2 := hidH h2
      replace h3 := hidH h3
      replace h4 := hidH h4
      replace h5 := hidH h5
      replace h6 := hidH h6
      replace h8 := hidH h8
      replace h9 := hidH h9
      replace h10 := hidH h10
      replace h11 := hidH h11
      replace h12 := hidH h12
      replace h13 := hidH h13
      replace h14 := hidH h14
      replace h15 := hidH h15
      replace h16 := hidH h16
      replace h17 := hidH h17
      replace h18 := hidH h18
      go_wp2
      exact (HJ.out _ _ _).2 ⟨_, _, _, _, _, _, _, _, _, _, _, _, _, _, _, _, _, _, rfl, hE_4_9, hE_4_10, hE_4_15, hE_4_16, hE_4_18, hE_9_10, hE_9_15, hE_9_16, hE_9_18, hE_10_15, hE_10_16, hE_10_18, hE_15_16, hE_15_18, hE_16_18, hO, hS, hR0, hC0, h0.out, h1.out, h2.out, h3.out, h4.out, h5.out, fun _ => rfl, fun _ => rfl, h8.out, h9.out, h10.out, h11.out, h12.out, h13.out, h14.out, h15.out, h16.out, h17.out, h18.out⟩
    | 8, _ =>
      obtain ⟨ty, ps, af, ho⟩ := op_lit hops (i := 8) (op := Op.load 2 (Operand.tmp 33)) (dst := some 34) (g := none) rfl
      obtain rfl := h7 (hdep 7 (by simp))
      refine wpOp_lit ho (fun j b h => by cases h) ?_
      clear hops hdep ho
      replace h0 := hidH h0
      replace h1 := hidH h1
      replace h2 := hidH h2
      replace h3 := hidH h3
      replace h4 := hidH h4
      replace h5 := hidH h5
      replace h6 := hidH h6
      replace h7 := hidH h7
      replace h9 := hidH h9
      replace h10 := hidH h10
      replace h11 := hidH h11
      replace h12 := hidH h12
      replace h13 := hidH h13
      replace h14 := hidH h14
      replace h15 := hidH h15
      replace h16 := hidH h16
      replace h17 := hidH h17
      replace h18 := hidH h18
      have q := (hO.cell (p := ⟨g, o + 1, none⟩) hgB).trans q1
      go_wp2
      exact (HJ.out _ _ _).2 ⟨_, _, _, _, _, _, _, _, _, _, _, _, _, _, _, _, _, _, rfl, hE_4_9, hE_4_10, hE_4_15, hE_4_16, hE_4_18, hE_9_10, hE_9_15, hE_9_16, hE_9_18, hE_10_15, hE_10_16, hE_10_18, hE_15_16, hE_15_18, hE_16_18, hO, hS, hR0, hC0, h0.out, h1.out, h2.out, h3.out, h4.out, h5.out, h6.out, fun _ => rfl, fun _ => rfl, h9.out, h10.out, h11.out, h12.out, h13.out, h14.out, h15.out, h16.out, h17.out, h18.out⟩
    | 9, _ =>
      obtain ⟨ty, ps, af, ho⟩ := op_lit hops (i := 9) (op := Op.call { callee := Callee.value (Operand.func 109), args := #[(Operand.tmp 34)], argTypes := #[2] }) (dst := some 35) (g := none) rfl
      have hd4 := hidH (hdep 4 (by simp))
      obtain rfl := h8 (hdep 8 (by simp))
      refine wpOp_lit ho (fun j b h => by cases h) ?_
      clear hops hdep ho
      replace h0 := hidH h0
      replace h1 := hidH h1
      replace h2 := hidH h2
      replace h3 := hidH h3
      replace h4 := hidH h4
      replace h5 := hidH h5
      replace h6 := hidH h6
      replace h7 := hidH h7
      replace h8 := hidH h8
      replace h10 := hidH h10
      replace h11 := hidH h11
      replace h12 := hidH h12
      replace h13 := hidH h13
      replace h14 := hidH h14
      replace h15 := hidH h15
      replace h16 := hidH h16
      replace h17 := hidH h17
      replace h18 := hidH h18
      go_wp2_with fail
      refine (pair_any _ _ hs0 hs1).mono ?_
      rintro e w1 ⟨rfl, rfl⟩
      have hb := bal (Below.refl W.heap.size W) (.cells #[.int .u8 (y.Stream / 256), .int .u8 (y.Stream % 256)] 5)
      go_wp2
      exact (HJ.out _ _ _).2 ⟨_, _, _, _, _, _, _, _, _, _, _, _, _, _, _, _, _, _, rfl, fun _ => hd4.out, hE_4_10, hE_4_15, hE_4_16, hE_4_18, fun _ => rfl, fun _ => rfl, fun _ => rfl, fun _ => rfl, hE_10_15, hE_10_16, hE_10_18, hE_15_16, hE_15_18, hE_16_18, hO.trans (hb.mono (Nat.le_trans hB hS)), Nat.le_trans hS hb.size, hR0.below hb, fun h => (hC0 h).below hb, h0.out, h1.out, h2.out, h3.out, fun h h2 => own_below0 (h4.out h h2) hb, h5.out, h6.out, h7.out, fun _ => rfl, fun _ => fun _ => ⟨_, rfl, Blk.new _ _ _⟩, (fun h => by have h3 : dn 9 = true := hE_9_10 h; rw [hdn] at h3; cases h3), h11.out, h12.out, h13.out, h14.out, (fun h => by have h3 : dn 9 = true := hE_9_15 h; rw [hdn] at h3; cases h3), (fun h => by have h3 : dn 9 = true := hE_9_16 h; rw [hdn] at h3; cases h3), h17.out, (fun h => by have h3 : dn 9 = true := hE_9_18 h; rw [hdn] at h3; cases h3)⟩
    | 10, _ =>
      obtain ⟨ty, ps, af, ho⟩ := op_lit hops (i := 10) (op := Op.call { callee := Callee.builtin Builtin.append, args := #[(Operand.tmp 30), (Operand.tmp 35)], argTypes := #[22, 22] }) (dst := some 36) (g := none) rfl
      have hd9 := hidH (hdep 9 (by simp))
      have hd4 := hidH (hE_4_9 hd9.out)
      have o4 := hidH (h4 hd4.out hdn)
      obtain ⟨g2, rfl, q2⟩ := h9 hd9.out hdn
      refine wpOp_lit ho (fun j b h => by cases h) ?_
      clear hops hdep ho
      replace h0 := hidH h0
      replace h1 := hidH h1
      replace h2 := hidH h2
      replace h3 := hidH h3
      replace h4 := hidH h4
      replace h5 := hidH h5
      replace h6 := hidH h6
      replace h7 := hidH h7
      replace h8 := hidH h8
      replace h9 := hidH h9
      replace h11 := hidH h11
      replace h12 := hidH h12
      replace h13 := hidH h13
      replace h14 := hidH h14
      replace h15 := hidH h15
      replace h16 := hidH h16
      replace h17 := hidH h17
      replace h18 := hidH h18
      have s2 : Bs W (some ⟨g2, 0, none⟩) (pairL y.Stream) := lit_bs2 q2
      have hsz := hS
      go_wp2_with (at_builtin; refine wpList_append_bs rfl _ _ rfl wq.heap.size _ _ _ rfl o4.out (some ⟨g2, 0, none⟩) (pairL y.Stream) 2 rfl s2 (by simp [pairL]) hsz ?_)
      intro v2 w2 o2 hg
      have BB := hidH ((Below.refl wq.heap.size W).grown hg hsz (fun x hx => (o4.out.lt x hx).1))
      have O8 := hidH (show w2.ownsRow wq.heap.size 5 1 v2 6 ((pk y.Tsn ++ pairL y.Stream).map (Value.int .u8)) by simpa [pairL, pk] using o2)
      clear o2 hg
      go_wp2
      exact (HJ.out _ _ _).2 ⟨_, _, _, _, _, _, _, _, _, _, _, _, _, _, _, _, _, _, rfl, hE_4_9, fun _ => hd4.out, hE_4_15, hE_4_16, hE_4_18, fun _ => hd9.out, hE_9_15, hE_9_16, hE_9_18, fun _ => rfl, fun _ => rfl, fun _ => rfl, hE_15_16, hE_15_18, hE_16_18, hO.trans (BB.out.mono hB), Nat.le_trans hS BB.out.size, (BB.out.block R0 hR0l).trans hR0, fun h => (BB.out.block R hRl).trans (hC0 h), h0.out, h1.out, h2.out, h3.out, (fun _ h2 => by simp at h2), h5.out, h6.out, h7.out, h8.out, (fun _ h2 => by simp at h2), fun _ => fun _ => O8.out, h11.out, h12.out, h13.out, h14.out, (fun h => by have h3 : dn 10 = true := hE_10_15 h; rw [hdn] at h3; cases h3), (fun h => by have h3 : dn 10 = true := hE_10_16 h; rw [hdn] at h3; cases h3), h17.out, (fun h => by have h3 : dn 10 = true := hE_10_18 h; rw [hdn] at h3; cases h3)⟩
    | 11, _ =>
      obtain ⟨ty, ps, af, ho⟩ := op_lit hops (i := 11) (op := Op.move (Operand.tmp 0)) (dst := some 37) (g := none) rfl
      refine wpOp_lit ho (fun j b h => by cases h) ?_
      clear hops hdep ho
      replace h0 := hidH h0
      replace h1 := hidH h1
      replace h2 := hidH h2
      replace h3 := hidH h3
      replace h4 := hidH h4
      replace h5 := hidH h5
      replace h6 := hidH h6
      replace h7 := hidH h7
      replace h8 := hidH h8
      replace h9 := hidH h9
      replace h10 := hidH h10
      replace h12 := hidH h12
      replace h13 := hidH h13
      replace h14 := hidH h14
      replace h15 := hidH h15
      replace h16 := hidH h16
      replace h17 := hidH h17
      replace h18 := hidH h18
      go_wp2
      exact (HJ.out _ _ _).2 ⟨_, _, _, _, _, _, _, _, _, _, _, _, _, _, _, _, _, _, rfl, hE_4_9, hE_4_10, hE_4_15, hE_4_16, hE_4_18, hE_9_10, hE_9_15, hE_9_16, hE_9_18, hE_10_15, hE_10_16, hE_10_18, hE_15_16, hE_15_18, hE_16_18, hO, hS, hR0, hC0, h0.out, h1.out, h2.out, h3.out, h4.out, h5.out, h6.out, h7.out, h8.out, h9.out, h10.out, fun _ => rfl, h12.out, h13.out, h14.out, h15.out, h16.out, h17.out, h18.out⟩
    | 12, _ =>
      obtain ⟨ty, ps, af, ho⟩ := op_lit hops (i := 12) (op := Op.nilCheck (Operand.tmp 37)) (dst := some 38) (g := none) rfl
      obtain rfl := h11 (hdep 11 (by simp))
      refine wpOp_lit ho (fun j b h => by cases h) ?_
      clear hops hdep ho
      replace h0 := hidH h0
      replace h1 := hidH h1
      replace h2 := hidH h2
      replace h3 := hidH h3
      replace h4 := hidH h4
      replace h5 := hidH h5
      replace h6 := hidH h6
      replace h7 := hidH h7
      replace h8 := hidH h8
      replace h9 := hidH h9
      replace h10 := hidH h10
      replace h11 := hidH h11
      replace h13 := hidH h13
      replace h14 := hidH h14
      replace h15 := hidH h15
      replace h16 := hidH h16
      replace h17 := hidH h17
      replace h18 := hidH h18
      go_wp2
      exact (HJ.out _ _ _).2 ⟨_, _, _, _, _, _, _, _, _, _, _, _, _, _, _, _, _, _, rfl, hE_4_9, hE_4_10, hE_4_15, hE_4_16, hE_4_18, hE_9_10, hE_9_15, hE_9_16, hE_9_18, hE_10_15, hE_10_16, hE_10_18, hE_15_16, hE_15_18, hE_16_18, hO, hS, hR0, hC0, h0.out, h1.out, h2.out, h3.out, h4.out, h5.out, h6.out, h7.out, h8.out, h9.out, h10.out, fun _ => rfl, fun _ => rfl, h13.out, h14.out, h15.out, h16.out, h17.out, h18.out⟩
    | 13, _ =>
      obtain ⟨ty, ps, af, ho⟩ := op_lit hops (i := 13) (op := Op.fieldAddr 25 (Operand.tmp 38) 2) (dst := some 39) (g := none) rfl
      obtain rfl := h12 (hdep 12 (by simp))
      refine wpOp_lit ho (fun j b h => by cases h) ?_
      clear hops hdep ho
      replace h0 := hidH h0
      replace h1 := hidH h1
      replace h2 := hidH h2
      replace h3 := hidH h3
      replace h4 := hidH h4
      replace h5 := hidH h5
      replace h6 := hidH h6
      replace h7 := hidH h7
      replace h8 := hidH h8
      replace h9 := hidH h9
      replace h10 := hidH h10
      replace h11 := hidH h11
      replace h12 := hidH h12
      replace h14 := hidH h14
      replace h15 := hidH h15
      replace h16 := hidH h16
      replace h17 := hidH h17
      replace h18 := hidH h18
      go_wp2
      exact (HJ.out _ _ _).2 ⟨_, _, _, _, _, _, _, _, _, _, _, _, _, _, _, _, _, _, rfl, hE_4_9, hE_4_10, hE_4_15, hE_4_16, hE_4_18, hE_9_10, hE_9_15, hE_9_16, hE_9_18, hE_10_15, hE_10_16, hE_10_18, hE_15_16, hE_15_18, hE_16_18, hO, hS, hR0, hC0, h0.out, h1.out, h2.out, h3.out, h4.out, h5.out, h6.out, h7.out, h8.out, h9.out, h10.out, h11.out, fun _ => rfl, fun _ => rfl, h14.out, h15.out, h16.out, h17.out, h18.out⟩
    | 14, _ =>
      obtain ⟨ty, ps, af, ho⟩ := op_lit hops (i := 14) (op := Op.load 2 (Operand.tmp 39)) (dst := some 40) (g := none) rfl
      obtain rfl := h13 (hdep 13 (by simp))
      refine wpOp_lit ho (fun j b h => by cases h) ?_
      clear hops hdep ho
      replace h0 := hidH h0
      replace h1 := hidH h1
      replace h2 := hidH h2
      replace h3 := hidH h3
      replace h4 := hidH h4
      replace h5 := hidH h5
      replace h6 := hidH h6
      replace h7 := hidH h7
      replace h8 := hidH h8
      replace h9 := hidH h9
      replace h10 := hidH h10
      replace h11 := hidH h11
      replace h12 := hidH h12
      replace h13 := hidH h13
      replace h15 := hidH h15
      replace h16 := hidH h16
      replace h17 := hidH h17
      replace h18 := hidH h18
      have q := (hO.cell (p := ⟨g, o + 2, none⟩) hgB).trans q2
      go_wp2
      exact (HJ.out _ _ _).2 ⟨_, _, _, _, _, _, _, _, _, _, _, _, _, _, _, _, _, _, rfl, hE_4_9, hE_4_10, hE_4_15, hE_4_16, hE_4_18, hE_9_10, hE_9_15, hE_9_16, hE_9_18, hE_10_15, hE_10_16, hE_10_18, hE_15_16, hE_15_18, hE_16_18, hO, hS, hR0, hC0, h0.out, h1.out, h2.out, h3.out, h4.out, h5.out, h6.out, h7.out, h8.out, h9.out, h10.out, h11.out, h12.out, fun _ => rfl, fun _ => rfl, h15.out, h16.out, h17.out, h18.out⟩
    | 15, _ =>
      obtain ⟨ty, ps, af, ho⟩ := op_lit hops (i := 15) (op := Op.call { callee := Callee.value (Operand.func 109), args := #[(Operand.tmp 40)], argTypes := #[2] }) (dst := some 41) (g := none) rfl
      have hd10 := hidH (hdep 10 (by simp))
      have hd4 := hidH (hE_4_10 hd10.out)
      have hd9 := hidH (hE_9_10 hd10.out)
      obtain rfl := h14 (hdep 14 (by simp))
      refine wpOp_lit ho (fun j b h => by cases h) ?_
      clear hops hdep ho
      replace h0 := hidH h0
      replace h1 := hidH h1
      replace h2 := hidH h2
      replace h3 := hidH h3
      replace h4 := hidH h4
      replace h5 := hidH h5
      replace h6 := hidH h6
      replace h7 := hidH h7
      replace h8 := hidH h8
      replace h9 := hidH h9
      replace h10 := hidH h10
      replace h11 := hidH h11
      replace h12 := hidH h12
      replace h13 := hidH h13
      replace h14 := hidH h14
      replace h16 := hidH h16
      replace h17 := hidH h17
      replace h18 := hidH h18
      go_wp2_with fail
      refine (pair_any _ _ hz0 hz1).mono ?_
      rintro e w1 ⟨rfl, rfl⟩
      have hb := bal (Below.refl W.heap.size W) (.cells #[.int .u8 (y.Seq / 256), .int .u8 (y.Seq % 256)] 5)
      go_wp2
      exact (HJ.out _ _ _).2 ⟨_, _, _, _, _, _, _, _, _, _, _, _, _, _, _, _, _, _, rfl, hE_4_9, hE_4_10, fun _ => hd4.out, hE_4_16, hE_4_18, hE_9_10, fun _ => hd9.out, hE_9_16, hE_9_18, fun _ => hd10.out, hE_10_16, hE_10_18, fun _ => rfl, fun _ => rfl, hE_16_18, hO.trans (hb.mono (Nat.le_trans hB hS)), Nat.le_trans hS hb.size, hR0.below hb, fun h => (hC0 h).below hb, h0.out, h1.out, h2.out, h3.out, (fun _ h2 => by have h3 : dn 10 = false := h2; rw [hd10.out] at h3; cases h3), h5.out, h6.out, h7.out, h8.out, (fun _ h2 => by have h3 : dn 10 = false := h2; rw [hd10.out] at h3; cases h3), fun h h2 => own_below0 (h10.out h h2) hb, h11.out, h12.out, h13.out, fun _ => rfl, fun _ => fun _ => ⟨_, rfl, Blk.new _ _ _⟩, (fun h => by have h3 : dn 15 = true := hE_15_16 h; rw [hdn] at h3; cases h3), h17.out, (fun h => by have h3 : dn 15 = true := hE_15_18 h; rw [hdn] at h3; cases h3)⟩
    | 16, _ =>
      obtain ⟨ty, ps, af, ho⟩ := op_lit hops (i := 16) (op := Op.call { callee := Callee.builtin Builtin.append, args := #[(Operand.tmp 36), (Operand.tmp 41)], argTypes := #[22, 22] }) (dst := some 42) (g := none) rfl
      have hd15 := hidH (hdep 15 (by simp))
      have hd4 := hidH (hE_4_15 hd15.out)
      have hd9 := hidH (hE_9_15 hd15.out)
      have hd10 := hidH (hE_10_15 hd15.out)
      have o10 := hidH (h10 hd10.out hdn)
      obtain ⟨g2, rfl, q2⟩ := h15 hd15.out hdn
      refine wpOp_lit ho (fun j b h => by cases h) ?_
      clear hops hdep ho
      replace h0 := hidH h0
      replace h1 := hidH h1
      replace h2 := hidH h2
      replace h3 := hidH h3
      replace h4 := hidH h4
      replace h5 := hidH h5
      replace h6 := hidH h6
      replace h7 := hidH h7
      replace h8 := hidH h8
      replace h9 := hidH h9
      replace h10 := hidH h10
      replace h11 := hidH h11
      replace h12 := hidH h12
      replace h13 := hidH h13
      replace h14 := hidH h14
      replace h15 := hidH h15
      replace h17 := hidH h17
      replace h18 := hidH h18
      have s2 : Bs W (some ⟨g2, 0, none⟩) (pairL y.Seq) := lit_bs2 q2
      have hsz := hS
      go_wp2_with (at_builtin; refine wpList_append_bs rfl _ _ rfl wq.heap.size _ _ _ rfl o10.out (some ⟨g2, 0, none⟩) (pairL y.Seq) 2 rfl s2 (by simp [pairL]) hsz ?_)
      intro v2 w2 o2 hg
      have BB := hidH ((Below.refl wq.heap.size W).grown hg hsz (fun x hx => (o10.out.lt x hx).1))
      have O8 := hidH (show w2.ownsRow wq.heap.size 5 1 v2 8 ((pk y.Tsn ++ pairL y.Stream ++ pairL y.Seq).map (Value.int .u8)) by simpa [pairL, pk] using o2)
      clear o2 hg
      go_wp2
      exact (HJ.out _ _ _).2 ⟨_, _, _, _, _, _, _, _, _, _, _, _, _, _, _, _, _, _, rfl, hE_4_9, hE_4_10, hE_4_15, fun _ => hd4.out, hE_4_18, hE_9_10, hE_9_15, fun _ => hd9.out, hE_9_18, hE_10_15, fun _ => hd10.out, hE_10_18, fun _ => hd15.out, hE_15_18, fun _ => rfl, hO.trans (BB.out.mono hB), Nat.le_trans hS BB.out.size, (BB.out.block R0 hR0l).trans hR0, fun h => (BB.out.block R hRl).trans (hC0 h), h0.out, h1.out, h2.out, h3.out, (fun _ h2 => by have h3 : dn 10 = false := h2; rw [hd10.out] at h3; cases h3), h5.out, h6.out, h7.out, h8.out, (fun _ h2 => by have h3 : dn 10 = false := h2; rw [hd10.out] at h3; cases h3), (fun _ h2 => by simp at h2), h11.out, h12.out, h13.out, h14.out, (fun _ h2 => by simp at h2), fun _ => O8.out, h17.out, (fun h => by have h3 : dn 16 = true := hE_16_18 h; rw [hdn] at h3; cases h3)⟩
    | 17, _ =>
      obtain ⟨ty, ps, af, ho⟩ := op_lit hops (i := 17) (op := Op.fieldAddr 28 (Operand.tmp 3) 2) (dst := some 43) (g := none) rfl
      refine wpOp_lit ho (fun j b h => by cases h) ?_
      clear hops hdep ho
      replace h0 := hidH h0
      replace h1 := hidH h1
      replace h2 := hidH h2
      replace h3 := hidH h3
      replace h4 := hidH h4
      replace h5 := hidH h5
      replace h6 := hidH h6
      replace h7 := hidH h7
      replace h8 := hidH h8
      replace h9 := hidH h9
      replace h10 := hidH h10
      replace h11 := hidH h11
      replace h12 := hidH h12
      replace h13 := hidH h13
      replace h14 := hidH h14
      replace h15 := hidH h15
      replace h16 := hidH h16
      replace h18 := hidH h18
      go_wp2
      exact (HJ.out _ _ _).2 ⟨_, _, _, _, _, _, _, _, _, _, _, _, _, _, _, _, _, _, rfl, hE_4_9, hE_4_10, hE_4_15, hE_4_16, hE_4_18, hE_9_10, hE_9_15, hE_9_16, hE_9_18, hE_10_15, hE_10_16, hE_10_18, hE_15_16, hE_15_18, hE_16_18, hO, hS, hR0, hC0, h0.out, h1.out, h2.out, h3.out, h4.out, h5.out, h6.out, h7.out, h8.out, h9.out, h10.out, h11.out, h12.out, h13.out, h14.out, h15.out, h16.out, fun _ => rfl, h18.out⟩
    | 18, _ =>
      obtain ⟨ty, ps, af, ho⟩ := op_lit hops (i := 18) (op := Op.store 22 (Operand.tmp 43) (Operand.tmp 42)) (dst := none) (g := none) rfl
      have hd16 := hidH (hdep 16 (by simp))
      have hd4 := hidH (hE_4_16 hd16.out)
      have hd9 := hidH (hE_9_16 hd16.out)
      have hd10 := hidH (hE_10_16 hd16.out)
      have hd15 := hidH (hE_15_16 hd16.out)
      have hC := hC0 hdn
      obtain o16 := h16 (hdep 16 (by simp))
      obtain rfl := h17 (hdep 17 (by simp))
      refine wpOp_lit ho (fun j b h => by cases h) ?_
      clear hops hdep ho
      replace h0 := hidH h0
      replace h1 := hidH h1
      replace h2 := hidH h2
      replace h3 := hidH h3
      replace h4 := hidH h4
      replace h5 := hidH h5
      replace h6 := hidH h6
      replace h7 := hidH h7
      replace h8 := hidH h8
      replace h9 := hidH h9
      replace h10 := hidH h10
      replace h11 := hidH h11
      replace h12 := hidH h12
      replace h13 := hidH h13
      replace h14 := hidH h14
      replace h15 := hidH h15
      replace h16 := hidH h16
      replace h17 := hidH h17
      have o16b : W.ownsRow wq.heap.size 5 1 t42 (pk y.Tsn ++ pairL y.Stream ++ pairL y.Seq).length ((pk y.Tsn ++ pairL y.Stream ++ pairL y.Seq).map (Value.int .u8)) := o16
      obtain ⟨A4, c4, e4, _⟩ := own_ob o16b
      subst e4
      clear o16b
      have r2 := hC.cell 2
      have rf := hC.frozen 2
      simp only [List.getElem?_toArray, List.getElem?_cons_succ, List.getElem?_cons_zero] at r2
      have KN := hidH (show Blk (W.setCell ⟨R, 2, none⟩ (.slice A4 (pk y.Tsn ++ pairL y.Stream ++ pairL y.Seq).length c4)) R 28 #[.int .i64 0, .int .i64 f, .slice A4 (pk y.Tsn ++ pairL y.Stream ++ pairL y.Seq).length c4] from hC.put 2 _)
      go_wp2
      exact (HJ.out _ _ _).2 ⟨_, _, _, _, _, _, _, _, _, _, _, _, _, _, _, _, _, _, rfl, hE_4_9, hE_4_10, hE_4_15, hE_4_16, fun _ => hd4.out, hE_9_10, hE_9_15, hE_9_16, fun _ => hd9.out, hE_10_15, hE_10_16, fun _ => hd10.out, hE_15_16, fun _ => hd15.out, fun _ => hd16.out, hO.setCell hBR _, by simpa [World.setCell] using hS, hR0.far (by show R ≠ R0; exact hne) _, (fun h => by simp at h), h0.out, h1.out, h2.out, h3.out, (fun _ h2 => by have h3 : dn 10 = false := h2; rw [hd10.out] at h3; cases h3), h5.out, h6.out, h7.out, h8.out, (fun _ h2 => by have h3 : dn 10 = false := h2; rw [hd10.out] at h3; cases h3), (fun _ h2 => by have h3 : dn 16 = false := h2; rw [hd16.out] at h3; cases h3), h11.out, h12.out, h13.out, h14.out, (fun _ h2 => by have h3 : dn 16 = false := h2; rw [hd16.out] at h3; cases h3), fun _ => own_far o16 hRl _, fun _ => rfl, fun _ => KN.out⟩
    | n + 19, h => omega
  case fin =>
    clear hops hdeps hback
    rintro dn ac W hJ hall
    obtain ⟨t26, t27, t28, t29, t30, t31, t32, t33, t34, t35, t36, t37, t38, t39, t40, t41, t42, t43, rfl, hE_4_9, hE_4_10, hE_4_15, hE_4_16, hE_4_18, hE_9_10, hE_9_15, hE_9_16, hE_9_18, hE_10_15, hE_10_16, hE_10_18, hE_15_16, hE_15_18, hE_16_18, hO, hS, hR0, hC0, h0, h1, h2, h3, h4, h5, h6, h7, h8, h9, h10, h11, h12, h13, h14, h15, h16, h17, h18⟩ := (HJ.out _ _ _).1 hJ
    exact fin _ _ _ _ _ _ _ _ _ _ _ _ _ _ _ _ _ _ W hO hS hR0 (h16 (hall 16 (by omega))) (h18 (hall 18 (by omega)))
set_option maxRecDepth 100000 in
set_option maxHeartbeats 1000000 in
theorem regD9 {Q : Exit → Act → World → Prop} (x1 x2 x4 x5 x6 x7 x8 x9 x10 x11 x12 x13 x14 x15 x16 x17 x18 x19 x20 x21 x22 x23 x24 x25 x26 x27 x28 x29 x30 x31 x32 x33 x34 x35 x36 x37 x38 x39 x40 x41 x42 x43 : Value) (g o R R0 b0 : Nat) (f : Int) (z0 z1 z2 : Value) (y : DataM) (A4 A6 : Option Addr) (c4 c6 : Nat) (ww : World) (q6 : ww.cell? ⟨g, o + 6, none⟩ = some (.slice A6 y.Piece.length c6)) (hP : Bs ww A6 y.Piece) (hpl : y.Piece.length ≤ 1000) (hgl : g < ww.heap.size) (hB : ww.heap.size ≤ b0) (hBR : ww.heap.size ≤ R) (hRb : R < b0) (hR0l : R0 < b0) (hne : R ≠ R0) {ops : Array Oper}
    (hops : (ops.map fun o => (o.op, o.dst, o.guard)) = #[(Op.fieldAddr 28 (Operand.tmp 3) 2, some 44, none), (Op.load 22 (Operand.tmp 44), some 45, none), (Op.move (Operand.tmp 0), some 46, none), (Op.nilCheck (Operand.tmp 46), some 47, none), (Op.fieldAddr 25 (Operand.tmp 47) 6, some 48, none), (Op.load 22 (Operand.tmp 48), some 49, none), (Op.call { callee := Callee.builtin Builtin.append, args := #[(Operand.tmp 45), (Operand.tmp 49)], argTypes := #[22, 22] }, some 50, none), (Op.fieldAddr 28 (Operand.tmp 3) 2, some 51, none), (Op.store 22 (Operand.tmp 51) (Operand.tmp 50), none, none)])
    (hdeps : ((List.range 9).all fun i => ((fun i => [[], [0], [], [2], [3], [4], [1, 5], [], [6, 7]].getD i []) i).all fun j => ((ops[i]?).map fun o => o.after.any fun e => Region.binds .any e && e.on == j).getD false) = true)
    (hback : ((List.range 9).all fun i => ((ops[i]?).map fun o => o.after.all fun e => decide (e.on < i)).getD false) = true)
    {a0 : Act} {w0 : World} (ha : a0 = { tmps := #[.pointer (some ⟨g, o, none⟩), x1, x2, .pointer (some ⟨R, 0, none⟩), x4, x5, x6, x7, x8, x9, x10, x11, x12, x13, x14, x15, x16, x17, x18, x19, x20, x21, x22, x23, x24, x25, x26, x27, x28, x29, x30, x31, x32, x33, x34, x35, x36, x37, x38, x39, x40, x41, x42, x43, undef, undef, undef, undef, undef, undef, undef, undef, undef], defers := [] }) (hE_1_6 : false = true → false = true) (hE_1_8 : false = true → false = true) (hE_6_8 : false = true → false = true) (hO : Below ww.heap.size ww w0) (hsb : b0 ≤ w0.heap.size) (hR0 : Blk w0 R0 28 #[z0, z1, z2]) (hC0 : false = false → Blk w0 R 28 #[.int .i64 0, .int .i64 f, .slice A4 8 c4]) (hOw : false = false → w0.ownsRow b0 5 1 (.slice A4 8 c4) 8 ((pk y.Tsn ++ pairL y.Stream ++ pairL y.Seq).map (Value.int .u8)))
    (fin : ∀ t44 t45 t46 t47 t48 t49 t50 t51 (W : World), (Below ww.heap.size ww W) → (b0 ≤ W.heap.size) → (Blk W R0 28 #[z0, z1, z2]) → (W.ownsRow b0 5 1 t50 (8 + y.Piece.length) ((pk y.Tsn ++ pairL y.Stream ++ pairL y.Seq ++ y.Piece).map (Value.int .u8))) → (Blk W R 28 #[.int .i64 0, .int .i64 f, t50]) → Q .normal { tmps := #[.pointer (some ⟨g, o, none⟩), x1, x2, .pointer (some ⟨R, 0, none⟩), x4, x5, x6, x7, x8, x9, x10, x11, x12, x13, x14, x15, x16, x17, x18, x19, x20, x21, x22, x23, x24, x25, x26, x27, x28, x29, x30, x31, x32, x33, x34, x35, x36, x37, x38, x39, x40, x41, x42, x43, t44, t45, t46, t47, t48, t49, t50, t51, undef], defers := [] } W) :
    wpAny Tryd.prog .any ops Q ops.size (Array.replicate ops.size false) a0 w0 := by
  have hn : ops.size = 9 := by have := congrArg Array.size hops; simpa using this
  obtain ⟨J, HJ⟩ : ∃ J : (Nat → Bool) → Act → World → Prop, ∀ dn ac W, J dn ac W ↔ (fun dn ac W => ∃ t44 t45 t46 t47 t48 t49 t50 t51, ac = { tmps := #[.pointer (some ⟨g, o, none⟩), x1, x2, .pointer (some ⟨R, 0, none⟩), x4, x5, x6, x7, x8, x9, x10, x11, x12, x13, x14, x15, x16, x17, x18, x19, x20, x21, x22, x23, x24, x25, x26, x27, x28, x29, x30, x31, x32, x33, x34, x35, x36, x37, x38, x39, x40, x41, x42, x43, t44, t45, t46, t47, t48, t49, t50, t51, undef], defers := [] } ∧ (dn 6 = true → dn 1 = true) ∧ (dn 8 = true → dn 1 = true) ∧ (dn 8 = true → dn 6 = true) ∧ (Below ww.heap.size ww W) ∧ (b0 ≤ W.heap.size) ∧ (Blk W R0 28 #[z0, z1, z2]) ∧ (dn 8 = false → Blk W R 28 #[.int .i64 0, .int .i64 f, .slice A4 8 c4]) ∧ (dn 6 = false → W.ownsRow b0 5 1 (.slice A4 8 c4) 8 ((pk y.Tsn ++ pairL y.Stream ++ pairL y.Seq).map (Value.int .u8))) ∧ (dn 0 = true → t44 = .pointer (some ⟨R, 2, none⟩)) ∧ (dn 1 = true → t45 = .slice A4 8 c4) ∧ (dn 2 = true → t46 = .pointer (some ⟨g, o, none⟩)) ∧ (dn 3 = true → t47 = .pointer (some ⟨g, o, none⟩)) ∧ (dn 4 = true → t48 = .pointer (some ⟨g, o + 6, none⟩)) ∧ (dn 5 = true → t49 = .slice A6 y.Piece.length c6) ∧ (dn 6 = true → W.ownsRow b0 5 1 t50 (8 + y.Piece.length) ((pk y.Tsn ++ pairL y.Stream ++ pairL y.Seq ++ y.Piece).map (Value.int .u8))) ∧ (dn 7 = true → t51 = .pointer (some ⟨R, 2, none⟩)) ∧ (dn 8 = true → Blk W R 28 #[.int .i64 0, .int .i64 f, t50])) dn ac W := ⟨_, fun _ _ _ => Iff.rfl⟩
  replace HJ := hidH HJ
  refine region_inv 9 (fun i => [[], [0], [], [2], [3], [4], [1, 5], [], [6, 7]].getD i []) J hn hdeps hback ?start ?step ?fin
  case start => exact (HJ.out _ _ _).2 ⟨undef, undef, undef, undef, undef, undef, undef, undef, ha, hE_1_6, hE_1_8, hE_6_8, hO, hsb, hR0, hC0, hOw, fun h => by simp at h, fun h => by simp at h, fun h => by simp at h, fun h => by simp at h, fun h => by simp at h, fun h => by simp at h, fun h => by simp at h, fun h => by simp at h, fun h => by simp at h⟩
  all_goals clear ha hE_1_6 hE_1_8 hE_6_8 hO hsb hR0 hC0 hOw
  case step =>
    clear fin hdeps hback
    intro i hi dn ac W hJ hdn hdep
    obtain ⟨t44, t45, t46, t47, t48, t49, t50, t51, rfl, hE_1_6, hE_1_8, hE_6_8, hO, hsb, hR0, hC0, hOw, h0, h1, h2, h3, h4, h5, h6, h7, h8⟩ := (HJ.out _ _ _).1 hJ
    clear hJ
    match i, hi with
    | 0, _ =>
      obtain ⟨ty, ps, af, ho⟩ := op_lit hops (i := 0) (op := Op.fieldAddr 28 (Operand.tmp 3) 2) (dst := some 44) (g := none) rfl
      refine wpOp_lit ho (fun j b h => by cases h) ?_
      clear hops hdep ho
      replace h1 := hidH h1
      replace h2 := hidH h2
      replace h3 := hidH h3
      replace h4 := hidH h4
      replace h5 := hidH h5
      replace h6 := hidH h6
      replace h7 := hidH h7
      replace h8 := hidH h8
      go_wp2
      exact (HJ.out _ _ _).2 ⟨_, _, _, _, _, _, _, _, rfl, hE_1_6, hE_1_8, hE_6_8, hO, hsb, hR0, hC0, hOw, fun _ => rfl, h1.out, h2.out, h3.out, h4.out, h5.out, h6.out, h7.out, h8.out⟩
    | 1, _ =>
      obtain ⟨ty, ps, af, ho⟩ := op_lit hops (i := 1) (op := Op.load 22 (Operand.tmp 44)) (dst := some 45) (g := none) rfl
      have h8f : dn 8 = false := by
              cases h : dn 8 with
              | false => rfl
              | true => have h3 : dn 1 = true := hE_1_8 h; rw [hdn] at h3; cases h3
      obtain rfl := h0 (hdep 0 (by simp))
      refine wpOp_lit ho (fun j b h => by cases h) ?_
      clear hops hdep ho
      replace h0 := hidH h0
      replace h2 := hidH h2
      replace h3 := hidH h3
      replace h4 := hidH h4
      replace h5 := hidH h5
      replace h6 := hidH h6
      replace h7 := hidH h7
      replace h8 := hidH h8
      have hC := hC0 h8f
      have r2 := hC.cell 2
      simp only [List.getElem?_toArray, List.getElem?_cons_succ, List.getElem?_cons_zero] at r2
      have hb := Below.refl W.heap.size W
      go_wp2
      exact (HJ.out _ _ _).2 ⟨_, _, _, _, _, _, _, _, rfl, fun _ => rfl, fun _ => rfl, hE_6_8, btr hO hb, Nat.le_trans hsb hb.size, hR0.below hb, fun h => (hC0 h).below hb, fun h => own_below0 (hOw h) hb, fun _ => rfl, fun _ => rfl, h2.out, h3.out, h4.out, h5.out, (fun h => by have h3 : dn 1 = true := hE_1_6 h; rw [hdn] at h3; cases h3), h7.out, (fun h => by have h3 : dn 1 = true := hE_1_8 h; rw [hdn] at h3; cases h3)⟩
    | 2, _ =>
      obtain ⟨ty, ps, af, ho⟩ := op_lit hops (i := 2) (op := Op.move (Operand.tmp 0)) (dst := some 46) (g := none) rfl
      refine wpOp_lit ho (fun j b h => by cases h) ?_
      clear hops hdep ho
      replace h0 := hidH h0
      replace h1 := hidH h1
      replace h3 := hidH h3
      replace h4 := hidH h4
      replace h5 := hidH h5
      replace h6 := hidH h6
      replace h7 := hidH h7
      replace h8 := hidH h8
      go_wp2
      exact (HJ.out _ _ _).2 ⟨_, _, _, _, _, _, _, _, rfl, hE_1_6, hE_1_8, hE_6_8, hO, hsb, hR0, hC0, hOw, h0.out, h1.out, fun _ => rfl, h3.out, h4.out, h5.out, h6.out, h7.out, h8.out⟩
    | 3, _ =>
      obtain ⟨ty, ps, af, ho⟩ := op_lit hops (i := 3) (op := Op.nilCheck (Operand.tmp 46)) (dst := some 47) (g := none) rfl
      obtain rfl := h2 (hdep 2 (by simp))
      refine wpOp_lit ho (fun j b h => by cases h) ?_
      clear hops hdep ho
      replace h0 := hidH h0
      replace h1 := hidH h1
      replace h2 := hidH h2
      replace h4 := hidH h4
      replace h5 := hidH h5
      replace h6 := hidH h6
      replace h7 := hidH h7
      replace h8 := hidH h8
      go_wp2
      exact (HJ.out _ _ _).2 ⟨_, _, _, _, _, _, _, _, rfl, hE_1_6, hE_1_8, hE_6_8, hO, hsb, hR0, hC0, hOw, h0.out, h1.out, fun _ => rfl, fun _ => rfl, h4.out, h5.out, h6.out, h7.out, h8.out⟩
    | 4, _ =>
      obtain ⟨ty, ps, af, ho⟩ := op_lit hops (i := 4) (op := Op.fieldAddr 25 (Operand.tmp 47) 6) (dst := some 48) (g := none) rfl
      obtain rfl := h3 (hdep 3 (by simp))
      refine wpOp_lit ho (fun j b h => by cases h) ?_
      clear hops hdep ho
      replace h0 := hidH h0
      replace h1 := hidH h1
      replace h2 := hidH h2
      replace h3 := hidH h3
      replace h5 := hidH h5
      replace h6 := hidH h6
      replace h7 := hidH h7
      replace h8 := hidH h8
      go_wp2
      exact (HJ.out _ _ _).2 ⟨_, _, _, _, _, _, _, _, rfl, hE_1_6, hE_1_8, hE_6_8, hO, hsb, hR0, hC0, hOw, h0.out, h1.out, h2.out, fun _ => rfl, fun _ => rfl, h5.out, h6.out, h7.out, h8.out⟩
    | 5, _ =>
      obtain ⟨ty, ps, af, ho⟩ := op_lit hops (i := 5) (op := Op.load 22 (Operand.tmp 48)) (dst := some 49) (g := none) rfl
      obtain rfl := h4 (hdep 4 (by simp))
      refine wpOp_lit ho (fun j b h => by cases h) ?_
      clear hops hdep ho
      replace h0 := hidH h0
      replace h1 := hidH h1
      replace h2 := hidH h2
      replace h3 := hidH h3
      replace h4 := hidH h4
      replace h6 := hidH h6
      replace h7 := hidH h7
      replace h8 := hidH h8
      have q := (hO.cell (p := ⟨g, o + 6, none⟩) hgl).trans q6
      go_wp2
      exact (HJ.out _ _ _).2 ⟨_, _, _, _, _, _, _, _, rfl, hE_1_6, hE_1_8, hE_6_8, hO, hsb, hR0, hC0, hOw, h0.out, h1.out, h2.out, h3.out, fun _ => rfl, fun _ => rfl, h6.out, h7.out, h8.out⟩
    | 6, _ =>
      obtain ⟨ty, ps, af, ho⟩ := op_lit hops (i := 6) (op := Op.call { callee := Callee.builtin Builtin.append, args := #[(Operand.tmp 45), (Operand.tmp 49)], argTypes := #[22, 22] }) (dst := some 50) (g := none) rfl
      have hd1 := hidH (hdep 1 (by simp))
      obtain rfl := h1 (hdep 1 (by simp))
      obtain rfl := h5 (hdep 5 (by simp))
      refine wpOp_lit ho (fun j b h => by cases h) ?_
      clear hops hdep ho
      replace h0 := hidH h0
      replace h1 := hidH h1
      replace h2 := hidH h2
      replace h3 := hidH h3
      replace h4 := hidH h4
      replace h5 := hidH h5
      replace h7 := hidH h7
      replace h8 := hidH h8
      have s2 : Bs W A6 y.Piece := bs_below hP hO
      have o4 := hidH (hOw hdn)
      go_wp2_with (at_builtin; refine wpList_append_bs rfl _ _ rfl b0 _ _ _ rfl o4.out A6 y.Piece c6 rfl s2 (by omega) hsb ?_)
      intro v2 w2 o2 hg
      have BB := hidH ((Below.refl b0 W).grown hg hsb (fun x hx => (o4.out.lt x hx).1))
      have O8 := hidH (show w2.ownsRow b0 5 1 v2 (8 + y.Piece.length) ((pk y.Tsn ++ pairL y.Stream ++ pairL y.Seq ++ y.Piece).map (Value.int .u8)) by simpa [pairL, pk] using o2)
      clear o2 hg
      go_wp2
      exact (HJ.out _ _ _).2 ⟨_, _, _, _, _, _, _, _, rfl, fun _ => hd1.out, hE_1_8, fun _ => rfl, hO.trans (BB.out.mono hB), Nat.le_trans hsb BB.out.size, (BB.out.block R0 hR0l).trans hR0, fun h => (BB.out.block R hRb).trans (hC0 h), (fun h => by simp at h), h0.out, fun _ => rfl, h2.out, h3.out, h4.out, fun _ => rfl, fun _ => O8.out, h7.out, (fun h => by have h3 : dn 6 = true := hE_6_8 h; rw [hdn] at h3; cases h3)⟩
    | 7, _ =>
      obtain ⟨ty, ps, af, ho⟩ := op_lit hops (i := 7) (op := Op.fieldAddr 28 (Operand.tmp 3) 2) (dst := some 51) (g := none) rfl
      refine wpOp_lit ho (fun j b h => by cases h) ?_
      clear hops hdep ho
      replace h0 := hidH h0
      replace h1 := hidH h1
      replace h2 := hidH h2
      replace h3 := hidH h3
      replace h4 := hidH h4
      replace h5 := hidH h5
      replace h6 := hidH h6
      replace h8 := hidH h8
      go_wp2
      exact (HJ.out _ _ _).2 ⟨_, _, _, _, _, _, _, _, rfl, hE_1_6, hE_1_8, hE_6_8, hO, hsb, hR0, hC0, hOw, h0.out, h1.out, h2.out, h3.out, h4.out, h5.out, h6.out, fun _ => rfl, h8.out⟩
    | 8, _ =>
      obtain ⟨ty, ps, af, ho⟩ := op_lit hops (i := 8) (op := Op.store 22 (Operand.tmp 51) (Operand.tmp 50)) (dst := none) (g := none) rfl
      have hd6 := hidH (hdep 6 (by simp))
      have hd1 := hidH (hE_1_6 hd6.out)
      obtain o6 := h6 (hdep 6 (by simp))
      obtain rfl := h7 (hdep 7 (by simp))
      refine wpOp_lit ho (fun j b h => by cases h) ?_
      clear hops hdep ho
      replace h0 := hidH h0
      replace h1 := hidH h1
      replace h2 := hidH h2
      replace h3 := hidH h3
      replace h4 := hidH h4
      replace h5 := hidH h5
      replace h6 := hidH h6
      replace h7 := hidH h7
      have o6b : W.ownsRow b0 5 1 t50 (pk y.Tsn ++ pairL y.Stream ++ pairL y.Seq ++ y.Piece).length ((pk y.Tsn ++ pairL y.Stream ++ pairL y.Seq ++ y.Piece).map (Value.int .u8)) := by have hl : (pk y.Tsn ++ pairL y.Stream ++ pairL y.Seq ++ y.Piece).length = (8 + y.Piece.length) := (by simp [pk, pairL] <;> omega); rw [hl]; exact o6
      obtain ⟨A9, c9, e9, _⟩ := own_ob o6b
      obtain ⟨n9, hn9⟩ : ∃ n9, (pk y.Tsn ++ pairL y.Stream ++ pairL y.Seq ++ y.Piece).length = n9 := ⟨_, rfl⟩
      rw [hn9] at e9
      subst e9
      clear o6b hn9
      have hC := hC0 hdn
      have r2 := hC.cell 2
      have rf := hC.frozen 2
      simp only [List.getElem?_toArray, List.getElem?_cons_succ, List.getElem?_cons_zero] at r2
      have KN := hidH (show Blk (W.setCell ⟨R, 2, none⟩ (.slice A9 n9 c9)) R 28 #[.int .i64 0, .int .i64 f, .slice A9 n9 c9] from hC.put 2 _)
      go_wp2
      exact (HJ.out _ _ _).2 ⟨_, _, _, _, _, _, _, _, rfl, hE_1_6, fun _ => hd1.out, fun _ => hd6.out, hO.setCell hBR _, by simpa [World.setCell] using hsb, hR0.far (by show R ≠ R0; exact hne) _, (fun h => by simp at h), (fun h => by have h3 : dn 6 = false := h; rw [hd6.out] at h3; cases h3), h0.out, h1.out, h2.out, h3.out, h4.out, h5.out, fun _ => own_far o6 hRb _, fun _ => rfl, fun _ => KN.out⟩
    | n + 9, h => omega
  case fin =>
    clear hops hdeps hback
    rintro dn ac W hJ hall
    obtain ⟨t44, t45, t46, t47, t48, t49, t50, t51, rfl, hE_1_6, hE_1_8, hE_6_8, hO, hsb, hR0, hC0, hOw, h0, h1, h2, h3, h4, h5, h6, h7, h8⟩ := (HJ.out _ _ _).1 hJ
    exact fin _ _ _ _ _ _ _ _ W hO hsb hR0 (h6 (hall 6 (by omega))) (h8 (hall 8 (by omega)))
end Go.Proofs.YtjjileefdjjijaaDoor
