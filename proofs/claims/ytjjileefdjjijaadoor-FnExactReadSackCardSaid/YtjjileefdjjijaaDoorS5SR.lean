/- The regions of l5Sack that draw their order. -/
import Derived.Test.YtjjileefdjjijaaDoorMa7
import Derived.Test.YtjjileefdjjijaaDoorS5QR
namespace Go.Proofs.YtjjileefdjjijaaDoor
open Go.RowKit Go.Deep

theorem grown_oth {w w2 : World} {B n : Nat} {v : Value} {xs : List Value} (O : w.ownsRow B 5 1 v n xs) (g2 : w.grownBy w2 v.ownBlock) {g : Nat} {t : TypeId} {cs : Array Value} (ht : t ≠ 5) (hk : Blk w g t cs) : Blk w2 g t cs := by
  refine (g2.block g hk.lt (fun e => ?_)).trans hk
  rcases O.2 with ⟨h1, _⟩ | ⟨g1, cap, cur, h1, _, h3, _⟩
  · rw [h1] at e; cases e
  · rw [h1] at e
    obtain rfl : g = g1 := by simpa [Value.ownBlock] using e
    have h4 : some (Obj.cells cur 5 (0, 0)) = some (Obj.cells cs t (0, 0)) := h3.symm.trans hk
    simp at h4
    exact ht h4.2.symm
theorem own_farT {w : World} {B s n : Nat} {v : Value} {xs : List Value} (h : w.ownsRow B 5 s v n xs) {R : Nat} {t : TypeId} {cs : Array Value} (ht : t ≠ 5) (hk : Blk w R t cs) (i : Nat) (u : Value) : (w.setCell ⟨R, i, none⟩ u).ownsRow B 5 s v n xs := by
  obtain ⟨h1, h2 | ⟨g, cap, cur, h3, h4, h5, h6⟩⟩ := h
  · exact ⟨h1, .inl h2⟩
  · refine ⟨h1, .inr ⟨g, cap, cur, h3, h4, (Below.heap_setCell _ _ _ _ (show g ≠ R from fun e => ?_)).trans h5, h6⟩⟩
    subst e
    have h7 : some (Obj.cells cur 5 (0, 0)) = some (Obj.cells cs t (0, 0)) := h5.symm.trans hk
    simp at h7
    exact ht h7.2.symm
theorem own_slice {w : World} {B s n : Nat} {v : Value} {xs : List Value} (h : w.ownsRow B 5 s v n xs) : ∃ (A : Option Addr) (m c : Nat), v = .slice A m c := by
  obtain ⟨_, ⟨h2, _⟩ | ⟨g, cap, cur, h3, _⟩⟩ := h
  · exact ⟨_, _, _, h2⟩
  · exact ⟨_, _, _, h3⟩
set_option maxRecDepth 100000 in
set_option maxHeartbeats 1000000 in
theorem regS1 {Q : Exit → Act → World → Prop} (x1 x2 u_3 x4 : Value) (g o R : Nat) (y : SackM) (A : Option Addr) (c : Nat) (ww wq : World) (ht0 : 0 ≤ y.Cum) (ht1 : y.Cum ≤ 4294967295) (hnl : (y.Gaps.length : Int) ≤ 200) (q0 : ww.cell? ⟨g, o, none⟩ = some (.int .i64 y.Cum)) (q1 : ww.cell? ⟨g, o + 1, none⟩ = some (.slice A y.Gaps.length c)) (hgl : g < ww.heap.size) (hB : ww.heap.size ≤ wq.heap.size) (hRl : R < wq.heap.size) {ops : Array Oper}
    (hops : (ops.map fun o => (o.op, o.dst, o.guard)) = #[(Op.move (Operand.tmp 0), some 5, none), (Op.nilCheck (Operand.tmp 5), some 6, none), (Op.fieldAddr 34 (Operand.tmp 6) 0, some 7, none), (Op.load 2 (Operand.tmp 7), some 8, none), (Op.call { callee := Callee.value (Operand.func 108), args := #[(Operand.tmp 8)], argTypes := #[2] }, some 9, none), (Op.move (Operand.tmp 0), some 10, none), (Op.nilCheck (Operand.tmp 10), some 11, none), (Op.fieldAddr 34 (Operand.tmp 11) 1, some 12, none), (Op.load 32 (Operand.tmp 12), some 13, none), (Op.call { callee := Callee.builtin Builtin.len, args := #[(Operand.tmp 13)], argTypes := #[32] }, some 14, none), (Op.convert 3 5 (Operand.tmp 14), some 15, none), (Op.buildSlice 22 1 #[(0, (Operand.tmp 15))], some 16, none), (Op.call { callee := Callee.builtin Builtin.append, args := #[(Operand.tmp 9), (Operand.tmp 16)], argTypes := #[22, 22] }, some 17, none), (Op.build 28 #[(0, (Operand.const (Value.int .i64 3))), (2, (Operand.tmp 17))], some 18, none), (Op.alloc 28, some 3, none), (Op.store 28 (Operand.tmp 3) (Operand.tmp 18), none, none)])
    (hdeps : ((List.range 16).all fun i => ((fun i => [[], [0], [1], [2], [3], [], [5], [6], [7], [8], [9], [10], [4, 11], [12], [], [4, 12, 13, 14]].getD i []) i).all fun j => ((ops[i]?).map fun o => o.after.any fun e => Region.binds .any e && e.on == j).getD false) = true)
    (hback : ((List.range 16).all fun i => ((ops[i]?).map fun o => o.after.all fun e => decide (e.on < i)).getD false) = true)
    {a0 : Act} (ha : a0 = { tmps := #[.pointer (some ⟨g, o, none⟩), x1, x2, u_3, x4, undef, undef, undef, undef, undef, undef, undef, undef, undef, undef, undef, undef, undef, undef, undef, undef, undef, undef, undef, undef, undef, undef, undef, undef, undef, undef, undef, undef, undef, undef, undef, undef, undef, undef, undef, undef, undef, undef, undef, undef, undef, undef, undef, undef, undef, undef, undef], defers := [] }) (hE14 : false = true → false = true) (hE13 : false = true → false = true) (hE : false = true → false = true) (hE4 : false = true → false = true) (hO : Below ww.heap.size ww wq) (hS : wq.heap.size ≤ wq.heap.size) (hR : Blk wq R 28 #[.int .i64 0, .int .i64 0, .slice none 0 0])
    (fin : ∀ t5 t6 t7 t8 t9 t10 t11 t12 t13 t14 t15 t16 t17 t18 t3 (W : World), (Below ww.heap.size ww W) → (wq.heap.size ≤ W.heap.size) → (Blk W R 28 #[.int .i64 0, .int .i64 0, .slice none 0 0]) → (W.ownsRow wq.heap.size 5 1 t17 5 ((pk y.Cum ++ [(y.Gaps.length : Int)]).map (Value.int .u8))) → (∃ R2 : Nat, t3 = .pointer (some ⟨R2, 0, none⟩) ∧ wq.heap.size ≤ R2 ∧ Blk W R2 28 #[.int .i64 3, .int .i64 0, t17]) → Q .normal { tmps := #[.pointer (some ⟨g, o, none⟩), x1, x2, t3, x4, t5, t6, t7, t8, t9, t10, t11, t12, t13, t14, t15, t16, t17, t18, undef, undef, undef, undef, undef, undef, undef, undef, undef, undef, undef, undef, undef, undef, undef, undef, undef, undef, undef, undef, undef, undef, undef, undef, undef, undef, undef, undef, undef, undef, undef, undef, undef], defers := [] } W) :
    wpAny Tryd.prog .any ops Q ops.size (Array.replicate ops.size false) a0 wq := by
  have hn : ops.size = 16 := by have := congrArg Array.size hops; simpa using this
  obtain ⟨J, HJ⟩ : ∃ J : (Nat → Bool) → Act → World → Prop, ∀ dn ac W, J dn ac W ↔ (fun dn ac W => ∃ t5 t6 t7 t8 t9 t10 t11 t12 t13 t14 t15 t16 t17 t18 t3, ac = { tmps := #[.pointer (some ⟨g, o, none⟩), x1, x2, t3, x4, t5, t6, t7, t8, t9, t10, t11, t12, t13, t14, t15, t16, t17, t18, undef, undef, undef, undef, undef, undef, undef, undef, undef, undef, undef, undef, undef, undef, undef, undef, undef, undef, undef, undef, undef, undef, undef, undef, undef, undef, undef, undef, undef, undef, undef, undef, undef], defers := [] } ∧ (dn 15 = true → dn 14 = true) ∧ (dn 13 = true → dn 12 = true) ∧ (dn 15 = true → dn 12 = true) ∧ (dn 15 = true → dn 4 = true) ∧ (Below ww.heap.size ww W) ∧ (wq.heap.size ≤ W.heap.size) ∧ (Blk W R 28 #[.int .i64 0, .int .i64 0, .slice none 0 0]) ∧ (dn 0 = true → t5 = .pointer (some ⟨g, o, none⟩)) ∧ (dn 1 = true → t6 = .pointer (some ⟨g, o, none⟩)) ∧ (dn 2 = true → t7 = .pointer (some ⟨g, o, none⟩)) ∧ (dn 3 = true → t8 = .int .i64 y.Cum) ∧ (dn 4 = true → dn 12 = false → W.ownsRow wq.heap.size 5 1 t9 4 ((pk y.Cum).map (Value.int .u8))) ∧ (dn 5 = true → t10 = .pointer (some ⟨g, o, none⟩)) ∧ (dn 6 = true → t11 = .pointer (some ⟨g, o, none⟩)) ∧ (dn 7 = true → t12 = .pointer (some ⟨g, o + 1, none⟩)) ∧ (dn 8 = true → t13 = .slice A y.Gaps.length c) ∧ (dn 9 = true → t14 = .int .i64 (y.Gaps.length : Int)) ∧ (dn 10 = true → t15 = .int .u8 (y.Gaps.length : Int)) ∧ (dn 11 = true → dn 12 = false → ∃ g2 : Nat, t16 = .slice (some ⟨g2, 0, none⟩) 1 1 ∧ Blk W g2 5 #[.int .u8 (y.Gaps.length : Int)]) ∧ (dn 12 = true → W.ownsRow wq.heap.size 5 1 t17 5 ((pk y.Cum ++ [(y.Gaps.length : Int)]).map (Value.int .u8))) ∧ (dn 13 = true → t18 = .agg #[.int .i64 3, .int .i64 0, t17]) ∧ (dn 14 = true → ∃ R2 : Nat, t3 = .pointer (some ⟨R2, 0, none⟩) ∧ wq.heap.size ≤ R2 ∧ (dn 15 = false → Blk W R2 28 #[.int .i64 0, .int .i64 0, .slice none 0 0])) ∧ (dn 15 = true → ∃ R2 : Nat, t3 = .pointer (some ⟨R2, 0, none⟩) ∧ wq.heap.size ≤ R2 ∧ Blk W R2 28 #[.int .i64 3, .int .i64 0, t17])) dn ac W := ⟨_, fun _ _ _ => Iff.rfl⟩
  replace HJ := hidH HJ
  refine region_inv 16 (fun i => [[], [0], [1], [2], [3], [], [5], [6], [7], [8], [9], [10], [4, 11], [12], [], [4, 12, 13, 14]].getD i []) J hn hdeps hback ?start ?step ?fin
  case start => exact (HJ.out _ _ _).2 ⟨undef, undef, undef, undef, undef, undef, undef, undef, undef, undef, undef, undef, undef, undef, u_3, ha, hE14, hE13, hE, hE4, hO, hS, hR, fun h => by simp at h, fun h => by simp at h, fun h => by simp at h, fun h => by simp at h, fun h => by simp at h, fun h => by simp at h, fun h => by simp at h, fun h => by simp at h, fun h => by simp at h, fun h => by simp at h, fun h => by simp at h, fun h => by simp at h, fun h => by simp at h, fun h => by simp at h, fun h => by simp at h, fun h => by simp at h⟩
  all_goals clear ha hE14 hE13 hE hE4 hO hS hR
  case step =>
    clear fin hdeps hback
    intro i hi dn ac W hJ hdn hdep
    obtain ⟨t5, t6, t7, t8, t9, t10, t11, t12, t13, t14, t15, t16, t17, t18, t3, rfl, hE14, hE13, hE, hE4, hO, hS, hR, h0, h1, h2, h3, h4, h5, h6, h7, h8, h9, h10, h11, h12, h13, h14, h15⟩ := (HJ.out _ _ _).1 hJ
    clear hJ
    match i, hi with
    | 0, _ =>
      obtain ⟨ty, ps, af, ho⟩ := op_lit hops (i := 0) (op := Op.move (Operand.tmp 0)) (dst := some 5) (g := none) rfl
      refine wpOp_lit ho (fun j b h => by cases h) ?_
      clear hops hdep ho
      replace h1 := hidH h1
      replace h2 := hidH h2
      replace h3 := hidH h3
      replace h4 := hidH h4
      replace h5 := hidH h5
      replace h6 := hidH h6
      replace h7 := hidH h7
      replace h8 := hidH h8
      replace h9 := hidH h9
      replace h10 := hidH h10
      replace h11 := hidH h11
      replace h12 := hidH h12
      replace h13 := hidH h13
      replace h14 := hidH h14
      replace h15 := hidH h15
      go_wp2
      exact (HJ.out _ _ _).2 ⟨_, _, _, _, _, _, _, _, _, _, _, _, _, _, _, rfl, hE14, hE13, hE, hE4, hO, hS, hR, fun _ => rfl, h1.out, h2.out, h3.out, h4.out, h5.out, h6.out, h7.out, h8.out, h9.out, h10.out, h11.out, h12.out, h13.out, h14.out, h15.out⟩
    | 1, _ =>
      obtain ⟨ty, ps, af, ho⟩ := op_lit hops (i := 1) (op := Op.nilCheck (Operand.tmp 5)) (dst := some 6) (g := none) rfl
      obtain rfl := h0 (hdep 0 (by simp))
      refine wpOp_lit ho (fun j b h => by cases h) ?_
      clear hops hdep ho
      replace h0 := hidH h0
      replace h2 := hidH h2
      replace h3 := hidH h3
      replace h4 := hidH h4
      replace h5 := hidH h5
      replace h6 := hidH h6
      replace h7 := hidH h7
      replace h8 := hidH h8
      replace h9 := hidH h9
      replace h10 := hidH h10
      replace h11 := hidH h11
      replace h12 := hidH h12
      replace h13 := hidH h13
      replace h14 := hidH h14
      replace h15 := hidH h15
      go_wp2
      exact (HJ.out _ _ _).2 ⟨_, _, _, _, _, _, _, _, _, _, _, _, _, _, _, rfl, hE14, hE13, hE, hE4, hO, hS, hR, fun _ => rfl, fun _ => rfl, h2.out, h3.out, h4.out, h5.out, h6.out, h7.out, h8.out, h9.out, h10.out, h11.out, h12.out, h13.out, h14.out, h15.out⟩
    | 2, _ =>
      obtain ⟨ty, ps, af, ho⟩ := op_lit hops (i := 2) (op := Op.fieldAddr 34 (Operand.tmp 6) 0) (dst := some 7) (g := none) rfl
      obtain rfl := h1 (hdep 1 (by simp))
      refine wpOp_lit ho (fun j b h => by cases h) ?_
      clear hops hdep ho
      replace h0 := hidH h0
      replace h1 := hidH h1
      replace h3 := hidH h3
      replace h4 := hidH h4
      replace h5 := hidH h5
      replace h6 := hidH h6
      replace h7 := hidH h7
      replace h8 := hidH h8
      replace h9 := hidH h9
      replace h10 := hidH h10
      replace h11 := hidH h11
      replace h12 := hidH h12
      replace h13 := hidH h13
      replace h14 := hidH h14
      replace h15 := hidH h15
      go_wp2
      exact (HJ.out _ _ _).2 ⟨_, _, _, _, _, _, _, _, _, _, _, _, _, _, _, rfl, hE14, hE13, hE, hE4, hO, hS, hR, h0.out, fun _ => rfl, fun _ => rfl, h3.out, h4.out, h5.out, h6.out, h7.out, h8.out, h9.out, h10.out, h11.out, h12.out, h13.out, h14.out, h15.out⟩
    | 3, _ =>
      obtain ⟨ty, ps, af, ho⟩ := op_lit hops (i := 3) (op := Op.load 2 (Operand.tmp 7)) (dst := some 8) (g := none) rfl
      obtain rfl := h2 (hdep 2 (by simp))
      refine wpOp_lit ho (fun j b h => by cases h) ?_
      clear hops hdep ho
      replace h0 := hidH h0
      replace h1 := hidH h1
      replace h2 := hidH h2
      replace h4 := hidH h4
      replace h5 := hidH h5
      replace h6 := hidH h6
      replace h7 := hidH h7
      replace h8 := hidH h8
      replace h9 := hidH h9
      replace h10 := hidH h10
      replace h11 := hidH h11
      replace h12 := hidH h12
      replace h13 := hidH h13
      replace h14 := hidH h14
      replace h15 := hidH h15
      have q := (hO.cell (p := ⟨g, o, none⟩) hgl).trans q0
      go_wp2
      exact (HJ.out _ _ _).2 ⟨_, _, _, _, _, _, _, _, _, _, _, _, _, _, _, rfl, hE14, hE13, hE, hE4, hO, hS, hR, h0.out, h1.out, fun _ => rfl, fun _ => rfl, h4.out, h5.out, h6.out, h7.out, h8.out, h9.out, h10.out, h11.out, h12.out, h13.out, h14.out, h15.out⟩
    | 4, _ =>
      obtain ⟨ty, ps, af, ho⟩ := op_lit hops (i := 4) (op := Op.call { callee := Callee.value (Operand.func 108), args := #[(Operand.tmp 8)], argTypes := #[2] }) (dst := some 9) (g := none) rfl
      obtain rfl := h3 (hdep 3 (by simp))
      refine wpOp_lit ho (fun j b h => by cases h) ?_
      clear hops hdep ho
      replace h0 := hidH h0
      replace h1 := hidH h1
      replace h2 := hidH h2
      replace h3 := hidH h3
      replace h5 := hidH h5
      replace h6 := hidH h6
      replace h7 := hidH h7
      replace h8 := hidH h8
      replace h9 := hidH h9
      replace h10 := hidH h10
      replace h11 := hidH h11
      replace h12 := hidH h12
      replace h13 := hidH h13
      replace h14 := hidH h14
      replace h15 := hidH h15
      go_wp2_with fail
      refine (l1Pack_any _ _ ht0 ht1).mono ?_
      rintro e w1 ⟨rfl, rfl⟩
      have hb := bal (Below.refl W.heap.size W) (.cells #[.int .u8 (y.Cum / 16777216), .int .u8 (y.Cum / 65536 % 256), .int .u8 (y.Cum / 256 % 256), .int .u8 (y.Cum % 256)] 5)
      go_wp2
      exact (HJ.out _ _ _).2 ⟨_, _, _, _, _, _, _, _, _, _, _, _, _, _, _, rfl, hE14, hE13, hE, fun _ => rfl, btr hO hb, Nat.le_trans hS hb.size, hR.below hb, h0.out, h1.out, h2.out, fun _ => rfl, fun _ => fun _ => World.ownsRow_lit _ #[.int .u8 (y.Cum / 16777216), .int .u8 (y.Cum / 65536 % 256), .int .u8 (y.Cum / 256 % 256), .int .u8 (y.Cum % 256)] 4 hS (by unfold maxLen; omega) rfl, h5.out, h6.out, h7.out, h8.out, h9.out, h10.out, (fun h h2 => by obtain ⟨g2, q1, q2⟩ := h11.out h h2; exact ⟨g2, q1, q2.below hb⟩), fun h => own_below0 (h12.out h) hb, h13.out, (fun h => by obtain ⟨R2, q1, q2, q3⟩ := h14.out h; exact ⟨R2, q1, q2, fun h2 => (q3 h2).below hb⟩), (fun h => by have h3 : dn 4 = true := hE4 h; rw [hdn] at h3; cases h3)⟩
    | 5, _ =>
      obtain ⟨ty, ps, af, ho⟩ := op_lit hops (i := 5) (op := Op.move (Operand.tmp 0)) (dst := some 10) (g := none) rfl
      refine wpOp_lit ho (fun j b h => by cases h) ?_
      clear hops hdep ho
      replace h0 := hidH h0
      replace h1 := hidH h1
      replace h2 := hidH h2
      replace h3 := hidH h3
      replace h4 := hidH h4
      replace h6 := hidH h6
      replace h7 := hidH h7
      replace h8 := hidH h8
      replace h9 := hidH h9
      replace h10 := hidH h10
      replace h11 := hidH h11
      replace h12 := hidH h12
      replace h13 := hidH h13
      replace h14 := hidH h14
      replace h15 := hidH h15
      go_wp2
      exact (HJ.out _ _ _).2 ⟨_, _, _, _, _, _, _, _, _, _, _, _, _, _, _, rfl, hE14, hE13, hE, hE4, hO, hS, hR, h0.out, h1.out, h2.out, h3.out, h4.out, fun _ => rfl, h6.out, h7.out, h8.out, h9.out, h10.out, h11.out, h12.out, h13.out, h14.out, h15.out⟩
    | 6, _ =>
      obtain ⟨ty, ps, af, ho⟩ := op_lit hops (i := 6) (op := Op.nilCheck (Operand.tmp 10)) (dst := some 11) (g := none) rfl
      obtain rfl := h5 (hdep 5 (by simp))
      refine wpOp_lit ho (fun j b h => by cases h) ?_
      clear hops hdep ho
      replace h0 := hidH h0
      replace h1 := hidH h1
      replace h2 := hidH h2
      replace h3 := hidH h3
      replace h4 := hidH h4
      replace h5 := hidH h5
      replace h7 := hidH h7
      replace h8 := hidH h8
      replace h9 := hidH h9
      replace h10 := hidH h10
      replace h11 := hidH h11
      replace h12 := hidH h12
      replace h13 := hidH h13
      replace h14 := hidH h14
      replace h15 := hidH h15
      go_wp2
      exact (HJ.out _ _ _).2 ⟨_, _, _, _, _, _, _, _, _, _, _, _, _, _, _, rfl, hE14, hE13, hE, hE4, hO, hS, hR, h0.out, h1.out, h2.out, h3.out, h4.out, fun _ => rfl, fun _ => rfl, h7.out, h8.out, h9.out, h10.out, h11.out, h12.out, h13.out, h14.out, h15.out⟩
    | 7, _ =>
      obtain ⟨ty, ps, af, ho⟩ := op_lit hops (i := 7) (op := Op.fieldAddr 34 (Operand.tmp 11) 1) (dst := some 12) (g := none) rfl
      obtain rfl := h6 (hdep 6 (by simp))
      refine wpOp_lit ho (fun j b h => by cases h) ?_
      clear hops hdep ho
      replace h0 := hidH h0
      replace h1 := hidH h1
      replace h2 := hidH h2
      replace h3 := hidH h3
      replace h4 := hidH h4
      replace h5 := hidH h5
      replace h6 := hidH h6
      replace h8 := hidH h8
      replace h9 := hidH h9
      replace h10 := hidH h10
      replace h11 := hidH h11
      replace h12 := hidH h12
      replace h13 := hidH h13
      replace h14 := hidH h14
      replace h15 := hidH h15
      go_wp2
      exact (HJ.out _ _ _).2 ⟨_, _, _, _, _, _, _, _, _, _, _, _, _, _, _, rfl, hE14, hE13, hE, hE4, hO, hS, hR, h0.out, h1.out, h2.out, h3.out, h4.out, h5.out, fun _ => rfl, fun _ => rfl, h8.out, h9.out, h10.out, h11.out, h12.out, h13.out, h14.out, h15.out⟩
    | 8, _ =>
      obtain ⟨ty, ps, af, ho⟩ := op_lit hops (i := 8) (op := Op.load 32 (Operand.tmp 12)) (dst := some 13) (g := none) rfl
      obtain rfl := h7 (hdep 7 (by simp))
      refine wpOp_lit ho (fun j b h => by cases h) ?_
      clear hops hdep ho
      replace h0 := hidH h0
      replace h1 := hidH h1
      replace h2 := hidH h2
      replace h3 := hidH h3
      replace h4 := hidH h4
      replace h5 := hidH h5
      replace h6 := hidH h6
      replace h7 := hidH h7
      replace h9 := hidH h9
      replace h10 := hidH h10
      replace h11 := hidH h11
      replace h12 := hidH h12
      replace h13 := hidH h13
      replace h14 := hidH h14
      replace h15 := hidH h15
      have q := (hO.cell (p := ⟨g, o + 1, none⟩) hgl).trans q1
      go_wp2
      exact (HJ.out _ _ _).2 ⟨_, _, _, _, _, _, _, _, _, _, _, _, _, _, _, rfl, hE14, hE13, hE, hE4, hO, hS, hR, h0.out, h1.out, h2.out, h3.out, h4.out, h5.out, h6.out, fun _ => rfl, fun _ => rfl, h9.out, h10.out, h11.out, h12.out, h13.out, h14.out, h15.out⟩
    | 9, _ =>
      obtain ⟨ty, ps, af, ho⟩ := op_lit hops (i := 9) (op := Op.call { callee := Callee.builtin Builtin.len, args := #[(Operand.tmp 13)], argTypes := #[32] }) (dst := some 14) (g := none) rfl
      obtain rfl := h8 (hdep 8 (by simp))
      refine wpOp_lit ho (fun j b h => by cases h) ?_
      clear hops hdep ho
      replace h0 := hidH h0
      replace h1 := hidH h1
      replace h2 := hidH h2
      replace h3 := hidH h3
      replace h4 := hidH h4
      replace h5 := hidH h5
      replace h6 := hidH h6
      replace h7 := hidH h7
      replace h8 := hidH h8
      replace h10 := hidH h10
      replace h11 := hidH h11
      replace h12 := hidH h12
      replace h13 := hidH h13
      replace h14 := hidH h14
      replace h15 := hidH h15
      go_wp2
      exact (HJ.out _ _ _).2 ⟨_, _, _, _, _, _, _, _, _, _, _, _, _, _, _, rfl, hE14, hE13, hE, hE4, hO, hS, hR, h0.out, h1.out, h2.out, h3.out, h4.out, h5.out, h6.out, h7.out, fun _ => rfl, fun _ => rfl, h10.out, h11.out, h12.out, h13.out, h14.out, h15.out⟩
    | 10, _ =>
      obtain ⟨ty, ps, af, ho⟩ := op_lit hops (i := 10) (op := Op.convert 3 5 (Operand.tmp 14)) (dst := some 15) (g := none) rfl
      obtain rfl := h9 (hdep 9 (by simp))
      refine wpOp_lit ho (fun j b h => by cases h) ?_
      clear hops hdep ho
      replace h0 := hidH h0
      replace h1 := hidH h1
      replace h2 := hidH h2
      replace h3 := hidH h3
      replace h4 := hidH h4
      replace h5 := hidH h5
      replace h6 := hidH h6
      replace h7 := hidH h7
      replace h8 := hidH h8
      replace h9 := hidH h9
      replace h11 := hidH h11
      replace h12 := hidH h12
      replace h13 := hidH h13
      replace h14 := hidH h14
      replace h15 := hidH h15
      go_wp2
      exact (HJ.out _ _ _).2 ⟨_, _, _, _, _, _, _, _, _, _, _, _, _, _, _, rfl, hE14, hE13, hE, hE4, hO, hS, hR, h0.out, h1.out, h2.out, h3.out, h4.out, h5.out, h6.out, h7.out, h8.out, fun _ => rfl, fun _ => rfl, h11.out, h12.out, h13.out, h14.out, h15.out⟩
    | 11, _ =>
      obtain ⟨ty, ps, af, ho⟩ := op_lit hops (i := 11) (op := Op.buildSlice 22 1 #[(0, (Operand.tmp 15))]) (dst := some 16) (g := none) rfl
      obtain rfl := h10 (hdep 10 (by simp))
      refine wpOp_lit ho (fun j b h => by cases h) ?_
      clear hops hdep ho
      replace h0 := hidH h0
      replace h1 := hidH h1
      replace h2 := hidH h2
      replace h3 := hidH h3
      replace h4 := hidH h4
      replace h5 := hidH h5
      replace h6 := hidH h6
      replace h7 := hidH h7
      replace h8 := hidH h8
      replace h9 := hidH h9
      replace h10 := hidH h10
      replace h12 := hidH h12
      replace h13 := hidH h13
      replace h14 := hidH h14
      replace h15 := hidH h15
      have hb := bal (Below.refl W.heap.size W) (.cells #[.int .u8 (y.Gaps.length : Int)] 5)
      go_wp2
      exact (HJ.out _ _ _).2 ⟨_, _, _, _, _, _, _, _, _, _, _, _, _, _, _, rfl, hE14, hE13, hE, hE4, btr hO hb, Nat.le_trans hS hb.size, hR.below hb, h0.out, h1.out, h2.out, h3.out, fun h h2 => own_below0 (h4.out h h2) hb, h5.out, h6.out, h7.out, h8.out, h9.out, fun _ => rfl, fun _ => fun _ => ⟨_, rfl, Blk.new _ _ _⟩, fun h => own_below0 (h12.out h) hb, h13.out, (fun h => by obtain ⟨R2, q1, q2, q3⟩ := h14.out h; exact ⟨R2, q1, q2, fun h2 => (q3 h2).below hb⟩), (fun h => by obtain ⟨R2, q1, q2, q3⟩ := h15.out h; exact ⟨R2, q1, q2, q3.below hb⟩)⟩
    | 12, _ =>
      obtain ⟨ty, ps, af, ho⟩ := op_lit hops (i := 12) (op := Op.call { callee := Callee.builtin Builtin.append, args := #[(Operand.tmp 9), (Operand.tmp 16)], argTypes := #[22, 22] }) (dst := some 17) (g := none) rfl
      have o4 := hidH (h4 (hdep 4 (by simp)) hdn)
      obtain ⟨g2, rfl, q2⟩ := h11 (hdep 11 (by simp)) hdn
      refine wpOp_lit ho (fun j b h => by cases h) ?_
      clear hops hdep ho
      replace h0 := hidH h0
      replace h1 := hidH h1
      replace h2 := hidH h2
      replace h3 := hidH h3
      replace h4 := hidH h4
      replace h5 := hidH h5
      replace h6 := hidH h6
      replace h7 := hidH h7
      replace h8 := hidH h8
      replace h9 := hidH h9
      replace h10 := hidH h10
      replace h11 := hidH h11
      replace h13 := hidH h13
      replace h14 := hidH h14
      replace h15 := hidH h15
      have s2 : Bs W (some ⟨g2, 0, none⟩) [(y.Gaps.length : Int)] := lit_bs1 q2
      have hsz := hS
      go_wp2_with (at_builtin; refine wpList_append_bs rfl _ _ rfl wq.heap.size _ _ _ rfl o4.out (some ⟨g2, 0, none⟩) [(y.Gaps.length : Int)] 1 rfl s2 (by simp) hsz ?_)
      intro v2 w2 o2 hg
      have BB := hidH ((Below.refl wq.heap.size W).grown hg hsz (fun x hx => (o4.out.lt x hx).1))
      have GG := hidH (fun (k : Nat) (t : TypeId) (cs : Array Value) (ht : t ≠ 5) (hk : Blk W k t cs) => grown_oth o4.out hg ht hk)
      have O8 := hidH (show w2.ownsRow wq.heap.size 5 1 v2 5 ((pk y.Cum ++ [(y.Gaps.length : Int)]).map (Value.int .u8)) by simpa [pk] using o2)
      clear o2 hg
      go_wp2
      exact (HJ.out _ _ _).2 ⟨_, _, _, _, _, _, _, _, _, _, _, _, _, _, _, rfl, hE14, fun _ => rfl, fun _ => rfl, hE4, hO.trans (BB.out.mono hB), Nat.le_trans hS BB.out.size, (BB.out.block R hRl).trans hR, h0.out, h1.out, h2.out, h3.out, (fun _ h2 => by simp at h2), h5.out, h6.out, h7.out, h8.out, h9.out, h10.out, (fun _ h2 => by simp at h2), fun _ => O8.out, (fun h => by have h3 : dn 12 = true := hE13 h; rw [hdn] at h3; cases h3), (fun h => by obtain ⟨R2, q1, q2, q3⟩ := h14.out h; exact ⟨R2, q1, q2, fun h2 => GG.out _ _ _ (by decide) (q3 h2)⟩), (fun h => by have h3 : dn 12 = true := hE h; rw [hdn] at h3; cases h3)⟩
    | 13, _ =>
      obtain ⟨ty, ps, af, ho⟩ := op_lit hops (i := 13) (op := Op.build 28 #[(0, (Operand.const (Value.int .i64 3))), (2, (Operand.tmp 17))]) (dst := some 18) (g := none) rfl
      have hd12 := hidH (hdep 12 (by simp))
      obtain p12 := h12 (hdep 12 (by simp))
      refine wpOp_lit ho (fun j b h => by cases h) ?_
      clear hops hdep ho
      replace h0 := hidH h0
      replace h1 := hidH h1
      replace h2 := hidH h2
      replace h3 := hidH h3
      replace h4 := hidH h4
      replace h5 := hidH h5
      replace h6 := hidH h6
      replace h7 := hidH h7
      replace h8 := hidH h8
      replace h9 := hidH h9
      replace h10 := hidH h10
      replace h11 := hidH h11
      replace h12 := hidH h12
      replace h14 := hidH h14
      replace h15 := hidH h15
      obtain ⟨A9, m9, c9, e9⟩ := own_slice p12
      subst e9
      have hb := Below.refl W.heap.size W
      go_wp2
      exact (HJ.out _ _ _).2 ⟨_, _, _, _, _, _, _, _, _, _, _, _, _, _, _, rfl, hE14, fun _ => hd12.out, hE, hE4, btr hO hb, Nat.le_trans hS hb.size, hR.below hb, h0.out, h1.out, h2.out, h3.out, fun h h2 => own_below0 (h4.out h h2) hb, h5.out, h6.out, h7.out, h8.out, h9.out, h10.out, (fun h h2 => by obtain ⟨g2, q1, q2⟩ := h11.out h h2; exact ⟨g2, q1, q2.below hb⟩), fun _ => own_below0 p12 hb, fun _ => rfl, (fun h => by obtain ⟨R2, q1, q2, q3⟩ := h14.out h; exact ⟨R2, q1, q2, fun h2 => (q3 h2).below hb⟩), (fun h => by obtain ⟨R2, q1, q2, q3⟩ := h15.out h; exact ⟨R2, q1, q2, q3.below hb⟩)⟩
    | 14, _ =>
      obtain ⟨ty, ps, af, ho⟩ := op_lit hops (i := 14) (op := Op.alloc 28) (dst := some 3) (g := none) rfl
      refine wpOp_lit ho (fun j b h => by cases h) ?_
      clear hops hdep ho
      replace h0 := hidH h0
      replace h1 := hidH h1
      replace h2 := hidH h2
      replace h3 := hidH h3
      replace h4 := hidH h4
      replace h5 := hidH h5
      replace h6 := hidH h6
      replace h7 := hidH h7
      replace h8 := hidH h8
      replace h9 := hidH h9
      replace h10 := hidH h10
      replace h11 := hidH h11
      replace h12 := hidH h12
      replace h13 := hidH h13
      replace h15 := hidH h15
      have hb := bal (Below.refl W.heap.size W) (.cells #[.int .i64 0, .int .i64 0, .slice none 0 0] 28)
      go_wp2
      exact (HJ.out _ _ _).2 ⟨_, _, _, _, _, _, _, _, _, _, _, _, _, _, _, rfl, fun _ => rfl, hE13, hE, hE4, btr hO hb, Nat.le_trans hS hb.size, hR.below hb, h0.out, h1.out, h2.out, h3.out, fun h h2 => own_below0 (h4.out h h2) hb, h5.out, h6.out, h7.out, h8.out, h9.out, h10.out, (fun h h2 => by obtain ⟨g2, q1, q2⟩ := h11.out h h2; exact ⟨g2, q1, q2.below hb⟩), fun h => own_below0 (h12.out h) hb, h13.out, fun _ => ⟨_, rfl, hS, fun _ => Blk.new _ _ _⟩, (fun h => by have h3 : dn 14 = true := hE14 h; rw [hdn] at h3; cases h3)⟩
    | 15, _ =>
      obtain ⟨ty, ps, af, ho⟩ := op_lit hops (i := 15) (op := Op.store 28 (Operand.tmp 3) (Operand.tmp 18)) (dst := none) (g := none) rfl
      have hd12 := hidH (hdep 12 (by simp))
      have hd4 := hidH (hdep 4 (by simp))
      have hd14 := hidH (hdep 14 (by simp))
      have o12 := h12 hd12.out
      obtain ⟨R2, rfl, hR2, hC9⟩ := h14 (hdep 14 (by simp))
      have hC0 := hidH (hC9 hdn)
      clear hC9
      obtain rfl := h13 (hdep 13 (by simp))
      refine wpOp_lit ho (fun j b h => by cases h) ?_
      clear hops hdep ho
      replace h0 := hidH h0
      replace h1 := hidH h1
      replace h2 := hidH h2
      replace h3 := hidH h3
      replace h4 := hidH h4
      replace h5 := hidH h5
      replace h6 := hidH h6
      replace h7 := hidH h7
      replace h8 := hidH h8
      replace h9 := hidH h9
      replace h10 := hidH h10
      replace h11 := hidH h11
      replace h12 := hidH h12
      replace h13 := hidH h13
      replace h14 := hidH h14
      have o12b : W.ownsRow wq.heap.size 5 1 t17 (pk y.Cum ++ [(y.Gaps.length : Int)]).length ((pk y.Cum ++ [(y.Gaps.length : Int)]).map (Value.int .u8)) := by have hl : (pk y.Cum ++ [(y.Gaps.length : Int)]).length = 5 := (by simp [pk]); rw [hl]; exact o12
      obtain ⟨A9, c9, e9, _⟩ := own_ob o12b
      obtain ⟨n9, hn9⟩ : ∃ n9, (pk y.Cum ++ [(y.Gaps.length : Int)]).length = n9 := ⟨_, rfl⟩
      rw [hn9] at e9
      subst e9
      clear o12b hn9
      have r0 := hC0.out.cell 0
      have r1 := hC0.out.cell 1
      have r2 := hC0.out.cell 2
      have s0 := hC0.out.frozen 0
      have s1 := hC0.out.frozen 1
      have s2 := hC0.out.frozen 2
      simp only [List.getElem?_toArray, List.getElem?_cons_succ, List.getElem?_cons_zero] at r0 r1 r2
      have KN := hidH (show Blk (((W.setCell ⟨R2, 0, none⟩ (.int .i64 3)).setCell ⟨R2, 1, none⟩ (.int .i64 0)).setCell ⟨R2, 2, none⟩ (.slice A9 n9 c9)) R2 28 #[.int .i64 3, .int .i64 0, .slice A9 n9 c9] from ((hC0.out.put 0 _).put 1 _).put 2 _)
      go_wp2
      exact (HJ.out _ _ _).2 ⟨_, _, _, _, _, _, _, _, _, _, _, _, _, _, _, rfl, fun _ => hd14.out, hE13, fun _ => hd12.out, fun _ => hd4.out, ((hO.setCell (Nat.le_trans hB hR2) _).setCell (Nat.le_trans hB hR2) _).setCell (Nat.le_trans hB hR2) _, by simpa [World.setCell] using hS, ((hR.far (by show R2 ≠ R; omega) _).far (by show R2 ≠ R; omega) _).far (by show R2 ≠ R; omega) _, h0.out, h1.out, h2.out, h3.out, (fun h h2 => by have h3 : dn 12 = false := h2; rw [hd12.out] at h3; cases h3), h5.out, h6.out, h7.out, h8.out, h9.out, h10.out, (fun h h2 => by have h3 : dn 12 = false := h2; rw [hd12.out] at h3; cases h3), fun h => own_farT (own_farT (own_farT (h12.out h) (by decide) hC0.out _ _) (by decide) (Blk.put hC0.out 0 _) _ _) (by decide) (Blk.put (Blk.put hC0.out 0 _) 1 _) _ _, fun _ => rfl, (fun h => by obtain ⟨R3, q1, q2, q3⟩ := h14.out h; exact ⟨R3, q1, q2, fun h2 => by simp at h2⟩), fun _ => ⟨R2, rfl, hR2, KN.out⟩⟩
    | n + 16, h => omega
  case fin =>
    clear hops hdeps hback
    rintro dn ac W hJ hall
    obtain ⟨t5, t6, t7, t8, t9, t10, t11, t12, t13, t14, t15, t16, t17, t18, t3, rfl, hE14, hE13, hE, hE4, hO, hS, hR, h0, h1, h2, h3, h4, h5, h6, h7, h8, h9, h10, h11, h12, h13, h14, h15⟩ := (HJ.out _ _ _).1 hJ
    exact fin _ _ _ _ _ _ _ _ _ _ _ _ _ _ _ W hO hS hR (h12 (hall 12 (by omega))) (h15 (hall 15 (by omega)))
set_option maxRecDepth 100000 in
set_option maxHeartbeats 1000000 in
theorem regS5 {Q : Exit → Act → World → Prop} (x1 x2 x5 x6 x7 x8 x9 x10 x11 x12 x13 x14 x15 x16 x17 x18 x19 x20 x21 x22 x23 x24 x25 x26 x27 u_28 u_29 u_30 u_31 u_32 u_33 u_34 u_35 u_36 u_37 u_38 u_39 u_40 u_41 u_42 u_43 u_44 u_45 u_46 u_47 u_48 u_49 u_50 u_51 : Value) (xs0 : List Value) (g o R R2 b0 n0 j sb so : Nat) (kk aa : Int) (y : SackM) (c : Nat) (A4 : Option Addr) (c4 : Nat) (ww : World) (hk0 : 0 ≤ kk) (hk1 : kk < 65536) (ha0 : 0 ≤ aa) (ha1 : aa < 65536) (hn : n0 ≤ 1000) (hj : (j : Int) < y.Gaps.length) (hj0 : (0 : Int) ≤ j) (q1 : ww.cell? ⟨g, o + 1, none⟩ = some (.slice (some ⟨sb, so, none⟩) y.Gaps.length c)) (r0 : ww.cell? ⟨sb, so + j * 2, none⟩ = some (.int .i64 kk)) (r1 : ww.cell? ⟨sb, so + j * 2 + 1, none⟩ = some (.int .i64 aa)) (hgl : g < ww.heap.size) (hsl : sb < ww.heap.size) (hB : ww.heap.size ≤ b0) (hBR : b0 ≤ R2) (hRl : R < b0) {ops : Array Oper}
    (hops : (ops.map fun o => (o.op, o.dst, o.guard)) = #[(Op.fieldAddr 28 (Operand.tmp 3) 2, some 28, none), (Op.load 22 (Operand.tmp 28), some 29, none), (Op.move (Operand.tmp 0), some 30, none), (Op.nilCheck (Operand.tmp 30), some 31, none), (Op.fieldAddr 34 (Operand.tmp 31) 1, some 32, none), (Op.load 32 (Operand.tmp 32), some 33, none), (Op.move (Operand.tmp 4), some 34, none), (Op.indexAddr 32 (Operand.tmp 33) (Operand.tmp 34), some 35, none), (Op.fieldAddr 52 (Operand.tmp 35) 0, some 36, none), (Op.load 2 (Operand.tmp 36), some 37, none), (Op.call { callee := Callee.value (Operand.func 109), args := #[(Operand.tmp 37)], argTypes := #[2] }, some 38, none), (Op.call { callee := Callee.builtin Builtin.append, args := #[(Operand.tmp 29), (Operand.tmp 38)], argTypes := #[22, 22] }, some 39, none), (Op.move (Operand.tmp 0), some 40, none), (Op.nilCheck (Operand.tmp 40), some 41, none), (Op.fieldAddr 34 (Operand.tmp 41) 1, some 42, none), (Op.load 32 (Operand.tmp 42), some 43, none), (Op.move (Operand.tmp 4), some 44, none), (Op.indexAddr 32 (Operand.tmp 43) (Operand.tmp 44), some 45, none), (Op.fieldAddr 52 (Operand.tmp 45) 1, some 46, none), (Op.load 2 (Operand.tmp 46), some 47, none), (Op.call { callee := Callee.value (Operand.func 109), args := #[(Operand.tmp 47)], argTypes := #[2] }, some 48, none), (Op.call { callee := Callee.builtin Builtin.append, args := #[(Operand.tmp 39), (Operand.tmp 48)], argTypes := #[22, 22] }, some 49, none), (Op.fieldAddr 28 (Operand.tmp 3) 2, some 50, none), (Op.store 22 (Operand.tmp 50) (Operand.tmp 49), none, none)])
    (hdeps : ((List.range 24).all fun i => ((fun i => [[], [0], [], [2], [3], [4], [], [5, 6], [7], [8], [9], [1, 10], [], [12], [13], [14], [], [15, 16], [17], [18], [11, 19], [11, 20], [], [1, 21, 22]].getD i []) i).all fun j => ((ops[i]?).map fun o => o.after.any fun e => Region.binds .any e && e.on == j).getD false) = true)
    (hback : ((List.range 24).all fun i => ((ops[i]?).map fun o => o.after.all fun e => decide (e.on < i)).getD false) = true)
    {a0 : Act} {w0 : World} (ha : a0 = { tmps := #[.pointer (some ⟨g, o, none⟩), x1, x2, .pointer (some ⟨R2, 0, none⟩), .int .i64 j, x5, x6, x7, x8, x9, x10, x11, x12, x13, x14, x15, x16, x17, x18, x19, x20, x21, x22, x23, x24, x25, x26, x27, u_28, u_29, u_30, u_31, u_32, u_33, u_34, u_35, u_36, u_37, u_38, u_39, u_40, u_41, u_42, u_43, u_44, u_45, u_46, u_47, u_48, u_49, u_50, u_51], defers := [] }) (hE_10_11 : false = true → false = true) (hE_10_20 : false = true → false = true) (hE_10_21 : false = true → false = true) (hE_10_23 : false = true → false = true) (hE_11_20 : false = true → false = true) (hE_11_21 : false = true → false = true) (hE_11_23 : false = true → false = true) (hE_20_21 : false = true → false = true) (hE_20_23 : false = true → false = true) (hE_21_23 : false = true → false = true) (hE1 : false = true → false = true) (hO : Below ww.heap.size ww w0) (hS : b0 ≤ w0.heap.size) (hR : Blk w0 R 28 #[.int .i64 0, .int .i64 0, .slice none 0 0]) (hC0 : false = false → Blk w0 R2 28 #[.int .i64 3, .int .i64 0, .slice A4 n0 c4]) (hW0 : false = false → w0.ownsRow b0 5 1 (.slice A4 n0 c4) n0 xs0)
    (fin : ∀ t28 t29 t30 t31 t32 t33 t34 t35 t36 t37 t38 t39 t40 t41 t42 t43 t44 t45 t46 t47 t48 t49 t50 (W : World), (Below ww.heap.size ww W) → (b0 ≤ W.heap.size) → (Blk W R 28 #[.int .i64 0, .int .i64 0, .slice none 0 0]) → (W.ownsRow b0 5 1 t49 (n0 + 4) (xs0 ++ [.int .u8 (kk / 256), .int .u8 (kk % 256), .int .u8 (aa / 256), .int .u8 (aa % 256)])) → (Blk W R2 28 #[.int .i64 3, .int .i64 0, t49]) → Q .normal { tmps := #[.pointer (some ⟨g, o, none⟩), x1, x2, .pointer (some ⟨R2, 0, none⟩), .int .i64 j, x5, x6, x7, x8, x9, x10, x11, x12, x13, x14, x15, x16, x17, x18, x19, x20, x21, x22, x23, x24, x25, x26, x27, t28, t29, t30, t31, t32, t33, t34, t35, t36, t37, t38, t39, t40, t41, t42, t43, t44, t45, t46, t47, t48, t49, t50, u_51], defers := [] } W) :
    wpAny Tryd.prog .any ops Q ops.size (Array.replicate ops.size false) a0 w0 := by
  have hn : ops.size = 24 := by have := congrArg Array.size hops; simpa using this
  obtain ⟨J, HJ⟩ : ∃ J : (Nat → Bool) → Act → World → Prop, ∀ dn ac W, J dn ac W ↔ (fun dn ac W => ∃ t28 t29 t30 t31 t32 t33 t34 t35 t36 t37 t38 t39 t40 t41 t42 t43 t44 t45 t46 t47 t48 t49 t50, ac = { tmps := #[.pointer (some ⟨g, o, none⟩), x1, x2, .pointer (some ⟨R2, 0, none⟩), .int .i64 j, x5, x6, x7, x8, x9, x10, x11, x12, x13, x14, x15, x16, x17, x18, x19, x20, x21, x22, x23, x24, x25, x26, x27, t28, t29, t30, t31, t32, t33, t34, t35, t36, t37, t38, t39, t40, t41, t42, t43, t44, t45, t46, t47, t48, t49, t50, u_51], defers := [] } ∧ (dn 11 = true → dn 10 = true) ∧ (dn 20 = true → dn 10 = true) ∧ (dn 21 = true → dn 10 = true) ∧ (dn 23 = true → dn 10 = true) ∧ (dn 20 = true → dn 11 = true) ∧ (dn 21 = true → dn 11 = true) ∧ (dn 23 = true → dn 11 = true) ∧ (dn 21 = true → dn 20 = true) ∧ (dn 23 = true → dn 20 = true) ∧ (dn 23 = true → dn 21 = true) ∧ (dn 23 = true → dn 1 = true) ∧ (Below ww.heap.size ww W) ∧ (b0 ≤ W.heap.size) ∧ (Blk W R 28 #[.int .i64 0, .int .i64 0, .slice none 0 0]) ∧ (dn 23 = false → Blk W R2 28 #[.int .i64 3, .int .i64 0, .slice A4 n0 c4]) ∧ (dn 11 = false → W.ownsRow b0 5 1 (.slice A4 n0 c4) n0 xs0) ∧ (dn 0 = true → t28 = .pointer (some ⟨R2, 2, none⟩)) ∧ (dn 1 = true → t29 = .slice A4 n0 c4) ∧ (dn 2 = true → t30 = .pointer (some ⟨g, o, none⟩)) ∧ (dn 3 = true → t31 = .pointer (some ⟨g, o, none⟩)) ∧ (dn 4 = true → t32 = .pointer (some ⟨g, o + 1, none⟩)) ∧ (dn 5 = true → t33 = .slice (some ⟨sb, so, none⟩) y.Gaps.length c) ∧ (dn 6 = true → t34 = .int .i64 j) ∧ (dn 7 = true → t35 = .pointer (some ⟨sb, so + j * 2, none⟩)) ∧ (dn 8 = true → t36 = .pointer (some ⟨sb, so + j * 2, none⟩)) ∧ (dn 9 = true → t37 = .int .i64 kk) ∧ (dn 10 = true → dn 11 = false → ∃ g2 : Nat, t38 = .slice (some ⟨g2, 0, none⟩) 2 2 ∧ Blk W g2 5 #[.int .u8 (kk / 256), .int .u8 (kk % 256)]) ∧ (dn 11 = true → dn 21 = false → W.ownsRow b0 5 1 t39 (n0 + 2) (xs0 ++ [.int .u8 (kk / 256), .int .u8 (kk % 256)])) ∧ (dn 12 = true → t40 = .pointer (some ⟨g, o, none⟩)) ∧ (dn 13 = true → t41 = .pointer (some ⟨g, o, none⟩)) ∧ (dn 14 = true → t42 = .pointer (some ⟨g, o + 1, none⟩)) ∧ (dn 15 = true → t43 = .slice (some ⟨sb, so, none⟩) y.Gaps.length c) ∧ (dn 16 = true → t44 = .int .i64 j) ∧ (dn 17 = true → t45 = .pointer (some ⟨sb, so + j * 2, none⟩)) ∧ (dn 18 = true → t46 = .pointer (some ⟨sb, so + j * 2 + 1, none⟩)) ∧ (dn 19 = true → t47 = .int .i64 aa) ∧ (dn 20 = true → dn 21 = false → ∃ g2 : Nat, t48 = .slice (some ⟨g2, 0, none⟩) 2 2 ∧ Blk W g2 5 #[.int .u8 (aa / 256), .int .u8 (aa % 256)]) ∧ (dn 21 = true → W.ownsRow b0 5 1 t49 (n0 + 4) (xs0 ++ [.int .u8 (kk / 256), .int .u8 (kk % 256), .int .u8 (aa / 256), .int .u8 (aa % 256)])) ∧ (dn 22 = true → t50 = .pointer (some ⟨R2, 2, none⟩)) ∧ (dn 23 = true → Blk W R2 28 #[.int .i64 3, .int .i64 0, t49])) dn ac W := ⟨_, fun _ _ _ => Iff.rfl⟩
  replace HJ := hidH HJ
  refine region_inv 24 (fun i => [[], [0], [], [2], [3], [4], [], [5, 6], [7], [8], [9], [1, 10], [], [12], [13], [14], [], [15, 16], [17], [18], [11, 19], [11, 20], [], [1, 21, 22]].getD i []) J hn hdeps hback ?start ?step ?fin
  case start => exact (HJ.out _ _ _).2 ⟨u_28, u_29, u_30, u_31, u_32, u_33, u_34, u_35, u_36, u_37, u_38, u_39, u_40, u_41, u_42, u_43, u_44, u_45, u_46, u_47, u_48, u_49, u_50, ha, hE_10_11, hE_10_20, hE_10_21, hE_10_23, hE_11_20, hE_11_21, hE_11_23, hE_20_21, hE_20_23, hE_21_23, hE1, hO, hS, hR, hC0, hW0, fun h => by simp at h, fun h => by simp at h, fun h => by simp at h, fun h => by simp at h, fun h => by simp at h, fun h => by simp at h, fun h => by simp at h, fun h => by simp at h, fun h => by simp at h, fun h => by simp at h, fun h => by simp at h, fun h => by simp at h, fun h => by simp at h, fun h => by simp at h, fun h => by simp at h, fun h => by simp at h, fun h => by simp at h, fun h => by simp at h, fun h => by simp at h, fun h => by simp at h, fun h => by simp at h, fun h => by simp at h, fun h => by simp at h, fun h => by simp at h⟩
  all_goals clear ha hE_10_11 hE_10_20 hE_10_21 hE_10_23 hE_11_20 hE_11_21 hE_11_23 hE_20_21 hE_20_23 hE_21_23 hE1 hO hS hR hC0 hW0
  case step =>
    clear fin hdeps hback
    intro i hi dn ac W hJ hdn hdep
    obtain ⟨t28, t29, t30, t31, t32, t33, t34, t35, t36, t37, t38, t39, t40, t41, t42, t43, t44, t45, t46, t47, t48, t49, t50, rfl, hE_10_11, hE_10_20, hE_10_21, hE_10_23, hE_11_20, hE_11_21, hE_11_23, hE_20_21, hE_20_23, hE_21_23, hE1, hO, hS, hR, hC0, hW0, h0, h1, h2, h3, h4, h5, h6, h7, h8, h9, h10, h11, h12, h13, h14, h15, h16, h17, h18, h19, h20, h21, h22, h23⟩ := (HJ.out _ _ _).1 hJ
    clear hJ
    match i, hi with
    | 0, _ =>
      obtain ⟨ty, ps, af, ho⟩ := op_lit hops (i := 0) (op := Op.fieldAddr 28 (Operand.tmp 3) 2) (dst := some 28) (g := none) rfl
      refine wpOp_lit ho (fun j b h => by cases h) ?_
      clear hops hdep ho
      replace h1 := hidH h1
      replace h2 := hidH h2
      replace h3 := hidH h3
      replace h4 := hidH h4
      replace h5 := hidH h5
      replace h6 := hidH h6
      replace h7 := hidH h7
      replace h8 := hidH h8
      replace h9 := hidH h9
      replace h10 := hidH h10
      replace h11 := hidH h11
      replace h12 := hidH h12
      replace h13 := hidH h13
      replace h14 := hidH h14
      replace h15 := hidH h15
      replace h16 := hidH h16
      replace h17 := hidH h17
      replace h18 := hidH h18
      replace h19 := hidH h19
      replace h20 := hidH h20
      replace h21 := hidH h21
      replace h22 := hidH h22
      replace h23 := hidH h23
      go_wp2
      exact (HJ.out _ _ _).2 ⟨_, _, _, _, _, _, _, _, _, _, _, _, _, _, _, _, _, _, _, _, _, _, _, rfl, hE_10_11, hE_10_20, hE_10_21, hE_10_23, hE_11_20, hE_11_21, hE_11_23, hE_20_21, hE_20_23, hE_21_23, hE1, hO, hS, hR, hC0, hW0, fun _ => rfl, h1.out, h2.out, h3.out, h4.out, h5.out, h6.out, h7.out, h8.out, h9.out, h10.out, h11.out, h12.out, h13.out, h14.out, h15.out, h16.out, h17.out, h18.out, h19.out, h20.out, h21.out, h22.out, h23.out⟩
    | 1, _ =>
      obtain ⟨ty, ps, af, ho⟩ := op_lit hops (i := 1) (op := Op.load 22 (Operand.tmp 28)) (dst := some 29) (g := none) rfl
      have h23f : dn 23 = false := by
              cases h : dn 23 with
              | false => rfl
              | true => have h3 : dn 1 = true := hE1 h; rw [hdn] at h3; cases h3
      obtain rfl := h0 (hdep 0 (by simp))
      refine wpOp_lit ho (fun j b h => by cases h) ?_
      clear hops hdep ho
      replace h0 := hidH h0
      replace h2 := hidH h2
      replace h3 := hidH h3
      replace h4 := hidH h4
      replace h5 := hidH h5
      replace h6 := hidH h6
      replace h7 := hidH h7
      replace h8 := hidH h8
      replace h9 := hidH h9
      replace h10 := hidH h10
      replace h11 := hidH h11
      replace h12 := hidH h12
      replace h13 := hidH h13
      replace h14 := hidH h14
      replace h15 := hidH h15
      replace h16 := hidH h16
      replace h17 := hidH h17
      replace h18 := hidH h18
      replace h19 := hidH h19
      replace h20 := hidH h20
      replace h21 := hidH h21
      replace h22 := hidH h22
      replace h23 := hidH h23
      have hC := hC0 h23f
      have r2 := hC.cell 2
      simp only [List.getElem?_toArray, List.getElem?_cons_succ, List.getElem?_cons_zero] at r2
      have hb := Below.refl W.heap.size W
      go_wp2
      exact (HJ.out _ _ _).2 ⟨_, _, _, _, _, _, _, _, _, _, _, _, _, _, _, _, _, _, _, _, _, _, _, rfl, hE_10_11, hE_10_20, hE_10_21, hE_10_23, hE_11_20, hE_11_21, hE_11_23, hE_20_21, hE_20_23, hE_21_23, fun _ => rfl, btr hO hb, Nat.le_trans hS hb.size, hR.below hb, fun h => (hC0 h).below hb, fun h => own_below0 (hW0 h) hb, fun _ => rfl, fun _ => rfl, h2.out, h3.out, h4.out, h5.out, h6.out, h7.out, h8.out, h9.out, (fun h h2 => by obtain ⟨g2, q1, q2⟩ := h10.out h h2; exact ⟨g2, q1, q2.below hb⟩), fun h h2 => own_below0 (h11.out h h2) hb, h12.out, h13.out, h14.out, h15.out, h16.out, h17.out, h18.out, h19.out, (fun h h2 => by obtain ⟨g2, q1, q2⟩ := h20.out h h2; exact ⟨g2, q1, q2.below hb⟩), fun h => own_below0 (h21.out h) hb, h22.out, fun h => (h23.out h).below hb⟩
    | 2, _ =>
      obtain ⟨ty, ps, af, ho⟩ := op_lit hops (i := 2) (op := Op.move (Operand.tmp 0)) (dst := some 30) (g := none) rfl
      refine wpOp_lit ho (fun j b h => by cases h) ?_
      clear hops hdep ho
      replace h0 := hidH h0
      replace h1 := hidH h1
      replace h3 := hidH h3
      replace h4 := hidH h4
      replace h5 := hidH h5
      replace h6 := hidH h6
      replace h7 := hidH h7
      replace h8 := hidH h8
      replace h9 := hidH h9
      replace h10 := hidH h10
      replace h11 := hidH h11
      replace h12 := hidH h12
      replace h13 := hidH h13
      replace h14 := hidH h14
      replace h15 := hidH h15
      replace h16 := hidH h16
      replace h17 := hidH h17
      replace h18 := hidH h18
      replace h19 := hidH h19
      replace h20 := hidH h20
      replace h21 := hidH h21
      replace h22 := hidH h22
      replace h23 := hidH h23
      go_wp2
      exact (HJ.out _ _ _).2 ⟨_, _, _, _, _, _, _, _, _, _, _, _, _, _, _, _, _, _, _, _, _, _, _, rfl, hE_10_11, hE_10_20, hE_10_21, hE_10_23, hE_11_20, hE_11_21, hE_11_23, hE_20_21, hE_20_23, hE_21_23, hE1, hO, hS, hR, hC0, hW0, h0.out, h1.out, fun _ => rfl, h3.out, h4.out, h5.out, h6.out, h7.out, h8.out, h9.out, h10.out, h11.out, h12.out, h13.out, h14.out, h15.out, h16.out, h17.out, h18.out, h19.out, h20.out, h21.out, h22.out, h23.out⟩
    | 3, _ =>
      obtain ⟨ty, ps, af, ho⟩ := op_lit hops (i := 3) (op := Op.nilCheck (Operand.tmp 30)) (dst := some 31) (g := none) rfl
      obtain rfl := h2 (hdep 2 (by simp))
      refine wpOp_lit ho (fun j b h => by cases h) ?_
      clear hops hdep ho
      replace h0 := hidH h0
      replace h1 := hidH h1
      replace h2 := hidH h2
      replace h4 := hidH h4
      replace h5 := hidH h5
      replace h6 := hidH h6
      replace h7 := hidH h7
      replace h8 := hidH h8
      replace h9 := hidH h9
      replace h10 := hidH h10
      replace h11 := hidH h11
      replace h12 := hidH h12
      replace h13 := hidH h13
      replace h14 := hidH h14
      replace h15 := hidH h15
      replace h16 := hidH h16
      replace h17 := hidH h17
      replace h18 := hidH h18
      replace h19 := hidH h19
      replace h20 := hidH h20
      replace h21 := hidH h21
      replace h22 := hidH h22
      replace h23 := hidH h23
      go_wp2
      exact (HJ.out _ _ _).2 ⟨_, _, _, _, _, _, _, _, _, _, _, _, _, _, _, _, _, _, _, _, _, _, _, rfl, hE_10_11, hE_10_20, hE_10_21, hE_10_23, hE_11_20, hE_11_21, hE_11_23, hE_20_21, hE_20_23, hE_21_23, hE1, hO, hS, hR, hC0, hW0, h0.out, h1.out, fun _ => rfl, fun _ => rfl, h4.out, h5.out, h6.out, h7.out, h8.out, h9.out, h10.out, h11.out, h12.out, h13.out, h14.out, h15.out, h16.out, h17.out, h18.out, h19.out, h20.out, h21.out, h22.out, h23.out⟩
    | 4, _ =>
      obtain ⟨ty, ps, af, ho⟩ := op_lit hops (i := 4) (op := Op.fieldAddr 34 (Operand.tmp 31) 1) (dst := some 32) (g := none) rfl
      obtain rfl := h3 (hdep 3 (by simp))
      refine wpOp_lit ho (fun j b h => by cases h) ?_
      clear hops hdep ho
      replace h0 := hidH h0
      replace h1 := hidH h1
      replace h2 := hidH h2
      replace h3 := hidH h3
      replace h5 := hidH h5
      replace h6 := hidH h6
      replace h7 := hidH h7
      replace h8 := hidH h8
      replace h9 := hidH h9
      replace h10 := hidH h10
      replace h11 := hidH h11
      replace h12 := hidH h12
      replace h13 := hidH h13
      replace h14 := hidH h14
      replace h15 := hidH h15
      replace h16 := hidH h16
      replace h17 := hidH h17
      replace h18 := hidH h18
      replace h19 := hidH h19
      replace h20 := hidH h20
      replace h21 := hidH h21
      replace h22 := hidH h22
      replace h23 := hidH h23
      go_wp2
      exact (HJ.out _ _ _).2 ⟨_, _, _, _, _, _, _, _, _, _, _, _, _, _, _, _, _, _, _, _, _, _, _, rfl, hE_10_11, hE_10_20, hE_10_21, hE_10_23, hE_11_20, hE_11_21, hE_11_23, hE_20_21, hE_20_23, hE_21_23, hE1, hO, hS, hR, hC0, hW0, h0.out, h1.out, h2.out, fun _ => rfl, fun _ => rfl, h5.out, h6.out, h7.out, h8.out, h9.out, h10.out, h11.out, h12.out, h13.out, h14.out, h15.out, h16.out, h17.out, h18.out, h19.out, h20.out, h21.out, h22.out, h23.out⟩
    | 5, _ =>
      obtain ⟨ty, ps, af, ho⟩ := op_lit hops (i := 5) (op := Op.load 32 (Operand.tmp 32)) (dst := some 33) (g := none) rfl
      obtain rfl := h4 (hdep 4 (by simp))
      refine wpOp_lit ho (fun j b h => by cases h) ?_
      clear hops hdep ho
      replace h0 := hidH h0
      replace h1 := hidH h1
      replace h2 := hidH h2
      replace h3 := hidH h3
      replace h4 := hidH h4
      replace h6 := hidH h6
      replace h7 := hidH h7
      replace h8 := hidH h8
      replace h9 := hidH h9
      replace h10 := hidH h10
      replace h11 := hidH h11
      replace h12 := hidH h12
      replace h13 := hidH h13
      replace h14 := hidH h14
      replace h15 := hidH h15
      replace h16 := hidH h16
      replace h17 := hidH h17
      replace h18 := hidH h18
      replace h19 := hidH h19
      replace h20 := hidH h20
      replace h21 := hidH h21
      replace h22 := hidH h22
      replace h23 := hidH h23
      have q := (hO.cell (p := ⟨g, o + 1, none⟩) hgl).trans q1
      go_wp2
      exact (HJ.out _ _ _).2 ⟨_, _, _, _, _, _, _, _, _, _, _, _, _, _, _, _, _, _, _, _, _, _, _, rfl, hE_10_11, hE_10_20, hE_10_21, hE_10_23, hE_11_20, hE_11_21, hE_11_23, hE_20_21, hE_20_23, hE_21_23, hE1, hO, hS, hR, hC0, hW0, h0.out, h1.out, h2.out, h3.out, fun _ => rfl, fun _ => rfl, h6.out, h7.out, h8.out, h9.out, h10.out, h11.out, h12.out, h13.out, h14.out, h15.out, h16.out, h17.out, h18.out, h19.out, h20.out, h21.out, h22.out, h23.out⟩
    | 6, _ =>
      obtain ⟨ty, ps, af, ho⟩ := op_lit hops (i := 6) (op := Op.move (Operand.tmp 4)) (dst := some 34) (g := none) rfl
      refine wpOp_lit ho (fun j b h => by cases h) ?_
      clear hops hdep ho
      replace h0 := hidH h0
      replace h1 := hidH h1
      replace h2 := hidH h2
      replace h3 := hidH h3
      replace h4 := hidH h4
      replace h5 := hidH h5
      replace h7 := hidH h7
      replace h8 := hidH h8
      replace h9 := hidH h9
      replace h10 := hidH h10
      replace h11 := hidH h11
      replace h12 := hidH h12
      replace h13 := hidH h13
      replace h14 := hidH h14
      replace h15 := hidH h15
      replace h16 := hidH h16
      replace h17 := hidH h17
      replace h18 := hidH h18
      replace h19 := hidH h19
      replace h20 := hidH h20
      replace h21 := hidH h21
      replace h22 := hidH h22
      replace h23 := hidH h23
      go_wp2
      exact (HJ.out _ _ _).2 ⟨_, _, _, _, _, _, _, _, _, _, _, _, _, _, _, _, _, _, _, _, _, _, _, rfl, hE_10_11, hE_10_20, hE_10_21, hE_10_23, hE_11_20, hE_11_21, hE_11_23, hE_20_21, hE_20_23, hE_21_23, hE1, hO, hS, hR, hC0, hW0, h0.out, h1.out, h2.out, h3.out, h4.out, h5.out, fun _ => rfl, h7.out, h8.out, h9.out, h10.out, h11.out, h12.out, h13.out, h14.out, h15.out, h16.out, h17.out, h18.out, h19.out, h20.out, h21.out, h22.out, h23.out⟩
    | 7, _ =>
      obtain ⟨ty, ps, af, ho⟩ := op_lit hops (i := 7) (op := Op.indexAddr 32 (Operand.tmp 33) (Operand.tmp 34)) (dst := some 35) (g := none) rfl
      obtain rfl := h5 (hdep 5 (by simp))
      obtain rfl := h6 (hdep 6 (by simp))
      refine wpOp_lit ho (fun j b h => by cases h) ?_
      clear hops hdep ho
      replace h0 := hidH h0
      replace h1 := hidH h1
      replace h2 := hidH h2
      replace h3 := hidH h3
      replace h4 := hidH h4
      replace h5 := hidH h5
      replace h6 := hidH h6
      replace h8 := hidH h8
      replace h9 := hidH h9
      replace h10 := hidH h10
      replace h11 := hidH h11
      replace h12 := hidH h12
      replace h13 := hidH h13
      replace h14 := hidH h14
      replace h15 := hidH h15
      replace h16 := hidH h16
      replace h17 := hidH h17
      replace h18 := hidH h18
      replace h19 := hidH h19
      replace h20 := hidH h20
      replace h21 := hidH h21
      replace h22 := hidH h22
      replace h23 := hidH h23
      go_wp2
      exact (HJ.out _ _ _).2 ⟨_, _, _, _, _, _, _, _, _, _, _, _, _, _, _, _, _, _, _, _, _, _, _, rfl, hE_10_11, hE_10_20, hE_10_21, hE_10_23, hE_11_20, hE_11_21, hE_11_23, hE_20_21, hE_20_23, hE_21_23, hE1, hO, hS, hR, hC0, hW0, h0.out, h1.out, h2.out, h3.out, h4.out, fun _ => rfl, fun _ => rfl, fun _ => rfl, h8.out, h9.out, h10.out, h11.out, h12.out, h13.out, h14.out, h15.out, h16.out, h17.out, h18.out, h19.out, h20.out, h21.out, h22.out, h23.out⟩
    | 8, _ =>
      obtain ⟨ty, ps, af, ho⟩ := op_lit hops (i := 8) (op := Op.fieldAddr 52 (Operand.tmp 35) 0) (dst := some 36) (g := none) rfl
      obtain rfl := h7 (hdep 7 (by simp))
      refine wpOp_lit ho (fun j b h => by cases h) ?_
      clear hops hdep ho
      replace h0 := hidH h0
      replace h1 := hidH h1
      replace h2 := hidH h2
      replace h3 := hidH h3
      replace h4 := hidH h4
      replace h5 := hidH h5
      replace h6 := hidH h6
      replace h7 := hidH h7
      replace h9 := hidH h9
      replace h10 := hidH h10
      replace h11 := hidH h11
      replace h12 := hidH h12
      replace h13 := hidH h13
      replace h14 := hidH h14
      replace h15 := hidH h15
      replace h16 := hidH h16
      replace h17 := hidH h17
      replace h18 := hidH h18
      replace h19 := hidH h19
      replace h20 := hidH h20
      replace h21 := hidH h21
      replace h22 := hidH h22
      replace h23 := hidH h23
      go_wp2
      exact (HJ.out _ _ _).2 ⟨_, _, _, _, _, _, _, _, _, _, _, _, _, _, _, _, _, _, _, _, _, _, _, rfl, hE_10_11, hE_10_20, hE_10_21, hE_10_23, hE_11_20, hE_11_21, hE_11_23, hE_20_21, hE_20_23, hE_21_23, hE1, hO, hS, hR, hC0, hW0, h0.out, h1.out, h2.out, h3.out, h4.out, h5.out, h6.out, fun _ => rfl, fun _ => rfl, h9.out, h10.out, h11.out, h12.out, h13.out, h14.out, h15.out, h16.out, h17.out, h18.out, h19.out, h20.out, h21.out, h22.out, h23.out⟩
    | 9, _ =>
      obtain ⟨ty, ps, af, ho⟩ := op_lit hops (i := 9) (op := Op.load 2 (Operand.tmp 36)) (dst := some 37) (g := none) rfl
      obtain rfl := h8 (hdep 8 (by simp))
      refine wpOp_lit ho (fun j b h => by cases h) ?_
      clear hops hdep ho
      replace h0 := hidH h0
      replace h1 := hidH h1
      replace h2 := hidH h2
      replace h3 := hidH h3
      replace h4 := hidH h4
      replace h5 := hidH h5
      replace h6 := hidH h6
      replace h7 := hidH h7
      replace h8 := hidH h8
      replace h10 := hidH h10
      replace h11 := hidH h11
      replace h12 := hidH h12
      replace h13 := hidH h13
      replace h14 := hidH h14
      replace h15 := hidH h15
      replace h16 := hidH h16
      replace h17 := hidH h17
      replace h18 := hidH h18
      replace h19 := hidH h19
      replace h20 := hidH h20
      replace h21 := hidH h21
      replace h22 := hidH h22
      replace h23 := hidH h23
      have q := (hO.cell (p := ⟨sb, so + j * 2, none⟩) hsl).trans r0
      go_wp2
      exact (HJ.out _ _ _).2 ⟨_, _, _, _, _, _, _, _, _, _, _, _, _, _, _, _, _, _, _, _, _, _, _, rfl, hE_10_11, hE_10_20, hE_10_21, hE_10_23, hE_11_20, hE_11_21, hE_11_23, hE_20_21, hE_20_23, hE_21_23, hE1, hO, hS, hR, hC0, hW0, h0.out, h1.out, h2.out, h3.out, h4.out, h5.out, h6.out, h7.out, fun _ => rfl, fun _ => rfl, h10.out, h11.out, h12.out, h13.out, h14.out, h15.out, h16.out, h17.out, h18.out, h19.out, h20.out, h21.out, h22.out, h23.out⟩
    | 10, _ =>
      obtain ⟨ty, ps, af, ho⟩ := op_lit hops (i := 10) (op := Op.call { callee := Callee.value (Operand.func 109), args := #[(Operand.tmp 37)], argTypes := #[2] }) (dst := some 38) (g := none) rfl
      obtain rfl := h9 (hdep 9 (by simp))
      refine wpOp_lit ho (fun j b h => by cases h) ?_
      clear hops hdep ho
      replace h0 := hidH h0
      replace h1 := hidH h1
      replace h2 := hidH h2
      replace h3 := hidH h3
      replace h4 := hidH h4
      replace h5 := hidH h5
      replace h6 := hidH h6
      replace h7 := hidH h7
      replace h8 := hidH h8
      replace h9 := hidH h9
      replace h11 := hidH h11
      replace h12 := hidH h12
      replace h13 := hidH h13
      replace h14 := hidH h14
      replace h15 := hidH h15
      replace h16 := hidH h16
      replace h17 := hidH h17
      replace h18 := hidH h18
      replace h19 := hidH h19
      replace h20 := hidH h20
      replace h21 := hidH h21
      replace h22 := hidH h22
      replace h23 := hidH h23
      go_wp2_with fail
      refine (pair_any _ _ hk0 hk1).mono ?_
      rintro e w1 ⟨rfl, rfl⟩
      have hb := bal (Below.refl W.heap.size W) (.cells #[.int .u8 (kk / 256), .int .u8 (kk % 256)] 5)
      go_wp2
      exact (HJ.out _ _ _).2 ⟨_, _, _, _, _, _, _, _, _, _, _, _, _, _, _, _, _, _, _, _, _, _, _, rfl, fun _ => rfl, fun _ => rfl, fun _ => rfl, fun _ => rfl, hE_11_20, hE_11_21, hE_11_23, hE_20_21, hE_20_23, hE_21_23, hE1, btr hO hb, Nat.le_trans hS hb.size, hR.below hb, fun h => (hC0 h).below hb, fun h => own_below0 (hW0 h) hb, h0.out, h1.out, h2.out, h3.out, h4.out, h5.out, h6.out, h7.out, h8.out, fun _ => rfl, fun _ => fun _ => ⟨_, rfl, Blk.new _ _ _⟩, (fun h => by have h3 : dn 10 = true := hE_10_11 h; rw [hdn] at h3; cases h3), h12.out, h13.out, h14.out, h15.out, h16.out, h17.out, h18.out, h19.out, (fun h => by have h3 : dn 10 = true := hE_10_20 h; rw [hdn] at h3; cases h3), (fun h => by have h3 : dn 10 = true := hE_10_21 h; rw [hdn] at h3; cases h3), h22.out, (fun h => by have h3 : dn 10 = true := hE_10_23 h; rw [hdn] at h3; cases h3)⟩
    | 11, _ =>
      obtain ⟨ty, ps, af, ho⟩ := op_lit hops (i := 11) (op := Op.call { callee := Callee.builtin Builtin.append, args := #[(Operand.tmp 29), (Operand.tmp 38)], argTypes := #[22, 22] }) (dst := some 39) (g := none) rfl
      have hd10 := hidH (hdep 10 (by simp))
      have ow := hidH (hW0 hdn)
      obtain ⟨g2, rfl, q2⟩ := h10 hd10.out hdn
      obtain rfl := h1 (hdep 1 (by simp))
      refine wpOp_lit ho (fun j b h => by cases h) ?_
      clear hops hdep ho
      replace h0 := hidH h0
      replace h1 := hidH h1
      replace h2 := hidH h2
      replace h3 := hidH h3
      replace h4 := hidH h4
      replace h5 := hidH h5
      replace h6 := hidH h6
      replace h7 := hidH h7
      replace h8 := hidH h8
      replace h9 := hidH h9
      replace h10 := hidH h10
      replace h12 := hidH h12
      replace h13 := hidH h13
      replace h14 := hidH h14
      replace h15 := hidH h15
      replace h16 := hidH h16
      replace h17 := hidH h17
      replace h18 := hidH h18
      replace h19 := hidH h19
      replace h20 := hidH h20
      replace h21 := hidH h21
      replace h22 := hidH h22
      replace h23 := hidH h23
      have s2 : Bs W (some ⟨g2, 0, none⟩) (pairL kk) := lit_bs2 q2
      have hsz := hS
      have hn0 := hidH hn
      go_wp2_with (at_builtin; refine wpList_append_bs rfl _ _ rfl b0 _ _ _ rfl ow.out (some ⟨g2, 0, none⟩) (pairL kk) 2 rfl s2 (by have := hn0.out; simp [pairL]; omega) hsz ?_)
      intro v2 w2 o2 hg
      have BB := hidH ((Below.refl b0 W).grown hg hsz (fun x hx => (ow.out.lt x hx).1))
      have GG := hidH (fun (k : Nat) (t : TypeId) (cs : Array Value) (ht : t ≠ 5) (hk : Blk W k t cs) => grown_oth ow.out hg ht hk)
      have O8 := hidH (show w2.ownsRow b0 5 1 v2 (n0 + 2) (xs0 ++ [.int .u8 (kk / 256), .int .u8 (kk % 256)]) by simpa [pairL] using o2)
      clear o2 hg
      go_wp2
      exact (HJ.out _ _ _).2 ⟨_, _, _, _, _, _, _, _, _, _, _, _, _, _, _, _, _, _, _, _, _, _, _, rfl, fun _ => hd10.out, hE_10_20, hE_10_21, hE_10_23, fun _ => rfl, fun _ => rfl, fun _ => rfl, hE_20_21, hE_20_23, hE_21_23, hE1, hO.trans (BB.out.mono hB), Nat.le_trans hS BB.out.size, (BB.out.block R hRl).trans hR, fun h => GG.out _ _ _ (by decide) (hC0 h), (fun h => by simp at h), h0.out, fun _ => rfl, h2.out, h3.out, h4.out, h5.out, h6.out, h7.out, h8.out, h9.out, (fun _ h2 => by simp at h2), fun _ => fun _ => O8.out, h12.out, h13.out, h14.out, h15.out, h16.out, h17.out, h18.out, h19.out, (fun h => by have h3 : dn 11 = true := hE_11_20 h; rw [hdn] at h3; cases h3), (fun h => by have h3 : dn 11 = true := hE_11_21 h; rw [hdn] at h3; cases h3), h22.out, (fun h => by have h3 : dn 11 = true := hE_11_23 h; rw [hdn] at h3; cases h3)⟩
    | 12, _ =>
      obtain ⟨ty, ps, af, ho⟩ := op_lit hops (i := 12) (op := Op.move (Operand.tmp 0)) (dst := some 40) (g := none) rfl
      refine wpOp_lit ho (fun j b h => by cases h) ?_
      clear hops hdep ho
      replace h0 := hidH h0
      replace h1 := hidH h1
      replace h2 := hidH h2
      replace h3 := hidH h3
      replace h4 := hidH h4
      replace h5 := hidH h5
      replace h6 := hidH h6
      replace h7 := hidH h7
      replace h8 := hidH h8
      replace h9 := hidH h9
      replace h10 := hidH h10
      replace h11 := hidH h11
      replace h13 := hidH h13
      replace h14 := hidH h14
      replace h15 := hidH h15
      replace h16 := hidH h16
      replace h17 := hidH h17
      replace h18 := hidH h18
      replace h19 := hidH h19
      replace h20 := hidH h20
      replace h21 := hidH h21
      replace h22 := hidH h22
      replace h23 := hidH h23
      go_wp2
      exact (HJ.out _ _ _).2 ⟨_, _, _, _, _, _, _, _, _, _, _, _, _, _, _, _, _, _, _, _, _, _, _, rfl, hE_10_11, hE_10_20, hE_10_21, hE_10_23, hE_11_20, hE_11_21, hE_11_23, hE_20_21, hE_20_23, hE_21_23, hE1, hO, hS, hR, hC0, hW0, h0.out, h1.out, h2.out, h3.out, h4.out, h5.out, h6.out, h7.out, h8.out, h9.out, h10.out, h11.out, fun _ => rfl, h13.out, h14.out, h15.out, h16.out, h17.out, h18.out, h19.out, h20.out, h21.out, h22.out, h23.out⟩
    | 13, _ =>
      obtain ⟨ty, ps, af, ho⟩ := op_lit hops (i := 13) (op := Op.nilCheck (Operand.tmp 40)) (dst := some 41) (g := none) rfl
      obtain rfl := h12 (hdep 12 (by simp))
      refine wpOp_lit ho (fun j b h => by cases h) ?_
      clear hops hdep ho
      replace h0 := hidH h0
      replace h1 := hidH h1
      replace h2 := hidH h2
      replace h3 := hidH h3
      replace h4 := hidH h4
      replace h5 := hidH h5
      replace h6 := hidH h6
      replace h7 := hidH h7
      replace h8 := hidH h8
      replace h9 := hidH h9
      replace h10 := hidH h10
      replace h11 := hidH h11
      replace h12 := hidH h12
      replace h14 := hidH h14
      replace h15 := hidH h15
      replace h16 := hidH h16
      replace h17 := hidH h17
      replace h18 := hidH h18
      replace h19 := hidH h19
      replace h20 := hidH h20
      replace h21 := hidH h21
      replace h22 := hidH h22
      replace h23 := hidH h23
      go_wp2
      exact (HJ.out _ _ _).2 ⟨_, _, _, _, _, _, _, _, _, _, _, _, _, _, _, _, _, _, _, _, _, _, _, rfl, hE_10_11, hE_10_20, hE_10_21, hE_10_23, hE_11_20, hE_11_21, hE_11_23, hE_20_21, hE_20_23, hE_21_23, hE1, hO, hS, hR, hC0, hW0, h0.out, h1.out, h2.out, h3.out, h4.out, h5.out, h6.out, h7.out, h8.out, h9.out, h10.out, h11.out, fun _ => rfl, fun _ => rfl, h14.out, h15.out, h16.out, h17.out, h18.out, h19.out, h20.out, h21.out, h22.out, h23.out⟩
    | 14, _ =>
      obtain ⟨ty, ps, af, ho⟩ := op_lit hops (i := 14) (op := Op.fieldAddr 34 (Operand.tmp 41) 1) (dst := some 42) (g := none) rfl
      obtain rfl := h13 (hdep 13 (by simp))
      refine wpOp_lit ho (fun j b h => by cases h) ?_
      clear hops hdep ho
      replace h0 := hidH h0
      replace h1 := hidH h1
      replace h2 := hidH h2
      replace h3 := hidH h3
      replace h4 := hidH h4
      replace h5 := hidH h5
      replace h6 := hidH h6
      replace h7 := hidH h7
      replace h8 := hidH h8
      replace h9 := hidH h9
      replace h10 := hidH h10
      replace h11 := hidH h11
      replace h12 := hidH h12
      replace h13 := hidH h13
      replace h15 := hidH h15
      replace h16 := hidH h16
      replace h17 := hidH h17
      replace h18 := hidH h18
      replace h19 := hidH h19
      replace h20 := hidH h20
      replace h21 := hidH h21
      replace h22 := hidH h22
      replace h23 := hidH h23
      go_wp2
      exact (HJ.out _ _ _).2 ⟨_, _, _, _, _, _, _, _, _, _, _, _, _, _, _, _, _, _, _, _, _, _, _, rfl, hE_10_11, hE_10_20, hE_10_21, hE_10_23, hE_11_20, hE_11_21, hE_11_23, hE_20_21, hE_20_23, hE_21_23, hE1, hO, hS, hR, hC0, hW0, h0.out, h1.out, h2.out, h3.out, h4.out, h5.out, h6.out, h7.out, h8.out, h9.out, h10.out, h11.out, h12.out, fun _ => rfl, fun _ => rfl, h15.out, h16.out, h17.out, h18.out, h19.out, h20.out, h21.out, h22.out, h23.out⟩
    | 15, _ =>
      obtain ⟨ty, ps, af, ho⟩ := op_lit hops (i := 15) (op := Op.load 32 (Operand.tmp 42)) (dst := some 43) (g := none) rfl
      obtain rfl := h14 (hdep 14 (by simp))
      refine wpOp_lit ho (fun j b h => by cases h) ?_
      clear hops hdep ho
      replace h0 := hidH h0
      replace h1 := hidH h1
      replace h2 := hidH h2
      replace h3 := hidH h3
      replace h4 := hidH h4
      replace h5 := hidH h5
      replace h6 := hidH h6
      replace h7 := hidH h7
      replace h8 := hidH h8
      replace h9 := hidH h9
      replace h10 := hidH h10
      replace h11 := hidH h11
      replace h12 := hidH h12
      replace h13 := hidH h13
      replace h14 := hidH h14
      replace h16 := hidH h16
      replace h17 := hidH h17
      replace h18 := hidH h18
      replace h19 := hidH h19
      replace h20 := hidH h20
      replace h21 := hidH h21
      replace h22 := hidH h22
      replace h23 := hidH h23
      have q := (hO.cell (p := ⟨g, o + 1, none⟩) hgl).trans q1
      go_wp2
      exact (HJ.out _ _ _).2 ⟨_, _, _, _, _, _, _, _, _, _, _, _, _, _, _, _, _, _, _, _, _, _, _, rfl, hE_10_11, hE_10_20, hE_10_21, hE_10_23, hE_11_20, hE_11_21, hE_11_23, hE_20_21, hE_20_23, hE_21_23, hE1, hO, hS, hR, hC0, hW0, h0.out, h1.out, h2.out, h3.out, h4.out, h5.out, h6.out, h7.out, h8.out, h9.out, h10.out, h11.out, h12.out, h13.out, fun _ => rfl, fun _ => rfl, h16.out, h17.out, h18.out, h19.out, h20.out, h21.out, h22.out, h23.out⟩
    | 16, _ =>
      obtain ⟨ty, ps, af, ho⟩ := op_lit hops (i := 16) (op := Op.move (Operand.tmp 4)) (dst := some 44) (g := none) rfl
      refine wpOp_lit ho (fun j b h => by cases h) ?_
      clear hops hdep ho
      replace h0 := hidH h0
      replace h1 := hidH h1
      replace h2 := hidH h2
      replace h3 := hidH h3
      replace h4 := hidH h4
      replace h5 := hidH h5
      replace h6 := hidH h6
      replace h7 := hidH h7
      replace h8 := hidH h8
      replace h9 := hidH h9
      replace h10 := hidH h10
      replace h11 := hidH h11
      replace h12 := hidH h12
      replace h13 := hidH h13
      replace h14 := hidH h14
      replace h15 := hidH h15
      replace h17 := hidH h17
      replace h18 := hidH h18
      replace h19 := hidH h19
      replace h20 := hidH h20
      replace h21 := hidH h21
      replace h22 := hidH h22
      replace h23 := hidH h23
      go_wp2
      exact (HJ.out _ _ _).2 ⟨_, _, _, _, _, _, _, _, _, _, _, _, _, _, _, _, _, _, _, _, _, _, _, rfl, hE_10_11, hE_10_20, hE_10_21, hE_10_23, hE_11_20, hE_11_21, hE_11_23, hE_20_21, hE_20_23, hE_21_23, hE1, hO, hS, hR, hC0, hW0, h0.out, h1.out, h2.out, h3.out, h4.out, h5.out, h6.out, h7.out, h8.out, h9.out, h10.out, h11.out, h12.out, h13.out, h14.out, h15.out, fun _ => rfl, h17.out, h18.out, h19.out, h20.out, h21.out, h22.out, h23.out⟩
    | 17, _ =>
      obtain ⟨ty, ps, af, ho⟩ := op_lit hops (i := 17) (op := Op.indexAddr 32 (Operand.tmp 43) (Operand.tmp 44)) (dst := some 45) (g := none) rfl
      obtain rfl := h15 (hdep 15 (by simp))
      obtain rfl := h16 (hdep 16 (by simp))
      refine wpOp_lit ho (fun j b h => by cases h) ?_
      clear hops hdep ho
      replace h0 := hidH h0
      replace h1 := hidH h1
      replace h2 := hidH h2
      replace h3 := hidH h3
      replace h4 := hidH h4
      replace h5 := hidH h5
      replace h6 := hidH h6
      replace h7 := hidH h7
      replace h8 := hidH h8
      replace h9 := hidH h9
      replace h10 := hidH h10
      replace h11 := hidH h11
      replace h12 := hidH h12
      replace h13 := hidH h13
      replace h14 := hidH h14
      replace h15 := hidH h15
      replace h16 := hidH h16
      replace h18 := hidH h18
      replace h19 := hidH h19
      replace h20 := hidH h20
      replace h21 := hidH h21
      replace h22 := hidH h22
      replace h23 := hidH h23
      go_wp2
      exact (HJ.out _ _ _).2 ⟨_, _, _, _, _, _, _, _, _, _, _, _, _, _, _, _, _, _, _, _, _, _, _, rfl, hE_10_11, hE_10_20, hE_10_21, hE_10_23, hE_11_20, hE_11_21, hE_11_23, hE_20_21, hE_20_23, hE_21_23, hE1, hO, hS, hR, hC0, hW0, h0.out, h1.out, h2.out, h3.out, h4.out, h5.out, h6.out, h7.out, h8.out, h9.out, h10.out, h11.out, h12.out, h13.out, h14.out, fun _ => rfl, fun _ => rfl, fun _ => rfl, h18.out, h19.out, h20.out, h21.out, h22.out, h23.out⟩
    | 18, _ =>
      obtain ⟨ty, ps, af, ho⟩ := op_lit hops (i := 18) (op := Op.fieldAddr 52 (Operand.tmp 45) 1) (dst := some 46) (g := none) rfl
      obtain rfl := h17 (hdep 17 (by simp))
      refine wpOp_lit ho (fun j b h => by cases h) ?_
      clear hops hdep ho
      replace h0 := hidH h0
      replace h1 := hidH h1
      replace h2 := hidH h2
      replace h3 := hidH h3
      replace h4 := hidH h4
      replace h5 := hidH h5
      replace h6 := hidH h6
      replace h7 := hidH h7
      replace h8 := hidH h8
      replace h9 := hidH h9
      replace h10 := hidH h10
      replace h11 := hidH h11
      replace h12 := hidH h12
      replace h13 := hidH h13
      replace h14 := hidH h14
      replace h15 := hidH h15
      replace h16 := hidH h16
      replace h17 := hidH h17
      replace h19 := hidH h19
      replace h20 := hidH h20
      replace h21 := hidH h21
      replace h22 := hidH h22
      replace h23 := hidH h23
      go_wp2
      exact (HJ.out _ _ _).2 ⟨_, _, _, _, _, _, _, _, _, _, _, _, _, _, _, _, _, _, _, _, _, _, _, rfl, hE_10_11, hE_10_20, hE_10_21, hE_10_23, hE_11_20, hE_11_21, hE_11_23, hE_20_21, hE_20_23, hE_21_23, hE1, hO, hS, hR, hC0, hW0, h0.out, h1.out, h2.out, h3.out, h4.out, h5.out, h6.out, h7.out, h8.out, h9.out, h10.out, h11.out, h12.out, h13.out, h14.out, h15.out, h16.out, fun _ => rfl, fun _ => rfl, h19.out, h20.out, h21.out, h22.out, h23.out⟩
    | 19, _ =>
      obtain ⟨ty, ps, af, ho⟩ := op_lit hops (i := 19) (op := Op.load 2 (Operand.tmp 46)) (dst := some 47) (g := none) rfl
      obtain rfl := h18 (hdep 18 (by simp))
      refine wpOp_lit ho (fun j b h => by cases h) ?_
      clear hops hdep ho
      replace h0 := hidH h0
      replace h1 := hidH h1
      replace h2 := hidH h2
      replace h3 := hidH h3
      replace h4 := hidH h4
      replace h5 := hidH h5
      replace h6 := hidH h6
      replace h7 := hidH h7
      replace h8 := hidH h8
      replace h9 := hidH h9
      replace h10 := hidH h10
      replace h11 := hidH h11
      replace h12 := hidH h12
      replace h13 := hidH h13
      replace h14 := hidH h14
      replace h15 := hidH h15
      replace h16 := hidH h16
      replace h17 := hidH h17
      replace h18 := hidH h18
      replace h20 := hidH h20
      replace h21 := hidH h21
      replace h22 := hidH h22
      replace h23 := hidH h23
      have q := (hO.cell (p := ⟨sb, so + j * 2 + 1, none⟩) hsl).trans r1
      go_wp2
      exact (HJ.out _ _ _).2 ⟨_, _, _, _, _, _, _, _, _, _, _, _, _, _, _, _, _, _, _, _, _, _, _, rfl, hE_10_11, hE_10_20, hE_10_21, hE_10_23, hE_11_20, hE_11_21, hE_11_23, hE_20_21, hE_20_23, hE_21_23, hE1, hO, hS, hR, hC0, hW0, h0.out, h1.out, h2.out, h3.out, h4.out, h5.out, h6.out, h7.out, h8.out, h9.out, h10.out, h11.out, h12.out, h13.out, h14.out, h15.out, h16.out, h17.out, fun _ => rfl, fun _ => rfl, h20.out, h21.out, h22.out, h23.out⟩
    | 20, _ =>
      obtain ⟨ty, ps, af, ho⟩ := op_lit hops (i := 20) (op := Op.call { callee := Callee.value (Operand.func 109), args := #[(Operand.tmp 47)], argTypes := #[2] }) (dst := some 48) (g := none) rfl
      have hd11 := hidH (hdep 11 (by simp))
      have hd10 := hidH (hE_10_11 hd11.out)
      obtain rfl := h19 (hdep 19 (by simp))
      refine wpOp_lit ho (fun j b h => by cases h) ?_
      clear hops hdep ho
      replace h0 := hidH h0
      replace h1 := hidH h1
      replace h2 := hidH h2
      replace h3 := hidH h3
      replace h4 := hidH h4
      replace h5 := hidH h5
      replace h6 := hidH h6
      replace h7 := hidH h7
      replace h8 := hidH h8
      replace h9 := hidH h9
      replace h10 := hidH h10
      replace h11 := hidH h11
      replace h12 := hidH h12
      replace h13 := hidH h13
      replace h14 := hidH h14
      replace h15 := hidH h15
      replace h16 := hidH h16
      replace h17 := hidH h17
      replace h18 := hidH h18
      replace h19 := hidH h19
      replace h21 := hidH h21
      replace h22 := hidH h22
      replace h23 := hidH h23
      go_wp2_with fail
      refine (pair_any _ _ ha0 ha1).mono ?_
      rintro e w1 ⟨rfl, rfl⟩
      have hb := bal (Below.refl W.heap.size W) (.cells #[.int .u8 (aa / 256), .int .u8 (aa % 256)] 5)
      go_wp2
      exact (HJ.out _ _ _).2 ⟨_, _, _, _, _, _, _, _, _, _, _, _, _, _, _, _, _, _, _, _, _, _, _, rfl, hE_10_11, fun _ => hd10.out, hE_10_21, hE_10_23, fun _ => hd11.out, hE_11_21, hE_11_23, fun _ => rfl, fun _ => rfl, hE_21_23, hE1, btr hO hb, Nat.le_trans hS hb.size, hR.below hb, fun h => (hC0 h).below hb, (fun h => by have h3 : dn 11 = false := h; rw [hd11.out] at h3; cases h3), h0.out, h1.out, h2.out, h3.out, h4.out, h5.out, h6.out, h7.out, h8.out, h9.out, (fun _ h2 => by have h3 : dn 11 = false := h2; rw [hd11.out] at h3; cases h3), fun h h2 => own_below0 (h11.out h h2) hb, h12.out, h13.out, h14.out, h15.out, h16.out, h17.out, h18.out, fun _ => rfl, fun _ => fun _ => ⟨_, rfl, Blk.new _ _ _⟩, (fun h => by have h3 : dn 20 = true := hE_20_21 h; rw [hdn] at h3; cases h3), h22.out, (fun h => by have h3 : dn 20 = true := hE_20_23 h; rw [hdn] at h3; cases h3)⟩
    | 21, _ =>
      obtain ⟨ty, ps, af, ho⟩ := op_lit hops (i := 21) (op := Op.call { callee := Callee.builtin Builtin.append, args := #[(Operand.tmp 39), (Operand.tmp 48)], argTypes := #[22, 22] }) (dst := some 49) (g := none) rfl
      have hd20 := hidH (hdep 20 (by simp))
      have hd10 := hidH (hE_10_20 hd20.out)
      have hd11 := hidH (hE_11_20 hd20.out)
      have o11 := hidH (h11 hd11.out hdn)
      obtain ⟨g2, rfl, q2⟩ := h20 hd20.out hdn
      refine wpOp_lit ho (fun j b h => by cases h) ?_
      clear hops hdep ho
      replace h0 := hidH h0
      replace h1 := hidH h1
      replace h2 := hidH h2
      replace h3 := hidH h3
      replace h4 := hidH h4
      replace h5 := hidH h5
      replace h6 := hidH h6
      replace h7 := hidH h7
      replace h8 := hidH h8
      replace h9 := hidH h9
      replace h10 := hidH h10
      replace h11 := hidH h11
      replace h12 := hidH h12
      replace h13 := hidH h13
      replace h14 := hidH h14
      replace h15 := hidH h15
      replace h16 := hidH h16
      replace h17 := hidH h17
      replace h18 := hidH h18
      replace h19 := hidH h19
      replace h20 := hidH h20
      replace h22 := hidH h22
      replace h23 := hidH h23
      have s2 : Bs W (some ⟨g2, 0, none⟩) (pairL aa) := lit_bs2 q2
      have hsz := hS
      have hn0 := hidH hn
      go_wp2_with (at_builtin; refine wpList_append_bs rfl _ _ rfl b0 _ _ _ rfl o11.out (some ⟨g2, 0, none⟩) (pairL aa) 2 rfl s2 (by have := hn0.out; simp [pairL]; omega) hsz ?_)
      intro v2 w2 o2 hg
      have BB := hidH ((Below.refl b0 W).grown hg hsz (fun x hx => (o11.out.lt x hx).1))
      have GG := hidH (fun (k : Nat) (t : TypeId) (cs : Array Value) (ht : t ≠ 5) (hk : Blk W k t cs) => grown_oth o11.out hg ht hk)
      have O8 := hidH (show w2.ownsRow b0 5 1 v2 (n0 + 4) (xs0 ++ [.int .u8 (kk / 256), .int .u8 (kk % 256), .int .u8 (aa / 256), .int .u8 (aa % 256)]) by simpa [pairL] using o2)
      clear o2 hg
      go_wp2
      exact (HJ.out _ _ _).2 ⟨_, _, _, _, _, _, _, _, _, _, _, _, _, _, _, _, _, _, _, _, _, _, _, rfl, hE_10_11, hE_10_20, fun _ => hd10.out, hE_10_23, hE_11_20, fun _ => hd11.out, hE_11_23, fun _ => hd20.out, hE_20_23, fun _ => rfl, hE1, hO.trans (BB.out.mono hB), Nat.le_trans hS BB.out.size, (BB.out.block R hRl).trans hR, fun h => GG.out _ _ _ (by decide) (hC0 h), (fun h => by have h3 : dn 11 = false := h; rw [hd11.out] at h3; cases h3), h0.out, h1.out, h2.out, h3.out, h4.out, h5.out, h6.out, h7.out, h8.out, h9.out, (fun _ h2 => by have h3 : dn 11 = false := h2; rw [hd11.out] at h3; cases h3), (fun _ h2 => by simp at h2), h12.out, h13.out, h14.out, h15.out, h16.out, h17.out, h18.out, h19.out, (fun _ h2 => by simp at h2), fun _ => O8.out, h22.out, (fun h => by have h3 : dn 21 = true := hE_21_23 h; rw [hdn] at h3; cases h3)⟩
    | 22, _ =>
      obtain ⟨ty, ps, af, ho⟩ := op_lit hops (i := 22) (op := Op.fieldAddr 28 (Operand.tmp 3) 2) (dst := some 50) (g := none) rfl
      refine wpOp_lit ho (fun j b h => by cases h) ?_
      clear hops hdep ho
      replace h0 := hidH h0
      replace h1 := hidH h1
      replace h2 := hidH h2
      replace h3 := hidH h3
      replace h4 := hidH h4
      replace h5 := hidH h5
      replace h6 := hidH h6
      replace h7 := hidH h7
      replace h8 := hidH h8
      replace h9 := hidH h9
      replace h10 := hidH h10
      replace h11 := hidH h11
      replace h12 := hidH h12
      replace h13 := hidH h13
      replace h14 := hidH h14
      replace h15 := hidH h15
      replace h16 := hidH h16
      replace h17 := hidH h17
      replace h18 := hidH h18
      replace h19 := hidH h19
      replace h20 := hidH h20
      replace h21 := hidH h21
      replace h23 := hidH h23
      go_wp2
      exact (HJ.out _ _ _).2 ⟨_, _, _, _, _, _, _, _, _, _, _, _, _, _, _, _, _, _, _, _, _, _, _, rfl, hE_10_11, hE_10_20, hE_10_21, hE_10_23, hE_11_20, hE_11_21, hE_11_23, hE_20_21, hE_20_23, hE_21_23, hE1, hO, hS, hR, hC0, hW0, h0.out, h1.out, h2.out, h3.out, h4.out, h5.out, h6.out, h7.out, h8.out, h9.out, h10.out, h11.out, h12.out, h13.out, h14.out, h15.out, h16.out, h17.out, h18.out, h19.out, h20.out, h21.out, fun _ => rfl, h23.out⟩
    | 23, _ =>
      obtain ⟨ty, ps, af, ho⟩ := op_lit hops (i := 23) (op := Op.store 22 (Operand.tmp 50) (Operand.tmp 49)) (dst := none) (g := none) rfl
      have hd21 := hidH (hdep 21 (by simp))
      have hd10 := hidH (hE_10_21 hd21.out)
      have hd11 := hidH (hE_11_21 hd21.out)
      have hd20 := hidH (hE_20_21 hd21.out)
      have hd1 := hidH (hdep 1 (by simp))
      have hC := hC0 hdn
      obtain o21 := h21 (hdep 21 (by simp))
      obtain rfl := h22 (hdep 22 (by simp))
      refine wpOp_lit ho (fun j b h => by cases h) ?_
      clear hops hdep ho
      replace h0 := hidH h0
      replace h1 := hidH h1
      replace h2 := hidH h2
      replace h3 := hidH h3
      replace h4 := hidH h4
      replace h5 := hidH h5
      replace h6 := hidH h6
      replace h7 := hidH h7
      replace h8 := hidH h8
      replace h9 := hidH h9
      replace h10 := hidH h10
      replace h11 := hidH h11
      replace h12 := hidH h12
      replace h13 := hidH h13
      replace h14 := hidH h14
      replace h15 := hidH h15
      replace h16 := hidH h16
      replace h17 := hidH h17
      replace h18 := hidH h18
      replace h19 := hidH h19
      replace h20 := hidH h20
      replace h21 := hidH h21
      replace h22 := hidH h22
      obtain ⟨A9, n9, c9, e9⟩ := own_slice o21
      subst e9
      have r2 := hC.cell 2
      have rf := hC.frozen 2
      simp only [List.getElem?_toArray, List.getElem?_cons_succ, List.getElem?_cons_zero] at r2
      have KN := hidH (show Blk (W.setCell ⟨R2, 2, none⟩ (.slice A9 n9 c9)) R2 28 #[.int .i64 3, .int .i64 0, .slice A9 n9 c9] from hC.put 2 _)
      go_wp2
      exact (HJ.out _ _ _).2 ⟨_, _, _, _, _, _, _, _, _, _, _, _, _, _, _, _, _, _, _, _, _, _, _, rfl, hE_10_11, hE_10_20, hE_10_21, fun _ => hd10.out, hE_11_20, hE_11_21, fun _ => hd11.out, hE_20_21, fun _ => hd20.out, fun _ => hd21.out, fun _ => hd1.out, hO.setCell (Nat.le_trans hB hBR) _, by simpa [World.setCell] using hS, hR.far (by show R2 ≠ R; omega) _, (fun h => by simp at h), (fun h => by have h3 : dn 11 = false := h; rw [hd11.out] at h3; cases h3), h0.out, h1.out, h2.out, h3.out, h4.out, h5.out, h6.out, h7.out, h8.out, h9.out, (fun _ h2 => by have h3 : dn 11 = false := h2; rw [hd11.out] at h3; cases h3), (fun _ h2 => by have h3 : dn 21 = false := h2; rw [hd21.out] at h3; cases h3), h12.out, h13.out, h14.out, h15.out, h16.out, h17.out, h18.out, h19.out, (fun _ h2 => by have h3 : dn 21 = false := h2; rw [hd21.out] at h3; cases h3), fun _ => own_farT o21 (by decide) hC _ _, fun _ => rfl, fun _ => KN.out⟩
    | n + 24, h => omega
  case fin =>
    clear hops hdeps hback
    rintro dn ac W hJ hall
    obtain ⟨t28, t29, t30, t31, t32, t33, t34, t35, t36, t37, t38, t39, t40, t41, t42, t43, t44, t45, t46, t47, t48, t49, t50, rfl, hE_10_11, hE_10_20, hE_10_21, hE_10_23, hE_11_20, hE_11_21, hE_11_23, hE_20_21, hE_20_23, hE_21_23, hE1, hO, hS, hR, hC0, hW0, h0, h1, h2, h3, h4, h5, h6, h7, h8, h9, h10, h11, h12, h13, h14, h15, h16, h17, h18, h19, h20, h21, h22, h23⟩ := (HJ.out _ _ _).1 hJ
    exact fin _ _ _ _ _ _ _ _ _ _ _ _ _ _ _ _ _ _ _ _ _ _ _ W hO hS hR (h21 (hall 21 (by omega))) (h23 (hall 23 (by omega)))
end Go.Proofs.YtjjileefdjjijaaDoor
