import Derived.Test.YtjjileefdjjijaaDoorMa6
import Derived.Test.YtjjileefdjjijaaDoorS5DR

/- The region of l5Answer that draws its order. -/
namespace Go.Proofs.YtjjileefdjjijaaDoor
open Go.RowKit Go.Deep

set_option maxRecDepth 100000 in
set_option maxHeartbeats 1000000 in
theorem regA1 {Q : Exit → Act → World → Prop} (x1 : Value) (g o R : Nat) (y : AnswerM) (A : Option Addr) (c : Nat) (ww wq : World) (ht0 : 0 ≤ y.Serial) (ht1 : y.Serial ≤ 4294967295) (hcs : ∀ j, j < y.Codes.length → 0 ≤ y.Codes.getD j 0 ∧ y.Codes.getD j 0 ≤ 255) (hcl : y.Codes.length ≤ 200) (q0 : ww.cell? ⟨g, o, none⟩ = some (.int .i64 y.Serial)) (q1 : ww.cell? ⟨g, o + 1, none⟩ = some (.slice A y.Codes.length c)) (hI : Is ww A y.Codes) (hgl : g < ww.heap.size) (hB : ww.heap.size ≤ wq.heap.size) (hBR : ww.heap.size ≤ R) (hRl : R < wq.heap.size) {ops : Array Oper}
    (hops : (ops.map fun o => (o.op, o.dst, o.guard)) = #[(Op.move (Operand.tmp 0), some 3, none), (Op.nilCheck (Operand.tmp 3), some 4, none), (Op.fieldAddr 63 (Operand.tmp 4) 0, some 5, none), (Op.load 2 (Operand.tmp 5), some 6, none), (Op.call { callee := Callee.value (Operand.func 108), args := #[(Operand.tmp 6)], argTypes := #[2] }, some 7, none), (Op.move (Operand.tmp 0), some 8, none), (Op.nilCheck (Operand.tmp 8), some 9, none), (Op.fieldAddr 63 (Operand.tmp 9) 1, some 10, none), (Op.load 37 (Operand.tmp 10), some 11, none), (Op.call { callee := Callee.value (Operand.func 111), args := #[(Operand.tmp 11)], argTypes := #[37] }, some 12, none), (Op.call { callee := Callee.builtin Builtin.append, args := #[(Operand.tmp 7), (Operand.tmp 12)], argTypes := #[22, 22] }, some 13, none), (Op.build 28 #[(0, (Operand.const (Value.int .i64 128))), (2, (Operand.tmp 13))], some 14, none), (Op.store 28 (Operand.tmp 2) (Operand.tmp 14), none, none)])
    (hdeps : ((List.range 13).all fun i => ((fun i => [[], [0], [1], [2], [3], [], [5], [6], [7], [4, 8], [4, 9], [10], [11]].getD i []) i).all fun j => ((ops[i]?).map fun o => o.after.any fun e => Region.binds .any e && e.on == j).getD false) = true)
    (hback : ((List.range 13).all fun i => ((ops[i]?).map fun o => o.after.all fun e => decide (e.on < i)).getD false) = true)
    {a0 : Act} (ha : a0 = { tmps := #[.pointer (some ⟨g, o, none⟩), x1, .pointer (some ⟨R, 0, none⟩), undef, undef, undef, undef, undef, undef, undef, undef, undef, undef, undef, undef], defers := [] }) (hE_4_9 : false = true → false = true) (hE_4_10 : false = true → false = true) (hE_4_11 : false = true → false = true) (hE_4_12 : false = true → false = true) (hE_9_10 : false = true → false = true) (hE_9_11 : false = true → false = true) (hE_9_12 : false = true → false = true) (hE_10_11 : false = true → false = true) (hE_10_12 : false = true → false = true) (hE_11_12 : false = true → false = true) (hO : Below ww.heap.size ww wq) (hS : wq.heap.size ≤ wq.heap.size) (hRR : false = false → Blk wq R 28 #[.int .i64 0, .int .i64 0, .slice none 0 0])
    (fin : ∀ t3 t4 t5 t6 t7 t8 t9 t10 t11 t12 t13 t14 (W : World), (Below ww.heap.size ww W) → (wq.heap.size ≤ W.heap.size) → (W.ownsRow wq.heap.size 5 1 t13 (4 + (y.Codes.length + 1)) ((pk y.Serial ++ ((y.Codes.length : Int) :: y.Codes)).map (Value.int .u8))) → (Blk W R 28 #[.int .i64 128, .int .i64 0, t13]) → Q .normal { tmps := #[.pointer (some ⟨g, o, none⟩), x1, .pointer (some ⟨R, 0, none⟩), t3, t4, t5, t6, t7, t8, t9, t10, t11, t12, t13, t14], defers := [] } W) :
    wpAny Tryd.prog .any ops Q ops.size (Array.replicate ops.size false) a0 wq := by
  have hn : ops.size = 13 := by have := congrArg Array.size hops; simpa using this
  obtain ⟨J, HJ⟩ : ∃ J : (Nat → Bool) → Act → World → Prop, ∀ dn ac W, J dn ac W ↔ (fun dn ac W => ∃ t3 t4 t5 t6 t7 t8 t9 t10 t11 t12 t13 t14, ac = { tmps := #[.pointer (some ⟨g, o, none⟩), x1, .pointer (some ⟨R, 0, none⟩), t3, t4, t5, t6, t7, t8, t9, t10, t11, t12, t13, t14], defers := [] } ∧ (dn 9 = true → dn 4 = true) ∧ (dn 10 = true → dn 4 = true) ∧ (dn 11 = true → dn 4 = true) ∧ (dn 12 = true → dn 4 = true) ∧ (dn 10 = true → dn 9 = true) ∧ (dn 11 = true → dn 9 = true) ∧ (dn 12 = true → dn 9 = true) ∧ (dn 11 = true → dn 10 = true) ∧ (dn 12 = true → dn 10 = true) ∧ (dn 12 = true → dn 11 = true) ∧ (Below ww.heap.size ww W) ∧ (wq.heap.size ≤ W.heap.size) ∧ (dn 12 = false → Blk W R 28 #[.int .i64 0, .int .i64 0, .slice none 0 0]) ∧ (dn 0 = true → t3 = .pointer (some ⟨g, o, none⟩)) ∧ (dn 1 = true → t4 = .pointer (some ⟨g, o, none⟩)) ∧ (dn 2 = true → t5 = .pointer (some ⟨g, o, none⟩)) ∧ (dn 3 = true → t6 = .int .i64 y.Serial) ∧ (dn 4 = true → dn 10 = false → W.ownsRow wq.heap.size 5 1 t7 4 ((pk y.Serial).map (Value.int .u8))) ∧ (dn 5 = true → t8 = .pointer (some ⟨g, o, none⟩)) ∧ (dn 6 = true → t9 = .pointer (some ⟨g, o, none⟩)) ∧ (dn 7 = true → t10 = .pointer (some ⟨g, o + 1, none⟩)) ∧ (dn 8 = true → t11 = .slice A y.Codes.length c) ∧ (dn 9 = true → dn 10 = false → ∃ (A2 : Option Addr) (c2 : Nat), t12 = .slice A2 ((y.Codes.length : Int) :: y.Codes).length c2 ∧ Bs W A2 ((y.Codes.length : Int) :: y.Codes)) ∧ (dn 10 = true → W.ownsRow wq.heap.size 5 1 t13 (4 + (y.Codes.length + 1)) ((pk y.Serial ++ ((y.Codes.length : Int) :: y.Codes)).map (Value.int .u8))) ∧ (dn 11 = true → t14 = .agg #[.int .i64 128, .int .i64 0, t13]) ∧ (dn 12 = true → Blk W R 28 #[.int .i64 128, .int .i64 0, t13])) dn ac W := ⟨_, fun _ _ _ => Iff.rfl⟩
  replace HJ := hidH HJ
  refine region_inv 13 (fun i => [[], [0], [1], [2], [3], [], [5], [6], [7], [4, 8], [4, 9], [10], [11]].getD i []) J hn hdeps hback ?start ?step ?fin
  case start => exact (HJ.out _ _ _).2 ⟨undef, undef, undef, undef, undef, undef, undef, undef, undef, undef, undef, undef, ha, hE_4_9, hE_4_10, hE_4_11, hE_4_12, hE_9_10, hE_9_11, hE_9_12, hE_10_11, hE_10_12, hE_11_12, hO, hS, hRR, fun h => by simp at h, fun h => by simp at h, fun h => by simp at h, fun h => by simp at h, fun h => by simp at h, fun h => by simp at h, fun h => by simp at h, fun h => by simp at h, fun h => by simp at h, fun h => by simp at h, fun h => by simp at h, fun h => by simp at h, fun h => by simp at h⟩
  all_goals clear ha hE_4_9 hE_4_10 hE_4_11 hE_4_12 hE_9_10 hE_9_11 hE_9_12 hE_10_11 hE_10_12 hE_11_12 hO hS hRR
  case step =>
    clear fin hdeps hback
    intro i hi dn ac W hJ hdn hdep
    obtain ⟨t3, t4, t5, t6, t7, t8, t9, t10, t11, t12, t13, t14, rfl, hE_4_9, hE_4_10, hE_4_11, hE_4_12, hE_9_10, hE_9_11, hE_9_12, hE_10_11, hE_10_12, hE_11_12, hO, hS, hRR, h0, h1, h2, h3, h4, h5, h6, h7, h8, h9, h10, h11, h12⟩ := (HJ.out _ _ _).1 hJ
    clear hJ
    match i, hi with
    | 0, _ =>
      obtain ⟨ty, ps, af, ho⟩ := op_lit hops (i := 0) (op := Op.move (Operand.tmp 0)) (dst := some 3) (g := none) rfl
      refine wpOp_lit ho (fun j b h => by cases h) ?_
      clear hops hdep ho
      replace h1 := hidH h1
      replace h2 := hidH h2
      replace h3 := hidH h3
      replace h4 := hidH h4
      replace h5 := hidH h5
      replace h6 := hidH h6
      replace h7 := hidH h7
      replace h8 := hidH h8
      replace h9 := hidH h9
      replace h10 := hidH h10
      replace h11 := hidH h11
      replace h12 := hidH h12
      go_wp2
      exact (HJ.out _ _ _).2 ⟨_, _, _, _, _, _, _, _, _, _, _, _, rfl, hE_4_9, hE_4_10, hE_4_11, hE_4_12, hE_9_10, hE_9_11, hE_9_12, hE_10_11, hE_10_12, hE_11_12, hO, hS, hRR, fun _ => rfl, h1.out, h2.out, h3.out, h4.out, h5.out, h6.out, h7.out, h8.out, h9.out, h10.out, h11.out, h12.out⟩
    | 1, _ =>
      obtain ⟨ty, ps, af, ho⟩ := op_lit hops (i := 1) (op := Op.nilCheck (Operand.tmp 3)) (dst := some 4) (g := none) rfl
      obtain rfl := h0 (hdep 0 (by simp))
      refine wpOp_lit ho (fun j b h => by cases h) ?_
      clear hops hdep ho
      replace h0 := hidH h0
      replace h2 := hidH h2
      replace h3 := hidH h3
      replace h4 := hidH h4
      replace h5 := hidH h5
      replace h6 := hidH h6
      replace h7 := hidH h7
      replace h8 := hidH h8
      replace h9 := hidH h9
      replace h10 := hidH h10
      replace h11 := hidH h11
      replace h12 := hidH h12
      go_wp2
      exact (HJ.out _ _ _).2 ⟨_, _, _, _, _, _, _, _, _, _, _, _, rfl, hE_4_9, hE_4_10, hE_4_11, hE_4_12, hE_9_10, hE_9_11, hE_9_12, hE_10_11, hE_10_12, hE_11_12, hO, hS, hRR, fun _ => rfl, fun _ => rfl, h2.out, h3.out, h4.out, h5.out, h6.out, h7.out, h8.out, h9.out, h10.out, h11.out, h12.out⟩
    | 2, _ =>
      obtain ⟨ty, ps, af, ho⟩ := op_lit hops (i := 2) (op := Op.fieldAddr 63 (Operand.tmp 4) 0) (dst := some 5) (g := none) rfl
      obtain rfl := h1 (hdep 1 (by simp))
      refine wpOp_lit ho (fun j b h => by cases h) ?_
      clear hops hdep ho
      replace h0 := hidH h0
      replace h1 := hidH h1
      replace h3 := hidH h3
      replace h4 := hidH h4
      replace h5 := hidH h5
      replace h6 := hidH h6
      replace h7 := hidH h7
      replace h8 := hidH h8
      replace h9 := hidH h9
      replace h10 := hidH h10
      replace h11 := hidH h11
      replace h12 := hidH h12
      go_wp2
      exact (HJ.out _ _ _).2 ⟨_, _, _, _, _, _, _, _, _, _, _, _, rfl, hE_4_9, hE_4_10, hE_4_11, hE_4_12, hE_9_10, hE_9_11, hE_9_12, hE_10_11, hE_10_12, hE_11_12, hO, hS, hRR, h0.out, fun _ => rfl, fun _ => rfl, h3.out, h4.out, h5.out, h6.out, h7.out, h8.out, h9.out, h10.out, h11.out, h12.out⟩
    | 3, _ =>
      obtain ⟨ty, ps, af, ho⟩ := op_lit hops (i := 3) (op := Op.load 2 (Operand.tmp 5)) (dst := some 6) (g := none) rfl
      obtain rfl := h2 (hdep 2 (by simp))
      refine wpOp_lit ho (fun j b h => by cases h) ?_
      clear hops hdep ho
      replace h0 := hidH h0
      replace h1 := hidH h1
      replace h2 := hidH h2
      replace h4 := hidH h4
      replace h5 := hidH h5
      replace h6 := hidH h6
      replace h7 := hidH h7
      replace h8 := hidH h8
      replace h9 := hidH h9
      replace h10 := hidH h10
      replace h11 := hidH h11
      replace h12 := hidH h12
      have q := (hO.cell (p := ⟨g, o, none⟩) hgl).trans q0
      go_wp2
      exact (HJ.out _ _ _).2 ⟨_, _, _, _, _, _, _, _, _, _, _, _, rfl, hE_4_9, hE_4_10, hE_4_11, hE_4_12, hE_9_10, hE_9_11, hE_9_12, hE_10_11, hE_10_12, hE_11_12, hO, hS, hRR, h0.out, h1.out, fun _ => rfl, fun _ => rfl, h4.out, h5.out, h6.out, h7.out, h8.out, h9.out, h10.out, h11.out, h12.out⟩
    | 4, _ =>
      obtain ⟨ty, ps, af, ho⟩ := op_lit hops (i := 4) (op := Op.call { callee := Callee.value (Operand.func 108), args := #[(Operand.tmp 6)], argTypes := #[2] }) (dst := some 7) (g := none) rfl
      obtain rfl := h3 (hdep 3 (by simp))
      refine wpOp_lit ho (fun j b h => by cases h) ?_
      clear hops hdep ho
      replace h0 := hidH h0
      replace h1 := hidH h1
      replace h2 := hidH h2
      replace h3 := hidH h3
      replace h5 := hidH h5
      replace h6 := hidH h6
      replace h7 := hidH h7
      replace h8 := hidH h8
      replace h9 := hidH h9
      replace h10 := hidH h10
      replace h11 := hidH h11
      replace h12 := hidH h12
      go_wp2_with fail
      refine (l1Pack_any _ _ ht0 ht1).mono ?_
      rintro e w1 ⟨rfl, rfl⟩
      have hb := bal (Below.refl W.heap.size W) (.cells #[.int .u8 (y.Serial / 16777216), .int .u8 (y.Serial / 65536 % 256), .int .u8 (y.Serial / 256 % 256), .int .u8 (y.Serial % 256)] 5)
      go_wp2
      exact (HJ.out _ _ _).2 ⟨_, _, _, _, _, _, _, _, _, _, _, _, rfl, fun _ => rfl, fun _ => rfl, fun _ => rfl, fun _ => rfl, hE_9_10, hE_9_11, hE_9_12, hE_10_11, hE_10_12, hE_11_12, btr hO hb, Nat.le_trans hS hb.size, fun h => (hRR h).below hb, h0.out, h1.out, h2.out, fun _ => rfl, fun _ => fun _ => World.ownsRow_lit _ #[.int .u8 (y.Serial / 16777216), .int .u8 (y.Serial / 65536 % 256), .int .u8 (y.Serial / 256 % 256), .int .u8 (y.Serial % 256)] 4 hS (by unfold maxLen; omega) rfl, h5.out, h6.out, h7.out, h8.out, (fun h => by have h3 : dn 4 = true := hE_4_9 h; rw [hdn] at h3; cases h3), (fun h => by have h3 : dn 4 = true := hE_4_10 h; rw [hdn] at h3; cases h3), (fun h => by have h3 : dn 4 = true := hE_4_11 h; rw [hdn] at h3; cases h3), (fun h => by have h3 : dn 4 = true := hE_4_12 h; rw [hdn] at h3; cases h3)⟩
    | 5, _ =>
      obtain ⟨ty, ps, af, ho⟩ := op_lit hops (i := 5) (op := Op.move (Operand.tmp 0)) (dst := some 8) (g := none) rfl
      refine wpOp_lit ho (fun j b h => by cases h) ?_
      clear hops hdep ho
      replace h0 := hidH h0
      replace h1 := hidH h1
      replace h2 := hidH h2
      replace h3 := hidH h3
      replace h4 := hidH h4
      replace h6 := hidH h6
      replace h7 := hidH h7
      replace h8 := hidH h8
      replace h9 := hidH h9
      replace h10 := hidH h10
      replace h11 := hidH h11
      replace h12 := hidH h12
      go_wp2
      exact (HJ.out _ _ _).2 ⟨_, _, _, _, _, _, _, _, _, _, _, _, rfl, hE_4_9, hE_4_10, hE_4_11, hE_4_12, hE_9_10, hE_9_11, hE_9_12, hE_10_11, hE_10_12, hE_11_12, hO, hS, hRR, h0.out, h1.out, h2.out, h3.out, h4.out, fun _ => rfl, h6.out, h7.out, h8.out, h9.out, h10.out, h11.out, h12.out⟩
    | 6, _ =>
      obtain ⟨ty, ps, af, ho⟩ := op_lit hops (i := 6) (op := Op.nilCheck (Operand.tmp 8)) (dst := some 9) (g := none) rfl
      obtain rfl := h5 (hdep 5 (by simp))
      refine wpOp_lit ho (fun j b h => by cases h) ?_
      clear hops hdep ho
      replace h0 := hidH h0
      replace h1 := hidH h1
      replace h2 := hidH h2
      replace h3 := hidH h3
      replace h4 := hidH h4
      replace h5 := hidH h5
      replace h7 := hidH h7
      replace h8 := hidH h8
      replace h9 := hidH h9
      replace h10 := hidH h10
      replace h11 := hidH h11
      replace h12 := hidH h12
      go_wp2
      exact (HJ.out _ _ _).2 ⟨_, _, _, _, _, _, _, _, _, _, _, _, rfl, hE_4_9, hE_4_10, hE_4_11, hE_4_12, hE_9_10, hE_9_11, hE_9_12, hE_10_11, hE_10_12, hE_11_12, hO, hS, hRR, h0.out, h1.out, h2.out, h3.out, h4.out, fun _ => rfl, fun _ => rfl, h7.out, h8.out, h9.out, h10.out, h11.out, h12.out⟩
    | 7, _ =>
      obtain ⟨ty, ps, af, ho⟩ := op_lit hops (i := 7) (op := Op.fieldAddr 63 (Operand.tmp 9) 1) (dst := some 10) (g := none) rfl
      obtain rfl := h6 (hdep 6 (by simp))
      refine wpOp_lit ho (fun j b h => by cases h) ?_
      clear hops hdep ho
      replace h0 := hidH h0
      replace h1 := hidH h1
      replace h2 := hidH h2
      replace h3 := hidH h3
      replace h4 := hidH h4
      replace h5 := hidH h5
      replace h6 := hidH h6
      replace h8 := hidH h8
      replace h9 := hidH h9
      replace h10 := hidH h10
      replace h11 := hidH h11
      replace h12 := hidH h12
      go_wp2
      exact (HJ.out _ _ _).2 ⟨_, _, _, _, _, _, _, _, _, _, _, _, rfl, hE_4_9, hE_4_10, hE_4_11, hE_4_12, hE_9_10, hE_9_11, hE_9_12, hE_10_11, hE_10_12, hE_11_12, hO, hS, hRR, h0.out, h1.out, h2.out, h3.out, h4.out, h5.out, fun _ => rfl, fun _ => rfl, h8.out, h9.out, h10.out, h11.out, h12.out⟩
    | 8, _ =>
      obtain ⟨ty, ps, af, ho⟩ := op_lit hops (i := 8) (op := Op.load 37 (Operand.tmp 10)) (dst := some 11) (g := none) rfl
      obtain rfl := h7 (hdep 7 (by simp))
      refine wpOp_lit ho (fun j b h => by cases h) ?_
      clear hops hdep ho
      replace h0 := hidH h0
      replace h1 := hidH h1
      replace h2 := hidH h2
      replace h3 := hidH h3
      replace h4 := hidH h4
      replace h5 := hidH h5
      replace h6 := hidH h6
      replace h7 := hidH h7
      replace h9 := hidH h9
      replace h10 := hidH h10
      replace h11 := hidH h11
      replace h12 := hidH h12
      have q := (hO.cell (p := ⟨g, o + 1, none⟩) hgl).trans q1
      go_wp2
      exact (HJ.out _ _ _).2 ⟨_, _, _, _, _, _, _, _, _, _, _, _, rfl, hE_4_9, hE_4_10, hE_4_11, hE_4_12, hE_9_10, hE_9_11, hE_9_12, hE_10_11, hE_10_12, hE_11_12, hO, hS, hRR, h0.out, h1.out, h2.out, h3.out, h4.out, h5.out, h6.out, fun _ => rfl, fun _ => rfl, h9.out, h10.out, h11.out, h12.out⟩
    | 9, _ =>
      obtain ⟨ty, ps, af, ho⟩ := op_lit hops (i := 9) (op := Op.call { callee := Callee.value (Operand.func 111), args := #[(Operand.tmp 11)], argTypes := #[37] }) (dst := some 12) (g := none) rfl
      have hd4 := hidH (hdep 4 (by simp))
      obtain rfl := h8 (hdep 8 (by simp))
      refine wpOp_lit ho (fun j b h => by cases h) ?_
      clear hops hdep ho
      replace h0 := hidH h0
      replace h1 := hidH h1
      replace h2 := hidH h2
      replace h3 := hidH h3
      replace h4 := hidH h4
      replace h5 := hidH h5
      replace h6 := hidH h6
      replace h7 := hidH h7
      replace h8 := hidH h8
      replace h10 := hidH h10
      replace h11 := hidH h11
      replace h12 := hidH h12
      go_wp2_with fail
      refine (l5Bytes_any A y.Codes c _ (is_below hI hO) hcs hcl).mono ?_
      rintro e w1 ⟨v1, rfl, o1, hb⟩
      obtain ⟨A2, c2, e2, ob2, _, _⟩ := own_ob o1
      subst e2
      have S9 := hidH ob2.bs
      clear o1 ob2
      go_wp2
      exact (HJ.out _ _ _).2 ⟨_, _, _, _, _, _, _, _, _, _, _, _, rfl, fun _ => hd4.out, hE_4_10, hE_4_11, hE_4_12, fun _ => rfl, fun _ => rfl, fun _ => rfl, hE_10_11, hE_10_12, hE_11_12, btr hO hb, Nat.le_trans hS hb.size, fun h => (hRR h).below hb, h0.out, h1.out, h2.out, h3.out, fun h h2 => own_below0 (h4.out h h2) hb, h5.out, h6.out, h7.out, fun _ => rfl, fun _ => fun _ => ⟨_, _, rfl, S9.out⟩, (fun h => by have h3 : dn 9 = true := hE_9_10 h; rw [hdn] at h3; cases h3), (fun h => by have h3 : dn 9 = true := hE_9_11 h; rw [hdn] at h3; cases h3), (fun h => by have h3 : dn 9 = true := hE_9_12 h; rw [hdn] at h3; cases h3)⟩
    | 10, _ =>
      obtain ⟨ty, ps, af, ho⟩ := op_lit hops (i := 10) (op := Op.call { callee := Callee.builtin Builtin.append, args := #[(Operand.tmp 7), (Operand.tmp 12)], argTypes := #[22, 22] }) (dst := some 13) (g := none) rfl
      have hd9 := hidH (hdep 9 (by simp))
      have hd4 := hidH (hE_4_9 hd9.out)
      have o4 := hidH (h4 hd4.out hdn)
      obtain ⟨A2, c2, rfl, s2⟩ := h9 hd9.out hdn
      refine wpOp_lit ho (fun j b h => by cases h) ?_
      clear hops hdep ho
      replace h0 := hidH h0
      replace h1 := hidH h1
      replace h2 := hidH h2
      replace h3 := hidH h3
      replace h4 := hidH h4
      replace h5 := hidH h5
      replace h6 := hidH h6
      replace h7 := hidH h7
      replace h8 := hidH h8
      replace h9 := hidH h9
      replace h11 := hidH h11
      replace h12 := hidH h12
      have hsz := hS
      have HL := hidH hcl
      go_wp2_with (at_builtin; refine wpList_append_bs rfl _ _ rfl wq.heap.size _ _ _ rfl o4.out A2 ((y.Codes.length : Int) :: y.Codes) c2 rfl s2 (by have := HL.out; simp; omega) hsz ?_)
      intro v2 w2 o2 hg
      have BB := hidH ((Below.refl wq.heap.size W).grown hg hsz (fun x hx => (o4.out.lt x hx).1))
      have O8 := hidH (show w2.ownsRow wq.heap.size 5 1 v2 (4 + (y.Codes.length + 1)) ((pk y.Serial ++ ((y.Codes.length : Int) :: y.Codes)).map (Value.int .u8)) by simpa [pk] using o2)
      clear o2 hg
      go_wp2
      exact (HJ.out _ _ _).2 ⟨_, _, _, _, _, _, _, _, _, _, _, _, rfl, hE_4_9, fun _ => hd4.out, hE_4_11, hE_4_12, fun _ => hd9.out, hE_9_11, hE_9_12, fun _ => rfl, fun _ => rfl, hE_11_12, hO.trans (BB.out.mono hB), Nat.le_trans hS BB.out.size, fun h => (BB.out.block R hRl).trans (hRR h), h0.out, h1.out, h2.out, h3.out, (fun _ h2 => by simp at h2), h5.out, h6.out, h7.out, h8.out, (fun _ h2 => by simp at h2), fun _ => O8.out, (fun h => by have h3 : dn 10 = true := hE_10_11 h; rw [hdn] at h3; cases h3), (fun h => by have h3 : dn 10 = true := hE_10_12 h; rw [hdn] at h3; cases h3)⟩
    | 11, _ =>
      obtain ⟨ty, ps, af, ho⟩ := op_lit hops (i := 11) (op := Op.build 28 #[(0, (Operand.const (Value.int .i64 128))), (2, (Operand.tmp 13))]) (dst := some 14) (g := none) rfl
      have hd10 := hidH (hdep 10 (by simp))
      have hd4 := hidH (hE_4_10 hd10.out)
      have hd9 := hidH (hE_9_10 hd10.out)
      have o10 := h10 hd10.out
      obtain o10 := h10 (hdep 10 (by simp))
      refine wpOp_lit ho (fun j b h => by cases h) ?_
      clear hops hdep ho
      replace h0 := hidH h0
      replace h1 := hidH h1
      replace h2 := hidH h2
      replace h3 := hidH h3
      replace h4 := hidH h4
      replace h5 := hidH h5
      replace h6 := hidH h6
      replace h7 := hidH h7
      replace h8 := hidH h8
      replace h9 := hidH h9
      replace h10 := hidH h10
      replace h12 := hidH h12
      have o10b : W.ownsRow wq.heap.size 5 1 t13 (pk y.Serial ++ ((y.Codes.length : Int) :: y.Codes)).length ((pk y.Serial ++ ((y.Codes.length : Int) :: y.Codes)).map (Value.int .u8)) := by have hl : (pk y.Serial ++ ((y.Codes.length : Int) :: y.Codes)).length = (4 + (y.Codes.length + 1)) := (by simp [pk] <;> omega); rw [hl]; exact o10
      obtain ⟨A9, c9, e9, _⟩ := own_ob o10b
      obtain ⟨n9, hn9⟩ : ∃ n9, (pk y.Serial ++ ((y.Codes.length : Int) :: y.Codes)).length = n9 := ⟨_, rfl⟩
      rw [hn9] at e9
      subst e9
      clear o10b hn9
      have hb := Below.refl W.heap.size W
      go_wp2
      exact (HJ.out _ _ _).2 ⟨_, _, _, _, _, _, _, _, _, _, _, _, rfl, hE_4_9, hE_4_10, fun _ => hd4.out, hE_4_12, hE_9_10, fun _ => hd9.out, hE_9_12, fun _ => hd10.out, hE_10_12, fun _ => rfl, btr hO hb, Nat.le_trans hS hb.size, fun h => (hRR h).below hb, h0.out, h1.out, h2.out, h3.out, (fun _ h2 => by have h3 : dn 10 = false := h2; rw [hd10.out] at h3; cases h3), h5.out, h6.out, h7.out, h8.out, (fun _ h2 => by have h3 : dn 10 = false := h2; rw [hd10.out] at h3; cases h3), fun _ => own_below0 o10 hb, fun _ => rfl, (fun h => by have h3 : dn 11 = true := hE_11_12 h; rw [hdn] at h3; cases h3)⟩
    | 12, _ =>
      obtain ⟨ty, ps, af, ho⟩ := op_lit hops (i := 12) (op := Op.store 28 (Operand.tmp 2) (Operand.tmp 14)) (dst := none) (g := none) rfl
      have hd11 := hidH (hdep 11 (by simp))
      have hd4 := hidH (hE_4_11 hd11.out)
      have hd9 := hidH (hE_9_11 hd11.out)
      have hd10 := hidH (hE_10_11 hd11.out)
      have hR0 := hRR hdn
      have o10 := h10 hd10.out
      obtain rfl := h11 (hdep 11 (by simp))
      refine wpOp_lit ho (fun j b h => by cases h) ?_
      clear hops hdep ho
      replace h0 := hidH h0
      replace h1 := hidH h1
      replace h2 := hidH h2
      replace h3 := hidH h3
      replace h4 := hidH h4
      replace h5 := hidH h5
      replace h6 := hidH h6
      replace h7 := hidH h7
      replace h8 := hidH h8
      replace h9 := hidH h9
      replace h10 := hidH h10
      replace h11 := hidH h11
      have o10b : W.ownsRow wq.heap.size 5 1 t13 (pk y.Serial ++ ((y.Codes.length : Int) :: y.Codes)).length ((pk y.Serial ++ ((y.Codes.length : Int) :: y.Codes)).map (Value.int .u8)) := by have hl : (pk y.Serial ++ ((y.Codes.length : Int) :: y.Codes)).length = (4 + (y.Codes.length + 1)) := (by simp [pk] <;> omega); rw [hl]; exact o10
      obtain ⟨A9, c9, e9, _⟩ := own_ob o10b
      obtain ⟨n9, hn9⟩ : ∃ n9, (pk y.Serial ++ ((y.Codes.length : Int) :: y.Codes)).length = n9 := ⟨_, rfl⟩
      rw [hn9] at e9
      subst e9
      clear o10b hn9
      have r0 := hR0.cell 0
      have r1 := hR0.cell 1
      have r2 := hR0.cell 2
      have s0 := hR0.frozen 0
      have s1 := hR0.frozen 1
      have s2 := hR0.frozen 2
      simp only [List.getElem?_toArray, List.getElem?_cons_succ, List.getElem?_cons_zero] at r0 r1 r2
      have KN := hidH (show Blk (((W.setCell ⟨R, 0, none⟩ (.int .i64 128)).setCell ⟨R, 1, none⟩ (.int .i64 0)).setCell ⟨R, 2, none⟩ (.slice A9 n9 c9)) R 28 #[.int .i64 128, .int .i64 0, .slice A9 n9 c9] from ((hR0.put 0 _).put 1 _).put 2 _)
      go_wp2
      exact (HJ.out _ _ _).2 ⟨_, _, _, _, _, _, _, _, _, _, _, _, rfl, hE_4_9, hE_4_10, hE_4_11, fun _ => hd4.out, hE_9_10, hE_9_11, fun _ => hd9.out, hE_10_11, fun _ => hd10.out, fun _ => hd11.out, ((hO.setCell hBR _).setCell hBR _).setCell hBR _, by simpa [World.setCell] using hS, (fun h => by simp at h), h0.out, h1.out, h2.out, h3.out, (fun _ h2 => by have h3 : dn 10 = false := h2; rw [hd10.out] at h3; cases h3), h5.out, h6.out, h7.out, h8.out, (fun _ h2 => by have h3 : dn 10 = false := h2; rw [hd10.out] at h3; cases h3), fun h => own_far (own_far (own_far (h10.out h) hRl _) hRl _) hRl _, fun _ => rfl, fun _ => KN.out⟩
    | n + 13, h => omega
  case fin =>
    clear hops hdeps hback
    rintro dn ac W hJ hall
    obtain ⟨t3, t4, t5, t6, t7, t8, t9, t10, t11, t12, t13, t14, rfl, hE_4_9, hE_4_10, hE_4_11, hE_4_12, hE_9_10, hE_9_11, hE_9_12, hE_10_11, hE_10_12, hE_11_12, hO, hS, hRR, h0, h1, h2, h3, h4, h5, h6, h7, h8, h9, h10, h11, h12⟩ := (HJ.out _ _ _).1 hJ
    exact fin _ _ _ _ _ _ _ _ _ _ _ _ W hO hS (h10 (hall 10 (by omega))) (h12 (hall 12 (by omega)))
end Go.Proofs.YtjjileefdjjijaaDoor

/- The model's chapter 5: data: l5Data, PackData. -/
namespace Go.Proofs.YtjjileefdjjijaaDoor
open Go.RowKit Go.Deep

set_option maxRecDepth 100000 in
set_option maxHeartbeats 8000000 in
theorem l5Data_any (g o : Nat) (y : DataM) (w : World) (hg : g < w.heap.size) (h : RdL w y.vs g o) (ht0 : 0 ≤ y.Tsn) (ht1 : y.Tsn ≤ 4294967295) (hs0 : 0 ≤ y.Stream) (hs1 : y.Stream < 65536) (hz0 : 0 ≤ y.Seq) (hz1 : y.Seq < 65536) (hpl : y.Piece.length ≤ 1000) :
    Calls Tryd.prog 65 #[.pointer (some ⟨g, o, none⟩)] w (Res w (pdC y).vs) := by
  obtain ⟨A, c, q0, q1, q2, q3, q4, q5, q6, hA⟩ := mem_Data h
  have HP := hidH (bsOf hA)
  have HK := hidH (fun f : Int => show Below w.heap.size w ((w.alloc (.cells #[.int .i64 0, .int .i64 0, .slice none 0 0] 28)).alloc (.cells #[.int .i64 0, .int .i64 f, .slice none 0 0] 28)).drew ∧
      Blk ((w.alloc (.cells #[.int .i64 0, .int .i64 0, .slice none 0 0] 28)).alloc (.cells #[.int .i64 0, .int .i64 f, .slice none 0 0] 28)).drew w.heap.size 28 #[.int .i64 0, .int .i64 0, .slice none 0 0] ∧
      Blk ((w.alloc (.cells #[.int .i64 0, .int .i64 0, .slice none 0 0] 28)).alloc (.cells #[.int .i64 0, .int .i64 f, .slice none 0 0] 28)).drew (w.heap.size + 1) 28 #[.int .i64 0, .int .i64 f, .slice none 0 0] from
    have b := bal (bal (Below.refl w.heap.size w) (.cells #[.int .i64 0, .int .i64 0, .slice none 0 0] 28)) (.cells #[.int .i64 0, .int .i64 f, .slice none 0 0] 28)
    ⟨b.drew, ((Blk.new w _ _).alloc _).below (Below.refl _ _).drew, by
      have := (Blk.new (w.alloc (.cells #[.int .i64 0, .int .i64 0, .slice none 0 0] 28)) 28 #[.int .i64 0, .int .i64 f, .slice none 0 0]).below (Below.refl _ _).drew
      rwa [World.size_alloc] at this⟩)
  have HQ := hidH (And.intro q0 (And.intro q1 (And.intro q2 q6)))
  have HF := hidH (show (pdC y).Flags = bitN y.Last 1 + bitN y.First 2 + bitN y.Unordered 4 from rfl)
  have HPL := hidH hpl
  clear h hA q0 q1 q2 q6 hpl
  rcases Bool.eq_false_or_eq_true y.Last with a1 | a1 <;> rcases Bool.eq_false_or_eq_true y.First with a2 | a2 <;> rcases Bool.eq_false_or_eq_true y.Unordered with a3 | a3
  all_goals
    rw [a2] at q3
    rw [a1] at q4
    rw [a3] at q5
    rw [a1, a2, a3] at HF
    go_enter Tryd.func65, Tryd.ntmps65
    go_wp2_with fail
    refine wp_region_any (by kernel_rfl) ?_
    refine regD8 _ _ _ _ _ _ _ _ _ _ _ _ _ _ _ _ _ _ _ _ _ _ _ _ g o (w.heap.size + 1) w.heap.size w.heap.size _ _ _ _ y _ ht0 ht1 hs0 hs1 hz0 hz1 (((HK.out _).1.cell (p := ⟨g, o, none⟩) hg).trans HQ.out.1) (((HK.out _).1.cell (p := ⟨g, o + 1, none⟩) hg).trans HQ.out.2.1) (((HK.out _).1.cell (p := ⟨g, o + 2, none⟩) hg).trans HQ.out.2.2.1) hg (HK.out _).1.size (Nat.le_succ _) (HK.out _).2.2.lt (HK.out _).2.1.lt (by omega) (by kernel_rfl) (by kernel_rfl) (by kernel_rfl) rfl (fun h => h) (fun h => h) (fun h => h) (fun h => h) (fun h => h) (fun h => h) (fun h => h) (fun h => h) (fun h => h) (fun h => h) (fun h => h) (fun h => h) (fun h => h) (fun h => h) (fun h => h) (Below.refl _ _) (Nat.le_refl _) (HK.out _).2.1 (fun _ => (HK.out _).2.2) ?_
    intros
    rename_i W hO hS hR0 h16 h18
    have hb0 : ((w.alloc (.cells #[.int .i64 0, .int .i64 0, .slice none 0 0] 28)).alloc (.cells #[.int .i64 0, .int .i64 0, .slice none 0 0] 28)).drew.heap.size = w.heap.size + 2 := by show (World.alloc _ _).heap.size = _; simp only [World.size_alloc]
    have hbf : ∀ f : Int, ((w.alloc (.cells #[.int .i64 0, .int .i64 0, .slice none 0 0] 28)).alloc (.cells #[.int .i64 0, .int .i64 f, .slice none 0 0] 28)).drew.heap.size = w.heap.size + 2 := fun f => by show (World.alloc _ _).heap.size = _; simp only [World.size_alloc]
    rw [hbf] at h16 hS
    have hOw : Below w.heap.size w W := (HK.out _).1.trans hO
    obtain ⟨A4, c4, e4, _, _, _⟩ := own_ob (d := pk y.Tsn ++ pairL y.Stream ++ pairL y.Seq) h16
    subst e4
    have HOW := hidH hOw.drew
    have HSW := hidH (show w.heap.size + 2 ≤ W.drew.heap.size from hS)
    have HRW := hidH (hR0.below (Below.refl _ _).drew)
    have HCW := hidH (h18.below (Below.refl _ _).drew)
    have HXW := hidH (own_below0 h16 (Below.refl _ _).drew)
    clear hO hS hR0 h16 h18 hOw hb0 hbf
    go_wp2_with fail
    refine wp_region_any (by kernel_rfl) ?_
    refine regD9 _ _ _ _ _ _ _ _ _ _ _ _ _ _ _ _ _ _ _ _ _ _ _ _ _ _ _ _ _ _ _ _ _ _ _ _ _ _ _ _ _ _ g o (w.heap.size + 1) w.heap.size (w.heap.size + 2) _ _ _ _ y A4 A c4 c w HQ.out.2.2.2 HP.out HPL.out hg (by omega) (by omega) (by omega) (by omega) (by omega) (by kernel_rfl) (by kernel_rfl) (by kernel_rfl) rfl (fun h => h) (fun h => h) (fun h => h) HOW.out HSW.out HRW.out (fun _ => HCW.out) (fun _ => HXW.out) ?_
    intros
    rename_i W2 hO2 hS2 hR2 h6 h8
    have hl : (pk y.Tsn ++ pairL y.Stream ++ pairL y.Seq ++ y.Piece).length = 8 + y.Piece.length := by simp [pk, pairL] <;> omega
    rw [← hl] at h6
    obtain ⟨A5, c5, e5, ob5, k5, m5⟩ := own_ob h6
    subst e5
    obtain ⟨L, hL⟩ : ∃ L, pk y.Tsn ++ pairL y.Stream ++ pairL y.Seq ++ y.Piece = L := ⟨_, rfl⟩
    have HL := hidH (show (pdC y).Body = L from hL)
    rw [hL] at h8 ob5 k5
    have x0 := hR2.cell 0
    have x1 := hR2.cell 1
    have x2 := hR2.cell 2
    have f0 := hR2.frozen 0
    have f1 := hR2.frozen 1
    have f2 := hR2.frozen 2
    have y0 := h8.cell 0
    have y1 := h8.cell 1
    have y2 := h8.cell 2
    simp only [List.getElem?_toArray, List.getElem?_cons_succ, List.getElem?_cons_zero] at x0 x1 x2 y0 y1 y2
    have hr := hR2.lt
    have hc := h8.lt
    have HOB := hidH (ob5.owv (Nat.le_refl _) ⟨k5, m5⟩)
    have HO2 := hidH hO2
    clear hO2 hS2 hR2 h6 h8 hl hL ob5 k5 m5
    go_wp2
    have PF : ∀ a b c' : Value, OwN w.heap.size (((W2.setCell ⟨w.heap.size, 0, none⟩ a).setCell ⟨w.heap.size, 1, none⟩ b).setCell ⟨w.heap.size, 2, none⟩ c').heap.size (((W2.setCell ⟨w.heap.size, 0, none⟩ a).setCell ⟨w.heap.size, 1, none⟩ b).setCell ⟨w.heap.size, 2, none⟩ c') _ _ := fun a b c' =>
      OwN.int 0 (OwN.int (pdC y).Flags ((OwN.cons (((HOB.out.win (set_win _ w.heap.size 0 a) (.inr (by omega))).win (set_win _ w.heap.size 1 b) (.inr (by omega))).win (set_win _ w.heap.size 2 c') (.inr (by omega))) (OwN.nil (B := W2.heap.size) (C := W2.heap.size) (by simp [World.setCell])) (by omega) (Nat.le_refl _)).mono (by omega) (by simp [World.setCell]) (Nat.le_refl _)))
    have hfl := HF.out
    simp only [bitN, if_true, if_false, Bool.false_eq_true, Int.reduceAdd] at hfl
    exact bodyPost_ret (v := .agg #[.int .i64 0, .int .i64 ((pdC y).Flags), .slice A5 L.length c5]) (by simp [results, Tryd.results65, go_sem, x0, x1, x2, hfl]) rfl ⟨_, rfl, by
      show OwN _ _ _ [.int 0, .int (pdC y).Flags, .bs (pdC y).Body] _
      rw [HL.out]
      exact PF _ _ _, bst (bst (bst HO2.out (Nat.le_refl _) _) (Nat.le_refl _) _) (Nat.le_refl _) _⟩
end Go.Proofs.YtjjileefdjjijaaDoor

/- The model's chapter 5: PackData. -/
namespace Go.Proofs.YtjjileefdjjijaaDoor
open Go.RowKit Go.Deep

set_option maxHeartbeats 400000 in
theorem l5Bad_any (c : Int) (w : World) : Calls Tryd.prog 64 #[.int .i64 c] w fun e w' => e = .returned (.agg #[.int .i64 c, .int .i64 0, .int .i64 0, .slice none 0 0]) ∧ w.alloc (.cells #[.int .i64 c, .int .i64 0, .int .i64 0, .slice none 0 0] 30) = w' := by
  go_enter Tryd.func64, Tryd.ntmps64
  go_wp2
  exact bodyPost_ret (v := .agg #[.int .i64 c, .int .i64 0, .int .i64 0, .slice none 0 0]) (by simp [results, Tryd.results64, go_sem]) rfl ⟨rfl, rfl⟩
set_option maxRecDepth 100000 in
set_option maxHeartbeats 2000000 in
theorem pd_spec (y : DataM) (vs : List Value) (u : World) (h : RdA u y.vs vs) (hw : WfA y.vs) (ht : tot.totL y.vs ≤ 1048576) : Calls Tryd.prog 16 #[.agg vs.toArray] u (Res u (pdR y).vs) := by
  obtain ⟨A6, c6, rfl⟩ := shape_Data h
  have K1 := (Blk.new u 25 #[.int .i64 y.Tsn, .int .i64 y.Stream, .int .i64 y.Seq, .bool y.First, .bool y.Last, .bool y.Unordered, .slice A6 y.Piece.length c6]).alloc (.cells #[.int .i64 0, .int .i64 0, .int .i64 0, .slice none 0 0] 30)
  have R1 := Blk.new (u.alloc (.cells #[.int .i64 y.Tsn, .int .i64 y.Stream, .int .i64 y.Seq, .bool y.First, .bool y.Last, .bool y.Unordered, .slice A6 y.Piece.length c6] 25)) 30 #[.int .i64 0, .int .i64 0, .int .i64 0, .slice none 0 0]
  have B1 := bal (bal (Below.refl u.heap.size u) (.cells #[.int .i64 y.Tsn, .int .i64 y.Stream, .int .i64 y.Seq, .bool y.First, .bool y.Last, .bool y.Unordered, .slice A6 y.Piece.length c6] 25)) (.cells #[.int .i64 0, .int .i64 0, .int .i64 0, .slice none 0 0] 30)
  rw [World.size_alloc] at R1
  obtain ⟨w1, hw1⟩ : ∃ w1, (u.alloc (.cells #[.int .i64 y.Tsn, .int .i64 y.Stream, .int .i64 y.Seq, .bool y.First, .bool y.Last, .bool y.Unordered, .slice A6 y.Piece.length c6] 25)).alloc (.cells #[.int .i64 0, .int .i64 0, .int .i64 0, .slice none 0 0] 30) = w1 := ⟨_, rfl⟩
  rw [hw1] at K1 R1 B1
  have hlt := K1.lt
  have M1 : RdL w1 y.vs u.heap.size 0 := RdL.of_cells (RdA.below B1 h) (fun k hk => by rw [Nat.zero_add, K1.cell]; exact arr_get _ k)
  have HW1 := hidH hw1
  have HM := hidH M1
  have HB := hidH B1
  have HR := hidH R1
  have HWF := hidH hw
  have HT := hidH ht
  clear hw1 h K1 R1 B1 M1 hw ht
  go_enter Tryd.func16, Tryd.ntmps16
  go_wp2_with fail
  rw [HW1.out]
  refine (pdF_any u.heap.size 0 y w1 HM.out).mono ?_
  rintro e w3 ⟨rfl, b3⟩
  have HM3 := hidH (RdL.below b3 _ hlt HM.out)
  have HB3 := hidH (btr HB.out b3)
  have HR3 := hidH (HR.out.below b3)
  have hlt3 := Nat.lt_of_lt_of_le hlt b3.size
  clear HM HB HR b3 HW1 hlt
  by_cases hz : pdF y = 0
  · have HZ := hidH hz
    have HC := hidH (l5Data_any u.heap.size 0 y w3 hlt3 HM3.out (pdF_zero hz).1.1 (pdF_zero hz).1.2 (pdF_zero hz).2.1.1 (by have := (pdF_zero hz).2.1.2; omega) (pdF_zero hz).2.2.1.1 (by have := (pdF_zero hz).2.2.1.2; omega) (by have := (pdF_zero hz).2.2.2.2; omega))
    rw [hz]
    clear hz HM3 hlt3
    go_wp2_with fail
    refine HC.out.mono ?_
    rintro e w4 ⟨vs, rfl, O4, b4⟩
    obtain ⟨A9, c9, rfl⟩ := shape_Chunk O4.rd
    have R4 := HR3.out.below b4
    have hr3 := HR3.out.lt
    have x0 := R4.cell 0
    have x1 := R4.cell 1
    have x2 := R4.cell 2
    have x3 := R4.cell 3
    have f0 := R4.frozen 0
    have f1 := R4.frozen 1
    have f2 := R4.frozen 2
    have f3 := R4.frozen 3
    simp only [List.getElem?_toArray, List.getElem?_cons_succ, List.getElem?_cons_zero] at x0 x1 x2 x3
    have hr := R4.lt
    have HO := hidH O4
    have HB4 := hidH (btr HB3.out b4)
    clear R4 O4 b4 HC
    go_wp2
    have PF : ∀ a b c' d : Value, OwN u.heap.size ((((w4.setCell ⟨u.heap.size + 1, 0, none⟩ a).setCell ⟨u.heap.size + 1, 1, none⟩ b).setCell ⟨u.heap.size + 1, 2, none⟩ c').setCell ⟨u.heap.size + 1, 3, none⟩ d).heap.size ((((w4.setCell ⟨u.heap.size + 1, 0, none⟩ a).setCell ⟨u.heap.size + 1, 1, none⟩ b).setCell ⟨u.heap.size + 1, 2, none⟩ c').setCell ⟨u.heap.size + 1, 3, none⟩ d) _ _ := fun a b c' d =>
      OwN.int 0 (((((HO.out.win (set_win _ (u.heap.size + 1) 0 a) (.inr (by omega))).win (set_win _ (u.heap.size + 1) 1 b) (.inr (by omega))).win (set_win _ (u.heap.size + 1) 2 c') (.inr (by omega))).win (set_win _ (u.heap.size + 1) 3 d) (.inr (by omega))).mono (by omega) (by simp [World.setCell]) (Nat.le_refl _))
    exact bodyPost_ret (v := .agg #[.int .i64 0, .int .i64 (pdC y).Kind, .int .i64 (pdC y).Flags, .slice A9 (pdC y).Body.length c9]) (by simp [results, Tryd.results16, go_sem, x0, x1, x2, x3]) rfl ⟨_, rfl, by
      have e : (pdR y).vs = .int 0 :: (pdC y).vs := by rw [pdR, crOf, if_pos HZ.out]; rfl
      rw [e]
      exact PF _ _ _ _, bst (bst (bst (bst HB4.out (Nat.le_succ _) _) (Nat.le_succ _) _) (Nat.le_succ _) _) (Nat.le_succ _) _⟩
  · have hne : (pdF y != 0) = true := by rw [bne_iff_ne]; exact hz
    have HZ := hidH hz
    obtain ⟨F, hF⟩ : ∃ F, pdF y = F := ⟨_, rfl⟩
    have HF := hidH hF
    rw [hF] at hne ⊢
    clear hz hF HM3
    go_wp2_with fail
    refine (l5Bad_any F w3).mono ?_
    rintro e w4 ⟨rfl, h4⟩
    have b4 : Below w3.heap.size w3 w4 := by rw [← h4]; exact bal (Below.refl _ _) _
    have R4 := HR3.out.below b4
    have HB4 := hidH (btr HB3.out b4)
    have x0 := R4.cell 0
    have x1 := R4.cell 1
    have x2 := R4.cell 2
    have x3 := R4.cell 3
    simp only [List.getElem?_toArray, List.getElem?_cons_succ, List.getElem?_cons_zero] at x0 x1 x2 x3
    have f0 := R4.frozen 0
    have f1 := R4.frozen 1
    have f2 := R4.frozen 2
    have f3 := R4.frozen 3
    have hr := R4.lt
    clear h4 b4 R4
    go_wp2
    exact bodyPost_ret (v := .agg #[.int .i64 F, .int .i64 0, .int .i64 0, .slice none 0 0]) (by simp [results, Tryd.results16, go_sem, x0, x1, x2, x3]) rfl ⟨_, rfl, by
      have e : (pdR y).vs = [.int F, .int 0, .int 0, .bs []] := by rw [pdR, crOf, if_neg HZ.out, HF.out]; rfl
      rw [e]
      exact (OwN.int F (OwN.int 0 (OwN.int 0 (OwN.empty _ (Nat.le_refl _))))), bst (bst (bst (bst HB4.out (Nat.le_succ _) _) (Nat.le_succ _) _) (Nat.le_succ _) _) (Nat.le_succ _) _⟩
end Go.Proofs.YtjjileefdjjijaaDoor
