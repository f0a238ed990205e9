/- The region of l5Answer that draws its order. -/
import Derived.Test.YtgghelpbobbkgaaM5Ans
import Derived.Test.YtgghelpbobbkgaaS5DR
namespace Go.Proofs.Ytgghelpbobbkgaa
open Go.RowKit Go.Deep

set_option maxRecDepth 100000 in
set_option maxHeartbeats 1000000 in
theorem regA1 {Q : Exit → Act → World → Prop} (x1 : Value) (g o R : Nat) (y : AnswerM) (A : Option Addr) (c : Nat) (ww wq : World) (ht0 : 0 ≤ y.Serial) (ht1 : y.Serial ≤ 4294967295) (hcs : ∀ j, j < y.Codes.length → 0 ≤ y.Codes.getD j 0 ∧ y.Codes.getD j 0 ≤ 255) (hcl : y.Codes.length ≤ 200) (q0 : ww.cell? ⟨g, o, none⟩ = some (.int .i64 y.Serial)) (q1 : ww.cell? ⟨g, o + 1, none⟩ = some (.slice A y.Codes.length c)) (hI : Is ww A y.Codes) (hgl : g < ww.heap.size) (hB : ww.heap.size ≤ wq.heap.size) (hBR : ww.heap.size ≤ R) (hRl : R < wq.heap.size) {ops : Array Oper}
    (hops : (ops.map fun o => (o.op, o.dst, o.guard)) = #[(Op.move (Operand.tmp 0), some 3, none), (Op.nilCheck (Operand.tmp 3), some 4, none), (Op.fieldAddr 76 (Operand.tmp 4) 0, some 5, none), (Op.load 2 (Operand.tmp 5), some 6, none), (Op.call { callee := Callee.value (Operand.func 74), args := #[(Operand.tmp 6)], argTypes := #[2] }, some 7, none), (Op.move (Operand.tmp 0), some 8, none), (Op.nilCheck (Operand.tmp 8), some 9, none), (Op.fieldAddr 76 (Operand.tmp 9) 1, some 10, none), (Op.load 50 (Operand.tmp 10), some 11, none), (Op.call { callee := Callee.value (Operand.func 81), args := #[(Operand.tmp 11)], argTypes := #[50] }, some 12, none), (Op.call { callee := Callee.builtin Builtin.append, args := #[(Operand.tmp 7), (Operand.tmp 12)], argTypes := #[22, 22] }, some 13, none), (Op.build 27 #[(0, (Operand.const (Value.int .i64 128))), (2, (Operand.tmp 13))], some 14, none), (Op.store 27 (Operand.tmp 2) (Operand.tmp 14), none, none)])
    (hdeps : ((List.range 13).all fun i => ((fun i => [[], [0], [1], [2], [3], [], [5], [6], [7], [4, 8], [4, 9], [10], [11]].getD i []) i).all fun j => ((ops[i]?).map fun o => o.after.any fun e => Region.binds .any e && e.on == j).getD false) = true)
    (hback : ((List.range 13).all fun i => ((ops[i]?).map fun o => o.after.all fun e => decide (e.on < i)).getD false) = true)
    {a0 : Act} (ha : a0 = { tmps := #[.pointer (some ⟨g, o, none⟩), x1, .pointer (some ⟨R, 0, none⟩), undef, undef, undef, undef, undef, undef, undef, undef, undef, undef, undef, undef], defers := [] }) (hE_4_9 : false = true → false = true) (hE_4_10 : false = true → false = true) (hE_4_11 : false = true → false = true) (hE_4_12 : false = true → false = true) (hE_9_10 : false = true → false = true) (hE_9_11 : false = true → false = true) (hE_9_12 : false = true → false = true) (hE_10_11 : false = true → false = true) (hE_10_12 : false = true → false = true) (hE_11_12 : false = true → false = true) (hO : Below ww.heap.size ww wq) (hS : wq.heap.size ≤ wq.heap.size) (hRR : false = false → Blk wq R 27 #[.int .i64 0, .int .i64 0, .slice none 0 0])
    (fin : ∀ t3 t4 t5 t6 t7 t8 t9 t10 t11 t12 t13 t14 (W : World), (Below ww.heap.size ww W) → (wq.heap.size ≤ W.heap.size) → (W.ownsRow wq.heap.size 5 1 t13 (4 + (y.Codes.length + 1)) ((pk y.Serial ++ ((y.Codes.length : Int) :: y.Codes)).map (Value.int .u8))) → (Blk W R 27 #[.int .i64 128, .int .i64 0, t13]) → Q .normal { tmps := #[.pointer (some ⟨g, o, none⟩), x1, .pointer (some ⟨R, 0, none⟩), t3, t4, t5, t6, t7, t8, t9, t10, t11, t12, t13, t14], defers := [] } W) :
    wpAny Try.prog .any ops Q ops.size (Array.replicate ops.size false) a0 wq := by
  have hn : ops.size = 13 := by have := congrArg Array.size hops; simpa using this
  obtain ⟨J, HJ⟩ : ∃ J : (Nat → Bool) → Act → World → Prop, ∀ dn ac W, J dn ac W ↔ (fun dn ac W => ∃ t3 t4 t5 t6 t7 t8 t9 t10 t11 t12 t13 t14, ac = { tmps := #[.pointer (some ⟨g, o, none⟩), x1, .pointer (some ⟨R, 0, none⟩), t3, t4, t5, t6, t7, t8, t9, t10, t11, t12, t13, t14], defers := [] } ∧ (dn 9 = true → dn 4 = true) ∧ (dn 10 = true → dn 4 = true) ∧ (dn 11 = true → dn 4 = true) ∧ (dn 12 = true → dn 4 = true) ∧ (dn 10 = true → dn 9 = true) ∧ (dn 11 = true → dn 9 = true) ∧ (dn 12 = true → dn 9 = true) ∧ (dn 11 = true → dn 10 = true) ∧ (dn 12 = true → dn 10 = true) ∧ (dn 12 = true → dn 11 = true) ∧ (Below ww.heap.size ww W) ∧ (wq.heap.size ≤ W.heap.size) ∧ (dn 12 = false → Blk W R 27 #[.int .i64 0, .int .i64 0, .slice none 0 0]) ∧ (dn 0 = true → t3 = .pointer (some ⟨g, o, none⟩)) ∧ (dn 1 = true → t4 = .pointer (some ⟨g, o, none⟩)) ∧ (dn 2 = true → t5 = .pointer (some ⟨g, o, none⟩)) ∧ (dn 3 = true → t6 = .int .i64 y.Serial) ∧ (dn 4 = true → dn 10 = false → W.ownsRow wq.heap.size 5 1 t7 4 ((pk y.Serial).map (Value.int .u8))) ∧ (dn 5 = true → t8 = .pointer (some ⟨g, o, none⟩)) ∧ (dn 6 = true → t9 = .pointer (some ⟨g, o, none⟩)) ∧ (dn 7 = true → t10 = .pointer (some ⟨g, o + 1, none⟩)) ∧ (dn 8 = true → t11 = .slice A y.Codes.length c) ∧ (dn 9 = true → dn 10 = false → ∃ (A2 : Option Addr) (c2 : Nat), t12 = .slice A2 ((y.Codes.length : Int) :: y.Codes).length c2 ∧ Bs W A2 ((y.Codes.length : Int) :: y.Codes)) ∧ (dn 10 = true → W.ownsRow wq.heap.size 5 1 t13 (4 + (y.Codes.length + 1)) ((pk y.Serial ++ ((y.Codes.length : Int) :: y.Codes)).map (Value.int .u8))) ∧ (dn 11 = true → t14 = .agg #[.int .i64 128, .int .i64 0, t13]) ∧ (dn 12 = true → Blk W R 27 #[.int .i64 128, .int .i64 0, t13])) dn ac W := ⟨_, fun _ _ _ => Iff.rfl⟩
  replace HJ := hidH HJ
  refine region_inv 13 (fun i => [[], [0], [1], [2], [3], [], [5], [6], [7], [4, 8], [4, 9], [10], [11]].getD i []) J hn hdeps hback ?start ?step ?fin
  case start => exact (HJ.out _ _ _).2 ⟨undef, undef, undef, undef, undef, undef, undef, undef, undef, undef, undef, undef, ha, hE_4_9, hE_4_10, hE_4_11, hE_4_12, hE_9_10, hE_9_11, hE_9_12, hE_10_11, hE_10_12, hE_11_12, hO, hS, hRR, fun h => by simp at h, fun h => by simp at h, fun h => by simp at h, fun h => by simp at h, fun h => by simp at h, fun h => by simp at h, fun h => by simp at h, fun h => by simp at h, fun h => by simp at h, fun h => by simp at h, fun h => by simp at h, fun h => by simp at h, fun h => by simp at h⟩
  all_goals clear ha hE_4_9 hE_4_10 hE_4_11 hE_4_12 hE_9_10 hE_9_11 hE_9_12 hE_10_11 hE_10_12 hE_11_12 hO hS hRR
  case step =>
    clear fin hdeps hback
    intro i hi dn ac W hJ hdn hdep
    obtain ⟨t3, t4, t5, t6, t7, t8, t9, t10, t11, t12, t13, t14, rfl, hE_4_9, hE_4_10, hE_4_11, hE_4_12, hE_9_10, hE_9_11, hE_9_12, hE_10_11, hE_10_12, hE_11_12, hO, hS, hRR, h0, h1, h2, h3, h4, h5, h6, h7, h8, h9, h10, h11, h12⟩ := (HJ.out _ _ _).1 hJ
    clear hJ
    match i, hi with
    | 0, _ =>
      obtain ⟨ty, ps, af, ho⟩ := op_lit hops (i := 0) (op := Op.move (Operand.tmp 0)) (dst := some 3) (g := none) rfl
      refine wpOp_lit ho (fun j b h => by cases h) ?_
      clear hops hdep ho
      replace h1 := hidH h1
      replace h2 := hidH h2
      replace h3 := hidH h3
      replace h4 := hidH h4
      replace h5 := hidH h5
      replace h6 := hidH h6
      replace h7 := hidH h7
      replace h8 := hidH h8
      replace h9 := hidH h9
      replace h10 := hidH h10
      replace h11 := hidH h11
      replace h12 := hidH h12
      go_wp2
      exact (HJ.out _ _ _).2 ⟨_, _, _, _, _, _, _, _, _, _, _, _, rfl, hE_4_9, hE_4_10, hE_4_11, hE_4_12, hE_9_10, hE_9_11, hE_9_12, hE_10_11, hE_10_12, hE_11_12, hO, hS, hRR, fun _ => rfl, h1.out, h2.out, h3.out, h4.out, h5.out, h6.out, h7.out, h8.out, h9.out, h10.out, h11.out, h12.out⟩
    | 1, _ =>
      obtain ⟨ty, ps, af, ho⟩ := op_lit hops (i := 1) (op := Op.nilCheck (Operand.tmp 3)) (dst := some 4) (g := none) rfl
      obtain rfl := h0 (hdep 0 (by simp))
      refine wpOp_lit ho (fun j b h => by cases h) ?_
      clear hops hdep ho
      replace h0 := hidH h0
      replace h2 := hidH h2
      replace h3 := hidH h3
      replace h4 := hidH h4
      replace h5 := hidH h5
      replace h6 := hidH h6
      replace h7 := hidH h7
      replace h8 := hidH h8
      replace h9 := hidH h9
      replace h10 := hidH h10
      replace h11 := hidH h11
      replace h12 := hidH h12
      go_wp2
      exact (HJ.out _ _ _).2 ⟨_, _, _, _, _, _, _, _, _, _, _, _, rfl, hE_4_9, hE_4_10, hE_4_11, hE_4_12, hE_9_10, hE_9_11, hE_9_12, hE_10_11, hE_10_12, hE_11_12, hO, hS, hRR, fun _ => rfl, fun _ => rfl, h2.out, h3.out, h4.out, h5.out, h6.out, h7.out, h8.out, h9.out, h10.out, h11.out, h12.out⟩
    | 2, _ =>
      obtain ⟨ty, ps, af, ho⟩ := op_lit hops (i := 2) (op := Op.fieldAddr 76 (Operand.tmp 4) 0) (dst := some 5) (g := none) rfl
      obtain rfl := h1 (hdep 1 (by simp))
      refine wpOp_lit ho (fun j b h => by cases h) ?_
      clear hops hdep ho
      replace h0 := hidH h0
      replace h1 := hidH h1
      replace h3 := hidH h3
      replace h4 := hidH h4
      replace h5 := hidH h5
      replace h6 := hidH h6
      replace h7 := hidH h7
      replace h8 := hidH h8
      replace h9 := hidH h9
      replace h10 := hidH h10
      replace h11 := hidH h11
      replace h12 := hidH h12
      go_wp2
      exact (HJ.out _ _ _).2 ⟨_, _, _, _, _, _, _, _, _, _, _, _, rfl, hE_4_9, hE_4_10, hE_4_11, hE_4_12, hE_9_10, hE_9_11, hE_9_12, hE_10_11, hE_10_12, hE_11_12, hO, hS, hRR, h0.out, fun _ => rfl, fun _ => rfl, h3.out, h4.out, h5.out, h6.out, h7.out, h8.out, h9.out, h10.out, h11.out, h12.out⟩
    | 3, _ =>
      obtain ⟨ty, ps, af, ho⟩ := op_lit hops (i := 3) (op := Op.load 2 (Operand.tmp 5)) (dst := some 6) (g := none) rfl
      obtain rfl := h2 (hdep 2 (by simp))
      refine wpOp_lit ho (fun j b h => by cases h) ?_
      clear hops hdep ho
      replace h0 := hidH h0
      replace h1 := hidH h1
      replace h2 := hidH h2
      replace h4 := hidH h4
      replace h5 := hidH h5
      replace h6 := hidH h6
      replace h7 := hidH h7
      replace h8 := hidH h8
      replace h9 := hidH h9
      replace h10 := hidH h10
      replace h11 := hidH h11
      replace h12 := hidH h12
      have q := (hO.cell (p := ⟨g, o, none⟩) hgl).trans q0
      go_wp2
      exact (HJ.out _ _ _).2 ⟨_, _, _, _, _, _, _, _, _, _, _, _, rfl, hE_4_9, hE_4_10, hE_4_11, hE_4_12, hE_9_10, hE_9_11, hE_9_12, hE_10_11, hE_10_12, hE_11_12, hO, hS, hRR, h0.out, h1.out, fun _ => rfl, fun _ => rfl, h4.out, h5.out, h6.out, h7.out, h8.out, h9.out, h10.out, h11.out, h12.out⟩
    | 4, _ =>
      obtain ⟨ty, ps, af, ho⟩ := op_lit hops (i := 4) (op := Op.call { callee := Callee.value (Operand.func 74), args := #[(Operand.tmp 6)], argTypes := #[2] }) (dst := some 7) (g := none) rfl
      obtain rfl := h3 (hdep 3 (by simp))
      refine wpOp_lit ho (fun j b h => by cases h) ?_
      clear hops hdep ho
      replace h0 := hidH h0
      replace h1 := hidH h1
      replace h2 := hidH h2
      replace h3 := hidH h3
      replace h5 := hidH h5
      replace h6 := hidH h6
      replace h7 := hidH h7
      replace h8 := hidH h8
      replace h9 := hidH h9
      replace h10 := hidH h10
      replace h11 := hidH h11
      replace h12 := hidH h12
      go_wp2_with fail
      refine (l1Pack_any _ _ ht0 ht1).mono ?_
      rintro e w1 ⟨rfl, rfl⟩
      have hb := bal (Below.refl W.heap.size W) (.cells #[.int .u8 (y.Serial / 16777216), .int .u8 (y.Serial / 65536 % 256), .int .u8 (y.Serial / 256 % 256), .int .u8 (y.Serial % 256)] 5)
      go_wp2
      exact (HJ.out _ _ _).2 ⟨_, _, _, _, _, _, _, _, _, _, _, _, rfl, fun _ => rfl, fun _ => rfl, fun _ => rfl, fun _ => rfl, hE_9_10, hE_9_11, hE_9_12, hE_10_11, hE_10_12, hE_11_12, btr hO hb, Nat.le_trans hS hb.size, fun h => (hRR h).below hb, h0.out, h1.out, h2.out, fun _ => rfl, fun _ => fun _ => World.ownsRow_lit _ #[.int .u8 (y.Serial / 16777216), .int .u8 (y.Serial / 65536 % 256), .int .u8 (y.Serial / 256 % 256), .int .u8 (y.Serial % 256)] 4 hS (by unfold maxLen; omega) rfl, h5.out, h6.out, h7.out, h8.out, (fun h => by have h3 : dn 4 = true := hE_4_9 h; rw [hdn] at h3; cases h3), (fun h => by have h3 : dn 4 = true := hE_4_10 h; rw [hdn] at h3; cases h3), (fun h => by have h3 : dn 4 = true := hE_4_11 h; rw [hdn] at h3; cases h3), (fun h => by have h3 : dn 4 = true := hE_4_12 h; rw [hdn] at h3; cases h3)⟩
    | 5, _ =>
      obtain ⟨ty, ps, af, ho⟩ := op_lit hops (i := 5) (op := Op.move (Operand.tmp 0)) (dst := some 8) (g := none) rfl
      refine wpOp_lit ho (fun j b h => by cases h) ?_
      clear hops hdep ho
      replace h0 := hidH h0
      replace h1 := hidH h1
      replace h2 := hidH h2
      replace h3 := hidH h3
      replace h4 := hidH h4
      replace h6 := hidH h6
      replace h7 := hidH h7
      replace h8 := hidH h8
      replace h9 := hidH h9
      replace h10 := hidH h10
      replace h11 := hidH h11
      replace h12 := hidH h12
      go_wp2
      exact (HJ.out _ _ _).2 ⟨_, _, _, _, _, _, _, _, _, _, _, _, rfl, hE_4_9, hE_4_10, hE_4_11, hE_4_12, hE_9_10, hE_9_11, hE_9_12, hE_10_11, hE_10_12, hE_11_12, hO, hS, hRR, h0.out, h1.out, h2.out, h3.out, h4.out, fun _ => rfl, h6.out, h7.out, h8.out, h9.out, h10.out, h11.out, h12.out⟩
    | 6, _ =>
      obtain ⟨ty, ps, af, ho⟩ := op_lit hops (i := 6) (op := Op.nilCheck (Operand.tmp 8)) (dst := some 9) (g := none) rfl
      obtain rfl := h5 (hdep 5 (by simp))
      refine wpOp_lit ho (fun j b h => by cases h) ?_
      clear hops hdep ho
      replace h0 := hidH h0
      replace h1 := hidH h1
      replace h2 := hidH h2
      replace h3 := hidH h3
      replace h4 := hidH h4
      replace h5 := hidH h5
      replace h7 := hidH h7
      replace h8 := hidH h8
      replace h9 := hidH h9
      replace h10 := hidH h10
      replace h11 := hidH h11
      replace h12 := hidH h12
      go_wp2
      exact (HJ.out _ _ _).2 ⟨_, _, _, _, _, _, _, _, _, _, _, _, rfl, hE_4_9, hE_4_10, hE_4_11, hE_4_12, hE_9_10, hE_9_11, hE_9_12, hE_10_11, hE_10_12, hE_11_12, hO, hS, hRR, h0.out, h1.out, h2.out, h3.out, h4.out, fun _ => rfl, fun _ => rfl, h7.out, h8.out, h9.out, h10.out, h11.out, h12.out⟩
    | 7, _ =>
      obtain ⟨ty, ps, af, ho⟩ := op_lit hops (i := 7) (op := Op.fieldAddr 76 (Operand.tmp 9) 1) (dst := some 10) (g := none) rfl
      obtain rfl := h6 (hdep 6 (by simp))
      refine wpOp_lit ho (fun j b h => by cases h) ?_
      clear hops hdep ho
      replace h0 := hidH h0
      replace h1 := hidH h1
      replace h2 := hidH h2
      replace h3 := hidH h3
      replace h4 := hidH h4
      replace h5 := hidH h5
      replace h6 := hidH h6
      replace h8 := hidH h8
      replace h9 := hidH h9
      replace h10 := hidH h10
      replace h11 := hidH h11
      replace h12 := hidH h12
      go_wp2
      exact (HJ.out _ _ _).2 ⟨_, _, _, _, _, _, _, _, _, _, _, _, rfl, hE_4_9, hE_4_10, hE_4_11, hE_4_12, hE_9_10, hE_9_11, hE_9_12, hE_10_11, hE_10_12, hE_11_12, hO, hS, hRR, h0.out, h1.out, h2.out, h3.out, h4.out, h5.out, fun _ => rfl, fun _ => rfl, h8.out, h9.out, h10.out, h11.out, h12.out⟩
    | 8, _ =>
      obtain ⟨ty, ps, af, ho⟩ := op_lit hops (i := 8) (op := Op.load 50 (Operand.tmp 10)) (dst := some 11) (g := none) rfl
      obtain rfl := h7 (hdep 7 (by simp))
      refine wpOp_lit ho (fun j b h => by cases h) ?_
      clear hops hdep ho
      replace h0 := hidH h0
      replace h1 := hidH h1
      replace h2 := hidH h2
      replace h3 := hidH h3
      replace h4 := hidH h4
      replace h5 := hidH h5
      replace h6 := hidH h6
      replace h7 := hidH h7
      replace h9 := hidH h9
      replace h10 := hidH h10
      replace h11 := hidH h11
      replace h12 := hidH h12
      have q := (hO.cell (p := ⟨g, o + 1, none⟩) hgl).trans q1
      go_wp2
      exact (HJ.out _ _ _).2 ⟨_, _, _, _, _, _, _, _, _, _, _, _, rfl, hE_4_9, hE_4_10, hE_4_11, hE_4_12, hE_9_10, hE_9_11, hE_9_12, hE_10_11, hE_10_12, hE_11_12, hO, hS, hRR, h0.out, h1.out, h2.out, h3.out, h4.out, h5.out, h6.out, fun _ => rfl, fun _ => rfl, h9.out, h10.out, h11.out, h12.out⟩
    | 9, _ =>
      obtain ⟨ty, ps, af, ho⟩ := op_lit hops (i := 9) (op := Op.call { callee := Callee.value (Operand.func 81), args := #[(Operand.tmp 11)], argTypes := #[50] }) (dst := some 12) (g := none) rfl
      have hd4 := hidH (hdep 4 (by simp))
      obtain rfl := h8 (hdep 8 (by simp))
      refine wpOp_lit ho (fun j b h => by cases h) ?_
      clear hops hdep ho
      replace h0 := hidH h0
      replace h1 := hidH h1
      replace h2 := hidH h2
      replace h3 := hidH h3
      replace h4 := hidH h4
      replace h5 := hidH h5
      replace h6 := hidH h6
      replace h7 := hidH h7
      replace h8 := hidH h8
      replace h10 := hidH h10
      replace h11 := hidH h11
      replace h12 := hidH h12
      go_wp2_with fail
      refine (l5Bytes_any A y.Codes c _ (is_below hI hO) hcs hcl).mono ?_
      rintro e w1 ⟨v1, rfl, o1, hb⟩
      obtain ⟨A2, c2, e2, ob2, _, _⟩ := own_ob o1
      subst e2
      have S9 := hidH ob2.bs
      clear o1 ob2
      go_wp2
      exact (HJ.out _ _ _).2 ⟨_, _, _, _, _, _, _, _, _, _, _, _, rfl, fun _ => hd4.out, hE_4_10, hE_4_11, hE_4_12, fun _ => rfl, fun _ => rfl, fun _ => rfl, hE_10_11, hE_10_12, hE_11_12, btr hO hb, Nat.le_trans hS hb.size, fun h => (hRR h).below hb, h0.out, h1.out, h2.out, h3.out, fun h h2 => own_below0 (h4.out h h2) hb, h5.out, h6.out, h7.out, fun _ => rfl, fun _ => fun _ => ⟨_, _, rfl, S9.out⟩, (fun h => by have h3 : dn 9 = true := hE_9_10 h; rw [hdn] at h3; cases h3), (fun h => by have h3 : dn 9 = true := hE_9_11 h; rw [hdn] at h3; cases h3), (fun h => by have h3 : dn 9 = true := hE_9_12 h; rw [hdn] at h3; cases h3)⟩
    | 10, _ =>
      obtain ⟨ty, ps, af, ho⟩ := op_lit hops (i := 10) (op := Op.call { callee := Callee.builtin Builtin.append, args := #[(Operand.tmp 7), (Operand.tmp 12)], argTypes := #[22, 22] }) (dst := some 13) (g := none) rfl
      have hd9 := hidH (hdep 9 (by simp))
      have hd4 := hidH (hE_4_9 hd9.out)
      have o4 := hidH (h4 hd4.out hdn)
      obtain ⟨A2, c2, rfl, s2⟩ := h9 hd9.out hdn
      refine wpOp_lit ho (fun j b h => by cases h) ?_
      clear hops hdep ho
      replace h0 := hidH h0
      replace h1 := hidH h1
      replace h2 := hidH h2
      replace h3 := hidH h3
      replace h4 := hidH h4
      replace h5 := hidH h5
      replace h6 := hidH h6
      replace h7 := hidH h7
      replace h8 := hidH h8
      replace h9 := hidH h9
      replace h11 := hidH h11
      replace h12 := hidH h12
      have hsz := hS
      have HL := hidH hcl
      go_wp2_with (at_builtin; refine wpList_append_bs rfl _ _ rfl wq.heap.size _ _ _ rfl o4.out A2 ((y.Codes.length : Int) :: y.Codes) c2 rfl s2 (by have := HL.out; simp; omega) hsz ?_)
      intro v2 w2 o2 hg
      have BB := hidH ((Below.refl wq.heap.size W).grown hg hsz (fun x hx => (o4.out.lt x hx).1))
      have O8 := hidH (show w2.ownsRow wq.heap.size 5 1 v2 (4 + (y.Codes.length + 1)) ((pk y.Serial ++ ((y.Codes.length : Int) :: y.Codes)).map (Value.int .u8)) by simpa [pk] using o2)
      clear o2 hg
      go_wp2
      exact (HJ.out _ _ _).2 ⟨_, _, _, _, _, _, _, _, _, _, _, _, rfl, hE_4_9, fun _ => hd4.out, hE_4_11, hE_4_12, fun _ => hd9.out, hE_9_11, hE_9_12, fun _ => rfl, fun _ => rfl, hE_11_12, hO.trans (BB.out.mono hB), Nat.le_trans hS BB.out.size, fun h => (BB.out.block R hRl).trans (hRR h), h0.out, h1.out, h2.out, h3.out, (fun _ h2 => by simp at h2), h5.out, h6.out, h7.out, h8.out, (fun _ h2 => by simp at h2), fun _ => O8.out, (fun h => by have h3 : dn 10 = true := hE_10_11 h; rw [hdn] at h3; cases h3), (fun h => by have h3 : dn 10 = true := hE_10_12 h; rw [hdn] at h3; cases h3)⟩
    | 11, _ =>
      obtain ⟨ty, ps, af, ho⟩ := op_lit hops (i := 11) (op := Op.build 27 #[(0, (Operand.const (Value.int .i64 128))), (2, (Operand.tmp 13))]) (dst := some 14) (g := none) rfl
      have hd10 := hidH (hdep 10 (by simp))
      have hd4 := hidH (hE_4_10 hd10.out)
      have hd9 := hidH (hE_9_10 hd10.out)
      have o10 := h10 hd10.out
      obtain o10 := h10 (hdep 10 (by simp))
      refine wpOp_lit ho (fun j b h => by cases h) ?_
      clear hops hdep ho
      replace h0 := hidH h0
      replace h1 := hidH h1
      replace h2 := hidH h2
      replace h3 := hidH h3
      replace h4 := hidH h4
      replace h5 := hidH h5
      replace h6 := hidH h6
      replace h7 := hidH h7
      replace h8 := hidH h8
      replace h9 := hidH h9
      replace h10 := hidH h10
      replace h12 := hidH h12
      have o10b : W.ownsRow wq.heap.size 5 1 t13 (pk y.Serial ++ ((y.Codes.length : Int) :: y.Codes)).length ((pk y.Serial ++ ((y.Codes.length : Int) :: y.Codes)).map (Value.int .u8)) := by have hl : (pk y.Serial ++ ((y.Codes.length : Int) :: y.Codes)).length = (4 + (y.Codes.length + 1)) := (by simp [pk] <;> omega); rw [hl]; exact o10
      obtain ⟨A9, c9, e9, _⟩ := own_ob o10b
      obtain ⟨n9, hn9⟩ : ∃ n9, (pk y.Serial ++ ((y.Codes.length : Int) :: y.Codes)).length = n9 := ⟨_, rfl⟩
      rw [hn9] at e9
      subst e9
      clear o10b hn9
      have hb := Below.refl W.heap.size W
      go_wp2
      exact (HJ.out _ _ _).2 ⟨_, _, _, _, _, _, _, _, _, _, _, _, rfl, hE_4_9, hE_4_10, fun _ => hd4.out, hE_4_12, hE_9_10, fun _ => hd9.out, hE_9_12, fun _ => hd10.out, hE_10_12, fun _ => rfl, btr hO hb, Nat.le_trans hS hb.size, fun h => (hRR h).below hb, h0.out, h1.out, h2.out, h3.out, (fun _ h2 => by have h3 : dn 10 = false := h2; rw [hd10.out] at h3; cases h3), h5.out, h6.out, h7.out, h8.out, (fun _ h2 => by have h3 : dn 10 = false := h2; rw [hd10.out] at h3; cases h3), fun _ => own_below0 o10 hb, fun _ => rfl, (fun h => by have h3 : dn 11 = true := hE_11_12 h; rw [hdn] at h3; cases h3)⟩
    | 12, _ =>
      obtain ⟨ty, ps, af, ho⟩ := op_lit hops (i := 12) (op := Op.store 27 (Operand.tmp 2) (Operand.tmp 14)) (dst := none) (g := none) rfl
      have hd11 := hidH (hdep 11 (by simp))
      have hd4 := hidH (hE_4_11 hd11.out)
      have hd9 := hidH (hE_9_11 hd11.out)
      have hd10 := hidH (hE_10_11 hd11.out)
      have hR0 := hRR hdn
      have o10 := h10 hd10.out
      obtain rfl := h11 (hdep 11 (by simp))
      refine wpOp_lit ho (fun j b h => by cases h) ?_
      clear hops hdep ho
      replace h0 := hidH h0
      replace h1 := hidH h1
      replace h2 := hidH h2
      replace h3 := hidH h3
      replace h4 := hidH h4
      replace h5 := hidH h5
      replace h6 := hidH h6
      replace h7 := hidH h7
      replace h8 := hidH h8
      replace h9 := hidH h9
      replace h10 := hidH h10
      replace h11 := hidH h11
      have o10b : W.ownsRow wq.heap.size 5 1 t13 (pk y.Serial ++ ((y.Codes.length : Int) :: y.Codes)).length ((pk y.Serial ++ ((y.Codes.length : Int) :: y.Codes)).map (Value.int .u8)) := by have hl : (pk y.Serial ++ ((y.Codes.length : Int) :: y.Codes)).length = (4 + (y.Codes.length + 1)) := (by simp [pk] <;> omega); rw [hl]; exact o10
      obtain ⟨A9, c9, e9, _⟩ := own_ob o10b
      obtain ⟨n9, hn9⟩ : ∃ n9, (pk y.Serial ++ ((y.Codes.length : Int) :: y.Codes)).length = n9 := ⟨_, rfl⟩
      rw [hn9] at e9
      subst e9
      clear o10b hn9
      have r0 := hR0.cell 0
      have r1 := hR0.cell 1
      have r2 := hR0.cell 2
      have s0 := hR0.frozen 0
      have s1 := hR0.frozen 1
      have s2 := hR0.frozen 2
      simp only [List.getElem?_toArray, List.getElem?_cons_succ, List.getElem?_cons_zero] at r0 r1 r2
      have KN := hidH (show Blk (((W.setCell ⟨R, 0, none⟩ (.int .i64 128)).setCell ⟨R, 1, none⟩ (.int .i64 0)).setCell ⟨R, 2, none⟩ (.slice A9 n9 c9)) R 27 #[.int .i64 128, .int .i64 0, .slice A9 n9 c9] from ((hR0.put 0 _).put 1 _).put 2 _)
      go_wp2
      exact (HJ.out _ _ _).2 ⟨_, _, _, _, _, _, _, _, _, _, _, _, rfl, hE_4_9, hE_4_10, hE_4_11, fun _ => hd4.out, hE_9_10, hE_9_11, fun _ => hd9.out, hE_10_11, fun _ => hd10.out, fun _ => hd11.out, ((hO.setCell hBR _).setCell hBR _).setCell hBR _, by simpa [World.setCell] using hS, (fun h => by simp at h), h0.out, h1.out, h2.out, h3.out, (fun _ h2 => by have h3 : dn 10 = false := h2; rw [hd10.out] at h3; cases h3), h5.out, h6.out, h7.out, h8.out, (fun _ h2 => by have h3 : dn 10 = false := h2; rw [hd10.out] at h3; cases h3), fun h => own_far (own_far (own_far (h10.out h) hRl _) hRl _) hRl _, fun _ => rfl, fun _ => KN.out⟩
    | n + 13, h => omega
  case fin =>
    clear hops hdeps hback
    rintro dn ac W hJ hall
    obtain ⟨t3, t4, t5, t6, t7, t8, t9, t10, t11, t12, t13, t14, rfl, hE_4_9, hE_4_10, hE_4_11, hE_4_12, hE_9_10, hE_9_11, hE_9_12, hE_10_11, hE_10_12, hE_11_12, hO, hS, hRR, h0, h1, h2, h3, h4, h5, h6, h7, h8, h9, h10, h11, h12⟩ := (HJ.out _ _ _).1 hJ
    exact fin _ _ _ _ _ _ _ _ _ _ _ _ W hO hS (h10 (hall 10 (by omega))) (h12 (hall 12 (by omega)))
end Go.Proofs.Ytgghelpbobbkgaa
