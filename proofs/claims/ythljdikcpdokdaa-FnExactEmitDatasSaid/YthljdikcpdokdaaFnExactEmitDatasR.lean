/- The regions of FnExactEmitDatas that compare its struct arguments. -/
import Derived.Test.YthljdikcpdokdaaTySend
import Derived.Test.YthljdikcpdokdaaNa6
namespace Go.Proofs.Ythljdikcpdokdaa
open Go.RowKit Go.Deep

set_option maxRecDepth 100000 in
set_option maxHeartbeats 1000000 in
theorem regFnExactEmitDatas_0 {Q : Exit → Act → World → Prop} (x0 x1 x2 x3 x5 x6 x7 x8 x9 x10 x12 x13 x14 x15 x16 x17 x18 x19 x20 x21 x22 x23 x24 x25 x26 x27 x28 x29 x30 x31 x32 x33 x34 x35 x36 x37 x38 : Value) (wb : World) (g x : Nat) (y0 : SendM) (A_2 : Option Addr) (c_2 : Nat) (A_3 : Option Addr) (c_3 : Nat) (E_2 : Option Addr) (e_2 : Nat) (E_3 : Option Addr) (e_3 : Nat)
    (TO : ∀ u : World, Below wb.heap.size wb u → Calls Try.prog 37 #[.agg #[.int .i64 y0.Next, .int .i64 y0.Acked, .slice A_2 y0.Seqs.length c_2, .slice A_3 y0.Items.length c_3]] u (Res u y0.vs))
    (EQ : ∀ (u : World) (vs : List Value), Below wb.heap.size wb u → RdA u y0.vs vs → Calls Try.prog 38 #[.agg #[.int .i64 y0.Next, .int .i64 y0.Acked, .slice E_2 y0.Seqs.length e_2, .slice E_3 y0.Items.length e_3], .agg vs.toArray] u (EqR u)) {ops : Array Oper}
    (hops : (ops.map fun o => (o.op, o.dst, o.guard)) = #[(Op.load 47 (Operand.tmp 11), some 39, none), (Op.load 73 (Operand.tmp 4), some 40, none), (Op.call { callee := Callee.value (Operand.func 37), args := #[(Operand.tmp 40)], argTypes := #[73] }, some 41, none), (Op.call { callee := Callee.value (Operand.func 38), args := #[(Operand.tmp 39), (Operand.tmp 41)], argTypes := #[47, 47] }, some 42, none), (Op.unOp UnOp.not 4 (Operand.tmp 42), some 43, none)])
    (hdeps : ((List.range 5).all fun i => ((fun i => [[], [], [1], [0, 2], [3]].getD i []) i).all fun j => ((ops[i]?).map fun o => o.after.any fun e => Region.binds .any e && e.on == j).getD false) = true)
    (hback : ((List.range 5).all fun i => ((ops[i]?).map fun o => o.after.all fun e => decide (e.on < i)).getD false) = true)
    {a0 : Act} {w0 : World} (ha : a0 = { tmps := #[x0, x1, x2, x3, .pointer (some ⟨g, 0, none⟩), x5, x6, x7, x8, x9, x10, .pointer (some ⟨x, 0, none⟩), x12, x13, x14, x15, x16, x17, x18, x19, x20, x21, x22, x23, x24, x25, x26, x27, x28, x29, x30, x31, x32, x33, x34, x35, x36, x37, x38, undef, undef, undef, undef, undef, undef, undef, undef, undef, undef, undef, undef, undef, undef, undef, undef, undef, undef, undef, undef, undef, undef, undef, undef, undef, undef, undef, undef, undef, undef, undef, undef, undef, undef, undef, undef, undef, undef, undef, undef, undef, undef, undef, undef, undef], defers := [] }) (hG : Blk w0 g 73 #[.int .i64 y0.Next, .int .i64 y0.Acked, .slice A_2 y0.Seqs.length c_2, .slice A_3 y0.Items.length c_3]) (hX : Blk w0 x 47 #[.int .i64 y0.Next, .int .i64 y0.Acked, .slice E_2 y0.Seqs.length e_2, .slice E_3 y0.Items.length e_3]) (hD : Below wb.heap.size wb w0) (hW0 : Below w0.heap.size w0 w0)
    (fin : ∀ t39 t40 t41 t42 (W : World), (Blk W g 73 #[.int .i64 y0.Next, .int .i64 y0.Acked, .slice A_2 y0.Seqs.length c_2, .slice A_3 y0.Items.length c_3]) → (Blk W x 47 #[.int .i64 y0.Next, .int .i64 y0.Acked, .slice E_2 y0.Seqs.length e_2, .slice E_3 y0.Items.length e_3]) → (Below wb.heap.size wb W) → (Below w0.heap.size w0 W) → Q .normal { tmps := #[x0, x1, x2, x3, .pointer (some ⟨g, 0, none⟩), x5, x6, x7, x8, x9, x10, .pointer (some ⟨x, 0, none⟩), x12, x13, x14, x15, x16, x17, x18, x19, x20, x21, x22, x23, x24, x25, x26, x27, x28, x29, x30, x31, x32, x33, x34, x35, x36, x37, x38, t39, t40, t41, t42, .bool false, undef, undef, undef, undef, undef, undef, undef, undef, undef, undef, undef, undef, undef, undef, undef, undef, undef, undef, undef, undef, undef, undef, undef, undef, undef, undef, undef, undef, undef, undef, undef, undef, undef, undef, undef, undef, undef, undef, undef, undef], defers := [] } W) :
    wpAny Try.prog .any ops Q ops.size (Array.replicate ops.size false) a0 w0 := by
  have hn : ops.size = 5 := by have := congrArg Array.size hops; simpa using this
  obtain ⟨J, HJ⟩ : ∃ J : (Nat → Bool) → Act → World → Prop, ∀ dn ac W, J dn ac W ↔ (fun dn ac W => ∃ t39 t40 t41 t42 t43, ac = { tmps := #[x0, x1, x2, x3, .pointer (some ⟨g, 0, none⟩), x5, x6, x7, x8, x9, x10, .pointer (some ⟨x, 0, none⟩), x12, x13, x14, x15, x16, x17, x18, x19, x20, x21, x22, x23, x24, x25, x26, x27, x28, x29, x30, x31, x32, x33, x34, x35, x36, x37, x38, t39, t40, t41, t42, t43, undef, undef, undef, undef, undef, undef, undef, undef, undef, undef, undef, undef, undef, undef, undef, undef, undef, undef, undef, undef, undef, undef, undef, undef, undef, undef, undef, undef, undef, undef, undef, undef, undef, undef, undef, undef, undef, undef, undef, undef], defers := [] } ∧ (Blk W g 73 #[.int .i64 y0.Next, .int .i64 y0.Acked, .slice A_2 y0.Seqs.length c_2, .slice A_3 y0.Items.length c_3]) ∧ (Blk W x 47 #[.int .i64 y0.Next, .int .i64 y0.Acked, .slice E_2 y0.Seqs.length e_2, .slice E_3 y0.Items.length e_3]) ∧ (Below wb.heap.size wb W) ∧ (Below w0.heap.size w0 W) ∧ (dn 0 = true → t39 = .agg #[.int .i64 y0.Next, .int .i64 y0.Acked, .slice E_2 y0.Seqs.length e_2, .slice E_3 y0.Items.length e_3]) ∧ (dn 1 = true → t40 = .agg #[.int .i64 y0.Next, .int .i64 y0.Acked, .slice A_2 y0.Seqs.length c_2, .slice A_3 y0.Items.length c_3]) ∧ (dn 2 = true → ∃ vs : List Value, t41 = .agg vs.toArray ∧ RdA W y0.vs vs) ∧ (dn 3 = true → t42 = .bool true) ∧ (dn 4 = true → t43 = .bool false)) dn ac W := ⟨_, fun _ _ _ => Iff.rfl⟩
  replace HJ := hidH HJ
  refine region_inv 5 (fun i => [[], [], [1], [0, 2], [3]].getD i []) J hn hdeps hback ?start ?step ?fin
  case start => exact (HJ.out _ _ _).2 ⟨undef, undef, undef, undef, undef, ha, hG, hX, hD, hW0, fun h => by simp at h, fun h => by simp at h, fun h => by simp at h, fun h => by simp at h, fun h => by simp at h⟩
  all_goals clear ha hG hX hD hW0
  case step =>
    clear fin hdeps hback
    intro i hi dn ac W hJ hdn hdep
    obtain ⟨t39, t40, t41, t42, t43, rfl, hG, hX, hD, hW0, h0, h1, h2, h3, h4⟩ := (HJ.out _ _ _).1 hJ
    clear hJ
    match i, hi with
    | 0, _ =>
      obtain ⟨ty, ps, af, ho⟩ := op_lit hops (i := 0) (op := Op.load 47 (Operand.tmp 11)) (dst := some 39) (g := none) rfl
      refine wpOp_lit ho (fun j b h => by cases h) ?_
      clear hops hdep ho
      replace h1 := hidH h1
      replace h2 := hidH h2
      replace h3 := hidH h3
      replace h4 := hidH h4
      have q0 := hX.cell 0
      have q1 := hX.cell 1
      have q2 := hX.cell 2
      have q3 := hX.cell 3
      simp only [List.getElem?_toArray, List.getElem?_cons_succ, List.getElem?_cons_zero] at q0 q1 q2 q3
      go_wp2
      exact (HJ.out _ _ _).2 ⟨_, _, _, _, _, rfl, hG, hX, hD, hW0, fun _ => rfl, h1.out, h2.out, h3.out, h4.out⟩
    | 1, _ =>
      obtain ⟨ty, ps, af, ho⟩ := op_lit hops (i := 1) (op := Op.load 73 (Operand.tmp 4)) (dst := some 40) (g := none) rfl
      refine wpOp_lit ho (fun j b h => by cases h) ?_
      clear hops hdep ho
      replace h0 := hidH h0
      replace h2 := hidH h2
      replace h3 := hidH h3
      replace h4 := hidH h4
      have q0 := hG.cell 0
      have q1 := hG.cell 1
      have q2 := hG.cell 2
      have q3 := hG.cell 3
      simp only [List.getElem?_toArray, List.getElem?_cons_succ, List.getElem?_cons_zero] at q0 q1 q2 q3
      go_wp2
      exact (HJ.out _ _ _).2 ⟨_, _, _, _, _, rfl, hG, hX, hD, hW0, h0.out, fun _ => rfl, h2.out, h3.out, h4.out⟩
    | 2, _ =>
      obtain ⟨ty, ps, af, ho⟩ := op_lit hops (i := 2) (op := Op.call { callee := Callee.value (Operand.func 37), args := #[(Operand.tmp 40)], argTypes := #[73] }) (dst := some 41) (g := none) rfl
      obtain rfl := h1 (hdep 1 (by simp))
      refine wpOp_lit ho (fun j b h => by cases h) ?_
      clear hops hdep ho
      replace h0 := hidH h0
      replace h1 := hidH h1
      replace h3 := hidH h3
      replace h4 := hidH h4
      go_wp2_with fail
      refine (TO _ hD).mono ?_
      rintro e w1 ⟨vs, rfl, hO, hb⟩
      have hE := hO.rd
      go_wp2
      exact (HJ.out _ _ _).2 ⟨_, _, _, _, _, rfl, hG.below hb, hX.below hb, btr hD hb, btr hW0 hb, h0.out, fun _ => rfl, fun _ => ⟨vs, rfl, hE⟩, h3.out, h4.out⟩
    | 3, _ =>
      obtain ⟨ty, ps, af, ho⟩ := op_lit hops (i := 3) (op := Op.call { callee := Callee.value (Operand.func 38), args := #[(Operand.tmp 39), (Operand.tmp 41)], argTypes := #[47, 47] }) (dst := some 42) (g := none) rfl
      obtain rfl := h0 (hdep 0 (by simp))
      obtain ⟨vs, rfl, hE⟩ := h2 (hdep 2 (by simp))
      refine wpOp_lit ho (fun j b h => by cases h) ?_
      clear hops hdep ho
      replace h0 := hidH h0
      replace h1 := hidH h1
      replace h2 := hidH h2
      replace h4 := hidH h4
      go_wp2_with fail
      refine (EQ _ vs hD hE).mono ?_
      rintro e w1 ⟨rfl, hb⟩
      go_wp2
      exact (HJ.out _ _ _).2 ⟨_, _, _, _, _, rfl, hG.below hb, hX.below hb, btr hD hb, btr hW0 hb, fun _ => rfl, h1.out, fun _ => ⟨vs, rfl, RdA.below hb hE⟩, fun _ => rfl, h4.out⟩
    | 4, _ =>
      obtain ⟨ty, ps, af, ho⟩ := op_lit hops (i := 4) (op := Op.unOp UnOp.not 4 (Operand.tmp 42)) (dst := some 43) (g := none) rfl
      obtain rfl := h3 (hdep 3 (by simp))
      refine wpOp_lit ho (fun j b h => by cases h) ?_
      clear hops hdep ho
      replace h0 := hidH h0
      replace h1 := hidH h1
      replace h2 := hidH h2
      replace h3 := hidH h3
      go_wp2
      exact (HJ.out _ _ _).2 ⟨_, _, _, _, _, rfl, hG, hX, hD, hW0, h0.out, h1.out, h2.out, fun _ => rfl, fun _ => rfl⟩
    | n + 5, h => omega
  case fin =>
    clear hops hdeps hback
    rintro dn ac W hJ hall
    obtain ⟨t39, t40, t41, t42, t43, rfl, hG, hX, hD, hW0, h0, h1, h2, h3, h4⟩ := (HJ.out _ _ _).1 hJ
    obtain rfl := h4 (hall 4 (by omega))
    exact fin _ _ _ _ W hG hX hD hW0
end Go.Proofs.Ythljdikcpdokdaa
