/- The region of FnExactSameSends that copies both arguments and calls the model. -/
import Derived.Test.YthljdikcpdokdaaTySend
import Derived.Test.YthljdikcpdokdaaUniR
import Derived.Test.YthljdikcpdokdaaRegInv
namespace Go.Proofs.Ythljdikcpdokdaa
open Go.RowKit Go.Deep

set_option maxRecDepth 100000 in
set_option maxHeartbeats 1000000 in
theorem reg2FnExactSameSends {Q : Exit → Act → World → Prop} (x0 x1 x4 x5 x7 x8 x9 x10 x11 x12 x13 x14 x15 x16 x17 x18 x19 : Value) (ww : World) (g0 g1 : Nat) (y0 y1 : SendM) (A_2 : Option Addr) (c_2 : Nat) (A_3 : Option Addr) (c_3 : Nat) (B_2 : Option Addr) (d_2 : Nat) (B_3 : Option Addr) (d_3 : Nat) (z : Bool)
    (TO0 : ∀ u : World, Below ww.heap.size ww u → Calls Try.prog 37 #[.agg #[.int .i64 y0.Next, .int .i64 y0.Acked, .slice A_2 y0.Seqs.length c_2, .slice A_3 y0.Items.length c_3]] u (Res u y0.vs))
    (TO1 : ∀ u : World, Below ww.heap.size ww u → Calls Try.prog 37 #[.agg #[.int .i64 y1.Next, .int .i64 y1.Acked, .slice B_2 y1.Seqs.length d_2, .slice B_3 y1.Items.length d_3]] u (Res u y1.vs))
    (FN : ∀ (u : World) (vs us : List Value), RdA u y0.vs vs → RdA u y1.vs us → Calls Try.prog 55 #[.agg vs.toArray, .agg us.toArray] u (BolR z u)) {ops : Array Oper}
    (hops : (ops.map fun o => (o.op, o.dst, o.guard)) = #[(Op.load 73 (Operand.tmp 2), some 20, none), (Op.call { callee := Callee.value (Operand.func 37), args := #[(Operand.tmp 20)], argTypes := #[73] }, some 21, none), (Op.load 73 (Operand.tmp 3), some 22, none), (Op.call { callee := Callee.value (Operand.func 37), args := #[(Operand.tmp 22)], argTypes := #[73] }, some 23, none), (Op.call { callee := Callee.value (Operand.func 55), args := #[(Operand.tmp 21), (Operand.tmp 23)], argTypes := #[47, 47] }, some 24, none), (Op.assign (Operand.tmp 24), some 6, none)])
    (hdeps : ((List.range 6).all fun i => ((fun i => [[], [0], [], [1, 2], [1, 3], [4]].getD i []) i).all fun j => ((ops[i]?).map fun o => o.after.any fun e => Region.binds .any e && e.on == j).getD false) = true)
    (hback : ((List.range 6).all fun i => ((ops[i]?).map fun o => o.after.all fun e => decide (e.on < i)).getD false) = true)
    {a0 : Act} {w0 : World} (ha : a0 = { tmps := #[x0, x1, .pointer (some ⟨g0, 0, none⟩), .pointer (some ⟨g1, 0, none⟩), x4, x5, undef, x7, x8, x9, x10, x11, x12, x13, x14, x15, x16, x17, x18, x19, undef, undef, undef, undef, undef, undef, undef, undef, undef, undef, undef, undef, undef, undef, undef, undef, undef, undef, undef, undef, undef, undef, undef, undef, undef], defers := [] }) (hA : Blk w0 g0 73 #[.int .i64 y0.Next, .int .i64 y0.Acked, .slice A_2 y0.Seqs.length c_2, .slice A_3 y0.Items.length c_3]) (hB : Blk w0 g1 73 #[.int .i64 y1.Next, .int .i64 y1.Acked, .slice B_2 y1.Seqs.length d_2, .slice B_3 y1.Items.length d_3]) (hO : Below ww.heap.size ww w0)
    (fin : ∀ t20 t21 t22 t23 t24 (W : World), (Below ww.heap.size ww W) → Q .normal { tmps := #[x0, x1, .pointer (some ⟨g0, 0, none⟩), .pointer (some ⟨g1, 0, none⟩), x4, x5, .bool z, x7, x8, x9, x10, x11, x12, x13, x14, x15, x16, x17, x18, x19, t20, t21, t22, t23, t24, undef, undef, undef, undef, undef, undef, undef, undef, undef, undef, undef, undef, undef, undef, undef, undef, undef, undef, undef, undef], defers := [] } W) :
    wpAny Try.prog .any ops Q ops.size (Array.replicate ops.size false) a0 w0 := by
  have hn : ops.size = 6 := by have := congrArg Array.size hops; simpa using this
  obtain ⟨J, HJ⟩ : ∃ J : (Nat → Bool) → Act → World → Prop, ∀ dn ac W, J dn ac W ↔ (fun dn ac W => ∃ t20 t21 t22 t23 t24 t6, ac = { tmps := #[x0, x1, .pointer (some ⟨g0, 0, none⟩), .pointer (some ⟨g1, 0, none⟩), x4, x5, t6, x7, x8, x9, x10, x11, x12, x13, x14, x15, x16, x17, x18, x19, t20, t21, t22, t23, t24, undef, undef, undef, undef, undef, undef, undef, undef, undef, undef, undef, undef, undef, undef, undef, undef, undef, undef, undef, undef], defers := [] } ∧ (Blk W g0 73 #[.int .i64 y0.Next, .int .i64 y0.Acked, .slice A_2 y0.Seqs.length c_2, .slice A_3 y0.Items.length c_3]) ∧ (Blk W g1 73 #[.int .i64 y1.Next, .int .i64 y1.Acked, .slice B_2 y1.Seqs.length d_2, .slice B_3 y1.Items.length d_3]) ∧ (Below ww.heap.size ww W) ∧ (dn 0 = true → t20 = .agg #[.int .i64 y0.Next, .int .i64 y0.Acked, .slice A_2 y0.Seqs.length c_2, .slice A_3 y0.Items.length c_3]) ∧ (dn 1 = true → ∃ vs : List Value, t21 = .agg vs.toArray ∧ RdA W y0.vs vs) ∧ (dn 2 = true → t22 = .agg #[.int .i64 y1.Next, .int .i64 y1.Acked, .slice B_2 y1.Seqs.length d_2, .slice B_3 y1.Items.length d_3]) ∧ (dn 3 = true → ∃ us : List Value, t23 = .agg us.toArray ∧ RdA W y1.vs us) ∧ (dn 4 = true → t24 = .bool z) ∧ (dn 5 = true → t6 = .bool z)) dn ac W := ⟨_, fun _ _ _ => Iff.rfl⟩
  replace HJ := hidH HJ
  refine region_inv 6 (fun i => [[], [0], [], [1, 2], [1, 3], [4]].getD i []) J hn hdeps hback ?start ?step ?fin
  case start => exact (HJ.out _ _ _).2 ⟨undef, undef, undef, undef, undef, undef, ha, hA, hB, hO, fun h => by simp at h, fun h => by simp at h, fun h => by simp at h, fun h => by simp at h, fun h => by simp at h, fun h => by simp at h⟩
  all_goals clear ha hA hB hO
  case step =>
    clear fin hdeps hback
    intro i hi dn ac W hJ hdn hdep
    obtain ⟨t20, t21, t22, t23, t24, t6, rfl, hA, hB, hO, h0, h1, h2, h3, h4, h5⟩ := (HJ.out _ _ _).1 hJ
    clear hJ
    match i, hi with
    | 0, _ =>
      obtain ⟨ty, ps, af, ho⟩ := op_lit hops (i := 0) (op := Op.load 73 (Operand.tmp 2)) (dst := some 20) (g := none) rfl
      refine wpOp_lit ho (fun j b h => by cases h) ?_
      clear hops hdep ho
      replace h1 := hidH h1
      replace h2 := hidH h2
      replace h3 := hidH h3
      replace h4 := hidH h4
      replace h5 := hidH h5
      have q0 := hA.cell 0
      have q1 := hA.cell 1
      have q2 := hA.cell 2
      have q3 := hA.cell 3
      simp only [List.getElem?_toArray, List.getElem?_cons_succ, List.getElem?_cons_zero] at q0 q1 q2 q3
      go_wp2
      exact (HJ.out _ _ _).2 ⟨_, _, _, _, _, _, rfl, hA, hB, hO, fun _ => rfl, h1.out, h2.out, h3.out, h4.out, h5.out⟩
    | 1, _ =>
      obtain ⟨ty, ps, af, ho⟩ := op_lit hops (i := 1) (op := Op.call { callee := Callee.value (Operand.func 37), args := #[(Operand.tmp 20)], argTypes := #[73] }) (dst := some 21) (g := none) rfl
      obtain rfl := h0 (hdep 0 (by simp))
      refine wpOp_lit ho (fun j b h => by cases h) ?_
      clear hops hdep ho
      replace h0 := hidH h0
      replace h2 := hidH h2
      replace h3 := hidH h3
      replace h4 := hidH h4
      replace h5 := hidH h5
      go_wp2_with fail
      refine (TO0 _ hO).mono ?_
      rintro e w1 ⟨vs, rfl, hQ, hb⟩
      have hE := hQ.rd
      clear hQ
      go_wp2
      exact (HJ.out _ _ _).2 ⟨_, _, _, _, _, _, rfl, hA.below hb, hB.below hb, btr hO hb, fun _ => rfl, fun _ => ⟨vs, rfl, hE⟩, h2.out, fun h => by obtain ⟨us, q1, q2⟩ := h3.out h; exact ⟨us, q1, RdA.below hb q2⟩, h4.out, h5.out⟩
    | 2, _ =>
      obtain ⟨ty, ps, af, ho⟩ := op_lit hops (i := 2) (op := Op.load 73 (Operand.tmp 3)) (dst := some 22) (g := none) rfl
      refine wpOp_lit ho (fun j b h => by cases h) ?_
      clear hops hdep ho
      replace h0 := hidH h0
      replace h1 := hidH h1
      replace h3 := hidH h3
      replace h4 := hidH h4
      replace h5 := hidH h5
      have q0 := hB.cell 0
      have q1 := hB.cell 1
      have q2 := hB.cell 2
      have q3 := hB.cell 3
      simp only [List.getElem?_toArray, List.getElem?_cons_succ, List.getElem?_cons_zero] at q0 q1 q2 q3
      go_wp2
      exact (HJ.out _ _ _).2 ⟨_, _, _, _, _, _, rfl, hA, hB, hO, h0.out, h1.out, fun _ => rfl, h3.out, h4.out, h5.out⟩
    | 3, _ =>
      obtain ⟨ty, ps, af, ho⟩ := op_lit hops (i := 3) (op := Op.call { callee := Callee.value (Operand.func 37), args := #[(Operand.tmp 22)], argTypes := #[73] }) (dst := some 23) (g := none) rfl
      obtain rfl := h2 (hdep 2 (by simp))
      refine wpOp_lit ho (fun j b h => by cases h) ?_
      clear hops hdep ho
      replace h0 := hidH h0
      replace h1 := hidH h1
      replace h2 := hidH h2
      replace h4 := hidH h4
      replace h5 := hidH h5
      go_wp2_with fail
      refine (TO1 _ hO).mono ?_
      rintro e w1 ⟨us, rfl, hQ, hb⟩
      have hF := hQ.rd
      clear hQ
      go_wp2
      exact (HJ.out _ _ _).2 ⟨_, _, _, _, _, _, rfl, hA.below hb, hB.below hb, btr hO hb, h0.out, fun h => by obtain ⟨vs, q1, q2⟩ := h1.out h; exact ⟨vs, q1, RdA.below hb q2⟩, fun _ => rfl, fun _ => ⟨us, rfl, hF⟩, h4.out, h5.out⟩
    | 4, _ =>
      obtain ⟨ty, ps, af, ho⟩ := op_lit hops (i := 4) (op := Op.call { callee := Callee.value (Operand.func 55), args := #[(Operand.tmp 21), (Operand.tmp 23)], argTypes := #[47, 47] }) (dst := some 24) (g := none) rfl
      obtain ⟨vs, rfl, hE⟩ := h1 (hdep 1 (by simp))
      obtain ⟨us, rfl, hF⟩ := h3 (hdep 3 (by simp))
      refine wpOp_lit ho (fun j b h => by cases h) ?_
      clear hops hdep ho
      replace h0 := hidH h0
      replace h1 := hidH h1
      replace h2 := hidH h2
      replace h3 := hidH h3
      replace h5 := hidH h5
      go_wp2_with fail
      refine (FN _ vs us hE hF).mono ?_
      rintro e w1 ⟨rfl, hb⟩
      go_wp2
      exact (HJ.out _ _ _).2 ⟨_, _, _, _, _, _, rfl, hA.below hb, hB.below hb, btr hO hb, h0.out, fun _ => ⟨vs, rfl, RdA.below hb hE⟩, h2.out, fun _ => ⟨us, rfl, RdA.below hb hF⟩, fun _ => rfl, h5.out⟩
    | 5, _ =>
      obtain ⟨ty, ps, af, ho⟩ := op_lit hops (i := 5) (op := Op.assign (Operand.tmp 24)) (dst := some 6) (g := none) rfl
      obtain rfl := h4 (hdep 4 (by simp))
      refine wpOp_lit ho (fun j b h => by cases h) ?_
      clear hops hdep ho
      replace h0 := hidH h0
      replace h1 := hidH h1
      replace h2 := hidH h2
      replace h3 := hidH h3
      replace h4 := hidH h4
      go_wp2
      exact (HJ.out _ _ _).2 ⟨_, _, _, _, _, _, rfl, hA, hB, hO, h0.out, h1.out, h2.out, h3.out, fun _ => rfl, fun _ => rfl⟩
    | n + 6, h => omega
  case fin =>
    clear hops hdeps hback
    rintro dn ac W hJ hall
    obtain ⟨t20, t21, t22, t23, t24, t6, rfl, hA, hB, hO, h0, h1, h2, h3, h4, h5⟩ := (HJ.out _ _ _).1 hJ
    obtain rfl := h5 (hall 5 (by omega))
    exact fin _ _ _ _ _ W hO
end Go.Proofs.Ythljdikcpdokdaa
