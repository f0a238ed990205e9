/- The regions of FnExactTakeSack that copy both arguments and call. -/
import Derived.Test.YthljdikcpdokdaaTySend
import Derived.Test.YthljdikcpdokdaaNb0
import Derived.Test.YthljdikcpdokdaaNa5
import Derived.Test.YthljdikcpdokdaaNa6
namespace Go.Proofs.Ythljdikcpdokdaa
open Go.RowKit Go.Deep

set_option maxRecDepth 100000 in
set_option maxHeartbeats 2000000 in
theorem regFnExactTakeSacka {Q : Exit → Act → World → Prop} (x0 x1 x4 x5 x7 x8 x9 x10 x11 x12 x13 x14 x15 x16 x17 x18 x19 x20 x21 x22 x23 : Value) (ww : World) (b0 b1 : Nat) (y0 : SendM) (y1 : SackM) (A_2 : Option Addr) (c_2 : Nat) (A_3 : Option Addr) (c_3 : Nat) (B_1 : Option Addr) (d_1 : Nat) (z : SendResultM)
    (TO0 : ∀ u : World, Below ww.heap.size ww u → Calls Try.prog 37 #[.agg #[.int .i64 y0.Next, .int .i64 y0.Acked, .slice A_2 y0.Seqs.length c_2, .slice A_3 y0.Items.length c_3]] u (Res u y0.vs)) (TO1 : ∀ u : World, Below ww.heap.size ww u → Calls Try.prog 50 #[.agg #[.int .i64 y1.Cum, .slice B_1 y1.Gaps.length d_1]] u (Res u y1.vs))
    (FN : ∀ (u : World) (v0 v1 : List Value), RdA u y0.vs v0 → RdA u y1.vs v1 → Calls Try.prog 21 #[.agg v0.toArray, .agg v1.toArray] u (Res u z.vs)) {ops : Array Oper}
    (hops : (ops.map fun o => (o.op, o.dst, o.guard)) = #[(Op.load 73 (Operand.tmp 2), some 24, none), (Op.call { callee := Callee.value (Operand.func 37), args := #[(Operand.tmp 24)], argTypes := #[73] }, some 25, none), (Op.load 91 (Operand.tmp 3), some 26, none), (Op.call { callee := Callee.value (Operand.func 50), args := #[(Operand.tmp 26)], argTypes := #[91] }, some 27, none), (Op.call { callee := Callee.value (Operand.func 21), args := #[(Operand.tmp 25), (Operand.tmp 27)], argTypes := #[47, 31] }, some 28, none), (Op.alloc 51, some 6, none), (Op.store 51 (Operand.tmp 6) (Operand.tmp 28), none, none)])
    (hdeps : ((List.range 7).all fun i => ((fun i => [[], [0], [], [1, 2], [1, 3], [], [4, 5]].getD i []) i).all fun j => ((ops[i]?).map fun o => o.after.any fun e => Region.binds .any e && e.on == j).getD false) = true)
    (hback : ((List.range 7).all fun i => ((ops[i]?).map fun o => o.after.all fun e => decide (e.on < i)).getD false) = true)
    {a0 : Act} {w0 : World} (ha : a0 = { tmps := #[x0, x1, .pointer (some ⟨b0, 0, none⟩), .pointer (some ⟨b1, 0, none⟩), x4, x5, undef, x7, x8, x9, x10, x11, x12, x13, x14, x15, x16, x17, x18, x19, x20, x21, x22, x23, undef, undef, undef, undef, undef, undef, undef, undef, undef, undef, undef, undef, undef, undef, undef, undef, undef, undef, undef, undef, undef, undef, undef, undef, undef, undef, undef, undef, undef, undef, undef, undef, undef, undef, undef, undef, undef, undef, undef, undef, undef, undef, undef, undef, undef, undef, undef, undef, undef, undef, undef, undef, undef, undef, undef, undef, undef, undef, undef, undef, undef, undef, undef, undef, undef, undef, undef, undef], defers := [] }) (hE5 : false = true → false = true) (hE4 : false = true → false = true) (hA : b0 < ww.heap.size ∧ Blk w0 b0 73 #[.int .i64 y0.Next, .int .i64 y0.Acked, .slice A_2 y0.Seqs.length c_2, .slice A_3 y0.Items.length c_3]) (hB : b1 < ww.heap.size ∧ Blk w0 b1 91 #[.int .i64 y1.Cum, .slice B_1 y1.Gaps.length d_1]) (hO : Below ww.heap.size ww w0)
    (fin : ∀ t24 t25 t26 t27 t28 t6 (W : World), (Below ww.heap.size ww W) → (∃ (g lo hi : Nat) (R_3 : Option Addr) (r_3 : Nat) (R_4 : Option Addr) (r_4 : Nat) (R_5 : Option Addr) (r_5 : Nat), t6 = .pointer (some ⟨g, 0, none⟩) ∧ Blk W g 51 #[.int .i64 z.Code, .int .i64 z.Send_Next, .int .i64 z.Send_Acked, .slice R_3 z.Send_Seqs.length r_3, .slice R_4 z.Send_Items.length r_4, .slice R_5 z.Datas.length r_5, .bool z.Old] ∧ OwN lo hi W z.vs [.int .i64 z.Code, .int .i64 z.Send_Next, .int .i64 z.Send_Acked, .slice R_3 z.Send_Seqs.length r_3, .slice R_4 z.Send_Items.length r_4, .slice R_5 z.Datas.length r_5, .bool z.Old] ∧ ww.heap.size ≤ lo ∧ hi ≤ W.heap.size) → Q .normal { tmps := #[x0, x1, .pointer (some ⟨b0, 0, none⟩), .pointer (some ⟨b1, 0, none⟩), x4, x5, t6, x7, x8, x9, x10, x11, x12, x13, x14, x15, x16, x17, x18, x19, x20, x21, x22, x23, t24, t25, t26, t27, t28, undef, undef, undef, undef, undef, undef, undef, undef, undef, undef, undef, undef, undef, undef, undef, undef, undef, undef, undef, undef, undef, undef, undef, undef, undef, undef, undef, undef, undef, undef, undef, undef, undef, undef, undef, undef, undef, undef, undef, undef, undef, undef, undef, undef, undef, undef, undef, undef, undef, undef, undef, undef, undef, undef, undef, undef, undef, undef, undef, undef, undef, undef, undef], defers := [] } W) :
    wpAny Try.prog .any ops Q ops.size (Array.replicate ops.size false) a0 w0 := by
  have hn : ops.size = 7 := by have := congrArg Array.size hops; simpa using this
  obtain ⟨J, HJ⟩ : ∃ J : (Nat → Bool) → Act → World → Prop, ∀ dn ac W, J dn ac W ↔ (fun dn ac W => ∃ t24 t25 t26 t27 t28 t6, ac = { tmps := #[x0, x1, .pointer (some ⟨b0, 0, none⟩), .pointer (some ⟨b1, 0, none⟩), x4, x5, t6, x7, x8, x9, x10, x11, x12, x13, x14, x15, x16, x17, x18, x19, x20, x21, x22, x23, t24, t25, t26, t27, t28, undef, undef, undef, undef, undef, undef, undef, undef, undef, undef, undef, undef, undef, undef, undef, undef, undef, undef, undef, undef, undef, undef, undef, undef, undef, undef, undef, undef, undef, undef, undef, undef, undef, undef, undef, undef, undef, undef, undef, undef, undef, undef, undef, undef, undef, undef, undef, undef, undef, undef, undef, undef, undef, undef, undef, undef, undef, undef, undef, undef, undef, undef, undef], defers := [] } ∧ (dn 6 = true → dn 5 = true) ∧ (dn 6 = true → dn 4 = true) ∧ (b0 < ww.heap.size ∧ Blk W b0 73 #[.int .i64 y0.Next, .int .i64 y0.Acked, .slice A_2 y0.Seqs.length c_2, .slice A_3 y0.Items.length c_3]) ∧ (b1 < ww.heap.size ∧ Blk W b1 91 #[.int .i64 y1.Cum, .slice B_1 y1.Gaps.length d_1]) ∧ (Below ww.heap.size ww W) ∧ (dn 0 = true → t24 = .agg #[.int .i64 y0.Next, .int .i64 y0.Acked, .slice A_2 y0.Seqs.length c_2, .slice A_3 y0.Items.length c_3]) ∧ (dn 1 = true → dn 6 = false → ∃ vs : List Value, t25 = .agg vs.toArray ∧ RdA W y0.vs vs) ∧ (dn 2 = true → t26 = .agg #[.int .i64 y1.Cum, .slice B_1 y1.Gaps.length d_1]) ∧ (dn 3 = true → dn 6 = false → ∃ vs : List Value, t27 = .agg vs.toArray ∧ RdA W y1.vs vs) ∧ (dn 4 = true → dn 6 = false → ∃ (lo hi : Nat) (R_3 : Option Addr) (r_3 : Nat) (R_4 : Option Addr) (r_4 : Nat) (R_5 : Option Addr) (r_5 : Nat), t28 = .agg #[.int .i64 z.Code, .int .i64 z.Send_Next, .int .i64 z.Send_Acked, .slice R_3 z.Send_Seqs.length r_3, .slice R_4 z.Send_Items.length r_4, .slice R_5 z.Datas.length r_5, .bool z.Old] ∧ OwN lo hi W z.vs [.int .i64 z.Code, .int .i64 z.Send_Next, .int .i64 z.Send_Acked, .slice R_3 z.Send_Seqs.length r_3, .slice R_4 z.Send_Items.length r_4, .slice R_5 z.Datas.length r_5, .bool z.Old] ∧ ww.heap.size ≤ lo ∧ hi ≤ W.heap.size ∧ (dn 5 = true → ∀ g : Nat, t6 = .pointer (some ⟨g, 0, none⟩) → g < lo ∨ hi ≤ g)) ∧ (dn 5 = true → dn 6 = false → ∃ g : Nat, t6 = .pointer (some ⟨g, 0, none⟩) ∧ Blk W g 51 #[.int .i64 0, .int .i64 0, .int .i64 0, .slice none 0 0, .slice none 0 0, .slice none 0 0, .bool false] ∧ ww.heap.size ≤ g) ∧ (dn 6 = true → ∃ (g lo hi : Nat) (R_3 : Option Addr) (r_3 : Nat) (R_4 : Option Addr) (r_4 : Nat) (R_5 : Option Addr) (r_5 : Nat), t6 = .pointer (some ⟨g, 0, none⟩) ∧ Blk W g 51 #[.int .i64 z.Code, .int .i64 z.Send_Next, .int .i64 z.Send_Acked, .slice R_3 z.Send_Seqs.length r_3, .slice R_4 z.Send_Items.length r_4, .slice R_5 z.Datas.length r_5, .bool z.Old] ∧ OwN lo hi W z.vs [.int .i64 z.Code, .int .i64 z.Send_Next, .int .i64 z.Send_Acked, .slice R_3 z.Send_Seqs.length r_3, .slice R_4 z.Send_Items.length r_4, .slice R_5 z.Datas.length r_5, .bool z.Old] ∧ ww.heap.size ≤ lo ∧ hi ≤ W.heap.size)) dn ac W := ⟨_, fun _ _ _ => Iff.rfl⟩
  replace HJ := hidH HJ
  refine region_inv 7 (fun i => [[], [0], [], [1, 2], [1, 3], [], [4, 5]].getD i []) J hn hdeps hback ?start ?step ?fin
  case start => exact (HJ.out _ _ _).2 ⟨undef, undef, undef, undef, undef, undef, ha, hE5, hE4, hA, hB, hO, fun h => by simp at h, fun h => by simp at h, fun h => by simp at h, fun h => by simp at h, fun h => by simp at h, fun h => by simp at h, fun h => by simp at h⟩
  all_goals clear ha hE5 hE4 hA hB hO
  case step =>
    clear fin hdeps hback
    intro i hi dn ac W hJ hdn hdep
    obtain ⟨t24, t25, t26, t27, t28, t6, rfl, hE5, hE4, hA, hB, hO, h0, h1, h2, h3, h4, h5, h6⟩ := (HJ.out _ _ _).1 hJ
    clear hJ
    match i, hi with
    | 0, _ =>
      obtain ⟨ty, ps, af, ho⟩ := op_lit hops (i := 0) (op := Op.load 73 (Operand.tmp 2)) (dst := some 24) (g := none) rfl
      refine wpOp_lit ho (fun j b h => by cases h) ?_
      clear hops hdep ho
      replace h1 := hidH h1
      replace h2 := hidH h2
      replace h3 := hidH h3
      replace h4 := hidH h4
      replace h5 := hidH h5
      replace h6 := hidH h6
      have hb := Below.refl W.heap.size W
      have q0 := hA.2.cell 0
      have q1 := hA.2.cell 1
      have q2 := hA.2.cell 2
      have q3 := hA.2.cell 3
      simp only [List.getElem?_toArray, List.getElem?_cons_succ, List.getElem?_cons_zero] at q0 q1 q2 q3
      have gq := hA.2.lt
      go_wp2
      exact (HJ.out _ _ _).2 ⟨_, _, _, _, _, _, rfl, hE5, hE4, ⟨hA.1, hA.2.below hb⟩, ⟨hB.1, hB.2.below hb⟩, btr hO hb, fun _ => rfl, fun h h6 => by obtain ⟨vs, e, q⟩ := h1.out h h6; exact ⟨vs, e, RdA.below hb q⟩, h2.out, fun h h6 => by obtain ⟨vs, e, q⟩ := h3.out h h6; exact ⟨vs, e, RdA.below hb q⟩, fun h h6 => by obtain ⟨lo, hi, R_3, r_3, R_4, r_4, R_5, r_5, e, q, q1, q2, q3⟩ := h4.out h h6; exact ⟨lo, hi, R_3, r_3, R_4, r_4, R_5, r_5, e, q.below hb, q1, Nat.le_trans q2 hb.size, q3⟩, (fun h h2 => by obtain ⟨g, q1, q2, q3⟩ := h5.out h h2; exact ⟨g, q1, q2.below hb, q3⟩), fun h => by obtain ⟨g, lo, hi, R_3, r_3, R_4, r_4, R_5, r_5, e, k, q, q1, q2⟩ := h6.out h; exact ⟨g, lo, hi, R_3, r_3, R_4, r_4, R_5, r_5, e, k.below hb, q.below hb, q1, Nat.le_trans q2 hb.size⟩⟩
    | 1, _ =>
      obtain ⟨ty, ps, af, ho⟩ := op_lit hops (i := 1) (op := Op.call { callee := Callee.value (Operand.func 37), args := #[(Operand.tmp 24)], argTypes := #[73] }) (dst := some 25) (g := none) rfl
      obtain rfl := h0 (hdep 0 (by simp))
      refine wpOp_lit ho (fun j b h => by cases h) ?_
      clear hops hdep ho
      replace h0 := hidH h0
      replace h2 := hidH h2
      replace h3 := hidH h3
      replace h4 := hidH h4
      replace h5 := hidH h5
      replace h6 := hidH h6
      go_wp2_with fail
      refine (TO0 _ hO).mono ?_
      rintro e w9 ⟨vs9, rfl, o9, hb⟩
      have Q1 := hidH o9.rd
      clear o9
      go_wp2
      exact (HJ.out _ _ _).2 ⟨_, _, _, _, _, _, rfl, hE5, hE4, ⟨hA.1, hA.2.below hb⟩, ⟨hB.1, hB.2.below hb⟩, btr hO hb, fun _ => rfl, fun _ => fun _ => ⟨_, rfl, Q1.out⟩, h2.out, fun h h6 => by obtain ⟨vs, e, q⟩ := h3.out h h6; exact ⟨vs, e, RdA.below hb q⟩, fun h h6 => by obtain ⟨lo, hi, R_3, r_3, R_4, r_4, R_5, r_5, e, q, q1, q2, q3⟩ := h4.out h h6; exact ⟨lo, hi, R_3, r_3, R_4, r_4, R_5, r_5, e, q.below hb, q1, Nat.le_trans q2 hb.size, q3⟩, (fun h h2 => by obtain ⟨g, q1, q2, q3⟩ := h5.out h h2; exact ⟨g, q1, q2.below hb, q3⟩), fun h => by obtain ⟨g, lo, hi, R_3, r_3, R_4, r_4, R_5, r_5, e, k, q, q1, q2⟩ := h6.out h; exact ⟨g, lo, hi, R_3, r_3, R_4, r_4, R_5, r_5, e, k.below hb, q.below hb, q1, Nat.le_trans q2 hb.size⟩⟩
    | 2, _ =>
      obtain ⟨ty, ps, af, ho⟩ := op_lit hops (i := 2) (op := Op.load 91 (Operand.tmp 3)) (dst := some 26) (g := none) rfl
      refine wpOp_lit ho (fun j b h => by cases h) ?_
      clear hops hdep ho
      replace h0 := hidH h0
      replace h1 := hidH h1
      replace h3 := hidH h3
      replace h4 := hidH h4
      replace h5 := hidH h5
      replace h6 := hidH h6
      have hb := Below.refl W.heap.size W
      have q0 := hB.2.cell 0
      have q1 := hB.2.cell 1
      simp only [List.getElem?_toArray, List.getElem?_cons_succ, List.getElem?_cons_zero] at q0 q1
      have gq := hB.2.lt
      go_wp2
      exact (HJ.out _ _ _).2 ⟨_, _, _, _, _, _, rfl, hE5, hE4, ⟨hA.1, hA.2.below hb⟩, ⟨hB.1, hB.2.below hb⟩, btr hO hb, h0.out, fun h h6 => by obtain ⟨vs, e, q⟩ := h1.out h h6; exact ⟨vs, e, RdA.below hb q⟩, fun _ => rfl, fun h h6 => by obtain ⟨vs, e, q⟩ := h3.out h h6; exact ⟨vs, e, RdA.below hb q⟩, fun h h6 => by obtain ⟨lo, hi, R_3, r_3, R_4, r_4, R_5, r_5, e, q, q1, q2, q3⟩ := h4.out h h6; exact ⟨lo, hi, R_3, r_3, R_4, r_4, R_5, r_5, e, q.below hb, q1, Nat.le_trans q2 hb.size, q3⟩, (fun h h2 => by obtain ⟨g, q1, q2, q3⟩ := h5.out h h2; exact ⟨g, q1, q2.below hb, q3⟩), fun h => by obtain ⟨g, lo, hi, R_3, r_3, R_4, r_4, R_5, r_5, e, k, q, q1, q2⟩ := h6.out h; exact ⟨g, lo, hi, R_3, r_3, R_4, r_4, R_5, r_5, e, k.below hb, q.below hb, q1, Nat.le_trans q2 hb.size⟩⟩
    | 3, _ =>
      obtain ⟨ty, ps, af, ho⟩ := op_lit hops (i := 3) (op := Op.call { callee := Callee.value (Operand.func 50), args := #[(Operand.tmp 26)], argTypes := #[91] }) (dst := some 27) (g := none) rfl
      obtain rfl := h2 (hdep 2 (by simp))
      refine wpOp_lit ho (fun j b h => by cases h) ?_
      clear hops hdep ho
      replace h0 := hidH h0
      replace h1 := hidH h1
      replace h2 := hidH h2
      replace h4 := hidH h4
      replace h5 := hidH h5
      replace h6 := hidH h6
      go_wp2_with fail
      refine (TO1 _ hO).mono ?_
      rintro e w9 ⟨vs9, rfl, o9, hb⟩
      have Q3 := hidH o9.rd
      clear o9
      go_wp2
      exact (HJ.out _ _ _).2 ⟨_, _, _, _, _, _, rfl, hE5, hE4, ⟨hA.1, hA.2.below hb⟩, ⟨hB.1, hB.2.below hb⟩, btr hO hb, h0.out, fun h h6 => by obtain ⟨vs, e, q⟩ := h1.out h h6; exact ⟨vs, e, RdA.below hb q⟩, fun _ => rfl, fun _ => fun _ => ⟨_, rfl, Q3.out⟩, fun h h6 => by obtain ⟨lo, hi, R_3, r_3, R_4, r_4, R_5, r_5, e, q, q1, q2, q3⟩ := h4.out h h6; exact ⟨lo, hi, R_3, r_3, R_4, r_4, R_5, r_5, e, q.below hb, q1, Nat.le_trans q2 hb.size, q3⟩, (fun h h2 => by obtain ⟨g, q1, q2, q3⟩ := h5.out h h2; exact ⟨g, q1, q2.below hb, q3⟩), fun h => by obtain ⟨g, lo, hi, R_3, r_3, R_4, r_4, R_5, r_5, e, k, q, q1, q2⟩ := h6.out h; exact ⟨g, lo, hi, R_3, r_3, R_4, r_4, R_5, r_5, e, k.below hb, q.below hb, q1, Nat.le_trans q2 hb.size⟩⟩
    | 4, _ =>
      obtain ⟨ty, ps, af, ho⟩ := op_lit hops (i := 4) (op := Op.call { callee := Callee.value (Operand.func 21), args := #[(Operand.tmp 25), (Operand.tmp 27)], argTypes := #[47, 31] }) (dst := some 28) (g := none) rfl
      have z6 : dn 6 = false := by
              cases h : dn 6 with
              | false => rfl
              | true => have h3 : dn 4 = true := hE4 h; rw [hdn] at h3; cases h3
      have z5 := fun (hd : dn 5 = true) (g : Nat) (e : t6 = .pointer (some ⟨g, 0, none⟩)) => show g < W.heap.size from by
              obtain ⟨g2, e2, k2, _⟩ := h5 hd z6
              rw [e2] at e
              injection e with e; injection e with e; injection e with e
              rw [← e]; exact k2.lt
      replace z5 := hidH z5
      obtain ⟨vs1, rfl, q1⟩ := h1 (hdep 1 (by simp)) z6
      obtain ⟨vs3, rfl, q3⟩ := h3 (hdep 3 (by simp)) z6
      refine wpOp_lit ho (fun j b h => by cases h) ?_
      clear hops hdep ho
      replace h0 := hidH h0
      replace h1 := hidH h1
      replace h2 := hidH h2
      replace h3 := hidH h3
      replace h5 := hidH h5
      replace h6 := hidH h6
      go_wp2_with fail
      refine (FN _ _ _ q1 q3).mono ?_
      rintro e w9 ⟨vs9, rfl, o9, hb⟩
      obtain ⟨R_3, r_3, R_4, r_4, R_5, r_5, rfl⟩ := shape_SendResult o9.rd
      have Q4 := hidH o9
      have HL5 := hidH (fun (hd : dn 5 = true) (g : Nat) (e : t6 = .pointer (some ⟨g, 0, none⟩)) => show g < W.heap.size ∨ w9.heap.size ≤ g from .inl (z5.out hd g e))
      clear o9
      go_wp2
      exact (HJ.out _ _ _).2 ⟨_, _, _, _, _, _, rfl, hE5, fun _ => rfl, ⟨hA.1, hA.2.below hb⟩, ⟨hB.1, hB.2.below hb⟩, btr hO hb, h0.out, fun h h6 => by obtain ⟨vs, e, q⟩ := h1.out h h6; exact ⟨vs, e, RdA.below hb q⟩, h2.out, fun h h6 => by obtain ⟨vs, e, q⟩ := h3.out h h6; exact ⟨vs, e, RdA.below hb q⟩, fun _ => fun h6 => ⟨_, _, _, _, _, _, _, _, rfl, Q4.out, hO.size, Nat.le_refl _, HL5.out⟩, (fun h h2 => by obtain ⟨g, q1, q2, q3⟩ := h5.out h h2; exact ⟨g, q1, q2.below hb, q3⟩), (fun h => by have h3 : dn 4 = true := hE4 h; rw [hdn] at h3; cases h3)⟩
    | 5, _ =>
      obtain ⟨ty, ps, af, ho⟩ := op_lit hops (i := 5) (op := Op.alloc 51) (dst := some 6) (g := none) rfl
      refine wpOp_lit ho (fun j b h => by cases h) ?_
      clear hops hdep ho
      replace h0 := hidH h0
      replace h1 := hidH h1
      replace h2 := hidH h2
      replace h3 := hidH h3
      replace h4 := hidH h4
      replace h6 := hidH h6
      have hb := bal (Below.refl W.heap.size W) (.cells #[.int .i64 0, .int .i64 0, .int .i64 0, .slice none 0 0, .slice none 0 0, .slice none 0 0, .bool false] 51)
      have KG := hidH (Blk.new W 51 #[.int .i64 0, .int .i64 0, .int .i64 0, .slice none 0 0, .slice none 0 0, .slice none 0 0, .bool false])
      have hG0 := hO.size
      go_wp2
      exact (HJ.out _ _ _).2 ⟨_, _, _, _, _, _, rfl, fun _ => rfl, hE4, ⟨hA.1, hA.2.below hb⟩, ⟨hB.1, hB.2.below hb⟩, btr hO hb, h0.out, fun h h6 => by obtain ⟨vs, e, q⟩ := h1.out h h6; exact ⟨vs, e, RdA.below hb q⟩, h2.out, fun h h6 => by obtain ⟨vs, e, q⟩ := h3.out h h6; exact ⟨vs, e, RdA.below hb q⟩, fun h h6 => by obtain ⟨lo, hi, R_3, r_3, R_4, r_4, R_5, r_5, e, q, q1, q2, q3⟩ := h4.out h h6; exact ⟨lo, hi, R_3, r_3, R_4, r_4, R_5, r_5, e, q.below hb, q1, Nat.le_trans q2 hb.size, fun _ g e2 => .inr (by injection e2 with e2; injection e2 with e2; injection e2 with e2; omega)⟩, fun _ => fun _ => ⟨_, rfl, KG.out, hG0⟩, (fun h => by have h3 : dn 5 = true := hE5 h; rw [hdn] at h3; cases h3)⟩
    | 6, _ =>
      obtain ⟨ty, ps, af, ho⟩ := op_lit hops (i := 6) (op := Op.store 51 (Operand.tmp 6) (Operand.tmp 28)) (dst := none) (g := none) rfl
      have hd5 := hidH (hdep 5 (by simp))
      have hd4 := hidH (hdep 4 (by simp))
      obtain ⟨lo, hi, R_3, r_3, R_4, r_4, R_5, r_5, rfl, o4, hlo, hhi0, hgo⟩ := h4 (hdep 4 (by simp)) hdn
      obtain ⟨g, rfl, kg, hgw⟩ := h5 (hdep 5 (by simp)) hdn
      replace hgo : hi ≤ g ∨ g + 1 ≤ lo := by rcases hgo hd5.out g rfl with h | h <;> omega
      refine wpOp_lit ho (fun j b h => by cases h) ?_
      clear hops hdep ho
      replace h0 := hidH h0
      replace h1 := hidH h1
      replace h2 := hidH h2
      replace h3 := hidH h3
      replace h4 := hidH h4
      replace h5 := hidH h5
      have y0 := kg.cell 0
      have v0 := kg.frozen 0
      have y1 := kg.cell 1
      have v1 := kg.frozen 1
      have y2 := kg.cell 2
      have v2 := kg.frozen 2
      have y3 := kg.cell 3
      have v3 := kg.frozen 3
      have y4 := kg.cell 4
      have v4 := kg.frozen 4
      have y5 := kg.cell 5
      have v5 := kg.frozen 5
      have y6 := kg.cell 6
      have v6 := kg.frozen 6
      simp only [List.getElem?_toArray, List.getElem?_cons_succ, List.getElem?_cons_zero] at y0 y1 y2 y3 y4 y5 y6
      have hlt := kg.lt
      have KS := hidH (show Blk ((((((((W).setCell ⟨g, 0, none⟩ (.int .i64 z.Code)).setCell ⟨g, 1, none⟩ (.int .i64 z.Send_Next)).setCell ⟨g, 2, none⟩ (.int .i64 z.Send_Acked)).setCell ⟨g, 3, none⟩ (.slice R_3 z.Send_Seqs.length r_3)).setCell ⟨g, 4, none⟩ (.slice R_4 z.Send_Items.length r_4)).setCell ⟨g, 5, none⟩ (.slice R_5 z.Datas.length r_5)).setCell ⟨g, 6, none⟩ (.bool z.Old)) g 51 #[.int .i64 z.Code, .int .i64 z.Send_Next, .int .i64 z.Send_Acked, .slice R_3 z.Send_Seqs.length r_3, .slice R_4 z.Send_Items.length r_4, .slice R_5 z.Datas.length r_5, .bool z.Old] from (((((((kg).put 0 (.int .i64 z.Code)).put 1 (.int .i64 z.Send_Next)).put 2 (.int .i64 z.Send_Acked)).put 3 (.slice R_3 z.Send_Seqs.length r_3)).put 4 (.slice R_4 z.Send_Items.length r_4)).put 5 (.slice R_5 z.Datas.length r_5)).put 6 (.bool z.Old))
      have OO := hidH ((((((((o4).win (set_win _ g 0 (.int .i64 z.Code)) hgo).win (set_win _ g 1 (.int .i64 z.Send_Next)) hgo).win (set_win _ g 2 (.int .i64 z.Send_Acked)) hgo).win (set_win _ g 3 (.slice R_3 z.Send_Seqs.length r_3)) hgo).win (set_win _ g 4 (.slice R_4 z.Send_Items.length r_4)) hgo).win (set_win _ g 5 (.slice R_5 z.Datas.length r_5)) hgo).win (set_win _ g 6 (.bool z.Old)) hgo)
      have hhi := hidH (show hi ≤ ((((((((W).setCell ⟨g, 0, none⟩ (.int .i64 z.Code)).setCell ⟨g, 1, none⟩ (.int .i64 z.Send_Next)).setCell ⟨g, 2, none⟩ (.int .i64 z.Send_Acked)).setCell ⟨g, 3, none⟩ (.slice R_3 z.Send_Seqs.length r_3)).setCell ⟨g, 4, none⟩ (.slice R_4 z.Send_Items.length r_4)).setCell ⟨g, 5, none⟩ (.slice R_5 z.Datas.length r_5)).setCell ⟨g, 6, none⟩ (.bool z.Old)).heap.size by simpa [World.setCell] using hhi0)
      have WZ := hidH ((((((((set_win W g 0 (.int .i64 z.Code)).trans (set_win _ g 1 (.int .i64 z.Send_Next))).trans (set_win _ g 2 (.int .i64 z.Send_Acked))).trans (set_win _ g 3 (.slice R_3 z.Send_Seqs.length r_3))).trans (set_win _ g 4 (.slice R_4 z.Send_Items.length r_4))).trans (set_win _ g 5 (.slice R_5 z.Datas.length r_5))).trans (set_win _ g 6 (.bool z.Old))))
      clear kg o4 hgo
      go_wp2
      exact (HJ.out _ _ _).2 ⟨_, _, _, _, _, _, rfl, fun _ => hd5.out, fun _ => hd4.out, ⟨hA.1, hA.2.win2 WZ.out (.inl (by have := hA.1; omega))⟩, ⟨hB.1, hB.2.win2 WZ.out (.inl (by have := hB.1; omega))⟩, (bst (bst (bst (bst (bst (bst (bst (hO) hgw _) hgw _) hgw _) hgw _) hgw _) hgw _) hgw _), h0.out, (fun _ h2 => by simp at h2), h2.out, (fun _ h2 => by simp at h2), (fun _ h2 => by simp at h2), (fun _ h2 => by simp at h2), fun _ => ⟨g, lo, hi, R_3, r_3, R_4, r_4, R_5, r_5, rfl, KS.out, OO.out, hlo, hhi.out⟩⟩
    | n + 7, h => omega
  case fin =>
    clear hops hdeps hback
    rintro dn ac W hJ hall
    obtain ⟨t24, t25, t26, t27, t28, t6, rfl, hE5, hE4, hA, hB, hO, h0, h1, h2, h3, h4, h5, h6⟩ := (HJ.out _ _ _).1 hJ
    exact fin _ _ _ _ _ _ W hO (h6 (hall 6 (by omega)))
set_option maxRecDepth 100000 in
set_option maxHeartbeats 2000000 in
theorem regFnExactTakeSackb {Q : Exit → Act → World → Prop} (x0 x1 x4 x5 x6 x7 x8 x9 x10 x11 x12 x14 x15 x16 x17 x18 x19 x20 x21 x22 x23 x24 x25 x26 x27 x28 x29 x30 x31 x32 x33 x34 x35 x36 x37 x38 x39 x40 x41 x42 x43 x44 x45 x46 x47 x48 x49 x50 x51 x52 x53 x54 x55 x56 x57 x58 x59 x60 x61 x62 x63 x64 x65 x66 x67 x68 x69 x70 x71 x72 x73 x74 : Value) (ww : World) (b0 b1 : Nat) (y0 : SendM) (y1 : SackM) (A_2 : Option Addr) (c_2 : Nat) (A_3 : Option Addr) (c_3 : Nat) (B_1 : Option Addr) (d_1 : Nat) (z : SendResultM)
    (TO0 : ∀ u : World, Below ww.heap.size ww u → Calls Try.prog 37 #[.agg #[.int .i64 y0.Next, .int .i64 y0.Acked, .slice A_2 y0.Seqs.length c_2, .slice A_3 y0.Items.length c_3]] u (Res u y0.vs)) (TO1 : ∀ u : World, Below ww.heap.size ww u → Calls Try.prog 50 #[.agg #[.int .i64 y1.Cum, .slice B_1 y1.Gaps.length d_1]] u (Res u y1.vs))
    (FN : ∀ (u : World) (v0 v1 : List Value), RdA u y0.vs v0 → RdA u y1.vs v1 → Calls Try.prog 20 #[.agg v0.toArray, .agg v1.toArray] u (Res u z.vs)) {ops : Array Oper}
    (hops : (ops.map fun o => (o.op, o.dst, o.guard)) = #[(Op.load 73 (Operand.tmp 2), some 75, none), (Op.call { callee := Callee.value (Operand.func 37), args := #[(Operand.tmp 75)], argTypes := #[73] }, some 76, none), (Op.load 91 (Operand.tmp 3), some 77, none), (Op.call { callee := Callee.value (Operand.func 50), args := #[(Operand.tmp 77)], argTypes := #[91] }, some 78, none), (Op.call { callee := Callee.value (Operand.func 20), args := #[(Operand.tmp 76), (Operand.tmp 78)], argTypes := #[47, 31] }, some 79, none), (Op.alloc 51, some 13, none), (Op.store 51 (Operand.tmp 13) (Operand.tmp 79), none, none)])
    (hdeps : ((List.range 7).all fun i => ((fun i => [[], [0], [], [1, 2], [1, 3], [], [4, 5]].getD i []) i).all fun j => ((ops[i]?).map fun o => o.after.any fun e => Region.binds .any e && e.on == j).getD false) = true)
    (hback : ((List.range 7).all fun i => ((ops[i]?).map fun o => o.after.all fun e => decide (e.on < i)).getD false) = true)
    {a0 : Act} {w0 : World} (ha : a0 = { tmps := #[x0, x1, .pointer (some ⟨b0, 0, none⟩), .pointer (some ⟨b1, 0, none⟩), x4, x5, x6, x7, x8, x9, x10, x11, x12, undef, x14, x15, x16, x17, x18, x19, x20, x21, x22, x23, x24, x25, x26, x27, x28, x29, x30, x31, x32, x33, x34, x35, x36, x37, x38, x39, x40, x41, x42, x43, x44, x45, x46, x47, x48, x49, x50, x51, x52, x53, x54, x55, x56, x57, x58, x59, x60, x61, x62, x63, x64, x65, x66, x67, x68, x69, x70, x71, x72, x73, x74, undef, undef, undef, undef, undef, undef, undef, undef, undef, undef, undef, undef, undef, undef, undef, undef, undef], defers := [] }) (hE5 : false = true → false = true) (hE4 : false = true → false = true) (hA : b0 < ww.heap.size ∧ Blk w0 b0 73 #[.int .i64 y0.Next, .int .i64 y0.Acked, .slice A_2 y0.Seqs.length c_2, .slice A_3 y0.Items.length c_3]) (hB : b1 < ww.heap.size ∧ Blk w0 b1 91 #[.int .i64 y1.Cum, .slice B_1 y1.Gaps.length d_1]) (hO : Below ww.heap.size ww w0)
    (fin : ∀ t75 t76 t77 t78 t79 t13 (W : World), (Below ww.heap.size ww W) → (∃ (g lo hi : Nat) (R_3 : Option Addr) (r_3 : Nat) (R_4 : Option Addr) (r_4 : Nat) (R_5 : Option Addr) (r_5 : Nat), t13 = .pointer (some ⟨g, 0, none⟩) ∧ Blk W g 51 #[.int .i64 z.Code, .int .i64 z.Send_Next, .int .i64 z.Send_Acked, .slice R_3 z.Send_Seqs.length r_3, .slice R_4 z.Send_Items.length r_4, .slice R_5 z.Datas.length r_5, .bool z.Old] ∧ OwN lo hi W z.vs [.int .i64 z.Code, .int .i64 z.Send_Next, .int .i64 z.Send_Acked, .slice R_3 z.Send_Seqs.length r_3, .slice R_4 z.Send_Items.length r_4, .slice R_5 z.Datas.length r_5, .bool z.Old] ∧ ww.heap.size ≤ lo ∧ hi ≤ W.heap.size) → Q .normal { tmps := #[x0, x1, .pointer (some ⟨b0, 0, none⟩), .pointer (some ⟨b1, 0, none⟩), x4, x5, x6, x7, x8, x9, x10, x11, x12, t13, x14, x15, x16, x17, x18, x19, x20, x21, x22, x23, x24, x25, x26, x27, x28, x29, x30, x31, x32, x33, x34, x35, x36, x37, x38, x39, x40, x41, x42, x43, x44, x45, x46, x47, x48, x49, x50, x51, x52, x53, x54, x55, x56, x57, x58, x59, x60, x61, x62, x63, x64, x65, x66, x67, x68, x69, x70, x71, x72, x73, x74, t75, t76, t77, t78, t79, undef, undef, undef, undef, undef, undef, undef, undef, undef, undef, undef, undef], defers := [] } W) :
    wpAny Try.prog .any ops Q ops.size (Array.replicate ops.size false) a0 w0 := by
  have hn : ops.size = 7 := by have := congrArg Array.size hops; simpa using this
  obtain ⟨J, HJ⟩ : ∃ J : (Nat → Bool) → Act → World → Prop, ∀ dn ac W, J dn ac W ↔ (fun dn ac W => ∃ t75 t76 t77 t78 t79 t13, ac = { tmps := #[x0, x1, .pointer (some ⟨b0, 0, none⟩), .pointer (some ⟨b1, 0, none⟩), x4, x5, x6, x7, x8, x9, x10, x11, x12, t13, x14, x15, x16, x17, x18, x19, x20, x21, x22, x23, x24, x25, x26, x27, x28, x29, x30, x31, x32, x33, x34, x35, x36, x37, x38, x39, x40, x41, x42, x43, x44, x45, x46, x47, x48, x49, x50, x51, x52, x53, x54, x55, x56, x57, x58, x59, x60, x61, x62, x63, x64, x65, x66, x67, x68, x69, x70, x71, x72, x73, x74, t75, t76, t77, t78, t79, undef, undef, undef, undef, undef, undef, undef, undef, undef, undef, undef, undef], defers := [] } ∧ (dn 6 = true → dn 5 = true) ∧ (dn 6 = true → dn 4 = true) ∧ (b0 < ww.heap.size ∧ Blk W b0 73 #[.int .i64 y0.Next, .int .i64 y0.Acked, .slice A_2 y0.Seqs.length c_2, .slice A_3 y0.Items.length c_3]) ∧ (b1 < ww.heap.size ∧ Blk W b1 91 #[.int .i64 y1.Cum, .slice B_1 y1.Gaps.length d_1]) ∧ (Below ww.heap.size ww W) ∧ (dn 0 = true → t75 = .agg #[.int .i64 y0.Next, .int .i64 y0.Acked, .slice A_2 y0.Seqs.length c_2, .slice A_3 y0.Items.length c_3]) ∧ (dn 1 = true → dn 6 = false → ∃ vs : List Value, t76 = .agg vs.toArray ∧ RdA W y0.vs vs) ∧ (dn 2 = true → t77 = .agg #[.int .i64 y1.Cum, .slice B_1 y1.Gaps.length d_1]) ∧ (dn 3 = true → dn 6 = false → ∃ vs : List Value, t78 = .agg vs.toArray ∧ RdA W y1.vs vs) ∧ (dn 4 = true → dn 6 = false → ∃ (lo hi : Nat) (R_3 : Option Addr) (r_3 : Nat) (R_4 : Option Addr) (r_4 : Nat) (R_5 : Option Addr) (r_5 : Nat), t79 = .agg #[.int .i64 z.Code, .int .i64 z.Send_Next, .int .i64 z.Send_Acked, .slice R_3 z.Send_Seqs.length r_3, .slice R_4 z.Send_Items.length r_4, .slice R_5 z.Datas.length r_5, .bool z.Old] ∧ OwN lo hi W z.vs [.int .i64 z.Code, .int .i64 z.Send_Next, .int .i64 z.Send_Acked, .slice R_3 z.Send_Seqs.length r_3, .slice R_4 z.Send_Items.length r_4, .slice R_5 z.Datas.length r_5, .bool z.Old] ∧ ww.heap.size ≤ lo ∧ hi ≤ W.heap.size ∧ (dn 5 = true → ∀ g : Nat, t13 = .pointer (some ⟨g, 0, none⟩) → g < lo ∨ hi ≤ g)) ∧ (dn 5 = true → dn 6 = false → ∃ g : Nat, t13 = .pointer (some ⟨g, 0, none⟩) ∧ Blk W g 51 #[.int .i64 0, .int .i64 0, .int .i64 0, .slice none 0 0, .slice none 0 0, .slice none 0 0, .bool false] ∧ ww.heap.size ≤ g) ∧ (dn 6 = true → ∃ (g lo hi : Nat) (R_3 : Option Addr) (r_3 : Nat) (R_4 : Option Addr) (r_4 : Nat) (R_5 : Option Addr) (r_5 : Nat), t13 = .pointer (some ⟨g, 0, none⟩) ∧ Blk W g 51 #[.int .i64 z.Code, .int .i64 z.Send_Next, .int .i64 z.Send_Acked, .slice R_3 z.Send_Seqs.length r_3, .slice R_4 z.Send_Items.length r_4, .slice R_5 z.Datas.length r_5, .bool z.Old] ∧ OwN lo hi W z.vs [.int .i64 z.Code, .int .i64 z.Send_Next, .int .i64 z.Send_Acked, .slice R_3 z.Send_Seqs.length r_3, .slice R_4 z.Send_Items.length r_4, .slice R_5 z.Datas.length r_5, .bool z.Old] ∧ ww.heap.size ≤ lo ∧ hi ≤ W.heap.size)) dn ac W := ⟨_, fun _ _ _ => Iff.rfl⟩
  replace HJ := hidH HJ
  refine region_inv 7 (fun i => [[], [0], [], [1, 2], [1, 3], [], [4, 5]].getD i []) J hn hdeps hback ?start ?step ?fin
  case start => exact (HJ.out _ _ _).2 ⟨undef, undef, undef, undef, undef, undef, ha, hE5, hE4, hA, hB, hO, fun h => by simp at h, fun h => by simp at h, fun h => by simp at h, fun h => by simp at h, fun h => by simp at h, fun h => by simp at h, fun h => by simp at h⟩
  all_goals clear ha hE5 hE4 hA hB hO
  case step =>
    clear fin hdeps hback
    intro i hi dn ac W hJ hdn hdep
    obtain ⟨t75, t76, t77, t78, t79, t13, rfl, hE5, hE4, hA, hB, hO, h0, h1, h2, h3, h4, h5, h6⟩ := (HJ.out _ _ _).1 hJ
    clear hJ
    match i, hi with
    | 0, _ =>
      obtain ⟨ty, ps, af, ho⟩ := op_lit hops (i := 0) (op := Op.load 73 (Operand.tmp 2)) (dst := some 75) (g := none) rfl
      refine wpOp_lit ho (fun j b h => by cases h) ?_
      clear hops hdep ho
      replace h1 := hidH h1
      replace h2 := hidH h2
      replace h3 := hidH h3
      replace h4 := hidH h4
      replace h5 := hidH h5
      replace h6 := hidH h6
      have hb := Below.refl W.heap.size W
      have q0 := hA.2.cell 0
      have q1 := hA.2.cell 1
      have q2 := hA.2.cell 2
      have q3 := hA.2.cell 3
      simp only [List.getElem?_toArray, List.getElem?_cons_succ, List.getElem?_cons_zero] at q0 q1 q2 q3
      have gq := hA.2.lt
      go_wp2
      exact (HJ.out _ _ _).2 ⟨_, _, _, _, _, _, rfl, hE5, hE4, ⟨hA.1, hA.2.below hb⟩, ⟨hB.1, hB.2.below hb⟩, btr hO hb, fun _ => rfl, fun h h6 => by obtain ⟨vs, e, q⟩ := h1.out h h6; exact ⟨vs, e, RdA.below hb q⟩, h2.out, fun h h6 => by obtain ⟨vs, e, q⟩ := h3.out h h6; exact ⟨vs, e, RdA.below hb q⟩, fun h h6 => by obtain ⟨lo, hi, R_3, r_3, R_4, r_4, R_5, r_5, e, q, q1, q2, q3⟩ := h4.out h h6; exact ⟨lo, hi, R_3, r_3, R_4, r_4, R_5, r_5, e, q.below hb, q1, Nat.le_trans q2 hb.size, q3⟩, (fun h h2 => by obtain ⟨g, q1, q2, q3⟩ := h5.out h h2; exact ⟨g, q1, q2.below hb, q3⟩), fun h => by obtain ⟨g, lo, hi, R_3, r_3, R_4, r_4, R_5, r_5, e, k, q, q1, q2⟩ := h6.out h; exact ⟨g, lo, hi, R_3, r_3, R_4, r_4, R_5, r_5, e, k.below hb, q.below hb, q1, Nat.le_trans q2 hb.size⟩⟩
    | 1, _ =>
      obtain ⟨ty, ps, af, ho⟩ := op_lit hops (i := 1) (op := Op.call { callee := Callee.value (Operand.func 37), args := #[(Operand.tmp 75)], argTypes := #[73] }) (dst := some 76) (g := none) rfl
      obtain rfl := h0 (hdep 0 (by simp))
      refine wpOp_lit ho (fun j b h => by cases h) ?_
      clear hops hdep ho
      replace h0 := hidH h0
      replace h2 := hidH h2
      replace h3 := hidH h3
      replace h4 := hidH h4
      replace h5 := hidH h5
      replace h6 := hidH h6
      go_wp2_with fail
      refine (TO0 _ hO).mono ?_
      rintro e w9 ⟨vs9, rfl, o9, hb⟩
      have Q1 := hidH o9.rd
      clear o9
      go_wp2
      exact (HJ.out _ _ _).2 ⟨_, _, _, _, _, _, rfl, hE5, hE4, ⟨hA.1, hA.2.below hb⟩, ⟨hB.1, hB.2.below hb⟩, btr hO hb, fun _ => rfl, fun _ => fun _ => ⟨_, rfl, Q1.out⟩, h2.out, fun h h6 => by obtain ⟨vs, e, q⟩ := h3.out h h6; exact ⟨vs, e, RdA.below hb q⟩, fun h h6 => by obtain ⟨lo, hi, R_3, r_3, R_4, r_4, R_5, r_5, e, q, q1, q2, q3⟩ := h4.out h h6; exact ⟨lo, hi, R_3, r_3, R_4, r_4, R_5, r_5, e, q.below hb, q1, Nat.le_trans q2 hb.size, q3⟩, (fun h h2 => by obtain ⟨g, q1, q2, q3⟩ := h5.out h h2; exact ⟨g, q1, q2.below hb, q3⟩), fun h => by obtain ⟨g, lo, hi, R_3, r_3, R_4, r_4, R_5, r_5, e, k, q, q1, q2⟩ := h6.out h; exact ⟨g, lo, hi, R_3, r_3, R_4, r_4, R_5, r_5, e, k.below hb, q.below hb, q1, Nat.le_trans q2 hb.size⟩⟩
    | 2, _ =>
      obtain ⟨ty, ps, af, ho⟩ := op_lit hops (i := 2) (op := Op.load 91 (Operand.tmp 3)) (dst := some 77) (g := none) rfl
      refine wpOp_lit ho (fun j b h => by cases h) ?_
      clear hops hdep ho
      replace h0 := hidH h0
      replace h1 := hidH h1
      replace h3 := hidH h3
      replace h4 := hidH h4
      replace h5 := hidH h5
      replace h6 := hidH h6
      have hb := Below.refl W.heap.size W
      have q0 := hB.2.cell 0
      have q1 := hB.2.cell 1
      simp only [List.getElem?_toArray, List.getElem?_cons_succ, List.getElem?_cons_zero] at q0 q1
      have gq := hB.2.lt
      go_wp2
      exact (HJ.out _ _ _).2 ⟨_, _, _, _, _, _, rfl, hE5, hE4, ⟨hA.1, hA.2.below hb⟩, ⟨hB.1, hB.2.below hb⟩, btr hO hb, h0.out, fun h h6 => by obtain ⟨vs, e, q⟩ := h1.out h h6; exact ⟨vs, e, RdA.below hb q⟩, fun _ => rfl, fun h h6 => by obtain ⟨vs, e, q⟩ := h3.out h h6; exact ⟨vs, e, RdA.below hb q⟩, fun h h6 => by obtain ⟨lo, hi, R_3, r_3, R_4, r_4, R_5, r_5, e, q, q1, q2, q3⟩ := h4.out h h6; exact ⟨lo, hi, R_3, r_3, R_4, r_4, R_5, r_5, e, q.below hb, q1, Nat.le_trans q2 hb.size, q3⟩, (fun h h2 => by obtain ⟨g, q1, q2, q3⟩ := h5.out h h2; exact ⟨g, q1, q2.below hb, q3⟩), fun h => by obtain ⟨g, lo, hi, R_3, r_3, R_4, r_4, R_5, r_5, e, k, q, q1, q2⟩ := h6.out h; exact ⟨g, lo, hi, R_3, r_3, R_4, r_4, R_5, r_5, e, k.below hb, q.below hb, q1, Nat.le_trans q2 hb.size⟩⟩
    | 3, _ =>
      obtain ⟨ty, ps, af, ho⟩ := op_lit hops (i := 3) (op := Op.call { callee := Callee.value (Operand.func 50), args := #[(Operand.tmp 77)], argTypes := #[91] }) (dst := some 78) (g := none) rfl
      obtain rfl := h2 (hdep 2 (by simp))
      refine wpOp_lit ho (fun j b h => by cases h) ?_
      clear hops hdep ho
      replace h0 := hidH h0
      replace h1 := hidH h1
      replace h2 := hidH h2
      replace h4 := hidH h4
      replace h5 := hidH h5
      replace h6 := hidH h6
      go_wp2_with fail
      refine (TO1 _ hO).mono ?_
      rintro e w9 ⟨vs9, rfl, o9, hb⟩
      have Q3 := hidH o9.rd
      clear o9
      go_wp2
      exact (HJ.out _ _ _).2 ⟨_, _, _, _, _, _, rfl, hE5, hE4, ⟨hA.1, hA.2.below hb⟩, ⟨hB.1, hB.2.below hb⟩, btr hO hb, h0.out, fun h h6 => by obtain ⟨vs, e, q⟩ := h1.out h h6; exact ⟨vs, e, RdA.below hb q⟩, fun _ => rfl, fun _ => fun _ => ⟨_, rfl, Q3.out⟩, fun h h6 => by obtain ⟨lo, hi, R_3, r_3, R_4, r_4, R_5, r_5, e, q, q1, q2, q3⟩ := h4.out h h6; exact ⟨lo, hi, R_3, r_3, R_4, r_4, R_5, r_5, e, q.below hb, q1, Nat.le_trans q2 hb.size, q3⟩, (fun h h2 => by obtain ⟨g, q1, q2, q3⟩ := h5.out h h2; exact ⟨g, q1, q2.below hb, q3⟩), fun h => by obtain ⟨g, lo, hi, R_3, r_3, R_4, r_4, R_5, r_5, e, k, q, q1, q2⟩ := h6.out h; exact ⟨g, lo, hi, R_3, r_3, R_4, r_4, R_5, r_5, e, k.below hb, q.below hb, q1, Nat.le_trans q2 hb.size⟩⟩
    | 4, _ =>
      obtain ⟨ty, ps, af, ho⟩ := op_lit hops (i := 4) (op := Op.call { callee := Callee.value (Operand.func 20), args := #[(Operand.tmp 76), (Operand.tmp 78)], argTypes := #[47, 31] }) (dst := some 79) (g := none) rfl
      have z6 : dn 6 = false := by
              cases h : dn 6 with
              | false => rfl
              | true => have h3 : dn 4 = true := hE4 h; rw [hdn] at h3; cases h3
      have z5 := fun (hd : dn 5 = true) (g : Nat) (e : t13 = .pointer (some ⟨g, 0, none⟩)) => show g < W.heap.size from by
              obtain ⟨g2, e2, k2, _⟩ := h5 hd z6
              rw [e2] at e
              injection e with e; injection e with e; injection e with e
              rw [← e]; exact k2.lt
      replace z5 := hidH z5
      obtain ⟨vs1, rfl, q1⟩ := h1 (hdep 1 (by simp)) z6
      obtain ⟨vs3, rfl, q3⟩ := h3 (hdep 3 (by simp)) z6
      refine wpOp_lit ho (fun j b h => by cases h) ?_
      clear hops hdep ho
      replace h0 := hidH h0
      replace h1 := hidH h1
      replace h2 := hidH h2
      replace h3 := hidH h3
      replace h5 := hidH h5
      replace h6 := hidH h6
      go_wp2_with fail
      refine (FN _ _ _ q1 q3).mono ?_
      rintro e w9 ⟨vs9, rfl, o9, hb⟩
      obtain ⟨R_3, r_3, R_4, r_4, R_5, r_5, rfl⟩ := shape_SendResult o9.rd
      have Q4 := hidH o9
      have HL5 := hidH (fun (hd : dn 5 = true) (g : Nat) (e : t13 = .pointer (some ⟨g, 0, none⟩)) => show g < W.heap.size ∨ w9.heap.size ≤ g from .inl (z5.out hd g e))
      clear o9
      go_wp2
      exact (HJ.out _ _ _).2 ⟨_, _, _, _, _, _, rfl, hE5, fun _ => rfl, ⟨hA.1, hA.2.below hb⟩, ⟨hB.1, hB.2.below hb⟩, btr hO hb, h0.out, fun h h6 => by obtain ⟨vs, e, q⟩ := h1.out h h6; exact ⟨vs, e, RdA.below hb q⟩, h2.out, fun h h6 => by obtain ⟨vs, e, q⟩ := h3.out h h6; exact ⟨vs, e, RdA.below hb q⟩, fun _ => fun h6 => ⟨_, _, _, _, _, _, _, _, rfl, Q4.out, hO.size, Nat.le_refl _, HL5.out⟩, (fun h h2 => by obtain ⟨g, q1, q2, q3⟩ := h5.out h h2; exact ⟨g, q1, q2.below hb, q3⟩), (fun h => by have h3 : dn 4 = true := hE4 h; rw [hdn] at h3; cases h3)⟩
    | 5, _ =>
      obtain ⟨ty, ps, af, ho⟩ := op_lit hops (i := 5) (op := Op.alloc 51) (dst := some 13) (g := none) rfl
      refine wpOp_lit ho (fun j b h => by cases h) ?_
      clear hops hdep ho
      replace h0 := hidH h0
      replace h1 := hidH h1
      replace h2 := hidH h2
      replace h3 := hidH h3
      replace h4 := hidH h4
      replace h6 := hidH h6
      have hb := bal (Below.refl W.heap.size W) (.cells #[.int .i64 0, .int .i64 0, .int .i64 0, .slice none 0 0, .slice none 0 0, .slice none 0 0, .bool false] 51)
      have KG := hidH (Blk.new W 51 #[.int .i64 0, .int .i64 0, .int .i64 0, .slice none 0 0, .slice none 0 0, .slice none 0 0, .bool false])
      have hG0 := hO.size
      go_wp2
      exact (HJ.out _ _ _).2 ⟨_, _, _, _, _, _, rfl, fun _ => rfl, hE4, ⟨hA.1, hA.2.below hb⟩, ⟨hB.1, hB.2.below hb⟩, btr hO hb, h0.out, fun h h6 => by obtain ⟨vs, e, q⟩ := h1.out h h6; exact ⟨vs, e, RdA.below hb q⟩, h2.out, fun h h6 => by obtain ⟨vs, e, q⟩ := h3.out h h6; exact ⟨vs, e, RdA.below hb q⟩, fun h h6 => by obtain ⟨lo, hi, R_3, r_3, R_4, r_4, R_5, r_5, e, q, q1, q2, q3⟩ := h4.out h h6; exact ⟨lo, hi, R_3, r_3, R_4, r_4, R_5, r_5, e, q.below hb, q1, Nat.le_trans q2 hb.size, fun _ g e2 => .inr (by injection e2 with e2; injection e2 with e2; injection e2 with e2; omega)⟩, fun _ => fun _ => ⟨_, rfl, KG.out, hG0⟩, (fun h => by have h3 : dn 5 = true := hE5 h; rw [hdn] at h3; cases h3)⟩
    | 6, _ =>
      obtain ⟨ty, ps, af, ho⟩ := op_lit hops (i := 6) (op := Op.store 51 (Operand.tmp 13) (Operand.tmp 79)) (dst := none) (g := none) rfl
      have hd5 := hidH (hdep 5 (by simp))
      have hd4 := hidH (hdep 4 (by simp))
      obtain ⟨lo, hi, R_3, r_3, R_4, r_4, R_5, r_5, rfl, o4, hlo, hhi0, hgo⟩ := h4 (hdep 4 (by simp)) hdn
      obtain ⟨g, rfl, kg, hgw⟩ := h5 (hdep 5 (by simp)) hdn
      replace hgo : hi ≤ g ∨ g + 1 ≤ lo := by rcases hgo hd5.out g rfl with h | h <;> omega
      refine wpOp_lit ho (fun j b h => by cases h) ?_
      clear hops hdep ho
      replace h0 := hidH h0
      replace h1 := hidH h1
      replace h2 := hidH h2
      replace h3 := hidH h3
      replace h4 := hidH h4
      replace h5 := hidH h5
      have y0 := kg.cell 0
      have v0 := kg.frozen 0
      have y1 := kg.cell 1
      have v1 := kg.frozen 1
      have y2 := kg.cell 2
      have v2 := kg.frozen 2
      have y3 := kg.cell 3
      have v3 := kg.frozen 3
      have y4 := kg.cell 4
      have v4 := kg.frozen 4
      have y5 := kg.cell 5
      have v5 := kg.frozen 5
      have y6 := kg.cell 6
      have v6 := kg.frozen 6
      simp only [List.getElem?_toArray, List.getElem?_cons_succ, List.getElem?_cons_zero] at y0 y1 y2 y3 y4 y5 y6
      have hlt := kg.lt
      have KS := hidH (show Blk ((((((((W).setCell ⟨g, 0, none⟩ (.int .i64 z.Code)).setCell ⟨g, 1, none⟩ (.int .i64 z.Send_Next)).setCell ⟨g, 2, none⟩ (.int .i64 z.Send_Acked)).setCell ⟨g, 3, none⟩ (.slice R_3 z.Send_Seqs.length r_3)).setCell ⟨g, 4, none⟩ (.slice R_4 z.Send_Items.length r_4)).setCell ⟨g, 5, none⟩ (.slice R_5 z.Datas.length r_5)).setCell ⟨g, 6, none⟩ (.bool z.Old)) g 51 #[.int .i64 z.Code, .int .i64 z.Send_Next, .int .i64 z.Send_Acked, .slice R_3 z.Send_Seqs.length r_3, .slice R_4 z.Send_Items.length r_4, .slice R_5 z.Datas.length r_5, .bool z.Old] from (((((((kg).put 0 (.int .i64 z.Code)).put 1 (.int .i64 z.Send_Next)).put 2 (.int .i64 z.Send_Acked)).put 3 (.slice R_3 z.Send_Seqs.length r_3)).put 4 (.slice R_4 z.Send_Items.length r_4)).put 5 (.slice R_5 z.Datas.length r_5)).put 6 (.bool z.Old))
      have OO := hidH ((((((((o4).win (set_win _ g 0 (.int .i64 z.Code)) hgo).win (set_win _ g 1 (.int .i64 z.Send_Next)) hgo).win (set_win _ g 2 (.int .i64 z.Send_Acked)) hgo).win (set_win _ g 3 (.slice R_3 z.Send_Seqs.length r_3)) hgo).win (set_win _ g 4 (.slice R_4 z.Send_Items.length r_4)) hgo).win (set_win _ g 5 (.slice R_5 z.Datas.length r_5)) hgo).win (set_win _ g 6 (.bool z.Old)) hgo)
      have hhi := hidH (show hi ≤ ((((((((W).setCell ⟨g, 0, none⟩ (.int .i64 z.Code)).setCell ⟨g, 1, none⟩ (.int .i64 z.Send_Next)).setCell ⟨g, 2, none⟩ (.int .i64 z.Send_Acked)).setCell ⟨g, 3, none⟩ (.slice R_3 z.Send_Seqs.length r_3)).setCell ⟨g, 4, none⟩ (.slice R_4 z.Send_Items.length r_4)).setCell ⟨g, 5, none⟩ (.slice R_5 z.Datas.length r_5)).setCell ⟨g, 6, none⟩ (.bool z.Old)).heap.size by simpa [World.setCell] using hhi0)
      have WZ := hidH ((((((((set_win W g 0 (.int .i64 z.Code)).trans (set_win _ g 1 (.int .i64 z.Send_Next))).trans (set_win _ g 2 (.int .i64 z.Send_Acked))).trans (set_win _ g 3 (.slice R_3 z.Send_Seqs.length r_3))).trans (set_win _ g 4 (.slice R_4 z.Send_Items.length r_4))).trans (set_win _ g 5 (.slice R_5 z.Datas.length r_5))).trans (set_win _ g 6 (.bool z.Old))))
      clear kg o4 hgo
      go_wp2
      exact (HJ.out _ _ _).2 ⟨_, _, _, _, _, _, rfl, fun _ => hd5.out, fun _ => hd4.out, ⟨hA.1, hA.2.win2 WZ.out (.inl (by have := hA.1; omega))⟩, ⟨hB.1, hB.2.win2 WZ.out (.inl (by have := hB.1; omega))⟩, (bst (bst (bst (bst (bst (bst (bst (hO) hgw _) hgw _) hgw _) hgw _) hgw _) hgw _) hgw _), h0.out, (fun _ h2 => by simp at h2), h2.out, (fun _ h2 => by simp at h2), (fun _ h2 => by simp at h2), (fun _ h2 => by simp at h2), fun _ => ⟨g, lo, hi, R_3, r_3, R_4, r_4, R_5, r_5, rfl, KS.out, OO.out, hlo, hhi.out⟩⟩
    | n + 7, h => omega
  case fin =>
    clear hops hdeps hback
    rintro dn ac W hJ hall
    obtain ⟨t75, t76, t77, t78, t79, t13, rfl, hE5, hE4, hA, hB, hO, h0, h1, h2, h3, h4, h5, h6⟩ := (HJ.out _ _ _).1 hJ
    exact fin _ _ _ _ _ _ W hO (h6 (hall 6 (by omega)))
end Go.Proofs.Ythljdikcpdokdaa
