/- The regions of the program's copied and of the model's l10Copy that draw their order. -/
import Derived.Test.YthljdikcpdokdaaNa5
import Derived.Test.YthljdikcpdokdaaNa6
namespace Go.Proofs.Ythljdikcpdokdaa
open Go.RowKit Go.Deep

set_option maxRecDepth 100000 in
set_option maxHeartbeats 1000000 in
theorem regC10 {Q : Exit → Act → World → Prop} (x0 x2 : Value) (ww : World) (B k c : Nat) (nx ak : Int) (A : Option Addr) (l : List Int)
    (hBw : B ≤ ww.heap.size) (hkl : k < ww.heap.size) (hk0 : ww.cell? ⟨k, 0, none⟩ = some (.int .i64 nx)) (hk1 : ww.cell? ⟨k, 1, none⟩ = some (.int .i64 ak)) (hk2 : ww.cell? ⟨k, 2, none⟩ = some (.slice A l.length c))
    (CP : ∀ u : World, Below ww.heap.size ww u → Calls Try.prog 143 #[.slice A l.length c] u fun e w' => ∃ v, e = .returned v ∧ w'.ownsRow u.heap.size 2 1 v l.length (l.map (Value.int .i64)) ∧ Below u.heap.size u w') {ops : Array Oper}
    (hops : (ops.map fun o => (o.op, o.dst, o.guard)) = #[(Op.fieldAddr 47 (Operand.tmp 1) 0, some 6, none), (Op.load 2 (Operand.tmp 6), some 7, none), (Op.fieldAddr 47 (Operand.tmp 1) 1, some 8, none), (Op.load 2 (Operand.tmp 8), some 9, none), (Op.fieldAddr 47 (Operand.tmp 1) 2, some 10, none), (Op.load 24 (Operand.tmp 10), some 11, none), (Op.call { callee := Callee.value (Operand.func 143), args := #[(Operand.tmp 11)], argTypes := #[24] }, some 12, none), (Op.build 47 #[(0, (Operand.tmp 7)), (1, (Operand.tmp 9)), (2, (Operand.tmp 12))], some 13, none), (Op.alloc 47, some 3, none), (Op.store 47 (Operand.tmp 3) (Operand.tmp 13), none, none)])
    (hdeps : ((List.range 10).all fun i => ((fun i => [[], [0], [], [2], [], [4], [5], [1, 3, 6], [], [7, 8]].getD i []) i).all fun j => ((ops[i]?).map fun o => o.after.any fun e => Region.binds .any e && e.on == j).getD false) = true)
    (hback : ((List.range 10).all fun i => ((ops[i]?).map fun o => o.after.all fun e => decide (e.on < i)).getD false) = true)
    {a0 : Act} {w0 : World} (ha : a0 = { tmps := #[x0, .pointer (some ⟨k, 0, none⟩), x2, undef, undef, undef, undef, undef, undef, undef, undef, undef, undef, undef, undef, undef, undef, undef, undef, undef, undef, undef, undef, undef, undef, undef, undef, undef, undef, undef, undef, undef, undef], defers := [] }) (hE : false = true → false = true) (hO : Below ww.heap.size ww w0)
    (fin : ∀ t6 t7 t8 t9 t10 t11 t12 t13 t3 (W : World), (Below ww.heap.size ww W) → (∃ (g : Nat) (A9 : Option Addr) (c9 : Nat), t3 = .pointer (some ⟨g, 0, none⟩) ∧ Blk W g 47 #[.int .i64 nx, .int .i64 ak, (.slice A9 l.length c9), .slice none 0 0] ∧ W.ownsRow B 2 1 (.slice A9 l.length c9) l.length (l.map (Value.int .i64)) ∧ ww.heap.size ≤ g) → Q .normal { tmps := #[x0, .pointer (some ⟨k, 0, none⟩), x2, t3, undef, undef, t6, t7, t8, t9, t10, t11, t12, t13, undef, undef, undef, undef, undef, undef, undef, undef, undef, undef, undef, undef, undef, undef, undef, undef, undef, undef, undef], defers := [] } W) :
    wpAny Try.prog .any ops Q ops.size (Array.replicate ops.size false) a0 w0 := by
  have hn : ops.size = 10 := by have := congrArg Array.size hops; simpa using this
  obtain ⟨J, HJ⟩ : ∃ J : (Nat → Bool) → Act → World → Prop, ∀ dn ac W, J dn ac W ↔ (fun dn ac W => ∃ t6 t7 t8 t9 t10 t11 t12 t13 t3, ac = { tmps := #[x0, .pointer (some ⟨k, 0, none⟩), x2, t3, undef, undef, t6, t7, t8, t9, t10, t11, t12, t13, undef, undef, undef, undef, undef, undef, undef, undef, undef, undef, undef, undef, undef, undef, undef, undef, undef, undef, undef], defers := [] } ∧ (dn 9 = true → dn 8 = true) ∧ (Below ww.heap.size ww W) ∧ (dn 0 = true → t6 = .pointer (some ⟨k, 0, none⟩)) ∧ (dn 1 = true → t7 = .int .i64 nx) ∧ (dn 2 = true → t8 = .pointer (some ⟨k, 1, none⟩)) ∧ (dn 3 = true → t9 = .int .i64 ak) ∧ (dn 4 = true → t10 = .pointer (some ⟨k, 2, none⟩)) ∧ (dn 5 = true → t11 = .slice A l.length c) ∧ (dn 6 = true → ∃ (A9 : Option Addr) (c9 : Nat), t12 = (.slice A9 l.length c9) ∧ W.ownsRow B 2 1 (.slice A9 l.length c9) l.length (l.map (Value.int .i64))) ∧ (dn 7 = true → ∃ (A9 : Option Addr) (c9 : Nat), t13 = .agg #[.int .i64 nx, .int .i64 ak, (.slice A9 l.length c9), .slice none 0 0] ∧ W.ownsRow B 2 1 (.slice A9 l.length c9) l.length (l.map (Value.int .i64))) ∧ (dn 8 = true → dn 9 = false → ∃ g : Nat, t3 = .pointer (some ⟨g, 0, none⟩) ∧ Blk W g 47 #[.int .i64 0, .int .i64 0, .slice none 0 0, .slice none 0 0] ∧ ww.heap.size ≤ g) ∧ (dn 9 = true → ∃ (g : Nat) (A9 : Option Addr) (c9 : Nat), t3 = .pointer (some ⟨g, 0, none⟩) ∧ Blk W g 47 #[.int .i64 nx, .int .i64 ak, (.slice A9 l.length c9), .slice none 0 0] ∧ W.ownsRow B 2 1 (.slice A9 l.length c9) l.length (l.map (Value.int .i64)) ∧ ww.heap.size ≤ g)) dn ac W := ⟨_, fun _ _ _ => Iff.rfl⟩
  replace HJ := hidH HJ
  refine region_inv 10 (fun i => [[], [0], [], [2], [], [4], [5], [1, 3, 6], [], [7, 8]].getD i []) J hn hdeps hback ?start ?step ?fin
  case start => exact (HJ.out _ _ _).2 ⟨undef, undef, undef, undef, undef, undef, undef, undef, undef, ha, hE, hO, fun h => by simp at h, fun h => by simp at h, fun h => by simp at h, fun h => by simp at h, fun h => by simp at h, fun h => by simp at h, fun h => by simp at h, fun h => by simp at h, fun h => by simp at h, fun h => by simp at h⟩
  all_goals clear ha hE hO
  case step =>
    clear fin hdeps hback
    intro i hi dn ac W hJ hdn hdep
    obtain ⟨t6, t7, t8, t9, t10, t11, t12, t13, t3, rfl, hE, hO, h0, h1, h2, h3, h4, h5, h6, h7, h8, h9⟩ := (HJ.out _ _ _).1 hJ
    clear hJ
    match i, hi with
    | 0, _ =>
      obtain ⟨ty, ps, af, ho⟩ := op_lit hops (i := 0) (op := Op.fieldAddr 47 (Operand.tmp 1) 0) (dst := some 6) (g := none) rfl
      refine wpOp_lit ho (fun j b h => by cases h) ?_
      clear hops hdep ho
      replace h1 := hidH h1
      replace h2 := hidH h2
      replace h3 := hidH h3
      replace h4 := hidH h4
      replace h5 := hidH h5
      replace h6 := hidH h6
      replace h7 := hidH h7
      replace h8 := hidH h8
      replace h9 := hidH h9
      go_wp2
      exact (HJ.out _ _ _).2 ⟨_, _, _, _, _, _, _, _, _, rfl, hE, hO, fun _ => rfl, h1.out, h2.out, h3.out, h4.out, h5.out, h6.out, h7.out, h8.out, h9.out⟩
    | 1, _ =>
      obtain ⟨ty, ps, af, ho⟩ := op_lit hops (i := 1) (op := Op.load 2 (Operand.tmp 6)) (dst := some 7) (g := none) rfl
      obtain rfl := h0 (hdep 0 (by simp))
      refine wpOp_lit ho (fun j b h => by cases h) ?_
      clear hops hdep ho
      replace h0 := hidH h0
      replace h2 := hidH h2
      replace h3 := hidH h3
      replace h4 := hidH h4
      replace h5 := hidH h5
      replace h6 := hidH h6
      replace h7 := hidH h7
      replace h8 := hidH h8
      replace h9 := hidH h9
      have hb := Below.refl W.heap.size W
      have q := (hO.cell (p := ⟨k, 0, none⟩) hkl).trans hk0
      go_wp2
      exact (HJ.out _ _ _).2 ⟨_, _, _, _, _, _, _, _, _, rfl, hE, btr hO hb, fun _ => rfl, fun _ => rfl, h2.out, h3.out, h4.out, h5.out, fun h => by obtain ⟨A9, c9, q1, q2⟩ := h6.out h; exact ⟨A9, c9, q1, own_below0 q2 hb⟩, fun h => by obtain ⟨A9, c9, q1, q2⟩ := h7.out h; exact ⟨A9, c9, q1, own_below0 q2 hb⟩, (fun h h2 => by obtain ⟨g, q1, q2, q3⟩ := h8.out h h2; exact ⟨g, q1, q2.below hb, q3⟩), fun h => by obtain ⟨g, A9, c9, q1, q2, q3, q4⟩ := h9.out h; exact ⟨g, A9, c9, q1, q2.below hb, own_below0 q3 hb, q4⟩⟩
    | 2, _ =>
      obtain ⟨ty, ps, af, ho⟩ := op_lit hops (i := 2) (op := Op.fieldAddr 47 (Operand.tmp 1) 1) (dst := some 8) (g := none) rfl
      refine wpOp_lit ho (fun j b h => by cases h) ?_
      clear hops hdep ho
      replace h0 := hidH h0
      replace h1 := hidH h1
      replace h3 := hidH h3
      replace h4 := hidH h4
      replace h5 := hidH h5
      replace h6 := hidH h6
      replace h7 := hidH h7
      replace h8 := hidH h8
      replace h9 := hidH h9
      go_wp2
      exact (HJ.out _ _ _).2 ⟨_, _, _, _, _, _, _, _, _, rfl, hE, hO, h0.out, h1.out, fun _ => rfl, h3.out, h4.out, h5.out, h6.out, h7.out, h8.out, h9.out⟩
    | 3, _ =>
      obtain ⟨ty, ps, af, ho⟩ := op_lit hops (i := 3) (op := Op.load 2 (Operand.tmp 8)) (dst := some 9) (g := none) rfl
      obtain rfl := h2 (hdep 2 (by simp))
      refine wpOp_lit ho (fun j b h => by cases h) ?_
      clear hops hdep ho
      replace h0 := hidH h0
      replace h1 := hidH h1
      replace h2 := hidH h2
      replace h4 := hidH h4
      replace h5 := hidH h5
      replace h6 := hidH h6
      replace h7 := hidH h7
      replace h8 := hidH h8
      replace h9 := hidH h9
      have hb := Below.refl W.heap.size W
      have q := (hO.cell (p := ⟨k, 1, none⟩) hkl).trans hk1
      go_wp2
      exact (HJ.out _ _ _).2 ⟨_, _, _, _, _, _, _, _, _, rfl, hE, btr hO hb, h0.out, h1.out, fun _ => rfl, fun _ => rfl, h4.out, h5.out, fun h => by obtain ⟨A9, c9, q1, q2⟩ := h6.out h; exact ⟨A9, c9, q1, own_below0 q2 hb⟩, fun h => by obtain ⟨A9, c9, q1, q2⟩ := h7.out h; exact ⟨A9, c9, q1, own_below0 q2 hb⟩, (fun h h2 => by obtain ⟨g, q1, q2, q3⟩ := h8.out h h2; exact ⟨g, q1, q2.below hb, q3⟩), fun h => by obtain ⟨g, A9, c9, q1, q2, q3, q4⟩ := h9.out h; exact ⟨g, A9, c9, q1, q2.below hb, own_below0 q3 hb, q4⟩⟩
    | 4, _ =>
      obtain ⟨ty, ps, af, ho⟩ := op_lit hops (i := 4) (op := Op.fieldAddr 47 (Operand.tmp 1) 2) (dst := some 10) (g := none) rfl
      refine wpOp_lit ho (fun j b h => by cases h) ?_
      clear hops hdep ho
      replace h0 := hidH h0
      replace h1 := hidH h1
      replace h2 := hidH h2
      replace h3 := hidH h3
      replace h5 := hidH h5
      replace h6 := hidH h6
      replace h7 := hidH h7
      replace h8 := hidH h8
      replace h9 := hidH h9
      go_wp2
      exact (HJ.out _ _ _).2 ⟨_, _, _, _, _, _, _, _, _, rfl, hE, hO, h0.out, h1.out, h2.out, h3.out, fun _ => rfl, h5.out, h6.out, h7.out, h8.out, h9.out⟩
    | 5, _ =>
      obtain ⟨ty, ps, af, ho⟩ := op_lit hops (i := 5) (op := Op.load 24 (Operand.tmp 10)) (dst := some 11) (g := none) rfl
      obtain rfl := h4 (hdep 4 (by simp))
      refine wpOp_lit ho (fun j b h => by cases h) ?_
      clear hops hdep ho
      replace h0 := hidH h0
      replace h1 := hidH h1
      replace h2 := hidH h2
      replace h3 := hidH h3
      replace h4 := hidH h4
      replace h6 := hidH h6
      replace h7 := hidH h7
      replace h8 := hidH h8
      replace h9 := hidH h9
      have hb := Below.refl W.heap.size W
      have q := (hO.cell (p := ⟨k, 2, none⟩) hkl).trans hk2
      go_wp2
      exact (HJ.out _ _ _).2 ⟨_, _, _, _, _, _, _, _, _, rfl, hE, btr hO hb, h0.out, h1.out, h2.out, h3.out, fun _ => rfl, fun _ => rfl, fun h => by obtain ⟨A9, c9, q1, q2⟩ := h6.out h; exact ⟨A9, c9, q1, own_below0 q2 hb⟩, fun h => by obtain ⟨A9, c9, q1, q2⟩ := h7.out h; exact ⟨A9, c9, q1, own_below0 q2 hb⟩, (fun h h2 => by obtain ⟨g, q1, q2, q3⟩ := h8.out h h2; exact ⟨g, q1, q2.below hb, q3⟩), fun h => by obtain ⟨g, A9, c9, q1, q2, q3, q4⟩ := h9.out h; exact ⟨g, A9, c9, q1, q2.below hb, own_below0 q3 hb, q4⟩⟩
    | 6, _ =>
      obtain ⟨ty, ps, af, ho⟩ := op_lit hops (i := 6) (op := Op.call { callee := Callee.value (Operand.func 143), args := #[(Operand.tmp 11)], argTypes := #[24] }) (dst := some 12) (g := none) rfl
      obtain rfl := h5 (hdep 5 (by simp))
      refine wpOp_lit ho (fun j b h => by cases h) ?_
      clear hops hdep ho
      replace h0 := hidH h0
      replace h1 := hidH h1
      replace h2 := hidH h2
      replace h3 := hidH h3
      replace h4 := hidH h4
      replace h5 := hidH h5
      replace h7 := hidH h7
      replace h8 := hidH h8
      replace h9 := hidH h9
      have hS0 := Nat.le_trans hBw hO.size
      have HC := hidH (CP W hO)
      go_wp2_with fail
      refine HC.out.mono ?_
      rintro e w9 ⟨v9, rfl, o9, hb⟩
      obtain ⟨A9, c9, rfl⟩ := own_lenT o9
      have O9 := hidH (own_monoT o9 hS0)
      clear o9
      go_wp2
      exact (HJ.out _ _ _).2 ⟨_, _, _, _, _, _, _, _, _, rfl, hE, btr hO hb, h0.out, h1.out, h2.out, h3.out, h4.out, fun _ => rfl, fun _ => ⟨A9, c9, rfl, O9.out⟩, fun h => by obtain ⟨A9, c9, q1, q2⟩ := h7.out h; exact ⟨A9, c9, q1, own_below0 q2 hb⟩, (fun h h2 => by obtain ⟨g, q1, q2, q3⟩ := h8.out h h2; exact ⟨g, q1, q2.below hb, q3⟩), fun h => by obtain ⟨g, A9, c9, q1, q2, q3, q4⟩ := h9.out h; exact ⟨g, A9, c9, q1, q2.below hb, own_below0 q3 hb, q4⟩⟩
    | 7, _ =>
      obtain ⟨ty, ps, af, ho⟩ := op_lit hops (i := 7) (op := Op.build 47 #[(0, (Operand.tmp 7)), (1, (Operand.tmp 9)), (2, (Operand.tmp 12))]) (dst := some 13) (g := none) rfl
      obtain rfl := h1 (hdep 1 (by simp))
      obtain rfl := h3 (hdep 3 (by simp))
      obtain ⟨A9, c9, rfl, o9⟩ := h6 (hdep 6 (by simp))
      refine wpOp_lit ho (fun j b h => by cases h) ?_
      clear hops hdep ho
      replace h0 := hidH h0
      replace h1 := hidH h1
      replace h2 := hidH h2
      replace h3 := hidH h3
      replace h4 := hidH h4
      replace h5 := hidH h5
      replace h6 := hidH h6
      replace h8 := hidH h8
      replace h9 := hidH h9
      go_wp2
      exact (HJ.out _ _ _).2 ⟨_, _, _, _, _, _, _, _, _, rfl, hE, hO, h0.out, fun _ => rfl, h2.out, fun _ => rfl, h4.out, h5.out, fun _ => ⟨A9, c9, rfl, o9⟩, fun _ => ⟨A9, c9, rfl, o9⟩, h8.out, h9.out⟩
    | 8, _ =>
      obtain ⟨ty, ps, af, ho⟩ := op_lit hops (i := 8) (op := Op.alloc 47) (dst := some 3) (g := none) rfl
      refine wpOp_lit ho (fun j b h => by cases h) ?_
      clear hops hdep ho
      replace h0 := hidH h0
      replace h1 := hidH h1
      replace h2 := hidH h2
      replace h3 := hidH h3
      replace h4 := hidH h4
      replace h5 := hidH h5
      replace h6 := hidH h6
      replace h7 := hidH h7
      replace h9 := hidH h9
      have hb := bal (Below.refl W.heap.size W) (.cells #[.int .i64 0, .int .i64 0, .slice none 0 0, .slice none 0 0] 47)
      have KG := hidH (Blk.new W 47 #[.int .i64 0, .int .i64 0, .slice none 0 0, .slice none 0 0])
      have hG0 := hO.size
      go_wp2
      exact (HJ.out _ _ _).2 ⟨_, _, _, _, _, _, _, _, _, rfl, fun _ => rfl, btr hO hb, h0.out, h1.out, h2.out, h3.out, h4.out, h5.out, fun h => by obtain ⟨A9, c9, q1, q2⟩ := h6.out h; exact ⟨A9, c9, q1, own_below0 q2 hb⟩, fun h => by obtain ⟨A9, c9, q1, q2⟩ := h7.out h; exact ⟨A9, c9, q1, own_below0 q2 hb⟩, fun _ => fun _ => ⟨_, rfl, KG.out, hG0⟩, (fun h => by have h3 : dn 8 = true := hE h; rw [hdn] at h3; cases h3)⟩
    | 9, _ =>
      obtain ⟨ty, ps, af, ho⟩ := op_lit hops (i := 9) (op := Op.store 47 (Operand.tmp 3) (Operand.tmp 13)) (dst := none) (g := none) rfl
      have hd6 := hidH (hdep 8 (by simp))
      obtain ⟨g, rfl, kg, hgw⟩ := h8 (hdep 8 (by simp)) hdn
      have hgB := Nat.le_trans hBw hgw
      obtain ⟨B9, d9, rfl, p9⟩ := h7 (hdep 7 (by simp))
      refine wpOp_lit ho (fun j b h => by cases h) ?_
      clear hops hdep ho
      replace h0 := hidH h0
      replace h1 := hidH h1
      replace h2 := hidH h2
      replace h3 := hidH h3
      replace h4 := hidH h4
      replace h5 := hidH h5
      replace h6 := hidH h6
      replace h7 := hidH h7
      replace h8 := hidH h8
      have y0 := kg.cell 0
      have y1 := kg.cell 1
      have y2 := kg.cell 2
      have y3 := kg.cell 3
      have v0 := kg.frozen 0
      have v1 := kg.frozen 1
      have v2 := kg.frozen 2
      have v3 := kg.frozen 3
      simp only [List.getElem?_toArray, List.getElem?_cons_succ, List.getElem?_cons_zero] at y0 y1 y2 y3
      have hlt := kg.lt
      have FAR := hidH (fun (v0 : Value) (h : W.ownsRow B 2 1 v0 l.length (l.map (Value.int .i64))) => own_farT (own_farT (own_farT (own_farT (h) (kg) (by decide) 0 (.int .i64 nx)) ((kg).put 0 (.int .i64 nx)) (by decide) 1 (.int .i64 ak)) (((kg).put 0 (.int .i64 nx)).put 1 (.int .i64 ak)) (by decide) 2 (.slice B9 l.length d9)) ((((kg).put 0 (.int .i64 nx)).put 1 (.int .i64 ak)).put 2 (.slice B9 l.length d9)) (by decide) 3 (.slice none 0 0))
      have KS := hidH (show Blk (((((W).setCell ⟨g, 0, none⟩ (.int .i64 nx)).setCell ⟨g, 1, none⟩ (.int .i64 ak)).setCell ⟨g, 2, none⟩ (.slice B9 l.length d9)).setCell ⟨g, 3, none⟩ (.slice none 0 0)) g 47 #[.int .i64 nx, .int .i64 ak, .slice B9 l.length d9, .slice none 0 0] from ((((kg).put 0 (.int .i64 nx)).put 1 (.int .i64 ak)).put 2 (.slice B9 l.length d9)).put 3 (.slice none 0 0))
      clear kg
      go_wp2
      exact (HJ.out _ _ _).2 ⟨_, _, _, _, _, _, _, _, _, rfl, fun _ => hd6.out, (bst (bst (bst (bst hO hgw _) hgw _) hgw _) hgw _), h0.out, h1.out, h2.out, h3.out, h4.out, h5.out, fun h => by obtain ⟨A9, c9, q1, q2⟩ := h6.out h; exact ⟨A9, c9, q1, FAR.out _ q2⟩, fun _ => ⟨B9, d9, rfl, FAR.out _ p9⟩, (fun _ h2 => by simp at h2), fun _ => ⟨g, B9, d9, rfl, KS.out, FAR.out _ p9, hgw⟩⟩
    | n + 10, h => omega
  case fin =>
    clear hops hdeps hback
    rintro dn ac W hJ hall
    obtain ⟨t6, t7, t8, t9, t10, t11, t12, t13, t3, rfl, hE, hO, h0, h1, h2, h3, h4, h5, h6, h7, h8, h9⟩ := (HJ.out _ _ _).1 hJ
    exact fin _ _ _ _ _ _ _ _ _ W hO (h9 (hall 9 (by omega)))
set_option maxRecDepth 100000 in
set_option maxHeartbeats 1000000 in
theorem regL10 {Q : Exit → Act → World → Prop} (x1 x2 : Value) (ww : World) (B k c : Nat) (nx ak : Int) (A : Option Addr) (l : List Int)
    (hBw : B ≤ ww.heap.size) (hkl : k < ww.heap.size) (hk0 : ww.cell? ⟨k, 0, none⟩ = some (.int .i64 nx)) (hk1 : ww.cell? ⟨k, 1, none⟩ = some (.int .i64 ak)) (hk2 : ww.cell? ⟨k, 2, none⟩ = some (.slice A l.length c))
    (CP : ∀ u : World, Below ww.heap.size ww u → Calls Try.prog 147 #[.slice A l.length c] u fun e w' => ∃ v, e = .returned v ∧ w'.ownsRow u.heap.size 2 1 v l.length (l.map (Value.int .i64)) ∧ Below u.heap.size u w') {ops : Array Oper}
    (hops : (ops.map fun o => (o.op, o.dst, o.guard)) = #[(Op.move (Operand.tmp 0), some 6, none), (Op.nilCheck (Operand.tmp 6), some 7, none), (Op.fieldAddr 47 (Operand.tmp 7) 0, some 8, none), (Op.load 2 (Operand.tmp 8), some 9, none), (Op.move (Operand.tmp 0), some 10, none), (Op.nilCheck (Operand.tmp 10), some 11, none), (Op.fieldAddr 47 (Operand.tmp 11) 1, some 12, none), (Op.load 2 (Operand.tmp 12), some 13, none), (Op.move (Operand.tmp 0), some 14, none), (Op.nilCheck (Operand.tmp 14), some 15, none), (Op.fieldAddr 47 (Operand.tmp 15) 2, some 16, none), (Op.load 24 (Operand.tmp 16), some 17, none), (Op.call { callee := Callee.value (Operand.func 147), args := #[(Operand.tmp 17)], argTypes := #[24] }, some 18, none), (Op.build 47 #[(0, (Operand.tmp 9)), (1, (Operand.tmp 13)), (2, (Operand.tmp 18))], some 19, none), (Op.alloc 47, some 3, none), (Op.store 47 (Operand.tmp 3) (Operand.tmp 19), none, none)])
    (hdeps : ((List.range 16).all fun i => ((fun i => [[], [0], [1], [2], [], [4], [5], [6], [], [8], [9], [10], [11], [3, 7, 12], [], [13, 14]].getD i []) i).all fun j => ((ops[i]?).map fun o => o.after.any fun e => Region.binds .any e && e.on == j).getD false) = true)
    (hback : ((List.range 16).all fun i => ((ops[i]?).map fun o => o.after.all fun e => decide (e.on < i)).getD false) = true)
    {a0 : Act} {w0 : World} (ha : a0 = { tmps := #[.pointer (some ⟨k, 0, none⟩), x1, x2, undef, undef, undef, undef, undef, undef, undef, undef, undef, undef, undef, undef, undef, undef, undef, undef, undef, undef, undef, undef, undef, undef, undef, undef, undef, undef, undef, undef, undef, undef, undef, undef, undef, undef, undef, undef, undef, undef, undef, undef, undef, undef, undef, undef, undef, undef], defers := [] }) (hE : false = true → false = true) (hO : Below ww.heap.size ww w0)
    (fin : ∀ t6 t7 t8 t9 t10 t11 t12 t13 t14 t15 t16 t17 t18 t19 t3 (W : World), (Below ww.heap.size ww W) → (∃ (g : Nat) (A9 : Option Addr) (c9 : Nat), t3 = .pointer (some ⟨g, 0, none⟩) ∧ Blk W g 47 #[.int .i64 nx, .int .i64 ak, (.slice A9 l.length c9), .slice none 0 0] ∧ W.ownsRow B 2 1 (.slice A9 l.length c9) l.length (l.map (Value.int .i64)) ∧ ww.heap.size ≤ g) → Q .normal { tmps := #[.pointer (some ⟨k, 0, none⟩), x1, x2, t3, undef, undef, t6, t7, t8, t9, t10, t11, t12, t13, t14, t15, t16, t17, t18, t19, undef, undef, undef, undef, undef, undef, undef, undef, undef, undef, undef, undef, undef, undef, undef, undef, undef, undef, undef, undef, undef, undef, undef, undef, undef, undef, undef, undef, undef], defers := [] } W) :
    wpAny Try.prog .any ops Q ops.size (Array.replicate ops.size false) a0 w0 := by
  have hn : ops.size = 16 := by have := congrArg Array.size hops; simpa using this
  obtain ⟨J, HJ⟩ : ∃ J : (Nat → Bool) → Act → World → Prop, ∀ dn ac W, J dn ac W ↔ (fun dn ac W => ∃ t6 t7 t8 t9 t10 t11 t12 t13 t14 t15 t16 t17 t18 t19 t3, ac = { tmps := #[.pointer (some ⟨k, 0, none⟩), x1, x2, t3, undef, undef, t6, t7, t8, t9, t10, t11, t12, t13, t14, t15, t16, t17, t18, t19, undef, undef, undef, undef, undef, undef, undef, undef, undef, undef, undef, undef, undef, undef, undef, undef, undef, undef, undef, undef, undef, undef, undef, undef, undef, undef, undef, undef, undef], defers := [] } ∧ (dn 15 = true → dn 14 = true) ∧ (Below ww.heap.size ww W) ∧ (dn 0 = true → t6 = .pointer (some ⟨k, 0, none⟩)) ∧ (dn 1 = true → t7 = .pointer (some ⟨k, 0, none⟩)) ∧ (dn 2 = true → t8 = .pointer (some ⟨k, 0, none⟩)) ∧ (dn 3 = true → t9 = .int .i64 nx) ∧ (dn 4 = true → t10 = .pointer (some ⟨k, 0, none⟩)) ∧ (dn 5 = true → t11 = .pointer (some ⟨k, 0, none⟩)) ∧ (dn 6 = true → t12 = .pointer (some ⟨k, 1, none⟩)) ∧ (dn 7 = true → t13 = .int .i64 ak) ∧ (dn 8 = true → t14 = .pointer (some ⟨k, 0, none⟩)) ∧ (dn 9 = true → t15 = .pointer (some ⟨k, 0, none⟩)) ∧ (dn 10 = true → t16 = .pointer (some ⟨k, 2, none⟩)) ∧ (dn 11 = true → t17 = .slice A l.length c) ∧ (dn 12 = true → ∃ (A9 : Option Addr) (c9 : Nat), t18 = (.slice A9 l.length c9) ∧ W.ownsRow B 2 1 (.slice A9 l.length c9) l.length (l.map (Value.int .i64))) ∧ (dn 13 = true → ∃ (A9 : Option Addr) (c9 : Nat), t19 = .agg #[.int .i64 nx, .int .i64 ak, (.slice A9 l.length c9), .slice none 0 0] ∧ W.ownsRow B 2 1 (.slice A9 l.length c9) l.length (l.map (Value.int .i64))) ∧ (dn 14 = true → dn 15 = false → ∃ g : Nat, t3 = .pointer (some ⟨g, 0, none⟩) ∧ Blk W g 47 #[.int .i64 0, .int .i64 0, .slice none 0 0, .slice none 0 0] ∧ ww.heap.size ≤ g) ∧ (dn 15 = true → ∃ (g : Nat) (A9 : Option Addr) (c9 : Nat), t3 = .pointer (some ⟨g, 0, none⟩) ∧ Blk W g 47 #[.int .i64 nx, .int .i64 ak, (.slice A9 l.length c9), .slice none 0 0] ∧ W.ownsRow B 2 1 (.slice A9 l.length c9) l.length (l.map (Value.int .i64)) ∧ ww.heap.size ≤ g)) dn ac W := ⟨_, fun _ _ _ => Iff.rfl⟩
  replace HJ := hidH HJ
  refine region_inv 16 (fun i => [[], [0], [1], [2], [], [4], [5], [6], [], [8], [9], [10], [11], [3, 7, 12], [], [13, 14]].getD i []) J hn hdeps hback ?start ?step ?fin
  case start => exact (HJ.out _ _ _).2 ⟨undef, undef, undef, undef, undef, undef, undef, undef, undef, undef, undef, undef, undef, undef, undef, ha, hE, hO, fun h => by simp at h, fun h => by simp at h, fun h => by simp at h, fun h => by simp at h, fun h => by simp at h, fun h => by simp at h, fun h => by simp at h, fun h => by simp at h, fun h => by simp at h, fun h => by simp at h, fun h => by simp at h, fun h => by simp at h, fun h => by simp at h, fun h => by simp at h, fun h => by simp at h, fun h => by simp at h⟩
  all_goals clear ha hE hO
  case step =>
    clear fin hdeps hback
    intro i hi dn ac W hJ hdn hdep
    obtain ⟨t6, t7, t8, t9, t10, t11, t12, t13, t14, t15, t16, t17, t18, t19, t3, rfl, hE, hO, h0, h1, h2, h3, h4, h5, h6, h7, h8, h9, h10, h11, h12, h13, h14, h15⟩ := (HJ.out _ _ _).1 hJ
    clear hJ
    match i, hi with
    | 0, _ =>
      obtain ⟨ty, ps, af, ho⟩ := op_lit hops (i := 0) (op := Op.move (Operand.tmp 0)) (dst := some 6) (g := none) rfl
      refine wpOp_lit ho (fun j b h => by cases h) ?_
      clear hops hdep ho
      replace h1 := hidH h1
      replace h2 := hidH h2
      replace h3 := hidH h3
      replace h4 := hidH h4
      replace h5 := hidH h5
      replace h6 := hidH h6
      replace h7 := hidH h7
      replace h8 := hidH h8
      replace h9 := hidH h9
      replace h10 := hidH h10
      replace h11 := hidH h11
      replace h12 := hidH h12
      replace h13 := hidH h13
      replace h14 := hidH h14
      replace h15 := hidH h15
      go_wp2
      exact (HJ.out _ _ _).2 ⟨_, _, _, _, _, _, _, _, _, _, _, _, _, _, _, rfl, hE, hO, fun _ => rfl, h1.out, h2.out, h3.out, h4.out, h5.out, h6.out, h7.out, h8.out, h9.out, h10.out, h11.out, h12.out, h13.out, h14.out, h15.out⟩
    | 1, _ =>
      obtain ⟨ty, ps, af, ho⟩ := op_lit hops (i := 1) (op := Op.nilCheck (Operand.tmp 6)) (dst := some 7) (g := none) rfl
      obtain rfl := h0 (hdep 0 (by simp))
      refine wpOp_lit ho (fun j b h => by cases h) ?_
      clear hops hdep ho
      replace h0 := hidH h0
      replace h2 := hidH h2
      replace h3 := hidH h3
      replace h4 := hidH h4
      replace h5 := hidH h5
      replace h6 := hidH h6
      replace h7 := hidH h7
      replace h8 := hidH h8
      replace h9 := hidH h9
      replace h10 := hidH h10
      replace h11 := hidH h11
      replace h12 := hidH h12
      replace h13 := hidH h13
      replace h14 := hidH h14
      replace h15 := hidH h15
      go_wp2
      exact (HJ.out _ _ _).2 ⟨_, _, _, _, _, _, _, _, _, _, _, _, _, _, _, rfl, hE, hO, fun _ => rfl, fun _ => rfl, h2.out, h3.out, h4.out, h5.out, h6.out, h7.out, h8.out, h9.out, h10.out, h11.out, h12.out, h13.out, h14.out, h15.out⟩
    | 2, _ =>
      obtain ⟨ty, ps, af, ho⟩ := op_lit hops (i := 2) (op := Op.fieldAddr 47 (Operand.tmp 7) 0) (dst := some 8) (g := none) rfl
      obtain rfl := h1 (hdep 1 (by simp))
      refine wpOp_lit ho (fun j b h => by cases h) ?_
      clear hops hdep ho
      replace h0 := hidH h0
      replace h1 := hidH h1
      replace h3 := hidH h3
      replace h4 := hidH h4
      replace h5 := hidH h5
      replace h6 := hidH h6
      replace h7 := hidH h7
      replace h8 := hidH h8
      replace h9 := hidH h9
      replace h10 := hidH h10
      replace h11 := hidH h11
      replace h12 := hidH h12
      replace h13 := hidH h13
      replace h14 := hidH h14
      replace h15 := hidH h15
      go_wp2
      exact (HJ.out _ _ _).2 ⟨_, _, _, _, _, _, _, _, _, _, _, _, _, _, _, rfl, hE, hO, h0.out, fun _ => rfl, fun _ => rfl, h3.out, h4.out, h5.out, h6.out, h7.out, h8.out, h9.out, h10.out, h11.out, h12.out, h13.out, h14.out, h15.out⟩
    | 3, _ =>
      obtain ⟨ty, ps, af, ho⟩ := op_lit hops (i := 3) (op := Op.load 2 (Operand.tmp 8)) (dst := some 9) (g := none) rfl
      obtain rfl := h2 (hdep 2 (by simp))
      refine wpOp_lit ho (fun j b h => by cases h) ?_
      clear hops hdep ho
      replace h0 := hidH h0
      replace h1 := hidH h1
      replace h2 := hidH h2
      replace h4 := hidH h4
      replace h5 := hidH h5
      replace h6 := hidH h6
      replace h7 := hidH h7
      replace h8 := hidH h8
      replace h9 := hidH h9
      replace h10 := hidH h10
      replace h11 := hidH h11
      replace h12 := hidH h12
      replace h13 := hidH h13
      replace h14 := hidH h14
      replace h15 := hidH h15
      have hb := Below.refl W.heap.size W
      have q := (hO.cell (p := ⟨k, 0, none⟩) hkl).trans hk0
      go_wp2
      exact (HJ.out _ _ _).2 ⟨_, _, _, _, _, _, _, _, _, _, _, _, _, _, _, rfl, hE, btr hO hb, h0.out, h1.out, fun _ => rfl, fun _ => rfl, h4.out, h5.out, h6.out, h7.out, h8.out, h9.out, h10.out, h11.out, fun h => by obtain ⟨A9, c9, q1, q2⟩ := h12.out h; exact ⟨A9, c9, q1, own_below0 q2 hb⟩, fun h => by obtain ⟨A9, c9, q1, q2⟩ := h13.out h; exact ⟨A9, c9, q1, own_below0 q2 hb⟩, (fun h h2 => by obtain ⟨g, q1, q2, q3⟩ := h14.out h h2; exact ⟨g, q1, q2.below hb, q3⟩), fun h => by obtain ⟨g, A9, c9, q1, q2, q3, q4⟩ := h15.out h; exact ⟨g, A9, c9, q1, q2.below hb, own_below0 q3 hb, q4⟩⟩
    | 4, _ =>
      obtain ⟨ty, ps, af, ho⟩ := op_lit hops (i := 4) (op := Op.move (Operand.tmp 0)) (dst := some 10) (g := none) rfl
      refine wpOp_lit ho (fun j b h => by cases h) ?_
      clear hops hdep ho
      replace h0 := hidH h0
      replace h1 := hidH h1
      replace h2 := hidH h2
      replace h3 := hidH h3
      replace h5 := hidH h5
      replace h6 := hidH h6
      replace h7 := hidH h7
      replace h8 := hidH h8
      replace h9 := hidH h9
      replace h10 := hidH h10
      replace h11 := hidH h11
      replace h12 := hidH h12
      replace h13 := hidH h13
      replace h14 := hidH h14
      replace h15 := hidH h15
      go_wp2
      exact (HJ.out _ _ _).2 ⟨_, _, _, _, _, _, _, _, _, _, _, _, _, _, _, rfl, hE, hO, h0.out, h1.out, h2.out, h3.out, fun _ => rfl, h5.out, h6.out, h7.out, h8.out, h9.out, h10.out, h11.out, h12.out, h13.out, h14.out, h15.out⟩
    | 5, _ =>
      obtain ⟨ty, ps, af, ho⟩ := op_lit hops (i := 5) (op := Op.nilCheck (Operand.tmp 10)) (dst := some 11) (g := none) rfl
      obtain rfl := h4 (hdep 4 (by simp))
      refine wpOp_lit ho (fun j b h => by cases h) ?_
      clear hops hdep ho
      replace h0 := hidH h0
      replace h1 := hidH h1
      replace h2 := hidH h2
      replace h3 := hidH h3
      replace h4 := hidH h4
      replace h6 := hidH h6
      replace h7 := hidH h7
      replace h8 := hidH h8
      replace h9 := hidH h9
      replace h10 := hidH h10
      replace h11 := hidH h11
      replace h12 := hidH h12
      replace h13 := hidH h13
      replace h14 := hidH h14
      replace h15 := hidH h15
      go_wp2
      exact (HJ.out _ _ _).2 ⟨_, _, _, _, _, _, _, _, _, _, _, _, _, _, _, rfl, hE, hO, h0.out, h1.out, h2.out, h3.out, fun _ => rfl, fun _ => rfl, h6.out, h7.out, h8.out, h9.out, h10.out, h11.out, h12.out, h13.out, h14.out, h15.out⟩
    | 6, _ =>
      obtain ⟨ty, ps, af, ho⟩ := op_lit hops (i := 6) (op := Op.fieldAddr 47 (Operand.tmp 11) 1) (dst := some 12) (g := none) rfl
      obtain rfl := h5 (hdep 5 (by simp))
      refine wpOp_lit ho (fun j b h => by cases h) ?_
      clear hops hdep ho
      replace h0 := hidH h0
      replace h1 := hidH h1
      replace h2 := hidH h2
      replace h3 := hidH h3
      replace h4 := hidH h4
      replace h5 := hidH h5
      replace h7 := hidH h7
      replace h8 := hidH h8
      replace h9 := hidH h9
      replace h10 := hidH h10
      replace h11 := hidH h11
      replace h12 := hidH h12
      replace h13 := hidH h13
      replace h14 := hidH h14
      replace h15 := hidH h15
      go_wp2
      exact (HJ.out _ _ _).2 ⟨_, _, _, _, _, _, _, _, _, _, _, _, _, _, _, rfl, hE, hO, h0.out, h1.out, h2.out, h3.out, h4.out, fun _ => rfl, fun _ => rfl, h7.out, h8.out, h9.out, h10.out, h11.out, h12.out, h13.out, h14.out, h15.out⟩
    | 7, _ =>
      obtain ⟨ty, ps, af, ho⟩ := op_lit hops (i := 7) (op := Op.load 2 (Operand.tmp 12)) (dst := some 13) (g := none) rfl
      obtain rfl := h6 (hdep 6 (by simp))
      refine wpOp_lit ho (fun j b h => by cases h) ?_
      clear hops hdep ho
      replace h0 := hidH h0
      replace h1 := hidH h1
      replace h2 := hidH h2
      replace h3 := hidH h3
      replace h4 := hidH h4
      replace h5 := hidH h5
      replace h6 := hidH h6
      replace h8 := hidH h8
      replace h9 := hidH h9
      replace h10 := hidH h10
      replace h11 := hidH h11
      replace h12 := hidH h12
      replace h13 := hidH h13
      replace h14 := hidH h14
      replace h15 := hidH h15
      have hb := Below.refl W.heap.size W
      have q := (hO.cell (p := ⟨k, 1, none⟩) hkl).trans hk1
      go_wp2
      exact (HJ.out _ _ _).2 ⟨_, _, _, _, _, _, _, _, _, _, _, _, _, _, _, rfl, hE, btr hO hb, h0.out, h1.out, h2.out, h3.out, h4.out, h5.out, fun _ => rfl, fun _ => rfl, h8.out, h9.out, h10.out, h11.out, fun h => by obtain ⟨A9, c9, q1, q2⟩ := h12.out h; exact ⟨A9, c9, q1, own_below0 q2 hb⟩, fun h => by obtain ⟨A9, c9, q1, q2⟩ := h13.out h; exact ⟨A9, c9, q1, own_below0 q2 hb⟩, (fun h h2 => by obtain ⟨g, q1, q2, q3⟩ := h14.out h h2; exact ⟨g, q1, q2.below hb, q3⟩), fun h => by obtain ⟨g, A9, c9, q1, q2, q3, q4⟩ := h15.out h; exact ⟨g, A9, c9, q1, q2.below hb, own_below0 q3 hb, q4⟩⟩
    | 8, _ =>
      obtain ⟨ty, ps, af, ho⟩ := op_lit hops (i := 8) (op := Op.move (Operand.tmp 0)) (dst := some 14) (g := none) rfl
      refine wpOp_lit ho (fun j b h => by cases h) ?_
      clear hops hdep ho
      replace h0 := hidH h0
      replace h1 := hidH h1
      replace h2 := hidH h2
      replace h3 := hidH h3
      replace h4 := hidH h4
      replace h5 := hidH h5
      replace h6 := hidH h6
      replace h7 := hidH h7
      replace h9 := hidH h9
      replace h10 := hidH h10
      replace h11 := hidH h11
      replace h12 := hidH h12
      replace h13 := hidH h13
      replace h14 := hidH h14
      replace h15 := hidH h15
      go_wp2
      exact (HJ.out _ _ _).2 ⟨_, _, _, _, _, _, _, _, _, _, _, _, _, _, _, rfl, hE, hO, h0.out, h1.out, h2.out, h3.out, h4.out, h5.out, h6.out, h7.out, fun _ => rfl, h9.out, h10.out, h11.out, h12.out, h13.out, h14.out, h15.out⟩
    | 9, _ =>
      obtain ⟨ty, ps, af, ho⟩ := op_lit hops (i := 9) (op := Op.nilCheck (Operand.tmp 14)) (dst := some 15) (g := none) rfl
      obtain rfl := h8 (hdep 8 (by simp))
      refine wpOp_lit ho (fun j b h => by cases h) ?_
      clear hops hdep ho
      replace h0 := hidH h0
      replace h1 := hidH h1
      replace h2 := hidH h2
      replace h3 := hidH h3
      replace h4 := hidH h4
      replace h5 := hidH h5
      replace h6 := hidH h6
      replace h7 := hidH h7
      replace h8 := hidH h8
      replace h10 := hidH h10
      replace h11 := hidH h11
      replace h12 := hidH h12
      replace h13 := hidH h13
      replace h14 := hidH h14
      replace h15 := hidH h15
      go_wp2
      exact (HJ.out _ _ _).2 ⟨_, _, _, _, _, _, _, _, _, _, _, _, _, _, _, rfl, hE, hO, h0.out, h1.out, h2.out, h3.out, h4.out, h5.out, h6.out, h7.out, fun _ => rfl, fun _ => rfl, h10.out, h11.out, h12.out, h13.out, h14.out, h15.out⟩
    | 10, _ =>
      obtain ⟨ty, ps, af, ho⟩ := op_lit hops (i := 10) (op := Op.fieldAddr 47 (Operand.tmp 15) 2) (dst := some 16) (g := none) rfl
      obtain rfl := h9 (hdep 9 (by simp))
      refine wpOp_lit ho (fun j b h => by cases h) ?_
      clear hops hdep ho
      replace h0 := hidH h0
      replace h1 := hidH h1
      replace h2 := hidH h2
      replace h3 := hidH h3
      replace h4 := hidH h4
      replace h5 := hidH h5
      replace h6 := hidH h6
      replace h7 := hidH h7
      replace h8 := hidH h8
      replace h9 := hidH h9
      replace h11 := hidH h11
      replace h12 := hidH h12
      replace h13 := hidH h13
      replace h14 := hidH h14
      replace h15 := hidH h15
      go_wp2
      exact (HJ.out _ _ _).2 ⟨_, _, _, _, _, _, _, _, _, _, _, _, _, _, _, rfl, hE, hO, h0.out, h1.out, h2.out, h3.out, h4.out, h5.out, h6.out, h7.out, h8.out, fun _ => rfl, fun _ => rfl, h11.out, h12.out, h13.out, h14.out, h15.out⟩
    | 11, _ =>
      obtain ⟨ty, ps, af, ho⟩ := op_lit hops (i := 11) (op := Op.load 24 (Operand.tmp 16)) (dst := some 17) (g := none) rfl
      obtain rfl := h10 (hdep 10 (by simp))
      refine wpOp_lit ho (fun j b h => by cases h) ?_
      clear hops hdep ho
      replace h0 := hidH h0
      replace h1 := hidH h1
      replace h2 := hidH h2
      replace h3 := hidH h3
      replace h4 := hidH h4
      replace h5 := hidH h5
      replace h6 := hidH h6
      replace h7 := hidH h7
      replace h8 := hidH h8
      replace h9 := hidH h9
      replace h10 := hidH h10
      replace h12 := hidH h12
      replace h13 := hidH h13
      replace h14 := hidH h14
      replace h15 := hidH h15
      have hb := Below.refl W.heap.size W
      have q := (hO.cell (p := ⟨k, 2, none⟩) hkl).trans hk2
      go_wp2
      exact (HJ.out _ _ _).2 ⟨_, _, _, _, _, _, _, _, _, _, _, _, _, _, _, rfl, hE, btr hO hb, h0.out, h1.out, h2.out, h3.out, h4.out, h5.out, h6.out, h7.out, h8.out, h9.out, fun _ => rfl, fun _ => rfl, fun h => by obtain ⟨A9, c9, q1, q2⟩ := h12.out h; exact ⟨A9, c9, q1, own_below0 q2 hb⟩, fun h => by obtain ⟨A9, c9, q1, q2⟩ := h13.out h; exact ⟨A9, c9, q1, own_below0 q2 hb⟩, (fun h h2 => by obtain ⟨g, q1, q2, q3⟩ := h14.out h h2; exact ⟨g, q1, q2.below hb, q3⟩), fun h => by obtain ⟨g, A9, c9, q1, q2, q3, q4⟩ := h15.out h; exact ⟨g, A9, c9, q1, q2.below hb, own_below0 q3 hb, q4⟩⟩
    | 12, _ =>
      obtain ⟨ty, ps, af, ho⟩ := op_lit hops (i := 12) (op := Op.call { callee := Callee.value (Operand.func 147), args := #[(Operand.tmp 17)], argTypes := #[24] }) (dst := some 18) (g := none) rfl
      obtain rfl := h11 (hdep 11 (by simp))
      refine wpOp_lit ho (fun j b h => by cases h) ?_
      clear hops hdep ho
      replace h0 := hidH h0
      replace h1 := hidH h1
      replace h2 := hidH h2
      replace h3 := hidH h3
      replace h4 := hidH h4
      replace h5 := hidH h5
      replace h6 := hidH h6
      replace h7 := hidH h7
      replace h8 := hidH h8
      replace h9 := hidH h9
      replace h10 := hidH h10
      replace h11 := hidH h11
      replace h13 := hidH h13
      replace h14 := hidH h14
      replace h15 := hidH h15
      have hS0 := Nat.le_trans hBw hO.size
      have HC := hidH (CP W hO)
      go_wp2_with fail
      refine HC.out.mono ?_
      rintro e w9 ⟨v9, rfl, o9, hb⟩
      obtain ⟨A9, c9, rfl⟩ := own_lenT o9
      have O9 := hidH (own_monoT o9 hS0)
      clear o9
      go_wp2
      exact (HJ.out _ _ _).2 ⟨_, _, _, _, _, _, _, _, _, _, _, _, _, _, _, rfl, hE, btr hO hb, h0.out, h1.out, h2.out, h3.out, h4.out, h5.out, h6.out, h7.out, h8.out, h9.out, h10.out, fun _ => rfl, fun _ => ⟨A9, c9, rfl, O9.out⟩, fun h => by obtain ⟨A9, c9, q1, q2⟩ := h13.out h; exact ⟨A9, c9, q1, own_below0 q2 hb⟩, (fun h h2 => by obtain ⟨g, q1, q2, q3⟩ := h14.out h h2; exact ⟨g, q1, q2.below hb, q3⟩), fun h => by obtain ⟨g, A9, c9, q1, q2, q3, q4⟩ := h15.out h; exact ⟨g, A9, c9, q1, q2.below hb, own_below0 q3 hb, q4⟩⟩
    | 13, _ =>
      obtain ⟨ty, ps, af, ho⟩ := op_lit hops (i := 13) (op := Op.build 47 #[(0, (Operand.tmp 9)), (1, (Operand.tmp 13)), (2, (Operand.tmp 18))]) (dst := some 19) (g := none) rfl
      obtain rfl := h3 (hdep 3 (by simp))
      obtain rfl := h7 (hdep 7 (by simp))
      obtain ⟨A9, c9, rfl, o9⟩ := h12 (hdep 12 (by simp))
      refine wpOp_lit ho (fun j b h => by cases h) ?_
      clear hops hdep ho
      replace h0 := hidH h0
      replace h1 := hidH h1
      replace h2 := hidH h2
      replace h3 := hidH h3
      replace h4 := hidH h4
      replace h5 := hidH h5
      replace h6 := hidH h6
      replace h7 := hidH h7
      replace h8 := hidH h8
      replace h9 := hidH h9
      replace h10 := hidH h10
      replace h11 := hidH h11
      replace h12 := hidH h12
      replace h14 := hidH h14
      replace h15 := hidH h15
      go_wp2
      exact (HJ.out _ _ _).2 ⟨_, _, _, _, _, _, _, _, _, _, _, _, _, _, _, rfl, hE, hO, h0.out, h1.out, h2.out, fun _ => rfl, h4.out, h5.out, h6.out, fun _ => rfl, h8.out, h9.out, h10.out, h11.out, fun _ => ⟨A9, c9, rfl, o9⟩, fun _ => ⟨A9, c9, rfl, o9⟩, h14.out, h15.out⟩
    | 14, _ =>
      obtain ⟨ty, ps, af, ho⟩ := op_lit hops (i := 14) (op := Op.alloc 47) (dst := some 3) (g := none) rfl
      refine wpOp_lit ho (fun j b h => by cases h) ?_
      clear hops hdep ho
      replace h0 := hidH h0
      replace h1 := hidH h1
      replace h2 := hidH h2
      replace h3 := hidH h3
      replace h4 := hidH h4
      replace h5 := hidH h5
      replace h6 := hidH h6
      replace h7 := hidH h7
      replace h8 := hidH h8
      replace h9 := hidH h9
      replace h10 := hidH h10
      replace h11 := hidH h11
      replace h12 := hidH h12
      replace h13 := hidH h13
      replace h15 := hidH h15
      have hb := bal (Below.refl W.heap.size W) (.cells #[.int .i64 0, .int .i64 0, .slice none 0 0, .slice none 0 0] 47)
      have KG := hidH (Blk.new W 47 #[.int .i64 0, .int .i64 0, .slice none 0 0, .slice none 0 0])
      have hG0 := hO.size
      go_wp2
      exact (HJ.out _ _ _).2 ⟨_, _, _, _, _, _, _, _, _, _, _, _, _, _, _, rfl, fun _ => rfl, btr hO hb, h0.out, h1.out, h2.out, h3.out, h4.out, h5.out, h6.out, h7.out, h8.out, h9.out, h10.out, h11.out, fun h => by obtain ⟨A9, c9, q1, q2⟩ := h12.out h; exact ⟨A9, c9, q1, own_below0 q2 hb⟩, fun h => by obtain ⟨A9, c9, q1, q2⟩ := h13.out h; exact ⟨A9, c9, q1, own_below0 q2 hb⟩, fun _ => fun _ => ⟨_, rfl, KG.out, hG0⟩, (fun h => by have h3 : dn 14 = true := hE h; rw [hdn] at h3; cases h3)⟩
    | 15, _ =>
      obtain ⟨ty, ps, af, ho⟩ := op_lit hops (i := 15) (op := Op.store 47 (Operand.tmp 3) (Operand.tmp 19)) (dst := none) (g := none) rfl
      have hd6 := hidH (hdep 14 (by simp))
      obtain ⟨g, rfl, kg, hgw⟩ := h14 (hdep 14 (by simp)) hdn
      have hgB := Nat.le_trans hBw hgw
      obtain ⟨B9, d9, rfl, p9⟩ := h13 (hdep 13 (by simp))
      refine wpOp_lit ho (fun j b h => by cases h) ?_
      clear hops hdep ho
      replace h0 := hidH h0
      replace h1 := hidH h1
      replace h2 := hidH h2
      replace h3 := hidH h3
      replace h4 := hidH h4
      replace h5 := hidH h5
      replace h6 := hidH h6
      replace h7 := hidH h7
      replace h8 := hidH h8
      replace h9 := hidH h9
      replace h10 := hidH h10
      replace h11 := hidH h11
      replace h12 := hidH h12
      replace h13 := hidH h13
      replace h14 := hidH h14
      have y0 := kg.cell 0
      have y1 := kg.cell 1
      have y2 := kg.cell 2
      have y3 := kg.cell 3
      have v0 := kg.frozen 0
      have v1 := kg.frozen 1
      have v2 := kg.frozen 2
      have v3 := kg.frozen 3
      simp only [List.getElem?_toArray, List.getElem?_cons_succ, List.getElem?_cons_zero] at y0 y1 y2 y3
      have hlt := kg.lt
      have FAR := hidH (fun (v0 : Value) (h : W.ownsRow B 2 1 v0 l.length (l.map (Value.int .i64))) => own_farT (own_farT (own_farT (own_farT (h) (kg) (by decide) 0 (.int .i64 nx)) ((kg).put 0 (.int .i64 nx)) (by decide) 1 (.int .i64 ak)) (((kg).put 0 (.int .i64 nx)).put 1 (.int .i64 ak)) (by decide) 2 (.slice B9 l.length d9)) ((((kg).put 0 (.int .i64 nx)).put 1 (.int .i64 ak)).put 2 (.slice B9 l.length d9)) (by decide) 3 (.slice none 0 0))
      have KS := hidH (show Blk (((((W).setCell ⟨g, 0, none⟩ (.int .i64 nx)).setCell ⟨g, 1, none⟩ (.int .i64 ak)).setCell ⟨g, 2, none⟩ (.slice B9 l.length d9)).setCell ⟨g, 3, none⟩ (.slice none 0 0)) g 47 #[.int .i64 nx, .int .i64 ak, .slice B9 l.length d9, .slice none 0 0] from ((((kg).put 0 (.int .i64 nx)).put 1 (.int .i64 ak)).put 2 (.slice B9 l.length d9)).put 3 (.slice none 0 0))
      clear kg
      go_wp2
      exact (HJ.out _ _ _).2 ⟨_, _, _, _, _, _, _, _, _, _, _, _, _, _, _, rfl, fun _ => hd6.out, (bst (bst (bst (bst hO hgw _) hgw _) hgw _) hgw _), h0.out, h1.out, h2.out, h3.out, h4.out, h5.out, h6.out, h7.out, h8.out, h9.out, h10.out, h11.out, fun h => by obtain ⟨A9, c9, q1, q2⟩ := h12.out h; exact ⟨A9, c9, q1, FAR.out _ q2⟩, fun _ => ⟨B9, d9, rfl, FAR.out _ p9⟩, (fun _ h2 => by simp at h2), fun _ => ⟨g, B9, d9, rfl, KS.out, FAR.out _ p9, hgw⟩⟩
    | n + 16, h => omega
  case fin =>
    clear hops hdeps hback
    rintro dn ac W hJ hall
    obtain ⟨t6, t7, t8, t9, t10, t11, t12, t13, t14, t15, t16, t17, t18, t19, t3, rfl, hE, hO, h0, h1, h2, h3, h4, h5, h6, h7, h8, h9, h10, h11, h12, h13, h14, h15⟩ := (HJ.out _ _ _).1 hJ
    exact fin _ _ _ _ _ _ _ _ _ _ _ _ _ _ _ W hO (h15 (hall 15 (by omega)))
end Go.Proofs.Ythljdikcpdokdaa
