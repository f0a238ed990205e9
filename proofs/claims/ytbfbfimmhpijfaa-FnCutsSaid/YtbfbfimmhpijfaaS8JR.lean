/- The regions of the model's l8Join and of the program's JoinPieces that draw their order. -/
import Derived.Test.YtbfbfimmhpijfaaNa1
import Derived.Test.YtbfbfimmhpijfaaApp
import Derived.Test.YtbfbfimmhpijfaaRegInv
namespace Go.Proofs.Ytbfbfimmhpijfaa
open Go.RowKit Go.Deep

theorem own_slice8 {w : World} {B s n : Nat} {e : TypeId} {v : Value} {xs : List Value} (h : w.ownsRow B e s v n xs) : ∃ (A : Option Addr) (m c : Nat), v = .slice A m c := by
  obtain ⟨_, ⟨h2, _⟩ | ⟨g, cap, cur, h3, _⟩⟩ := h
  · exact ⟨_, _, _, h2⟩
  · exact ⟨_, _, _, h3⟩
theorem own_far8 {w : World} {B s n : Nat} {e : TypeId} {v : Value} {xs : List Value} (h : w.ownsRow B e s v n xs) {R : Nat} (hR : R < B) (i : Nat) (u : Value) : (w.setCell ⟨R, i, none⟩ u).ownsRow B e s v n xs := by
  obtain ⟨h1, h2 | ⟨g, cap, cur, h3, h4, h5, h6⟩⟩ := h
  · exact ⟨h1, .inl h2⟩
  · exact ⟨h1, .inr ⟨g, cap, cur, h3, h4, (Below.heap_setCell _ _ _ _ (show g ≠ R by omega)).trans h5, h6⟩⟩
set_option maxRecDepth 100000 in
set_option maxHeartbeats 1000000 in
theorem regJ1 {Q : Exit → Act → World → Prop} (x2 : Value) (ww : World) (ga oa n c : Nat) (s : Int) (u : Bool)
    (hga : ga < ww.heap.size) (c1 : ww.cell? ⟨ga, oa + 1, none⟩ = some (.int .i64 s)) (c5 : ww.cell? ⟨ga, oa + 5, none⟩ = some (.bool u)) (hn : (0 : Int) < (n : Int)) {ops : Array Oper}
    (hops : (ops.map fun o => (o.op, o.dst, o.guard)) = #[(Op.move (Operand.tmp 0), some 5, none), (Op.indexAddr 28 (Operand.tmp 5) ((Operand.const (Value.int .i64 0))), some 6, none), (Op.fieldAddr 38 (Operand.tmp 6) 1, some 7, none), (Op.load 2 (Operand.tmp 7), some 8, none), (Op.move (Operand.tmp 0), some 9, none), (Op.indexAddr 28 (Operand.tmp 9) ((Operand.const (Value.int .i64 0))), some 10, none), (Op.fieldAddr 38 (Operand.tmp 10) 5, some 11, none), (Op.load 4 (Operand.tmp 11), some 12, none), (Op.build 25 #[(0, (Operand.tmp 8)), (1, (Operand.tmp 12))], some 13, none), (Op.alloc 25, some 3, none), (Op.store 25 (Operand.tmp 3) (Operand.tmp 13), none, none)])
    (hdeps : ((List.range 11).all fun i => ((fun i => [[], [0], [1], [2], [], [4], [5], [6], [3, 7], [], [8, 9]].getD i []) i).all fun j => ((ops[i]?).map fun o => o.after.any fun e => Region.binds .any e && e.on == j).getD false) = true)
    (hback : ((List.range 11).all fun i => ((ops[i]?).map fun o => o.after.all fun e => decide (e.on < i)).getD false) = true)
    {a0 : Act} {w0 : World} (ha : a0 = { tmps := #[.slice (some ⟨ga, oa, none⟩) n c, undef, x2, undef, undef, undef, undef, undef, undef, undef, undef, undef, undef, undef, undef, undef, undef, undef, undef, undef, undef, undef, undef, undef, undef, undef, undef, undef, undef, undef], defers := [] }) (hE : false = true → false = true) (hO : Below ww.heap.size ww w0)
    (fin : ∀ t5 t6 t7 t8 t9 t10 t11 t12 t13 t3 (W : World), (Below ww.heap.size ww W) → (∃ g : Nat, t3 = .pointer (some ⟨g, 0, none⟩) ∧ Blk W g 25 #[.int .i64 s, .bool u, .slice none 0 0] ∧ ww.heap.size ≤ g) → Q .normal { tmps := #[.slice (some ⟨ga, oa, none⟩) n c, undef, x2, t3, undef, t5, t6, t7, t8, t9, t10, t11, t12, t13, undef, undef, undef, undef, undef, undef, undef, undef, undef, undef, undef, undef, undef, undef, undef, undef], defers := [] } W) :
    wpAny Try.prog .any ops Q ops.size (Array.replicate ops.size false) a0 w0 := by
  have hn : ops.size = 11 := by have := congrArg Array.size hops; simpa using this
  obtain ⟨J, HJ⟩ : ∃ J : (Nat → Bool) → Act → World → Prop, ∀ dn ac W, J dn ac W ↔ (fun dn ac W => ∃ t5 t6 t7 t8 t9 t10 t11 t12 t13 t3, ac = { tmps := #[.slice (some ⟨ga, oa, none⟩) n c, undef, x2, t3, undef, t5, t6, t7, t8, t9, t10, t11, t12, t13, undef, undef, undef, undef, undef, undef, undef, undef, undef, undef, undef, undef, undef, undef, undef, undef], defers := [] } ∧ (dn 10 = true → dn 9 = true) ∧ (Below ww.heap.size ww W) ∧ (dn 0 = true → t5 = .slice (some ⟨ga, oa, none⟩) n c) ∧ (dn 1 = true → t6 = .pointer (some ⟨ga, oa, none⟩)) ∧ (dn 2 = true → t7 = .pointer (some ⟨ga, oa + 1, none⟩)) ∧ (dn 3 = true → t8 = .int .i64 s) ∧ (dn 4 = true → t9 = .slice (some ⟨ga, oa, none⟩) n c) ∧ (dn 5 = true → t10 = .pointer (some ⟨ga, oa, none⟩)) ∧ (dn 6 = true → t11 = .pointer (some ⟨ga, oa + 5, none⟩)) ∧ (dn 7 = true → t12 = .bool u) ∧ (dn 8 = true → t13 = .agg #[.int .i64 s, .bool u, .slice none 0 0]) ∧ (dn 9 = true → dn 10 = false → ∃ g : Nat, t3 = .pointer (some ⟨g, 0, none⟩) ∧ Blk W g 25 #[.int .i64 0, .bool false, .slice none 0 0] ∧ ww.heap.size ≤ g) ∧ (dn 10 = true → ∃ g : Nat, t3 = .pointer (some ⟨g, 0, none⟩) ∧ Blk W g 25 #[.int .i64 s, .bool u, .slice none 0 0] ∧ ww.heap.size ≤ g)) dn ac W := ⟨_, fun _ _ _ => Iff.rfl⟩
  replace HJ := hidH HJ
  refine region_inv 11 (fun i => [[], [0], [1], [2], [], [4], [5], [6], [3, 7], [], [8, 9]].getD i []) J hn hdeps hback ?start ?step ?fin
  case start => exact (HJ.out _ _ _).2 ⟨undef, undef, undef, undef, undef, undef, undef, undef, undef, undef, ha, hE, hO, fun h => by simp at h, fun h => by simp at h, fun h => by simp at h, fun h => by simp at h, fun h => by simp at h, fun h => by simp at h, fun h => by simp at h, fun h => by simp at h, fun h => by simp at h, fun h => by simp at h, fun h => by simp at h⟩
  all_goals clear ha hE hO
  case step =>
    clear fin hdeps hback
    intro i hi dn ac W hJ hdn hdep
    obtain ⟨t5, t6, t7, t8, t9, t10, t11, t12, t13, t3, rfl, hE, hO, h0, h1, h2, h3, h4, h5, h6, h7, h8, h9, h10⟩ := (HJ.out _ _ _).1 hJ
    clear hJ
    match i, hi with
    | 0, _ =>
      obtain ⟨ty, ps, af, ho⟩ := op_lit hops (i := 0) (op := Op.move (Operand.tmp 0)) (dst := some 5) (g := none) rfl
      refine wpOp_lit ho (fun j b h => by cases h) ?_
      clear hops hdep ho
      replace h1 := hidH h1
      replace h2 := hidH h2
      replace h3 := hidH h3
      replace h4 := hidH h4
      replace h5 := hidH h5
      replace h6 := hidH h6
      replace h7 := hidH h7
      replace h8 := hidH h8
      replace h9 := hidH h9
      replace h10 := hidH h10
      go_wp2
      exact (HJ.out _ _ _).2 ⟨_, _, _, _, _, _, _, _, _, _, rfl, hE, hO, fun _ => rfl, h1.out, h2.out, h3.out, h4.out, h5.out, h6.out, h7.out, h8.out, h9.out, h10.out⟩
    | 1, _ =>
      obtain ⟨ty, ps, af, ho⟩ := op_lit hops (i := 1) (op := Op.indexAddr 28 (Operand.tmp 5) ((Operand.const (Value.int .i64 0)))) (dst := some 6) (g := none) rfl
      obtain rfl := h0 (hdep 0 (by simp))
      refine wpOp_lit ho (fun j b h => by cases h) ?_
      clear hops hdep ho
      replace h0 := hidH h0
      replace h2 := hidH h2
      replace h3 := hidH h3
      replace h4 := hidH h4
      replace h5 := hidH h5
      replace h6 := hidH h6
      replace h7 := hidH h7
      replace h8 := hidH h8
      replace h9 := hidH h9
      replace h10 := hidH h10
      go_wp2
      exact (HJ.out _ _ _).2 ⟨_, _, _, _, _, _, _, _, _, _, rfl, hE, hO, fun _ => rfl, fun _ => rfl, h2.out, h3.out, h4.out, h5.out, h6.out, h7.out, h8.out, h9.out, h10.out⟩
    | 2, _ =>
      obtain ⟨ty, ps, af, ho⟩ := op_lit hops (i := 2) (op := Op.fieldAddr 38 (Operand.tmp 6) 1) (dst := some 7) (g := none) rfl
      obtain rfl := h1 (hdep 1 (by simp))
      refine wpOp_lit ho (fun j b h => by cases h) ?_
      clear hops hdep ho
      replace h0 := hidH h0
      replace h1 := hidH h1
      replace h3 := hidH h3
      replace h4 := hidH h4
      replace h5 := hidH h5
      replace h6 := hidH h6
      replace h7 := hidH h7
      replace h8 := hidH h8
      replace h9 := hidH h9
      replace h10 := hidH h10
      go_wp2
      exact (HJ.out _ _ _).2 ⟨_, _, _, _, _, _, _, _, _, _, rfl, hE, hO, h0.out, fun _ => rfl, fun _ => rfl, h3.out, h4.out, h5.out, h6.out, h7.out, h8.out, h9.out, h10.out⟩
    | 3, _ =>
      obtain ⟨ty, ps, af, ho⟩ := op_lit hops (i := 3) (op := Op.load 2 (Operand.tmp 7)) (dst := some 8) (g := none) rfl
      obtain rfl := h2 (hdep 2 (by simp))
      refine wpOp_lit ho (fun j b h => by cases h) ?_
      clear hops hdep ho
      replace h0 := hidH h0
      replace h1 := hidH h1
      replace h2 := hidH h2
      replace h4 := hidH h4
      replace h5 := hidH h5
      replace h6 := hidH h6
      replace h7 := hidH h7
      replace h8 := hidH h8
      replace h9 := hidH h9
      replace h10 := hidH h10
      have q := (hO.cell (p := ⟨ga, oa + 1, none⟩) hga).trans c1
      go_wp2
      exact (HJ.out _ _ _).2 ⟨_, _, _, _, _, _, _, _, _, _, rfl, hE, hO, h0.out, h1.out, fun _ => rfl, fun _ => rfl, h4.out, h5.out, h6.out, h7.out, h8.out, h9.out, h10.out⟩
    | 4, _ =>
      obtain ⟨ty, ps, af, ho⟩ := op_lit hops (i := 4) (op := Op.move (Operand.tmp 0)) (dst := some 9) (g := none) rfl
      refine wpOp_lit ho (fun j b h => by cases h) ?_
      clear hops hdep ho
      replace h0 := hidH h0
      replace h1 := hidH h1
      replace h2 := hidH h2
      replace h3 := hidH h3
      replace h5 := hidH h5
      replace h6 := hidH h6
      replace h7 := hidH h7
      replace h8 := hidH h8
      replace h9 := hidH h9
      replace h10 := hidH h10
      go_wp2
      exact (HJ.out _ _ _).2 ⟨_, _, _, _, _, _, _, _, _, _, rfl, hE, hO, h0.out, h1.out, h2.out, h3.out, fun _ => rfl, h5.out, h6.out, h7.out, h8.out, h9.out, h10.out⟩
    | 5, _ =>
      obtain ⟨ty, ps, af, ho⟩ := op_lit hops (i := 5) (op := Op.indexAddr 28 (Operand.tmp 9) ((Operand.const (Value.int .i64 0)))) (dst := some 10) (g := none) rfl
      obtain rfl := h4 (hdep 4 (by simp))
      refine wpOp_lit ho (fun j b h => by cases h) ?_
      clear hops hdep ho
      replace h0 := hidH h0
      replace h1 := hidH h1
      replace h2 := hidH h2
      replace h3 := hidH h3
      replace h4 := hidH h4
      replace h6 := hidH h6
      replace h7 := hidH h7
      replace h8 := hidH h8
      replace h9 := hidH h9
      replace h10 := hidH h10
      go_wp2
      exact (HJ.out _ _ _).2 ⟨_, _, _, _, _, _, _, _, _, _, rfl, hE, hO, h0.out, h1.out, h2.out, h3.out, fun _ => rfl, fun _ => rfl, h6.out, h7.out, h8.out, h9.out, h10.out⟩
    | 6, _ =>
      obtain ⟨ty, ps, af, ho⟩ := op_lit hops (i := 6) (op := Op.fieldAddr 38 (Operand.tmp 10) 5) (dst := some 11) (g := none) rfl
      obtain rfl := h5 (hdep 5 (by simp))
      refine wpOp_lit ho (fun j b h => by cases h) ?_
      clear hops hdep ho
      replace h0 := hidH h0
      replace h1 := hidH h1
      replace h2 := hidH h2
      replace h3 := hidH h3
      replace h4 := hidH h4
      replace h5 := hidH h5
      replace h7 := hidH h7
      replace h8 := hidH h8
      replace h9 := hidH h9
      replace h10 := hidH h10
      go_wp2
      exact (HJ.out _ _ _).2 ⟨_, _, _, _, _, _, _, _, _, _, rfl, hE, hO, h0.out, h1.out, h2.out, h3.out, h4.out, fun _ => rfl, fun _ => rfl, h7.out, h8.out, h9.out, h10.out⟩
    | 7, _ =>
      obtain ⟨ty, ps, af, ho⟩ := op_lit hops (i := 7) (op := Op.load 4 (Operand.tmp 11)) (dst := some 12) (g := none) rfl
      obtain rfl := h6 (hdep 6 (by simp))
      refine wpOp_lit ho (fun j b h => by cases h) ?_
      clear hops hdep ho
      replace h0 := hidH h0
      replace h1 := hidH h1
      replace h2 := hidH h2
      replace h3 := hidH h3
      replace h4 := hidH h4
      replace h5 := hidH h5
      replace h6 := hidH h6
      replace h8 := hidH h8
      replace h9 := hidH h9
      replace h10 := hidH h10
      have q := (hO.cell (p := ⟨ga, oa + 5, none⟩) hga).trans c5
      go_wp2
      exact (HJ.out _ _ _).2 ⟨_, _, _, _, _, _, _, _, _, _, rfl, hE, hO, h0.out, h1.out, h2.out, h3.out, h4.out, h5.out, fun _ => rfl, fun _ => rfl, h8.out, h9.out, h10.out⟩
    | 8, _ =>
      obtain ⟨ty, ps, af, ho⟩ := op_lit hops (i := 8) (op := Op.build 25 #[(0, (Operand.tmp 8)), (1, (Operand.tmp 12))]) (dst := some 13) (g := none) rfl
      obtain rfl := h3 (hdep 3 (by simp))
      obtain rfl := h7 (hdep 7 (by simp))
      refine wpOp_lit ho (fun j b h => by cases h) ?_
      clear hops hdep ho
      replace h0 := hidH h0
      replace h1 := hidH h1
      replace h2 := hidH h2
      replace h3 := hidH h3
      replace h4 := hidH h4
      replace h5 := hidH h5
      replace h6 := hidH h6
      replace h7 := hidH h7
      replace h9 := hidH h9
      replace h10 := hidH h10
      go_wp2
      exact (HJ.out _ _ _).2 ⟨_, _, _, _, _, _, _, _, _, _, rfl, hE, hO, h0.out, h1.out, h2.out, fun _ => rfl, h4.out, h5.out, h6.out, fun _ => rfl, fun _ => rfl, h9.out, h10.out⟩
    | 9, _ =>
      obtain ⟨ty, ps, af, ho⟩ := op_lit hops (i := 9) (op := Op.alloc 25) (dst := some 3) (g := none) rfl
      refine wpOp_lit ho (fun j b h => by cases h) ?_
      clear hops hdep ho
      replace h0 := hidH h0
      replace h1 := hidH h1
      replace h2 := hidH h2
      replace h3 := hidH h3
      replace h4 := hidH h4
      replace h5 := hidH h5
      replace h6 := hidH h6
      replace h7 := hidH h7
      replace h8 := hidH h8
      replace h10 := hidH h10
      have hb := bal (Below.refl W.heap.size W) (.cells #[.int .i64 0, .bool false, .slice none 0 0] 25)
      have KG := hidH (Blk.new W 25 #[.int .i64 0, .bool false, .slice none 0 0])
      have hG0 := hO.size
      go_wp2
      exact (HJ.out _ _ _).2 ⟨_, _, _, _, _, _, _, _, _, _, rfl, fun _ => rfl, btr hO hb, h0.out, h1.out, h2.out, h3.out, h4.out, h5.out, h6.out, h7.out, h8.out, fun _ => fun _ => ⟨_, rfl, KG.out, hG0⟩, (fun h => by have h3 : dn 9 = true := hE h; rw [hdn] at h3; cases h3)⟩
    | 10, _ =>
      obtain ⟨ty, ps, af, ho⟩ := op_lit hops (i := 10) (op := Op.store 25 (Operand.tmp 3) (Operand.tmp 13)) (dst := none) (g := none) rfl
      have hd9 := hidH (hdep 9 (by simp))
      obtain ⟨g, rfl, kg, hgw⟩ := h9 (hdep 9 (by simp)) hdn
      obtain rfl := h8 (hdep 8 (by simp))
      refine wpOp_lit ho (fun j b h => by cases h) ?_
      clear hops hdep ho
      replace h0 := hidH h0
      replace h1 := hidH h1
      replace h2 := hidH h2
      replace h3 := hidH h3
      replace h4 := hidH h4
      replace h5 := hidH h5
      replace h6 := hidH h6
      replace h7 := hidH h7
      replace h8 := hidH h8
      replace h9 := hidH h9
      have y0 := kg.cell 0
      have y1 := kg.cell 1
      have y2 := kg.cell 2
      have v0 := kg.frozen 0
      have v1 := kg.frozen 1
      have v2 := kg.frozen 2
      simp only [List.getElem?_toArray, List.getElem?_cons_succ, List.getElem?_cons_zero] at y0 y1 y2
      have hlt := kg.lt
      have KS := hidH (show Blk (((W.setCell ⟨g, 0, none⟩ (.int .i64 s)).setCell ⟨g, 1, none⟩ (.bool u)).setCell ⟨g, 2, none⟩ (.slice none 0 0)) g 25 #[.int .i64 s, .bool u, .slice none 0 0] from ((kg.put 0 _).put 1 _).put 2 _)
      clear kg
      go_wp2
      exact (HJ.out _ _ _).2 ⟨_, _, _, _, _, _, _, _, _, _, rfl, fun _ => hd9.out, (bst (bst (bst hO hgw _) hgw _) hgw _), h0.out, h1.out, h2.out, h3.out, h4.out, h5.out, h6.out, h7.out, fun _ => rfl, (fun _ h2 => by simp at h2), fun _ => ⟨g, rfl, KS.out, hgw⟩⟩
    | n + 11, h => omega
  case fin =>
    clear hops hdeps hback
    rintro dn ac W hJ hall
    obtain ⟨t5, t6, t7, t8, t9, t10, t11, t12, t13, t3, rfl, hE, hO, h0, h1, h2, h3, h4, h5, h6, h7, h8, h9, h10⟩ := (HJ.out _ _ _).1 hJ
    exact fin _ _ _ _ _ _ _ _ _ _ W hO (h10 (hall 10 (by omega)))
set_option maxRecDepth 100000 in
set_option maxHeartbeats 1000000 in
theorem regJ5 {Q : Exit → Act → World → Prop} (x1 x2 x5 x6 x7 x8 x9 x10 x11 x12 x13 x14 x15 x16 x17 x18 x19 u_20 u_21 u_22 u_23 u_24 u_25 u_26 u_27 u_28 x29 : Value) (ww : World) (g ga oa n c j cA : Nat) (A : Option Addr) (s : Int) (u : Bool) (v : Value) (l m : List Int)
    (hj0 : (0 : Int) ≤ (j : Int)) (hj1 : (j : Int) < (n : Int)) (HC : ∀ W : World, Below g ww W → W.cell? ⟨ga, oa + j * 7 + 6, none⟩ = some (.slice A m.length cA)) (HA : ∀ W : World, Below g ww W → Bs W A m) (hmm : l.length + m.length ≤ 4000000) {ops : Array Oper}
    (hops : (ops.map fun o => (o.op, o.dst, o.guard)) = #[(Op.fieldAddr 25 (Operand.tmp 3) 2, some 20, none), (Op.load 22 (Operand.tmp 20), some 21, none), (Op.move (Operand.tmp 0), some 22, none), (Op.move (Operand.tmp 4), some 23, none), (Op.indexAddr 28 (Operand.tmp 22) (Operand.tmp 23), some 24, none), (Op.fieldAddr 38 (Operand.tmp 24) 6, some 25, none), (Op.load 22 (Operand.tmp 25), some 26, none), (Op.call { callee := Callee.builtin Builtin.append, args := #[(Operand.tmp 21), (Operand.tmp 26)], argTypes := #[22, 22] }, some 27, none), (Op.fieldAddr 25 (Operand.tmp 3) 2, some 28, none), (Op.store 22 (Operand.tmp 28) (Operand.tmp 27), none, none)])
    (hdeps : ((List.range 10).all fun i => ((fun i => [[], [0], [], [], [2, 3], [4], [5], [1, 6], [], [7, 8]].getD i []) i).all fun j => ((ops[i]?).map fun o => o.after.any fun e => Region.binds .any e && e.on == j).getD false) = true)
    (hback : ((List.range 10).all fun i => ((ops[i]?).map fun o => o.after.all fun e => decide (e.on < i)).getD false) = true)
    {a0 : Act} {w0 : World} (ha : a0 = { tmps := #[.slice (some ⟨ga, oa, none⟩) n c, x1, x2, .pointer (some ⟨g, 0, none⟩), .int .i64 (j : Int), x5, x6, x7, x8, x9, x10, x11, x12, x13, x14, x15, x16, x17, x18, x19, u_20, u_21, u_22, u_23, u_24, u_25, u_26, u_27, u_28, x29], defers := [] }) (hE : (false = true → false = true) ∧ (false = true → false = true)) (hP : false = false → Blk w0 g 25 #[.int .i64 s, .bool u, v]) (hG : false = false → w0.ownsRow (g + 1) 5 1 v l.length (l.map (Value.int .u8))) (hO : Below g ww w0) (hL : g + 1 ≤ w0.heap.size)
    (fin : ∀ t20 t21 t22 t23 t24 t25 t26 t27 t28 (W : World), (Below g ww W) → (g + 1 ≤ W.heap.size) → (∃ v2, Blk W g 25 #[.int .i64 s, .bool u, v2] ∧ W.ownsRow (g + 1) 5 1 v2 (l.length + m.length) (l.map (Value.int .u8) ++ m.map (Value.int .u8))) → Q .normal { tmps := #[.slice (some ⟨ga, oa, none⟩) n c, x1, x2, .pointer (some ⟨g, 0, none⟩), .int .i64 (j : Int), x5, x6, x7, x8, x9, x10, x11, x12, x13, x14, x15, x16, x17, x18, x19, t20, t21, t22, t23, t24, t25, t26, t27, t28, x29], defers := [] } W) :
    wpAny Try.prog .any ops Q ops.size (Array.replicate ops.size false) a0 w0 := by
  have hn : ops.size = 10 := by have := congrArg Array.size hops; simpa using this
  obtain ⟨J, HJ⟩ : ∃ J : (Nat → Bool) → Act → World → Prop, ∀ dn ac W, J dn ac W ↔ (fun dn ac W => ∃ t20 t21 t22 t23 t24 t25 t26 t27 t28, ac = { tmps := #[.slice (some ⟨ga, oa, none⟩) n c, x1, x2, .pointer (some ⟨g, 0, none⟩), .int .i64 (j : Int), x5, x6, x7, x8, x9, x10, x11, x12, x13, x14, x15, x16, x17, x18, x19, t20, t21, t22, t23, t24, t25, t26, t27, t28, x29], defers := [] } ∧ ((dn 9 = true → dn 7 = true) ∧ (dn 7 = true → dn 1 = true)) ∧ (dn 9 = false → Blk W g 25 #[.int .i64 s, .bool u, v]) ∧ (dn 7 = false → W.ownsRow (g + 1) 5 1 v l.length (l.map (Value.int .u8))) ∧ (Below g ww W) ∧ (g + 1 ≤ W.heap.size) ∧ (dn 0 = true → t20 = .pointer (some ⟨g, 2, none⟩)) ∧ (dn 1 = true → t21 = v) ∧ (dn 2 = true → t22 = .slice (some ⟨ga, oa, none⟩) n c) ∧ (dn 3 = true → t23 = .int .i64 (j : Int)) ∧ (dn 4 = true → t24 = .pointer (some ⟨ga, oa + j * 7, none⟩)) ∧ (dn 5 = true → t25 = .pointer (some ⟨ga, oa + j * 7 + 6, none⟩)) ∧ (dn 6 = true → t26 = .slice A m.length cA) ∧ (dn 7 = true → dn 9 = false → W.ownsRow (g + 1) 5 1 t27 (l.length + m.length) (l.map (Value.int .u8) ++ m.map (Value.int .u8))) ∧ (dn 8 = true → t28 = .pointer (some ⟨g, 2, none⟩)) ∧ (dn 9 = true → ∃ v2, Blk W g 25 #[.int .i64 s, .bool u, v2] ∧ W.ownsRow (g + 1) 5 1 v2 (l.length + m.length) (l.map (Value.int .u8) ++ m.map (Value.int .u8)))) dn ac W := ⟨_, fun _ _ _ => Iff.rfl⟩
  replace HJ := hidH HJ
  refine region_inv 10 (fun i => [[], [0], [], [], [2, 3], [4], [5], [1, 6], [], [7, 8]].getD i []) J hn hdeps hback ?start ?step ?fin
  case start => exact (HJ.out _ _ _).2 ⟨u_20, u_21, u_22, u_23, u_24, u_25, u_26, u_27, u_28, ha, hE, hP, hG, hO, hL, fun h => by simp at h, fun h => by simp at h, fun h => by simp at h, fun h => by simp at h, fun h => by simp at h, fun h => by simp at h, fun h => by simp at h, fun h => by simp at h, fun h => by simp at h, fun h => by simp at h⟩
  all_goals clear ha hE hP hG hO hL
  case step =>
    clear fin hdeps hback
    intro i hi dn ac W hJ hdn hdep
    obtain ⟨t20, t21, t22, t23, t24, t25, t26, t27, t28, rfl, hE, hP, hG, hO, hL, h0, h1, h2, h3, h4, h5, h6, h7, h8, h9⟩ := (HJ.out _ _ _).1 hJ
    clear hJ
    match i, hi with
    | 0, _ =>
      obtain ⟨ty, ps, af, ho⟩ := op_lit hops (i := 0) (op := Op.fieldAddr 25 (Operand.tmp 3) 2) (dst := some 20) (g := none) rfl
      refine wpOp_lit ho (fun j b h => by cases h) ?_
      clear hops hdep ho
      replace h1 := hidH h1
      replace h2 := hidH h2
      replace h3 := hidH h3
      replace h4 := hidH h4
      replace h5 := hidH h5
      replace h6 := hidH h6
      replace h7 := hidH h7
      replace h8 := hidH h8
      replace h9 := hidH h9
      go_wp2
      exact (HJ.out _ _ _).2 ⟨_, _, _, _, _, _, _, _, _, rfl, hE, hP, hG, hO, hL, fun _ => rfl, h1.out, h2.out, h3.out, h4.out, h5.out, h6.out, h7.out, h8.out, h9.out⟩
    | 1, _ =>
      obtain ⟨ty, ps, af, ho⟩ := op_lit hops (i := 1) (op := Op.load 22 (Operand.tmp 20)) (dst := some 21) (g := none) rfl
      have hk9 : dn 9 = false := by
        rcases hq : dn 9 with _ | _
        · rfl
        · have h3 : dn 1 = true := hE.2 (hE.1 hq)
          rw [hdn] at h3; cases h3
      obtain rfl := h0 (hdep 0 (by simp))
      refine wpOp_lit ho (fun j b h => by cases h) ?_
      clear hops hdep ho
      replace h0 := hidH h0
      replace h2 := hidH h2
      replace h3 := hidH h3
      replace h4 := hidH h4
      replace h5 := hidH h5
      replace h6 := hidH h6
      replace h7 := hidH h7
      replace h8 := hidH h8
      replace h9 := hidH h9
      have kp := hP hk9
      have q1 := kp.cell 2
      simp only [List.getElem?_toArray, List.getElem?_cons_succ, List.getElem?_cons_zero] at q1
      go_wp2
      exact (HJ.out _ _ _).2 ⟨_, _, _, _, _, _, _, _, _, rfl, ⟨hE.1, fun _ => rfl⟩, hP, hG, hO, hL, fun _ => rfl, fun _ => rfl, h2.out, h3.out, h4.out, h5.out, h6.out, fun h h2 => h7.out h h2, h8.out, fun h => h9.out h⟩
    | 2, _ =>
      obtain ⟨ty, ps, af, ho⟩ := op_lit hops (i := 2) (op := Op.move (Operand.tmp 0)) (dst := some 22) (g := none) rfl
      refine wpOp_lit ho (fun j b h => by cases h) ?_
      clear hops hdep ho
      replace h0 := hidH h0
      replace h1 := hidH h1
      replace h3 := hidH h3
      replace h4 := hidH h4
      replace h5 := hidH h5
      replace h6 := hidH h6
      replace h7 := hidH h7
      replace h8 := hidH h8
      replace h9 := hidH h9
      go_wp2
      exact (HJ.out _ _ _).2 ⟨_, _, _, _, _, _, _, _, _, rfl, hE, hP, hG, hO, hL, h0.out, h1.out, fun _ => rfl, h3.out, h4.out, h5.out, h6.out, h7.out, h8.out, h9.out⟩
    | 3, _ =>
      obtain ⟨ty, ps, af, ho⟩ := op_lit hops (i := 3) (op := Op.move (Operand.tmp 4)) (dst := some 23) (g := none) rfl
      refine wpOp_lit ho (fun j b h => by cases h) ?_
      clear hops hdep ho
      replace h0 := hidH h0
      replace h1 := hidH h1
      replace h2 := hidH h2
      replace h4 := hidH h4
      replace h5 := hidH h5
      replace h6 := hidH h6
      replace h7 := hidH h7
      replace h8 := hidH h8
      replace h9 := hidH h9
      go_wp2
      exact (HJ.out _ _ _).2 ⟨_, _, _, _, _, _, _, _, _, rfl, hE, hP, hG, hO, hL, h0.out, h1.out, h2.out, fun _ => rfl, h4.out, h5.out, h6.out, h7.out, h8.out, h9.out⟩
    | 4, _ =>
      obtain ⟨ty, ps, af, ho⟩ := op_lit hops (i := 4) (op := Op.indexAddr 28 (Operand.tmp 22) (Operand.tmp 23)) (dst := some 24) (g := none) rfl
      obtain rfl := h2 (hdep 2 (by simp))
      obtain rfl := h3 (hdep 3 (by simp))
      refine wpOp_lit ho (fun j b h => by cases h) ?_
      clear hops hdep ho
      replace h0 := hidH h0
      replace h1 := hidH h1
      replace h2 := hidH h2
      replace h3 := hidH h3
      replace h5 := hidH h5
      replace h6 := hidH h6
      replace h7 := hidH h7
      replace h8 := hidH h8
      replace h9 := hidH h9
      go_wp2
      exact (HJ.out _ _ _).2 ⟨_, _, _, _, _, _, _, _, _, rfl, hE, hP, hG, hO, hL, h0.out, h1.out, fun _ => rfl, fun _ => rfl, fun _ => rfl, h5.out, h6.out, h7.out, h8.out, h9.out⟩
    | 5, _ =>
      obtain ⟨ty, ps, af, ho⟩ := op_lit hops (i := 5) (op := Op.fieldAddr 38 (Operand.tmp 24) 6) (dst := some 25) (g := none) rfl
      obtain rfl := h4 (hdep 4 (by simp))
      refine wpOp_lit ho (fun j b h => by cases h) ?_
      clear hops hdep ho
      replace h0 := hidH h0
      replace h1 := hidH h1
      replace h2 := hidH h2
      replace h3 := hidH h3
      replace h4 := hidH h4
      replace h6 := hidH h6
      replace h7 := hidH h7
      replace h8 := hidH h8
      replace h9 := hidH h9
      go_wp2
      exact (HJ.out _ _ _).2 ⟨_, _, _, _, _, _, _, _, _, rfl, hE, hP, hG, hO, hL, h0.out, h1.out, h2.out, h3.out, fun _ => rfl, fun _ => rfl, h6.out, h7.out, h8.out, h9.out⟩
    | 6, _ =>
      obtain ⟨ty, ps, af, ho⟩ := op_lit hops (i := 6) (op := Op.load 22 (Operand.tmp 25)) (dst := some 26) (g := none) rfl
      obtain rfl := h5 (hdep 5 (by simp))
      refine wpOp_lit ho (fun j b h => by cases h) ?_
      clear hops hdep ho
      replace h0 := hidH h0
      replace h1 := hidH h1
      replace h2 := hidH h2
      replace h3 := hidH h3
      replace h4 := hidH h4
      replace h5 := hidH h5
      replace h7 := hidH h7
      replace h8 := hidH h8
      replace h9 := hidH h9
      have q1 := HC W hO
      go_wp2
      exact (HJ.out _ _ _).2 ⟨_, _, _, _, _, _, _, _, _, rfl, hE, hP, hG, hO, hL, h0.out, h1.out, h2.out, h3.out, h4.out, fun _ => rfl, fun _ => rfl, h7.out, h8.out, h9.out⟩
    | 7, _ =>
      obtain ⟨ty, ps, af, ho⟩ := op_lit hops (i := 7) (op := Op.call { callee := Callee.builtin Builtin.append, args := #[(Operand.tmp 21), (Operand.tmp 26)], argTypes := #[22, 22] }) (dst := some 27) (g := none) rfl
      have hd1 := hidH (hdep 1 (by simp))
      obtain rfl := h1 (hdep 1 (by simp))
      obtain rfl := h6 (hdep 6 (by simp))
      refine wpOp_lit ho (fun j b h => by cases h) ?_
      clear hops hdep ho
      replace h0 := hidH h0
      replace h1 := hidH h1
      replace h2 := hidH h2
      replace h3 := hidH h3
      replace h4 := hidH h4
      replace h5 := hidH h5
      replace h6 := hidH h6
      replace h8 := hidH h8
      replace h9 := hidH h9
      have gk := hidH (hG hdn)
      have ha := hidH (HA W hO)
      have hL2 := hL
      go_wp2_with (at_builtin; go_loud (refine wpList_append_bs rfl _ _ rfl (g + 1) _ _ _ rfl gk.out A m cA rfl ha.out hmm hL2 ?_))
      intro v6 w6 o6 hg
      have hb := (Below.refl (g + 1) W).grown hg hL2 (fun x hx => (gk.out.lt x hx).1)
      have O6 := hidH o6
      clear o6 hg
      go_wp2
      exact (HJ.out _ _ _).2 ⟨_, _, _, _, _, _, _, _, _, rfl, ⟨(fun _ => rfl), (fun _ => hd1.out)⟩, (fun h => (hb.block g (Nat.lt_succ_self g)).trans (hP h)), (fun h2 => by simp at h2), hO.trans (hb.mono (Nat.le_succ g)), Nat.le_trans hL hb.size, h0.out, fun _ => rfl, h2.out, h3.out, h4.out, h5.out, fun _ => rfl, fun _ => fun _ => O6.out, h8.out, (fun h => by have h3 : dn 7 = true := hE.1 h; rw [hdn] at h3; cases h3)⟩
    | 8, _ =>
      obtain ⟨ty, ps, af, ho⟩ := op_lit hops (i := 8) (op := Op.fieldAddr 25 (Operand.tmp 3) 2) (dst := some 28) (g := none) rfl
      refine wpOp_lit ho (fun j b h => by cases h) ?_
      clear hops hdep ho
      replace h0 := hidH h0
      replace h1 := hidH h1
      replace h2 := hidH h2
      replace h3 := hidH h3
      replace h4 := hidH h4
      replace h5 := hidH h5
      replace h6 := hidH h6
      replace h7 := hidH h7
      replace h9 := hidH h9
      go_wp2
      exact (HJ.out _ _ _).2 ⟨_, _, _, _, _, _, _, _, _, rfl, hE, hP, hG, hO, hL, h0.out, h1.out, h2.out, h3.out, h4.out, h5.out, h6.out, h7.out, fun _ => rfl, h9.out⟩
    | 9, _ =>
      obtain ⟨ty, ps, af, ho⟩ := op_lit hops (i := 9) (op := Op.store 22 (Operand.tmp 28) (Operand.tmp 27)) (dst := none) (g := none) rfl
      have hd7 := hidH (hdep 7 (by simp))
      have o8 := h7 (hdep 7 (by simp)) hdn
      obtain ⟨A6, n6, c6, rfl⟩ := own_slice8 o8
      replace h7 := hidH h7
      obtain rfl := h8 (hdep 8 (by simp))
      refine wpOp_lit ho (fun j b h => by cases h) ?_
      clear hops hdep ho
      replace h0 := hidH h0
      replace h1 := hidH h1
      replace h2 := hidH h2
      replace h3 := hidH h3
      replace h4 := hidH h4
      replace h5 := hidH h5
      replace h6 := hidH h6
      replace h7 := hidH h7
      replace h8 := hidH h8
      have kp := hP hdn
      have x1 := kp.cell 2
      simp only [List.getElem?_toArray, List.getElem?_cons_succ, List.getElem?_cons_zero] at x1
      have f1 := kp.frozen 2
      have hlt := kp.lt
      have KS := hidH (show Blk (W.setCell ⟨g, 2, none⟩ (.slice A6 n6 c6)) g 25 #[.int .i64 s, .bool u, .slice A6 n6 c6] from kp.put 2 _)
      have O7 := hidH (own_far8 o8 (Nat.lt_succ_self g) 2 (.slice A6 n6 c6))
      clear o8
      go_wp2
      exact (HJ.out _ _ _).2 ⟨_, _, _, _, _, _, _, _, _, rfl, ⟨(fun _ => hd7.out), hE.2⟩, (fun h2 => by simp at h2), (fun h2 => by have h3 : dn 7 = false := h2; rw [hd7.out] at h3; cases h3), hO.setCell (p := ⟨g, 2, none⟩) (Nat.le_refl g) _, (by simpa [World.setCell] using hL), h0.out, h1.out, h2.out, h3.out, h4.out, h5.out, h6.out, (fun _ h2 => by simp at h2), fun _ => rfl, fun _ => ⟨_, KS.out, O7.out⟩⟩
    | n + 10, h => omega
  case fin =>
    clear hops hdeps hback
    rintro dn ac W hJ hall
    obtain ⟨t20, t21, t22, t23, t24, t25, t26, t27, t28, rfl, hE, hP, hG, hO, hL, h0, h1, h2, h3, h4, h5, h6, h7, h8, h9⟩ := (HJ.out _ _ _).1 hJ
    exact fin _ _ _ _ _ _ _ _ _ W hO hL (h9 (hall 9 (by omega)))
set_option maxRecDepth 100000 in
set_option maxHeartbeats 1000000 in
theorem regJI {Q : Exit → Act → World → Prop} (x2 x3 x8 x9 x10 x11 x12 x13 : Value) (ww : World) (ga oa n c : Nat) (s : Int) (u : Bool)
    (hga : ga < ww.heap.size) (c1 : ww.cell? ⟨ga, oa + 1, none⟩ = some (.int .i64 s)) (c5 : ww.cell? ⟨ga, oa + 5, none⟩ = some (.bool u)) (hn : (0 : Int) < (n : Int)) {ops : Array Oper}
    (hops : (ops.map fun o => (o.op, o.dst, o.guard)) = #[(Op.move (Operand.tmp 0), some 14, none), (Op.indexAddr 28 (Operand.tmp 14) ((Operand.const (Value.int .i64 0))), some 15, none), (Op.fieldAddr 38 (Operand.tmp 15) 1, some 16, none), (Op.load 2 (Operand.tmp 16), some 17, none), (Op.move (Operand.tmp 0), some 18, none), (Op.indexAddr 28 (Operand.tmp 18) ((Operand.const (Value.int .i64 0))), some 19, none), (Op.fieldAddr 38 (Operand.tmp 19) 5, some 20, none), (Op.load 4 (Operand.tmp 20), some 21, none), (Op.build 25 #[(0, (Operand.tmp 17)), (1, (Operand.tmp 21))], some 22, none), (Op.alloc 25, some 4, none), (Op.store 25 (Operand.tmp 4) (Operand.tmp 22), none, none)])
    (hdeps : ((List.range 11).all fun i => ((fun i => [[], [0], [1], [2], [], [4], [5], [6], [3, 7], [], [8, 9]].getD i []) i).all fun j => ((ops[i]?).map fun o => o.after.any fun e => Region.binds .any e && e.on == j).getD false) = true)
    (hback : ((List.range 11).all fun i => ((ops[i]?).map fun o => o.after.all fun e => decide (e.on < i)).getD false) = true)
    {a0 : Act} {w0 : World} (ha : a0 = { tmps := #[.slice (some ⟨ga, oa, none⟩) n c, undef, x2, x3, undef, undef, undef, undef, x8, x9, x10, x11, x12, x13, undef, undef, undef, undef, undef, undef, undef, undef, undef, undef, undef, undef, undef, undef, undef, undef, undef, undef, undef, undef, undef, undef, undef, undef, undef, undef, undef, undef, undef, undef], defers := [] }) (hE : false = true → false = true) (hO : Below ww.heap.size ww w0)
    (fin : ∀ t14 t15 t16 t17 t18 t19 t20 t21 t22 t4 (W : World), (Below ww.heap.size ww W) → (∃ g : Nat, t4 = .pointer (some ⟨g, 0, none⟩) ∧ Blk W g 25 #[.int .i64 s, .bool u, .slice none 0 0] ∧ ww.heap.size ≤ g) → Q .normal { tmps := #[.slice (some ⟨ga, oa, none⟩) n c, undef, x2, x3, t4, undef, undef, undef, x8, x9, x10, x11, x12, x13, t14, t15, t16, t17, t18, t19, t20, t21, t22, undef, undef, undef, undef, undef, undef, undef, undef, undef, undef, undef, undef, undef, undef, undef, undef, undef, undef, undef, undef, undef], defers := [] } W) :
    wpAny Try.prog .any ops Q ops.size (Array.replicate ops.size false) a0 w0 := by
  have hn : ops.size = 11 := by have := congrArg Array.size hops; simpa using this
  obtain ⟨J, HJ⟩ : ∃ J : (Nat → Bool) → Act → World → Prop, ∀ dn ac W, J dn ac W ↔ (fun dn ac W => ∃ t14 t15 t16 t17 t18 t19 t20 t21 t22 t4, ac = { tmps := #[.slice (some ⟨ga, oa, none⟩) n c, undef, x2, x3, t4, undef, undef, undef, x8, x9, x10, x11, x12, x13, t14, t15, t16, t17, t18, t19, t20, t21, t22, undef, undef, undef, undef, undef, undef, undef, undef, undef, undef, undef, undef, undef, undef, undef, undef, undef, undef, undef, undef, undef], defers := [] } ∧ (dn 10 = true → dn 9 = true) ∧ (Below ww.heap.size ww W) ∧ (dn 0 = true → t14 = .slice (some ⟨ga, oa, none⟩) n c) ∧ (dn 1 = true → t15 = .pointer (some ⟨ga, oa, none⟩)) ∧ (dn 2 = true → t16 = .pointer (some ⟨ga, oa + 1, none⟩)) ∧ (dn 3 = true → t17 = .int .i64 s) ∧ (dn 4 = true → t18 = .slice (some ⟨ga, oa, none⟩) n c) ∧ (dn 5 = true → t19 = .pointer (some ⟨ga, oa, none⟩)) ∧ (dn 6 = true → t20 = .pointer (some ⟨ga, oa + 5, none⟩)) ∧ (dn 7 = true → t21 = .bool u) ∧ (dn 8 = true → t22 = .agg #[.int .i64 s, .bool u, .slice none 0 0]) ∧ (dn 9 = true → dn 10 = false → ∃ g : Nat, t4 = .pointer (some ⟨g, 0, none⟩) ∧ Blk W g 25 #[.int .i64 0, .bool false, .slice none 0 0] ∧ ww.heap.size ≤ g) ∧ (dn 10 = true → ∃ g : Nat, t4 = .pointer (some ⟨g, 0, none⟩) ∧ Blk W g 25 #[.int .i64 s, .bool u, .slice none 0 0] ∧ ww.heap.size ≤ g)) dn ac W := ⟨_, fun _ _ _ => Iff.rfl⟩
  replace HJ := hidH HJ
  refine region_inv 11 (fun i => [[], [0], [1], [2], [], [4], [5], [6], [3, 7], [], [8, 9]].getD i []) J hn hdeps hback ?start ?step ?fin
  case start => exact (HJ.out _ _ _).2 ⟨undef, undef, undef, undef, undef, undef, undef, undef, undef, undef, ha, hE, hO, fun h => by simp at h, fun h => by simp at h, fun h => by simp at h, fun h => by simp at h, fun h => by simp at h, fun h => by simp at h, fun h => by simp at h, fun h => by simp at h, fun h => by simp at h, fun h => by simp at h, fun h => by simp at h⟩
  all_goals clear ha hE hO
  case step =>
    clear fin hdeps hback
    intro i hi dn ac W hJ hdn hdep
    obtain ⟨t14, t15, t16, t17, t18, t19, t20, t21, t22, t4, rfl, hE, hO, h0, h1, h2, h3, h4, h5, h6, h7, h8, h9, h10⟩ := (HJ.out _ _ _).1 hJ
    clear hJ
    match i, hi with
    | 0, _ =>
      obtain ⟨ty, ps, af, ho⟩ := op_lit hops (i := 0) (op := Op.move (Operand.tmp 0)) (dst := some 14) (g := none) rfl
      refine wpOp_lit ho (fun j b h => by cases h) ?_
      clear hops hdep ho
      replace h1 := hidH h1
      replace h2 := hidH h2
      replace h3 := hidH h3
      replace h4 := hidH h4
      replace h5 := hidH h5
      replace h6 := hidH h6
      replace h7 := hidH h7
      replace h8 := hidH h8
      replace h9 := hidH h9
      replace h10 := hidH h10
      go_wp2
      exact (HJ.out _ _ _).2 ⟨_, _, _, _, _, _, _, _, _, _, rfl, hE, hO, fun _ => rfl, h1.out, h2.out, h3.out, h4.out, h5.out, h6.out, h7.out, h8.out, h9.out, h10.out⟩
    | 1, _ =>
      obtain ⟨ty, ps, af, ho⟩ := op_lit hops (i := 1) (op := Op.indexAddr 28 (Operand.tmp 14) ((Operand.const (Value.int .i64 0)))) (dst := some 15) (g := none) rfl
      obtain rfl := h0 (hdep 0 (by simp))
      refine wpOp_lit ho (fun j b h => by cases h) ?_
      clear hops hdep ho
      replace h0 := hidH h0
      replace h2 := hidH h2
      replace h3 := hidH h3
      replace h4 := hidH h4
      replace h5 := hidH h5
      replace h6 := hidH h6
      replace h7 := hidH h7
      replace h8 := hidH h8
      replace h9 := hidH h9
      replace h10 := hidH h10
      go_wp2
      exact (HJ.out _ _ _).2 ⟨_, _, _, _, _, _, _, _, _, _, rfl, hE, hO, fun _ => rfl, fun _ => rfl, h2.out, h3.out, h4.out, h5.out, h6.out, h7.out, h8.out, h9.out, h10.out⟩
    | 2, _ =>
      obtain ⟨ty, ps, af, ho⟩ := op_lit hops (i := 2) (op := Op.fieldAddr 38 (Operand.tmp 15) 1) (dst := some 16) (g := none) rfl
      obtain rfl := h1 (hdep 1 (by simp))
      refine wpOp_lit ho (fun j b h => by cases h) ?_
      clear hops hdep ho
      replace h0 := hidH h0
      replace h1 := hidH h1
      replace h3 := hidH h3
      replace h4 := hidH h4
      replace h5 := hidH h5
      replace h6 := hidH h6
      replace h7 := hidH h7
      replace h8 := hidH h8
      replace h9 := hidH h9
      replace h10 := hidH h10
      go_wp2
      exact (HJ.out _ _ _).2 ⟨_, _, _, _, _, _, _, _, _, _, rfl, hE, hO, h0.out, fun _ => rfl, fun _ => rfl, h3.out, h4.out, h5.out, h6.out, h7.out, h8.out, h9.out, h10.out⟩
    | 3, _ =>
      obtain ⟨ty, ps, af, ho⟩ := op_lit hops (i := 3) (op := Op.load 2 (Operand.tmp 16)) (dst := some 17) (g := none) rfl
      obtain rfl := h2 (hdep 2 (by simp))
      refine wpOp_lit ho (fun j b h => by cases h) ?_
      clear hops hdep ho
      replace h0 := hidH h0
      replace h1 := hidH h1
      replace h2 := hidH h2
      replace h4 := hidH h4
      replace h5 := hidH h5
      replace h6 := hidH h6
      replace h7 := hidH h7
      replace h8 := hidH h8
      replace h9 := hidH h9
      replace h10 := hidH h10
      have q := (hO.cell (p := ⟨ga, oa + 1, none⟩) hga).trans c1
      go_wp2
      exact (HJ.out _ _ _).2 ⟨_, _, _, _, _, _, _, _, _, _, rfl, hE, hO, h0.out, h1.out, fun _ => rfl, fun _ => rfl, h4.out, h5.out, h6.out, h7.out, h8.out, h9.out, h10.out⟩
    | 4, _ =>
      obtain ⟨ty, ps, af, ho⟩ := op_lit hops (i := 4) (op := Op.move (Operand.tmp 0)) (dst := some 18) (g := none) rfl
      refine wpOp_lit ho (fun j b h => by cases h) ?_
      clear hops hdep ho
      replace h0 := hidH h0
      replace h1 := hidH h1
      replace h2 := hidH h2
      replace h3 := hidH h3
      replace h5 := hidH h5
      replace h6 := hidH h6
      replace h7 := hidH h7
      replace h8 := hidH h8
      replace h9 := hidH h9
      replace h10 := hidH h10
      go_wp2
      exact (HJ.out _ _ _).2 ⟨_, _, _, _, _, _, _, _, _, _, rfl, hE, hO, h0.out, h1.out, h2.out, h3.out, fun _ => rfl, h5.out, h6.out, h7.out, h8.out, h9.out, h10.out⟩
    | 5, _ =>
      obtain ⟨ty, ps, af, ho⟩ := op_lit hops (i := 5) (op := Op.indexAddr 28 (Operand.tmp 18) ((Operand.const (Value.int .i64 0)))) (dst := some 19) (g := none) rfl
      obtain rfl := h4 (hdep 4 (by simp))
      refine wpOp_lit ho (fun j b h => by cases h) ?_
      clear hops hdep ho
      replace h0 := hidH h0
      replace h1 := hidH h1
      replace h2 := hidH h2
      replace h3 := hidH h3
      replace h4 := hidH h4
      replace h6 := hidH h6
      replace h7 := hidH h7
      replace h8 := hidH h8
      replace h9 := hidH h9
      replace h10 := hidH h10
      go_wp2
      exact (HJ.out _ _ _).2 ⟨_, _, _, _, _, _, _, _, _, _, rfl, hE, hO, h0.out, h1.out, h2.out, h3.out, fun _ => rfl, fun _ => rfl, h6.out, h7.out, h8.out, h9.out, h10.out⟩
    | 6, _ =>
      obtain ⟨ty, ps, af, ho⟩ := op_lit hops (i := 6) (op := Op.fieldAddr 38 (Operand.tmp 19) 5) (dst := some 20) (g := none) rfl
      obtain rfl := h5 (hdep 5 (by simp))
      refine wpOp_lit ho (fun j b h => by cases h) ?_
      clear hops hdep ho
      replace h0 := hidH h0
      replace h1 := hidH h1
      replace h2 := hidH h2
      replace h3 := hidH h3
      replace h4 := hidH h4
      replace h5 := hidH h5
      replace h7 := hidH h7
      replace h8 := hidH h8
      replace h9 := hidH h9
      replace h10 := hidH h10
      go_wp2
      exact (HJ.out _ _ _).2 ⟨_, _, _, _, _, _, _, _, _, _, rfl, hE, hO, h0.out, h1.out, h2.out, h3.out, h4.out, fun _ => rfl, fun _ => rfl, h7.out, h8.out, h9.out, h10.out⟩
    | 7, _ =>
      obtain ⟨ty, ps, af, ho⟩ := op_lit hops (i := 7) (op := Op.load 4 (Operand.tmp 20)) (dst := some 21) (g := none) rfl
      obtain rfl := h6 (hdep 6 (by simp))
      refine wpOp_lit ho (fun j b h => by cases h) ?_
      clear hops hdep ho
      replace h0 := hidH h0
      replace h1 := hidH h1
      replace h2 := hidH h2
      replace h3 := hidH h3
      replace h4 := hidH h4
      replace h5 := hidH h5
      replace h6 := hidH h6
      replace h8 := hidH h8
      replace h9 := hidH h9
      replace h10 := hidH h10
      have q := (hO.cell (p := ⟨ga, oa + 5, none⟩) hga).trans c5
      go_wp2
      exact (HJ.out _ _ _).2 ⟨_, _, _, _, _, _, _, _, _, _, rfl, hE, hO, h0.out, h1.out, h2.out, h3.out, h4.out, h5.out, fun _ => rfl, fun _ => rfl, h8.out, h9.out, h10.out⟩
    | 8, _ =>
      obtain ⟨ty, ps, af, ho⟩ := op_lit hops (i := 8) (op := Op.build 25 #[(0, (Operand.tmp 17)), (1, (Operand.tmp 21))]) (dst := some 22) (g := none) rfl
      obtain rfl := h3 (hdep 3 (by simp))
      obtain rfl := h7 (hdep 7 (by simp))
      refine wpOp_lit ho (fun j b h => by cases h) ?_
      clear hops hdep ho
      replace h0 := hidH h0
      replace h1 := hidH h1
      replace h2 := hidH h2
      replace h3 := hidH h3
      replace h4 := hidH h4
      replace h5 := hidH h5
      replace h6 := hidH h6
      replace h7 := hidH h7
      replace h9 := hidH h9
      replace h10 := hidH h10
      go_wp2
      exact (HJ.out _ _ _).2 ⟨_, _, _, _, _, _, _, _, _, _, rfl, hE, hO, h0.out, h1.out, h2.out, fun _ => rfl, h4.out, h5.out, h6.out, fun _ => rfl, fun _ => rfl, h9.out, h10.out⟩
    | 9, _ =>
      obtain ⟨ty, ps, af, ho⟩ := op_lit hops (i := 9) (op := Op.alloc 25) (dst := some 4) (g := none) rfl
      refine wpOp_lit ho (fun j b h => by cases h) ?_
      clear hops hdep ho
      replace h0 := hidH h0
      replace h1 := hidH h1
      replace h2 := hidH h2
      replace h3 := hidH h3
      replace h4 := hidH h4
      replace h5 := hidH h5
      replace h6 := hidH h6
      replace h7 := hidH h7
      replace h8 := hidH h8
      replace h10 := hidH h10
      have hb := bal (Below.refl W.heap.size W) (.cells #[.int .i64 0, .bool false, .slice none 0 0] 25)
      have KG := hidH (Blk.new W 25 #[.int .i64 0, .bool false, .slice none 0 0])
      have hG0 := hO.size
      go_wp2
      exact (HJ.out _ _ _).2 ⟨_, _, _, _, _, _, _, _, _, _, rfl, fun _ => rfl, btr hO hb, h0.out, h1.out, h2.out, h3.out, h4.out, h5.out, h6.out, h7.out, h8.out, fun _ => fun _ => ⟨_, rfl, KG.out, hG0⟩, (fun h => by have h3 : dn 9 = true := hE h; rw [hdn] at h3; cases h3)⟩
    | 10, _ =>
      obtain ⟨ty, ps, af, ho⟩ := op_lit hops (i := 10) (op := Op.store 25 (Operand.tmp 4) (Operand.tmp 22)) (dst := none) (g := none) rfl
      have hd9 := hidH (hdep 9 (by simp))
      obtain ⟨g, rfl, kg, hgw⟩ := h9 (hdep 9 (by simp)) hdn
      obtain rfl := h8 (hdep 8 (by simp))
      refine wpOp_lit ho (fun j b h => by cases h) ?_
      clear hops hdep ho
      replace h0 := hidH h0
      replace h1 := hidH h1
      replace h2 := hidH h2
      replace h3 := hidH h3
      replace h4 := hidH h4
      replace h5 := hidH h5
      replace h6 := hidH h6
      replace h7 := hidH h7
      replace h8 := hidH h8
      replace h9 := hidH h9
      have y0 := kg.cell 0
      have y1 := kg.cell 1
      have y2 := kg.cell 2
      have v0 := kg.frozen 0
      have v1 := kg.frozen 1
      have v2 := kg.frozen 2
      simp only [List.getElem?_toArray, List.getElem?_cons_succ, List.getElem?_cons_zero] at y0 y1 y2
      have hlt := kg.lt
      have KS := hidH (show Blk (((W.setCell ⟨g, 0, none⟩ (.int .i64 s)).setCell ⟨g, 1, none⟩ (.bool u)).setCell ⟨g, 2, none⟩ (.slice none 0 0)) g 25 #[.int .i64 s, .bool u, .slice none 0 0] from ((kg.put 0 _).put 1 _).put 2 _)
      clear kg
      go_wp2
      exact (HJ.out _ _ _).2 ⟨_, _, _, _, _, _, _, _, _, _, rfl, fun _ => hd9.out, (bst (bst (bst hO hgw _) hgw _) hgw _), h0.out, h1.out, h2.out, h3.out, h4.out, h5.out, h6.out, h7.out, fun _ => rfl, (fun _ h2 => by simp at h2), fun _ => ⟨g, rfl, KS.out, hgw⟩⟩
    | n + 11, h => omega
  case fin =>
    clear hops hdeps hback
    rintro dn ac W hJ hall
    obtain ⟨t14, t15, t16, t17, t18, t19, t20, t21, t22, t4, rfl, hE, hO, h0, h1, h2, h3, h4, h5, h6, h7, h8, h9, h10⟩ := (HJ.out _ _ _).1 hJ
    exact fin _ _ _ _ _ _ _ _ _ _ W hO (h10 (hall 10 (by omega)))
end Go.Proofs.Ytbfbfimmhpijfaa
