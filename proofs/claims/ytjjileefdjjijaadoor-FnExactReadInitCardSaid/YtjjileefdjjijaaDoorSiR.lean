/- The regions of the model's ReadInit that draw their order. -/
import Derived.Test.YtjjileefdjjijaaDoorSdR
import Derived.Test.YtjjileefdjjijaaDoorS5QR
import Derived.Test.YtjjileefdjjijaaDoorTyInit
namespace Go.Proofs.YtjjileefdjjijaaDoor
open Go.RowKit Go.Deep

theorem own_far5 {w : World} {B s n g : Nat} {e t : TypeId} {v : Value} {xs : List Value} {cs : Array Value} (h : w.ownsRow B e s v n xs) (k : Blk w g t cs) (ht : t ≠ e) (a0 a1 a2 a3 a4 : Value) :
    (((((w.setCell ⟨g, 0, none⟩ a0).setCell ⟨g, 1, none⟩ a1).setCell ⟨g, 2, none⟩ a2).setCell ⟨g, 3, none⟩ a3).setCell ⟨g, 4, none⟩ a4).ownsRow B e s v n xs :=
  own_farT (own_farT (own_farT (own_farT (own_farT h k ht 0 a0) (k.put 0 a0) ht 1 a1) ((k.put 0 a0).put 1 a1) ht 2 a2) (((k.put 0 a0).put 1 a1).put 2 a2) ht 3 a3) ((((k.put 0 a0).put 1 a1).put 2 a2).put 3 a3) ht 4 a4
theorem blk5 {w : World} {g : Nat} {t : TypeId} {b0 b1 b2 b3 b4 : Value} (k : Blk w g t #[b0, b1, b2, b3, b4]) (a0 a1 a2 a3 a4 : Value) :
    Blk (((((w.setCell ⟨g, 0, none⟩ a0).setCell ⟨g, 1, none⟩ a1).setCell ⟨g, 2, none⟩ a2).setCell ⟨g, 3, none⟩ a3).setCell ⟨g, 4, none⟩ a4) g t #[a0, a1, a2, a3, a4] := by
  have k0 : Blk (w.setCell ⟨g, 0, none⟩ a0) g t #[a0, b1, b2, b3, b4] := k.put 0 a0
  have k1 : Blk ((w.setCell ⟨g, 0, none⟩ a0).setCell ⟨g, 1, none⟩ a1) g t #[a0, a1, b2, b3, b4] := k0.put 1 a1
  obtain ⟨w1, h1⟩ : ∃ w1, (w.setCell ⟨g, 0, none⟩ a0).setCell ⟨g, 1, none⟩ a1 = w1 := ⟨_, rfl⟩
  rw [h1] at k1 ⊢
  have k2 : Blk (w1.setCell ⟨g, 2, none⟩ a2) g t #[a0, a1, a2, b3, b4] := k1.put 2 a2
  have k3 : Blk ((w1.setCell ⟨g, 2, none⟩ a2).setCell ⟨g, 3, none⟩ a3) g t #[a0, a1, a2, a3, b4] := k2.put 3 a3
  exact k3.put 4 a4
set_option maxRecDepth 100000 in
set_option maxHeartbeats 1000000 in
theorem regSi {Q : Exit → Act → World → Prop} (x0 x2 x3 x4 x12 x13 x14 x15 x16 x17 x18 x19 x20 x21 x22 x23 : Value) (ww : World) (k m c c8 : Nat) (A2 A8 : Option Addr) (l8 : List Int) (z0 z1 : Int)
    (hkl : k < ww.heap.size) (hk2 : ww.cell? ⟨k, 2, none⟩ = some (.slice A2 m c))
    (HSL : Hid (∀ u : World, (Instr.slice 22 (.slice A2 m c) (some (.int .i64 8)) (some (.int .i64 24)) none).run Tryd.prog u = .ok (.slice A8 16 c8) u))
    (CH0 : ∀ u : World, Below ww.heap.size ww u → Calls Tryd.prog 81 #[.slice A2 m c, .int .i64 0] u fun e w' => e = .returned (.int .i64 z0) ∧ Below u.heap.size u w')
    (CH1 : ∀ u : World, Below ww.heap.size ww u → Calls Tryd.prog 81 #[.slice A2 m c, .int .i64 4] u fun e w' => e = .returned (.int .i64 z1) ∧ Below u.heap.size u w')
    (HCP : ∀ u : World, Below ww.heap.size ww u → Calls Tryd.prog 83 #[.slice A8 16 c8] u fun e w' => ∃ v, e = .returned v ∧ w'.ownsRow u.heap.size 5 1 v 16 (l8.map (Value.int .u8)) ∧ Below u.heap.size u w') {ops : Array Oper}
    (hops : (ops.map fun o => (o.op, o.dst, o.guard)) = #[(Op.fieldAddr 28 (Operand.tmp 1) 2, some 24, none), (Op.load 22 (Operand.tmp 24), some 25, none), (Op.call { callee := Callee.value (Operand.func 81), args := #[(Operand.tmp 25), (Operand.const (Value.int .i64 0))], argTypes := #[22, 2] }, some 26, none), (Op.fieldAddr 28 (Operand.tmp 1) 2, some 27, none), (Op.load 22 (Operand.tmp 27), some 28, none), (Op.call { callee := Callee.value (Operand.func 81), args := #[(Operand.tmp 28), (Operand.const (Value.int .i64 4))], argTypes := #[22, 2] }, some 29, none), (Op.fieldAddr 28 (Operand.tmp 1) 2, some 30, none), (Op.load 22 (Operand.tmp 30), some 31, none), (Op.slice 22 (Operand.tmp 31) (some ((Operand.const (Value.int .i64 8)))) (some ((Operand.const (Value.int .i64 24)))) none, some 32, none), (Op.call { callee := Callee.value (Operand.func 83), args := #[(Operand.tmp 32)], argTypes := #[22] }, some 33, none), (Op.build 39 #[(0, (Operand.tmp 26)), (1, (Operand.tmp 29)), (2, (Operand.tmp 33))], some 34, none), (Op.alloc 39, some 5, none), (Op.store 39 (Operand.tmp 5) (Operand.tmp 34), none, none)])
    (hdeps : ((List.range 13).all fun i => ((fun i => [[], [0], [1], [], [3], [4], [], [6], [7], [8], [2, 5, 9], [], [10, 11]].getD i []) i).all fun j => ((ops[i]?).map fun o => o.after.any fun e => Region.binds .any e && e.on == j).getD false) = true)
    (hback : ((List.range 13).all fun i => ((ops[i]?).map fun o => o.after.all fun e => decide (e.on < i)).getD false) = true)
    {a0 : Act} {w0 : World} (ha : a0 = { tmps := #[x0, .pointer (some ⟨k, 0, none⟩), x2, x3, x4, undef, undef, undef, undef, undef, undef, undef, x12, x13, x14, x15, x16, x17, x18, x19, x20, x21, x22, x23, undef, undef, undef, undef, undef, undef, undef, undef, undef, undef, undef, undef, undef, undef, undef, undef, undef, undef, undef, undef, undef, undef, undef, undef, undef, undef, undef, undef, undef, undef, undef, undef, undef, undef, undef, undef, undef, undef, undef, undef, undef, undef, undef, undef, undef, undef, undef, undef, undef, undef, undef, undef, undef, undef, undef, undef, undef, undef, undef, undef], defers := [] }) (hE : false = true → false = true) (hO : Below ww.heap.size ww w0)
    (fin : ∀ t24 t25 t26 t27 t28 t29 t30 t31 t32 t33 t34 t5 (W : World), (Below ww.heap.size ww W) → (∃ (g : Nat) (A9 : Option Addr) (c9 : Nat), t5 = .pointer (some ⟨g, 0, none⟩) ∧ Blk W g 39 #[.int .i64 z0, .int .i64 z1, .slice A9 16 c9, .slice none 0 0, .slice none 0 0] ∧ W.ownsRow ww.heap.size 5 1 (.slice A9 16 c9) 16 (l8.map (Value.int .u8)) ∧ ww.heap.size ≤ g) → Q .normal { tmps := #[x0, .pointer (some ⟨k, 0, none⟩), x2, x3, x4, t5, undef, undef, undef, undef, undef, undef, x12, x13, x14, x15, x16, x17, x18, x19, x20, x21, x22, x23, t24, t25, t26, t27, t28, t29, t30, t31, t32, t33, t34, undef, undef, undef, undef, undef, undef, undef, undef, undef, undef, undef, undef, undef, undef, undef, undef, undef, undef, undef, undef, undef, undef, undef, undef, undef, undef, undef, undef, undef, undef, undef, undef, undef, undef, undef, undef, undef, undef, undef, undef, undef, undef, undef, undef, undef, undef, undef, undef, undef], defers := [] } W) :
    wpAny Tryd.prog .any ops Q ops.size (Array.replicate ops.size false) a0 w0 := by
  have hn : ops.size = 13 := by have := congrArg Array.size hops; simpa using this
  obtain ⟨J, HJ⟩ : ∃ J : (Nat → Bool) → Act → World → Prop, ∀ dn ac W, J dn ac W ↔ (fun dn ac W => ∃ t24 t25 t26 t27 t28 t29 t30 t31 t32 t33 t34 t5, ac = { tmps := #[x0, .pointer (some ⟨k, 0, none⟩), x2, x3, x4, t5, undef, undef, undef, undef, undef, undef, x12, x13, x14, x15, x16, x17, x18, x19, x20, x21, x22, x23, t24, t25, t26, t27, t28, t29, t30, t31, t32, t33, t34, undef, undef, undef, undef, undef, undef, undef, undef, undef, undef, undef, undef, undef, undef, undef, undef, undef, undef, undef, undef, undef, undef, undef, undef, undef, undef, undef, undef, undef, undef, undef, undef, undef, undef, undef, undef, undef, undef, undef, undef, undef, undef, undef, undef, undef, undef, undef, undef, undef], defers := [] } ∧ (dn 12 = true → dn 11 = true) ∧ (Below ww.heap.size ww W) ∧ (dn 0 = true → t24 = .pointer (some ⟨k, 2, none⟩)) ∧ (dn 1 = true → t25 = .slice A2 m c) ∧ (dn 2 = true → t26 = .int .i64 z0) ∧ (dn 3 = true → t27 = .pointer (some ⟨k, 2, none⟩)) ∧ (dn 4 = true → t28 = .slice A2 m c) ∧ (dn 5 = true → t29 = .int .i64 z1) ∧ (dn 6 = true → t30 = .pointer (some ⟨k, 2, none⟩)) ∧ (dn 7 = true → t31 = .slice A2 m c) ∧ (dn 8 = true → t32 = .slice A8 16 c8) ∧ (dn 9 = true → ∃ (A9 : Option Addr) (c9 : Nat), t33 = .slice A9 16 c9 ∧ W.ownsRow ww.heap.size 5 1 (.slice A9 16 c9) 16 (l8.map (Value.int .u8))) ∧ (dn 10 = true → ∃ (A9 : Option Addr) (c9 : Nat), t34 = .agg #[.int .i64 z0, .int .i64 z1, .slice A9 16 c9, .slice none 0 0, .slice none 0 0] ∧ W.ownsRow ww.heap.size 5 1 (.slice A9 16 c9) 16 (l8.map (Value.int .u8))) ∧ (dn 11 = true → dn 12 = false → ∃ g : Nat, t5 = .pointer (some ⟨g, 0, none⟩) ∧ Blk W g 39 #[.int .i64 0, .int .i64 0, .slice none 0 0, .slice none 0 0, .slice none 0 0] ∧ ww.heap.size ≤ g) ∧ (dn 12 = true → ∃ (g : Nat) (A9 : Option Addr) (c9 : Nat), t5 = .pointer (some ⟨g, 0, none⟩) ∧ Blk W g 39 #[.int .i64 z0, .int .i64 z1, .slice A9 16 c9, .slice none 0 0, .slice none 0 0] ∧ W.ownsRow ww.heap.size 5 1 (.slice A9 16 c9) 16 (l8.map (Value.int .u8)) ∧ ww.heap.size ≤ g)) dn ac W := ⟨_, fun _ _ _ => Iff.rfl⟩
  replace HJ := hidH HJ
  refine region_inv 13 (fun i => [[], [0], [1], [], [3], [4], [], [6], [7], [8], [2, 5, 9], [], [10, 11]].getD i []) J hn hdeps hback ?start ?step ?fin
  case start => exact (HJ.out _ _ _).2 ⟨undef, undef, undef, undef, undef, undef, undef, undef, undef, undef, undef, undef, ha, hE, hO, fun h => by simp at h, fun h => by simp at h, fun h => by simp at h, fun h => by simp at h, fun h => by simp at h, fun h => by simp at h, fun h => by simp at h, fun h => by simp at h, fun h => by simp at h, fun h => by simp at h, fun h => by simp at h, fun h => by simp at h, fun h => by simp at h⟩
  all_goals clear ha hE hO
  case step =>
    clear fin hdeps hback
    intro i hi dn ac W hJ hdn hdep
    obtain ⟨t24, t25, t26, t27, t28, t29, t30, t31, t32, t33, t34, t5, rfl, hE, hO, h0, h1, h2, h3, h4, h5, h6, h7, h8, h9, h10, h11, h12⟩ := (HJ.out _ _ _).1 hJ
    clear hJ
    match i, hi with
    | 0, _ =>
      obtain ⟨ty, ps, af, ho⟩ := op_lit hops (i := 0) (op := Op.fieldAddr 28 (Operand.tmp 1) 2) (dst := some 24) (g := none) rfl
      refine wpOp_lit ho (fun j b h => by cases h) ?_
      clear hops hdep ho
      replace h1 := hidH h1
      replace h2 := hidH h2
      replace h3 := hidH h3
      replace h4 := hidH h4
      replace h5 := hidH h5
      replace h6 := hidH h6
      replace h7 := hidH h7
      replace h8 := hidH h8
      replace h9 := hidH h9
      replace h10 := hidH h10
      replace h11 := hidH h11
      replace h12 := hidH h12
      go_wp2
      exact (HJ.out _ _ _).2 ⟨_, _, _, _, _, _, _, _, _, _, _, _, rfl, hE, hO, fun _ => rfl, h1.out, h2.out, h3.out, h4.out, h5.out, h6.out, h7.out, h8.out, h9.out, h10.out, h11.out, h12.out⟩
    | 1, _ =>
      obtain ⟨ty, ps, af, ho⟩ := op_lit hops (i := 1) (op := Op.load 22 (Operand.tmp 24)) (dst := some 25) (g := none) rfl
      obtain rfl := h0 (hdep 0 (by simp))
      refine wpOp_lit ho (fun j b h => by cases h) ?_
      clear hops hdep ho
      replace h0 := hidH h0
      replace h2 := hidH h2
      replace h3 := hidH h3
      replace h4 := hidH h4
      replace h5 := hidH h5
      replace h6 := hidH h6
      replace h7 := hidH h7
      replace h8 := hidH h8
      replace h9 := hidH h9
      replace h10 := hidH h10
      replace h11 := hidH h11
      replace h12 := hidH h12
      have hb := Below.refl W.heap.size W
      have q1 := (hO.cell (p := ⟨k, 2, none⟩) hkl).trans hk2
      go_wp2
      exact (HJ.out _ _ _).2 ⟨_, _, _, _, _, _, _, _, _, _, _, _, rfl, hE, btr hO hb, fun _ => rfl, fun _ => rfl, h2.out, h3.out, h4.out, h5.out, h6.out, h7.out, h8.out, fun h => by obtain ⟨A9, c9, q1, q2⟩ := h9.out h; exact ⟨A9, c9, q1, own_below0 q2 hb⟩, fun h => by obtain ⟨A9, c9, q1, q2⟩ := h10.out h; exact ⟨A9, c9, q1, own_below0 q2 hb⟩, (fun h h2 => by obtain ⟨g, q1, q2, q3⟩ := h11.out h h2; exact ⟨g, q1, q2.below hb, q3⟩), fun h => by obtain ⟨g, A9, c9, q1, q2, q3, q4⟩ := h12.out h; exact ⟨g, A9, c9, q1, q2.below hb, own_below0 q3 hb, q4⟩⟩
    | 2, _ =>
      obtain ⟨ty, ps, af, ho⟩ := op_lit hops (i := 2) (op := Op.call { callee := Callee.value (Operand.func 81), args := #[(Operand.tmp 25), (Operand.const (Value.int .i64 0))], argTypes := #[22, 2] }) (dst := some 26) (g := none) rfl
      obtain rfl := h1 (hdep 1 (by simp))
      refine wpOp_lit ho (fun j b h => by cases h) ?_
      clear hops hdep ho
      replace h0 := hidH h0
      replace h1 := hidH h1
      replace h3 := hidH h3
      replace h4 := hidH h4
      replace h5 := hidH h5
      replace h6 := hidH h6
      replace h7 := hidH h7
      replace h8 := hidH h8
      replace h9 := hidH h9
      replace h10 := hidH h10
      replace h11 := hidH h11
      replace h12 := hidH h12
      go_wp2_with fail
      refine (CH0 _ hO).mono ?_
      rintro e w1 ⟨rfl, hb⟩
      go_wp2
      exact (HJ.out _ _ _).2 ⟨_, _, _, _, _, _, _, _, _, _, _, _, rfl, hE, btr hO hb, h0.out, fun _ => rfl, fun _ => rfl, h3.out, h4.out, h5.out, h6.out, h7.out, h8.out, fun h => by obtain ⟨A9, c9, q1, q2⟩ := h9.out h; exact ⟨A9, c9, q1, own_below0 q2 hb⟩, fun h => by obtain ⟨A9, c9, q1, q2⟩ := h10.out h; exact ⟨A9, c9, q1, own_below0 q2 hb⟩, (fun h h2 => by obtain ⟨g, q1, q2, q3⟩ := h11.out h h2; exact ⟨g, q1, q2.below hb, q3⟩), fun h => by obtain ⟨g, A9, c9, q1, q2, q3, q4⟩ := h12.out h; exact ⟨g, A9, c9, q1, q2.below hb, own_below0 q3 hb, q4⟩⟩
    | 3, _ =>
      obtain ⟨ty, ps, af, ho⟩ := op_lit hops (i := 3) (op := Op.fieldAddr 28 (Operand.tmp 1) 2) (dst := some 27) (g := none) rfl
      refine wpOp_lit ho (fun j b h => by cases h) ?_
      clear hops hdep ho
      replace h0 := hidH h0
      replace h1 := hidH h1
      replace h2 := hidH h2
      replace h4 := hidH h4
      replace h5 := hidH h5
      replace h6 := hidH h6
      replace h7 := hidH h7
      replace h8 := hidH h8
      replace h9 := hidH h9
      replace h10 := hidH h10
      replace h11 := hidH h11
      replace h12 := hidH h12
      go_wp2
      exact (HJ.out _ _ _).2 ⟨_, _, _, _, _, _, _, _, _, _, _, _, rfl, hE, hO, h0.out, h1.out, h2.out, fun _ => rfl, h4.out, h5.out, h6.out, h7.out, h8.out, h9.out, h10.out, h11.out, h12.out⟩
    | 4, _ =>
      obtain ⟨ty, ps, af, ho⟩ := op_lit hops (i := 4) (op := Op.load 22 (Operand.tmp 27)) (dst := some 28) (g := none) rfl
      obtain rfl := h3 (hdep 3 (by simp))
      refine wpOp_lit ho (fun j b h => by cases h) ?_
      clear hops hdep ho
      replace h0 := hidH h0
      replace h1 := hidH h1
      replace h2 := hidH h2
      replace h3 := hidH h3
      replace h5 := hidH h5
      replace h6 := hidH h6
      replace h7 := hidH h7
      replace h8 := hidH h8
      replace h9 := hidH h9
      replace h10 := hidH h10
      replace h11 := hidH h11
      replace h12 := hidH h12
      have hb := Below.refl W.heap.size W
      have q1 := (hO.cell (p := ⟨k, 2, none⟩) hkl).trans hk2
      go_wp2
      exact (HJ.out _ _ _).2 ⟨_, _, _, _, _, _, _, _, _, _, _, _, rfl, hE, btr hO hb, h0.out, h1.out, h2.out, fun _ => rfl, fun _ => rfl, h5.out, h6.out, h7.out, h8.out, fun h => by obtain ⟨A9, c9, q1, q2⟩ := h9.out h; exact ⟨A9, c9, q1, own_below0 q2 hb⟩, fun h => by obtain ⟨A9, c9, q1, q2⟩ := h10.out h; exact ⟨A9, c9, q1, own_below0 q2 hb⟩, (fun h h2 => by obtain ⟨g, q1, q2, q3⟩ := h11.out h h2; exact ⟨g, q1, q2.below hb, q3⟩), fun h => by obtain ⟨g, A9, c9, q1, q2, q3, q4⟩ := h12.out h; exact ⟨g, A9, c9, q1, q2.below hb, own_below0 q3 hb, q4⟩⟩
    | 5, _ =>
      obtain ⟨ty, ps, af, ho⟩ := op_lit hops (i := 5) (op := Op.call { callee := Callee.value (Operand.func 81), args := #[(Operand.tmp 28), (Operand.const (Value.int .i64 4))], argTypes := #[22, 2] }) (dst := some 29) (g := none) rfl
      obtain rfl := h4 (hdep 4 (by simp))
      refine wpOp_lit ho (fun j b h => by cases h) ?_
      clear hops hdep ho
      replace h0 := hidH h0
      replace h1 := hidH h1
      replace h2 := hidH h2
      replace h3 := hidH h3
      replace h4 := hidH h4
      replace h6 := hidH h6
      replace h7 := hidH h7
      replace h8 := hidH h8
      replace h9 := hidH h9
      replace h10 := hidH h10
      replace h11 := hidH h11
      replace h12 := hidH h12
      go_wp2_with fail
      refine (CH1 _ hO).mono ?_
      rintro e w1 ⟨rfl, hb⟩
      go_wp2
      exact (HJ.out _ _ _).2 ⟨_, _, _, _, _, _, _, _, _, _, _, _, rfl, hE, btr hO hb, h0.out, h1.out, h2.out, h3.out, fun _ => rfl, fun _ => rfl, h6.out, h7.out, h8.out, fun h => by obtain ⟨A9, c9, q1, q2⟩ := h9.out h; exact ⟨A9, c9, q1, own_below0 q2 hb⟩, fun h => by obtain ⟨A9, c9, q1, q2⟩ := h10.out h; exact ⟨A9, c9, q1, own_below0 q2 hb⟩, (fun h h2 => by obtain ⟨g, q1, q2, q3⟩ := h11.out h h2; exact ⟨g, q1, q2.below hb, q3⟩), fun h => by obtain ⟨g, A9, c9, q1, q2, q3, q4⟩ := h12.out h; exact ⟨g, A9, c9, q1, q2.below hb, own_below0 q3 hb, q4⟩⟩
    | 6, _ =>
      obtain ⟨ty, ps, af, ho⟩ := op_lit hops (i := 6) (op := Op.fieldAddr 28 (Operand.tmp 1) 2) (dst := some 30) (g := none) rfl
      refine wpOp_lit ho (fun j b h => by cases h) ?_
      clear hops hdep ho
      replace h0 := hidH h0
      replace h1 := hidH h1
      replace h2 := hidH h2
      replace h3 := hidH h3
      replace h4 := hidH h4
      replace h5 := hidH h5
      replace h7 := hidH h7
      replace h8 := hidH h8
      replace h9 := hidH h9
      replace h10 := hidH h10
      replace h11 := hidH h11
      replace h12 := hidH h12
      go_wp2
      exact (HJ.out _ _ _).2 ⟨_, _, _, _, _, _, _, _, _, _, _, _, rfl, hE, hO, h0.out, h1.out, h2.out, h3.out, h4.out, h5.out, fun _ => rfl, h7.out, h8.out, h9.out, h10.out, h11.out, h12.out⟩
    | 7, _ =>
      obtain ⟨ty, ps, af, ho⟩ := op_lit hops (i := 7) (op := Op.load 22 (Operand.tmp 30)) (dst := some 31) (g := none) rfl
      obtain rfl := h6 (hdep 6 (by simp))
      refine wpOp_lit ho (fun j b h => by cases h) ?_
      clear hops hdep ho
      replace h0 := hidH h0
      replace h1 := hidH h1
      replace h2 := hidH h2
      replace h3 := hidH h3
      replace h4 := hidH h4
      replace h5 := hidH h5
      replace h6 := hidH h6
      replace h8 := hidH h8
      replace h9 := hidH h9
      replace h10 := hidH h10
      replace h11 := hidH h11
      replace h12 := hidH h12
      have hb := Below.refl W.heap.size W
      have q1 := (hO.cell (p := ⟨k, 2, none⟩) hkl).trans hk2
      go_wp2
      exact (HJ.out _ _ _).2 ⟨_, _, _, _, _, _, _, _, _, _, _, _, rfl, hE, btr hO hb, h0.out, h1.out, h2.out, h3.out, h4.out, h5.out, fun _ => rfl, fun _ => rfl, h8.out, fun h => by obtain ⟨A9, c9, q1, q2⟩ := h9.out h; exact ⟨A9, c9, q1, own_below0 q2 hb⟩, fun h => by obtain ⟨A9, c9, q1, q2⟩ := h10.out h; exact ⟨A9, c9, q1, own_below0 q2 hb⟩, (fun h h2 => by obtain ⟨g, q1, q2, q3⟩ := h11.out h h2; exact ⟨g, q1, q2.below hb, q3⟩), fun h => by obtain ⟨g, A9, c9, q1, q2, q3, q4⟩ := h12.out h; exact ⟨g, A9, c9, q1, q2.below hb, own_below0 q3 hb, q4⟩⟩
    | 8, _ =>
      obtain ⟨ty, ps, af, ho⟩ := op_lit hops (i := 8) (op := Op.slice 22 (Operand.tmp 31) (some ((Operand.const (Value.int .i64 8)))) (some ((Operand.const (Value.int .i64 24)))) none) (dst := some 32) (g := none) rfl
      obtain rfl := h7 (hdep 7 (by simp))
      refine wpOp_lit ho (fun j b h => by cases h) ?_
      clear hops hdep ho
      replace h0 := hidH h0
      replace h1 := hidH h1
      replace h2 := hidH h2
      replace h3 := hidH h3
      replace h4 := hidH h4
      replace h5 := hidH h5
      replace h6 := hidH h6
      replace h7 := hidH h7
      replace h9 := hidH h9
      replace h10 := hidH h10
      replace h11 := hidH h11
      replace h12 := hidH h12
      have q1 := HSL.out W
      go_wp2
      exact (HJ.out _ _ _).2 ⟨_, _, _, _, _, _, _, _, _, _, _, _, rfl, hE, hO, h0.out, h1.out, h2.out, h3.out, h4.out, h5.out, h6.out, fun _ => rfl, fun _ => rfl, h9.out, h10.out, h11.out, h12.out⟩
    | 9, _ =>
      obtain ⟨ty, ps, af, ho⟩ := op_lit hops (i := 9) (op := Op.call { callee := Callee.value (Operand.func 83), args := #[(Operand.tmp 32)], argTypes := #[22] }) (dst := some 33) (g := none) rfl
      obtain rfl := h8 (hdep 8 (by simp))
      refine wpOp_lit ho (fun j b h => by cases h) ?_
      clear hops hdep ho
      replace h0 := hidH h0
      replace h1 := hidH h1
      replace h2 := hidH h2
      replace h3 := hidH h3
      replace h4 := hidH h4
      replace h5 := hidH h5
      replace h6 := hidH h6
      replace h7 := hidH h7
      replace h8 := hidH h8
      replace h10 := hidH h10
      replace h11 := hidH h11
      replace h12 := hidH h12
      go_wp2_with fail
      refine (HCP _ hO).mono ?_
      rintro e w1 ⟨v9, rfl, oo, hb⟩
      have hsz := hO.size
      obtain ⟨A9, c9, rfl⟩ := own_len oo
      have O9 := hidH (own_monoB oo hsz)
      clear oo
      go_wp2
      exact (HJ.out _ _ _).2 ⟨_, _, _, _, _, _, _, _, _, _, _, _, rfl, hE, btr hO hb, h0.out, h1.out, h2.out, h3.out, h4.out, h5.out, h6.out, h7.out, fun _ => rfl, fun _ => ⟨A9, c9, rfl, O9.out⟩, fun h => by obtain ⟨A9, c9, q1, q2⟩ := h10.out h; exact ⟨A9, c9, q1, own_below0 q2 hb⟩, (fun h h2 => by obtain ⟨g, q1, q2, q3⟩ := h11.out h h2; exact ⟨g, q1, q2.below hb, q3⟩), fun h => by obtain ⟨g, A9, c9, q1, q2, q3, q4⟩ := h12.out h; exact ⟨g, A9, c9, q1, q2.below hb, own_below0 q3 hb, q4⟩⟩
    | 10, _ =>
      obtain ⟨ty, ps, af, ho⟩ := op_lit hops (i := 10) (op := Op.build 39 #[(0, (Operand.tmp 26)), (1, (Operand.tmp 29)), (2, (Operand.tmp 33))]) (dst := some 34) (g := none) rfl
      obtain rfl := h2 (hdep 2 (by simp))
      obtain rfl := h5 (hdep 5 (by simp))
      obtain ⟨A9, c9, rfl, o9⟩ := h9 (hdep 9 (by simp))
      refine wpOp_lit ho (fun j b h => by cases h) ?_
      clear hops hdep ho
      replace h0 := hidH h0
      replace h1 := hidH h1
      replace h2 := hidH h2
      replace h3 := hidH h3
      replace h4 := hidH h4
      replace h5 := hidH h5
      replace h6 := hidH h6
      replace h7 := hidH h7
      replace h8 := hidH h8
      replace h9 := hidH h9
      replace h11 := hidH h11
      replace h12 := hidH h12
      have hb := Below.refl W.heap.size W
      go_wp2
      exact (HJ.out _ _ _).2 ⟨_, _, _, _, _, _, _, _, _, _, _, _, rfl, hE, btr hO hb, h0.out, h1.out, fun _ => rfl, h3.out, h4.out, fun _ => rfl, h6.out, h7.out, h8.out, fun _ => ⟨A9, c9, rfl, own_below0 o9 hb⟩, fun _ => ⟨A9, c9, rfl, o9⟩, (fun h h2 => by obtain ⟨g, q1, q2, q3⟩ := h11.out h h2; exact ⟨g, q1, q2.below hb, q3⟩), fun h => by obtain ⟨g, A9, c9, q1, q2, q3, q4⟩ := h12.out h; exact ⟨g, A9, c9, q1, q2.below hb, own_below0 q3 hb, q4⟩⟩
    | 11, _ =>
      obtain ⟨ty, ps, af, ho⟩ := op_lit hops (i := 11) (op := Op.alloc 39) (dst := some 5) (g := none) rfl
      refine wpOp_lit ho (fun j b h => by cases h) ?_
      clear hops hdep ho
      replace h0 := hidH h0
      replace h1 := hidH h1
      replace h2 := hidH h2
      replace h3 := hidH h3
      replace h4 := hidH h4
      replace h5 := hidH h5
      replace h6 := hidH h6
      replace h7 := hidH h7
      replace h8 := hidH h8
      replace h9 := hidH h9
      replace h10 := hidH h10
      replace h12 := hidH h12
      have hb := bal (Below.refl W.heap.size W) (.cells #[.int .i64 0, .int .i64 0, .slice none 0 0, .slice none 0 0, .slice none 0 0] 39)
      have KG := hidH (Blk.new W 39 #[.int .i64 0, .int .i64 0, .slice none 0 0, .slice none 0 0, .slice none 0 0])
      have hG0 := hO.size
      go_wp2
      exact (HJ.out _ _ _).2 ⟨_, _, _, _, _, _, _, _, _, _, _, _, rfl, fun _ => rfl, btr hO hb, h0.out, h1.out, h2.out, h3.out, h4.out, h5.out, h6.out, h7.out, h8.out, fun h => by obtain ⟨A9, c9, q1, q2⟩ := h9.out h; exact ⟨A9, c9, q1, own_below0 q2 hb⟩, fun h => by obtain ⟨A9, c9, q1, q2⟩ := h10.out h; exact ⟨A9, c9, q1, own_below0 q2 hb⟩, fun _ => fun _ => ⟨_, rfl, KG.out, hG0⟩, (fun h => by have h3 : dn 11 = true := hE h; rw [hdn] at h3; cases h3)⟩
    | 12, _ =>
      obtain ⟨ty, ps, af, ho⟩ := op_lit hops (i := 12) (op := Op.store 39 (Operand.tmp 5) (Operand.tmp 34)) (dst := none) (g := none) rfl
      have hd11 := hidH (hdep 11 (by simp))
      obtain ⟨g, rfl, kg, hgw⟩ := h11 (hdep 11 (by simp)) hdn
      obtain ⟨B9, d9, rfl, p9⟩ := h10 (hdep 10 (by simp))
      refine wpOp_lit ho (fun j b h => by cases h) ?_
      clear hops hdep ho
      replace h0 := hidH h0
      replace h1 := hidH h1
      replace h2 := hidH h2
      replace h3 := hidH h3
      replace h4 := hidH h4
      replace h5 := hidH h5
      replace h6 := hidH h6
      replace h7 := hidH h7
      replace h8 := hidH h8
      replace h9 := hidH h9
      replace h10 := hidH h10
      replace h11 := hidH h11
      have y0 := kg.cell 0
      have v0 := kg.frozen 0
      have y1 := kg.cell 1
      have v1 := kg.frozen 1
      have y2 := kg.cell 2
      have v2 := kg.frozen 2
      have y3 := kg.cell 3
      have v3 := kg.frozen 3
      have y4 := kg.cell 4
      have v4 := kg.frozen 4
      simp only [List.getElem?_toArray, List.getElem?_cons_succ, List.getElem?_cons_zero] at y0 y1 y2 y3 y4
      have hlt := kg.lt
      have FAR := hidH (fun (A : Option Addr) (c : Nat) (n : Nat) (h : W.ownsRow ww.heap.size 5 1 (.slice A n c) 16 (l8.map (Value.int .u8))) => own_far5 h kg (by decide) (.int .i64 z0) (.int .i64 z1) (.slice B9 16 d9) (.slice none 0 0) (.slice none 0 0))
      have KS := hidH (blk5 kg (.int .i64 z0) (.int .i64 z1) (.slice B9 16 d9) (.slice none 0 0) (.slice none 0 0))
      have KF := hidH kg
      clear kg
      go_wp2
      exact (HJ.out _ _ _).2 ⟨_, _, _, _, _, _, _, _, _, _, _, _, rfl, fun _ => hd11.out, (bst (bst (bst (bst (bst hO hgw _) hgw _) hgw _) hgw _) hgw _), h0.out, h1.out, h2.out, h3.out, h4.out, h5.out, h6.out, h7.out, h8.out, fun h => by obtain ⟨A9, c9, q1, q2⟩ := h9.out h; exact ⟨A9, c9, q1, FAR.out _ _ _ q2⟩, fun _ => ⟨B9, d9, rfl, FAR.out _ _ _ p9⟩, (fun _ h2 => by simp at h2), fun _ => ⟨g, B9, d9, rfl, KS.out, FAR.out _ _ _ p9, hgw⟩⟩
    | n + 13, h => omega
  case fin =>
    clear hops hdeps hback
    rintro dn ac W hJ hall
    obtain ⟨t24, t25, t26, t27, t28, t29, t30, t31, t32, t33, t34, t5, rfl, hE, hO, h0, h1, h2, h3, h4, h5, h6, h7, h8, h9, h10, h11, h12⟩ := (HJ.out _ _ _).1 hJ
    exact fin _ _ _ _ _ _ _ _ _ _ _ _ W hO (h12 (hall 12 (by omega)))
set_option maxRecDepth 100000 in
set_option maxHeartbeats 1000000 in
theorem regSj {Q : Exit → Act → World → Prop} (x0 x1 x2 x3 x4 x6 x7 x8 x10 x12 x13 x14 x15 x16 x17 x18 x19 x20 x21 x22 x23 x24 x25 x26 x27 x28 x29 x30 x31 x32 x33 x34 x35 x36 x37 x38 x39 x40 x41 x42 x43 x44 x45 x46 x47 x48 x49 x50 x51 x52 x53 x54 x55 x56 x57 x58 x59 x60 u_61 u_62 u_63 u_64 u_65 u_66 u_67 u_68 u_69 u_70 u_71 u_72 u_73 u_74 u_75 u_76 u_77 u_78 u_79 u_80 u_81 u_82 u_83 : Value) (ww : World) (g B n a cb co cn cc : Nat) (z z0 z1 : Int) (rv av v : Value) (xs0 : List Value)
    (hgB : g < B) (hwB : ww.heap.size ≤ B) (hnn : n ≤ 100000) (hcl : cb < ww.heap.size) (hcg : cb < g ∨ g + 1 ≤ cb) (hr0 : ww.cell? ⟨cb, co + a, none⟩ = some (.int .i64 z)) (ha0 : (0 : Int) ≤ (a : Int)) (ha1 : (a : Int) < (cn : Int)) (hz0 : 0 ≤ z) (hz1 : z ≤ 255) {ops : Array Oper}
    (hops : (ops.map fun o => (o.op, o.dst, o.guard)) = #[(Op.fieldAddr 39 (Operand.tmp 5) 4, some 61, none), (Op.load 22 (Operand.tmp 61), some 62, none), (Op.move (Operand.tmp 9), some 63, none), (Op.move (Operand.tmp 11), some 64, none), (Op.indexAddr 37 (Operand.tmp 63) (Operand.tmp 64), some 65, none), (Op.load 2 (Operand.tmp 65), some 66, none), (Op.convert 2 5 (Operand.tmp 66), some 67, none), (Op.buildSlice 22 1 #[(0, (Operand.tmp 67))], some 68, none), (Op.call { callee := Callee.builtin Builtin.append, args := #[(Operand.tmp 62), (Operand.tmp 68)], argTypes := #[22, 22] }, some 69, none), (Op.fieldAddr 39 (Operand.tmp 5) 4, some 70, none), (Op.store 22 (Operand.tmp 70) (Operand.tmp 69), none, none)])
    (hdeps : ((List.range 11).all fun i => ((fun i => [[], [0], [], [], [2, 3], [4], [5], [6], [1, 7], [], [8, 9]].getD i []) i).all fun j => ((ops[i]?).map fun o => o.after.any fun e => Region.binds .any e && e.on == j).getD false) = true)
    (hback : ((List.range 11).all fun i => ((ops[i]?).map fun o => o.after.all fun e => decide (e.on < i)).getD false) = true)
    {a0 : Act} {w0 : World} (ha : a0 = { tmps := #[x0, x1, x2, x3, x4, .pointer (some ⟨g, 0, none⟩), x6, x7, x8, .slice (some ⟨cb, co, none⟩) cn cc, x10, .int .i64 (a : Int), x12, x13, x14, x15, x16, x17, x18, x19, x20, x21, x22, x23, x24, x25, x26, x27, x28, x29, x30, x31, x32, x33, x34, x35, x36, x37, x38, x39, x40, x41, x42, x43, x44, x45, x46, x47, x48, x49, x50, x51, x52, x53, x54, x55, x56, x57, x58, x59, x60, u_61, u_62, u_63, u_64, u_65, u_66, u_67, u_68, u_69, u_70, u_71, u_72, u_73, u_74, u_75, u_76, u_77, u_78, u_79, u_80, u_81, u_82, u_83], defers := [] }) (hE : (false = true → false = true) ∧ (false = true → false = true) ∧ (false = true → false = true)) (hP : false = false → Blk w0 g 39 #[.int .i64 z0, .int .i64 z1, rv, av, v]) (hG : false = false → w0.ownsRow B 5 1 v n xs0) (hW : Win g (g + 1) ww w0) (hBW : B ≤ w0.heap.size)
    (fin : ∀ t61 t62 t63 t64 t65 t66 t67 t68 t69 t70 (W : World), (Win g (g + 1) ww W) → (B ≤ W.heap.size) → (∃ v2, Blk W g 39 #[.int .i64 z0, .int .i64 z1, rv, av, v2] ∧ W.ownsRow B 5 1 v2 (n + 1) (xs0 ++ [.int .u8 z])) → Q .normal { tmps := #[x0, x1, x2, x3, x4, .pointer (some ⟨g, 0, none⟩), x6, x7, x8, .slice (some ⟨cb, co, none⟩) cn cc, x10, .int .i64 (a : Int), x12, x13, x14, x15, x16, x17, x18, x19, x20, x21, x22, x23, x24, x25, x26, x27, x28, x29, x30, x31, x32, x33, x34, x35, x36, x37, x38, x39, x40, x41, x42, x43, x44, x45, x46, x47, x48, x49, x50, x51, x52, x53, x54, x55, x56, x57, x58, x59, x60, t61, t62, t63, t64, t65, t66, t67, t68, t69, t70, u_71, u_72, u_73, u_74, u_75, u_76, u_77, u_78, u_79, u_80, u_81, u_82, u_83], defers := [] } W) :
    wpAny Tryd.prog .any ops Q ops.size (Array.replicate ops.size false) a0 w0 := by
  have hn : ops.size = 11 := by have := congrArg Array.size hops; simpa using this
  obtain ⟨J, HJ⟩ : ∃ J : (Nat → Bool) → Act → World → Prop, ∀ dn ac W, J dn ac W ↔ (fun dn ac W => ∃ t61 t62 t63 t64 t65 t66 t67 t68 t69 t70, ac = { tmps := #[x0, x1, x2, x3, x4, .pointer (some ⟨g, 0, none⟩), x6, x7, x8, .slice (some ⟨cb, co, none⟩) cn cc, x10, .int .i64 (a : Int), x12, x13, x14, x15, x16, x17, x18, x19, x20, x21, x22, x23, x24, x25, x26, x27, x28, x29, x30, x31, x32, x33, x34, x35, x36, x37, x38, x39, x40, x41, x42, x43, x44, x45, x46, x47, x48, x49, x50, x51, x52, x53, x54, x55, x56, x57, x58, x59, x60, t61, t62, t63, t64, t65, t66, t67, t68, t69, t70, u_71, u_72, u_73, u_74, u_75, u_76, u_77, u_78, u_79, u_80, u_81, u_82, u_83], defers := [] } ∧ ((dn 10 = true → dn 8 = true) ∧ (dn 8 = true → dn 7 = true) ∧ (dn 8 = true → dn 1 = true)) ∧ (dn 10 = false → Blk W g 39 #[.int .i64 z0, .int .i64 z1, rv, av, v]) ∧ (dn 8 = false → W.ownsRow B 5 1 v n xs0) ∧ (Win g (g + 1) ww W) ∧ (B ≤ W.heap.size) ∧ (dn 0 = true → t61 = .pointer (some ⟨g, 4, none⟩)) ∧ (dn 1 = true → t62 = v) ∧ (dn 2 = true → t63 = .slice (some ⟨cb, co, none⟩) cn cc) ∧ (dn 3 = true → t64 = .int .i64 (a : Int)) ∧ (dn 4 = true → t65 = .pointer (some ⟨cb, co + a, none⟩)) ∧ (dn 5 = true → t66 = .int .i64 z) ∧ (dn 6 = true → t67 = .int .u8 z) ∧ (dn 7 = true → dn 8 = false → ∃ q : Nat, t68 = .slice (some ⟨q, 0, none⟩) 1 1 ∧ Blk W q 5 #[.int .u8 z]) ∧ (dn 8 = true → dn 10 = false → W.ownsRow B 5 1 t69 (n + 1) (xs0 ++ [.int .u8 z])) ∧ (dn 9 = true → t70 = .pointer (some ⟨g, 4, none⟩)) ∧ (dn 10 = true → ∃ v2, Blk W g 39 #[.int .i64 z0, .int .i64 z1, rv, av, v2] ∧ W.ownsRow B 5 1 v2 (n + 1) (xs0 ++ [.int .u8 z]))) dn ac W := ⟨_, fun _ _ _ => Iff.rfl⟩
  replace HJ := hidH HJ
  refine region_inv 11 (fun i => [[], [0], [], [], [2, 3], [4], [5], [6], [1, 7], [], [8, 9]].getD i []) J hn hdeps hback ?start ?step ?fin
  case start => exact (HJ.out _ _ _).2 ⟨u_61, u_62, u_63, u_64, u_65, u_66, u_67, u_68, u_69, u_70, ha, hE, hP, hG, hW, hBW, fun h => by simp at h, fun h => by simp at h, fun h => by simp at h, fun h => by simp at h, fun h => by simp at h, fun h => by simp at h, fun h => by simp at h, fun h => by simp at h, fun h => by simp at h, fun h => by simp at h, fun h => by simp at h⟩
  all_goals clear ha hE hP hG hW hBW
  case step =>
    clear fin hdeps hback
    intro i hi dn ac W hJ hdn hdep
    obtain ⟨t61, t62, t63, t64, t65, t66, t67, t68, t69, t70, rfl, hE, hP, hG, hW, hBW, h0, h1, h2, h3, h4, h5, h6, h7, h8, h9, h10⟩ := (HJ.out _ _ _).1 hJ
    clear hJ
    match i, hi with
    | 0, _ =>
      obtain ⟨ty, ps, af, ho⟩ := op_lit hops (i := 0) (op := Op.fieldAddr 39 (Operand.tmp 5) 4) (dst := some 61) (g := none) rfl
      refine wpOp_lit ho (fun j b h => by cases h) ?_
      clear hops hdep ho
      replace h1 := hidH h1
      replace h2 := hidH h2
      replace h3 := hidH h3
      replace h4 := hidH h4
      replace h5 := hidH h5
      replace h6 := hidH h6
      replace h7 := hidH h7
      replace h8 := hidH h8
      replace h9 := hidH h9
      replace h10 := hidH h10
      go_wp2
      exact (HJ.out _ _ _).2 ⟨_, _, _, _, _, _, _, _, _, _, rfl, hE, hP, hG, hW, hBW, fun _ => rfl, h1.out, h2.out, h3.out, h4.out, h5.out, h6.out, h7.out, h8.out, h9.out, h10.out⟩
    | 1, _ =>
      obtain ⟨ty, ps, af, ho⟩ := op_lit hops (i := 1) (op := Op.load 22 (Operand.tmp 61)) (dst := some 62) (g := none) rfl
      have hkS : dn 10 = false := by
              rcases hq : dn 10 with _ | _
              · rfl
              · have h3 : dn 1 = true := hE.2.2 (hE.1 hq)
                rw [hdn] at h3; cases h3
      obtain rfl := h0 (hdep 0 (by simp))
      refine wpOp_lit ho (fun j b h => by cases h) ?_
      clear hops hdep ho
      replace h0 := hidH h0
      replace h2 := hidH h2
      replace h3 := hidH h3
      replace h4 := hidH h4
      replace h5 := hidH h5
      replace h6 := hidH h6
      replace h7 := hidH h7
      replace h8 := hidH h8
      replace h9 := hidH h9
      replace h10 := hidH h10
      have hb := Below.refl W.heap.size W
      have kp := hP hkS
      have q1 := kp.cell 4
      simp only [List.getElem?_toArray, List.getElem?_cons_succ, List.getElem?_cons_zero] at q1
      have hlt := kp.lt
      go_wp2
      exact (HJ.out _ _ _).2 ⟨_, _, _, _, _, _, _, _, _, _, rfl, ⟨hE.1, hE.2.1, (fun _ => rfl)⟩, fun h => (hP h).below hb, fun h => own_below0 (hG h) hb, hW.andBelow5 (hb.mono hW.size), Nat.le_trans hBW hb.size, fun _ => rfl, fun _ => rfl, h2.out, h3.out, h4.out, h5.out, h6.out, fun h h2 => by obtain ⟨q, q1, q2⟩ := h7.out h h2; exact ⟨q, q1, q2.below hb⟩, fun h h2 => own_below0 (h8.out h h2) hb, h9.out, (fun h => by obtain ⟨v2, q1, q2⟩ := h10.out h; exact ⟨v2, q1.below hb, own_below0 q2 hb⟩)⟩
    | 2, _ =>
      obtain ⟨ty, ps, af, ho⟩ := op_lit hops (i := 2) (op := Op.move (Operand.tmp 9)) (dst := some 63) (g := none) rfl
      refine wpOp_lit ho (fun j b h => by cases h) ?_
      clear hops hdep ho
      replace h0 := hidH h0
      replace h1 := hidH h1
      replace h3 := hidH h3
      replace h4 := hidH h4
      replace h5 := hidH h5
      replace h6 := hidH h6
      replace h7 := hidH h7
      replace h8 := hidH h8
      replace h9 := hidH h9
      replace h10 := hidH h10
      go_wp2
      exact (HJ.out _ _ _).2 ⟨_, _, _, _, _, _, _, _, _, _, rfl, hE, hP, hG, hW, hBW, h0.out, h1.out, fun _ => rfl, h3.out, h4.out, h5.out, h6.out, h7.out, h8.out, h9.out, h10.out⟩
    | 3, _ =>
      obtain ⟨ty, ps, af, ho⟩ := op_lit hops (i := 3) (op := Op.move (Operand.tmp 11)) (dst := some 64) (g := none) rfl
      refine wpOp_lit ho (fun j b h => by cases h) ?_
      clear hops hdep ho
      replace h0 := hidH h0
      replace h1 := hidH h1
      replace h2 := hidH h2
      replace h4 := hidH h4
      replace h5 := hidH h5
      replace h6 := hidH h6
      replace h7 := hidH h7
      replace h8 := hidH h8
      replace h9 := hidH h9
      replace h10 := hidH h10
      go_wp2
      exact (HJ.out _ _ _).2 ⟨_, _, _, _, _, _, _, _, _, _, rfl, hE, hP, hG, hW, hBW, h0.out, h1.out, h2.out, fun _ => rfl, h4.out, h5.out, h6.out, h7.out, h8.out, h9.out, h10.out⟩
    | 4, _ =>
      obtain ⟨ty, ps, af, ho⟩ := op_lit hops (i := 4) (op := Op.indexAddr 37 (Operand.tmp 63) (Operand.tmp 64)) (dst := some 65) (g := none) rfl
      obtain rfl := h2 (hdep 2 (by simp))
      obtain rfl := h3 (hdep 3 (by simp))
      refine wpOp_lit ho (fun j b h => by cases h) ?_
      clear hops hdep ho
      replace h0 := hidH h0
      replace h1 := hidH h1
      replace h2 := hidH h2
      replace h3 := hidH h3
      replace h5 := hidH h5
      replace h6 := hidH h6
      replace h7 := hidH h7
      replace h8 := hidH h8
      replace h9 := hidH h9
      replace h10 := hidH h10
      go_wp2
      exact (HJ.out _ _ _).2 ⟨_, _, _, _, _, _, _, _, _, _, rfl, hE, hP, hG, hW, hBW, h0.out, h1.out, fun _ => rfl, fun _ => rfl, fun _ => rfl, h5.out, h6.out, h7.out, h8.out, h9.out, h10.out⟩
    | 5, _ =>
      obtain ⟨ty, ps, af, ho⟩ := op_lit hops (i := 5) (op := Op.load 2 (Operand.tmp 65)) (dst := some 66) (g := none) rfl
      obtain rfl := h4 (hdep 4 (by simp))
      refine wpOp_lit ho (fun j b h => by cases h) ?_
      clear hops hdep ho
      replace h0 := hidH h0
      replace h1 := hidH h1
      replace h2 := hidH h2
      replace h3 := hidH h3
      replace h4 := hidH h4
      replace h6 := hidH h6
      replace h7 := hidH h7
      replace h8 := hidH h8
      replace h9 := hidH h9
      replace h10 := hidH h10
      have hb := Below.refl W.heap.size W
      have q1 := (hW.cell (p := ⟨cb, co + a, none⟩) hcl hcg).trans hr0
      go_wp2
      exact (HJ.out _ _ _).2 ⟨_, _, _, _, _, _, _, _, _, _, rfl, hE, fun h => (hP h).below hb, fun h => own_below0 (hG h) hb, hW.andBelow5 (hb.mono hW.size), Nat.le_trans hBW hb.size, h0.out, h1.out, h2.out, h3.out, fun _ => rfl, fun _ => rfl, h6.out, fun h h2 => by obtain ⟨q, q1, q2⟩ := h7.out h h2; exact ⟨q, q1, q2.below hb⟩, fun h h2 => own_below0 (h8.out h h2) hb, h9.out, (fun h => by obtain ⟨v2, q1, q2⟩ := h10.out h; exact ⟨v2, q1.below hb, own_below0 q2 hb⟩)⟩
    | 6, _ =>
      obtain ⟨ty, ps, af, ho⟩ := op_lit hops (i := 6) (op := Op.convert 2 5 (Operand.tmp 66)) (dst := some 67) (g := none) rfl
      obtain rfl := h5 (hdep 5 (by simp))
      refine wpOp_lit ho (fun j b h => by cases h) ?_
      clear hops hdep ho
      replace h0 := hidH h0
      replace h1 := hidH h1
      replace h2 := hidH h2
      replace h3 := hidH h3
      replace h4 := hidH h4
      replace h5 := hidH h5
      replace h7 := hidH h7
      replace h8 := hidH h8
      replace h9 := hidH h9
      replace h10 := hidH h10
      go_wp2
      exact (HJ.out _ _ _).2 ⟨_, _, _, _, _, _, _, _, _, _, rfl, hE, hP, hG, hW, hBW, h0.out, h1.out, h2.out, h3.out, h4.out, fun _ => rfl, fun _ => rfl, h7.out, h8.out, h9.out, h10.out⟩
    | 7, _ =>
      obtain ⟨ty, ps, af, ho⟩ := op_lit hops (i := 7) (op := Op.buildSlice 22 1 #[(0, (Operand.tmp 67))]) (dst := some 68) (g := none) rfl
      obtain rfl := h6 (hdep 6 (by simp))
      refine wpOp_lit ho (fun j b h => by cases h) ?_
      clear hops hdep ho
      replace h0 := hidH h0
      replace h1 := hidH h1
      replace h2 := hidH h2
      replace h3 := hidH h3
      replace h4 := hidH h4
      replace h5 := hidH h5
      replace h6 := hidH h6
      replace h8 := hidH h8
      replace h9 := hidH h9
      replace h10 := hidH h10
      have hb := bal (Below.refl W.heap.size W) (.cells #[.int .u8 z] 5)
      have KQ := hidH (Blk.new W 5 #[.int .u8 z])
      go_wp2
      exact (HJ.out _ _ _).2 ⟨_, _, _, _, _, _, _, _, _, _, rfl, ⟨hE.1, (fun _ => rfl), hE.2.2⟩, fun h => (hP h).below hb, fun h => own_below0 (hG h) hb, hW.andBelow5 (hb.mono hW.size), Nat.le_trans hBW hb.size, h0.out, h1.out, h2.out, h3.out, h4.out, h5.out, fun _ => rfl, fun _ => fun _ => ⟨_, rfl, KQ.out⟩, fun h h2 => own_below0 (h8.out h h2) hb, h9.out, (fun h => by obtain ⟨v2, q1, q2⟩ := h10.out h; exact ⟨v2, q1.below hb, own_below0 q2 hb⟩)⟩
    | 8, _ =>
      obtain ⟨ty, ps, af, ho⟩ := op_lit hops (i := 8) (op := Op.call { callee := Callee.builtin Builtin.append, args := #[(Operand.tmp 62), (Operand.tmp 68)], argTypes := #[22, 22] }) (dst := some 69) (g := none) rfl
      have hd7 := hidH (hdep 7 (by simp))
      have hd1 := hidH (hdep 1 (by simp))
      obtain ⟨q, rfl, kq⟩ := h7 (hdep 7 (by simp)) hdn
      obtain rfl := h1 (hdep 1 (by simp))
      refine wpOp_lit ho (fun j b h => by cases h) ?_
      clear hops hdep ho
      replace h0 := hidH h0
      replace h1 := hidH h1
      replace h2 := hidH h2
      replace h3 := hidH h3
      replace h4 := hidH h4
      replace h5 := hidH h5
      replace h6 := hidH h6
      replace h7 := hidH h7
      replace h9 := hidH h9
      replace h10 := hidH h10
      have gk := hidH (hG hdn)
      have hBW2 := hBW
      have s2 : Bs W (some ⟨q, 0, none⟩) [z] := lit_bs1 kq
      have hn2 := hidH hnn
      go_wp2_with (at_builtin; go_loud (refine wpList_append_bs rfl _ _ rfl B _ n xs0 rfl gk.out (some ⟨q, 0, none⟩) [z] 1 rfl s2 (by have := hn2.out; simp; omega) hBW2 ?_))
      intro v6 w6 o6 hg
      have hb := (Below.refl B W).grown hg hBW2 (fun x hx => (gk.out.lt x hx).1)
      have O6 := hidH (show w6.ownsRow B 5 1 v6 (n + 1) (xs0 ++ [.int .u8 z]) by simpa using o6)
      clear o6 hg
      go_wp2
      exact (HJ.out _ _ _).2 ⟨_, _, _, _, _, _, _, _, _, _, rfl, ⟨(fun _ => rfl), (fun _ => hd7.out), (fun _ => hd1.out)⟩, (fun h => (hb.block g hgB).trans (hP h)), (fun h2 => by simp at h2), hW.andBelow5 (hb.mono hwB), Nat.le_trans hBW hb.size, h0.out, fun _ => rfl, h2.out, h3.out, h4.out, h5.out, h6.out, (fun _ h2 => by simp at h2), fun _ => fun _ => O6.out, h9.out, (fun h => by have h3 : dn 8 = true := hE.1 h; rw [hdn] at h3; cases h3)⟩
    | 9, _ =>
      obtain ⟨ty, ps, af, ho⟩ := op_lit hops (i := 9) (op := Op.fieldAddr 39 (Operand.tmp 5) 4) (dst := some 70) (g := none) rfl
      refine wpOp_lit ho (fun j b h => by cases h) ?_
      clear hops hdep ho
      replace h0 := hidH h0
      replace h1 := hidH h1
      replace h2 := hidH h2
      replace h3 := hidH h3
      replace h4 := hidH h4
      replace h5 := hidH h5
      replace h6 := hidH h6
      replace h7 := hidH h7
      replace h8 := hidH h8
      replace h10 := hidH h10
      go_wp2
      exact (HJ.out _ _ _).2 ⟨_, _, _, _, _, _, _, _, _, _, rfl, hE, hP, hG, hW, hBW, h0.out, h1.out, h2.out, h3.out, h4.out, h5.out, h6.out, h7.out, h8.out, fun _ => rfl, h10.out⟩
    | 10, _ =>
      obtain ⟨ty, ps, af, ho⟩ := op_lit hops (i := 10) (op := Op.store 22 (Operand.tmp 70) (Operand.tmp 69)) (dst := none) (g := none) rfl
      have hd8 := hidH (hdep 8 (by simp))
      have o8 := h8 (hdep 8 (by simp)) hdn
      obtain ⟨A6, n6, c6, rfl⟩ := own_sliceE o8
      replace h8 := hidH h8
      obtain rfl := h9 (hdep 9 (by simp))
      refine wpOp_lit ho (fun j b h => by cases h) ?_
      clear hops hdep ho
      replace h0 := hidH h0
      replace h1 := hidH h1
      replace h2 := hidH h2
      replace h3 := hidH h3
      replace h4 := hidH h4
      replace h5 := hidH h5
      replace h6 := hidH h6
      replace h7 := hidH h7
      replace h8 := hidH h8
      replace h9 := hidH h9
      have kp := hP hdn
      have x1 := kp.cell 4
      simp only [List.getElem?_toArray, List.getElem?_cons_succ, List.getElem?_cons_zero] at x1
      have f1 := kp.frozen 4
      have hlt := kp.lt
      have KS := hidH (show Blk (W.setCell ⟨g, 4, none⟩ (.slice A6 n6 c6)) g 39 #[.int .i64 z0, .int .i64 z1, rv, av, .slice A6 n6 c6] from kp.put 4 _)
      have O7 := hidH (own_farE o8 hgB 4 (.slice A6 n6 c6))
      clear o8
      go_wp2
      exact (HJ.out _ _ _).2 ⟨_, _, _, _, _, _, _, _, _, _, rfl, ⟨(fun _ => hd8.out), hE.2⟩, (fun h2 => by simp at h2), (fun h2 => by have h3 : dn 8 = false := h2; rw [hd8.out] at h3; cases h3), hW.trans (set_win W g 4 _), (by simpa [World.setCell] using hBW), h0.out, h1.out, h2.out, h3.out, h4.out, h5.out, h6.out, (fun _ h2 => by have h3 : dn 8 = false := h2; rw [hd8.out] at h3; cases h3), (fun _ h2 => by simp at h2), fun _ => rfl, fun _ => ⟨_, KS.out, O7.out⟩⟩
    | n + 11, h => omega
  case fin =>
    clear hops hdeps hback
    rintro dn ac W hJ hall
    obtain ⟨t61, t62, t63, t64, t65, t66, t67, t68, t69, t70, rfl, hE, hP, hG, hW, hBW, h0, h1, h2, h3, h4, h5, h6, h7, h8, h9, h10⟩ := (HJ.out _ _ _).1 hJ
    exact fin _ _ _ _ _ _ _ _ _ _ W hW hBW (h10 (hall 10 (by omega)))
end Go.Proofs.YtjjileefdjjijaaDoor
