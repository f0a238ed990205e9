/- The region of the model's ReadData that draws its order. -/
import Derived.Test.YtjjileefdjjijaaDoorSrR
import Derived.Test.YtjjileefdjjijaaDoorMa1
import Derived.Test.YtjjileefdjjijaaDoorTyData
namespace Go.Proofs.YtjjileefdjjijaaDoor
open Go.RowKit Go.Deep

theorem own_monoB {w : World} {B B' s n : Nat} {e : TypeId} {v : Value} {xs : List Value} (h : w.ownsRow B e s v n xs) (hB : B' ≤ B) : w.ownsRow B' e s v n xs := by
  obtain ⟨h1, h2 | ⟨g, cap, cur, h3, h4, h5⟩⟩ := h
  · exact ⟨h1, .inl h2⟩
  · exact ⟨h1, .inr ⟨g, cap, cur, h3, Nat.le_trans hB h4, h5⟩⟩
theorem own_len {w : World} {B s n : Nat} {e : TypeId} {v : Value} {xs : List Value} (h : w.ownsRow B e s v n xs) : ∃ (A : Option Addr) (c : Nat), v = .slice A n c := by
  obtain ⟨_, ⟨h2, h3⟩ | ⟨g, cap, cur, h3, _⟩⟩ := h
  · exact ⟨none, 0, by rw [h2, h3]⟩
  · exact ⟨_, _, h3⟩
theorem own_farT {w : World} {B s n g : Nat} {e t : TypeId} {v : Value} {xs : List Value} {cs : Array Value} (h : w.ownsRow B e s v n xs) (k : Blk w g t cs) (ht : t ≠ e) (i : Nat) (u : Value) : (w.setCell ⟨g, i, none⟩ u).ownsRow B e s v n xs := by
  obtain ⟨h1, h2 | ⟨g', cap, cur, h3, h4, h5, h6⟩⟩ := h
  · exact ⟨h1, .inl h2⟩
  · refine ⟨h1, .inr ⟨g', cap, cur, h3, h4, (Below.heap_setCell _ _ _ _ (show g' ≠ g from fun q => ?_)).trans h5, h6⟩⟩
    subst q
    have k' : w.heap[g']? = some (.cells cs t (0, 0)) := k
    rw [h5] at k'
    injection k' with k'
    injection k' with _ k' _
    exact ht k'.symm
theorem own_far7 {w : World} {B s n g : Nat} {e t : TypeId} {v : Value} {xs : List Value} {cs : Array Value} (h : w.ownsRow B e s v n xs) (k : Blk w g t cs) (ht : t ≠ e) (a0 a1 a2 a3 a4 a5 a6 : Value) :
    (((((((w.setCell ⟨g, 0, none⟩ a0).setCell ⟨g, 1, none⟩ a1).setCell ⟨g, 2, none⟩ a2).setCell ⟨g, 3, none⟩ a3).setCell ⟨g, 4, none⟩ a4).setCell ⟨g, 5, none⟩ a5).setCell ⟨g, 6, none⟩ a6).ownsRow B e s v n xs :=
  own_farT (own_farT (own_farT (own_farT (own_farT (own_farT (own_farT h k ht 0 a0) (k.put 0 a0) ht 1 a1) ((k.put 0 a0).put 1 a1) ht 2 a2) (((k.put 0 a0).put 1 a1).put 2 a2) ht 3 a3) ((((k.put 0 a0).put 1 a1).put 2 a2).put 3 a3) ht 4 a4) (((((k.put 0 a0).put 1 a1).put 2 a2).put 3 a3).put 4 a4) ht 5 a5) ((((((k.put 0 a0).put 1 a1).put 2 a2).put 3 a3).put 4 a4).put 5 a5) ht 6 a6
theorem blk7 {w : World} {g : Nat} {t : TypeId} {b0 b1 b2 b3 b4 b5 b6 : Value} (k : Blk w g t #[b0, b1, b2, b3, b4, b5, b6]) (a0 a1 a2 a3 a4 a5 a6 : Value) :
    Blk (((((((w.setCell ⟨g, 0, none⟩ a0).setCell ⟨g, 1, none⟩ a1).setCell ⟨g, 2, none⟩ a2).setCell ⟨g, 3, none⟩ a3).setCell ⟨g, 4, none⟩ a4).setCell ⟨g, 5, none⟩ a5).setCell ⟨g, 6, none⟩ a6) g t #[a0, a1, a2, a3, a4, a5, a6] := by
  have k0 : Blk (w.setCell ⟨g, 0, none⟩ a0) g t #[a0, b1, b2, b3, b4, b5, b6] := k.put 0 a0
  have k1 : Blk ((w.setCell ⟨g, 0, none⟩ a0).setCell ⟨g, 1, none⟩ a1) g t #[a0, a1, b2, b3, b4, b5, b6] := k0.put 1 a1
  obtain ⟨w1, h1⟩ : ∃ w1, (w.setCell ⟨g, 0, none⟩ a0).setCell ⟨g, 1, none⟩ a1 = w1 := ⟨_, rfl⟩
  rw [h1] at k1 ⊢
  have k2 : Blk (w1.setCell ⟨g, 2, none⟩ a2) g t #[a0, a1, a2, b3, b4, b5, b6] := k1.put 2 a2
  have k3 : Blk ((w1.setCell ⟨g, 2, none⟩ a2).setCell ⟨g, 3, none⟩ a3) g t #[a0, a1, a2, a3, b4, b5, b6] := k2.put 3 a3
  obtain ⟨w2, h2⟩ : ∃ w2, (w1.setCell ⟨g, 2, none⟩ a2).setCell ⟨g, 3, none⟩ a3 = w2 := ⟨_, rfl⟩
  rw [h2] at k3 ⊢
  have k4 : Blk (w2.setCell ⟨g, 4, none⟩ a4) g t #[a0, a1, a2, a3, a4, b5, b6] := k3.put 4 a4
  have k5 : Blk ((w2.setCell ⟨g, 4, none⟩ a4).setCell ⟨g, 5, none⟩ a5) g t #[a0, a1, a2, a3, a4, a5, b6] := k4.put 5 a5
  obtain ⟨w3, h3⟩ : ∃ w3, (w2.setCell ⟨g, 4, none⟩ a4).setCell ⟨g, 5, none⟩ a5 = w3 := ⟨_, rfl⟩
  rw [h3] at k5 ⊢
  exact k5.put 6 a6
set_option maxRecDepth 100000 in
set_option maxHeartbeats 1000000 in
theorem regSd {Q : Exit → Act → World → Prop} (x0 x2 x3 x5 x6 x7 x8 x9 x10 x11 x12 x13 x14 x15 : Value) (ww : World) (k m c n8 c8 : Nat) (A2 A8 : Option Addr) (l8 : List Int) (f z0 z1 z2 : Int) (b1 b2 b4 : Bool)
    (hkl : k < ww.heap.size) (hk1 : ww.cell? ⟨k, 1, none⟩ = some (.int .i64 f)) (hk2 : ww.cell? ⟨k, 2, none⟩ = some (.slice A2 m c)) (hf0 : 0 ≤ f) (hf1 : f ≤ 255) (hb1 : (f % 2 == 1) = b1) (hb2 : (f / 2 % 2 == 1) = b2) (hb4 : (f / 4 % 2 == 1) = b4)
    (HSL : Hid (∀ u : World, (Instr.slice 22 (.slice A2 m c) (some (.int .i64 8)) none none).run Tryd.prog u = .ok (.slice A8 n8 c8) u))
    (CH0 : ∀ u : World, Below ww.heap.size ww u → Calls Tryd.prog 81 #[.slice A2 m c, .int .i64 0] u fun e w' => e = .returned (.int .i64 z0) ∧ Below u.heap.size u w')
    (CH1 : ∀ u : World, Below ww.heap.size ww u → Calls Tryd.prog 82 #[.slice A2 m c, .int .i64 4] u fun e w' => e = .returned (.int .i64 z1) ∧ Below u.heap.size u w')
    (CH2 : ∀ u : World, Below ww.heap.size ww u → Calls Tryd.prog 82 #[.slice A2 m c, .int .i64 6] u fun e w' => e = .returned (.int .i64 z2) ∧ Below u.heap.size u w')
    (HCP : ∀ u : World, Below ww.heap.size ww u → Calls Tryd.prog 83 #[.slice A8 n8 c8] u fun e w' => ∃ v, e = .returned v ∧ w'.ownsRow u.heap.size 5 1 v n8 (l8.map (Value.int .u8)) ∧ Below u.heap.size u w') {ops : Array Oper}
    (hops : (ops.map fun o => (o.op, o.dst, o.guard)) = #[(Op.fieldAddr 28 (Operand.tmp 1) 2, some 16, none), (Op.load 22 (Operand.tmp 16), some 17, none), (Op.call { callee := Callee.value (Operand.func 81), args := #[(Operand.tmp 17), (Operand.const (Value.int .i64 0))], argTypes := #[22, 2] }, some 18, none), (Op.fieldAddr 28 (Operand.tmp 1) 2, some 19, none), (Op.load 22 (Operand.tmp 19), some 20, none), (Op.call { callee := Callee.value (Operand.func 82), args := #[(Operand.tmp 20), (Operand.const (Value.int .i64 4))], argTypes := #[22, 2] }, some 21, none), (Op.fieldAddr 28 (Operand.tmp 1) 2, some 22, none), (Op.load 22 (Operand.tmp 22), some 23, none), (Op.call { callee := Callee.value (Operand.func 82), args := #[(Operand.tmp 23), (Operand.const (Value.int .i64 6))], argTypes := #[22, 2] }, some 24, none), (Op.fieldAddr 28 (Operand.tmp 1) 1, some 25, none), (Op.load 2 (Operand.tmp 25), some 26, none), (Op.binOp BinOp.rem 2 (Operand.tmp 26) ((Operand.const (Value.int .i64 2))) 2, some 27, none), (Op.binOp BinOp.eql 2 (Operand.tmp 27) ((Operand.const (Value.int .i64 1))) 2, some 28, none), (Op.fieldAddr 28 (Operand.tmp 1) 1, some 29, none), (Op.load 2 (Operand.tmp 29), some 30, none), (Op.binOp BinOp.quo 2 (Operand.tmp 30) ((Operand.const (Value.int .i64 2))) 2, some 31, none), (Op.binOp BinOp.rem 2 (Operand.tmp 31) ((Operand.const (Value.int .i64 2))) 2, some 32, none), (Op.binOp BinOp.eql 2 (Operand.tmp 32) ((Operand.const (Value.int .i64 1))) 2, some 33, none), (Op.fieldAddr 28 (Operand.tmp 1) 1, some 34, none), (Op.load 2 (Operand.tmp 34), some 35, none), (Op.binOp BinOp.quo 2 (Operand.tmp 35) ((Operand.const (Value.int .i64 4))) 2, some 36, none), (Op.binOp BinOp.rem 2 (Operand.tmp 36) ((Operand.const (Value.int .i64 2))) 2, some 37, none), (Op.binOp BinOp.eql 2 (Operand.tmp 37) ((Operand.const (Value.int .i64 1))) 2, some 38, none), (Op.fieldAddr 28 (Operand.tmp 1) 2, some 39, none), (Op.load 22 (Operand.tmp 39), some 40, none), (Op.slice 22 (Operand.tmp 40) (some ((Operand.const (Value.int .i64 8)))) none none, some 41, none), (Op.call { callee := Callee.value (Operand.func 83), args := #[(Operand.tmp 41)], argTypes := #[22] }, some 42, none), (Op.build 25 #[(0, (Operand.tmp 18)), (1, (Operand.tmp 21)), (2, (Operand.tmp 24)), (4, (Operand.tmp 28)), (3, (Operand.tmp 33)), (5, (Operand.tmp 38)), (6, (Operand.tmp 42))], some 43, none), (Op.alloc 25, some 4, none), (Op.store 25 (Operand.tmp 4) (Operand.tmp 43), none, none)])
    (hdeps : ((List.range 30).all fun i => ((fun i => [[], [0], [1], [], [3], [4], [], [6], [7], [], [9], [10], [11], [], [13], [14], [15], [16], [], [18], [19], [20], [21], [], [23], [24], [25], [2, 5, 8, 12, 17, 22, 26], [], [27, 28]].getD i []) i).all fun j => ((ops[i]?).map fun o => o.after.any fun e => Region.binds .any e && e.on == j).getD false) = true)
    (hback : ((List.range 30).all fun i => ((ops[i]?).map fun o => o.after.all fun e => decide (e.on < i)).getD false) = true)
    {a0 : Act} {w0 : World} (ha : a0 = { tmps := #[x0, .pointer (some ⟨k, 0, none⟩), x2, x3, undef, x5, x6, x7, x8, x9, x10, x11, x12, x13, x14, x15, undef, undef, undef, undef, undef, undef, undef, undef, undef, undef, undef, undef, undef, undef, undef, undef, undef, undef, undef, undef, undef, undef, undef, undef, undef, undef, undef, undef, undef, undef, undef, undef, undef, undef, undef], defers := [] }) (hE : false = true → false = true) (hO : Below ww.heap.size ww w0)
    (fin : ∀ t16 t17 t18 t19 t20 t21 t22 t23 t24 t25 t26 t27 t28 t29 t30 t31 t32 t33 t34 t35 t36 t37 t38 t39 t40 t41 t42 t43 t4 (W : World), (Below ww.heap.size ww W) → (∃ (g : Nat) (A9 : Option Addr) (c9 : Nat), t4 = .pointer (some ⟨g, 0, none⟩) ∧ Blk W g 25 #[.int .i64 z0, .int .i64 z1, .int .i64 z2, .bool b2, .bool b1, .bool b4, .slice A9 n8 c9] ∧ W.ownsRow ww.heap.size 5 1 (.slice A9 n8 c9) n8 (l8.map (Value.int .u8)) ∧ ww.heap.size ≤ g) → Q .normal { tmps := #[x0, .pointer (some ⟨k, 0, none⟩), x2, x3, t4, x5, x6, x7, x8, x9, x10, x11, x12, x13, x14, x15, t16, t17, t18, t19, t20, t21, t22, t23, t24, t25, t26, t27, t28, t29, t30, t31, t32, t33, t34, t35, t36, t37, t38, t39, t40, t41, t42, t43, undef, undef, undef, undef, undef, undef, undef], defers := [] } W) :
    wpAny Tryd.prog .any ops Q ops.size (Array.replicate ops.size false) a0 w0 := by
  have hn : ops.size = 30 := by have := congrArg Array.size hops; simpa using this
  obtain ⟨J, HJ⟩ : ∃ J : (Nat → Bool) → Act → World → Prop, ∀ dn ac W, J dn ac W ↔ (fun dn ac W => ∃ t16 t17 t18 t19 t20 t21 t22 t23 t24 t25 t26 t27 t28 t29 t30 t31 t32 t33 t34 t35 t36 t37 t38 t39 t40 t41 t42 t43 t4, ac = { tmps := #[x0, .pointer (some ⟨k, 0, none⟩), x2, x3, t4, x5, x6, x7, x8, x9, x10, x11, x12, x13, x14, x15, t16, t17, t18, t19, t20, t21, t22, t23, t24, t25, t26, t27, t28, t29, t30, t31, t32, t33, t34, t35, t36, t37, t38, t39, t40, t41, t42, t43, undef, undef, undef, undef, undef, undef, undef], defers := [] } ∧ (dn 29 = true → dn 28 = true) ∧ (Below ww.heap.size ww W) ∧ (dn 0 = true → t16 = .pointer (some ⟨k, 2, none⟩)) ∧ (dn 1 = true → t17 = .slice A2 m c) ∧ (dn 2 = true → t18 = .int .i64 z0) ∧ (dn 3 = true → t19 = .pointer (some ⟨k, 2, none⟩)) ∧ (dn 4 = true → t20 = .slice A2 m c) ∧ (dn 5 = true → t21 = .int .i64 z1) ∧ (dn 6 = true → t22 = .pointer (some ⟨k, 2, none⟩)) ∧ (dn 7 = true → t23 = .slice A2 m c) ∧ (dn 8 = true → t24 = .int .i64 z2) ∧ (dn 9 = true → t25 = .pointer (some ⟨k, 1, none⟩)) ∧ (dn 10 = true → t26 = .int .i64 f) ∧ (dn 11 = true → t27 = .int .i64 (f % 2)) ∧ (dn 12 = true → t28 = .bool b1) ∧ (dn 13 = true → t29 = .pointer (some ⟨k, 1, none⟩)) ∧ (dn 14 = true → t30 = .int .i64 f) ∧ (dn 15 = true → t31 = .int .i64 (f / 2)) ∧ (dn 16 = true → t32 = .int .i64 (f / 2 % 2)) ∧ (dn 17 = true → t33 = .bool b2) ∧ (dn 18 = true → t34 = .pointer (some ⟨k, 1, none⟩)) ∧ (dn 19 = true → t35 = .int .i64 f) ∧ (dn 20 = true → t36 = .int .i64 (f / 4)) ∧ (dn 21 = true → t37 = .int .i64 (f / 4 % 2)) ∧ (dn 22 = true → t38 = .bool b4) ∧ (dn 23 = true → t39 = .pointer (some ⟨k, 2, none⟩)) ∧ (dn 24 = true → t40 = .slice A2 m c) ∧ (dn 25 = true → t41 = .slice A8 n8 c8) ∧ (dn 26 = true → ∃ (A9 : Option Addr) (c9 : Nat), t42 = .slice A9 n8 c9 ∧ W.ownsRow ww.heap.size 5 1 (.slice A9 n8 c9) n8 (l8.map (Value.int .u8))) ∧ (dn 27 = true → ∃ (A9 : Option Addr) (c9 : Nat), t43 = .agg #[.int .i64 z0, .int .i64 z1, .int .i64 z2, .bool b2, .bool b1, .bool b4, .slice A9 n8 c9] ∧ W.ownsRow ww.heap.size 5 1 (.slice A9 n8 c9) n8 (l8.map (Value.int .u8))) ∧ (dn 28 = true → dn 29 = false → ∃ g : Nat, t4 = .pointer (some ⟨g, 0, none⟩) ∧ Blk W g 25 #[.int .i64 0, .int .i64 0, .int .i64 0, .bool false, .bool false, .bool false, .slice none 0 0] ∧ ww.heap.size ≤ g) ∧ (dn 29 = true → ∃ (g : Nat) (A9 : Option Addr) (c9 : Nat), t4 = .pointer (some ⟨g, 0, none⟩) ∧ Blk W g 25 #[.int .i64 z0, .int .i64 z1, .int .i64 z2, .bool b2, .bool b1, .bool b4, .slice A9 n8 c9] ∧ W.ownsRow ww.heap.size 5 1 (.slice A9 n8 c9) n8 (l8.map (Value.int .u8)) ∧ ww.heap.size ≤ g)) dn ac W := ⟨_, fun _ _ _ => Iff.rfl⟩
  replace HJ := hidH HJ
  refine region_inv 30 (fun i => [[], [0], [1], [], [3], [4], [], [6], [7], [], [9], [10], [11], [], [13], [14], [15], [16], [], [18], [19], [20], [21], [], [23], [24], [25], [2, 5, 8, 12, 17, 22, 26], [], [27, 28]].getD i []) J hn hdeps hback ?start ?step ?fin
  case start => exact (HJ.out _ _ _).2 ⟨undef, undef, undef, undef, undef, undef, undef, undef, undef, undef, undef, undef, undef, undef, undef, undef, undef, undef, undef, undef, undef, undef, undef, undef, undef, undef, undef, undef, undef, ha, hE, hO, fun h => by simp at h, fun h => by simp at h, fun h => by simp at h, fun h => by simp at h, fun h => by simp at h, fun h => by simp at h, fun h => by simp at h, fun h => by simp at h, fun h => by simp at h, fun h => by simp at h, fun h => by simp at h, fun h => by simp at h, fun h => by simp at h, fun h => by simp at h, fun h => by simp at h, fun h => by simp at h, fun h => by simp at h, fun h => by simp at h, fun h => by simp at h, fun h => by simp at h, fun h => by simp at h, fun h => by simp at h, fun h => by simp at h, fun h => by simp at h, fun h => by simp at h, fun h => by simp at h, fun h => by simp at h, fun h => by simp at h, fun h => by simp at h, fun h => by simp at h⟩
  all_goals clear ha hE hO
  case step =>
    clear fin hdeps hback
    intro i hi dn ac W hJ hdn hdep
    obtain ⟨t16, t17, t18, t19, t20, t21, t22, t23, t24, t25, t26, t27, t28, t29, t30, t31, t32, t33, t34, t35, t36, t37, t38, t39, t40, t41, t42, t43, t4, rfl, hE, hO, h0, h1, h2, h3, h4, h5, h6, h7, h8, h9, h10, h11, h12, h13, h14, h15, h16, h17, h18, h19, h20, h21, h22, h23, h24, h25, h26, h27, h28, h29⟩ := (HJ.out _ _ _).1 hJ
    clear hJ
    match i, hi with
    | 0, _ =>
      obtain ⟨ty, ps, af, ho⟩ := op_lit hops (i := 0) (op := Op.fieldAddr 28 (Operand.tmp 1) 2) (dst := some 16) (g := none) rfl
      refine wpOp_lit ho (fun j b h => by cases h) ?_
      clear hops hdep ho
      replace h1 := hidH h1
      replace h2 := hidH h2
      replace h3 := hidH h3
      replace h4 := hidH h4
      replace h5 := hidH h5
      replace h6 := hidH h6
      replace h7 := hidH h7
      replace h8 := hidH h8
      replace h9 := hidH h9
      replace h10 := hidH h10
      replace h11 := hidH h11
      replace h12 := hidH h12
      replace h13 := hidH h13
      replace h14 := hidH h14
      replace h15 := hidH h15
      replace h16 := hidH h16
      replace h17 := hidH h17
      replace h18 := hidH h18
      replace h19 := hidH h19
      replace h20 := hidH h20
      replace h21 := hidH h21
      replace h22 := hidH h22
      replace h23 := hidH h23
      replace h24 := hidH h24
      replace h25 := hidH h25
      replace h26 := hidH h26
      replace h27 := hidH h27
      replace h28 := hidH h28
      replace h29 := hidH h29
      go_wp2
      exact (HJ.out _ _ _).2 ⟨_, _, _, _, _, _, _, _, _, _, _, _, _, _, _, _, _, _, _, _, _, _, _, _, _, _, _, _, _, rfl, hE, hO, fun _ => rfl, h1.out, h2.out, h3.out, h4.out, h5.out, h6.out, h7.out, h8.out, h9.out, h10.out, h11.out, h12.out, h13.out, h14.out, h15.out, h16.out, h17.out, h18.out, h19.out, h20.out, h21.out, h22.out, h23.out, h24.out, h25.out, h26.out, h27.out, h28.out, h29.out⟩
    | 1, _ =>
      obtain ⟨ty, ps, af, ho⟩ := op_lit hops (i := 1) (op := Op.load 22 (Operand.tmp 16)) (dst := some 17) (g := none) rfl
      obtain rfl := h0 (hdep 0 (by simp))
      refine wpOp_lit ho (fun j b h => by cases h) ?_
      clear hops hdep ho
      replace h0 := hidH h0
      replace h2 := hidH h2
      replace h3 := hidH h3
      replace h4 := hidH h4
      replace h5 := hidH h5
      replace h6 := hidH h6
      replace h7 := hidH h7
      replace h8 := hidH h8
      replace h9 := hidH h9
      replace h10 := hidH h10
      replace h11 := hidH h11
      replace h12 := hidH h12
      replace h13 := hidH h13
      replace h14 := hidH h14
      replace h15 := hidH h15
      replace h16 := hidH h16
      replace h17 := hidH h17
      replace h18 := hidH h18
      replace h19 := hidH h19
      replace h20 := hidH h20
      replace h21 := hidH h21
      replace h22 := hidH h22
      replace h23 := hidH h23
      replace h24 := hidH h24
      replace h25 := hidH h25
      replace h26 := hidH h26
      replace h27 := hidH h27
      replace h28 := hidH h28
      replace h29 := hidH h29
      have hb := Below.refl W.heap.size W
      have q1 := (hO.cell (p := ⟨k, 2, none⟩) hkl).trans hk2
      go_wp2
      exact (HJ.out _ _ _).2 ⟨_, _, _, _, _, _, _, _, _, _, _, _, _, _, _, _, _, _, _, _, _, _, _, _, _, _, _, _, _, rfl, hE, btr hO hb, fun _ => rfl, fun _ => rfl, h2.out, h3.out, h4.out, h5.out, h6.out, h7.out, h8.out, h9.out, h10.out, h11.out, h12.out, h13.out, h14.out, h15.out, h16.out, h17.out, h18.out, h19.out, h20.out, h21.out, h22.out, h23.out, h24.out, h25.out, fun h => by obtain ⟨A9, c9, q1, q2⟩ := h26.out h; exact ⟨A9, c9, q1, own_below0 q2 hb⟩, fun h => by obtain ⟨A9, c9, q1, q2⟩ := h27.out h; exact ⟨A9, c9, q1, own_below0 q2 hb⟩, (fun h h2 => by obtain ⟨g, q1, q2, q3⟩ := h28.out h h2; exact ⟨g, q1, q2.below hb, q3⟩), fun h => by obtain ⟨g, A9, c9, q1, q2, q3, q4⟩ := h29.out h; exact ⟨g, A9, c9, q1, q2.below hb, own_below0 q3 hb, q4⟩⟩
    | 2, _ =>
      obtain ⟨ty, ps, af, ho⟩ := op_lit hops (i := 2) (op := Op.call { callee := Callee.value (Operand.func 81), args := #[(Operand.tmp 17), (Operand.const (Value.int .i64 0))], argTypes := #[22, 2] }) (dst := some 18) (g := none) rfl
      obtain rfl := h1 (hdep 1 (by simp))
      refine wpOp_lit ho (fun j b h => by cases h) ?_
      clear hops hdep ho
      replace h0 := hidH h0
      replace h1 := hidH h1
      replace h3 := hidH h3
      replace h4 := hidH h4
      replace h5 := hidH h5
      replace h6 := hidH h6
      replace h7 := hidH h7
      replace h8 := hidH h8
      replace h9 := hidH h9
      replace h10 := hidH h10
      replace h11 := hidH h11
      replace h12 := hidH h12
      replace h13 := hidH h13
      replace h14 := hidH h14
      replace h15 := hidH h15
      replace h16 := hidH h16
      replace h17 := hidH h17
      replace h18 := hidH h18
      replace h19 := hidH h19
      replace h20 := hidH h20
      replace h21 := hidH h21
      replace h22 := hidH h22
      replace h23 := hidH h23
      replace h24 := hidH h24
      replace h25 := hidH h25
      replace h26 := hidH h26
      replace h27 := hidH h27
      replace h28 := hidH h28
      replace h29 := hidH h29
      go_wp2_with fail
      refine (CH0 _ hO).mono ?_
      rintro e w1 ⟨rfl, hb⟩
      go_wp2
      exact (HJ.out _ _ _).2 ⟨_, _, _, _, _, _, _, _, _, _, _, _, _, _, _, _, _, _, _, _, _, _, _, _, _, _, _, _, _, rfl, hE, btr hO hb, h0.out, fun _ => rfl, fun _ => rfl, h3.out, h4.out, h5.out, h6.out, h7.out, h8.out, h9.out, h10.out, h11.out, h12.out, h13.out, h14.out, h15.out, h16.out, h17.out, h18.out, h19.out, h20.out, h21.out, h22.out, h23.out, h24.out, h25.out, fun h => by obtain ⟨A9, c9, q1, q2⟩ := h26.out h; exact ⟨A9, c9, q1, own_below0 q2 hb⟩, fun h => by obtain ⟨A9, c9, q1, q2⟩ := h27.out h; exact ⟨A9, c9, q1, own_below0 q2 hb⟩, (fun h h2 => by obtain ⟨g, q1, q2, q3⟩ := h28.out h h2; exact ⟨g, q1, q2.below hb, q3⟩), fun h => by obtain ⟨g, A9, c9, q1, q2, q3, q4⟩ := h29.out h; exact ⟨g, A9, c9, q1, q2.below hb, own_below0 q3 hb, q4⟩⟩
    | 3, _ =>
      obtain ⟨ty, ps, af, ho⟩ := op_lit hops (i := 3) (op := Op.fieldAddr 28 (Operand.tmp 1) 2) (dst := some 19) (g := none) rfl
      refine wpOp_lit ho (fun j b h => by cases h) ?_
      clear hops hdep ho
      replace h0 := hidH h0
      replace h1 := hidH h1
      replace h2 := hidH h2
      replace h4 := hidH h4
      replace h5 := hidH h5
      replace h6 := hidH h6
      replace h7 := hidH h7
      replace h8 := hidH h8
      replace h9 := hidH h9
      replace h10 := hidH h10
      replace h11 := hidH h11
      replace h12 := hidH h12
      replace h13 := hidH h13
      replace h14 := hidH h14
      replace h15 := hidH h15
      replace h16 := hidH h16
      replace h17 := hidH h17
      replace h18 := hidH h18
      replace h19 := hidH h19
      replace h20 := hidH h20
      replace h21 := hidH h21
      replace h22 := hidH h22
      replace h23 := hidH h23
      replace h24 := hidH h24
      replace h25 := hidH h25
      replace h26 := hidH h26
      replace h27 := hidH h27
      replace h28 := hidH h28
      replace h29 := hidH h29
      go_wp2
      exact (HJ.out _ _ _).2 ⟨_, _, _, _, _, _, _, _, _, _, _, _, _, _, _, _, _, _, _, _, _, _, _, _, _, _, _, _, _, rfl, hE, hO, h0.out, h1.out, h2.out, fun _ => rfl, h4.out, h5.out, h6.out, h7.out, h8.out, h9.out, h10.out, h11.out, h12.out, h13.out, h14.out, h15.out, h16.out, h17.out, h18.out, h19.out, h20.out, h21.out, h22.out, h23.out, h24.out, h25.out, h26.out, h27.out, h28.out, h29.out⟩
    | 4, _ =>
      obtain ⟨ty, ps, af, ho⟩ := op_lit hops (i := 4) (op := Op.load 22 (Operand.tmp 19)) (dst := some 20) (g := none) rfl
      obtain rfl := h3 (hdep 3 (by simp))
      refine wpOp_lit ho (fun j b h => by cases h) ?_
      clear hops hdep ho
      replace h0 := hidH h0
      replace h1 := hidH h1
      replace h2 := hidH h2
      replace h3 := hidH h3
      replace h5 := hidH h5
      replace h6 := hidH h6
      replace h7 := hidH h7
      replace h8 := hidH h8
      replace h9 := hidH h9
      replace h10 := hidH h10
      replace h11 := hidH h11
      replace h12 := hidH h12
      replace h13 := hidH h13
      replace h14 := hidH h14
      replace h15 := hidH h15
      replace h16 := hidH h16
      replace h17 := hidH h17
      replace h18 := hidH h18
      replace h19 := hidH h19
      replace h20 := hidH h20
      replace h21 := hidH h21
      replace h22 := hidH h22
      replace h23 := hidH h23
      replace h24 := hidH h24
      replace h25 := hidH h25
      replace h26 := hidH h26
      replace h27 := hidH h27
      replace h28 := hidH h28
      replace h29 := hidH h29
      have hb := Below.refl W.heap.size W
      have q1 := (hO.cell (p := ⟨k, 2, none⟩) hkl).trans hk2
      go_wp2
      exact (HJ.out _ _ _).2 ⟨_, _, _, _, _, _, _, _, _, _, _, _, _, _, _, _, _, _, _, _, _, _, _, _, _, _, _, _, _, rfl, hE, btr hO hb, h0.out, h1.out, h2.out, fun _ => rfl, fun _ => rfl, h5.out, h6.out, h7.out, h8.out, h9.out, h10.out, h11.out, h12.out, h13.out, h14.out, h15.out, h16.out, h17.out, h18.out, h19.out, h20.out, h21.out, h22.out, h23.out, h24.out, h25.out, fun h => by obtain ⟨A9, c9, q1, q2⟩ := h26.out h; exact ⟨A9, c9, q1, own_below0 q2 hb⟩, fun h => by obtain ⟨A9, c9, q1, q2⟩ := h27.out h; exact ⟨A9, c9, q1, own_below0 q2 hb⟩, (fun h h2 => by obtain ⟨g, q1, q2, q3⟩ := h28.out h h2; exact ⟨g, q1, q2.below hb, q3⟩), fun h => by obtain ⟨g, A9, c9, q1, q2, q3, q4⟩ := h29.out h; exact ⟨g, A9, c9, q1, q2.below hb, own_below0 q3 hb, q4⟩⟩
    | 5, _ =>
      obtain ⟨ty, ps, af, ho⟩ := op_lit hops (i := 5) (op := Op.call { callee := Callee.value (Operand.func 82), args := #[(Operand.tmp 20), (Operand.const (Value.int .i64 4))], argTypes := #[22, 2] }) (dst := some 21) (g := none) rfl
      obtain rfl := h4 (hdep 4 (by simp))
      refine wpOp_lit ho (fun j b h => by cases h) ?_
      clear hops hdep ho
      replace h0 := hidH h0
      replace h1 := hidH h1
      replace h2 := hidH h2
      replace h3 := hidH h3
      replace h4 := hidH h4
      replace h6 := hidH h6
      replace h7 := hidH h7
      replace h8 := hidH h8
      replace h9 := hidH h9
      replace h10 := hidH h10
      replace h11 := hidH h11
      replace h12 := hidH h12
      replace h13 := hidH h13
      replace h14 := hidH h14
      replace h15 := hidH h15
      replace h16 := hidH h16
      replace h17 := hidH h17
      replace h18 := hidH h18
      replace h19 := hidH h19
      replace h20 := hidH h20
      replace h21 := hidH h21
      replace h22 := hidH h22
      replace h23 := hidH h23
      replace h24 := hidH h24
      replace h25 := hidH h25
      replace h26 := hidH h26
      replace h27 := hidH h27
      replace h28 := hidH h28
      replace h29 := hidH h29
      go_wp2_with fail
      refine (CH1 _ hO).mono ?_
      rintro e w1 ⟨rfl, hb⟩
      go_wp2
      exact (HJ.out _ _ _).2 ⟨_, _, _, _, _, _, _, _, _, _, _, _, _, _, _, _, _, _, _, _, _, _, _, _, _, _, _, _, _, rfl, hE, btr hO hb, h0.out, h1.out, h2.out, h3.out, fun _ => rfl, fun _ => rfl, h6.out, h7.out, h8.out, h9.out, h10.out, h11.out, h12.out, h13.out, h14.out, h15.out, h16.out, h17.out, h18.out, h19.out, h20.out, h21.out, h22.out, h23.out, h24.out, h25.out, fun h => by obtain ⟨A9, c9, q1, q2⟩ := h26.out h; exact ⟨A9, c9, q1, own_below0 q2 hb⟩, fun h => by obtain ⟨A9, c9, q1, q2⟩ := h27.out h; exact ⟨A9, c9, q1, own_below0 q2 hb⟩, (fun h h2 => by obtain ⟨g, q1, q2, q3⟩ := h28.out h h2; exact ⟨g, q1, q2.below hb, q3⟩), fun h => by obtain ⟨g, A9, c9, q1, q2, q3, q4⟩ := h29.out h; exact ⟨g, A9, c9, q1, q2.below hb, own_below0 q3 hb, q4⟩⟩
    | 6, _ =>
      obtain ⟨ty, ps, af, ho⟩ := op_lit hops (i := 6) (op := Op.fieldAddr 28 (Operand.tmp 1) 2) (dst := some 22) (g := none) rfl
      refine wpOp_lit ho (fun j b h => by cases h) ?_
      clear hops hdep ho
      replace h0 := hidH h0
      replace h1 := hidH h1
      replace h2 := hidH h2
      replace h3 := hidH h3
      replace h4 := hidH h4
      replace h5 := hidH h5
      replace h7 := hidH h7
      replace h8 := hidH h8
      replace h9 := hidH h9
      replace h10 := hidH h10
      replace h11 := hidH h11
      replace h12 := hidH h12
      replace h13 := hidH h13
      replace h14 := hidH h14
      replace h15 := hidH h15
      replace h16 := hidH h16
      replace h17 := hidH h17
      replace h18 := hidH h18
      replace h19 := hidH h19
      replace h20 := hidH h20
      replace h21 := hidH h21
      replace h22 := hidH h22
      replace h23 := hidH h23
      replace h24 := hidH h24
      replace h25 := hidH h25
      replace h26 := hidH h26
      replace h27 := hidH h27
      replace h28 := hidH h28
      replace h29 := hidH h29
      go_wp2
      exact (HJ.out _ _ _).2 ⟨_, _, _, _, _, _, _, _, _, _, _, _, _, _, _, _, _, _, _, _, _, _, _, _, _, _, _, _, _, rfl, hE, hO, h0.out, h1.out, h2.out, h3.out, h4.out, h5.out, fun _ => rfl, h7.out, h8.out, h9.out, h10.out, h11.out, h12.out, h13.out, h14.out, h15.out, h16.out, h17.out, h18.out, h19.out, h20.out, h21.out, h22.out, h23.out, h24.out, h25.out, h26.out, h27.out, h28.out, h29.out⟩
    | 7, _ =>
      obtain ⟨ty, ps, af, ho⟩ := op_lit hops (i := 7) (op := Op.load 22 (Operand.tmp 22)) (dst := some 23) (g := none) rfl
      obtain rfl := h6 (hdep 6 (by simp))
      refine wpOp_lit ho (fun j b h => by cases h) ?_
      clear hops hdep ho
      replace h0 := hidH h0
      replace h1 := hidH h1
      replace h2 := hidH h2
      replace h3 := hidH h3
      replace h4 := hidH h4
      replace h5 := hidH h5
      replace h6 := hidH h6
      replace h8 := hidH h8
      replace h9 := hidH h9
      replace h10 := hidH h10
      replace h11 := hidH h11
      replace h12 := hidH h12
      replace h13 := hidH h13
      replace h14 := hidH h14
      replace h15 := hidH h15
      replace h16 := hidH h16
      replace h17 := hidH h17
      replace h18 := hidH h18
      replace h19 := hidH h19
      replace h20 := hidH h20
      replace h21 := hidH h21
      replace h22 := hidH h22
      replace h23 := hidH h23
      replace h24 := hidH h24
      replace h25 := hidH h25
      replace h26 := hidH h26
      replace h27 := hidH h27
      replace h28 := hidH h28
      replace h29 := hidH h29
      have hb := Below.refl W.heap.size W
      have q1 := (hO.cell (p := ⟨k, 2, none⟩) hkl).trans hk2
      go_wp2
      exact (HJ.out _ _ _).2 ⟨_, _, _, _, _, _, _, _, _, _, _, _, _, _, _, _, _, _, _, _, _, _, _, _, _, _, _, _, _, rfl, hE, btr hO hb, h0.out, h1.out, h2.out, h3.out, h4.out, h5.out, fun _ => rfl, fun _ => rfl, h8.out, h9.out, h10.out, h11.out, h12.out, h13.out, h14.out, h15.out, h16.out, h17.out, h18.out, h19.out, h20.out, h21.out, h22.out, h23.out, h24.out, h25.out, fun h => by obtain ⟨A9, c9, q1, q2⟩ := h26.out h; exact ⟨A9, c9, q1, own_below0 q2 hb⟩, fun h => by obtain ⟨A9, c9, q1, q2⟩ := h27.out h; exact ⟨A9, c9, q1, own_below0 q2 hb⟩, (fun h h2 => by obtain ⟨g, q1, q2, q3⟩ := h28.out h h2; exact ⟨g, q1, q2.below hb, q3⟩), fun h => by obtain ⟨g, A9, c9, q1, q2, q3, q4⟩ := h29.out h; exact ⟨g, A9, c9, q1, q2.below hb, own_below0 q3 hb, q4⟩⟩
    | 8, _ =>
      obtain ⟨ty, ps, af, ho⟩ := op_lit hops (i := 8) (op := Op.call { callee := Callee.value (Operand.func 82), args := #[(Operand.tmp 23), (Operand.const (Value.int .i64 6))], argTypes := #[22, 2] }) (dst := some 24) (g := none) rfl
      obtain rfl := h7 (hdep 7 (by simp))
      refine wpOp_lit ho (fun j b h => by cases h) ?_
      clear hops hdep ho
      replace h0 := hidH h0
      replace h1 := hidH h1
      replace h2 := hidH h2
      replace h3 := hidH h3
      replace h4 := hidH h4
      replace h5 := hidH h5
      replace h6 := hidH h6
      replace h7 := hidH h7
      replace h9 := hidH h9
      replace h10 := hidH h10
      replace h11 := hidH h11
      replace h12 := hidH h12
      replace h13 := hidH h13
      replace h14 := hidH h14
      replace h15 := hidH h15
      replace h16 := hidH h16
      replace h17 := hidH h17
      replace h18 := hidH h18
      replace h19 := hidH h19
      replace h20 := hidH h20
      replace h21 := hidH h21
      replace h22 := hidH h22
      replace h23 := hidH h23
      replace h24 := hidH h24
      replace h25 := hidH h25
      replace h26 := hidH h26
      replace h27 := hidH h27
      replace h28 := hidH h28
      replace h29 := hidH h29
      go_wp2_with fail
      refine (CH2 _ hO).mono ?_
      rintro e w1 ⟨rfl, hb⟩
      go_wp2
      exact (HJ.out _ _ _).2 ⟨_, _, _, _, _, _, _, _, _, _, _, _, _, _, _, _, _, _, _, _, _, _, _, _, _, _, _, _, _, rfl, hE, btr hO hb, h0.out, h1.out, h2.out, h3.out, h4.out, h5.out, h6.out, fun _ => rfl, fun _ => rfl, h9.out, h10.out, h11.out, h12.out, h13.out, h14.out, h15.out, h16.out, h17.out, h18.out, h19.out, h20.out, h21.out, h22.out, h23.out, h24.out, h25.out, fun h => by obtain ⟨A9, c9, q1, q2⟩ := h26.out h; exact ⟨A9, c9, q1, own_below0 q2 hb⟩, fun h => by obtain ⟨A9, c9, q1, q2⟩ := h27.out h; exact ⟨A9, c9, q1, own_below0 q2 hb⟩, (fun h h2 => by obtain ⟨g, q1, q2, q3⟩ := h28.out h h2; exact ⟨g, q1, q2.below hb, q3⟩), fun h => by obtain ⟨g, A9, c9, q1, q2, q3, q4⟩ := h29.out h; exact ⟨g, A9, c9, q1, q2.below hb, own_below0 q3 hb, q4⟩⟩
    | 9, _ =>
      obtain ⟨ty, ps, af, ho⟩ := op_lit hops (i := 9) (op := Op.fieldAddr 28 (Operand.tmp 1) 1) (dst := some 25) (g := none) rfl
      refine wpOp_lit ho (fun j b h => by cases h) ?_
      clear hops hdep ho
      replace h0 := hidH h0
      replace h1 := hidH h1
      replace h2 := hidH h2
      replace h3 := hidH h3
      replace h4 := hidH h4
      replace h5 := hidH h5
      replace h6 := hidH h6
      replace h7 := hidH h7
      replace h8 := hidH h8
      replace h10 := hidH h10
      replace h11 := hidH h11
      replace h12 := hidH h12
      replace h13 := hidH h13
      replace h14 := hidH h14
      replace h15 := hidH h15
      replace h16 := hidH h16
      replace h17 := hidH h17
      replace h18 := hidH h18
      replace h19 := hidH h19
      replace h20 := hidH h20
      replace h21 := hidH h21
      replace h22 := hidH h22
      replace h23 := hidH h23
      replace h24 := hidH h24
      replace h25 := hidH h25
      replace h26 := hidH h26
      replace h27 := hidH h27
      replace h28 := hidH h28
      replace h29 := hidH h29
      go_wp2
      exact (HJ.out _ _ _).2 ⟨_, _, _, _, _, _, _, _, _, _, _, _, _, _, _, _, _, _, _, _, _, _, _, _, _, _, _, _, _, rfl, hE, hO, h0.out, h1.out, h2.out, h3.out, h4.out, h5.out, h6.out, h7.out, h8.out, fun _ => rfl, h10.out, h11.out, h12.out, h13.out, h14.out, h15.out, h16.out, h17.out, h18.out, h19.out, h20.out, h21.out, h22.out, h23.out, h24.out, h25.out, h26.out, h27.out, h28.out, h29.out⟩
    | 10, _ =>
      obtain ⟨ty, ps, af, ho⟩ := op_lit hops (i := 10) (op := Op.load 2 (Operand.tmp 25)) (dst := some 26) (g := none) rfl
      obtain rfl := h9 (hdep 9 (by simp))
      refine wpOp_lit ho (fun j b h => by cases h) ?_
      clear hops hdep ho
      replace h0 := hidH h0
      replace h1 := hidH h1
      replace h2 := hidH h2
      replace h3 := hidH h3
      replace h4 := hidH h4
      replace h5 := hidH h5
      replace h6 := hidH h6
      replace h7 := hidH h7
      replace h8 := hidH h8
      replace h9 := hidH h9
      replace h11 := hidH h11
      replace h12 := hidH h12
      replace h13 := hidH h13
      replace h14 := hidH h14
      replace h15 := hidH h15
      replace h16 := hidH h16
      replace h17 := hidH h17
      replace h18 := hidH h18
      replace h19 := hidH h19
      replace h20 := hidH h20
      replace h21 := hidH h21
      replace h22 := hidH h22
      replace h23 := hidH h23
      replace h24 := hidH h24
      replace h25 := hidH h25
      replace h26 := hidH h26
      replace h27 := hidH h27
      replace h28 := hidH h28
      replace h29 := hidH h29
      have hb := Below.refl W.heap.size W
      have q1 := (hO.cell (p := ⟨k, 1, none⟩) hkl).trans hk1
      go_wp2
      exact (HJ.out _ _ _).2 ⟨_, _, _, _, _, _, _, _, _, _, _, _, _, _, _, _, _, _, _, _, _, _, _, _, _, _, _, _, _, rfl, hE, btr hO hb, h0.out, h1.out, h2.out, h3.out, h4.out, h5.out, h6.out, h7.out, h8.out, fun _ => rfl, fun _ => rfl, h11.out, h12.out, h13.out, h14.out, h15.out, h16.out, h17.out, h18.out, h19.out, h20.out, h21.out, h22.out, h23.out, h24.out, h25.out, fun h => by obtain ⟨A9, c9, q1, q2⟩ := h26.out h; exact ⟨A9, c9, q1, own_below0 q2 hb⟩, fun h => by obtain ⟨A9, c9, q1, q2⟩ := h27.out h; exact ⟨A9, c9, q1, own_below0 q2 hb⟩, (fun h h2 => by obtain ⟨g, q1, q2, q3⟩ := h28.out h h2; exact ⟨g, q1, q2.below hb, q3⟩), fun h => by obtain ⟨g, A9, c9, q1, q2, q3, q4⟩ := h29.out h; exact ⟨g, A9, c9, q1, q2.below hb, own_below0 q3 hb, q4⟩⟩
    | 11, _ =>
      obtain ⟨ty, ps, af, ho⟩ := op_lit hops (i := 11) (op := Op.binOp BinOp.rem 2 (Operand.tmp 26) ((Operand.const (Value.int .i64 2))) 2) (dst := some 27) (g := none) rfl
      obtain rfl := h10 (hdep 10 (by simp))
      refine wpOp_lit ho (fun j b h => by cases h) ?_
      clear hops hdep ho
      replace h0 := hidH h0
      replace h1 := hidH h1
      replace h2 := hidH h2
      replace h3 := hidH h3
      replace h4 := hidH h4
      replace h5 := hidH h5
      replace h6 := hidH h6
      replace h7 := hidH h7
      replace h8 := hidH h8
      replace h9 := hidH h9
      replace h10 := hidH h10
      replace h12 := hidH h12
      replace h13 := hidH h13
      replace h14 := hidH h14
      replace h15 := hidH h15
      replace h16 := hidH h16
      replace h17 := hidH h17
      replace h18 := hidH h18
      replace h19 := hidH h19
      replace h20 := hidH h20
      replace h21 := hidH h21
      replace h22 := hidH h22
      replace h23 := hidH h23
      replace h24 := hidH h24
      replace h25 := hidH h25
      replace h26 := hidH h26
      replace h27 := hidH h27
      replace h28 := hidH h28
      replace h29 := hidH h29
      go_wp2
      exact (HJ.out _ _ _).2 ⟨_, _, _, _, _, _, _, _, _, _, _, _, _, _, _, _, _, _, _, _, _, _, _, _, _, _, _, _, _, rfl, hE, hO, h0.out, h1.out, h2.out, h3.out, h4.out, h5.out, h6.out, h7.out, h8.out, h9.out, fun _ => rfl, fun _ => rfl, h12.out, h13.out, h14.out, h15.out, h16.out, h17.out, h18.out, h19.out, h20.out, h21.out, h22.out, h23.out, h24.out, h25.out, h26.out, h27.out, h28.out, h29.out⟩
    | 12, _ =>
      obtain ⟨ty, ps, af, ho⟩ := op_lit hops (i := 12) (op := Op.binOp BinOp.eql 2 (Operand.tmp 27) ((Operand.const (Value.int .i64 1))) 2) (dst := some 28) (g := none) rfl
      obtain rfl := h11 (hdep 11 (by simp))
      refine wpOp_lit ho (fun j b h => by cases h) ?_
      clear hops hdep ho
      replace h0 := hidH h0
      replace h1 := hidH h1
      replace h2 := hidH h2
      replace h3 := hidH h3
      replace h4 := hidH h4
      replace h5 := hidH h5
      replace h6 := hidH h6
      replace h7 := hidH h7
      replace h8 := hidH h8
      replace h9 := hidH h9
      replace h10 := hidH h10
      replace h11 := hidH h11
      replace h13 := hidH h13
      replace h14 := hidH h14
      replace h15 := hidH h15
      replace h16 := hidH h16
      replace h17 := hidH h17
      replace h18 := hidH h18
      replace h19 := hidH h19
      replace h20 := hidH h20
      replace h21 := hidH h21
      replace h22 := hidH h22
      replace h23 := hidH h23
      replace h24 := hidH h24
      replace h25 := hidH h25
      replace h26 := hidH h26
      replace h27 := hidH h27
      replace h28 := hidH h28
      replace h29 := hidH h29
      have q1 := hb1
      go_wp2
      exact (HJ.out _ _ _).2 ⟨_, _, _, _, _, _, _, _, _, _, _, _, _, _, _, _, _, _, _, _, _, _, _, _, _, _, _, _, _, rfl, hE, hO, h0.out, h1.out, h2.out, h3.out, h4.out, h5.out, h6.out, h7.out, h8.out, h9.out, h10.out, fun _ => rfl, fun _ => rfl, h13.out, h14.out, h15.out, h16.out, h17.out, h18.out, h19.out, h20.out, h21.out, h22.out, h23.out, h24.out, h25.out, h26.out, h27.out, h28.out, h29.out⟩
    | 13, _ =>
      obtain ⟨ty, ps, af, ho⟩ := op_lit hops (i := 13) (op := Op.fieldAddr 28 (Operand.tmp 1) 1) (dst := some 29) (g := none) rfl
      refine wpOp_lit ho (fun j b h => by cases h) ?_
      clear hops hdep ho
      replace h0 := hidH h0
      replace h1 := hidH h1
      replace h2 := hidH h2
      replace h3 := hidH h3
      replace h4 := hidH h4
      replace h5 := hidH h5
      replace h6 := hidH h6
      replace h7 := hidH h7
      replace h8 := hidH h8
      replace h9 := hidH h9
      replace h10 := hidH h10
      replace h11 := hidH h11
      replace h12 := hidH h12
      replace h14 := hidH h14
      replace h15 := hidH h15
      replace h16 := hidH h16
      replace h17 := hidH h17
      replace h18 := hidH h18
      replace h19 := hidH h19
      replace h20 := hidH h20
      replace h21 := hidH h21
      replace h22 := hidH h22
      replace h23 := hidH h23
      replace h24 := hidH h24
      replace h25 := hidH h25
      replace h26 := hidH h26
      replace h27 := hidH h27
      replace h28 := hidH h28
      replace h29 := hidH h29
      go_wp2
      exact (HJ.out _ _ _).2 ⟨_, _, _, _, _, _, _, _, _, _, _, _, _, _, _, _, _, _, _, _, _, _, _, _, _, _, _, _, _, rfl, hE, hO, h0.out, h1.out, h2.out, h3.out, h4.out, h5.out, h6.out, h7.out, h8.out, h9.out, h10.out, h11.out, h12.out, fun _ => rfl, h14.out, h15.out, h16.out, h17.out, h18.out, h19.out, h20.out, h21.out, h22.out, h23.out, h24.out, h25.out, h26.out, h27.out, h28.out, h29.out⟩
    | 14, _ =>
      obtain ⟨ty, ps, af, ho⟩ := op_lit hops (i := 14) (op := Op.load 2 (Operand.tmp 29)) (dst := some 30) (g := none) rfl
      obtain rfl := h13 (hdep 13 (by simp))
      refine wpOp_lit ho (fun j b h => by cases h) ?_
      clear hops hdep ho
      replace h0 := hidH h0
      replace h1 := hidH h1
      replace h2 := hidH h2
      replace h3 := hidH h3
      replace h4 := hidH h4
      replace h5 := hidH h5
      replace h6 := hidH h6
      replace h7 := hidH h7
      replace h8 := hidH h8
      replace h9 := hidH h9
      replace h10 := hidH h10
      replace h11 := hidH h11
      replace h12 := hidH h12
      replace h13 := hidH h13
      replace h15 := hidH h15
      replace h16 := hidH h16
      replace h17 := hidH h17
      replace h18 := hidH h18
      replace h19 := hidH h19
      replace h20 := hidH h20
      replace h21 := hidH h21
      replace h22 := hidH h22
      replace h23 := hidH h23
      replace h24 := hidH h24
      replace h25 := hidH h25
      replace h26 := hidH h26
      replace h27 := hidH h27
      replace h28 := hidH h28
      replace h29 := hidH h29
      have hb := Below.refl W.heap.size W
      have q1 := (hO.cell (p := ⟨k, 1, none⟩) hkl).trans hk1
      go_wp2
      exact (HJ.out _ _ _).2 ⟨_, _, _, _, _, _, _, _, _, _, _, _, _, _, _, _, _, _, _, _, _, _, _, _, _, _, _, _, _, rfl, hE, btr hO hb, h0.out, h1.out, h2.out, h3.out, h4.out, h5.out, h6.out, h7.out, h8.out, h9.out, h10.out, h11.out, h12.out, fun _ => rfl, fun _ => rfl, h15.out, h16.out, h17.out, h18.out, h19.out, h20.out, h21.out, h22.out, h23.out, h24.out, h25.out, fun h => by obtain ⟨A9, c9, q1, q2⟩ := h26.out h; exact ⟨A9, c9, q1, own_below0 q2 hb⟩, fun h => by obtain ⟨A9, c9, q1, q2⟩ := h27.out h; exact ⟨A9, c9, q1, own_below0 q2 hb⟩, (fun h h2 => by obtain ⟨g, q1, q2, q3⟩ := h28.out h h2; exact ⟨g, q1, q2.below hb, q3⟩), fun h => by obtain ⟨g, A9, c9, q1, q2, q3, q4⟩ := h29.out h; exact ⟨g, A9, c9, q1, q2.below hb, own_below0 q3 hb, q4⟩⟩
    | 15, _ =>
      obtain ⟨ty, ps, af, ho⟩ := op_lit hops (i := 15) (op := Op.binOp BinOp.quo 2 (Operand.tmp 30) ((Operand.const (Value.int .i64 2))) 2) (dst := some 31) (g := none) rfl
      obtain rfl := h14 (hdep 14 (by simp))
      refine wpOp_lit ho (fun j b h => by cases h) ?_
      clear hops hdep ho
      replace h0 := hidH h0
      replace h1 := hidH h1
      replace h2 := hidH h2
      replace h3 := hidH h3
      replace h4 := hidH h4
      replace h5 := hidH h5
      replace h6 := hidH h6
      replace h7 := hidH h7
      replace h8 := hidH h8
      replace h9 := hidH h9
      replace h10 := hidH h10
      replace h11 := hidH h11
      replace h12 := hidH h12
      replace h13 := hidH h13
      replace h14 := hidH h14
      replace h16 := hidH h16
      replace h17 := hidH h17
      replace h18 := hidH h18
      replace h19 := hidH h19
      replace h20 := hidH h20
      replace h21 := hidH h21
      replace h22 := hidH h22
      replace h23 := hidH h23
      replace h24 := hidH h24
      replace h25 := hidH h25
      replace h26 := hidH h26
      replace h27 := hidH h27
      replace h28 := hidH h28
      replace h29 := hidH h29
      go_wp2
      exact (HJ.out _ _ _).2 ⟨_, _, _, _, _, _, _, _, _, _, _, _, _, _, _, _, _, _, _, _, _, _, _, _, _, _, _, _, _, rfl, hE, hO, h0.out, h1.out, h2.out, h3.out, h4.out, h5.out, h6.out, h7.out, h8.out, h9.out, h10.out, h11.out, h12.out, h13.out, fun _ => rfl, fun _ => rfl, h16.out, h17.out, h18.out, h19.out, h20.out, h21.out, h22.out, h23.out, h24.out, h25.out, h26.out, h27.out, h28.out, h29.out⟩
    | 16, _ =>
      obtain ⟨ty, ps, af, ho⟩ := op_lit hops (i := 16) (op := Op.binOp BinOp.rem 2 (Operand.tmp 31) ((Operand.const (Value.int .i64 2))) 2) (dst := some 32) (g := none) rfl
      obtain rfl := h15 (hdep 15 (by simp))
      refine wpOp_lit ho (fun j b h => by cases h) ?_
      clear hops hdep ho
      replace h0 := hidH h0
      replace h1 := hidH h1
      replace h2 := hidH h2
      replace h3 := hidH h3
      replace h4 := hidH h4
      replace h5 := hidH h5
      replace h6 := hidH h6
      replace h7 := hidH h7
      replace h8 := hidH h8
      replace h9 := hidH h9
      replace h10 := hidH h10
      replace h11 := hidH h11
      replace h12 := hidH h12
      replace h13 := hidH h13
      replace h14 := hidH h14
      replace h15 := hidH h15
      replace h17 := hidH h17
      replace h18 := hidH h18
      replace h19 := hidH h19
      replace h20 := hidH h20
      replace h21 := hidH h21
      replace h22 := hidH h22
      replace h23 := hidH h23
      replace h24 := hidH h24
      replace h25 := hidH h25
      replace h26 := hidH h26
      replace h27 := hidH h27
      replace h28 := hidH h28
      replace h29 := hidH h29
      go_wp2
      exact (HJ.out _ _ _).2 ⟨_, _, _, _, _, _, _, _, _, _, _, _, _, _, _, _, _, _, _, _, _, _, _, _, _, _, _, _, _, rfl, hE, hO, h0.out, h1.out, h2.out, h3.out, h4.out, h5.out, h6.out, h7.out, h8.out, h9.out, h10.out, h11.out, h12.out, h13.out, h14.out, fun _ => rfl, fun _ => rfl, h17.out, h18.out, h19.out, h20.out, h21.out, h22.out, h23.out, h24.out, h25.out, h26.out, h27.out, h28.out, h29.out⟩
    | 17, _ =>
      obtain ⟨ty, ps, af, ho⟩ := op_lit hops (i := 17) (op := Op.binOp BinOp.eql 2 (Operand.tmp 32) ((Operand.const (Value.int .i64 1))) 2) (dst := some 33) (g := none) rfl
      obtain rfl := h16 (hdep 16 (by simp))
      refine wpOp_lit ho (fun j b h => by cases h) ?_
      clear hops hdep ho
      replace h0 := hidH h0
      replace h1 := hidH h1
      replace h2 := hidH h2
      replace h3 := hidH h3
      replace h4 := hidH h4
      replace h5 := hidH h5
      replace h6 := hidH h6
      replace h7 := hidH h7
      replace h8 := hidH h8
      replace h9 := hidH h9
      replace h10 := hidH h10
      replace h11 := hidH h11
      replace h12 := hidH h12
      replace h13 := hidH h13
      replace h14 := hidH h14
      replace h15 := hidH h15
      replace h16 := hidH h16
      replace h18 := hidH h18
      replace h19 := hidH h19
      replace h20 := hidH h20
      replace h21 := hidH h21
      replace h22 := hidH h22
      replace h23 := hidH h23
      replace h24 := hidH h24
      replace h25 := hidH h25
      replace h26 := hidH h26
      replace h27 := hidH h27
      replace h28 := hidH h28
      replace h29 := hidH h29
      have q1 := hb2
      go_wp2
      exact (HJ.out _ _ _).2 ⟨_, _, _, _, _, _, _, _, _, _, _, _, _, _, _, _, _, _, _, _, _, _, _, _, _, _, _, _, _, rfl, hE, hO, h0.out, h1.out, h2.out, h3.out, h4.out, h5.out, h6.out, h7.out, h8.out, h9.out, h10.out, h11.out, h12.out, h13.out, h14.out, h15.out, fun _ => rfl, fun _ => rfl, h18.out, h19.out, h20.out, h21.out, h22.out, h23.out, h24.out, h25.out, h26.out, h27.out, h28.out, h29.out⟩
    | 18, _ =>
      obtain ⟨ty, ps, af, ho⟩ := op_lit hops (i := 18) (op := Op.fieldAddr 28 (Operand.tmp 1) 1) (dst := some 34) (g := none) rfl
      refine wpOp_lit ho (fun j b h => by cases h) ?_
      clear hops hdep ho
      replace h0 := hidH h0
      replace h1 := hidH h1
      replace h2 := hidH h2
      replace h3 := hidH h3
      replace h4 := hidH h4
      replace h5 := hidH h5
      replace h6 := hidH h6
      replace h7 := hidH h7
      replace h8 := hidH h8
      replace h9 := hidH h9
      replace h10 := hidH h10
      replace h11 := hidH h11
      replace h12 := hidH h12
      replace h13 := hidH h13
      replace h14 := hidH h14
      replace h15 := hidH h15
      replace h16 := hidH h16
      replace h17 := hidH h17
      replace h19 := hidH h19
      replace h20 := hidH h20
      replace h21 := hidH h21
      replace h22 := hidH h22
      replace h23 := hidH h23
      replace h24 := hidH h24
      replace h25 := hidH h25
      replace h26 := hidH h26
      replace h27 := hidH h27
      replace h28 := hidH h28
      replace h29 := hidH h29
      go_wp2
      exact (HJ.out _ _ _).2 ⟨_, _, _, _, _, _, _, _, _, _, _, _, _, _, _, _, _, _, _, _, _, _, _, _, _, _, _, _, _, rfl, hE, hO, h0.out, h1.out, h2.out, h3.out, h4.out, h5.out, h6.out, h7.out, h8.out, h9.out, h10.out, h11.out, h12.out, h13.out, h14.out, h15.out, h16.out, h17.out, fun _ => rfl, h19.out, h20.out, h21.out, h22.out, h23.out, h24.out, h25.out, h26.out, h27.out, h28.out, h29.out⟩
    | 19, _ =>
      obtain ⟨ty, ps, af, ho⟩ := op_lit hops (i := 19) (op := Op.load 2 (Operand.tmp 34)) (dst := some 35) (g := none) rfl
      obtain rfl := h18 (hdep 18 (by simp))
      refine wpOp_lit ho (fun j b h => by cases h) ?_
      clear hops hdep ho
      replace h0 := hidH h0
      replace h1 := hidH h1
      replace h2 := hidH h2
      replace h3 := hidH h3
      replace h4 := hidH h4
      replace h5 := hidH h5
      replace h6 := hidH h6
      replace h7 := hidH h7
      replace h8 := hidH h8
      replace h9 := hidH h9
      replace h10 := hidH h10
      replace h11 := hidH h11
      replace h12 := hidH h12
      replace h13 := hidH h13
      replace h14 := hidH h14
      replace h15 := hidH h15
      replace h16 := hidH h16
      replace h17 := hidH h17
      replace h18 := hidH h18
      replace h20 := hidH h20
      replace h21 := hidH h21
      replace h22 := hidH h22
      replace h23 := hidH h23
      replace h24 := hidH h24
      replace h25 := hidH h25
      replace h26 := hidH h26
      replace h27 := hidH h27
      replace h28 := hidH h28
      replace h29 := hidH h29
      have hb := Below.refl W.heap.size W
      have q1 := (hO.cell (p := ⟨k, 1, none⟩) hkl).trans hk1
      go_wp2
      exact (HJ.out _ _ _).2 ⟨_, _, _, _, _, _, _, _, _, _, _, _, _, _, _, _, _, _, _, _, _, _, _, _, _, _, _, _, _, rfl, hE, btr hO hb, h0.out, h1.out, h2.out, h3.out, h4.out, h5.out, h6.out, h7.out, h8.out, h9.out, h10.out, h11.out, h12.out, h13.out, h14.out, h15.out, h16.out, h17.out, fun _ => rfl, fun _ => rfl, h20.out, h21.out, h22.out, h23.out, h24.out, h25.out, fun h => by obtain ⟨A9, c9, q1, q2⟩ := h26.out h; exact ⟨A9, c9, q1, own_below0 q2 hb⟩, fun h => by obtain ⟨A9, c9, q1, q2⟩ := h27.out h; exact ⟨A9, c9, q1, own_below0 q2 hb⟩, (fun h h2 => by obtain ⟨g, q1, q2, q3⟩ := h28.out h h2; exact ⟨g, q1, q2.below hb, q3⟩), fun h => by obtain ⟨g, A9, c9, q1, q2, q3, q4⟩ := h29.out h; exact ⟨g, A9, c9, q1, q2.below hb, own_below0 q3 hb, q4⟩⟩
    | 20, _ =>
      obtain ⟨ty, ps, af, ho⟩ := op_lit hops (i := 20) (op := Op.binOp BinOp.quo 2 (Operand.tmp 35) ((Operand.const (Value.int .i64 4))) 2) (dst := some 36) (g := none) rfl
      obtain rfl := h19 (hdep 19 (by simp))
      refine wpOp_lit ho (fun j b h => by cases h) ?_
      clear hops hdep ho
      replace h0 := hidH h0
      replace h1 := hidH h1
      replace h2 := hidH h2
      replace h3 := hidH h3
      replace h4 := hidH h4
      replace h5 := hidH h5
      replace h6 := hidH h6
      replace h7 := hidH h7
      replace h8 := hidH h8
      replace h9 := hidH h9
      replace h10 := hidH h10
      replace h11 := hidH h11
      replace h12 := hidH h12
      replace h13 := hidH h13
      replace h14 := hidH h14
      replace h15 := hidH h15
      replace h16 := hidH h16
      replace h17 := hidH h17
      replace h18 := hidH h18
      replace h19 := hidH h19
      replace h21 := hidH h21
      replace h22 := hidH h22
      replace h23 := hidH h23
      replace h24 := hidH h24
      replace h25 := hidH h25
      replace h26 := hidH h26
      replace h27 := hidH h27
      replace h28 := hidH h28
      replace h29 := hidH h29
      go_wp2
      exact (HJ.out _ _ _).2 ⟨_, _, _, _, _, _, _, _, _, _, _, _, _, _, _, _, _, _, _, _, _, _, _, _, _, _, _, _, _, rfl, hE, hO, h0.out, h1.out, h2.out, h3.out, h4.out, h5.out, h6.out, h7.out, h8.out, h9.out, h10.out, h11.out, h12.out, h13.out, h14.out, h15.out, h16.out, h17.out, h18.out, fun _ => rfl, fun _ => rfl, h21.out, h22.out, h23.out, h24.out, h25.out, h26.out, h27.out, h28.out, h29.out⟩
    | 21, _ =>
      obtain ⟨ty, ps, af, ho⟩ := op_lit hops (i := 21) (op := Op.binOp BinOp.rem 2 (Operand.tmp 36) ((Operand.const (Value.int .i64 2))) 2) (dst := some 37) (g := none) rfl
      obtain rfl := h20 (hdep 20 (by simp))
      refine wpOp_lit ho (fun j b h => by cases h) ?_
      clear hops hdep ho
      replace h0 := hidH h0
      replace h1 := hidH h1
      replace h2 := hidH h2
      replace h3 := hidH h3
      replace h4 := hidH h4
      replace h5 := hidH h5
      replace h6 := hidH h6
      replace h7 := hidH h7
      replace h8 := hidH h8
      replace h9 := hidH h9
      replace h10 := hidH h10
      replace h11 := hidH h11
      replace h12 := hidH h12
      replace h13 := hidH h13
      replace h14 := hidH h14
      replace h15 := hidH h15
      replace h16 := hidH h16
      replace h17 := hidH h17
      replace h18 := hidH h18
      replace h19 := hidH h19
      replace h20 := hidH h20
      replace h22 := hidH h22
      replace h23 := hidH h23
      replace h24 := hidH h24
      replace h25 := hidH h25
      replace h26 := hidH h26
      replace h27 := hidH h27
      replace h28 := hidH h28
      replace h29 := hidH h29
      go_wp2
      exact (HJ.out _ _ _).2 ⟨_, _, _, _, _, _, _, _, _, _, _, _, _, _, _, _, _, _, _, _, _, _, _, _, _, _, _, _, _, rfl, hE, hO, h0.out, h1.out, h2.out, h3.out, h4.out, h5.out, h6.out, h7.out, h8.out, h9.out, h10.out, h11.out, h12.out, h13.out, h14.out, h15.out, h16.out, h17.out, h18.out, h19.out, fun _ => rfl, fun _ => rfl, h22.out, h23.out, h24.out, h25.out, h26.out, h27.out, h28.out, h29.out⟩
    | 22, _ =>
      obtain ⟨ty, ps, af, ho⟩ := op_lit hops (i := 22) (op := Op.binOp BinOp.eql 2 (Operand.tmp 37) ((Operand.const (Value.int .i64 1))) 2) (dst := some 38) (g := none) rfl
      obtain rfl := h21 (hdep 21 (by simp))
      refine wpOp_lit ho (fun j b h => by cases h) ?_
      clear hops hdep ho
      replace h0 := hidH h0
      replace h1 := hidH h1
      replace h2 := hidH h2
      replace h3 := hidH h3
      replace h4 := hidH h4
      replace h5 := hidH h5
      replace h6 := hidH h6
      replace h7 := hidH h7
      replace h8 := hidH h8
      replace h9 := hidH h9
      replace h10 := hidH h10
      replace h11 := hidH h11
      replace h12 := hidH h12
      replace h13 := hidH h13
      replace h14 := hidH h14
      replace h15 := hidH h15
      replace h16 := hidH h16
      replace h17 := hidH h17
      replace h18 := hidH h18
      replace h19 := hidH h19
      replace h20 := hidH h20
      replace h21 := hidH h21
      replace h23 := hidH h23
      replace h24 := hidH h24
      replace h25 := hidH h25
      replace h26 := hidH h26
      replace h27 := hidH h27
      replace h28 := hidH h28
      replace h29 := hidH h29
      have q1 := hb4
      go_wp2
      exact (HJ.out _ _ _).2 ⟨_, _, _, _, _, _, _, _, _, _, _, _, _, _, _, _, _, _, _, _, _, _, _, _, _, _, _, _, _, rfl, hE, hO, h0.out, h1.out, h2.out, h3.out, h4.out, h5.out, h6.out, h7.out, h8.out, h9.out, h10.out, h11.out, h12.out, h13.out, h14.out, h15.out, h16.out, h17.out, h18.out, h19.out, h20.out, fun _ => rfl, fun _ => rfl, h23.out, h24.out, h25.out, h26.out, h27.out, h28.out, h29.out⟩
    | 23, _ =>
      obtain ⟨ty, ps, af, ho⟩ := op_lit hops (i := 23) (op := Op.fieldAddr 28 (Operand.tmp 1) 2) (dst := some 39) (g := none) rfl
      refine wpOp_lit ho (fun j b h => by cases h) ?_
      clear hops hdep ho
      replace h0 := hidH h0
      replace h1 := hidH h1
      replace h2 := hidH h2
      replace h3 := hidH h3
      replace h4 := hidH h4
      replace h5 := hidH h5
      replace h6 := hidH h6
      replace h7 := hidH h7
      replace h8 := hidH h8
      replace h9 := hidH h9
      replace h10 := hidH h10
      replace h11 := hidH h11
      replace h12 := hidH h12
      replace h13 := hidH h13
      replace h14 := hidH h14
      replace h15 := hidH h15
      replace h16 := hidH h16
      replace h17 := hidH h17
      replace h18 := hidH h18
      replace h19 := hidH h19
      replace h20 := hidH h20
      replace h21 := hidH h21
      replace h22 := hidH h22
      replace h24 := hidH h24
      replace h25 := hidH h25
      replace h26 := hidH h26
      replace h27 := hidH h27
      replace h28 := hidH h28
      replace h29 := hidH h29
      go_wp2
      exact (HJ.out _ _ _).2 ⟨_, _, _, _, _, _, _, _, _, _, _, _, _, _, _, _, _, _, _, _, _, _, _, _, _, _, _, _, _, rfl, hE, hO, h0.out, h1.out, h2.out, h3.out, h4.out, h5.out, h6.out, h7.out, h8.out, h9.out, h10.out, h11.out, h12.out, h13.out, h14.out, h15.out, h16.out, h17.out, h18.out, h19.out, h20.out, h21.out, h22.out, fun _ => rfl, h24.out, h25.out, h26.out, h27.out, h28.out, h29.out⟩
    | 24, _ =>
      obtain ⟨ty, ps, af, ho⟩ := op_lit hops (i := 24) (op := Op.load 22 (Operand.tmp 39)) (dst := some 40) (g := none) rfl
      obtain rfl := h23 (hdep 23 (by simp))
      refine wpOp_lit ho (fun j b h => by cases h) ?_
      clear hops hdep ho
      replace h0 := hidH h0
      replace h1 := hidH h1
      replace h2 := hidH h2
      replace h3 := hidH h3
      replace h4 := hidH h4
      replace h5 := hidH h5
      replace h6 := hidH h6
      replace h7 := hidH h7
      replace h8 := hidH h8
      replace h9 := hidH h9
      replace h10 := hidH h10
      replace h11 := hidH h11
      replace h12 := hidH h12
      replace h13 := hidH h13
      replace h14 := hidH h14
      replace h15 := hidH h15
      replace h16 := hidH h16
      replace h17 := hidH h17
      replace h18 := hidH h18
      replace h19 := hidH h19
      replace h20 := hidH h20
      replace h21 := hidH h21
      replace h22 := hidH h22
      replace h23 := hidH h23
      replace h25 := hidH h25
      replace h26 := hidH h26
      replace h27 := hidH h27
      replace h28 := hidH h28
      replace h29 := hidH h29
      have hb := Below.refl W.heap.size W
      have q1 := (hO.cell (p := ⟨k, 2, none⟩) hkl).trans hk2
      go_wp2
      exact (HJ.out _ _ _).2 ⟨_, _, _, _, _, _, _, _, _, _, _, _, _, _, _, _, _, _, _, _, _, _, _, _, _, _, _, _, _, rfl, hE, btr hO hb, h0.out, h1.out, h2.out, h3.out, h4.out, h5.out, h6.out, h7.out, h8.out, h9.out, h10.out, h11.out, h12.out, h13.out, h14.out, h15.out, h16.out, h17.out, h18.out, h19.out, h20.out, h21.out, h22.out, fun _ => rfl, fun _ => rfl, h25.out, fun h => by obtain ⟨A9, c9, q1, q2⟩ := h26.out h; exact ⟨A9, c9, q1, own_below0 q2 hb⟩, fun h => by obtain ⟨A9, c9, q1, q2⟩ := h27.out h; exact ⟨A9, c9, q1, own_below0 q2 hb⟩, (fun h h2 => by obtain ⟨g, q1, q2, q3⟩ := h28.out h h2; exact ⟨g, q1, q2.below hb, q3⟩), fun h => by obtain ⟨g, A9, c9, q1, q2, q3, q4⟩ := h29.out h; exact ⟨g, A9, c9, q1, q2.below hb, own_below0 q3 hb, q4⟩⟩
    | 25, _ =>
      obtain ⟨ty, ps, af, ho⟩ := op_lit hops (i := 25) (op := Op.slice 22 (Operand.tmp 40) (some ((Operand.const (Value.int .i64 8)))) none none) (dst := some 41) (g := none) rfl
      obtain rfl := h24 (hdep 24 (by simp))
      refine wpOp_lit ho (fun j b h => by cases h) ?_
      clear hops hdep ho
      replace h0 := hidH h0
      replace h1 := hidH h1
      replace h2 := hidH h2
      replace h3 := hidH h3
      replace h4 := hidH h4
      replace h5 := hidH h5
      replace h6 := hidH h6
      replace h7 := hidH h7
      replace h8 := hidH h8
      replace h9 := hidH h9
      replace h10 := hidH h10
      replace h11 := hidH h11
      replace h12 := hidH h12
      replace h13 := hidH h13
      replace h14 := hidH h14
      replace h15 := hidH h15
      replace h16 := hidH h16
      replace h17 := hidH h17
      replace h18 := hidH h18
      replace h19 := hidH h19
      replace h20 := hidH h20
      replace h21 := hidH h21
      replace h22 := hidH h22
      replace h23 := hidH h23
      replace h24 := hidH h24
      replace h26 := hidH h26
      replace h27 := hidH h27
      replace h28 := hidH h28
      replace h29 := hidH h29
      have q1 := HSL.out W
      go_wp2
      exact (HJ.out _ _ _).2 ⟨_, _, _, _, _, _, _, _, _, _, _, _, _, _, _, _, _, _, _, _, _, _, _, _, _, _, _, _, _, rfl, hE, hO, h0.out, h1.out, h2.out, h3.out, h4.out, h5.out, h6.out, h7.out, h8.out, h9.out, h10.out, h11.out, h12.out, h13.out, h14.out, h15.out, h16.out, h17.out, h18.out, h19.out, h20.out, h21.out, h22.out, h23.out, fun _ => rfl, fun _ => rfl, h26.out, h27.out, h28.out, h29.out⟩
    | 26, _ =>
      obtain ⟨ty, ps, af, ho⟩ := op_lit hops (i := 26) (op := Op.call { callee := Callee.value (Operand.func 83), args := #[(Operand.tmp 41)], argTypes := #[22] }) (dst := some 42) (g := none) rfl
      obtain rfl := h25 (hdep 25 (by simp))
      refine wpOp_lit ho (fun j b h => by cases h) ?_
      clear hops hdep ho
      replace h0 := hidH h0
      replace h1 := hidH h1
      replace h2 := hidH h2
      replace h3 := hidH h3
      replace h4 := hidH h4
      replace h5 := hidH h5
      replace h6 := hidH h6
      replace h7 := hidH h7
      replace h8 := hidH h8
      replace h9 := hidH h9
      replace h10 := hidH h10
      replace h11 := hidH h11
      replace h12 := hidH h12
      replace h13 := hidH h13
      replace h14 := hidH h14
      replace h15 := hidH h15
      replace h16 := hidH h16
      replace h17 := hidH h17
      replace h18 := hidH h18
      replace h19 := hidH h19
      replace h20 := hidH h20
      replace h21 := hidH h21
      replace h22 := hidH h22
      replace h23 := hidH h23
      replace h24 := hidH h24
      replace h25 := hidH h25
      replace h27 := hidH h27
      replace h28 := hidH h28
      replace h29 := hidH h29
      go_wp2_with fail
      refine (HCP _ hO).mono ?_
      rintro e w1 ⟨v9, rfl, oo, hb⟩
      have hsz := hO.size
      obtain ⟨A9, c9, rfl⟩ := own_len oo
      have O9 := hidH (own_monoB oo hsz)
      clear oo
      go_wp2
      exact (HJ.out _ _ _).2 ⟨_, _, _, _, _, _, _, _, _, _, _, _, _, _, _, _, _, _, _, _, _, _, _, _, _, _, _, _, _, rfl, hE, btr hO hb, h0.out, h1.out, h2.out, h3.out, h4.out, h5.out, h6.out, h7.out, h8.out, h9.out, h10.out, h11.out, h12.out, h13.out, h14.out, h15.out, h16.out, h17.out, h18.out, h19.out, h20.out, h21.out, h22.out, h23.out, h24.out, fun _ => rfl, fun _ => ⟨A9, c9, rfl, O9.out⟩, fun h => by obtain ⟨A9, c9, q1, q2⟩ := h27.out h; exact ⟨A9, c9, q1, own_below0 q2 hb⟩, (fun h h2 => by obtain ⟨g, q1, q2, q3⟩ := h28.out h h2; exact ⟨g, q1, q2.below hb, q3⟩), fun h => by obtain ⟨g, A9, c9, q1, q2, q3, q4⟩ := h29.out h; exact ⟨g, A9, c9, q1, q2.below hb, own_below0 q3 hb, q4⟩⟩
    | 27, _ =>
      obtain ⟨ty, ps, af, ho⟩ := op_lit hops (i := 27) (op := Op.build 25 #[(0, (Operand.tmp 18)), (1, (Operand.tmp 21)), (2, (Operand.tmp 24)), (4, (Operand.tmp 28)), (3, (Operand.tmp 33)), (5, (Operand.tmp 38)), (6, (Operand.tmp 42))]) (dst := some 43) (g := none) rfl
      obtain rfl := h2 (hdep 2 (by simp))
      obtain rfl := h5 (hdep 5 (by simp))
      obtain rfl := h8 (hdep 8 (by simp))
      obtain rfl := h12 (hdep 12 (by simp))
      obtain rfl := h17 (hdep 17 (by simp))
      obtain rfl := h22 (hdep 22 (by simp))
      obtain ⟨A9, c9, rfl, o9⟩ := h26 (hdep 26 (by simp))
      refine wpOp_lit ho (fun j b h => by cases h) ?_
      clear hops hdep ho
      replace h0 := hidH h0
      replace h1 := hidH h1
      replace h2 := hidH h2
      replace h3 := hidH h3
      replace h4 := hidH h4
      replace h5 := hidH h5
      replace h6 := hidH h6
      replace h7 := hidH h7
      replace h8 := hidH h8
      replace h9 := hidH h9
      replace h10 := hidH h10
      replace h11 := hidH h11
      replace h12 := hidH h12
      replace h13 := hidH h13
      replace h14 := hidH h14
      replace h15 := hidH h15
      replace h16 := hidH h16
      replace h17 := hidH h17
      replace h18 := hidH h18
      replace h19 := hidH h19
      replace h20 := hidH h20
      replace h21 := hidH h21
      replace h22 := hidH h22
      replace h23 := hidH h23
      replace h24 := hidH h24
      replace h25 := hidH h25
      replace h26 := hidH h26
      replace h28 := hidH h28
      replace h29 := hidH h29
      have hb := Below.refl W.heap.size W
      go_wp2
      exact (HJ.out _ _ _).2 ⟨_, _, _, _, _, _, _, _, _, _, _, _, _, _, _, _, _, _, _, _, _, _, _, _, _, _, _, _, _, rfl, hE, btr hO hb, h0.out, h1.out, fun _ => rfl, h3.out, h4.out, fun _ => rfl, h6.out, h7.out, fun _ => rfl, h9.out, h10.out, h11.out, fun _ => rfl, h13.out, h14.out, h15.out, h16.out, fun _ => rfl, h18.out, h19.out, h20.out, h21.out, fun _ => rfl, h23.out, h24.out, h25.out, fun _ => ⟨A9, c9, rfl, own_below0 o9 hb⟩, fun _ => ⟨A9, c9, rfl, o9⟩, (fun h h2 => by obtain ⟨g, q1, q2, q3⟩ := h28.out h h2; exact ⟨g, q1, q2.below hb, q3⟩), fun h => by obtain ⟨g, A9, c9, q1, q2, q3, q4⟩ := h29.out h; exact ⟨g, A9, c9, q1, q2.below hb, own_below0 q3 hb, q4⟩⟩
    | 28, _ =>
      obtain ⟨ty, ps, af, ho⟩ := op_lit hops (i := 28) (op := Op.alloc 25) (dst := some 4) (g := none) rfl
      refine wpOp_lit ho (fun j b h => by cases h) ?_
      clear hops hdep ho
      replace h0 := hidH h0
      replace h1 := hidH h1
      replace h2 := hidH h2
      replace h3 := hidH h3
      replace h4 := hidH h4
      replace h5 := hidH h5
      replace h6 := hidH h6
      replace h7 := hidH h7
      replace h8 := hidH h8
      replace h9 := hidH h9
      replace h10 := hidH h10
      replace h11 := hidH h11
      replace h12 := hidH h12
      replace h13 := hidH h13
      replace h14 := hidH h14
      replace h15 := hidH h15
      replace h16 := hidH h16
      replace h17 := hidH h17
      replace h18 := hidH h18
      replace h19 := hidH h19
      replace h20 := hidH h20
      replace h21 := hidH h21
      replace h22 := hidH h22
      replace h23 := hidH h23
      replace h24 := hidH h24
      replace h25 := hidH h25
      replace h26 := hidH h26
      replace h27 := hidH h27
      replace h29 := hidH h29
      have hb := bal (Below.refl W.heap.size W) (.cells #[.int .i64 0, .int .i64 0, .int .i64 0, .bool false, .bool false, .bool false, .slice none 0 0] 25)
      have KG := hidH (Blk.new W 25 #[.int .i64 0, .int .i64 0, .int .i64 0, .bool false, .bool false, .bool false, .slice none 0 0])
      have hG0 := hO.size
      go_wp2
      exact (HJ.out _ _ _).2 ⟨_, _, _, _, _, _, _, _, _, _, _, _, _, _, _, _, _, _, _, _, _, _, _, _, _, _, _, _, _, rfl, fun _ => rfl, btr hO hb, h0.out, h1.out, h2.out, h3.out, h4.out, h5.out, h6.out, h7.out, h8.out, h9.out, h10.out, h11.out, h12.out, h13.out, h14.out, h15.out, h16.out, h17.out, h18.out, h19.out, h20.out, h21.out, h22.out, h23.out, h24.out, h25.out, fun h => by obtain ⟨A9, c9, q1, q2⟩ := h26.out h; exact ⟨A9, c9, q1, own_below0 q2 hb⟩, fun h => by obtain ⟨A9, c9, q1, q2⟩ := h27.out h; exact ⟨A9, c9, q1, own_below0 q2 hb⟩, fun _ => fun _ => ⟨_, rfl, KG.out, hG0⟩, (fun h => by have h3 : dn 28 = true := hE h; rw [hdn] at h3; cases h3)⟩
    | 29, _ =>
      obtain ⟨ty, ps, af, ho⟩ := op_lit hops (i := 29) (op := Op.store 25 (Operand.tmp 4) (Operand.tmp 43)) (dst := none) (g := none) rfl
      have hd28 := hidH (hdep 28 (by simp))
      obtain ⟨g, rfl, kg, hgw⟩ := h28 (hdep 28 (by simp)) hdn
      obtain ⟨B9, d9, rfl, p9⟩ := h27 (hdep 27 (by simp))
      refine wpOp_lit ho (fun j b h => by cases h) ?_
      clear hops hdep ho
      replace h0 := hidH h0
      replace h1 := hidH h1
      replace h2 := hidH h2
      replace h3 := hidH h3
      replace h4 := hidH h4
      replace h5 := hidH h5
      replace h6 := hidH h6
      replace h7 := hidH h7
      replace h8 := hidH h8
      replace h9 := hidH h9
      replace h10 := hidH h10
      replace h11 := hidH h11
      replace h12 := hidH h12
      replace h13 := hidH h13
      replace h14 := hidH h14
      replace h15 := hidH h15
      replace h16 := hidH h16
      replace h17 := hidH h17
      replace h18 := hidH h18
      replace h19 := hidH h19
      replace h20 := hidH h20
      replace h21 := hidH h21
      replace h22 := hidH h22
      replace h23 := hidH h23
      replace h24 := hidH h24
      replace h25 := hidH h25
      replace h26 := hidH h26
      replace h27 := hidH h27
      replace h28 := hidH h28
      have y0 := kg.cell 0
      have v0 := kg.frozen 0
      have y1 := kg.cell 1
      have v1 := kg.frozen 1
      have y2 := kg.cell 2
      have v2 := kg.frozen 2
      have y3 := kg.cell 3
      have v3 := kg.frozen 3
      have y4 := kg.cell 4
      have v4 := kg.frozen 4
      have y5 := kg.cell 5
      have v5 := kg.frozen 5
      have y6 := kg.cell 6
      have v6 := kg.frozen 6
      simp only [List.getElem?_toArray, List.getElem?_cons_succ, List.getElem?_cons_zero] at y0 y1 y2 y3 y4 y5 y6
      have hlt := kg.lt
      have FAR := hidH (fun (A : Option Addr) (c : Nat) (n : Nat) (h : W.ownsRow ww.heap.size 5 1 (.slice A n c) n8 (l8.map (Value.int .u8))) => own_far7 h kg (by decide) (.int .i64 z0) (.int .i64 z1) (.int .i64 z2) (.bool b2) (.bool b1) (.bool b4) (.slice B9 n8 d9))
      have KS := hidH (blk7 kg (.int .i64 z0) (.int .i64 z1) (.int .i64 z2) (.bool b2) (.bool b1) (.bool b4) (.slice B9 n8 d9))
      have KF := hidH kg
      clear kg
      go_wp2
      exact (HJ.out _ _ _).2 ⟨_, _, _, _, _, _, _, _, _, _, _, _, _, _, _, _, _, _, _, _, _, _, _, _, _, _, _, _, _, rfl, fun _ => hd28.out, (bst (bst (bst (bst (bst (bst (bst hO hgw _) hgw _) hgw _) hgw _) hgw _) hgw _) hgw _), h0.out, h1.out, h2.out, h3.out, h4.out, h5.out, h6.out, h7.out, h8.out, h9.out, h10.out, h11.out, h12.out, h13.out, h14.out, h15.out, h16.out, h17.out, h18.out, h19.out, h20.out, h21.out, h22.out, h23.out, h24.out, h25.out, fun h => by obtain ⟨A9, c9, q1, q2⟩ := h26.out h; exact ⟨A9, c9, q1, FAR.out _ _ _ q2⟩, fun _ => ⟨B9, d9, rfl, FAR.out _ _ _ p9⟩, (fun _ h2 => by simp at h2), fun _ => ⟨g, B9, d9, rfl, KS.out, FAR.out _ _ _ p9, hgw⟩⟩
    | n + 30, h => omega
  case fin =>
    clear hops hdeps hback
    rintro dn ac W hJ hall
    obtain ⟨t16, t17, t18, t19, t20, t21, t22, t23, t24, t25, t26, t27, t28, t29, t30, t31, t32, t33, t34, t35, t36, t37, t38, t39, t40, t41, t42, t43, t4, rfl, hE, hO, h0, h1, h2, h3, h4, h5, h6, h7, h8, h9, h10, h11, h12, h13, h14, h15, h16, h17, h18, h19, h20, h21, h22, h23, h24, h25, h26, h27, h28, h29⟩ := (HJ.out _ _ _).1 hJ
    exact fin _ _ _ _ _ _ _ _ _ _ _ _ _ _ _ _ _ _ _ _ _ _ _ _ _ _ _ _ _ W hO (h29 (hall 29 (by omega)))
end Go.Proofs.YtjjileefdjjijaaDoor
