/- The regions of the model's ReadAsconf, ReadSack that draw their order. -/
import Derived.Test.YtjjileefdjjijaaDoorRgR
import Derived.Test.YtjjileefdjjijaaDoorRdP
namespace Go.Proofs.YtjjileefdjjijaaDoor
open Go.RowKit Go.Deep

theorem l1PairAt_w (A : Option Addr) (l : List Int) (c k : Nat) (w : World) (hA : Bs w A l) (hb : Bytes l) (hk : k + 2 ≤ l.length) (hm : l.length ≤ 4000000) :
    Calls Tryd.prog 82 #[.slice A l.length c, .int .i64 (k : Int)] w fun e w' => e = .returned (.int .i64 (pairAt l k)) ∧ Below w.heap.size w w' := by
  rcases hA with rfl | ⟨b, off, rfl, hb', hA⟩
  · simp at hk
  · obtain ⟨p0, p1⟩ := hb.get k
    obtain ⟨q0, q1⟩ := hb.get (k + 1)
    refine (l1PairAt_any b off l.length c k _ _ w hk (by omega) (hA k (by omega)) (hA (k + 1) (by omega)) p0 p1 q0 q1).mono ?_
    rintro e w' ⟨rfl, m, rfl⟩
    exact ⟨rfl, below_drewN (Below.refl w.heap.size w) m⟩
set_option maxRecDepth 100000 in
set_option maxHeartbeats 1000000 in
theorem regSrOp {Q : Exit → Act → World → Prop} (x0 x2 x3 x6 x7 x8 x9 x10 x11 x12 x13 x14 x15 x16 x17 x18 x19 x20 x21 x22 x23 x24 x25 x26 x27 x28 u_29 u_30 u_31 u_32 u_33 u_34 u_35 u_36 u_37 u_38 u_39 u_40 u_41 u_42 u_43 u_44 u_45 u_46 u_47 u_48 u_49 u_50 u_51 u_52 u_53 u_54 : Value) (ww : World) (k g B n a m c : Nat) (z0 z1 tag : Int) (v : Value) (xs0 : List Value) (sb so : Nat)
    (hgB : g < B) (hwB : ww.heap.size ≤ B) (hgw : ww.heap.size ≤ g) (hnn : n ≤ 100000) (hkl : k < ww.heap.size) (hk2 : ww.cell? ⟨k, 2, none⟩ = some (.slice (some ⟨sb, so, none⟩) m c)) (ha0 : (0 : Int) ≤ (a : Int)) (ham : (a : Int) + 2 ≤ 100000000) (hs0 : (a : Int) < (m : Int)) (hs1 : (a : Int) + 1 < (m : Int)) (hs2 : 0 ≤ (a : Int) + 1) (hsl : sb < ww.heap.size) (hr0 : ww.cell? ⟨sb, so + a, none⟩ = some (.int .u8 z0)) (hr1 : ww.cell? ⟨sb, so + (a + 1), none⟩ = some (.int .u8 z1)) (b00 : 0 ≤ z0) (b01 : z0 ≤ 255) (b10 : 0 ≤ z1) (b11 : z1 ≤ 255) {ops : Array Oper}
    (hops : (ops.map fun o => (o.op, o.dst, o.guard)) = #[(Op.fieldAddr 59 (Operand.tmp 4) 1, some 29, none), (Op.load 57 (Operand.tmp 29), some 30, none), (Op.fieldAddr 28 (Operand.tmp 1) 2, some 31, none), (Op.load 22 (Operand.tmp 31), some 32, none), (Op.move (Operand.tmp 5), some 33, none), (Op.indexAddr 22 (Operand.tmp 32) (Operand.tmp 33), some 34, none), (Op.load 5 (Operand.tmp 34), some 35, none), (Op.convert 5 2 (Operand.tmp 35), some 36, none), (Op.fieldAddr 28 (Operand.tmp 1) 2, some 37, none), (Op.load 22 (Operand.tmp 37), some 38, none), (Op.move (Operand.tmp 5), some 39, none), (Op.binOp BinOp.add 3 (Operand.tmp 39) ((Operand.const (Value.int .i64 1))) 3, some 40, none), (Op.indexAddr 22 (Operand.tmp 38) (Operand.tmp 40), some 41, none), (Op.load 5 (Operand.tmp 41), some 42, none), (Op.convert 5 2 (Operand.tmp 42), some 43, none), (Op.build 70 #[(0, (Operand.tmp 36)), (1, (Operand.tmp 43))], some 44, none), (Op.buildSlice 57 1 #[(0, (Operand.tmp 44))], some 45, none), (Op.call { callee := Callee.builtin Builtin.append, args := #[(Operand.tmp 30), (Operand.tmp 45)], argTypes := #[57, 57] }, some 46, none), (Op.fieldAddr 59 (Operand.tmp 4) 1, some 47, none), (Op.store 57 (Operand.tmp 47) (Operand.tmp 46), none, none)])
    (hdeps : ((List.range 20).all fun i => ((fun i => [[], [0], [], [2], [], [3, 4], [5], [6], [], [8], [], [10], [9, 11], [12], [13], [7, 14], [15], [1, 16], [], [17, 18]].getD i []) i).all fun j => ((ops[i]?).map fun o => o.after.any fun e => Region.binds .any e && e.on == j).getD false) = true)
    (hback : ((List.range 20).all fun i => ((ops[i]?).map fun o => o.after.all fun e => decide (e.on < i)).getD false) = true)
    {a0 : Act} {w0 : World} (ha : a0 = { tmps := #[x0, .pointer (some ⟨k, 0, none⟩), x2, x3, .pointer (some ⟨g, 0, none⟩), .int .i64 (a : Int), x6, x7, x8, x9, x10, x11, x12, x13, x14, x15, x16, x17, x18, x19, x20, x21, x22, x23, x24, x25, x26, x27, x28, u_29, u_30, u_31, u_32, u_33, u_34, u_35, u_36, u_37, u_38, u_39, u_40, u_41, u_42, u_43, u_44, u_45, u_46, u_47, u_48, u_49, u_50, u_51, u_52, u_53, u_54], defers := [] }) (hE : (false = true → false = true) ∧ (false = true → false = true) ∧ (false = true → false = true)) (hP : false = false → Blk w0 g 59 #[.int .i64 tag, v]) (hG : false = false → w0.ownsRow B 70 2 v n xs0) (hO : Below ww.heap.size ww w0) (hBW : B ≤ w0.heap.size)
    (fin : ∀ t29 t30 t31 t32 t33 t34 t35 t36 t37 t38 t39 t40 t41 t42 t43 t44 t45 t46 t47 (W : World), (Below ww.heap.size ww W) → (B ≤ W.heap.size) → (∃ v2, Blk W g 59 #[.int .i64 tag, v2] ∧ W.ownsRow B 70 2 v2 (n + 1) (xs0 ++ [.int .i64 z0, .int .i64 z1])) → Q .normal { tmps := #[x0, .pointer (some ⟨k, 0, none⟩), x2, x3, .pointer (some ⟨g, 0, none⟩), .int .i64 (a : Int), x6, x7, x8, x9, x10, x11, x12, x13, x14, x15, x16, x17, x18, x19, x20, x21, x22, x23, x24, x25, x26, x27, x28, t29, t30, t31, t32, t33, t34, t35, t36, t37, t38, t39, t40, t41, t42, t43, t44, t45, t46, t47, u_48, u_49, u_50, u_51, u_52, u_53, u_54], defers := [] } W) :
    wpAny Tryd.prog .any ops Q ops.size (Array.replicate ops.size false) a0 w0 := by
  have hn : ops.size = 20 := by have := congrArg Array.size hops; simpa using this
  obtain ⟨J, HJ⟩ : ∃ J : (Nat → Bool) → Act → World → Prop, ∀ dn ac W, J dn ac W ↔ (fun dn ac W => ∃ t29 t30 t31 t32 t33 t34 t35 t36 t37 t38 t39 t40 t41 t42 t43 t44 t45 t46 t47, ac = { tmps := #[x0, .pointer (some ⟨k, 0, none⟩), x2, x3, .pointer (some ⟨g, 0, none⟩), .int .i64 (a : Int), x6, x7, x8, x9, x10, x11, x12, x13, x14, x15, x16, x17, x18, x19, x20, x21, x22, x23, x24, x25, x26, x27, x28, t29, t30, t31, t32, t33, t34, t35, t36, t37, t38, t39, t40, t41, t42, t43, t44, t45, t46, t47, u_48, u_49, u_50, u_51, u_52, u_53, u_54], defers := [] } ∧ ((dn 19 = true → dn 17 = true) ∧ (dn 17 = true → dn 16 = true) ∧ (dn 17 = true → dn 1 = true)) ∧ (dn 19 = false → Blk W g 59 #[.int .i64 tag, v]) ∧ (dn 17 = false → W.ownsRow B 70 2 v n xs0) ∧ (Below ww.heap.size ww W) ∧ (B ≤ W.heap.size) ∧ (dn 0 = true → t29 = .pointer (some ⟨g, 1, none⟩)) ∧ (dn 1 = true → t30 = v) ∧ (dn 2 = true → t31 = .pointer (some ⟨k, 2, none⟩)) ∧ (dn 3 = true → t32 = .slice (some ⟨sb, so, none⟩) m c) ∧ (dn 4 = true → t33 = .int .i64 (a : Int)) ∧ (dn 5 = true → t34 = .pointer (some ⟨sb, so + a, none⟩)) ∧ (dn 6 = true → t35 = .int .u8 z0) ∧ (dn 7 = true → t36 = .int .i64 z0) ∧ (dn 8 = true → t37 = .pointer (some ⟨k, 2, none⟩)) ∧ (dn 9 = true → t38 = .slice (some ⟨sb, so, none⟩) m c) ∧ (dn 10 = true → t39 = .int .i64 (a : Int)) ∧ (dn 11 = true → t40 = .int .i64 ((a : Int) + 1)) ∧ (dn 12 = true → t41 = .pointer (some ⟨sb, so + (a + 1), none⟩)) ∧ (dn 13 = true → t42 = .int .u8 z1) ∧ (dn 14 = true → t43 = .int .i64 z1) ∧ (dn 15 = true → t44 = .agg #[.int .i64 z0, .int .i64 z1]) ∧ (dn 16 = true → dn 17 = false → ∃ q : Nat, t45 = .slice (some ⟨q, 0, none⟩) 1 1 ∧ Blk W q 70 #[.int .i64 z0, .int .i64 z1]) ∧ (dn 17 = true → dn 19 = false → W.ownsRow B 70 2 t46 (n + 1) (xs0 ++ [.int .i64 z0, .int .i64 z1])) ∧ (dn 18 = true → t47 = .pointer (some ⟨g, 1, none⟩)) ∧ (dn 19 = true → ∃ v2, Blk W g 59 #[.int .i64 tag, v2] ∧ W.ownsRow B 70 2 v2 (n + 1) (xs0 ++ [.int .i64 z0, .int .i64 z1]))) dn ac W := ⟨_, fun _ _ _ => Iff.rfl⟩
  replace HJ := hidH HJ
  refine region_inv 20 (fun i => [[], [0], [], [2], [], [3, 4], [5], [6], [], [8], [], [10], [9, 11], [12], [13], [7, 14], [15], [1, 16], [], [17, 18]].getD i []) J hn hdeps hback ?start ?step ?fin
  case start => exact (HJ.out _ _ _).2 ⟨u_29, u_30, u_31, u_32, u_33, u_34, u_35, u_36, u_37, u_38, u_39, u_40, u_41, u_42, u_43, u_44, u_45, u_46, u_47, ha, hE, hP, hG, hO, hBW, fun h => by simp at h, fun h => by simp at h, fun h => by simp at h, fun h => by simp at h, fun h => by simp at h, fun h => by simp at h, fun h => by simp at h, fun h => by simp at h, fun h => by simp at h, fun h => by simp at h, fun h => by simp at h, fun h => by simp at h, fun h => by simp at h, fun h => by simp at h, fun h => by simp at h, fun h => by simp at h, fun h => by simp at h, fun h => by simp at h, fun h => by simp at h, fun h => by simp at h⟩
  all_goals clear ha hE hP hG hO hBW
  case step =>
    clear fin hdeps hback
    intro i hi dn ac W hJ hdn hdep
    obtain ⟨t29, t30, t31, t32, t33, t34, t35, t36, t37, t38, t39, t40, t41, t42, t43, t44, t45, t46, t47, rfl, hE, hP, hG, hO, hBW, h0, h1, h2, h3, h4, h5, h6, h7, h8, h9, h10, h11, h12, h13, h14, h15, h16, h17, h18, h19⟩ := (HJ.out _ _ _).1 hJ
    clear hJ
    match i, hi with
    | 0, _ =>
      obtain ⟨ty, ps, af, ho⟩ := op_lit hops (i := 0) (op := Op.fieldAddr 59 (Operand.tmp 4) 1) (dst := some 29) (g := none) rfl
      refine wpOp_lit ho (fun j b h => by cases h) ?_
      clear hops hdep ho
      replace h1 := hidH h1
      replace h2 := hidH h2
      replace h3 := hidH h3
      replace h4 := hidH h4
      replace h5 := hidH h5
      replace h6 := hidH h6
      replace h7 := hidH h7
      replace h8 := hidH h8
      replace h9 := hidH h9
      replace h10 := hidH h10
      replace h11 := hidH h11
      replace h12 := hidH h12
      replace h13 := hidH h13
      replace h14 := hidH h14
      replace h15 := hidH h15
      replace h16 := hidH h16
      replace h17 := hidH h17
      replace h18 := hidH h18
      replace h19 := hidH h19
      go_wp2
      exact (HJ.out _ _ _).2 ⟨_, _, _, _, _, _, _, _, _, _, _, _, _, _, _, _, _, _, _, rfl, hE, hP, hG, hO, hBW, fun _ => rfl, h1.out, h2.out, h3.out, h4.out, h5.out, h6.out, h7.out, h8.out, h9.out, h10.out, h11.out, h12.out, h13.out, h14.out, h15.out, h16.out, h17.out, h18.out, h19.out⟩
    | 1, _ =>
      obtain ⟨ty, ps, af, ho⟩ := op_lit hops (i := 1) (op := Op.load 57 (Operand.tmp 29)) (dst := some 30) (g := none) rfl
      have hkS : dn 19 = false := by
              rcases hq : dn 19 with _ | _
              · rfl
              · have h3 : dn 1 = true := hE.2.2 (hE.1 hq)
                rw [hdn] at h3; cases h3
      obtain rfl := h0 (hdep 0 (by simp))
      refine wpOp_lit ho (fun j b h => by cases h) ?_
      clear hops hdep ho
      replace h0 := hidH h0
      replace h2 := hidH h2
      replace h3 := hidH h3
      replace h4 := hidH h4
      replace h5 := hidH h5
      replace h6 := hidH h6
      replace h7 := hidH h7
      replace h8 := hidH h8
      replace h9 := hidH h9
      replace h10 := hidH h10
      replace h11 := hidH h11
      replace h12 := hidH h12
      replace h13 := hidH h13
      replace h14 := hidH h14
      replace h15 := hidH h15
      replace h16 := hidH h16
      replace h17 := hidH h17
      replace h18 := hidH h18
      replace h19 := hidH h19
      have hb := Below.refl W.heap.size W
      have kp := hP hkS
      have q1 := kp.cell 1
      simp only [List.getElem?_toArray, List.getElem?_cons_succ, List.getElem?_cons_zero] at q1
      have hlt := kp.lt
      go_wp2
      exact (HJ.out _ _ _).2 ⟨_, _, _, _, _, _, _, _, _, _, _, _, _, _, _, _, _, _, _, rfl, ⟨hE.1, hE.2.1, (fun _ => rfl)⟩, fun h => (hP h).below hb, fun h => own_below0 (hG h) hb, btr hO hb, Nat.le_trans hBW hb.size, fun _ => rfl, fun _ => rfl, h2.out, h3.out, h4.out, h5.out, h6.out, h7.out, h8.out, h9.out, h10.out, h11.out, h12.out, h13.out, h14.out, h15.out, fun h h2 => by obtain ⟨q, q1, q2⟩ := h16.out h h2; exact ⟨q, q1, q2.below hb⟩, fun h h2 => own_below0 (h17.out h h2) hb, h18.out, (fun h => by obtain ⟨v2, q1, q2⟩ := h19.out h; exact ⟨v2, q1.below hb, own_below0 q2 hb⟩)⟩
    | 2, _ =>
      obtain ⟨ty, ps, af, ho⟩ := op_lit hops (i := 2) (op := Op.fieldAddr 28 (Operand.tmp 1) 2) (dst := some 31) (g := none) rfl
      refine wpOp_lit ho (fun j b h => by cases h) ?_
      clear hops hdep ho
      replace h0 := hidH h0
      replace h1 := hidH h1
      replace h3 := hidH h3
      replace h4 := hidH h4
      replace h5 := hidH h5
      replace h6 := hidH h6
      replace h7 := hidH h7
      replace h8 := hidH h8
      replace h9 := hidH h9
      replace h10 := hidH h10
      replace h11 := hidH h11
      replace h12 := hidH h12
      replace h13 := hidH h13
      replace h14 := hidH h14
      replace h15 := hidH h15
      replace h16 := hidH h16
      replace h17 := hidH h17
      replace h18 := hidH h18
      replace h19 := hidH h19
      go_wp2
      exact (HJ.out _ _ _).2 ⟨_, _, _, _, _, _, _, _, _, _, _, _, _, _, _, _, _, _, _, rfl, hE, hP, hG, hO, hBW, h0.out, h1.out, fun _ => rfl, h3.out, h4.out, h5.out, h6.out, h7.out, h8.out, h9.out, h10.out, h11.out, h12.out, h13.out, h14.out, h15.out, h16.out, h17.out, h18.out, h19.out⟩
    | 3, _ =>
      obtain ⟨ty, ps, af, ho⟩ := op_lit hops (i := 3) (op := Op.load 22 (Operand.tmp 31)) (dst := some 32) (g := none) rfl
      obtain rfl := h2 (hdep 2 (by simp))
      refine wpOp_lit ho (fun j b h => by cases h) ?_
      clear hops hdep ho
      replace h0 := hidH h0
      replace h1 := hidH h1
      replace h2 := hidH h2
      replace h4 := hidH h4
      replace h5 := hidH h5
      replace h6 := hidH h6
      replace h7 := hidH h7
      replace h8 := hidH h8
      replace h9 := hidH h9
      replace h10 := hidH h10
      replace h11 := hidH h11
      replace h12 := hidH h12
      replace h13 := hidH h13
      replace h14 := hidH h14
      replace h15 := hidH h15
      replace h16 := hidH h16
      replace h17 := hidH h17
      replace h18 := hidH h18
      replace h19 := hidH h19
      have hb := Below.refl W.heap.size W
      have q1 := (hO.cell (p := ⟨k, 2, none⟩) hkl).trans hk2
      go_wp2
      exact (HJ.out _ _ _).2 ⟨_, _, _, _, _, _, _, _, _, _, _, _, _, _, _, _, _, _, _, rfl, hE, fun h => (hP h).below hb, fun h => own_below0 (hG h) hb, btr hO hb, Nat.le_trans hBW hb.size, h0.out, h1.out, fun _ => rfl, fun _ => rfl, h4.out, h5.out, h6.out, h7.out, h8.out, h9.out, h10.out, h11.out, h12.out, h13.out, h14.out, h15.out, fun h h2 => by obtain ⟨q, q1, q2⟩ := h16.out h h2; exact ⟨q, q1, q2.below hb⟩, fun h h2 => own_below0 (h17.out h h2) hb, h18.out, (fun h => by obtain ⟨v2, q1, q2⟩ := h19.out h; exact ⟨v2, q1.below hb, own_below0 q2 hb⟩)⟩
    | 4, _ =>
      obtain ⟨ty, ps, af, ho⟩ := op_lit hops (i := 4) (op := Op.move (Operand.tmp 5)) (dst := some 33) (g := none) rfl
      refine wpOp_lit ho (fun j b h => by cases h) ?_
      clear hops hdep ho
      replace h0 := hidH h0
      replace h1 := hidH h1
      replace h2 := hidH h2
      replace h3 := hidH h3
      replace h5 := hidH h5
      replace h6 := hidH h6
      replace h7 := hidH h7
      replace h8 := hidH h8
      replace h9 := hidH h9
      replace h10 := hidH h10
      replace h11 := hidH h11
      replace h12 := hidH h12
      replace h13 := hidH h13
      replace h14 := hidH h14
      replace h15 := hidH h15
      replace h16 := hidH h16
      replace h17 := hidH h17
      replace h18 := hidH h18
      replace h19 := hidH h19
      go_wp2
      exact (HJ.out _ _ _).2 ⟨_, _, _, _, _, _, _, _, _, _, _, _, _, _, _, _, _, _, _, rfl, hE, hP, hG, hO, hBW, h0.out, h1.out, h2.out, h3.out, fun _ => rfl, h5.out, h6.out, h7.out, h8.out, h9.out, h10.out, h11.out, h12.out, h13.out, h14.out, h15.out, h16.out, h17.out, h18.out, h19.out⟩
    | 5, _ =>
      obtain ⟨ty, ps, af, ho⟩ := op_lit hops (i := 5) (op := Op.indexAddr 22 (Operand.tmp 32) (Operand.tmp 33)) (dst := some 34) (g := none) rfl
      obtain rfl := h3 (hdep 3 (by simp))
      obtain rfl := h4 (hdep 4 (by simp))
      refine wpOp_lit ho (fun j b h => by cases h) ?_
      clear hops hdep ho
      replace h0 := hidH h0
      replace h1 := hidH h1
      replace h2 := hidH h2
      replace h3 := hidH h3
      replace h4 := hidH h4
      replace h6 := hidH h6
      replace h7 := hidH h7
      replace h8 := hidH h8
      replace h9 := hidH h9
      replace h10 := hidH h10
      replace h11 := hidH h11
      replace h12 := hidH h12
      replace h13 := hidH h13
      replace h14 := hidH h14
      replace h15 := hidH h15
      replace h16 := hidH h16
      replace h17 := hidH h17
      replace h18 := hidH h18
      replace h19 := hidH h19
      go_wp2
      exact (HJ.out _ _ _).2 ⟨_, _, _, _, _, _, _, _, _, _, _, _, _, _, _, _, _, _, _, rfl, hE, hP, hG, hO, hBW, h0.out, h1.out, h2.out, fun _ => rfl, fun _ => rfl, fun _ => rfl, h6.out, h7.out, h8.out, h9.out, h10.out, h11.out, h12.out, h13.out, h14.out, h15.out, h16.out, h17.out, h18.out, h19.out⟩
    | 6, _ =>
      obtain ⟨ty, ps, af, ho⟩ := op_lit hops (i := 6) (op := Op.load 5 (Operand.tmp 34)) (dst := some 35) (g := none) rfl
      obtain rfl := h5 (hdep 5 (by simp))
      refine wpOp_lit ho (fun j b h => by cases h) ?_
      clear hops hdep ho
      replace h0 := hidH h0
      replace h1 := hidH h1
      replace h2 := hidH h2
      replace h3 := hidH h3
      replace h4 := hidH h4
      replace h5 := hidH h5
      replace h7 := hidH h7
      replace h8 := hidH h8
      replace h9 := hidH h9
      replace h10 := hidH h10
      replace h11 := hidH h11
      replace h12 := hidH h12
      replace h13 := hidH h13
      replace h14 := hidH h14
      replace h15 := hidH h15
      replace h16 := hidH h16
      replace h17 := hidH h17
      replace h18 := hidH h18
      replace h19 := hidH h19
      have hb := Below.refl W.heap.size W
      have q1 := (hO.cell (p := ⟨sb, so + a, none⟩) hsl).trans hr0
      go_wp2
      exact (HJ.out _ _ _).2 ⟨_, _, _, _, _, _, _, _, _, _, _, _, _, _, _, _, _, _, _, rfl, hE, fun h => (hP h).below hb, fun h => own_below0 (hG h) hb, btr hO hb, Nat.le_trans hBW hb.size, h0.out, h1.out, h2.out, h3.out, h4.out, fun _ => rfl, fun _ => rfl, h7.out, h8.out, h9.out, h10.out, h11.out, h12.out, h13.out, h14.out, h15.out, fun h h2 => by obtain ⟨q, q1, q2⟩ := h16.out h h2; exact ⟨q, q1, q2.below hb⟩, fun h h2 => own_below0 (h17.out h h2) hb, h18.out, (fun h => by obtain ⟨v2, q1, q2⟩ := h19.out h; exact ⟨v2, q1.below hb, own_below0 q2 hb⟩)⟩
    | 7, _ =>
      obtain ⟨ty, ps, af, ho⟩ := op_lit hops (i := 7) (op := Op.convert 5 2 (Operand.tmp 35)) (dst := some 36) (g := none) rfl
      obtain rfl := h6 (hdep 6 (by simp))
      refine wpOp_lit ho (fun j b h => by cases h) ?_
      clear hops hdep ho
      replace h0 := hidH h0
      replace h1 := hidH h1
      replace h2 := hidH h2
      replace h3 := hidH h3
      replace h4 := hidH h4
      replace h5 := hidH h5
      replace h6 := hidH h6
      replace h8 := hidH h8
      replace h9 := hidH h9
      replace h10 := hidH h10
      replace h11 := hidH h11
      replace h12 := hidH h12
      replace h13 := hidH h13
      replace h14 := hidH h14
      replace h15 := hidH h15
      replace h16 := hidH h16
      replace h17 := hidH h17
      replace h18 := hidH h18
      replace h19 := hidH h19
      go_wp2
      exact (HJ.out _ _ _).2 ⟨_, _, _, _, _, _, _, _, _, _, _, _, _, _, _, _, _, _, _, rfl, hE, hP, hG, hO, hBW, h0.out, h1.out, h2.out, h3.out, h4.out, h5.out, fun _ => rfl, fun _ => rfl, h8.out, h9.out, h10.out, h11.out, h12.out, h13.out, h14.out, h15.out, h16.out, h17.out, h18.out, h19.out⟩
    | 8, _ =>
      obtain ⟨ty, ps, af, ho⟩ := op_lit hops (i := 8) (op := Op.fieldAddr 28 (Operand.tmp 1) 2) (dst := some 37) (g := none) rfl
      refine wpOp_lit ho (fun j b h => by cases h) ?_
      clear hops hdep ho
      replace h0 := hidH h0
      replace h1 := hidH h1
      replace h2 := hidH h2
      replace h3 := hidH h3
      replace h4 := hidH h4
      replace h5 := hidH h5
      replace h6 := hidH h6
      replace h7 := hidH h7
      replace h9 := hidH h9
      replace h10 := hidH h10
      replace h11 := hidH h11
      replace h12 := hidH h12
      replace h13 := hidH h13
      replace h14 := hidH h14
      replace h15 := hidH h15
      replace h16 := hidH h16
      replace h17 := hidH h17
      replace h18 := hidH h18
      replace h19 := hidH h19
      go_wp2
      exact (HJ.out _ _ _).2 ⟨_, _, _, _, _, _, _, _, _, _, _, _, _, _, _, _, _, _, _, rfl, hE, hP, hG, hO, hBW, h0.out, h1.out, h2.out, h3.out, h4.out, h5.out, h6.out, h7.out, fun _ => rfl, h9.out, h10.out, h11.out, h12.out, h13.out, h14.out, h15.out, h16.out, h17.out, h18.out, h19.out⟩
    | 9, _ =>
      obtain ⟨ty, ps, af, ho⟩ := op_lit hops (i := 9) (op := Op.load 22 (Operand.tmp 37)) (dst := some 38) (g := none) rfl
      obtain rfl := h8 (hdep 8 (by simp))
      refine wpOp_lit ho (fun j b h => by cases h) ?_
      clear hops hdep ho
      replace h0 := hidH h0
      replace h1 := hidH h1
      replace h2 := hidH h2
      replace h3 := hidH h3
      replace h4 := hidH h4
      replace h5 := hidH h5
      replace h6 := hidH h6
      replace h7 := hidH h7
      replace h8 := hidH h8
      replace h10 := hidH h10
      replace h11 := hidH h11
      replace h12 := hidH h12
      replace h13 := hidH h13
      replace h14 := hidH h14
      replace h15 := hidH h15
      replace h16 := hidH h16
      replace h17 := hidH h17
      replace h18 := hidH h18
      replace h19 := hidH h19
      have hb := Below.refl W.heap.size W
      have q1 := (hO.cell (p := ⟨k, 2, none⟩) hkl).trans hk2
      go_wp2
      exact (HJ.out _ _ _).2 ⟨_, _, _, _, _, _, _, _, _, _, _, _, _, _, _, _, _, _, _, rfl, hE, fun h => (hP h).below hb, fun h => own_below0 (hG h) hb, btr hO hb, Nat.le_trans hBW hb.size, h0.out, h1.out, h2.out, h3.out, h4.out, h5.out, h6.out, h7.out, fun _ => rfl, fun _ => rfl, h10.out, h11.out, h12.out, h13.out, h14.out, h15.out, fun h h2 => by obtain ⟨q, q1, q2⟩ := h16.out h h2; exact ⟨q, q1, q2.below hb⟩, fun h h2 => own_below0 (h17.out h h2) hb, h18.out, (fun h => by obtain ⟨v2, q1, q2⟩ := h19.out h; exact ⟨v2, q1.below hb, own_below0 q2 hb⟩)⟩
    | 10, _ =>
      obtain ⟨ty, ps, af, ho⟩ := op_lit hops (i := 10) (op := Op.move (Operand.tmp 5)) (dst := some 39) (g := none) rfl
      refine wpOp_lit ho (fun j b h => by cases h) ?_
      clear hops hdep ho
      replace h0 := hidH h0
      replace h1 := hidH h1
      replace h2 := hidH h2
      replace h3 := hidH h3
      replace h4 := hidH h4
      replace h5 := hidH h5
      replace h6 := hidH h6
      replace h7 := hidH h7
      replace h8 := hidH h8
      replace h9 := hidH h9
      replace h11 := hidH h11
      replace h12 := hidH h12
      replace h13 := hidH h13
      replace h14 := hidH h14
      replace h15 := hidH h15
      replace h16 := hidH h16
      replace h17 := hidH h17
      replace h18 := hidH h18
      replace h19 := hidH h19
      go_wp2
      exact (HJ.out _ _ _).2 ⟨_, _, _, _, _, _, _, _, _, _, _, _, _, _, _, _, _, _, _, rfl, hE, hP, hG, hO, hBW, h0.out, h1.out, h2.out, h3.out, h4.out, h5.out, h6.out, h7.out, h8.out, h9.out, fun _ => rfl, h11.out, h12.out, h13.out, h14.out, h15.out, h16.out, h17.out, h18.out, h19.out⟩
    | 11, _ =>
      obtain ⟨ty, ps, af, ho⟩ := op_lit hops (i := 11) (op := Op.binOp BinOp.add 3 (Operand.tmp 39) ((Operand.const (Value.int .i64 1))) 3) (dst := some 40) (g := none) rfl
      obtain rfl := h10 (hdep 10 (by simp))
      refine wpOp_lit ho (fun j b h => by cases h) ?_
      clear hops hdep ho
      replace h0 := hidH h0
      replace h1 := hidH h1
      replace h2 := hidH h2
      replace h3 := hidH h3
      replace h4 := hidH h4
      replace h5 := hidH h5
      replace h6 := hidH h6
      replace h7 := hidH h7
      replace h8 := hidH h8
      replace h9 := hidH h9
      replace h10 := hidH h10
      replace h12 := hidH h12
      replace h13 := hidH h13
      replace h14 := hidH h14
      replace h15 := hidH h15
      replace h16 := hidH h16
      replace h17 := hidH h17
      replace h18 := hidH h18
      replace h19 := hidH h19
      go_wp2
      exact (HJ.out _ _ _).2 ⟨_, _, _, _, _, _, _, _, _, _, _, _, _, _, _, _, _, _, _, rfl, hE, hP, hG, hO, hBW, h0.out, h1.out, h2.out, h3.out, h4.out, h5.out, h6.out, h7.out, h8.out, h9.out, fun _ => rfl, fun _ => rfl, h12.out, h13.out, h14.out, h15.out, h16.out, h17.out, h18.out, h19.out⟩
    | 12, _ =>
      obtain ⟨ty, ps, af, ho⟩ := op_lit hops (i := 12) (op := Op.indexAddr 22 (Operand.tmp 38) (Operand.tmp 40)) (dst := some 41) (g := none) rfl
      obtain rfl := h9 (hdep 9 (by simp))
      obtain rfl := h11 (hdep 11 (by simp))
      refine wpOp_lit ho (fun j b h => by cases h) ?_
      clear hops hdep ho
      replace h0 := hidH h0
      replace h1 := hidH h1
      replace h2 := hidH h2
      replace h3 := hidH h3
      replace h4 := hidH h4
      replace h5 := hidH h5
      replace h6 := hidH h6
      replace h7 := hidH h7
      replace h8 := hidH h8
      replace h9 := hidH h9
      replace h10 := hidH h10
      replace h11 := hidH h11
      replace h13 := hidH h13
      replace h14 := hidH h14
      replace h15 := hidH h15
      replace h16 := hidH h16
      replace h17 := hidH h17
      replace h18 := hidH h18
      replace h19 := hidH h19
      have s1 : ((a : Int) + 1).toNat = a + 1 := by omega
      go_wp2
      exact (HJ.out _ _ _).2 ⟨_, _, _, _, _, _, _, _, _, _, _, _, _, _, _, _, _, _, _, rfl, hE, hP, hG, hO, hBW, h0.out, h1.out, h2.out, h3.out, h4.out, h5.out, h6.out, h7.out, h8.out, fun _ => rfl, h10.out, fun _ => rfl, fun _ => rfl, h13.out, h14.out, h15.out, h16.out, h17.out, h18.out, h19.out⟩
    | 13, _ =>
      obtain ⟨ty, ps, af, ho⟩ := op_lit hops (i := 13) (op := Op.load 5 (Operand.tmp 41)) (dst := some 42) (g := none) rfl
      obtain rfl := h12 (hdep 12 (by simp))
      refine wpOp_lit ho (fun j b h => by cases h) ?_
      clear hops hdep ho
      replace h0 := hidH h0
      replace h1 := hidH h1
      replace h2 := hidH h2
      replace h3 := hidH h3
      replace h4 := hidH h4
      replace h5 := hidH h5
      replace h6 := hidH h6
      replace h7 := hidH h7
      replace h8 := hidH h8
      replace h9 := hidH h9
      replace h10 := hidH h10
      replace h11 := hidH h11
      replace h12 := hidH h12
      replace h14 := hidH h14
      replace h15 := hidH h15
      replace h16 := hidH h16
      replace h17 := hidH h17
      replace h18 := hidH h18
      replace h19 := hidH h19
      have hb := Below.refl W.heap.size W
      have q1 := (hO.cell (p := ⟨sb, so + (a + 1), none⟩) hsl).trans hr1
      go_wp2
      exact (HJ.out _ _ _).2 ⟨_, _, _, _, _, _, _, _, _, _, _, _, _, _, _, _, _, _, _, rfl, hE, fun h => (hP h).below hb, fun h => own_below0 (hG h) hb, btr hO hb, Nat.le_trans hBW hb.size, h0.out, h1.out, h2.out, h3.out, h4.out, h5.out, h6.out, h7.out, h8.out, h9.out, h10.out, h11.out, fun _ => rfl, fun _ => rfl, h14.out, h15.out, fun h h2 => by obtain ⟨q, q1, q2⟩ := h16.out h h2; exact ⟨q, q1, q2.below hb⟩, fun h h2 => own_below0 (h17.out h h2) hb, h18.out, (fun h => by obtain ⟨v2, q1, q2⟩ := h19.out h; exact ⟨v2, q1.below hb, own_below0 q2 hb⟩)⟩
    | 14, _ =>
      obtain ⟨ty, ps, af, ho⟩ := op_lit hops (i := 14) (op := Op.convert 5 2 (Operand.tmp 42)) (dst := some 43) (g := none) rfl
      obtain rfl := h13 (hdep 13 (by simp))
      refine wpOp_lit ho (fun j b h => by cases h) ?_
      clear hops hdep ho
      replace h0 := hidH h0
      replace h1 := hidH h1
      replace h2 := hidH h2
      replace h3 := hidH h3
      replace h4 := hidH h4
      replace h5 := hidH h5
      replace h6 := hidH h6
      replace h7 := hidH h7
      replace h8 := hidH h8
      replace h9 := hidH h9
      replace h10 := hidH h10
      replace h11 := hidH h11
      replace h12 := hidH h12
      replace h13 := hidH h13
      replace h15 := hidH h15
      replace h16 := hidH h16
      replace h17 := hidH h17
      replace h18 := hidH h18
      replace h19 := hidH h19
      go_wp2
      exact (HJ.out _ _ _).2 ⟨_, _, _, _, _, _, _, _, _, _, _, _, _, _, _, _, _, _, _, rfl, hE, hP, hG, hO, hBW, h0.out, h1.out, h2.out, h3.out, h4.out, h5.out, h6.out, h7.out, h8.out, h9.out, h10.out, h11.out, h12.out, fun _ => rfl, fun _ => rfl, h15.out, h16.out, h17.out, h18.out, h19.out⟩
    | 15, _ =>
      obtain ⟨ty, ps, af, ho⟩ := op_lit hops (i := 15) (op := Op.build 70 #[(0, (Operand.tmp 36)), (1, (Operand.tmp 43))]) (dst := some 44) (g := none) rfl
      obtain rfl := h7 (hdep 7 (by simp))
      obtain rfl := h14 (hdep 14 (by simp))
      refine wpOp_lit ho (fun j b h => by cases h) ?_
      clear hops hdep ho
      replace h0 := hidH h0
      replace h1 := hidH h1
      replace h2 := hidH h2
      replace h3 := hidH h3
      replace h4 := hidH h4
      replace h5 := hidH h5
      replace h6 := hidH h6
      replace h7 := hidH h7
      replace h8 := hidH h8
      replace h9 := hidH h9
      replace h10 := hidH h10
      replace h11 := hidH h11
      replace h12 := hidH h12
      replace h13 := hidH h13
      replace h14 := hidH h14
      replace h16 := hidH h16
      replace h17 := hidH h17
      replace h18 := hidH h18
      replace h19 := hidH h19
      go_wp2
      exact (HJ.out _ _ _).2 ⟨_, _, _, _, _, _, _, _, _, _, _, _, _, _, _, _, _, _, _, rfl, hE, hP, hG, hO, hBW, h0.out, h1.out, h2.out, h3.out, h4.out, h5.out, h6.out, fun _ => rfl, h8.out, h9.out, h10.out, h11.out, h12.out, h13.out, fun _ => rfl, fun _ => rfl, h16.out, h17.out, h18.out, h19.out⟩
    | 16, _ =>
      obtain ⟨ty, ps, af, ho⟩ := op_lit hops (i := 16) (op := Op.buildSlice 57 1 #[(0, (Operand.tmp 44))]) (dst := some 45) (g := none) rfl
      obtain rfl := h15 (hdep 15 (by simp))
      refine wpOp_lit ho (fun j b h => by cases h) ?_
      clear hops hdep ho
      replace h0 := hidH h0
      replace h1 := hidH h1
      replace h2 := hidH h2
      replace h3 := hidH h3
      replace h4 := hidH h4
      replace h5 := hidH h5
      replace h6 := hidH h6
      replace h7 := hidH h7
      replace h8 := hidH h8
      replace h9 := hidH h9
      replace h10 := hidH h10
      replace h11 := hidH h11
      replace h12 := hidH h12
      replace h13 := hidH h13
      replace h14 := hidH h14
      replace h15 := hidH h15
      replace h17 := hidH h17
      replace h18 := hidH h18
      replace h19 := hidH h19
      have hb := bal (Below.refl W.heap.size W) (.cells #[.int .i64 z0, .int .i64 z1] 70)
      have KQ := hidH (Blk.new W 70 #[.int .i64 z0, .int .i64 z1])
      go_wp2
      exact (HJ.out _ _ _).2 ⟨_, _, _, _, _, _, _, _, _, _, _, _, _, _, _, _, _, _, _, rfl, ⟨hE.1, (fun _ => rfl), hE.2.2⟩, fun h => (hP h).below hb, fun h => own_below0 (hG h) hb, btr hO hb, Nat.le_trans hBW hb.size, h0.out, h1.out, h2.out, h3.out, h4.out, h5.out, h6.out, h7.out, h8.out, h9.out, h10.out, h11.out, h12.out, h13.out, h14.out, fun _ => rfl, fun _ => fun _ => ⟨_, rfl, KQ.out⟩, fun h h2 => own_below0 (h17.out h h2) hb, h18.out, (fun h => by obtain ⟨v2, q1, q2⟩ := h19.out h; exact ⟨v2, q1.below hb, own_below0 q2 hb⟩)⟩
    | 17, _ =>
      obtain ⟨ty, ps, af, ho⟩ := op_lit hops (i := 17) (op := Op.call { callee := Callee.builtin Builtin.append, args := #[(Operand.tmp 30), (Operand.tmp 45)], argTypes := #[57, 57] }) (dst := some 46) (g := none) rfl
      have hd16 := hidH (hdep 16 (by simp))
      have hd1 := hidH (hdep 1 (by simp))
      obtain ⟨q, rfl, kq⟩ := h16 (hdep 16 (by simp)) hdn
      obtain rfl := h1 (hdep 1 (by simp))
      refine wpOp_lit ho (fun j b h => by cases h) ?_
      clear hops hdep ho
      replace h0 := hidH h0
      replace h1 := hidH h1
      replace h2 := hidH h2
      replace h3 := hidH h3
      replace h4 := hidH h4
      replace h5 := hidH h5
      replace h6 := hidH h6
      replace h7 := hidH h7
      replace h8 := hidH h8
      replace h9 := hidH h9
      replace h10 := hidH h10
      replace h11 := hidH h11
      replace h12 := hidH h12
      replace h13 := hidH h13
      replace h14 := hidH h14
      replace h15 := hidH h15
      replace h16 := hidH h16
      replace h18 := hidH h18
      replace h19 := hidH h19
      have gk := hidH (hG hdn)
      have hBW2 := hBW
      go_wp2_with (at_builtin; go_loud (refine wpList_append_Op rfl _ _ rfl B _ n xs0 rfl gk.out q _ z0 z1 rfl kq hnn hBW2 ?_))
      intro v6 w6 o6 hg
      have hb := (Below.refl B W).grown hg hBW2 (fun x hx => (gk.out.lt x hx).1)
      have O6 := hidH o6
      clear o6 hg
      go_wp2
      exact (HJ.out _ _ _).2 ⟨_, _, _, _, _, _, _, _, _, _, _, _, _, _, _, _, _, _, _, rfl, ⟨(fun _ => rfl), (fun _ => hd16.out), (fun _ => hd1.out)⟩, (fun h => (hb.block g hgB).trans (hP h)), (fun h2 => by simp at h2), hO.trans (hb.mono hwB), Nat.le_trans hBW hb.size, h0.out, fun _ => rfl, h2.out, h3.out, h4.out, h5.out, h6.out, h7.out, h8.out, h9.out, h10.out, h11.out, h12.out, h13.out, h14.out, h15.out, (fun _ h2 => by simp at h2), fun _ => fun _ => O6.out, h18.out, (fun h => by have h3 : dn 17 = true := hE.1 h; rw [hdn] at h3; cases h3)⟩
    | 18, _ =>
      obtain ⟨ty, ps, af, ho⟩ := op_lit hops (i := 18) (op := Op.fieldAddr 59 (Operand.tmp 4) 1) (dst := some 47) (g := none) rfl
      refine wpOp_lit ho (fun j b h => by cases h) ?_
      clear hops hdep ho
      replace h0 := hidH h0
      replace h1 := hidH h1
      replace h2 := hidH h2
      replace h3 := hidH h3
      replace h4 := hidH h4
      replace h5 := hidH h5
      replace h6 := hidH h6
      replace h7 := hidH h7
      replace h8 := hidH h8
      replace h9 := hidH h9
      replace h10 := hidH h10
      replace h11 := hidH h11
      replace h12 := hidH h12
      replace h13 := hidH h13
      replace h14 := hidH h14
      replace h15 := hidH h15
      replace h16 := hidH h16
      replace h17 := hidH h17
      replace h19 := hidH h19
      go_wp2
      exact (HJ.out _ _ _).2 ⟨_, _, _, _, _, _, _, _, _, _, _, _, _, _, _, _, _, _, _, rfl, hE, hP, hG, hO, hBW, h0.out, h1.out, h2.out, h3.out, h4.out, h5.out, h6.out, h7.out, h8.out, h9.out, h10.out, h11.out, h12.out, h13.out, h14.out, h15.out, h16.out, h17.out, fun _ => rfl, h19.out⟩
    | 19, _ =>
      obtain ⟨ty, ps, af, ho⟩ := op_lit hops (i := 19) (op := Op.store 57 (Operand.tmp 47) (Operand.tmp 46)) (dst := none) (g := none) rfl
      have hd17 := hidH (hdep 17 (by simp))
      have o8 := h17 (hdep 17 (by simp)) hdn
      obtain ⟨A6, n6, c6, rfl⟩ := own_sliceE o8
      replace h17 := hidH h17
      obtain rfl := h18 (hdep 18 (by simp))
      refine wpOp_lit ho (fun j b h => by cases h) ?_
      clear hops hdep ho
      replace h0 := hidH h0
      replace h1 := hidH h1
      replace h2 := hidH h2
      replace h3 := hidH h3
      replace h4 := hidH h4
      replace h5 := hidH h5
      replace h6 := hidH h6
      replace h7 := hidH h7
      replace h8 := hidH h8
      replace h9 := hidH h9
      replace h10 := hidH h10
      replace h11 := hidH h11
      replace h12 := hidH h12
      replace h13 := hidH h13
      replace h14 := hidH h14
      replace h15 := hidH h15
      replace h16 := hidH h16
      replace h17 := hidH h17
      replace h18 := hidH h18
      have kp := hP hdn
      have x1 := kp.cell 1
      simp only [List.getElem?_toArray, List.getElem?_cons_succ, List.getElem?_cons_zero] at x1
      have f1 := kp.frozen 1
      have hlt := kp.lt
      have KS := hidH (show Blk (W.setCell ⟨g, 1, none⟩ (.slice A6 n6 c6)) g 59 #[.int .i64 tag, .slice A6 n6 c6] from kp.put 1 _)
      have O7 := hidH (own_farE o8 hgB 1 (.slice A6 n6 c6))
      clear o8
      go_wp2
      exact (HJ.out _ _ _).2 ⟨_, _, _, _, _, _, _, _, _, _, _, _, _, _, _, _, _, _, _, rfl, ⟨(fun _ => hd17.out), hE.2⟩, (fun h2 => by simp at h2), (fun h2 => by have h3 : dn 17 = false := h2; rw [hd17.out] at h3; cases h3), (bst hO hgw _), (by simpa [World.setCell] using hBW), h0.out, h1.out, h2.out, h3.out, h4.out, h5.out, h6.out, h7.out, h8.out, h9.out, h10.out, h11.out, h12.out, h13.out, h14.out, h15.out, (fun _ h2 => by have h3 : dn 17 = false := h2; rw [hd17.out] at h3; cases h3), (fun _ h2 => by simp at h2), fun _ => rfl, fun _ => ⟨_, KS.out, O7.out⟩⟩
    | n + 20, h => omega
  case fin =>
    clear hops hdeps hback
    rintro dn ac W hJ hall
    obtain ⟨t29, t30, t31, t32, t33, t34, t35, t36, t37, t38, t39, t40, t41, t42, t43, t44, t45, t46, t47, rfl, hE, hP, hG, hO, hBW, h0, h1, h2, h3, h4, h5, h6, h7, h8, h9, h10, h11, h12, h13, h14, h15, h16, h17, h18, h19⟩ := (HJ.out _ _ _).1 hJ
    exact fin _ _ _ _ _ _ _ _ _ _ _ _ _ _ _ _ _ _ _ W hO hBW (h19 (hall 19 (by omega)))
set_option maxRecDepth 100000 in
set_option maxHeartbeats 1000000 in
theorem regSrGap {Q : Exit → Act → World → Prop} (x0 x2 x3 x6 x7 x8 x9 x10 x11 x12 x13 x14 x15 x16 x17 x18 x19 x20 x21 x22 x23 x24 x25 x26 x27 x28 u_29 u_30 u_31 u_32 u_33 u_34 u_35 u_36 u_37 u_38 u_39 u_40 u_41 u_42 u_43 u_44 u_45 u_46 u_47 u_48 u_49 u_50 : Value) (ww : World) (k g B n a m c : Nat) (z0 z1 tag : Int) (v : Value) (xs0 : List Value) (A2 : Option Addr)
    (hgB : g < B) (hwB : ww.heap.size ≤ B) (hgw : ww.heap.size ≤ g) (hnn : n ≤ 100000) (hkl : k < ww.heap.size) (hk2 : ww.cell? ⟨k, 2, none⟩ = some (.slice A2 m c)) (ha0 : (0 : Int) ≤ (a : Int)) (ham : (a : Int) + 2 ≤ 100000000)
    (CH0 : ∀ u : World, Below ww.heap.size ww u → Calls Tryd.prog 82 #[.slice A2 m c, .int .i64 (a : Int)] u fun e w' => e = .returned (.int .i64 z0) ∧ Below u.heap.size u w')
    (CH1 : ∀ u : World, Below ww.heap.size ww u → Calls Tryd.prog 82 #[.slice A2 m c, .int .i64 ((a : Int) + 2)] u fun e w' => e = .returned (.int .i64 z1) ∧ Below u.heap.size u w') {ops : Array Oper}
    (hops : (ops.map fun o => (o.op, o.dst, o.guard)) = #[(Op.fieldAddr 34 (Operand.tmp 4) 1, some 29, none), (Op.load 32 (Operand.tmp 29), some 30, none), (Op.fieldAddr 28 (Operand.tmp 1) 2, some 31, none), (Op.load 22 (Operand.tmp 31), some 32, none), (Op.move (Operand.tmp 5), some 33, none), (Op.call { callee := Callee.value (Operand.func 82), args := #[(Operand.tmp 32), (Operand.tmp 33)], argTypes := #[22, 2] }, some 34, none), (Op.fieldAddr 28 (Operand.tmp 1) 2, some 35, none), (Op.load 22 (Operand.tmp 35), some 36, none), (Op.move (Operand.tmp 5), some 37, none), (Op.binOp BinOp.add 2 (Operand.tmp 37) ((Operand.const (Value.int .i64 2))) 2, some 38, none), (Op.call { callee := Callee.value (Operand.func 82), args := #[(Operand.tmp 36), (Operand.tmp 38)], argTypes := #[22, 2] }, some 39, none), (Op.build 52 #[(0, (Operand.tmp 34)), (1, (Operand.tmp 39))], some 40, none), (Op.buildSlice 32 1 #[(0, (Operand.tmp 40))], some 41, none), (Op.call { callee := Callee.builtin Builtin.append, args := #[(Operand.tmp 30), (Operand.tmp 41)], argTypes := #[32, 32] }, some 42, none), (Op.fieldAddr 34 (Operand.tmp 4) 1, some 43, none), (Op.store 32 (Operand.tmp 43) (Operand.tmp 42), none, none)])
    (hdeps : ((List.range 16).all fun i => ((fun i => [[], [0], [], [2], [], [3, 4], [], [6], [], [8], [7, 9], [5, 10], [11], [1, 12], [], [13, 14]].getD i []) i).all fun j => ((ops[i]?).map fun o => o.after.any fun e => Region.binds .any e && e.on == j).getD false) = true)
    (hback : ((List.range 16).all fun i => ((ops[i]?).map fun o => o.after.all fun e => decide (e.on < i)).getD false) = true)
    {a0 : Act} {w0 : World} (ha : a0 = { tmps := #[x0, .pointer (some ⟨k, 0, none⟩), x2, x3, .pointer (some ⟨g, 0, none⟩), .int .i64 (a : Int), x6, x7, x8, x9, x10, x11, x12, x13, x14, x15, x16, x17, x18, x19, x20, x21, x22, x23, x24, x25, x26, x27, x28, u_29, u_30, u_31, u_32, u_33, u_34, u_35, u_36, u_37, u_38, u_39, u_40, u_41, u_42, u_43, u_44, u_45, u_46, u_47, u_48, u_49, u_50], defers := [] }) (hE : (false = true → false = true) ∧ (false = true → false = true) ∧ (false = true → false = true)) (hP : false = false → Blk w0 g 34 #[.int .i64 tag, v]) (hG : false = false → w0.ownsRow B 52 2 v n xs0) (hO : Below ww.heap.size ww w0) (hBW : B ≤ w0.heap.size)
    (fin : ∀ t29 t30 t31 t32 t33 t34 t35 t36 t37 t38 t39 t40 t41 t42 t43 (W : World), (Below ww.heap.size ww W) → (B ≤ W.heap.size) → (∃ v2, Blk W g 34 #[.int .i64 tag, v2] ∧ W.ownsRow B 52 2 v2 (n + 1) (xs0 ++ [.int .i64 z0, .int .i64 z1])) → Q .normal { tmps := #[x0, .pointer (some ⟨k, 0, none⟩), x2, x3, .pointer (some ⟨g, 0, none⟩), .int .i64 (a : Int), x6, x7, x8, x9, x10, x11, x12, x13, x14, x15, x16, x17, x18, x19, x20, x21, x22, x23, x24, x25, x26, x27, x28, t29, t30, t31, t32, t33, t34, t35, t36, t37, t38, t39, t40, t41, t42, t43, u_44, u_45, u_46, u_47, u_48, u_49, u_50], defers := [] } W) :
    wpAny Tryd.prog .any ops Q ops.size (Array.replicate ops.size false) a0 w0 := by
  have hn : ops.size = 16 := by have := congrArg Array.size hops; simpa using this
  obtain ⟨J, HJ⟩ : ∃ J : (Nat → Bool) → Act → World → Prop, ∀ dn ac W, J dn ac W ↔ (fun dn ac W => ∃ t29 t30 t31 t32 t33 t34 t35 t36 t37 t38 t39 t40 t41 t42 t43, ac = { tmps := #[x0, .pointer (some ⟨k, 0, none⟩), x2, x3, .pointer (some ⟨g, 0, none⟩), .int .i64 (a : Int), x6, x7, x8, x9, x10, x11, x12, x13, x14, x15, x16, x17, x18, x19, x20, x21, x22, x23, x24, x25, x26, x27, x28, t29, t30, t31, t32, t33, t34, t35, t36, t37, t38, t39, t40, t41, t42, t43, u_44, u_45, u_46, u_47, u_48, u_49, u_50], defers := [] } ∧ ((dn 15 = true → dn 13 = true) ∧ (dn 13 = true → dn 12 = true) ∧ (dn 13 = true → dn 1 = true)) ∧ (dn 15 = false → Blk W g 34 #[.int .i64 tag, v]) ∧ (dn 13 = false → W.ownsRow B 52 2 v n xs0) ∧ (Below ww.heap.size ww W) ∧ (B ≤ W.heap.size) ∧ (dn 0 = true → t29 = .pointer (some ⟨g, 1, none⟩)) ∧ (dn 1 = true → t30 = v) ∧ (dn 2 = true → t31 = .pointer (some ⟨k, 2, none⟩)) ∧ (dn 3 = true → t32 = .slice A2 m c) ∧ (dn 4 = true → t33 = .int .i64 (a : Int)) ∧ (dn 5 = true → t34 = .int .i64 z0) ∧ (dn 6 = true → t35 = .pointer (some ⟨k, 2, none⟩)) ∧ (dn 7 = true → t36 = .slice A2 m c) ∧ (dn 8 = true → t37 = .int .i64 (a : Int)) ∧ (dn 9 = true → t38 = .int .i64 ((a : Int) + 2)) ∧ (dn 10 = true → t39 = .int .i64 z1) ∧ (dn 11 = true → t40 = .agg #[.int .i64 z0, .int .i64 z1]) ∧ (dn 12 = true → dn 13 = false → ∃ q : Nat, t41 = .slice (some ⟨q, 0, none⟩) 1 1 ∧ Blk W q 52 #[.int .i64 z0, .int .i64 z1]) ∧ (dn 13 = true → dn 15 = false → W.ownsRow B 52 2 t42 (n + 1) (xs0 ++ [.int .i64 z0, .int .i64 z1])) ∧ (dn 14 = true → t43 = .pointer (some ⟨g, 1, none⟩)) ∧ (dn 15 = true → ∃ v2, Blk W g 34 #[.int .i64 tag, v2] ∧ W.ownsRow B 52 2 v2 (n + 1) (xs0 ++ [.int .i64 z0, .int .i64 z1]))) dn ac W := ⟨_, fun _ _ _ => Iff.rfl⟩
  replace HJ := hidH HJ
  refine region_inv 16 (fun i => [[], [0], [], [2], [], [3, 4], [], [6], [], [8], [7, 9], [5, 10], [11], [1, 12], [], [13, 14]].getD i []) J hn hdeps hback ?start ?step ?fin
  case start => exact (HJ.out _ _ _).2 ⟨u_29, u_30, u_31, u_32, u_33, u_34, u_35, u_36, u_37, u_38, u_39, u_40, u_41, u_42, u_43, ha, hE, hP, hG, hO, hBW, fun h => by simp at h, fun h => by simp at h, fun h => by simp at h, fun h => by simp at h, fun h => by simp at h, fun h => by simp at h, fun h => by simp at h, fun h => by simp at h, fun h => by simp at h, fun h => by simp at h, fun h => by simp at h, fun h => by simp at h, fun h => by simp at h, fun h => by simp at h, fun h => by simp at h, fun h => by simp at h⟩
  all_goals clear ha hE hP hG hO hBW
  case step =>
    clear fin hdeps hback
    intro i hi dn ac W hJ hdn hdep
    obtain ⟨t29, t30, t31, t32, t33, t34, t35, t36, t37, t38, t39, t40, t41, t42, t43, rfl, hE, hP, hG, hO, hBW, h0, h1, h2, h3, h4, h5, h6, h7, h8, h9, h10, h11, h12, h13, h14, h15⟩ := (HJ.out _ _ _).1 hJ
    clear hJ
    match i, hi with
    | 0, _ =>
      obtain ⟨ty, ps, af, ho⟩ := op_lit hops (i := 0) (op := Op.fieldAddr 34 (Operand.tmp 4) 1) (dst := some 29) (g := none) rfl
      refine wpOp_lit ho (fun j b h => by cases h) ?_
      clear hops hdep ho
      replace h1 := hidH h1
      replace h2 := hidH h2
      replace h3 := hidH h3
      replace h4 := hidH h4
      replace h5 := hidH h5
      replace h6 := hidH h6
      replace h7 := hidH h7
      replace h8 := hidH h8
      replace h9 := hidH h9
      replace h10 := hidH h10
      replace h11 := hidH h11
      replace h12 := hidH h12
      replace h13 := hidH h13
      replace h14 := hidH h14
      replace h15 := hidH h15
      go_wp2
      exact (HJ.out _ _ _).2 ⟨_, _, _, _, _, _, _, _, _, _, _, _, _, _, _, rfl, hE, hP, hG, hO, hBW, fun _ => rfl, h1.out, h2.out, h3.out, h4.out, h5.out, h6.out, h7.out, h8.out, h9.out, h10.out, h11.out, h12.out, h13.out, h14.out, h15.out⟩
    | 1, _ =>
      obtain ⟨ty, ps, af, ho⟩ := op_lit hops (i := 1) (op := Op.load 32 (Operand.tmp 29)) (dst := some 30) (g := none) rfl
      have hkS : dn 15 = false := by
              rcases hq : dn 15 with _ | _
              · rfl
              · have h3 : dn 1 = true := hE.2.2 (hE.1 hq)
                rw [hdn] at h3; cases h3
      obtain rfl := h0 (hdep 0 (by simp))
      refine wpOp_lit ho (fun j b h => by cases h) ?_
      clear hops hdep ho
      replace h0 := hidH h0
      replace h2 := hidH h2
      replace h3 := hidH h3
      replace h4 := hidH h4
      replace h5 := hidH h5
      replace h6 := hidH h6
      replace h7 := hidH h7
      replace h8 := hidH h8
      replace h9 := hidH h9
      replace h10 := hidH h10
      replace h11 := hidH h11
      replace h12 := hidH h12
      replace h13 := hidH h13
      replace h14 := hidH h14
      replace h15 := hidH h15
      have hb := Below.refl W.heap.size W
      have kp := hP hkS
      have q1 := kp.cell 1
      simp only [List.getElem?_toArray, List.getElem?_cons_succ, List.getElem?_cons_zero] at q1
      have hlt := kp.lt
      go_wp2
      exact (HJ.out _ _ _).2 ⟨_, _, _, _, _, _, _, _, _, _, _, _, _, _, _, rfl, ⟨hE.1, hE.2.1, (fun _ => rfl)⟩, fun h => (hP h).below hb, fun h => own_below0 (hG h) hb, btr hO hb, Nat.le_trans hBW hb.size, fun _ => rfl, fun _ => rfl, h2.out, h3.out, h4.out, h5.out, h6.out, h7.out, h8.out, h9.out, h10.out, h11.out, fun h h2 => by obtain ⟨q, q1, q2⟩ := h12.out h h2; exact ⟨q, q1, q2.below hb⟩, fun h h2 => own_below0 (h13.out h h2) hb, h14.out, (fun h => by obtain ⟨v2, q1, q2⟩ := h15.out h; exact ⟨v2, q1.below hb, own_below0 q2 hb⟩)⟩
    | 2, _ =>
      obtain ⟨ty, ps, af, ho⟩ := op_lit hops (i := 2) (op := Op.fieldAddr 28 (Operand.tmp 1) 2) (dst := some 31) (g := none) rfl
      refine wpOp_lit ho (fun j b h => by cases h) ?_
      clear hops hdep ho
      replace h0 := hidH h0
      replace h1 := hidH h1
      replace h3 := hidH h3
      replace h4 := hidH h4
      replace h5 := hidH h5
      replace h6 := hidH h6
      replace h7 := hidH h7
      replace h8 := hidH h8
      replace h9 := hidH h9
      replace h10 := hidH h10
      replace h11 := hidH h11
      replace h12 := hidH h12
      replace h13 := hidH h13
      replace h14 := hidH h14
      replace h15 := hidH h15
      go_wp2
      exact (HJ.out _ _ _).2 ⟨_, _, _, _, _, _, _, _, _, _, _, _, _, _, _, rfl, hE, hP, hG, hO, hBW, h0.out, h1.out, fun _ => rfl, h3.out, h4.out, h5.out, h6.out, h7.out, h8.out, h9.out, h10.out, h11.out, h12.out, h13.out, h14.out, h15.out⟩
    | 3, _ =>
      obtain ⟨ty, ps, af, ho⟩ := op_lit hops (i := 3) (op := Op.load 22 (Operand.tmp 31)) (dst := some 32) (g := none) rfl
      obtain rfl := h2 (hdep 2 (by simp))
      refine wpOp_lit ho (fun j b h => by cases h) ?_
      clear hops hdep ho
      replace h0 := hidH h0
      replace h1 := hidH h1
      replace h2 := hidH h2
      replace h4 := hidH h4
      replace h5 := hidH h5
      replace h6 := hidH h6
      replace h7 := hidH h7
      replace h8 := hidH h8
      replace h9 := hidH h9
      replace h10 := hidH h10
      replace h11 := hidH h11
      replace h12 := hidH h12
      replace h13 := hidH h13
      replace h14 := hidH h14
      replace h15 := hidH h15
      have hb := Below.refl W.heap.size W
      have q1 := (hO.cell (p := ⟨k, 2, none⟩) hkl).trans hk2
      go_wp2
      exact (HJ.out _ _ _).2 ⟨_, _, _, _, _, _, _, _, _, _, _, _, _, _, _, rfl, hE, fun h => (hP h).below hb, fun h => own_below0 (hG h) hb, btr hO hb, Nat.le_trans hBW hb.size, h0.out, h1.out, fun _ => rfl, fun _ => rfl, h4.out, h5.out, h6.out, h7.out, h8.out, h9.out, h10.out, h11.out, fun h h2 => by obtain ⟨q, q1, q2⟩ := h12.out h h2; exact ⟨q, q1, q2.below hb⟩, fun h h2 => own_below0 (h13.out h h2) hb, h14.out, (fun h => by obtain ⟨v2, q1, q2⟩ := h15.out h; exact ⟨v2, q1.below hb, own_below0 q2 hb⟩)⟩
    | 4, _ =>
      obtain ⟨ty, ps, af, ho⟩ := op_lit hops (i := 4) (op := Op.move (Operand.tmp 5)) (dst := some 33) (g := none) rfl
      refine wpOp_lit ho (fun j b h => by cases h) ?_
      clear hops hdep ho
      replace h0 := hidH h0
      replace h1 := hidH h1
      replace h2 := hidH h2
      replace h3 := hidH h3
      replace h5 := hidH h5
      replace h6 := hidH h6
      replace h7 := hidH h7
      replace h8 := hidH h8
      replace h9 := hidH h9
      replace h10 := hidH h10
      replace h11 := hidH h11
      replace h12 := hidH h12
      replace h13 := hidH h13
      replace h14 := hidH h14
      replace h15 := hidH h15
      go_wp2
      exact (HJ.out _ _ _).2 ⟨_, _, _, _, _, _, _, _, _, _, _, _, _, _, _, rfl, hE, hP, hG, hO, hBW, h0.out, h1.out, h2.out, h3.out, fun _ => rfl, h5.out, h6.out, h7.out, h8.out, h9.out, h10.out, h11.out, h12.out, h13.out, h14.out, h15.out⟩
    | 5, _ =>
      obtain ⟨ty, ps, af, ho⟩ := op_lit hops (i := 5) (op := Op.call { callee := Callee.value (Operand.func 82), args := #[(Operand.tmp 32), (Operand.tmp 33)], argTypes := #[22, 2] }) (dst := some 34) (g := none) rfl
      obtain rfl := h3 (hdep 3 (by simp))
      obtain rfl := h4 (hdep 4 (by simp))
      refine wpOp_lit ho (fun j b h => by cases h) ?_
      clear hops hdep ho
      replace h0 := hidH h0
      replace h1 := hidH h1
      replace h2 := hidH h2
      replace h3 := hidH h3
      replace h4 := hidH h4
      replace h6 := hidH h6
      replace h7 := hidH h7
      replace h8 := hidH h8
      replace h9 := hidH h9
      replace h10 := hidH h10
      replace h11 := hidH h11
      replace h12 := hidH h12
      replace h13 := hidH h13
      replace h14 := hidH h14
      replace h15 := hidH h15
      go_wp2_with fail
      refine (CH0 _ hO).mono ?_
      rintro e w1 ⟨rfl, hb⟩
      go_wp2
      exact (HJ.out _ _ _).2 ⟨_, _, _, _, _, _, _, _, _, _, _, _, _, _, _, rfl, hE, fun h => (hP h).below hb, fun h => own_below0 (hG h) hb, btr hO hb, Nat.le_trans hBW hb.size, h0.out, h1.out, h2.out, fun _ => rfl, fun _ => rfl, fun _ => rfl, h6.out, h7.out, h8.out, h9.out, h10.out, h11.out, fun h h2 => by obtain ⟨q, q1, q2⟩ := h12.out h h2; exact ⟨q, q1, q2.below hb⟩, fun h h2 => own_below0 (h13.out h h2) hb, h14.out, (fun h => by obtain ⟨v2, q1, q2⟩ := h15.out h; exact ⟨v2, q1.below hb, own_below0 q2 hb⟩)⟩
    | 6, _ =>
      obtain ⟨ty, ps, af, ho⟩ := op_lit hops (i := 6) (op := Op.fieldAddr 28 (Operand.tmp 1) 2) (dst := some 35) (g := none) rfl
      refine wpOp_lit ho (fun j b h => by cases h) ?_
      clear hops hdep ho
      replace h0 := hidH h0
      replace h1 := hidH h1
      replace h2 := hidH h2
      replace h3 := hidH h3
      replace h4 := hidH h4
      replace h5 := hidH h5
      replace h7 := hidH h7
      replace h8 := hidH h8
      replace h9 := hidH h9
      replace h10 := hidH h10
      replace h11 := hidH h11
      replace h12 := hidH h12
      replace h13 := hidH h13
      replace h14 := hidH h14
      replace h15 := hidH h15
      go_wp2
      exact (HJ.out _ _ _).2 ⟨_, _, _, _, _, _, _, _, _, _, _, _, _, _, _, rfl, hE, hP, hG, hO, hBW, h0.out, h1.out, h2.out, h3.out, h4.out, h5.out, fun _ => rfl, h7.out, h8.out, h9.out, h10.out, h11.out, h12.out, h13.out, h14.out, h15.out⟩
    | 7, _ =>
      obtain ⟨ty, ps, af, ho⟩ := op_lit hops (i := 7) (op := Op.load 22 (Operand.tmp 35)) (dst := some 36) (g := none) rfl
      obtain rfl := h6 (hdep 6 (by simp))
      refine wpOp_lit ho (fun j b h => by cases h) ?_
      clear hops hdep ho
      replace h0 := hidH h0
      replace h1 := hidH h1
      replace h2 := hidH h2
      replace h3 := hidH h3
      replace h4 := hidH h4
      replace h5 := hidH h5
      replace h6 := hidH h6
      replace h8 := hidH h8
      replace h9 := hidH h9
      replace h10 := hidH h10
      replace h11 := hidH h11
      replace h12 := hidH h12
      replace h13 := hidH h13
      replace h14 := hidH h14
      replace h15 := hidH h15
      have hb := Below.refl W.heap.size W
      have q1 := (hO.cell (p := ⟨k, 2, none⟩) hkl).trans hk2
      go_wp2
      exact (HJ.out _ _ _).2 ⟨_, _, _, _, _, _, _, _, _, _, _, _, _, _, _, rfl, hE, fun h => (hP h).below hb, fun h => own_below0 (hG h) hb, btr hO hb, Nat.le_trans hBW hb.size, h0.out, h1.out, h2.out, h3.out, h4.out, h5.out, fun _ => rfl, fun _ => rfl, h8.out, h9.out, h10.out, h11.out, fun h h2 => by obtain ⟨q, q1, q2⟩ := h12.out h h2; exact ⟨q, q1, q2.below hb⟩, fun h h2 => own_below0 (h13.out h h2) hb, h14.out, (fun h => by obtain ⟨v2, q1, q2⟩ := h15.out h; exact ⟨v2, q1.below hb, own_below0 q2 hb⟩)⟩
    | 8, _ =>
      obtain ⟨ty, ps, af, ho⟩ := op_lit hops (i := 8) (op := Op.move (Operand.tmp 5)) (dst := some 37) (g := none) rfl
      refine wpOp_lit ho (fun j b h => by cases h) ?_
      clear hops hdep ho
      replace h0 := hidH h0
      replace h1 := hidH h1
      replace h2 := hidH h2
      replace h3 := hidH h3
      replace h4 := hidH h4
      replace h5 := hidH h5
      replace h6 := hidH h6
      replace h7 := hidH h7
      replace h9 := hidH h9
      replace h10 := hidH h10
      replace h11 := hidH h11
      replace h12 := hidH h12
      replace h13 := hidH h13
      replace h14 := hidH h14
      replace h15 := hidH h15
      go_wp2
      exact (HJ.out _ _ _).2 ⟨_, _, _, _, _, _, _, _, _, _, _, _, _, _, _, rfl, hE, hP, hG, hO, hBW, h0.out, h1.out, h2.out, h3.out, h4.out, h5.out, h6.out, h7.out, fun _ => rfl, h9.out, h10.out, h11.out, h12.out, h13.out, h14.out, h15.out⟩
    | 9, _ =>
      obtain ⟨ty, ps, af, ho⟩ := op_lit hops (i := 9) (op := Op.binOp BinOp.add 2 (Operand.tmp 37) ((Operand.const (Value.int .i64 2))) 2) (dst := some 38) (g := none) rfl
      obtain rfl := h8 (hdep 8 (by simp))
      refine wpOp_lit ho (fun j b h => by cases h) ?_
      clear hops hdep ho
      replace h0 := hidH h0
      replace h1 := hidH h1
      replace h2 := hidH h2
      replace h3 := hidH h3
      replace h4 := hidH h4
      replace h5 := hidH h5
      replace h6 := hidH h6
      replace h7 := hidH h7
      replace h8 := hidH h8
      replace h10 := hidH h10
      replace h11 := hidH h11
      replace h12 := hidH h12
      replace h13 := hidH h13
      replace h14 := hidH h14
      replace h15 := hidH h15
      go_wp2
      exact (HJ.out _ _ _).2 ⟨_, _, _, _, _, _, _, _, _, _, _, _, _, _, _, rfl, hE, hP, hG, hO, hBW, h0.out, h1.out, h2.out, h3.out, h4.out, h5.out, h6.out, h7.out, fun _ => rfl, fun _ => rfl, h10.out, h11.out, h12.out, h13.out, h14.out, h15.out⟩
    | 10, _ =>
      obtain ⟨ty, ps, af, ho⟩ := op_lit hops (i := 10) (op := Op.call { callee := Callee.value (Operand.func 82), args := #[(Operand.tmp 36), (Operand.tmp 38)], argTypes := #[22, 2] }) (dst := some 39) (g := none) rfl
      obtain rfl := h7 (hdep 7 (by simp))
      obtain rfl := h9 (hdep 9 (by simp))
      refine wpOp_lit ho (fun j b h => by cases h) ?_
      clear hops hdep ho
      replace h0 := hidH h0
      replace h1 := hidH h1
      replace h2 := hidH h2
      replace h3 := hidH h3
      replace h4 := hidH h4
      replace h5 := hidH h5
      replace h6 := hidH h6
      replace h7 := hidH h7
      replace h8 := hidH h8
      replace h9 := hidH h9
      replace h11 := hidH h11
      replace h12 := hidH h12
      replace h13 := hidH h13
      replace h14 := hidH h14
      replace h15 := hidH h15
      go_wp2_with fail
      refine (CH1 _ hO).mono ?_
      rintro e w1 ⟨rfl, hb⟩
      go_wp2
      exact (HJ.out _ _ _).2 ⟨_, _, _, _, _, _, _, _, _, _, _, _, _, _, _, rfl, hE, fun h => (hP h).below hb, fun h => own_below0 (hG h) hb, btr hO hb, Nat.le_trans hBW hb.size, h0.out, h1.out, h2.out, h3.out, h4.out, h5.out, h6.out, fun _ => rfl, h8.out, fun _ => rfl, fun _ => rfl, h11.out, fun h h2 => by obtain ⟨q, q1, q2⟩ := h12.out h h2; exact ⟨q, q1, q2.below hb⟩, fun h h2 => own_below0 (h13.out h h2) hb, h14.out, (fun h => by obtain ⟨v2, q1, q2⟩ := h15.out h; exact ⟨v2, q1.below hb, own_below0 q2 hb⟩)⟩
    | 11, _ =>
      obtain ⟨ty, ps, af, ho⟩ := op_lit hops (i := 11) (op := Op.build 52 #[(0, (Operand.tmp 34)), (1, (Operand.tmp 39))]) (dst := some 40) (g := none) rfl
      obtain rfl := h5 (hdep 5 (by simp))
      obtain rfl := h10 (hdep 10 (by simp))
      refine wpOp_lit ho (fun j b h => by cases h) ?_
      clear hops hdep ho
      replace h0 := hidH h0
      replace h1 := hidH h1
      replace h2 := hidH h2
      replace h3 := hidH h3
      replace h4 := hidH h4
      replace h5 := hidH h5
      replace h6 := hidH h6
      replace h7 := hidH h7
      replace h8 := hidH h8
      replace h9 := hidH h9
      replace h10 := hidH h10
      replace h12 := hidH h12
      replace h13 := hidH h13
      replace h14 := hidH h14
      replace h15 := hidH h15
      go_wp2
      exact (HJ.out _ _ _).2 ⟨_, _, _, _, _, _, _, _, _, _, _, _, _, _, _, rfl, hE, hP, hG, hO, hBW, h0.out, h1.out, h2.out, h3.out, h4.out, fun _ => rfl, h6.out, h7.out, h8.out, h9.out, fun _ => rfl, fun _ => rfl, h12.out, h13.out, h14.out, h15.out⟩
    | 12, _ =>
      obtain ⟨ty, ps, af, ho⟩ := op_lit hops (i := 12) (op := Op.buildSlice 32 1 #[(0, (Operand.tmp 40))]) (dst := some 41) (g := none) rfl
      obtain rfl := h11 (hdep 11 (by simp))
      refine wpOp_lit ho (fun j b h => by cases h) ?_
      clear hops hdep ho
      replace h0 := hidH h0
      replace h1 := hidH h1
      replace h2 := hidH h2
      replace h3 := hidH h3
      replace h4 := hidH h4
      replace h5 := hidH h5
      replace h6 := hidH h6
      replace h7 := hidH h7
      replace h8 := hidH h8
      replace h9 := hidH h9
      replace h10 := hidH h10
      replace h11 := hidH h11
      replace h13 := hidH h13
      replace h14 := hidH h14
      replace h15 := hidH h15
      have hb := bal (Below.refl W.heap.size W) (.cells #[.int .i64 z0, .int .i64 z1] 52)
      have KQ := hidH (Blk.new W 52 #[.int .i64 z0, .int .i64 z1])
      go_wp2
      exact (HJ.out _ _ _).2 ⟨_, _, _, _, _, _, _, _, _, _, _, _, _, _, _, rfl, ⟨hE.1, (fun _ => rfl), hE.2.2⟩, fun h => (hP h).below hb, fun h => own_below0 (hG h) hb, btr hO hb, Nat.le_trans hBW hb.size, h0.out, h1.out, h2.out, h3.out, h4.out, h5.out, h6.out, h7.out, h8.out, h9.out, h10.out, fun _ => rfl, fun _ => fun _ => ⟨_, rfl, KQ.out⟩, fun h h2 => own_below0 (h13.out h h2) hb, h14.out, (fun h => by obtain ⟨v2, q1, q2⟩ := h15.out h; exact ⟨v2, q1.below hb, own_below0 q2 hb⟩)⟩
    | 13, _ =>
      obtain ⟨ty, ps, af, ho⟩ := op_lit hops (i := 13) (op := Op.call { callee := Callee.builtin Builtin.append, args := #[(Operand.tmp 30), (Operand.tmp 41)], argTypes := #[32, 32] }) (dst := some 42) (g := none) rfl
      have hd12 := hidH (hdep 12 (by simp))
      have hd1 := hidH (hdep 1 (by simp))
      obtain ⟨q, rfl, kq⟩ := h12 (hdep 12 (by simp)) hdn
      obtain rfl := h1 (hdep 1 (by simp))
      refine wpOp_lit ho (fun j b h => by cases h) ?_
      clear hops hdep ho
      replace h0 := hidH h0
      replace h1 := hidH h1
      replace h2 := hidH h2
      replace h3 := hidH h3
      replace h4 := hidH h4
      replace h5 := hidH h5
      replace h6 := hidH h6
      replace h7 := hidH h7
      replace h8 := hidH h8
      replace h9 := hidH h9
      replace h10 := hidH h10
      replace h11 := hidH h11
      replace h12 := hidH h12
      replace h14 := hidH h14
      replace h15 := hidH h15
      have gk := hidH (hG hdn)
      have hBW2 := hBW
      go_wp2_with (at_builtin; go_loud (refine wpList_append_Gap rfl _ _ rfl B _ n xs0 rfl gk.out q _ z0 z1 rfl kq hnn hBW2 ?_))
      intro v6 w6 o6 hg
      have hb := (Below.refl B W).grown hg hBW2 (fun x hx => (gk.out.lt x hx).1)
      have O6 := hidH o6
      clear o6 hg
      go_wp2
      exact (HJ.out _ _ _).2 ⟨_, _, _, _, _, _, _, _, _, _, _, _, _, _, _, rfl, ⟨(fun _ => rfl), (fun _ => hd12.out), (fun _ => hd1.out)⟩, (fun h => (hb.block g hgB).trans (hP h)), (fun h2 => by simp at h2), hO.trans (hb.mono hwB), Nat.le_trans hBW hb.size, h0.out, fun _ => rfl, h2.out, h3.out, h4.out, h5.out, h6.out, h7.out, h8.out, h9.out, h10.out, h11.out, (fun _ h2 => by simp at h2), fun _ => fun _ => O6.out, h14.out, (fun h => by have h3 : dn 13 = true := hE.1 h; rw [hdn] at h3; cases h3)⟩
    | 14, _ =>
      obtain ⟨ty, ps, af, ho⟩ := op_lit hops (i := 14) (op := Op.fieldAddr 34 (Operand.tmp 4) 1) (dst := some 43) (g := none) rfl
      refine wpOp_lit ho (fun j b h => by cases h) ?_
      clear hops hdep ho
      replace h0 := hidH h0
      replace h1 := hidH h1
      replace h2 := hidH h2
      replace h3 := hidH h3
      replace h4 := hidH h4
      replace h5 := hidH h5
      replace h6 := hidH h6
      replace h7 := hidH h7
      replace h8 := hidH h8
      replace h9 := hidH h9
      replace h10 := hidH h10
      replace h11 := hidH h11
      replace h12 := hidH h12
      replace h13 := hidH h13
      replace h15 := hidH h15
      go_wp2
      exact (HJ.out _ _ _).2 ⟨_, _, _, _, _, _, _, _, _, _, _, _, _, _, _, rfl, hE, hP, hG, hO, hBW, h0.out, h1.out, h2.out, h3.out, h4.out, h5.out, h6.out, h7.out, h8.out, h9.out, h10.out, h11.out, h12.out, h13.out, fun _ => rfl, h15.out⟩
    | 15, _ =>
      obtain ⟨ty, ps, af, ho⟩ := op_lit hops (i := 15) (op := Op.store 32 (Operand.tmp 43) (Operand.tmp 42)) (dst := none) (g := none) rfl
      have hd13 := hidH (hdep 13 (by simp))
      have o8 := h13 (hdep 13 (by simp)) hdn
      obtain ⟨A6, n6, c6, rfl⟩ := own_sliceE o8
      replace h13 := hidH h13
      obtain rfl := h14 (hdep 14 (by simp))
      refine wpOp_lit ho (fun j b h => by cases h) ?_
      clear hops hdep ho
      replace h0 := hidH h0
      replace h1 := hidH h1
      replace h2 := hidH h2
      replace h3 := hidH h3
      replace h4 := hidH h4
      replace h5 := hidH h5
      replace h6 := hidH h6
      replace h7 := hidH h7
      replace h8 := hidH h8
      replace h9 := hidH h9
      replace h10 := hidH h10
      replace h11 := hidH h11
      replace h12 := hidH h12
      replace h13 := hidH h13
      replace h14 := hidH h14
      have kp := hP hdn
      have x1 := kp.cell 1
      simp only [List.getElem?_toArray, List.getElem?_cons_succ, List.getElem?_cons_zero] at x1
      have f1 := kp.frozen 1
      have hlt := kp.lt
      have KS := hidH (show Blk (W.setCell ⟨g, 1, none⟩ (.slice A6 n6 c6)) g 34 #[.int .i64 tag, .slice A6 n6 c6] from kp.put 1 _)
      have O7 := hidH (own_farE o8 hgB 1 (.slice A6 n6 c6))
      clear o8
      go_wp2
      exact (HJ.out _ _ _).2 ⟨_, _, _, _, _, _, _, _, _, _, _, _, _, _, _, rfl, ⟨(fun _ => hd13.out), hE.2⟩, (fun h2 => by simp at h2), (fun h2 => by have h3 : dn 13 = false := h2; rw [hd13.out] at h3; cases h3), (bst hO hgw _), (by simpa [World.setCell] using hBW), h0.out, h1.out, h2.out, h3.out, h4.out, h5.out, h6.out, h7.out, h8.out, h9.out, h10.out, h11.out, (fun _ h2 => by have h3 : dn 13 = false := h2; rw [hd13.out] at h3; cases h3), (fun _ h2 => by simp at h2), fun _ => rfl, fun _ => ⟨_, KS.out, O7.out⟩⟩
    | n + 16, h => omega
  case fin =>
    clear hops hdeps hback
    rintro dn ac W hJ hall
    obtain ⟨t29, t30, t31, t32, t33, t34, t35, t36, t37, t38, t39, t40, t41, t42, t43, rfl, hE, hP, hG, hO, hBW, h0, h1, h2, h3, h4, h5, h6, h7, h8, h9, h10, h11, h12, h13, h14, h15⟩ := (HJ.out _ _ _).1 hJ
    exact fin _ _ _ _ _ _ _ _ _ _ _ _ _ _ _ W hO hBW (h15 (hall 15 (by omega)))
end Go.Proofs.YtjjileefdjjijaaDoor
