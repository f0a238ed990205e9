/- The region of the program's sameData. -/
import Derived.Test.YthljdikcpdokdaaM8
import Derived.Test.YthljdikcpdokdaaUniR
import Derived.Test.YthljdikcpdokdaaImB
import Derived.Test.YthljdikcpdokdaaIpD
import Derived.Test.YthljdikcpdokdaaRegInv
namespace Go.Proofs.Ythljdikcpdokdaa
open Go.RowKit Go.Deep

set_option maxRecDepth 100000 in
set_option maxHeartbeats 1000000 in
theorem regSD {Q : Exit → Act → World → Prop} (ww : World) (x y : DataM) (A B : Option Addr) (ca cb g k : Nat) (zx zy : Int) (f0 : (x.Tsn == y.Tsn) = true) (f1 : (x.Stream == y.Stream) = true) (f2 : (x.Seq == y.Seq) = true) (fz : (zx == zy) = true)
    (FX : ∀ u : World, Calls Try.prog 159 #[.agg #[.int .i64 x.Tsn, .int .i64 x.Stream, .int .i64 x.Seq, .bool x.First, .bool x.Last, .bool x.Unordered, .slice A x.Piece.length ca]] u (fun e w' => e = .returned (.int .i64 zx) ∧ Below u.heap.size u w'))
    (FY : ∀ u : World, Calls Try.prog 159 #[.agg #[.int .i64 y.Tsn, .int .i64 y.Stream, .int .i64 y.Seq, .bool y.First, .bool y.Last, .bool y.Unordered, .slice B y.Piece.length cb]] u (fun e w' => e = .returned (.int .i64 zy) ∧ Below u.heap.size u w')) (d : Bool)
    (BE : ∀ u : World, Below ww.heap.size ww u → Calls Try.prog 160 #[.slice A x.Piece.length ca, .slice B y.Piece.length cb] u (fun e w' => e = .returned (.bool d) ∧ Below u.heap.size u w')) {ops : Array Oper}
    (hops : (ops.map fun o => (o.op, o.dst, o.guard)) = #[(Op.fieldAddr 69 (Operand.tmp 2) 0, some 5, none), (Op.load 2 (Operand.tmp 5), some 6, none), (Op.fieldAddr 69 (Operand.tmp 3) 0, some 7, none), (Op.load 2 (Operand.tmp 7), some 8, none), (Op.binOp BinOp.eql 2 (Operand.tmp 6) (Operand.tmp 8) 2, some 9, none), (Op.move (Operand.tmp 9), some 10, none), (Op.fieldAddr 69 (Operand.tmp 2) 1, some 11, some (5, true)), (Op.load 2 (Operand.tmp 11), some 12, some (5, true)), (Op.fieldAddr 69 (Operand.tmp 3) 1, some 13, some (5, true)), (Op.load 2 (Operand.tmp 13), some 14, some (5, true)), (Op.binOp BinOp.eql 2 (Operand.tmp 12) (Operand.tmp 14) 2, some 15, some (5, true)), (Op.pick (Operand.tmp 10) (Operand.tmp 15) (Operand.const (Value.bool false)), some 16, none), (Op.move (Operand.tmp 16), some 17, none), (Op.fieldAddr 69 (Operand.tmp 2) 2, some 18, some (12, true)), (Op.load 2 (Operand.tmp 18), some 19, some (12, true)), (Op.fieldAddr 69 (Operand.tmp 3) 2, some 20, some (12, true)), (Op.load 2 (Operand.tmp 20), some 21, some (12, true)), (Op.binOp BinOp.eql 2 (Operand.tmp 19) (Operand.tmp 21) 2, some 22, some (12, true)), (Op.pick (Operand.tmp 17) (Operand.tmp 22) (Operand.const (Value.bool false)), some 23, none), (Op.move (Operand.tmp 23), some 24, none), (Op.load 69 (Operand.tmp 2), some 25, some (19, true)), (Op.call { callee := Callee.value (Operand.func 159), args := #[(Operand.tmp 25)], argTypes := #[69] }, some 26, some (19, true)), (Op.load 69 (Operand.tmp 3), some 27, some (19, true)), (Op.call { callee := Callee.value (Operand.func 159), args := #[(Operand.tmp 27)], argTypes := #[69] }, some 28, some (19, true)), (Op.binOp BinOp.eql 2 (Operand.tmp 26) (Operand.tmp 28) 2, some 29, some (19, true)), (Op.pick (Operand.tmp 24) (Operand.tmp 29) (Operand.const (Value.bool false)), some 30, none), (Op.move (Operand.tmp 30), some 31, none), (Op.fieldAddr 69 (Operand.tmp 2) 6, some 32, some (26, true)), (Op.load 22 (Operand.tmp 32), some 33, some (26, true)), (Op.fieldAddr 69 (Operand.tmp 3) 6, some 34, some (26, true)), (Op.load 22 (Operand.tmp 34), some 35, some (26, true)), (Op.call { callee := Callee.value (Operand.func 160), args := #[(Operand.tmp 33), (Operand.tmp 35)], argTypes := #[22, 22] }, some 36, some (26, true)), (Op.pick (Operand.tmp 31) (Operand.tmp 36) (Operand.const (Value.bool false)), some 37, none), (Op.assign (Operand.tmp 37), some 4, none)])
    (hdeps : ((List.range 34).all fun i => ((fun i => [[], [0], [], [2], [1, 3], [4], [5], [5, 6], [5], [5, 8], [5, 7, 9], [5, 10], [11], [12], [12, 13], [12], [12, 15], [12, 14, 16], [12, 17], [18], [19], [19, 20], [19], [19, 22], [19, 21, 23], [19, 24], [25], [26], [26, 27], [26], [26, 29], [26, 28, 30], [26, 31], [32]].getD i []) i).all fun j => ((ops[i]?).map fun o => o.after.any fun e => Region.binds .any e && e.on == j).getD false) = true)
    (hback : ((List.range 34).all fun i => ((ops[i]?).map fun o => o.after.all fun e => decide (e.on < i)).getD false) = true)
    {a0 : Act} {w0 : World} (ha : a0 = { tmps := #[.agg #[.int .i64 x.Tsn, .int .i64 x.Stream, .int .i64 x.Seq, .bool x.First, .bool x.Last, .bool x.Unordered, .slice A x.Piece.length ca], .agg #[.int .i64 y.Tsn, .int .i64 y.Stream, .int .i64 y.Seq, .bool y.First, .bool y.Last, .bool y.Unordered, .slice B y.Piece.length cb], .pointer (some ⟨g, 0, none⟩), .pointer (some ⟨k, 0, none⟩), .bool false, undef, undef, undef, undef, undef, undef, undef, undef, undef, undef, undef, undef, undef, undef, undef, undef, undef, undef, undef, undef, undef, undef, undef, undef, undef, undef, undef, undef, undef, undef, undef, undef, undef], defers := [] }) (hG : Blk w0 g 69 #[.int .i64 x.Tsn, .int .i64 x.Stream, .int .i64 x.Seq, .bool x.First, .bool x.Last, .bool x.Unordered, .slice A x.Piece.length ca]) (hK : Blk w0 k 69 #[.int .i64 y.Tsn, .int .i64 y.Stream, .int .i64 y.Seq, .bool y.First, .bool y.Last, .bool y.Unordered, .slice B y.Piece.length cb]) (hO : Below ww.heap.size ww w0)
    (fin : ∀ t5 t6 t7 t8 t9 t10 t11 t12 t13 t14 t15 t16 t17 t18 t19 t20 t21 t22 t23 t24 t25 t26 t27 t28 t29 t30 t31 t32 t33 t34 t35 t36 t37 (W : World), (Below ww.heap.size ww W) → Q .normal { tmps := #[.agg #[.int .i64 x.Tsn, .int .i64 x.Stream, .int .i64 x.Seq, .bool x.First, .bool x.Last, .bool x.Unordered, .slice A x.Piece.length ca], .agg #[.int .i64 y.Tsn, .int .i64 y.Stream, .int .i64 y.Seq, .bool y.First, .bool y.Last, .bool y.Unordered, .slice B y.Piece.length cb], .pointer (some ⟨g, 0, none⟩), .pointer (some ⟨k, 0, none⟩), .bool d, t5, t6, t7, t8, t9, t10, t11, t12, t13, t14, t15, t16, t17, t18, t19, t20, t21, t22, t23, t24, t25, t26, t27, t28, t29, t30, t31, t32, t33, t34, t35, t36, t37], defers := [] } W) :
    wpAny Try.prog .any ops Q ops.size (Array.replicate ops.size false) a0 w0 := by
  have hn : ops.size = 34 := by have := congrArg Array.size hops; simpa using this
  obtain ⟨J, HJ⟩ : ∃ J : (Nat → Bool) → Act → World → Prop, ∀ dn ac W, J dn ac W ↔ (fun dn ac W => ∃ t5 t6 t7 t8 t9 t10 t11 t12 t13 t14 t15 t16 t17 t18 t19 t20 t21 t22 t23 t24 t25 t26 t27 t28 t29 t30 t31 t32 t33 t34 t35 t36 t37 t4, ac = { tmps := #[.agg #[.int .i64 x.Tsn, .int .i64 x.Stream, .int .i64 x.Seq, .bool x.First, .bool x.Last, .bool x.Unordered, .slice A x.Piece.length ca], .agg #[.int .i64 y.Tsn, .int .i64 y.Stream, .int .i64 y.Seq, .bool y.First, .bool y.Last, .bool y.Unordered, .slice B y.Piece.length cb], .pointer (some ⟨g, 0, none⟩), .pointer (some ⟨k, 0, none⟩), t4, t5, t6, t7, t8, t9, t10, t11, t12, t13, t14, t15, t16, t17, t18, t19, t20, t21, t22, t23, t24, t25, t26, t27, t28, t29, t30, t31, t32, t33, t34, t35, t36, t37], defers := [] } ∧ (Blk W g 69 #[.int .i64 x.Tsn, .int .i64 x.Stream, .int .i64 x.Seq, .bool x.First, .bool x.Last, .bool x.Unordered, .slice A x.Piece.length ca]) ∧ (Blk W k 69 #[.int .i64 y.Tsn, .int .i64 y.Stream, .int .i64 y.Seq, .bool y.First, .bool y.Last, .bool y.Unordered, .slice B y.Piece.length cb]) ∧ (Below ww.heap.size ww W) ∧ (dn 33 = false → t4 = .bool false) ∧ (dn 0 = true → t5 = .pointer (some ⟨g, 0, none⟩)) ∧ (dn 1 = true → t6 = .int .i64 x.Tsn) ∧ (dn 2 = true → t7 = .pointer (some ⟨k, 0, none⟩)) ∧ (dn 3 = true → t8 = .int .i64 y.Tsn) ∧ (dn 4 = true → t9 = .bool true) ∧ (dn 5 = true → t10 = .bool true) ∧ (dn 6 = true → t11 = .pointer (some ⟨g, 1, none⟩)) ∧ (dn 7 = true → t12 = .int .i64 x.Stream) ∧ (dn 8 = true → t13 = .pointer (some ⟨k, 1, none⟩)) ∧ (dn 9 = true → t14 = .int .i64 y.Stream) ∧ (dn 10 = true → t15 = .bool true) ∧ (dn 11 = true → t16 = .bool true) ∧ (dn 12 = true → t17 = .bool true) ∧ (dn 13 = true → t18 = .pointer (some ⟨g, 2, none⟩)) ∧ (dn 14 = true → t19 = .int .i64 x.Seq) ∧ (dn 15 = true → t20 = .pointer (some ⟨k, 2, none⟩)) ∧ (dn 16 = true → t21 = .int .i64 y.Seq) ∧ (dn 17 = true → t22 = .bool true) ∧ (dn 18 = true → t23 = .bool true) ∧ (dn 19 = true → t24 = .bool true) ∧ (dn 20 = true → t25 = .agg #[.int .i64 x.Tsn, .int .i64 x.Stream, .int .i64 x.Seq, .bool x.First, .bool x.Last, .bool x.Unordered, .slice A x.Piece.length ca]) ∧ (dn 21 = true → t26 = .int .i64 zx) ∧ (dn 22 = true → t27 = .agg #[.int .i64 y.Tsn, .int .i64 y.Stream, .int .i64 y.Seq, .bool y.First, .bool y.Last, .bool y.Unordered, .slice B y.Piece.length cb]) ∧ (dn 23 = true → t28 = .int .i64 zy) ∧ (dn 24 = true → t29 = .bool true) ∧ (dn 25 = true → t30 = .bool true) ∧ (dn 26 = true → t31 = .bool true) ∧ (dn 27 = true → t32 = .pointer (some ⟨g, 6, none⟩)) ∧ (dn 28 = true → t33 = .slice A x.Piece.length ca) ∧ (dn 29 = true → t34 = .pointer (some ⟨k, 6, none⟩)) ∧ (dn 30 = true → t35 = .slice B y.Piece.length cb) ∧ (dn 31 = true → t36 = .bool d) ∧ (dn 32 = true → t37 = .bool d) ∧ (dn 33 = true → t4 = .bool d)) dn ac W := ⟨_, fun _ _ _ => Iff.rfl⟩
  replace HJ := hidH HJ
  refine region_inv 34 (fun i => [[], [0], [], [2], [1, 3], [4], [5], [5, 6], [5], [5, 8], [5, 7, 9], [5, 10], [11], [12], [12, 13], [12], [12, 15], [12, 14, 16], [12, 17], [18], [19], [19, 20], [19], [19, 22], [19, 21, 23], [19, 24], [25], [26], [26, 27], [26], [26, 29], [26, 28, 30], [26, 31], [32]].getD i []) J hn hdeps hback ?start ?step ?fin
  case start => exact (HJ.out _ _ _).2 ⟨undef, undef, undef, undef, undef, undef, undef, undef, undef, undef, undef, undef, undef, undef, undef, undef, undef, undef, undef, undef, undef, undef, undef, undef, undef, undef, undef, undef, undef, undef, undef, undef, undef, .bool false, ha, hG, hK, hO, fun _ => rfl, fun h => by simp at h, fun h => by simp at h, fun h => by simp at h, fun h => by simp at h, fun h => by simp at h, fun h => by simp at h, fun h => by simp at h, fun h => by simp at h, fun h => by simp at h, fun h => by simp at h, fun h => by simp at h, fun h => by simp at h, fun h => by simp at h, fun h => by simp at h, fun h => by simp at h, fun h => by simp at h, fun h => by simp at h, fun h => by simp at h, fun h => by simp at h, fun h => by simp at h, fun h => by simp at h, fun h => by simp at h, fun h => by simp at h, fun h => by simp at h, fun h => by simp at h, fun h => by simp at h, fun h => by simp at h, fun h => by simp at h, fun h => by simp at h, fun h => by simp at h, fun h => by simp at h, fun h => by simp at h, fun h => by simp at h, fun h => by simp at h⟩
  all_goals clear ha hG hK hO
  case step =>
    clear fin hdeps hback
    intro i hi dn ac W hJ hdn hdep
    obtain ⟨t5, t6, t7, t8, t9, t10, t11, t12, t13, t14, t15, t16, t17, t18, t19, t20, t21, t22, t23, t24, t25, t26, t27, t28, t29, t30, t31, t32, t33, t34, t35, t36, t37, t4, rfl, hG, hK, hO, o33, h0, h1, h2, h3, h4, h5, h6, h7, h8, h9, h10, h11, h12, h13, h14, h15, h16, h17, h18, h19, h20, h21, h22, h23, h24, h25, h26, h27, h28, h29, h30, h31, h32, h33⟩ := (HJ.out _ _ _).1 hJ
    clear hJ
    match i, hi with
    | 0, _ =>
      obtain ⟨ty, ps, af, ho⟩ := op_lit hops (i := 0) (op := Op.fieldAddr 69 (Operand.tmp 2) 0) (dst := some 5) (g := none) rfl
      refine wpOp_lit ho (fun j b h => by cases h) ?_
      clear hops hdep ho
      replace h1 := hidH h1
      replace h2 := hidH h2
      replace h3 := hidH h3
      replace h4 := hidH h4
      replace h5 := hidH h5
      replace h6 := hidH h6
      replace h7 := hidH h7
      replace h8 := hidH h8
      replace h9 := hidH h9
      replace h10 := hidH h10
      replace h11 := hidH h11
      replace h12 := hidH h12
      replace h13 := hidH h13
      replace h14 := hidH h14
      replace h15 := hidH h15
      replace h16 := hidH h16
      replace h17 := hidH h17
      replace h18 := hidH h18
      replace h19 := hidH h19
      replace h20 := hidH h20
      replace h21 := hidH h21
      replace h22 := hidH h22
      replace h23 := hidH h23
      replace h24 := hidH h24
      replace h25 := hidH h25
      replace h26 := hidH h26
      replace h27 := hidH h27
      replace h28 := hidH h28
      replace h29 := hidH h29
      replace h30 := hidH h30
      replace h31 := hidH h31
      replace h32 := hidH h32
      replace h33 := hidH h33
      replace o33 := hidH o33
      go_wp2
      exact (HJ.out _ _ _).2 ⟨_, _, _, _, _, _, _, _, _, _, _, _, _, _, _, _, _, _, _, _, _, _, _, _, _, _, _, _, _, _, _, _, _, _, rfl, hG, hK, hO, o33.out, fun _ => rfl, h1.out, h2.out, h3.out, h4.out, h5.out, h6.out, h7.out, h8.out, h9.out, h10.out, h11.out, h12.out, h13.out, h14.out, h15.out, h16.out, h17.out, h18.out, h19.out, h20.out, h21.out, h22.out, h23.out, h24.out, h25.out, h26.out, h27.out, h28.out, h29.out, h30.out, h31.out, h32.out, h33.out⟩
    | 1, _ =>
      obtain ⟨ty, ps, af, ho⟩ := op_lit hops (i := 1) (op := Op.load 2 (Operand.tmp 5)) (dst := some 6) (g := none) rfl
      obtain rfl := h0 (hdep 0 (by simp))
      refine wpOp_lit ho (fun j b h => by cases h) ?_
      clear hops hdep ho
      replace h0 := hidH h0
      replace h2 := hidH h2
      replace h3 := hidH h3
      replace h4 := hidH h4
      replace h5 := hidH h5
      replace h6 := hidH h6
      replace h7 := hidH h7
      replace h8 := hidH h8
      replace h9 := hidH h9
      replace h10 := hidH h10
      replace h11 := hidH h11
      replace h12 := hidH h12
      replace h13 := hidH h13
      replace h14 := hidH h14
      replace h15 := hidH h15
      replace h16 := hidH h16
      replace h17 := hidH h17
      replace h18 := hidH h18
      replace h19 := hidH h19
      replace h20 := hidH h20
      replace h21 := hidH h21
      replace h22 := hidH h22
      replace h23 := hidH h23
      replace h24 := hidH h24
      replace h25 := hidH h25
      replace h26 := hidH h26
      replace h27 := hidH h27
      replace h28 := hidH h28
      replace h29 := hidH h29
      replace h30 := hidH h30
      replace h31 := hidH h31
      replace h32 := hidH h32
      replace h33 := hidH h33
      replace o33 := hidH o33
      have q0 := hG.cell 0
      simp only [List.getElem?_toArray, List.getElem?_cons_zero] at q0
      go_wp2
      exact (HJ.out _ _ _).2 ⟨_, _, _, _, _, _, _, _, _, _, _, _, _, _, _, _, _, _, _, _, _, _, _, _, _, _, _, _, _, _, _, _, _, _, rfl, hG, hK, hO, o33.out, fun _ => rfl, fun _ => rfl, h2.out, h3.out, h4.out, h5.out, h6.out, h7.out, h8.out, h9.out, h10.out, h11.out, h12.out, h13.out, h14.out, h15.out, h16.out, h17.out, h18.out, h19.out, h20.out, h21.out, h22.out, h23.out, h24.out, h25.out, h26.out, h27.out, h28.out, h29.out, h30.out, h31.out, h32.out, h33.out⟩
    | 2, _ =>
      obtain ⟨ty, ps, af, ho⟩ := op_lit hops (i := 2) (op := Op.fieldAddr 69 (Operand.tmp 3) 0) (dst := some 7) (g := none) rfl
      refine wpOp_lit ho (fun j b h => by cases h) ?_
      clear hops hdep ho
      replace h0 := hidH h0
      replace h1 := hidH h1
      replace h3 := hidH h3
      replace h4 := hidH h4
      replace h5 := hidH h5
      replace h6 := hidH h6
      replace h7 := hidH h7
      replace h8 := hidH h8
      replace h9 := hidH h9
      replace h10 := hidH h10
      replace h11 := hidH h11
      replace h12 := hidH h12
      replace h13 := hidH h13
      replace h14 := hidH h14
      replace h15 := hidH h15
      replace h16 := hidH h16
      replace h17 := hidH h17
      replace h18 := hidH h18
      replace h19 := hidH h19
      replace h20 := hidH h20
      replace h21 := hidH h21
      replace h22 := hidH h22
      replace h23 := hidH h23
      replace h24 := hidH h24
      replace h25 := hidH h25
      replace h26 := hidH h26
      replace h27 := hidH h27
      replace h28 := hidH h28
      replace h29 := hidH h29
      replace h30 := hidH h30
      replace h31 := hidH h31
      replace h32 := hidH h32
      replace h33 := hidH h33
      replace o33 := hidH o33
      go_wp2
      exact (HJ.out _ _ _).2 ⟨_, _, _, _, _, _, _, _, _, _, _, _, _, _, _, _, _, _, _, _, _, _, _, _, _, _, _, _, _, _, _, _, _, _, rfl, hG, hK, hO, o33.out, h0.out, h1.out, fun _ => rfl, h3.out, h4.out, h5.out, h6.out, h7.out, h8.out, h9.out, h10.out, h11.out, h12.out, h13.out, h14.out, h15.out, h16.out, h17.out, h18.out, h19.out, h20.out, h21.out, h22.out, h23.out, h24.out, h25.out, h26.out, h27.out, h28.out, h29.out, h30.out, h31.out, h32.out, h33.out⟩
    | 3, _ =>
      obtain ⟨ty, ps, af, ho⟩ := op_lit hops (i := 3) (op := Op.load 2 (Operand.tmp 7)) (dst := some 8) (g := none) rfl
      obtain rfl := h2 (hdep 2 (by simp))
      refine wpOp_lit ho (fun j b h => by cases h) ?_
      clear hops hdep ho
      replace h0 := hidH h0
      replace h1 := hidH h1
      replace h2 := hidH h2
      replace h4 := hidH h4
      replace h5 := hidH h5
      replace h6 := hidH h6
      replace h7 := hidH h7
      replace h8 := hidH h8
      replace h9 := hidH h9
      replace h10 := hidH h10
      replace h11 := hidH h11
      replace h12 := hidH h12
      replace h13 := hidH h13
      replace h14 := hidH h14
      replace h15 := hidH h15
      replace h16 := hidH h16
      replace h17 := hidH h17
      replace h18 := hidH h18
      replace h19 := hidH h19
      replace h20 := hidH h20
      replace h21 := hidH h21
      replace h22 := hidH h22
      replace h23 := hidH h23
      replace h24 := hidH h24
      replace h25 := hidH h25
      replace h26 := hidH h26
      replace h27 := hidH h27
      replace h28 := hidH h28
      replace h29 := hidH h29
      replace h30 := hidH h30
      replace h31 := hidH h31
      replace h32 := hidH h32
      replace h33 := hidH h33
      replace o33 := hidH o33
      have q0 := hK.cell 0
      simp only [List.getElem?_toArray, List.getElem?_cons_zero] at q0
      go_wp2
      exact (HJ.out _ _ _).2 ⟨_, _, _, _, _, _, _, _, _, _, _, _, _, _, _, _, _, _, _, _, _, _, _, _, _, _, _, _, _, _, _, _, _, _, rfl, hG, hK, hO, o33.out, h0.out, h1.out, fun _ => rfl, fun _ => rfl, h4.out, h5.out, h6.out, h7.out, h8.out, h9.out, h10.out, h11.out, h12.out, h13.out, h14.out, h15.out, h16.out, h17.out, h18.out, h19.out, h20.out, h21.out, h22.out, h23.out, h24.out, h25.out, h26.out, h27.out, h28.out, h29.out, h30.out, h31.out, h32.out, h33.out⟩
    | 4, _ =>
      obtain ⟨ty, ps, af, ho⟩ := op_lit hops (i := 4) (op := Op.binOp BinOp.eql 2 (Operand.tmp 6) (Operand.tmp 8) 2) (dst := some 9) (g := none) rfl
      obtain rfl := h1 (hdep 1 (by simp))
      obtain rfl := h3 (hdep 3 (by simp))
      refine wpOp_lit ho (fun j b h => by cases h) ?_
      clear hops hdep ho
      replace h0 := hidH h0
      replace h1 := hidH h1
      replace h2 := hidH h2
      replace h3 := hidH h3
      replace h5 := hidH h5
      replace h6 := hidH h6
      replace h7 := hidH h7
      replace h8 := hidH h8
      replace h9 := hidH h9
      replace h10 := hidH h10
      replace h11 := hidH h11
      replace h12 := hidH h12
      replace h13 := hidH h13
      replace h14 := hidH h14
      replace h15 := hidH h15
      replace h16 := hidH h16
      replace h17 := hidH h17
      replace h18 := hidH h18
      replace h19 := hidH h19
      replace h20 := hidH h20
      replace h21 := hidH h21
      replace h22 := hidH h22
      replace h23 := hidH h23
      replace h24 := hidH h24
      replace h25 := hidH h25
      replace h26 := hidH h26
      replace h27 := hidH h27
      replace h28 := hidH h28
      replace h29 := hidH h29
      replace h30 := hidH h30
      replace h31 := hidH h31
      replace h32 := hidH h32
      replace h33 := hidH h33
      replace o33 := hidH o33
      have f := f0
      go_wp2
      exact (HJ.out _ _ _).2 ⟨_, _, _, _, _, _, _, _, _, _, _, _, _, _, _, _, _, _, _, _, _, _, _, _, _, _, _, _, _, _, _, _, _, _, rfl, hG, hK, hO, o33.out, h0.out, fun _ => rfl, h2.out, fun _ => rfl, fun _ => rfl, h5.out, h6.out, h7.out, h8.out, h9.out, h10.out, h11.out, h12.out, h13.out, h14.out, h15.out, h16.out, h17.out, h18.out, h19.out, h20.out, h21.out, h22.out, h23.out, h24.out, h25.out, h26.out, h27.out, h28.out, h29.out, h30.out, h31.out, h32.out, h33.out⟩
    | 5, _ =>
      obtain ⟨ty, ps, af, ho⟩ := op_lit hops (i := 5) (op := Op.move (Operand.tmp 9)) (dst := some 10) (g := none) rfl
      obtain rfl := h4 (hdep 4 (by simp))
      refine wpOp_lit ho (fun j b h => by cases h) ?_
      clear hops hdep ho
      replace h0 := hidH h0
      replace h1 := hidH h1
      replace h2 := hidH h2
      replace h3 := hidH h3
      replace h4 := hidH h4
      replace h6 := hidH h6
      replace h7 := hidH h7
      replace h8 := hidH h8
      replace h9 := hidH h9
      replace h10 := hidH h10
      replace h11 := hidH h11
      replace h12 := hidH h12
      replace h13 := hidH h13
      replace h14 := hidH h14
      replace h15 := hidH h15
      replace h16 := hidH h16
      replace h17 := hidH h17
      replace h18 := hidH h18
      replace h19 := hidH h19
      replace h20 := hidH h20
      replace h21 := hidH h21
      replace h22 := hidH h22
      replace h23 := hidH h23
      replace h24 := hidH h24
      replace h25 := hidH h25
      replace h26 := hidH h26
      replace h27 := hidH h27
      replace h28 := hidH h28
      replace h29 := hidH h29
      replace h30 := hidH h30
      replace h31 := hidH h31
      replace h32 := hidH h32
      replace h33 := hidH h33
      replace o33 := hidH o33
      go_wp2
      exact (HJ.out _ _ _).2 ⟨_, _, _, _, _, _, _, _, _, _, _, _, _, _, _, _, _, _, _, _, _, _, _, _, _, _, _, _, _, _, _, _, _, _, rfl, hG, hK, hO, o33.out, h0.out, h1.out, h2.out, h3.out, fun _ => rfl, fun _ => rfl, h6.out, h7.out, h8.out, h9.out, h10.out, h11.out, h12.out, h13.out, h14.out, h15.out, h16.out, h17.out, h18.out, h19.out, h20.out, h21.out, h22.out, h23.out, h24.out, h25.out, h26.out, h27.out, h28.out, h29.out, h30.out, h31.out, h32.out, h33.out⟩
    | 6, _ =>
      obtain ⟨ty, ps, af, ho⟩ := op_lit hops (i := 6) (op := Op.fieldAddr 69 (Operand.tmp 2) 1) (dst := some 11) (g := some (5, true)) rfl
      obtain rfl := h5 (hdep 5 (by simp))
      have hy := fun tmps ht => yielded_lit hops (i := 5) (op := Op.move (Operand.tmp 9)) (t := 10) (g := none) rfl tmps true ht
      refine wpOp_lit ho (fun j b h => by cases h; exact hy _ rfl) ?_
      clear hops hdep ho hy
      replace h0 := hidH h0
      replace h1 := hidH h1
      replace h2 := hidH h2
      replace h3 := hidH h3
      replace h4 := hidH h4
      replace h5 := hidH h5
      replace h7 := hidH h7
      replace h8 := hidH h8
      replace h9 := hidH h9
      replace h10 := hidH h10
      replace h11 := hidH h11
      replace h12 := hidH h12
      replace h13 := hidH h13
      replace h14 := hidH h14
      replace h15 := hidH h15
      replace h16 := hidH h16
      replace h17 := hidH h17
      replace h18 := hidH h18
      replace h19 := hidH h19
      replace h20 := hidH h20
      replace h21 := hidH h21
      replace h22 := hidH h22
      replace h23 := hidH h23
      replace h24 := hidH h24
      replace h25 := hidH h25
      replace h26 := hidH h26
      replace h27 := hidH h27
      replace h28 := hidH h28
      replace h29 := hidH h29
      replace h30 := hidH h30
      replace h31 := hidH h31
      replace h32 := hidH h32
      replace h33 := hidH h33
      replace o33 := hidH o33
      go_wp2
      exact (HJ.out _ _ _).2 ⟨_, _, _, _, _, _, _, _, _, _, _, _, _, _, _, _, _, _, _, _, _, _, _, _, _, _, _, _, _, _, _, _, _, _, rfl, hG, hK, hO, o33.out, h0.out, h1.out, h2.out, h3.out, h4.out, fun _ => rfl, fun _ => rfl, h7.out, h8.out, h9.out, h10.out, h11.out, h12.out, h13.out, h14.out, h15.out, h16.out, h17.out, h18.out, h19.out, h20.out, h21.out, h22.out, h23.out, h24.out, h25.out, h26.out, h27.out, h28.out, h29.out, h30.out, h31.out, h32.out, h33.out⟩
    | 7, _ =>
      obtain ⟨ty, ps, af, ho⟩ := op_lit hops (i := 7) (op := Op.load 2 (Operand.tmp 11)) (dst := some 12) (g := some (5, true)) rfl
      obtain rfl := h5 (hdep 5 (by simp))
      have hy := fun tmps ht => yielded_lit hops (i := 5) (op := Op.move (Operand.tmp 9)) (t := 10) (g := none) rfl tmps true ht
      obtain rfl := h6 (hdep 6 (by simp))
      refine wpOp_lit ho (fun j b h => by cases h; exact hy _ rfl) ?_
      clear hops hdep ho hy
      replace h0 := hidH h0
      replace h1 := hidH h1
      replace h2 := hidH h2
      replace h3 := hidH h3
      replace h4 := hidH h4
      replace h5 := hidH h5
      replace h6 := hidH h6
      replace h8 := hidH h8
      replace h9 := hidH h9
      replace h10 := hidH h10
      replace h11 := hidH h11
      replace h12 := hidH h12
      replace h13 := hidH h13
      replace h14 := hidH h14
      replace h15 := hidH h15
      replace h16 := hidH h16
      replace h17 := hidH h17
      replace h18 := hidH h18
      replace h19 := hidH h19
      replace h20 := hidH h20
      replace h21 := hidH h21
      replace h22 := hidH h22
      replace h23 := hidH h23
      replace h24 := hidH h24
      replace h25 := hidH h25
      replace h26 := hidH h26
      replace h27 := hidH h27
      replace h28 := hidH h28
      replace h29 := hidH h29
      replace h30 := hidH h30
      replace h31 := hidH h31
      replace h32 := hidH h32
      replace h33 := hidH h33
      replace o33 := hidH o33
      have q1 := hG.cell 1
      simp only [List.getElem?_toArray, List.getElem?_cons_succ, List.getElem?_cons_zero] at q1
      go_wp2
      exact (HJ.out _ _ _).2 ⟨_, _, _, _, _, _, _, _, _, _, _, _, _, _, _, _, _, _, _, _, _, _, _, _, _, _, _, _, _, _, _, _, _, _, rfl, hG, hK, hO, o33.out, h0.out, h1.out, h2.out, h3.out, h4.out, fun _ => rfl, fun _ => rfl, fun _ => rfl, h8.out, h9.out, h10.out, h11.out, h12.out, h13.out, h14.out, h15.out, h16.out, h17.out, h18.out, h19.out, h20.out, h21.out, h22.out, h23.out, h24.out, h25.out, h26.out, h27.out, h28.out, h29.out, h30.out, h31.out, h32.out, h33.out⟩
    | 8, _ =>
      obtain ⟨ty, ps, af, ho⟩ := op_lit hops (i := 8) (op := Op.fieldAddr 69 (Operand.tmp 3) 1) (dst := some 13) (g := some (5, true)) rfl
      obtain rfl := h5 (hdep 5 (by simp))
      have hy := fun tmps ht => yielded_lit hops (i := 5) (op := Op.move (Operand.tmp 9)) (t := 10) (g := none) rfl tmps true ht
      refine wpOp_lit ho (fun j b h => by cases h; exact hy _ rfl) ?_
      clear hops hdep ho hy
      replace h0 := hidH h0
      replace h1 := hidH h1
      replace h2 := hidH h2
      replace h3 := hidH h3
      replace h4 := hidH h4
      replace h5 := hidH h5
      replace h6 := hidH h6
      replace h7 := hidH h7
      replace h9 := hidH h9
      replace h10 := hidH h10
      replace h11 := hidH h11
      replace h12 := hidH h12
      replace h13 := hidH h13
      replace h14 := hidH h14
      replace h15 := hidH h15
      replace h16 := hidH h16
      replace h17 := hidH h17
      replace h18 := hidH h18
      replace h19 := hidH h19
      replace h20 := hidH h20
      replace h21 := hidH h21
      replace h22 := hidH h22
      replace h23 := hidH h23
      replace h24 := hidH h24
      replace h25 := hidH h25
      replace h26 := hidH h26
      replace h27 := hidH h27
      replace h28 := hidH h28
      replace h29 := hidH h29
      replace h30 := hidH h30
      replace h31 := hidH h31
      replace h32 := hidH h32
      replace h33 := hidH h33
      replace o33 := hidH o33
      go_wp2
      exact (HJ.out _ _ _).2 ⟨_, _, _, _, _, _, _, _, _, _, _, _, _, _, _, _, _, _, _, _, _, _, _, _, _, _, _, _, _, _, _, _, _, _, rfl, hG, hK, hO, o33.out, h0.out, h1.out, h2.out, h3.out, h4.out, fun _ => rfl, h6.out, h7.out, fun _ => rfl, h9.out, h10.out, h11.out, h12.out, h13.out, h14.out, h15.out, h16.out, h17.out, h18.out, h19.out, h20.out, h21.out, h22.out, h23.out, h24.out, h25.out, h26.out, h27.out, h28.out, h29.out, h30.out, h31.out, h32.out, h33.out⟩
    | 9, _ =>
      obtain ⟨ty, ps, af, ho⟩ := op_lit hops (i := 9) (op := Op.load 2 (Operand.tmp 13)) (dst := some 14) (g := some (5, true)) rfl
      obtain rfl := h5 (hdep 5 (by simp))
      have hy := fun tmps ht => yielded_lit hops (i := 5) (op := Op.move (Operand.tmp 9)) (t := 10) (g := none) rfl tmps true ht
      obtain rfl := h8 (hdep 8 (by simp))
      refine wpOp_lit ho (fun j b h => by cases h; exact hy _ rfl) ?_
      clear hops hdep ho hy
      replace h0 := hidH h0
      replace h1 := hidH h1
      replace h2 := hidH h2
      replace h3 := hidH h3
      replace h4 := hidH h4
      replace h5 := hidH h5
      replace h6 := hidH h6
      replace h7 := hidH h7
      replace h8 := hidH h8
      replace h10 := hidH h10
      replace h11 := hidH h11
      replace h12 := hidH h12
      replace h13 := hidH h13
      replace h14 := hidH h14
      replace h15 := hidH h15
      replace h16 := hidH h16
      replace h17 := hidH h17
      replace h18 := hidH h18
      replace h19 := hidH h19
      replace h20 := hidH h20
      replace h21 := hidH h21
      replace h22 := hidH h22
      replace h23 := hidH h23
      replace h24 := hidH h24
      replace h25 := hidH h25
      replace h26 := hidH h26
      replace h27 := hidH h27
      replace h28 := hidH h28
      replace h29 := hidH h29
      replace h30 := hidH h30
      replace h31 := hidH h31
      replace h32 := hidH h32
      replace h33 := hidH h33
      replace o33 := hidH o33
      have q1 := hK.cell 1
      simp only [List.getElem?_toArray, List.getElem?_cons_succ, List.getElem?_cons_zero] at q1
      go_wp2
      exact (HJ.out _ _ _).2 ⟨_, _, _, _, _, _, _, _, _, _, _, _, _, _, _, _, _, _, _, _, _, _, _, _, _, _, _, _, _, _, _, _, _, _, rfl, hG, hK, hO, o33.out, h0.out, h1.out, h2.out, h3.out, h4.out, fun _ => rfl, h6.out, h7.out, fun _ => rfl, fun _ => rfl, h10.out, h11.out, h12.out, h13.out, h14.out, h15.out, h16.out, h17.out, h18.out, h19.out, h20.out, h21.out, h22.out, h23.out, h24.out, h25.out, h26.out, h27.out, h28.out, h29.out, h30.out, h31.out, h32.out, h33.out⟩
    | 10, _ =>
      obtain ⟨ty, ps, af, ho⟩ := op_lit hops (i := 10) (op := Op.binOp BinOp.eql 2 (Operand.tmp 12) (Operand.tmp 14) 2) (dst := some 15) (g := some (5, true)) rfl
      obtain rfl := h5 (hdep 5 (by simp))
      have hy := fun tmps ht => yielded_lit hops (i := 5) (op := Op.move (Operand.tmp 9)) (t := 10) (g := none) rfl tmps true ht
      obtain rfl := h7 (hdep 7 (by simp))
      obtain rfl := h9 (hdep 9 (by simp))
      refine wpOp_lit ho (fun j b h => by cases h; exact hy _ rfl) ?_
      clear hops hdep ho hy
      replace h0 := hidH h0
      replace h1 := hidH h1
      replace h2 := hidH h2
      replace h3 := hidH h3
      replace h4 := hidH h4
      replace h5 := hidH h5
      replace h6 := hidH h6
      replace h7 := hidH h7
      replace h8 := hidH h8
      replace h9 := hidH h9
      replace h11 := hidH h11
      replace h12 := hidH h12
      replace h13 := hidH h13
      replace h14 := hidH h14
      replace h15 := hidH h15
      replace h16 := hidH h16
      replace h17 := hidH h17
      replace h18 := hidH h18
      replace h19 := hidH h19
      replace h20 := hidH h20
      replace h21 := hidH h21
      replace h22 := hidH h22
      replace h23 := hidH h23
      replace h24 := hidH h24
      replace h25 := hidH h25
      replace h26 := hidH h26
      replace h27 := hidH h27
      replace h28 := hidH h28
      replace h29 := hidH h29
      replace h30 := hidH h30
      replace h31 := hidH h31
      replace h32 := hidH h32
      replace h33 := hidH h33
      replace o33 := hidH o33
      have f := f1
      go_wp2
      exact (HJ.out _ _ _).2 ⟨_, _, _, _, _, _, _, _, _, _, _, _, _, _, _, _, _, _, _, _, _, _, _, _, _, _, _, _, _, _, _, _, _, _, rfl, hG, hK, hO, o33.out, h0.out, h1.out, h2.out, h3.out, h4.out, fun _ => rfl, h6.out, fun _ => rfl, h8.out, fun _ => rfl, fun _ => rfl, h11.out, h12.out, h13.out, h14.out, h15.out, h16.out, h17.out, h18.out, h19.out, h20.out, h21.out, h22.out, h23.out, h24.out, h25.out, h26.out, h27.out, h28.out, h29.out, h30.out, h31.out, h32.out, h33.out⟩
    | 11, _ =>
      obtain ⟨ty, ps, af, ho⟩ := op_lit hops (i := 11) (op := Op.pick (Operand.tmp 10) (Operand.tmp 15) (Operand.const (Value.bool false))) (dst := some 16) (g := none) rfl
      obtain rfl := h5 (hdep 5 (by simp))
      obtain rfl := h10 (hdep 10 (by simp))
      refine wpOp_lit ho (fun j b h => by cases h) ?_
      clear hops hdep ho
      replace h0 := hidH h0
      replace h1 := hidH h1
      replace h2 := hidH h2
      replace h3 := hidH h3
      replace h4 := hidH h4
      replace h5 := hidH h5
      replace h6 := hidH h6
      replace h7 := hidH h7
      replace h8 := hidH h8
      replace h9 := hidH h9
      replace h10 := hidH h10
      replace h12 := hidH h12
      replace h13 := hidH h13
      replace h14 := hidH h14
      replace h15 := hidH h15
      replace h16 := hidH h16
      replace h17 := hidH h17
      replace h18 := hidH h18
      replace h19 := hidH h19
      replace h20 := hidH h20
      replace h21 := hidH h21
      replace h22 := hidH h22
      replace h23 := hidH h23
      replace h24 := hidH h24
      replace h25 := hidH h25
      replace h26 := hidH h26
      replace h27 := hidH h27
      replace h28 := hidH h28
      replace h29 := hidH h29
      replace h30 := hidH h30
      replace h31 := hidH h31
      replace h32 := hidH h32
      replace h33 := hidH h33
      replace o33 := hidH o33
      go_wp2
      exact (HJ.out _ _ _).2 ⟨_, _, _, _, _, _, _, _, _, _, _, _, _, _, _, _, _, _, _, _, _, _, _, _, _, _, _, _, _, _, _, _, _, _, rfl, hG, hK, hO, o33.out, h0.out, h1.out, h2.out, h3.out, h4.out, fun _ => rfl, h6.out, h7.out, h8.out, h9.out, fun _ => rfl, fun _ => rfl, h12.out, h13.out, h14.out, h15.out, h16.out, h17.out, h18.out, h19.out, h20.out, h21.out, h22.out, h23.out, h24.out, h25.out, h26.out, h27.out, h28.out, h29.out, h30.out, h31.out, h32.out, h33.out⟩
    | 12, _ =>
      obtain ⟨ty, ps, af, ho⟩ := op_lit hops (i := 12) (op := Op.move (Operand.tmp 16)) (dst := some 17) (g := none) rfl
      obtain rfl := h11 (hdep 11 (by simp))
      refine wpOp_lit ho (fun j b h => by cases h) ?_
      clear hops hdep ho
      replace h0 := hidH h0
      replace h1 := hidH h1
      replace h2 := hidH h2
      replace h3 := hidH h3
      replace h4 := hidH h4
      replace h5 := hidH h5
      replace h6 := hidH h6
      replace h7 := hidH h7
      replace h8 := hidH h8
      replace h9 := hidH h9
      replace h10 := hidH h10
      replace h11 := hidH h11
      replace h13 := hidH h13
      replace h14 := hidH h14
      replace h15 := hidH h15
      replace h16 := hidH h16
      replace h17 := hidH h17
      replace h18 := hidH h18
      replace h19 := hidH h19
      replace h20 := hidH h20
      replace h21 := hidH h21
      replace h22 := hidH h22
      replace h23 := hidH h23
      replace h24 := hidH h24
      replace h25 := hidH h25
      replace h26 := hidH h26
      replace h27 := hidH h27
      replace h28 := hidH h28
      replace h29 := hidH h29
      replace h30 := hidH h30
      replace h31 := hidH h31
      replace h32 := hidH h32
      replace h33 := hidH h33
      replace o33 := hidH o33
      go_wp2
      exact (HJ.out _ _ _).2 ⟨_, _, _, _, _, _, _, _, _, _, _, _, _, _, _, _, _, _, _, _, _, _, _, _, _, _, _, _, _, _, _, _, _, _, rfl, hG, hK, hO, o33.out, h0.out, h1.out, h2.out, h3.out, h4.out, h5.out, h6.out, h7.out, h8.out, h9.out, h10.out, fun _ => rfl, fun _ => rfl, h13.out, h14.out, h15.out, h16.out, h17.out, h18.out, h19.out, h20.out, h21.out, h22.out, h23.out, h24.out, h25.out, h26.out, h27.out, h28.out, h29.out, h30.out, h31.out, h32.out, h33.out⟩
    | 13, _ =>
      obtain ⟨ty, ps, af, ho⟩ := op_lit hops (i := 13) (op := Op.fieldAddr 69 (Operand.tmp 2) 2) (dst := some 18) (g := some (12, true)) rfl
      obtain rfl := h12 (hdep 12 (by simp))
      have hy := fun tmps ht => yielded_lit hops (i := 12) (op := Op.move (Operand.tmp 16)) (t := 17) (g := none) rfl tmps true ht
      refine wpOp_lit ho (fun j b h => by cases h; exact hy _ rfl) ?_
      clear hops hdep ho hy
      replace h0 := hidH h0
      replace h1 := hidH h1
      replace h2 := hidH h2
      replace h3 := hidH h3
      replace h4 := hidH h4
      replace h5 := hidH h5
      replace h6 := hidH h6
      replace h7 := hidH h7
      replace h8 := hidH h8
      replace h9 := hidH h9
      replace h10 := hidH h10
      replace h11 := hidH h11
      replace h12 := hidH h12
      replace h14 := hidH h14
      replace h15 := hidH h15
      replace h16 := hidH h16
      replace h17 := hidH h17
      replace h18 := hidH h18
      replace h19 := hidH h19
      replace h20 := hidH h20
      replace h21 := hidH h21
      replace h22 := hidH h22
      replace h23 := hidH h23
      replace h24 := hidH h24
      replace h25 := hidH h25
      replace h26 := hidH h26
      replace h27 := hidH h27
      replace h28 := hidH h28
      replace h29 := hidH h29
      replace h30 := hidH h30
      replace h31 := hidH h31
      replace h32 := hidH h32
      replace h33 := hidH h33
      replace o33 := hidH o33
      go_wp2
      exact (HJ.out _ _ _).2 ⟨_, _, _, _, _, _, _, _, _, _, _, _, _, _, _, _, _, _, _, _, _, _, _, _, _, _, _, _, _, _, _, _, _, _, rfl, hG, hK, hO, o33.out, h0.out, h1.out, h2.out, h3.out, h4.out, h5.out, h6.out, h7.out, h8.out, h9.out, h10.out, h11.out, fun _ => rfl, fun _ => rfl, h14.out, h15.out, h16.out, h17.out, h18.out, h19.out, h20.out, h21.out, h22.out, h23.out, h24.out, h25.out, h26.out, h27.out, h28.out, h29.out, h30.out, h31.out, h32.out, h33.out⟩
    | 14, _ =>
      obtain ⟨ty, ps, af, ho⟩ := op_lit hops (i := 14) (op := Op.load 2 (Operand.tmp 18)) (dst := some 19) (g := some (12, true)) rfl
      obtain rfl := h12 (hdep 12 (by simp))
      have hy := fun tmps ht => yielded_lit hops (i := 12) (op := Op.move (Operand.tmp 16)) (t := 17) (g := none) rfl tmps true ht
      obtain rfl := h13 (hdep 13 (by simp))
      refine wpOp_lit ho (fun j b h => by cases h; exact hy _ rfl) ?_
      clear hops hdep ho hy
      replace h0 := hidH h0
      replace h1 := hidH h1
      replace h2 := hidH h2
      replace h3 := hidH h3
      replace h4 := hidH h4
      replace h5 := hidH h5
      replace h6 := hidH h6
      replace h7 := hidH h7
      replace h8 := hidH h8
      replace h9 := hidH h9
      replace h10 := hidH h10
      replace h11 := hidH h11
      replace h12 := hidH h12
      replace h13 := hidH h13
      replace h15 := hidH h15
      replace h16 := hidH h16
      replace h17 := hidH h17
      replace h18 := hidH h18
      replace h19 := hidH h19
      replace h20 := hidH h20
      replace h21 := hidH h21
      replace h22 := hidH h22
      replace h23 := hidH h23
      replace h24 := hidH h24
      replace h25 := hidH h25
      replace h26 := hidH h26
      replace h27 := hidH h27
      replace h28 := hidH h28
      replace h29 := hidH h29
      replace h30 := hidH h30
      replace h31 := hidH h31
      replace h32 := hidH h32
      replace h33 := hidH h33
      replace o33 := hidH o33
      have q2 := hG.cell 2
      simp only [List.getElem?_toArray, List.getElem?_cons_succ, List.getElem?_cons_zero] at q2
      go_wp2
      exact (HJ.out _ _ _).2 ⟨_, _, _, _, _, _, _, _, _, _, _, _, _, _, _, _, _, _, _, _, _, _, _, _, _, _, _, _, _, _, _, _, _, _, rfl, hG, hK, hO, o33.out, h0.out, h1.out, h2.out, h3.out, h4.out, h5.out, h6.out, h7.out, h8.out, h9.out, h10.out, h11.out, fun _ => rfl, fun _ => rfl, fun _ => rfl, h15.out, h16.out, h17.out, h18.out, h19.out, h20.out, h21.out, h22.out, h23.out, h24.out, h25.out, h26.out, h27.out, h28.out, h29.out, h30.out, h31.out, h32.out, h33.out⟩
    | 15, _ =>
      obtain ⟨ty, ps, af, ho⟩ := op_lit hops (i := 15) (op := Op.fieldAddr 69 (Operand.tmp 3) 2) (dst := some 20) (g := some (12, true)) rfl
      obtain rfl := h12 (hdep 12 (by simp))
      have hy := fun tmps ht => yielded_lit hops (i := 12) (op := Op.move (Operand.tmp 16)) (t := 17) (g := none) rfl tmps true ht
      refine wpOp_lit ho (fun j b h => by cases h; exact hy _ rfl) ?_
      clear hops hdep ho hy
      replace h0 := hidH h0
      replace h1 := hidH h1
      replace h2 := hidH h2
      replace h3 := hidH h3
      replace h4 := hidH h4
      replace h5 := hidH h5
      replace h6 := hidH h6
      replace h7 := hidH h7
      replace h8 := hidH h8
      replace h9 := hidH h9
      replace h10 := hidH h10
      replace h11 := hidH h11
      replace h12 := hidH h12
      replace h13 := hidH h13
      replace h14 := hidH h14
      replace h16 := hidH h16
      replace h17 := hidH h17
      replace h18 := hidH h18
      replace h19 := hidH h19
      replace h20 := hidH h20
      replace h21 := hidH h21
      replace h22 := hidH h22
      replace h23 := hidH h23
      replace h24 := hidH h24
      replace h25 := hidH h25
      replace h26 := hidH h26
      replace h27 := hidH h27
      replace h28 := hidH h28
      replace h29 := hidH h29
      replace h30 := hidH h30
      replace h31 := hidH h31
      replace h32 := hidH h32
      replace h33 := hidH h33
      replace o33 := hidH o33
      go_wp2
      exact (HJ.out _ _ _).2 ⟨_, _, _, _, _, _, _, _, _, _, _, _, _, _, _, _, _, _, _, _, _, _, _, _, _, _, _, _, _, _, _, _, _, _, rfl, hG, hK, hO, o33.out, h0.out, h1.out, h2.out, h3.out, h4.out, h5.out, h6.out, h7.out, h8.out, h9.out, h10.out, h11.out, fun _ => rfl, h13.out, h14.out, fun _ => rfl, h16.out, h17.out, h18.out, h19.out, h20.out, h21.out, h22.out, h23.out, h24.out, h25.out, h26.out, h27.out, h28.out, h29.out, h30.out, h31.out, h32.out, h33.out⟩
    | 16, _ =>
      obtain ⟨ty, ps, af, ho⟩ := op_lit hops (i := 16) (op := Op.load 2 (Operand.tmp 20)) (dst := some 21) (g := some (12, true)) rfl
      obtain rfl := h12 (hdep 12 (by simp))
      have hy := fun tmps ht => yielded_lit hops (i := 12) (op := Op.move (Operand.tmp 16)) (t := 17) (g := none) rfl tmps true ht
      obtain rfl := h15 (hdep 15 (by simp))
      refine wpOp_lit ho (fun j b h => by cases h; exact hy _ rfl) ?_
      clear hops hdep ho hy
      replace h0 := hidH h0
      replace h1 := hidH h1
      replace h2 := hidH h2
      replace h3 := hidH h3
      replace h4 := hidH h4
      replace h5 := hidH h5
      replace h6 := hidH h6
      replace h7 := hidH h7
      replace h8 := hidH h8
      replace h9 := hidH h9
      replace h10 := hidH h10
      replace h11 := hidH h11
      replace h12 := hidH h12
      replace h13 := hidH h13
      replace h14 := hidH h14
      replace h15 := hidH h15
      replace h17 := hidH h17
      replace h18 := hidH h18
      replace h19 := hidH h19
      replace h20 := hidH h20
      replace h21 := hidH h21
      replace h22 := hidH h22
      replace h23 := hidH h23
      replace h24 := hidH h24
      replace h25 := hidH h25
      replace h26 := hidH h26
      replace h27 := hidH h27
      replace h28 := hidH h28
      replace h29 := hidH h29
      replace h30 := hidH h30
      replace h31 := hidH h31
      replace h32 := hidH h32
      replace h33 := hidH h33
      replace o33 := hidH o33
      have q2 := hK.cell 2
      simp only [List.getElem?_toArray, List.getElem?_cons_succ, List.getElem?_cons_zero] at q2
      go_wp2
      exact (HJ.out _ _ _).2 ⟨_, _, _, _, _, _, _, _, _, _, _, _, _, _, _, _, _, _, _, _, _, _, _, _, _, _, _, _, _, _, _, _, _, _, rfl, hG, hK, hO, o33.out, h0.out, h1.out, h2.out, h3.out, h4.out, h5.out, h6.out, h7.out, h8.out, h9.out, h10.out, h11.out, fun _ => rfl, h13.out, h14.out, fun _ => rfl, fun _ => rfl, h17.out, h18.out, h19.out, h20.out, h21.out, h22.out, h23.out, h24.out, h25.out, h26.out, h27.out, h28.out, h29.out, h30.out, h31.out, h32.out, h33.out⟩
    | 17, _ =>
      obtain ⟨ty, ps, af, ho⟩ := op_lit hops (i := 17) (op := Op.binOp BinOp.eql 2 (Operand.tmp 19) (Operand.tmp 21) 2) (dst := some 22) (g := some (12, true)) rfl
      obtain rfl := h12 (hdep 12 (by simp))
      have hy := fun tmps ht => yielded_lit hops (i := 12) (op := Op.move (Operand.tmp 16)) (t := 17) (g := none) rfl tmps true ht
      obtain rfl := h14 (hdep 14 (by simp))
      obtain rfl := h16 (hdep 16 (by simp))
      refine wpOp_lit ho (fun j b h => by cases h; exact hy _ rfl) ?_
      clear hops hdep ho hy
      replace h0 := hidH h0
      replace h1 := hidH h1
      replace h2 := hidH h2
      replace h3 := hidH h3
      replace h4 := hidH h4
      replace h5 := hidH h5
      replace h6 := hidH h6
      replace h7 := hidH h7
      replace h8 := hidH h8
      replace h9 := hidH h9
      replace h10 := hidH h10
      replace h11 := hidH h11
      replace h12 := hidH h12
      replace h13 := hidH h13
      replace h14 := hidH h14
      replace h15 := hidH h15
      replace h16 := hidH h16
      replace h18 := hidH h18
      replace h19 := hidH h19
      replace h20 := hidH h20
      replace h21 := hidH h21
      replace h22 := hidH h22
      replace h23 := hidH h23
      replace h24 := hidH h24
      replace h25 := hidH h25
      replace h26 := hidH h26
      replace h27 := hidH h27
      replace h28 := hidH h28
      replace h29 := hidH h29
      replace h30 := hidH h30
      replace h31 := hidH h31
      replace h32 := hidH h32
      replace h33 := hidH h33
      replace o33 := hidH o33
      have f := f2
      go_wp2
      exact (HJ.out _ _ _).2 ⟨_, _, _, _, _, _, _, _, _, _, _, _, _, _, _, _, _, _, _, _, _, _, _, _, _, _, _, _, _, _, _, _, _, _, rfl, hG, hK, hO, o33.out, h0.out, h1.out, h2.out, h3.out, h4.out, h5.out, h6.out, h7.out, h8.out, h9.out, h10.out, h11.out, fun _ => rfl, h13.out, fun _ => rfl, h15.out, fun _ => rfl, fun _ => rfl, h18.out, h19.out, h20.out, h21.out, h22.out, h23.out, h24.out, h25.out, h26.out, h27.out, h28.out, h29.out, h30.out, h31.out, h32.out, h33.out⟩
    | 18, _ =>
      obtain ⟨ty, ps, af, ho⟩ := op_lit hops (i := 18) (op := Op.pick (Operand.tmp 17) (Operand.tmp 22) (Operand.const (Value.bool false))) (dst := some 23) (g := none) rfl
      obtain rfl := h12 (hdep 12 (by simp))
      obtain rfl := h17 (hdep 17 (by simp))
      refine wpOp_lit ho (fun j b h => by cases h) ?_
      clear hops hdep ho
      replace h0 := hidH h0
      replace h1 := hidH h1
      replace h2 := hidH h2
      replace h3 := hidH h3
      replace h4 := hidH h4
      replace h5 := hidH h5
      replace h6 := hidH h6
      replace h7 := hidH h7
      replace h8 := hidH h8
      replace h9 := hidH h9
      replace h10 := hidH h10
      replace h11 := hidH h11
      replace h12 := hidH h12
      replace h13 := hidH h13
      replace h14 := hidH h14
      replace h15 := hidH h15
      replace h16 := hidH h16
      replace h17 := hidH h17
      replace h19 := hidH h19
      replace h20 := hidH h20
      replace h21 := hidH h21
      replace h22 := hidH h22
      replace h23 := hidH h23
      replace h24 := hidH h24
      replace h25 := hidH h25
      replace h26 := hidH h26
      replace h27 := hidH h27
      replace h28 := hidH h28
      replace h29 := hidH h29
      replace h30 := hidH h30
      replace h31 := hidH h31
      replace h32 := hidH h32
      replace h33 := hidH h33
      replace o33 := hidH o33
      go_wp2
      exact (HJ.out _ _ _).2 ⟨_, _, _, _, _, _, _, _, _, _, _, _, _, _, _, _, _, _, _, _, _, _, _, _, _, _, _, _, _, _, _, _, _, _, rfl, hG, hK, hO, o33.out, h0.out, h1.out, h2.out, h3.out, h4.out, h5.out, h6.out, h7.out, h8.out, h9.out, h10.out, h11.out, fun _ => rfl, h13.out, h14.out, h15.out, h16.out, fun _ => rfl, fun _ => rfl, h19.out, h20.out, h21.out, h22.out, h23.out, h24.out, h25.out, h26.out, h27.out, h28.out, h29.out, h30.out, h31.out, h32.out, h33.out⟩
    | 19, _ =>
      obtain ⟨ty, ps, af, ho⟩ := op_lit hops (i := 19) (op := Op.move (Operand.tmp 23)) (dst := some 24) (g := none) rfl
      obtain rfl := h18 (hdep 18 (by simp))
      refine wpOp_lit ho (fun j b h => by cases h) ?_
      clear hops hdep ho
      replace h0 := hidH h0
      replace h1 := hidH h1
      replace h2 := hidH h2
      replace h3 := hidH h3
      replace h4 := hidH h4
      replace h5 := hidH h5
      replace h6 := hidH h6
      replace h7 := hidH h7
      replace h8 := hidH h8
      replace h9 := hidH h9
      replace h10 := hidH h10
      replace h11 := hidH h11
      replace h12 := hidH h12
      replace h13 := hidH h13
      replace h14 := hidH h14
      replace h15 := hidH h15
      replace h16 := hidH h16
      replace h17 := hidH h17
      replace h18 := hidH h18
      replace h20 := hidH h20
      replace h21 := hidH h21
      replace h22 := hidH h22
      replace h23 := hidH h23
      replace h24 := hidH h24
      replace h25 := hidH h25
      replace h26 := hidH h26
      replace h27 := hidH h27
      replace h28 := hidH h28
      replace h29 := hidH h29
      replace h30 := hidH h30
      replace h31 := hidH h31
      replace h32 := hidH h32
      replace h33 := hidH h33
      replace o33 := hidH o33
      go_wp2
      exact (HJ.out _ _ _).2 ⟨_, _, _, _, _, _, _, _, _, _, _, _, _, _, _, _, _, _, _, _, _, _, _, _, _, _, _, _, _, _, _, _, _, _, rfl, hG, hK, hO, o33.out, h0.out, h1.out, h2.out, h3.out, h4.out, h5.out, h6.out, h7.out, h8.out, h9.out, h10.out, h11.out, h12.out, h13.out, h14.out, h15.out, h16.out, h17.out, fun _ => rfl, fun _ => rfl, h20.out, h21.out, h22.out, h23.out, h24.out, h25.out, h26.out, h27.out, h28.out, h29.out, h30.out, h31.out, h32.out, h33.out⟩
    | 20, _ =>
      obtain ⟨ty, ps, af, ho⟩ := op_lit hops (i := 20) (op := Op.load 69 (Operand.tmp 2)) (dst := some 25) (g := some (19, true)) rfl
      obtain rfl := h19 (hdep 19 (by simp))
      have hy := fun tmps ht => yielded_lit hops (i := 19) (op := Op.move (Operand.tmp 23)) (t := 24) (g := none) rfl tmps true ht
      refine wpOp_lit ho (fun j b h => by cases h; exact hy _ rfl) ?_
      clear hops hdep ho hy
      replace h0 := hidH h0
      replace h1 := hidH h1
      replace h2 := hidH h2
      replace h3 := hidH h3
      replace h4 := hidH h4
      replace h5 := hidH h5
      replace h6 := hidH h6
      replace h7 := hidH h7
      replace h8 := hidH h8
      replace h9 := hidH h9
      replace h10 := hidH h10
      replace h11 := hidH h11
      replace h12 := hidH h12
      replace h13 := hidH h13
      replace h14 := hidH h14
      replace h15 := hidH h15
      replace h16 := hidH h16
      replace h17 := hidH h17
      replace h18 := hidH h18
      replace h19 := hidH h19
      replace h21 := hidH h21
      replace h22 := hidH h22
      replace h23 := hidH h23
      replace h24 := hidH h24
      replace h25 := hidH h25
      replace h26 := hidH h26
      replace h27 := hidH h27
      replace h28 := hidH h28
      replace h29 := hidH h29
      replace h30 := hidH h30
      replace h31 := hidH h31
      replace h32 := hidH h32
      replace h33 := hidH h33
      replace o33 := hidH o33
      have q0 := hG.cell 0
      have q1 := hG.cell 1
      have q2 := hG.cell 2
      have q3 := hG.cell 3
      have q4 := hG.cell 4
      have q5 := hG.cell 5
      have q6 := hG.cell 6
      simp only [List.getElem?_toArray, List.getElem?_cons_succ, List.getElem?_cons_zero] at q0 q1 q2 q3 q4 q5 q6
      go_wp2
      exact (HJ.out _ _ _).2 ⟨_, _, _, _, _, _, _, _, _, _, _, _, _, _, _, _, _, _, _, _, _, _, _, _, _, _, _, _, _, _, _, _, _, _, rfl, hG, hK, hO, o33.out, h0.out, h1.out, h2.out, h3.out, h4.out, h5.out, h6.out, h7.out, h8.out, h9.out, h10.out, h11.out, h12.out, h13.out, h14.out, h15.out, h16.out, h17.out, h18.out, fun _ => rfl, fun _ => rfl, h21.out, h22.out, h23.out, h24.out, h25.out, h26.out, h27.out, h28.out, h29.out, h30.out, h31.out, h32.out, h33.out⟩
    | 21, _ =>
      obtain ⟨ty, ps, af, ho⟩ := op_lit hops (i := 21) (op := Op.call { callee := Callee.value (Operand.func 159), args := #[(Operand.tmp 25)], argTypes := #[69] }) (dst := some 26) (g := some (19, true)) rfl
      obtain rfl := h19 (hdep 19 (by simp))
      have hy := fun tmps ht => yielded_lit hops (i := 19) (op := Op.move (Operand.tmp 23)) (t := 24) (g := none) rfl tmps true ht
      obtain rfl := h20 (hdep 20 (by simp))
      refine wpOp_lit ho (fun j b h => by cases h; exact hy _ rfl) ?_
      clear hops hdep ho hy
      replace h0 := hidH h0
      replace h1 := hidH h1
      replace h2 := hidH h2
      replace h3 := hidH h3
      replace h4 := hidH h4
      replace h5 := hidH h5
      replace h6 := hidH h6
      replace h7 := hidH h7
      replace h8 := hidH h8
      replace h9 := hidH h9
      replace h10 := hidH h10
      replace h11 := hidH h11
      replace h12 := hidH h12
      replace h13 := hidH h13
      replace h14 := hidH h14
      replace h15 := hidH h15
      replace h16 := hidH h16
      replace h17 := hidH h17
      replace h18 := hidH h18
      replace h19 := hidH h19
      replace h20 := hidH h20
      replace h22 := hidH h22
      replace h23 := hidH h23
      replace h24 := hidH h24
      replace h25 := hidH h25
      replace h26 := hidH h26
      replace h27 := hidH h27
      replace h28 := hidH h28
      replace h29 := hidH h29
      replace h30 := hidH h30
      replace h31 := hidH h31
      replace h32 := hidH h32
      replace h33 := hidH h33
      replace o33 := hidH o33
      go_wp2_with fail
      refine (FX W).mono ?_
      rintro e w9 ⟨rfl, hb⟩
      go_wp2
      exact (HJ.out _ _ _).2 ⟨_, _, _, _, _, _, _, _, _, _, _, _, _, _, _, _, _, _, _, _, _, _, _, _, _, _, _, _, _, _, _, _, _, _, rfl, hG.below hb, hK.below hb, btr hO hb, o33.out, h0.out, h1.out, h2.out, h3.out, h4.out, h5.out, h6.out, h7.out, h8.out, h9.out, h10.out, h11.out, h12.out, h13.out, h14.out, h15.out, h16.out, h17.out, h18.out, fun _ => rfl, fun _ => rfl, fun _ => rfl, h22.out, h23.out, h24.out, h25.out, h26.out, h27.out, h28.out, h29.out, h30.out, h31.out, h32.out, h33.out⟩
    | 22, _ =>
      obtain ⟨ty, ps, af, ho⟩ := op_lit hops (i := 22) (op := Op.load 69 (Operand.tmp 3)) (dst := some 27) (g := some (19, true)) rfl
      obtain rfl := h19 (hdep 19 (by simp))
      have hy := fun tmps ht => yielded_lit hops (i := 19) (op := Op.move (Operand.tmp 23)) (t := 24) (g := none) rfl tmps true ht
      refine wpOp_lit ho (fun j b h => by cases h; exact hy _ rfl) ?_
      clear hops hdep ho hy
      replace h0 := hidH h0
      replace h1 := hidH h1
      replace h2 := hidH h2
      replace h3 := hidH h3
      replace h4 := hidH h4
      replace h5 := hidH h5
      replace h6 := hidH h6
      replace h7 := hidH h7
      replace h8 := hidH h8
      replace h9 := hidH h9
      replace h10 := hidH h10
      replace h11 := hidH h11
      replace h12 := hidH h12
      replace h13 := hidH h13
      replace h14 := hidH h14
      replace h15 := hidH h15
      replace h16 := hidH h16
      replace h17 := hidH h17
      replace h18 := hidH h18
      replace h19 := hidH h19
      replace h20 := hidH h20
      replace h21 := hidH h21
      replace h23 := hidH h23
      replace h24 := hidH h24
      replace h25 := hidH h25
      replace h26 := hidH h26
      replace h27 := hidH h27
      replace h28 := hidH h28
      replace h29 := hidH h29
      replace h30 := hidH h30
      replace h31 := hidH h31
      replace h32 := hidH h32
      replace h33 := hidH h33
      replace o33 := hidH o33
      have q0 := hK.cell 0
      have q1 := hK.cell 1
      have q2 := hK.cell 2
      have q3 := hK.cell 3
      have q4 := hK.cell 4
      have q5 := hK.cell 5
      have q6 := hK.cell 6
      simp only [List.getElem?_toArray, List.getElem?_cons_succ, List.getElem?_cons_zero] at q0 q1 q2 q3 q4 q5 q6
      go_wp2
      exact (HJ.out _ _ _).2 ⟨_, _, _, _, _, _, _, _, _, _, _, _, _, _, _, _, _, _, _, _, _, _, _, _, _, _, _, _, _, _, _, _, _, _, rfl, hG, hK, hO, o33.out, h0.out, h1.out, h2.out, h3.out, h4.out, h5.out, h6.out, h7.out, h8.out, h9.out, h10.out, h11.out, h12.out, h13.out, h14.out, h15.out, h16.out, h17.out, h18.out, fun _ => rfl, h20.out, h21.out, fun _ => rfl, h23.out, h24.out, h25.out, h26.out, h27.out, h28.out, h29.out, h30.out, h31.out, h32.out, h33.out⟩
    | 23, _ =>
      obtain ⟨ty, ps, af, ho⟩ := op_lit hops (i := 23) (op := Op.call { callee := Callee.value (Operand.func 159), args := #[(Operand.tmp 27)], argTypes := #[69] }) (dst := some 28) (g := some (19, true)) rfl
      obtain rfl := h19 (hdep 19 (by simp))
      have hy := fun tmps ht => yielded_lit hops (i := 19) (op := Op.move (Operand.tmp 23)) (t := 24) (g := none) rfl tmps true ht
      obtain rfl := h22 (hdep 22 (by simp))
      refine wpOp_lit ho (fun j b h => by cases h; exact hy _ rfl) ?_
      clear hops hdep ho hy
      replace h0 := hidH h0
      replace h1 := hidH h1
      replace h2 := hidH h2
      replace h3 := hidH h3
      replace h4 := hidH h4
      replace h5 := hidH h5
      replace h6 := hidH h6
      replace h7 := hidH h7
      replace h8 := hidH h8
      replace h9 := hidH h9
      replace h10 := hidH h10
      replace h11 := hidH h11
      replace h12 := hidH h12
      replace h13 := hidH h13
      replace h14 := hidH h14
      replace h15 := hidH h15
      replace h16 := hidH h16
      replace h17 := hidH h17
      replace h18 := hidH h18
      replace h19 := hidH h19
      replace h20 := hidH h20
      replace h21 := hidH h21
      replace h22 := hidH h22
      replace h24 := hidH h24
      replace h25 := hidH h25
      replace h26 := hidH h26
      replace h27 := hidH h27
      replace h28 := hidH h28
      replace h29 := hidH h29
      replace h30 := hidH h30
      replace h31 := hidH h31
      replace h32 := hidH h32
      replace h33 := hidH h33
      replace o33 := hidH o33
      go_wp2_with fail
      refine (FY W).mono ?_
      rintro e w9 ⟨rfl, hb⟩
      go_wp2
      exact (HJ.out _ _ _).2 ⟨_, _, _, _, _, _, _, _, _, _, _, _, _, _, _, _, _, _, _, _, _, _, _, _, _, _, _, _, _, _, _, _, _, _, rfl, hG.below hb, hK.below hb, btr hO hb, o33.out, h0.out, h1.out, h2.out, h3.out, h4.out, h5.out, h6.out, h7.out, h8.out, h9.out, h10.out, h11.out, h12.out, h13.out, h14.out, h15.out, h16.out, h17.out, h18.out, fun _ => rfl, h20.out, h21.out, fun _ => rfl, fun _ => rfl, h24.out, h25.out, h26.out, h27.out, h28.out, h29.out, h30.out, h31.out, h32.out, h33.out⟩
    | 24, _ =>
      obtain ⟨ty, ps, af, ho⟩ := op_lit hops (i := 24) (op := Op.binOp BinOp.eql 2 (Operand.tmp 26) (Operand.tmp 28) 2) (dst := some 29) (g := some (19, true)) rfl
      obtain rfl := h19 (hdep 19 (by simp))
      have hy := fun tmps ht => yielded_lit hops (i := 19) (op := Op.move (Operand.tmp 23)) (t := 24) (g := none) rfl tmps true ht
      obtain rfl := h21 (hdep 21 (by simp))
      obtain rfl := h23 (hdep 23 (by simp))
      refine wpOp_lit ho (fun j b h => by cases h; exact hy _ rfl) ?_
      clear hops hdep ho hy
      replace h0 := hidH h0
      replace h1 := hidH h1
      replace h2 := hidH h2
      replace h3 := hidH h3
      replace h4 := hidH h4
      replace h5 := hidH h5
      replace h6 := hidH h6
      replace h7 := hidH h7
      replace h8 := hidH h8
      replace h9 := hidH h9
      replace h10 := hidH h10
      replace h11 := hidH h11
      replace h12 := hidH h12
      replace h13 := hidH h13
      replace h14 := hidH h14
      replace h15 := hidH h15
      replace h16 := hidH h16
      replace h17 := hidH h17
      replace h18 := hidH h18
      replace h19 := hidH h19
      replace h20 := hidH h20
      replace h21 := hidH h21
      replace h22 := hidH h22
      replace h23 := hidH h23
      replace h25 := hidH h25
      replace h26 := hidH h26
      replace h27 := hidH h27
      replace h28 := hidH h28
      replace h29 := hidH h29
      replace h30 := hidH h30
      replace h31 := hidH h31
      replace h32 := hidH h32
      replace h33 := hidH h33
      replace o33 := hidH o33
      have f := fz
      go_wp2
      exact (HJ.out _ _ _).2 ⟨_, _, _, _, _, _, _, _, _, _, _, _, _, _, _, _, _, _, _, _, _, _, _, _, _, _, _, _, _, _, _, _, _, _, rfl, hG, hK, hO, o33.out, h0.out, h1.out, h2.out, h3.out, h4.out, h5.out, h6.out, h7.out, h8.out, h9.out, h10.out, h11.out, h12.out, h13.out, h14.out, h15.out, h16.out, h17.out, h18.out, fun _ => rfl, h20.out, fun _ => rfl, h22.out, fun _ => rfl, fun _ => rfl, h25.out, h26.out, h27.out, h28.out, h29.out, h30.out, h31.out, h32.out, h33.out⟩
    | 25, _ =>
      obtain ⟨ty, ps, af, ho⟩ := op_lit hops (i := 25) (op := Op.pick (Operand.tmp 24) (Operand.tmp 29) (Operand.const (Value.bool false))) (dst := some 30) (g := none) rfl
      obtain rfl := h19 (hdep 19 (by simp))
      obtain rfl := h24 (hdep 24 (by simp))
      refine wpOp_lit ho (fun j b h => by cases h) ?_
      clear hops hdep ho
      replace h0 := hidH h0
      replace h1 := hidH h1
      replace h2 := hidH h2
      replace h3 := hidH h3
      replace h4 := hidH h4
      replace h5 := hidH h5
      replace h6 := hidH h6
      replace h7 := hidH h7
      replace h8 := hidH h8
      replace h9 := hidH h9
      replace h10 := hidH h10
      replace h11 := hidH h11
      replace h12 := hidH h12
      replace h13 := hidH h13
      replace h14 := hidH h14
      replace h15 := hidH h15
      replace h16 := hidH h16
      replace h17 := hidH h17
      replace h18 := hidH h18
      replace h19 := hidH h19
      replace h20 := hidH h20
      replace h21 := hidH h21
      replace h22 := hidH h22
      replace h23 := hidH h23
      replace h24 := hidH h24
      replace h26 := hidH h26
      replace h27 := hidH h27
      replace h28 := hidH h28
      replace h29 := hidH h29
      replace h30 := hidH h30
      replace h31 := hidH h31
      replace h32 := hidH h32
      replace h33 := hidH h33
      replace o33 := hidH o33
      go_wp2
      exact (HJ.out _ _ _).2 ⟨_, _, _, _, _, _, _, _, _, _, _, _, _, _, _, _, _, _, _, _, _, _, _, _, _, _, _, _, _, _, _, _, _, _, rfl, hG, hK, hO, o33.out, h0.out, h1.out, h2.out, h3.out, h4.out, h5.out, h6.out, h7.out, h8.out, h9.out, h10.out, h11.out, h12.out, h13.out, h14.out, h15.out, h16.out, h17.out, h18.out, fun _ => rfl, h20.out, h21.out, h22.out, h23.out, fun _ => rfl, fun _ => rfl, h26.out, h27.out, h28.out, h29.out, h30.out, h31.out, h32.out, h33.out⟩
    | 26, _ =>
      obtain ⟨ty, ps, af, ho⟩ := op_lit hops (i := 26) (op := Op.move (Operand.tmp 30)) (dst := some 31) (g := none) rfl
      obtain rfl := h25 (hdep 25 (by simp))
      refine wpOp_lit ho (fun j b h => by cases h) ?_
      clear hops hdep ho
      replace h0 := hidH h0
      replace h1 := hidH h1
      replace h2 := hidH h2
      replace h3 := hidH h3
      replace h4 := hidH h4
      replace h5 := hidH h5
      replace h6 := hidH h6
      replace h7 := hidH h7
      replace h8 := hidH h8
      replace h9 := hidH h9
      replace h10 := hidH h10
      replace h11 := hidH h11
      replace h12 := hidH h12
      replace h13 := hidH h13
      replace h14 := hidH h14
      replace h15 := hidH h15
      replace h16 := hidH h16
      replace h17 := hidH h17
      replace h18 := hidH h18
      replace h19 := hidH h19
      replace h20 := hidH h20
      replace h21 := hidH h21
      replace h22 := hidH h22
      replace h23 := hidH h23
      replace h24 := hidH h24
      replace h25 := hidH h25
      replace h27 := hidH h27
      replace h28 := hidH h28
      replace h29 := hidH h29
      replace h30 := hidH h30
      replace h31 := hidH h31
      replace h32 := hidH h32
      replace h33 := hidH h33
      replace o33 := hidH o33
      go_wp2
      exact (HJ.out _ _ _).2 ⟨_, _, _, _, _, _, _, _, _, _, _, _, _, _, _, _, _, _, _, _, _, _, _, _, _, _, _, _, _, _, _, _, _, _, rfl, hG, hK, hO, o33.out, h0.out, h1.out, h2.out, h3.out, h4.out, h5.out, h6.out, h7.out, h8.out, h9.out, h10.out, h11.out, h12.out, h13.out, h14.out, h15.out, h16.out, h17.out, h18.out, h19.out, h20.out, h21.out, h22.out, h23.out, h24.out, fun _ => rfl, fun _ => rfl, h27.out, h28.out, h29.out, h30.out, h31.out, h32.out, h33.out⟩
    | 27, _ =>
      obtain ⟨ty, ps, af, ho⟩ := op_lit hops (i := 27) (op := Op.fieldAddr 69 (Operand.tmp 2) 6) (dst := some 32) (g := some (26, true)) rfl
      obtain rfl := h26 (hdep 26 (by simp))
      have hy := fun tmps ht => yielded_lit hops (i := 26) (op := Op.move (Operand.tmp 30)) (t := 31) (g := none) rfl tmps true ht
      refine wpOp_lit ho (fun j b h => by cases h; exact hy _ rfl) ?_
      clear hops hdep ho hy
      replace h0 := hidH h0
      replace h1 := hidH h1
      replace h2 := hidH h2
      replace h3 := hidH h3
      replace h4 := hidH h4
      replace h5 := hidH h5
      replace h6 := hidH h6
      replace h7 := hidH h7
      replace h8 := hidH h8
      replace h9 := hidH h9
      replace h10 := hidH h10
      replace h11 := hidH h11
      replace h12 := hidH h12
      replace h13 := hidH h13
      replace h14 := hidH h14
      replace h15 := hidH h15
      replace h16 := hidH h16
      replace h17 := hidH h17
      replace h18 := hidH h18
      replace h19 := hidH h19
      replace h20 := hidH h20
      replace h21 := hidH h21
      replace h22 := hidH h22
      replace h23 := hidH h23
      replace h24 := hidH h24
      replace h25 := hidH h25
      replace h26 := hidH h26
      replace h28 := hidH h28
      replace h29 := hidH h29
      replace h30 := hidH h30
      replace h31 := hidH h31
      replace h32 := hidH h32
      replace h33 := hidH h33
      replace o33 := hidH o33
      go_wp2
      exact (HJ.out _ _ _).2 ⟨_, _, _, _, _, _, _, _, _, _, _, _, _, _, _, _, _, _, _, _, _, _, _, _, _, _, _, _, _, _, _, _, _, _, rfl, hG, hK, hO, o33.out, h0.out, h1.out, h2.out, h3.out, h4.out, h5.out, h6.out, h7.out, h8.out, h9.out, h10.out, h11.out, h12.out, h13.out, h14.out, h15.out, h16.out, h17.out, h18.out, h19.out, h20.out, h21.out, h22.out, h23.out, h24.out, h25.out, fun _ => rfl, fun _ => rfl, h28.out, h29.out, h30.out, h31.out, h32.out, h33.out⟩
    | 28, _ =>
      obtain ⟨ty, ps, af, ho⟩ := op_lit hops (i := 28) (op := Op.load 22 (Operand.tmp 32)) (dst := some 33) (g := some (26, true)) rfl
      obtain rfl := h26 (hdep 26 (by simp))
      have hy := fun tmps ht => yielded_lit hops (i := 26) (op := Op.move (Operand.tmp 30)) (t := 31) (g := none) rfl tmps true ht
      obtain rfl := h27 (hdep 27 (by simp))
      refine wpOp_lit ho (fun j b h => by cases h; exact hy _ rfl) ?_
      clear hops hdep ho hy
      replace h0 := hidH h0
      replace h1 := hidH h1
      replace h2 := hidH h2
      replace h3 := hidH h3
      replace h4 := hidH h4
      replace h5 := hidH h5
      replace h6 := hidH h6
      replace h7 := hidH h7
      replace h8 := hidH h8
      replace h9 := hidH h9
      replace h10 := hidH h10
      replace h11 := hidH h11
      replace h12 := hidH h12
      replace h13 := hidH h13
      replace h14 := hidH h14
      replace h15 := hidH h15
      replace h16 := hidH h16
      replace h17 := hidH h17
      replace h18 := hidH h18
      replace h19 := hidH h19
      replace h20 := hidH h20
      replace h21 := hidH h21
      replace h22 := hidH h22
      replace h23 := hidH h23
      replace h24 := hidH h24
      replace h25 := hidH h25
      replace h26 := hidH h26
      replace h27 := hidH h27
      replace h29 := hidH h29
      replace h30 := hidH h30
      replace h31 := hidH h31
      replace h32 := hidH h32
      replace h33 := hidH h33
      replace o33 := hidH o33
      have q6 := hG.cell 6
      simp only [List.getElem?_toArray, List.getElem?_cons_succ, List.getElem?_cons_zero] at q6
      go_wp2
      exact (HJ.out _ _ _).2 ⟨_, _, _, _, _, _, _, _, _, _, _, _, _, _, _, _, _, _, _, _, _, _, _, _, _, _, _, _, _, _, _, _, _, _, rfl, hG, hK, hO, o33.out, h0.out, h1.out, h2.out, h3.out, h4.out, h5.out, h6.out, h7.out, h8.out, h9.out, h10.out, h11.out, h12.out, h13.out, h14.out, h15.out, h16.out, h17.out, h18.out, h19.out, h20.out, h21.out, h22.out, h23.out, h24.out, h25.out, fun _ => rfl, fun _ => rfl, fun _ => rfl, h29.out, h30.out, h31.out, h32.out, h33.out⟩
    | 29, _ =>
      obtain ⟨ty, ps, af, ho⟩ := op_lit hops (i := 29) (op := Op.fieldAddr 69 (Operand.tmp 3) 6) (dst := some 34) (g := some (26, true)) rfl
      obtain rfl := h26 (hdep 26 (by simp))
      have hy := fun tmps ht => yielded_lit hops (i := 26) (op := Op.move (Operand.tmp 30)) (t := 31) (g := none) rfl tmps true ht
      refine wpOp_lit ho (fun j b h => by cases h; exact hy _ rfl) ?_
      clear hops hdep ho hy
      replace h0 := hidH h0
      replace h1 := hidH h1
      replace h2 := hidH h2
      replace h3 := hidH h3
      replace h4 := hidH h4
      replace h5 := hidH h5
      replace h6 := hidH h6
      replace h7 := hidH h7
      replace h8 := hidH h8
      replace h9 := hidH h9
      replace h10 := hidH h10
      replace h11 := hidH h11
      replace h12 := hidH h12
      replace h13 := hidH h13
      replace h14 := hidH h14
      replace h15 := hidH h15
      replace h16 := hidH h16
      replace h17 := hidH h17
      replace h18 := hidH h18
      replace h19 := hidH h19
      replace h20 := hidH h20
      replace h21 := hidH h21
      replace h22 := hidH h22
      replace h23 := hidH h23
      replace h24 := hidH h24
      replace h25 := hidH h25
      replace h26 := hidH h26
      replace h27 := hidH h27
      replace h28 := hidH h28
      replace h30 := hidH h30
      replace h31 := hidH h31
      replace h32 := hidH h32
      replace h33 := hidH h33
      replace o33 := hidH o33
      go_wp2
      exact (HJ.out _ _ _).2 ⟨_, _, _, _, _, _, _, _, _, _, _, _, _, _, _, _, _, _, _, _, _, _, _, _, _, _, _, _, _, _, _, _, _, _, rfl, hG, hK, hO, o33.out, h0.out, h1.out, h2.out, h3.out, h4.out, h5.out, h6.out, h7.out, h8.out, h9.out, h10.out, h11.out, h12.out, h13.out, h14.out, h15.out, h16.out, h17.out, h18.out, h19.out, h20.out, h21.out, h22.out, h23.out, h24.out, h25.out, fun _ => rfl, h27.out, h28.out, fun _ => rfl, h30.out, h31.out, h32.out, h33.out⟩
    | 30, _ =>
      obtain ⟨ty, ps, af, ho⟩ := op_lit hops (i := 30) (op := Op.load 22 (Operand.tmp 34)) (dst := some 35) (g := some (26, true)) rfl
      obtain rfl := h26 (hdep 26 (by simp))
      have hy := fun tmps ht => yielded_lit hops (i := 26) (op := Op.move (Operand.tmp 30)) (t := 31) (g := none) rfl tmps true ht
      obtain rfl := h29 (hdep 29 (by simp))
      refine wpOp_lit ho (fun j b h => by cases h; exact hy _ rfl) ?_
      clear hops hdep ho hy
      replace h0 := hidH h0
      replace h1 := hidH h1
      replace h2 := hidH h2
      replace h3 := hidH h3
      replace h4 := hidH h4
      replace h5 := hidH h5
      replace h6 := hidH h6
      replace h7 := hidH h7
      replace h8 := hidH h8
      replace h9 := hidH h9
      replace h10 := hidH h10
      replace h11 := hidH h11
      replace h12 := hidH h12
      replace h13 := hidH h13
      replace h14 := hidH h14
      replace h15 := hidH h15
      replace h16 := hidH h16
      replace h17 := hidH h17
      replace h18 := hidH h18
      replace h19 := hidH h19
      replace h20 := hidH h20
      replace h21 := hidH h21
      replace h22 := hidH h22
      replace h23 := hidH h23
      replace h24 := hidH h24
      replace h25 := hidH h25
      replace h26 := hidH h26
      replace h27 := hidH h27
      replace h28 := hidH h28
      replace h29 := hidH h29
      replace h31 := hidH h31
      replace h32 := hidH h32
      replace h33 := hidH h33
      replace o33 := hidH o33
      have q6 := hK.cell 6
      simp only [List.getElem?_toArray, List.getElem?_cons_succ, List.getElem?_cons_zero] at q6
      go_wp2
      exact (HJ.out _ _ _).2 ⟨_, _, _, _, _, _, _, _, _, _, _, _, _, _, _, _, _, _, _, _, _, _, _, _, _, _, _, _, _, _, _, _, _, _, rfl, hG, hK, hO, o33.out, h0.out, h1.out, h2.out, h3.out, h4.out, h5.out, h6.out, h7.out, h8.out, h9.out, h10.out, h11.out, h12.out, h13.out, h14.out, h15.out, h16.out, h17.out, h18.out, h19.out, h20.out, h21.out, h22.out, h23.out, h24.out, h25.out, fun _ => rfl, h27.out, h28.out, fun _ => rfl, fun _ => rfl, h31.out, h32.out, h33.out⟩
    | 31, _ =>
      obtain ⟨ty, ps, af, ho⟩ := op_lit hops (i := 31) (op := Op.call { callee := Callee.value (Operand.func 160), args := #[(Operand.tmp 33), (Operand.tmp 35)], argTypes := #[22, 22] }) (dst := some 36) (g := some (26, true)) rfl
      obtain rfl := h26 (hdep 26 (by simp))
      have hy := fun tmps ht => yielded_lit hops (i := 26) (op := Op.move (Operand.tmp 30)) (t := 31) (g := none) rfl tmps true ht
      obtain rfl := h28 (hdep 28 (by simp))
      obtain rfl := h30 (hdep 30 (by simp))
      refine wpOp_lit ho (fun j b h => by cases h; exact hy _ rfl) ?_
      clear hops hdep ho hy
      replace h0 := hidH h0
      replace h1 := hidH h1
      replace h2 := hidH h2
      replace h3 := hidH h3
      replace h4 := hidH h4
      replace h5 := hidH h5
      replace h6 := hidH h6
      replace h7 := hidH h7
      replace h8 := hidH h8
      replace h9 := hidH h9
      replace h10 := hidH h10
      replace h11 := hidH h11
      replace h12 := hidH h12
      replace h13 := hidH h13
      replace h14 := hidH h14
      replace h15 := hidH h15
      replace h16 := hidH h16
      replace h17 := hidH h17
      replace h18 := hidH h18
      replace h19 := hidH h19
      replace h20 := hidH h20
      replace h21 := hidH h21
      replace h22 := hidH h22
      replace h23 := hidH h23
      replace h24 := hidH h24
      replace h25 := hidH h25
      replace h26 := hidH h26
      replace h27 := hidH h27
      replace h28 := hidH h28
      replace h29 := hidH h29
      replace h30 := hidH h30
      replace h32 := hidH h32
      replace h33 := hidH h33
      replace o33 := hidH o33
      go_wp2_with fail
      refine (BE W hO).mono ?_
      rintro e w9 ⟨rfl, hb⟩
      go_wp2
      exact (HJ.out _ _ _).2 ⟨_, _, _, _, _, _, _, _, _, _, _, _, _, _, _, _, _, _, _, _, _, _, _, _, _, _, _, _, _, _, _, _, _, _, rfl, hG.below hb, hK.below hb, btr hO hb, o33.out, h0.out, h1.out, h2.out, h3.out, h4.out, h5.out, h6.out, h7.out, h8.out, h9.out, h10.out, h11.out, h12.out, h13.out, h14.out, h15.out, h16.out, h17.out, h18.out, h19.out, h20.out, h21.out, h22.out, h23.out, h24.out, h25.out, fun _ => rfl, h27.out, fun _ => rfl, h29.out, fun _ => rfl, fun _ => rfl, h32.out, h33.out⟩
    | 32, _ =>
      obtain ⟨ty, ps, af, ho⟩ := op_lit hops (i := 32) (op := Op.pick (Operand.tmp 31) (Operand.tmp 36) (Operand.const (Value.bool false))) (dst := some 37) (g := none) rfl
      obtain rfl := h26 (hdep 26 (by simp))
      obtain rfl := h31 (hdep 31 (by simp))
      refine wpOp_lit ho (fun j b h => by cases h) ?_
      clear hops hdep ho
      replace h0 := hidH h0
      replace h1 := hidH h1
      replace h2 := hidH h2
      replace h3 := hidH h3
      replace h4 := hidH h4
      replace h5 := hidH h5
      replace h6 := hidH h6
      replace h7 := hidH h7
      replace h8 := hidH h8
      replace h9 := hidH h9
      replace h10 := hidH h10
      replace h11 := hidH h11
      replace h12 := hidH h12
      replace h13 := hidH h13
      replace h14 := hidH h14
      replace h15 := hidH h15
      replace h16 := hidH h16
      replace h17 := hidH h17
      replace h18 := hidH h18
      replace h19 := hidH h19
      replace h20 := hidH h20
      replace h21 := hidH h21
      replace h22 := hidH h22
      replace h23 := hidH h23
      replace h24 := hidH h24
      replace h25 := hidH h25
      replace h26 := hidH h26
      replace h27 := hidH h27
      replace h28 := hidH h28
      replace h29 := hidH h29
      replace h30 := hidH h30
      replace h31 := hidH h31
      replace h33 := hidH h33
      replace o33 := hidH o33
      go_wp2
      exact (HJ.out _ _ _).2 ⟨_, _, _, _, _, _, _, _, _, _, _, _, _, _, _, _, _, _, _, _, _, _, _, _, _, _, _, _, _, _, _, _, _, _, rfl, hG, hK, hO, o33.out, h0.out, h1.out, h2.out, h3.out, h4.out, h5.out, h6.out, h7.out, h8.out, h9.out, h10.out, h11.out, h12.out, h13.out, h14.out, h15.out, h16.out, h17.out, h18.out, h19.out, h20.out, h21.out, h22.out, h23.out, h24.out, h25.out, fun _ => rfl, h27.out, h28.out, h29.out, h30.out, fun _ => rfl, fun _ => rfl, h33.out⟩
    | 33, _ =>
      obtain ⟨ty, ps, af, ho⟩ := op_lit hops (i := 33) (op := Op.assign (Operand.tmp 37)) (dst := some 4) (g := none) rfl
      obtain rfl := h32 (hdep 32 (by simp))
      obtain rfl := o33 hdn
      refine wpOp_lit ho (fun j b h => by cases h) ?_
      clear hops hdep ho
      replace h0 := hidH h0
      replace h1 := hidH h1
      replace h2 := hidH h2
      replace h3 := hidH h3
      replace h4 := hidH h4
      replace h5 := hidH h5
      replace h6 := hidH h6
      replace h7 := hidH h7
      replace h8 := hidH h8
      replace h9 := hidH h9
      replace h10 := hidH h10
      replace h11 := hidH h11
      replace h12 := hidH h12
      replace h13 := hidH h13
      replace h14 := hidH h14
      replace h15 := hidH h15
      replace h16 := hidH h16
      replace h17 := hidH h17
      replace h18 := hidH h18
      replace h19 := hidH h19
      replace h20 := hidH h20
      replace h21 := hidH h21
      replace h22 := hidH h22
      replace h23 := hidH h23
      replace h24 := hidH h24
      replace h25 := hidH h25
      replace h26 := hidH h26
      replace h27 := hidH h27
      replace h28 := hidH h28
      replace h29 := hidH h29
      replace h30 := hidH h30
      replace h31 := hidH h31
      replace h32 := hidH h32
      go_wp2
      exact (HJ.out _ _ _).2 ⟨_, _, _, _, _, _, _, _, _, _, _, _, _, _, _, _, _, _, _, _, _, _, _, _, _, _, _, _, _, _, _, _, _, _, rfl, hG, hK, hO, (fun h => by simp at h), h0.out, h1.out, h2.out, h3.out, h4.out, h5.out, h6.out, h7.out, h8.out, h9.out, h10.out, h11.out, h12.out, h13.out, h14.out, h15.out, h16.out, h17.out, h18.out, h19.out, h20.out, h21.out, h22.out, h23.out, h24.out, h25.out, h26.out, h27.out, h28.out, h29.out, h30.out, h31.out, fun _ => rfl, fun _ => rfl⟩
    | n + 34, h => omega
  case fin =>
    clear hops hdeps hback
    rintro dn ac W hJ hall
    obtain ⟨t5, t6, t7, t8, t9, t10, t11, t12, t13, t14, t15, t16, t17, t18, t19, t20, t21, t22, t23, t24, t25, t26, t27, t28, t29, t30, t31, t32, t33, t34, t35, t36, t37, t4, rfl, hG, hK, hO, o33, h0, h1, h2, h3, h4, h5, h6, h7, h8, h9, h10, h11, h12, h13, h14, h15, h16, h17, h18, h19, h20, h21, h22, h23, h24, h25, h26, h27, h28, h29, h30, h31, h32, h33⟩ := (HJ.out _ _ _).1 hJ
    obtain rfl := h33 (hall 33 (by omega))
    exact fin _ _ _ _ _ _ _ _ _ _ _ _ _ _ _ _ _ _ _ _ _ _ _ _ _ _ _ _ _ _ _ _ _ W hO
set_option maxRecDepth 100000 in
set_option maxHeartbeats 1000000 in
theorem regSDn {Q : Exit → Act → World → Prop} (ww : World) (x y : DataM) (A B : Option Addr) (ca cb g k : Nat) (zx zy : Int) (f0 : (x.Tsn == y.Tsn) = true) (f1 : (x.Stream == y.Stream) = true) (f2 : (x.Seq == y.Seq) = true) (fz : (zx == zy) = false)
    (FX : ∀ u : World, Calls Try.prog 159 #[.agg #[.int .i64 x.Tsn, .int .i64 x.Stream, .int .i64 x.Seq, .bool x.First, .bool x.Last, .bool x.Unordered, .slice A x.Piece.length ca]] u (fun e w' => e = .returned (.int .i64 zx) ∧ Below u.heap.size u w'))
    (FY : ∀ u : World, Calls Try.prog 159 #[.agg #[.int .i64 y.Tsn, .int .i64 y.Stream, .int .i64 y.Seq, .bool y.First, .bool y.Last, .bool y.Unordered, .slice B y.Piece.length cb]] u (fun e w' => e = .returned (.int .i64 zy) ∧ Below u.heap.size u w')) {ops : Array Oper}
    (hops : (ops.map fun o => (o.op, o.dst, o.guard)) = #[(Op.fieldAddr 69 (Operand.tmp 2) 0, some 5, none), (Op.load 2 (Operand.tmp 5), some 6, none), (Op.fieldAddr 69 (Operand.tmp 3) 0, some 7, none), (Op.load 2 (Operand.tmp 7), some 8, none), (Op.binOp BinOp.eql 2 (Operand.tmp 6) (Operand.tmp 8) 2, some 9, none), (Op.move (Operand.tmp 9), some 10, none), (Op.fieldAddr 69 (Operand.tmp 2) 1, some 11, some (5, true)), (Op.load 2 (Operand.tmp 11), some 12, some (5, true)), (Op.fieldAddr 69 (Operand.tmp 3) 1, some 13, some (5, true)), (Op.load 2 (Operand.tmp 13), some 14, some (5, true)), (Op.binOp BinOp.eql 2 (Operand.tmp 12) (Operand.tmp 14) 2, some 15, some (5, true)), (Op.pick (Operand.tmp 10) (Operand.tmp 15) (Operand.const (Value.bool false)), some 16, none), (Op.move (Operand.tmp 16), some 17, none), (Op.fieldAddr 69 (Operand.tmp 2) 2, some 18, some (12, true)), (Op.load 2 (Operand.tmp 18), some 19, some (12, true)), (Op.fieldAddr 69 (Operand.tmp 3) 2, some 20, some (12, true)), (Op.load 2 (Operand.tmp 20), some 21, some (12, true)), (Op.binOp BinOp.eql 2 (Operand.tmp 19) (Operand.tmp 21) 2, some 22, some (12, true)), (Op.pick (Operand.tmp 17) (Operand.tmp 22) (Operand.const (Value.bool false)), some 23, none), (Op.move (Operand.tmp 23), some 24, none), (Op.load 69 (Operand.tmp 2), some 25, some (19, true)), (Op.call { callee := Callee.value (Operand.func 159), args := #[(Operand.tmp 25)], argTypes := #[69] }, some 26, some (19, true)), (Op.load 69 (Operand.tmp 3), some 27, some (19, true)), (Op.call { callee := Callee.value (Operand.func 159), args := #[(Operand.tmp 27)], argTypes := #[69] }, some 28, some (19, true)), (Op.binOp BinOp.eql 2 (Operand.tmp 26) (Operand.tmp 28) 2, some 29, some (19, true)), (Op.pick (Operand.tmp 24) (Operand.tmp 29) (Operand.const (Value.bool false)), some 30, none), (Op.move (Operand.tmp 30), some 31, none), (Op.fieldAddr 69 (Operand.tmp 2) 6, some 32, some (26, true)), (Op.load 22 (Operand.tmp 32), some 33, some (26, true)), (Op.fieldAddr 69 (Operand.tmp 3) 6, some 34, some (26, true)), (Op.load 22 (Operand.tmp 34), some 35, some (26, true)), (Op.call { callee := Callee.value (Operand.func 160), args := #[(Operand.tmp 33), (Operand.tmp 35)], argTypes := #[22, 22] }, some 36, some (26, true)), (Op.pick (Operand.tmp 31) (Operand.tmp 36) (Operand.const (Value.bool false)), some 37, none), (Op.assign (Operand.tmp 37), some 4, none)])
    (hdeps : ((List.range 34).all fun i => ((fun i => [[], [0], [], [2], [1, 3], [4], [5], [5, 6], [5], [5, 8], [5, 7, 9], [5, 10], [11], [12], [12, 13], [12], [12, 15], [12, 14, 16], [12, 17], [18], [19], [19, 20], [19], [19, 22], [19, 21, 23], [19, 24], [25], [26], [26, 27], [26], [26, 29], [26, 28, 30], [26, 31], [32]].getD i []) i).all fun j => ((ops[i]?).map fun o => o.after.any fun e => Region.binds .any e && e.on == j).getD false) = true)
    (hback : ((List.range 34).all fun i => ((ops[i]?).map fun o => o.after.all fun e => decide (e.on < i)).getD false) = true)
    {a0 : Act} {w0 : World} (ha : a0 = { tmps := #[.agg #[.int .i64 x.Tsn, .int .i64 x.Stream, .int .i64 x.Seq, .bool x.First, .bool x.Last, .bool x.Unordered, .slice A x.Piece.length ca], .agg #[.int .i64 y.Tsn, .int .i64 y.Stream, .int .i64 y.Seq, .bool y.First, .bool y.Last, .bool y.Unordered, .slice B y.Piece.length cb], .pointer (some ⟨g, 0, none⟩), .pointer (some ⟨k, 0, none⟩), .bool false, undef, undef, undef, undef, undef, undef, undef, undef, undef, undef, undef, undef, undef, undef, undef, undef, undef, undef, undef, undef, undef, undef, undef, undef, undef, undef, undef, undef, undef, undef, undef, undef, undef], defers := [] }) (hG : Blk w0 g 69 #[.int .i64 x.Tsn, .int .i64 x.Stream, .int .i64 x.Seq, .bool x.First, .bool x.Last, .bool x.Unordered, .slice A x.Piece.length ca]) (hK : Blk w0 k 69 #[.int .i64 y.Tsn, .int .i64 y.Stream, .int .i64 y.Seq, .bool y.First, .bool y.Last, .bool y.Unordered, .slice B y.Piece.length cb]) (hO : Below ww.heap.size ww w0)
    (fin : ∀ t5 t6 t7 t8 t9 t10 t11 t12 t13 t14 t15 t16 t17 t18 t19 t20 t21 t22 t23 t24 t25 t26 t27 t28 t29 t30 t31 t32 t33 t34 t35 t36 t37 (W : World), (Below ww.heap.size ww W) → Q .normal { tmps := #[.agg #[.int .i64 x.Tsn, .int .i64 x.Stream, .int .i64 x.Seq, .bool x.First, .bool x.Last, .bool x.Unordered, .slice A x.Piece.length ca], .agg #[.int .i64 y.Tsn, .int .i64 y.Stream, .int .i64 y.Seq, .bool y.First, .bool y.Last, .bool y.Unordered, .slice B y.Piece.length cb], .pointer (some ⟨g, 0, none⟩), .pointer (some ⟨k, 0, none⟩), .bool false, t5, t6, t7, t8, t9, t10, t11, t12, t13, t14, t15, t16, t17, t18, t19, t20, t21, t22, t23, t24, t25, t26, t27, t28, t29, t30, t31, t32, t33, t34, t35, t36, t37], defers := [] } W) :
    wpAny Try.prog .any ops Q ops.size (Array.replicate ops.size false) a0 w0 := by
  have hn : ops.size = 34 := by have := congrArg Array.size hops; simpa using this
  obtain ⟨J, HJ⟩ : ∃ J : (Nat → Bool) → Act → World → Prop, ∀ dn ac W, J dn ac W ↔ (fun dn ac W => ∃ t5 t6 t7 t8 t9 t10 t11 t12 t13 t14 t15 t16 t17 t18 t19 t20 t21 t22 t23 t24 t25 t26 t27 t28 t29 t30 t31 t32 t33 t34 t35 t36 t37 t4, ac = { tmps := #[.agg #[.int .i64 x.Tsn, .int .i64 x.Stream, .int .i64 x.Seq, .bool x.First, .bool x.Last, .bool x.Unordered, .slice A x.Piece.length ca], .agg #[.int .i64 y.Tsn, .int .i64 y.Stream, .int .i64 y.Seq, .bool y.First, .bool y.Last, .bool y.Unordered, .slice B y.Piece.length cb], .pointer (some ⟨g, 0, none⟩), .pointer (some ⟨k, 0, none⟩), t4, t5, t6, t7, t8, t9, t10, t11, t12, t13, t14, t15, t16, t17, t18, t19, t20, t21, t22, t23, t24, t25, t26, t27, t28, t29, t30, t31, t32, t33, t34, t35, t36, t37], defers := [] } ∧ (Blk W g 69 #[.int .i64 x.Tsn, .int .i64 x.Stream, .int .i64 x.Seq, .bool x.First, .bool x.Last, .bool x.Unordered, .slice A x.Piece.length ca]) ∧ (Blk W k 69 #[.int .i64 y.Tsn, .int .i64 y.Stream, .int .i64 y.Seq, .bool y.First, .bool y.Last, .bool y.Unordered, .slice B y.Piece.length cb]) ∧ (Below ww.heap.size ww W) ∧ (dn 33 = false → t4 = .bool false) ∧ (dn 0 = true → t5 = .pointer (some ⟨g, 0, none⟩)) ∧ (dn 1 = true → t6 = .int .i64 x.Tsn) ∧ (dn 2 = true → t7 = .pointer (some ⟨k, 0, none⟩)) ∧ (dn 3 = true → t8 = .int .i64 y.Tsn) ∧ (dn 4 = true → t9 = .bool true) ∧ (dn 5 = true → t10 = .bool true) ∧ (dn 6 = true → t11 = .pointer (some ⟨g, 1, none⟩)) ∧ (dn 7 = true → t12 = .int .i64 x.Stream) ∧ (dn 8 = true → t13 = .pointer (some ⟨k, 1, none⟩)) ∧ (dn 9 = true → t14 = .int .i64 y.Stream) ∧ (dn 10 = true → t15 = .bool true) ∧ (dn 11 = true → t16 = .bool true) ∧ (dn 12 = true → t17 = .bool true) ∧ (dn 13 = true → t18 = .pointer (some ⟨g, 2, none⟩)) ∧ (dn 14 = true → t19 = .int .i64 x.Seq) ∧ (dn 15 = true → t20 = .pointer (some ⟨k, 2, none⟩)) ∧ (dn 16 = true → t21 = .int .i64 y.Seq) ∧ (dn 17 = true → t22 = .bool true) ∧ (dn 18 = true → t23 = .bool true) ∧ (dn 19 = true → t24 = .bool true) ∧ (dn 20 = true → t25 = .agg #[.int .i64 x.Tsn, .int .i64 x.Stream, .int .i64 x.Seq, .bool x.First, .bool x.Last, .bool x.Unordered, .slice A x.Piece.length ca]) ∧ (dn 21 = true → t26 = .int .i64 zx) ∧ (dn 22 = true → t27 = .agg #[.int .i64 y.Tsn, .int .i64 y.Stream, .int .i64 y.Seq, .bool y.First, .bool y.Last, .bool y.Unordered, .slice B y.Piece.length cb]) ∧ (dn 23 = true → t28 = .int .i64 zy) ∧ (dn 24 = true → t29 = .bool false) ∧ (dn 25 = true → t30 = .bool false) ∧ (dn 26 = true → t31 = .bool false) ∧ (dn 27 = true → t32 = undef) ∧ (dn 28 = true → t33 = undef) ∧ (dn 29 = true → t34 = undef) ∧ (dn 30 = true → t35 = undef) ∧ (dn 31 = true → t36 = undef) ∧ (dn 32 = true → t37 = .bool false) ∧ (dn 33 = true → t4 = .bool false)) dn ac W := ⟨_, fun _ _ _ => Iff.rfl⟩
  replace HJ := hidH HJ
  refine region_inv 34 (fun i => [[], [0], [], [2], [1, 3], [4], [5], [5, 6], [5], [5, 8], [5, 7, 9], [5, 10], [11], [12], [12, 13], [12], [12, 15], [12, 14, 16], [12, 17], [18], [19], [19, 20], [19], [19, 22], [19, 21, 23], [19, 24], [25], [26], [26, 27], [26], [26, 29], [26, 28, 30], [26, 31], [32]].getD i []) J hn hdeps hback ?start ?step ?fin
  case start => exact (HJ.out _ _ _).2 ⟨undef, undef, undef, undef, undef, undef, undef, undef, undef, undef, undef, undef, undef, undef, undef, undef, undef, undef, undef, undef, undef, undef, undef, undef, undef, undef, undef, undef, undef, undef, undef, undef, undef, .bool false, ha, hG, hK, hO, fun _ => rfl, fun h => by simp at h, fun h => by simp at h, fun h => by simp at h, fun h => by simp at h, fun h => by simp at h, fun h => by simp at h, fun h => by simp at h, fun h => by simp at h, fun h => by simp at h, fun h => by simp at h, fun h => by simp at h, fun h => by simp at h, fun h => by simp at h, fun h => by simp at h, fun h => by simp at h, fun h => by simp at h, fun h => by simp at h, fun h => by simp at h, fun h => by simp at h, fun h => by simp at h, fun h => by simp at h, fun h => by simp at h, fun h => by simp at h, fun h => by simp at h, fun h => by simp at h, fun h => by simp at h, fun h => by simp at h, fun h => by simp at h, fun h => by simp at h, fun h => by simp at h, fun h => by simp at h, fun h => by simp at h, fun h => by simp at h, fun h => by simp at h⟩
  all_goals clear ha hG hK hO
  case step =>
    clear fin hdeps hback
    intro i hi dn ac W hJ hdn hdep
    obtain ⟨t5, t6, t7, t8, t9, t10, t11, t12, t13, t14, t15, t16, t17, t18, t19, t20, t21, t22, t23, t24, t25, t26, t27, t28, t29, t30, t31, t32, t33, t34, t35, t36, t37, t4, rfl, hG, hK, hO, o33, h0, h1, h2, h3, h4, h5, h6, h7, h8, h9, h10, h11, h12, h13, h14, h15, h16, h17, h18, h19, h20, h21, h22, h23, h24, h25, h26, h27, h28, h29, h30, h31, h32, h33⟩ := (HJ.out _ _ _).1 hJ
    clear hJ
    match i, hi with
    | 0, _ =>
      obtain ⟨ty, ps, af, ho⟩ := op_lit hops (i := 0) (op := Op.fieldAddr 69 (Operand.tmp 2) 0) (dst := some 5) (g := none) rfl
      refine wpOp_lit ho (fun j b h => by cases h) ?_
      clear hops hdep ho
      replace h1 := hidH h1
      replace h2 := hidH h2
      replace h3 := hidH h3
      replace h4 := hidH h4
      replace h5 := hidH h5
      replace h6 := hidH h6
      replace h7 := hidH h7
      replace h8 := hidH h8
      replace h9 := hidH h9
      replace h10 := hidH h10
      replace h11 := hidH h11
      replace h12 := hidH h12
      replace h13 := hidH h13
      replace h14 := hidH h14
      replace h15 := hidH h15
      replace h16 := hidH h16
      replace h17 := hidH h17
      replace h18 := hidH h18
      replace h19 := hidH h19
      replace h20 := hidH h20
      replace h21 := hidH h21
      replace h22 := hidH h22
      replace h23 := hidH h23
      replace h24 := hidH h24
      replace h25 := hidH h25
      replace h26 := hidH h26
      replace h27 := hidH h27
      replace h28 := hidH h28
      replace h29 := hidH h29
      replace h30 := hidH h30
      replace h31 := hidH h31
      replace h32 := hidH h32
      replace h33 := hidH h33
      replace o33 := hidH o33
      go_wp2
      exact (HJ.out _ _ _).2 ⟨_, _, _, _, _, _, _, _, _, _, _, _, _, _, _, _, _, _, _, _, _, _, _, _, _, _, _, _, _, _, _, _, _, _, rfl, hG, hK, hO, o33.out, fun _ => rfl, h1.out, h2.out, h3.out, h4.out, h5.out, h6.out, h7.out, h8.out, h9.out, h10.out, h11.out, h12.out, h13.out, h14.out, h15.out, h16.out, h17.out, h18.out, h19.out, h20.out, h21.out, h22.out, h23.out, h24.out, h25.out, h26.out, h27.out, h28.out, h29.out, h30.out, h31.out, h32.out, h33.out⟩
    | 1, _ =>
      obtain ⟨ty, ps, af, ho⟩ := op_lit hops (i := 1) (op := Op.load 2 (Operand.tmp 5)) (dst := some 6) (g := none) rfl
      obtain rfl := h0 (hdep 0 (by simp))
      refine wpOp_lit ho (fun j b h => by cases h) ?_
      clear hops hdep ho
      replace h0 := hidH h0
      replace h2 := hidH h2
      replace h3 := hidH h3
      replace h4 := hidH h4
      replace h5 := hidH h5
      replace h6 := hidH h6
      replace h7 := hidH h7
      replace h8 := hidH h8
      replace h9 := hidH h9
      replace h10 := hidH h10
      replace h11 := hidH h11
      replace h12 := hidH h12
      replace h13 := hidH h13
      replace h14 := hidH h14
      replace h15 := hidH h15
      replace h16 := hidH h16
      replace h17 := hidH h17
      replace h18 := hidH h18
      replace h19 := hidH h19
      replace h20 := hidH h20
      replace h21 := hidH h21
      replace h22 := hidH h22
      replace h23 := hidH h23
      replace h24 := hidH h24
      replace h25 := hidH h25
      replace h26 := hidH h26
      replace h27 := hidH h27
      replace h28 := hidH h28
      replace h29 := hidH h29
      replace h30 := hidH h30
      replace h31 := hidH h31
      replace h32 := hidH h32
      replace h33 := hidH h33
      replace o33 := hidH o33
      have q0 := hG.cell 0
      simp only [List.getElem?_toArray, List.getElem?_cons_zero] at q0
      go_wp2
      exact (HJ.out _ _ _).2 ⟨_, _, _, _, _, _, _, _, _, _, _, _, _, _, _, _, _, _, _, _, _, _, _, _, _, _, _, _, _, _, _, _, _, _, rfl, hG, hK, hO, o33.out, fun _ => rfl, fun _ => rfl, h2.out, h3.out, h4.out, h5.out, h6.out, h7.out, h8.out, h9.out, h10.out, h11.out, h12.out, h13.out, h14.out, h15.out, h16.out, h17.out, h18.out, h19.out, h20.out, h21.out, h22.out, h23.out, h24.out, h25.out, h26.out, h27.out, h28.out, h29.out, h30.out, h31.out, h32.out, h33.out⟩
    | 2, _ =>
      obtain ⟨ty, ps, af, ho⟩ := op_lit hops (i := 2) (op := Op.fieldAddr 69 (Operand.tmp 3) 0) (dst := some 7) (g := none) rfl
      refine wpOp_lit ho (fun j b h => by cases h) ?_
      clear hops hdep ho
      replace h0 := hidH h0
      replace h1 := hidH h1
      replace h3 := hidH h3
      replace h4 := hidH h4
      replace h5 := hidH h5
      replace h6 := hidH h6
      replace h7 := hidH h7
      replace h8 := hidH h8
      replace h9 := hidH h9
      replace h10 := hidH h10
      replace h11 := hidH h11
      replace h12 := hidH h12
      replace h13 := hidH h13
      replace h14 := hidH h14
      replace h15 := hidH h15
      replace h16 := hidH h16
      replace h17 := hidH h17
      replace h18 := hidH h18
      replace h19 := hidH h19
      replace h20 := hidH h20
      replace h21 := hidH h21
      replace h22 := hidH h22
      replace h23 := hidH h23
      replace h24 := hidH h24
      replace h25 := hidH h25
      replace h26 := hidH h26
      replace h27 := hidH h27
      replace h28 := hidH h28
      replace h29 := hidH h29
      replace h30 := hidH h30
      replace h31 := hidH h31
      replace h32 := hidH h32
      replace h33 := hidH h33
      replace o33 := hidH o33
      go_wp2
      exact (HJ.out _ _ _).2 ⟨_, _, _, _, _, _, _, _, _, _, _, _, _, _, _, _, _, _, _, _, _, _, _, _, _, _, _, _, _, _, _, _, _, _, rfl, hG, hK, hO, o33.out, h0.out, h1.out, fun _ => rfl, h3.out, h4.out, h5.out, h6.out, h7.out, h8.out, h9.out, h10.out, h11.out, h12.out, h13.out, h14.out, h15.out, h16.out, h17.out, h18.out, h19.out, h20.out, h21.out, h22.out, h23.out, h24.out, h25.out, h26.out, h27.out, h28.out, h29.out, h30.out, h31.out, h32.out, h33.out⟩
    | 3, _ =>
      obtain ⟨ty, ps, af, ho⟩ := op_lit hops (i := 3) (op := Op.load 2 (Operand.tmp 7)) (dst := some 8) (g := none) rfl
      obtain rfl := h2 (hdep 2 (by simp))
      refine wpOp_lit ho (fun j b h => by cases h) ?_
      clear hops hdep ho
      replace h0 := hidH h0
      replace h1 := hidH h1
      replace h2 := hidH h2
      replace h4 := hidH h4
      replace h5 := hidH h5
      replace h6 := hidH h6
      replace h7 := hidH h7
      replace h8 := hidH h8
      replace h9 := hidH h9
      replace h10 := hidH h10
      replace h11 := hidH h11
      replace h12 := hidH h12
      replace h13 := hidH h13
      replace h14 := hidH h14
      replace h15 := hidH h15
      replace h16 := hidH h16
      replace h17 := hidH h17
      replace h18 := hidH h18
      replace h19 := hidH h19
      replace h20 := hidH h20
      replace h21 := hidH h21
      replace h22 := hidH h22
      replace h23 := hidH h23
      replace h24 := hidH h24
      replace h25 := hidH h25
      replace h26 := hidH h26
      replace h27 := hidH h27
      replace h28 := hidH h28
      replace h29 := hidH h29
      replace h30 := hidH h30
      replace h31 := hidH h31
      replace h32 := hidH h32
      replace h33 := hidH h33
      replace o33 := hidH o33
      have q0 := hK.cell 0
      simp only [List.getElem?_toArray, List.getElem?_cons_zero] at q0
      go_wp2
      exact (HJ.out _ _ _).2 ⟨_, _, _, _, _, _, _, _, _, _, _, _, _, _, _, _, _, _, _, _, _, _, _, _, _, _, _, _, _, _, _, _, _, _, rfl, hG, hK, hO, o33.out, h0.out, h1.out, fun _ => rfl, fun _ => rfl, h4.out, h5.out, h6.out, h7.out, h8.out, h9.out, h10.out, h11.out, h12.out, h13.out, h14.out, h15.out, h16.out, h17.out, h18.out, h19.out, h20.out, h21.out, h22.out, h23.out, h24.out, h25.out, h26.out, h27.out, h28.out, h29.out, h30.out, h31.out, h32.out, h33.out⟩
    | 4, _ =>
      obtain ⟨ty, ps, af, ho⟩ := op_lit hops (i := 4) (op := Op.binOp BinOp.eql 2 (Operand.tmp 6) (Operand.tmp 8) 2) (dst := some 9) (g := none) rfl
      obtain rfl := h1 (hdep 1 (by simp))
      obtain rfl := h3 (hdep 3 (by simp))
      refine wpOp_lit ho (fun j b h => by cases h) ?_
      clear hops hdep ho
      replace h0 := hidH h0
      replace h1 := hidH h1
      replace h2 := hidH h2
      replace h3 := hidH h3
      replace h5 := hidH h5
      replace h6 := hidH h6
      replace h7 := hidH h7
      replace h8 := hidH h8
      replace h9 := hidH h9
      replace h10 := hidH h10
      replace h11 := hidH h11
      replace h12 := hidH h12
      replace h13 := hidH h13
      replace h14 := hidH h14
      replace h15 := hidH h15
      replace h16 := hidH h16
      replace h17 := hidH h17
      replace h18 := hidH h18
      replace h19 := hidH h19
      replace h20 := hidH h20
      replace h21 := hidH h21
      replace h22 := hidH h22
      replace h23 := hidH h23
      replace h24 := hidH h24
      replace h25 := hidH h25
      replace h26 := hidH h26
      replace h27 := hidH h27
      replace h28 := hidH h28
      replace h29 := hidH h29
      replace h30 := hidH h30
      replace h31 := hidH h31
      replace h32 := hidH h32
      replace h33 := hidH h33
      replace o33 := hidH o33
      have f := f0
      go_wp2
      exact (HJ.out _ _ _).2 ⟨_, _, _, _, _, _, _, _, _, _, _, _, _, _, _, _, _, _, _, _, _, _, _, _, _, _, _, _, _, _, _, _, _, _, rfl, hG, hK, hO, o33.out, h0.out, fun _ => rfl, h2.out, fun _ => rfl, fun _ => rfl, h5.out, h6.out, h7.out, h8.out, h9.out, h10.out, h11.out, h12.out, h13.out, h14.out, h15.out, h16.out, h17.out, h18.out, h19.out, h20.out, h21.out, h22.out, h23.out, h24.out, h25.out, h26.out, h27.out, h28.out, h29.out, h30.out, h31.out, h32.out, h33.out⟩
    | 5, _ =>
      obtain ⟨ty, ps, af, ho⟩ := op_lit hops (i := 5) (op := Op.move (Operand.tmp 9)) (dst := some 10) (g := none) rfl
      obtain rfl := h4 (hdep 4 (by simp))
      refine wpOp_lit ho (fun j b h => by cases h) ?_
      clear hops hdep ho
      replace h0 := hidH h0
      replace h1 := hidH h1
      replace h2 := hidH h2
      replace h3 := hidH h3
      replace h4 := hidH h4
      replace h6 := hidH h6
      replace h7 := hidH h7
      replace h8 := hidH h8
      replace h9 := hidH h9
      replace h10 := hidH h10
      replace h11 := hidH h11
      replace h12 := hidH h12
      replace h13 := hidH h13
      replace h14 := hidH h14
      replace h15 := hidH h15
      replace h16 := hidH h16
      replace h17 := hidH h17
      replace h18 := hidH h18
      replace h19 := hidH h19
      replace h20 := hidH h20
      replace h21 := hidH h21
      replace h22 := hidH h22
      replace h23 := hidH h23
      replace h24 := hidH h24
      replace h25 := hidH h25
      replace h26 := hidH h26
      replace h27 := hidH h27
      replace h28 := hidH h28
      replace h29 := hidH h29
      replace h30 := hidH h30
      replace h31 := hidH h31
      replace h32 := hidH h32
      replace h33 := hidH h33
      replace o33 := hidH o33
      go_wp2
      exact (HJ.out _ _ _).2 ⟨_, _, _, _, _, _, _, _, _, _, _, _, _, _, _, _, _, _, _, _, _, _, _, _, _, _, _, _, _, _, _, _, _, _, rfl, hG, hK, hO, o33.out, h0.out, h1.out, h2.out, h3.out, fun _ => rfl, fun _ => rfl, h6.out, h7.out, h8.out, h9.out, h10.out, h11.out, h12.out, h13.out, h14.out, h15.out, h16.out, h17.out, h18.out, h19.out, h20.out, h21.out, h22.out, h23.out, h24.out, h25.out, h26.out, h27.out, h28.out, h29.out, h30.out, h31.out, h32.out, h33.out⟩
    | 6, _ =>
      obtain ⟨ty, ps, af, ho⟩ := op_lit hops (i := 6) (op := Op.fieldAddr 69 (Operand.tmp 2) 1) (dst := some 11) (g := some (5, true)) rfl
      obtain rfl := h5 (hdep 5 (by simp))
      have hy := fun tmps ht => yielded_lit hops (i := 5) (op := Op.move (Operand.tmp 9)) (t := 10) (g := none) rfl tmps true ht
      refine wpOp_lit ho (fun j b h => by cases h; exact hy _ rfl) ?_
      clear hops hdep ho hy
      replace h0 := hidH h0
      replace h1 := hidH h1
      replace h2 := hidH h2
      replace h3 := hidH h3
      replace h4 := hidH h4
      replace h5 := hidH h5
      replace h7 := hidH h7
      replace h8 := hidH h8
      replace h9 := hidH h9
      replace h10 := hidH h10
      replace h11 := hidH h11
      replace h12 := hidH h12
      replace h13 := hidH h13
      replace h14 := hidH h14
      replace h15 := hidH h15
      replace h16 := hidH h16
      replace h17 := hidH h17
      replace h18 := hidH h18
      replace h19 := hidH h19
      replace h20 := hidH h20
      replace h21 := hidH h21
      replace h22 := hidH h22
      replace h23 := hidH h23
      replace h24 := hidH h24
      replace h25 := hidH h25
      replace h26 := hidH h26
      replace h27 := hidH h27
      replace h28 := hidH h28
      replace h29 := hidH h29
      replace h30 := hidH h30
      replace h31 := hidH h31
      replace h32 := hidH h32
      replace h33 := hidH h33
      replace o33 := hidH o33
      go_wp2
      exact (HJ.out _ _ _).2 ⟨_, _, _, _, _, _, _, _, _, _, _, _, _, _, _, _, _, _, _, _, _, _, _, _, _, _, _, _, _, _, _, _, _, _, rfl, hG, hK, hO, o33.out, h0.out, h1.out, h2.out, h3.out, h4.out, fun _ => rfl, fun _ => rfl, h7.out, h8.out, h9.out, h10.out, h11.out, h12.out, h13.out, h14.out, h15.out, h16.out, h17.out, h18.out, h19.out, h20.out, h21.out, h22.out, h23.out, h24.out, h25.out, h26.out, h27.out, h28.out, h29.out, h30.out, h31.out, h32.out, h33.out⟩
    | 7, _ =>
      obtain ⟨ty, ps, af, ho⟩ := op_lit hops (i := 7) (op := Op.load 2 (Operand.tmp 11)) (dst := some 12) (g := some (5, true)) rfl
      obtain rfl := h5 (hdep 5 (by simp))
      have hy := fun tmps ht => yielded_lit hops (i := 5) (op := Op.move (Operand.tmp 9)) (t := 10) (g := none) rfl tmps true ht
      obtain rfl := h6 (hdep 6 (by simp))
      refine wpOp_lit ho (fun j b h => by cases h; exact hy _ rfl) ?_
      clear hops hdep ho hy
      replace h0 := hidH h0
      replace h1 := hidH h1
      replace h2 := hidH h2
      replace h3 := hidH h3
      replace h4 := hidH h4
      replace h5 := hidH h5
      replace h6 := hidH h6
      replace h8 := hidH h8
      replace h9 := hidH h9
      replace h10 := hidH h10
      replace h11 := hidH h11
      replace h12 := hidH h12
      replace h13 := hidH h13
      replace h14 := hidH h14
      replace h15 := hidH h15
      replace h16 := hidH h16
      replace h17 := hidH h17
      replace h18 := hidH h18
      replace h19 := hidH h19
      replace h20 := hidH h20
      replace h21 := hidH h21
      replace h22 := hidH h22
      replace h23 := hidH h23
      replace h24 := hidH h24
      replace h25 := hidH h25
      replace h26 := hidH h26
      replace h27 := hidH h27
      replace h28 := hidH h28
      replace h29 := hidH h29
      replace h30 := hidH h30
      replace h31 := hidH h31
      replace h32 := hidH h32
      replace h33 := hidH h33
      replace o33 := hidH o33
      have q1 := hG.cell 1
      simp only [List.getElem?_toArray, List.getElem?_cons_succ, List.getElem?_cons_zero] at q1
      go_wp2
      exact (HJ.out _ _ _).2 ⟨_, _, _, _, _, _, _, _, _, _, _, _, _, _, _, _, _, _, _, _, _, _, _, _, _, _, _, _, _, _, _, _, _, _, rfl, hG, hK, hO, o33.out, h0.out, h1.out, h2.out, h3.out, h4.out, fun _ => rfl, fun _ => rfl, fun _ => rfl, h8.out, h9.out, h10.out, h11.out, h12.out, h13.out, h14.out, h15.out, h16.out, h17.out, h18.out, h19.out, h20.out, h21.out, h22.out, h23.out, h24.out, h25.out, h26.out, h27.out, h28.out, h29.out, h30.out, h31.out, h32.out, h33.out⟩
    | 8, _ =>
      obtain ⟨ty, ps, af, ho⟩ := op_lit hops (i := 8) (op := Op.fieldAddr 69 (Operand.tmp 3) 1) (dst := some 13) (g := some (5, true)) rfl
      obtain rfl := h5 (hdep 5 (by simp))
      have hy := fun tmps ht => yielded_lit hops (i := 5) (op := Op.move (Operand.tmp 9)) (t := 10) (g := none) rfl tmps true ht
      refine wpOp_lit ho (fun j b h => by cases h; exact hy _ rfl) ?_
      clear hops hdep ho hy
      replace h0 := hidH h0
      replace h1 := hidH h1
      replace h2 := hidH h2
      replace h3 := hidH h3
      replace h4 := hidH h4
      replace h5 := hidH h5
      replace h6 := hidH h6
      replace h7 := hidH h7
      replace h9 := hidH h9
      replace h10 := hidH h10
      replace h11 := hidH h11
      replace h12 := hidH h12
      replace h13 := hidH h13
      replace h14 := hidH h14
      replace h15 := hidH h15
      replace h16 := hidH h16
      replace h17 := hidH h17
      replace h18 := hidH h18
      replace h19 := hidH h19
      replace h20 := hidH h20
      replace h21 := hidH h21
      replace h22 := hidH h22
      replace h23 := hidH h23
      replace h24 := hidH h24
      replace h25 := hidH h25
      replace h26 := hidH h26
      replace h27 := hidH h27
      replace h28 := hidH h28
      replace h29 := hidH h29
      replace h30 := hidH h30
      replace h31 := hidH h31
      replace h32 := hidH h32
      replace h33 := hidH h33
      replace o33 := hidH o33
      go_wp2
      exact (HJ.out _ _ _).2 ⟨_, _, _, _, _, _, _, _, _, _, _, _, _, _, _, _, _, _, _, _, _, _, _, _, _, _, _, _, _, _, _, _, _, _, rfl, hG, hK, hO, o33.out, h0.out, h1.out, h2.out, h3.out, h4.out, fun _ => rfl, h6.out, h7.out, fun _ => rfl, h9.out, h10.out, h11.out, h12.out, h13.out, h14.out, h15.out, h16.out, h17.out, h18.out, h19.out, h20.out, h21.out, h22.out, h23.out, h24.out, h25.out, h26.out, h27.out, h28.out, h29.out, h30.out, h31.out, h32.out, h33.out⟩
    | 9, _ =>
      obtain ⟨ty, ps, af, ho⟩ := op_lit hops (i := 9) (op := Op.load 2 (Operand.tmp 13)) (dst := some 14) (g := some (5, true)) rfl
      obtain rfl := h5 (hdep 5 (by simp))
      have hy := fun tmps ht => yielded_lit hops (i := 5) (op := Op.move (Operand.tmp 9)) (t := 10) (g := none) rfl tmps true ht
      obtain rfl := h8 (hdep 8 (by simp))
      refine wpOp_lit ho (fun j b h => by cases h; exact hy _ rfl) ?_
      clear hops hdep ho hy
      replace h0 := hidH h0
      replace h1 := hidH h1
      replace h2 := hidH h2
      replace h3 := hidH h3
      replace h4 := hidH h4
      replace h5 := hidH h5
      replace h6 := hidH h6
      replace h7 := hidH h7
      replace h8 := hidH h8
      replace h10 := hidH h10
      replace h11 := hidH h11
      replace h12 := hidH h12
      replace h13 := hidH h13
      replace h14 := hidH h14
      replace h15 := hidH h15
      replace h16 := hidH h16
      replace h17 := hidH h17
      replace h18 := hidH h18
      replace h19 := hidH h19
      replace h20 := hidH h20
      replace h21 := hidH h21
      replace h22 := hidH h22
      replace h23 := hidH h23
      replace h24 := hidH h24
      replace h25 := hidH h25
      replace h26 := hidH h26
      replace h27 := hidH h27
      replace h28 := hidH h28
      replace h29 := hidH h29
      replace h30 := hidH h30
      replace h31 := hidH h31
      replace h32 := hidH h32
      replace h33 := hidH h33
      replace o33 := hidH o33
      have q1 := hK.cell 1
      simp only [List.getElem?_toArray, List.getElem?_cons_succ, List.getElem?_cons_zero] at q1
      go_wp2
      exact (HJ.out _ _ _).2 ⟨_, _, _, _, _, _, _, _, _, _, _, _, _, _, _, _, _, _, _, _, _, _, _, _, _, _, _, _, _, _, _, _, _, _, rfl, hG, hK, hO, o33.out, h0.out, h1.out, h2.out, h3.out, h4.out, fun _ => rfl, h6.out, h7.out, fun _ => rfl, fun _ => rfl, h10.out, h11.out, h12.out, h13.out, h14.out, h15.out, h16.out, h17.out, h18.out, h19.out, h20.out, h21.out, h22.out, h23.out, h24.out, h25.out, h26.out, h27.out, h28.out, h29.out, h30.out, h31.out, h32.out, h33.out⟩
    | 10, _ =>
      obtain ⟨ty, ps, af, ho⟩ := op_lit hops (i := 10) (op := Op.binOp BinOp.eql 2 (Operand.tmp 12) (Operand.tmp 14) 2) (dst := some 15) (g := some (5, true)) rfl
      obtain rfl := h5 (hdep 5 (by simp))
      have hy := fun tmps ht => yielded_lit hops (i := 5) (op := Op.move (Operand.tmp 9)) (t := 10) (g := none) rfl tmps true ht
      obtain rfl := h7 (hdep 7 (by simp))
      obtain rfl := h9 (hdep 9 (by simp))
      refine wpOp_lit ho (fun j b h => by cases h; exact hy _ rfl) ?_
      clear hops hdep ho hy
      replace h0 := hidH h0
      replace h1 := hidH h1
      replace h2 := hidH h2
      replace h3 := hidH h3
      replace h4 := hidH h4
      replace h5 := hidH h5
      replace h6 := hidH h6
      replace h7 := hidH h7
      replace h8 := hidH h8
      replace h9 := hidH h9
      replace h11 := hidH h11
      replace h12 := hidH h12
      replace h13 := hidH h13
      replace h14 := hidH h14
      replace h15 := hidH h15
      replace h16 := hidH h16
      replace h17 := hidH h17
      replace h18 := hidH h18
      replace h19 := hidH h19
      replace h20 := hidH h20
      replace h21 := hidH h21
      replace h22 := hidH h22
      replace h23 := hidH h23
      replace h24 := hidH h24
      replace h25 := hidH h25
      replace h26 := hidH h26
      replace h27 := hidH h27
      replace h28 := hidH h28
      replace h29 := hidH h29
      replace h30 := hidH h30
      replace h31 := hidH h31
      replace h32 := hidH h32
      replace h33 := hidH h33
      replace o33 := hidH o33
      have f := f1
      go_wp2
      exact (HJ.out _ _ _).2 ⟨_, _, _, _, _, _, _, _, _, _, _, _, _, _, _, _, _, _, _, _, _, _, _, _, _, _, _, _, _, _, _, _, _, _, rfl, hG, hK, hO, o33.out, h0.out, h1.out, h2.out, h3.out, h4.out, fun _ => rfl, h6.out, fun _ => rfl, h8.out, fun _ => rfl, fun _ => rfl, h11.out, h12.out, h13.out, h14.out, h15.out, h16.out, h17.out, h18.out, h19.out, h20.out, h21.out, h22.out, h23.out, h24.out, h25.out, h26.out, h27.out, h28.out, h29.out, h30.out, h31.out, h32.out, h33.out⟩
    | 11, _ =>
      obtain ⟨ty, ps, af, ho⟩ := op_lit hops (i := 11) (op := Op.pick (Operand.tmp 10) (Operand.tmp 15) (Operand.const (Value.bool false))) (dst := some 16) (g := none) rfl
      obtain rfl := h5 (hdep 5 (by simp))
      obtain rfl := h10 (hdep 10 (by simp))
      refine wpOp_lit ho (fun j b h => by cases h) ?_
      clear hops hdep ho
      replace h0 := hidH h0
      replace h1 := hidH h1
      replace h2 := hidH h2
      replace h3 := hidH h3
      replace h4 := hidH h4
      replace h5 := hidH h5
      replace h6 := hidH h6
      replace h7 := hidH h7
      replace h8 := hidH h8
      replace h9 := hidH h9
      replace h10 := hidH h10
      replace h12 := hidH h12
      replace h13 := hidH h13
      replace h14 := hidH h14
      replace h15 := hidH h15
      replace h16 := hidH h16
      replace h17 := hidH h17
      replace h18 := hidH h18
      replace h19 := hidH h19
      replace h20 := hidH h20
      replace h21 := hidH h21
      replace h22 := hidH h22
      replace h23 := hidH h23
      replace h24 := hidH h24
      replace h25 := hidH h25
      replace h26 := hidH h26
      replace h27 := hidH h27
      replace h28 := hidH h28
      replace h29 := hidH h29
      replace h30 := hidH h30
      replace h31 := hidH h31
      replace h32 := hidH h32
      replace h33 := hidH h33
      replace o33 := hidH o33
      go_wp2
      exact (HJ.out _ _ _).2 ⟨_, _, _, _, _, _, _, _, _, _, _, _, _, _, _, _, _, _, _, _, _, _, _, _, _, _, _, _, _, _, _, _, _, _, rfl, hG, hK, hO, o33.out, h0.out, h1.out, h2.out, h3.out, h4.out, fun _ => rfl, h6.out, h7.out, h8.out, h9.out, fun _ => rfl, fun _ => rfl, h12.out, h13.out, h14.out, h15.out, h16.out, h17.out, h18.out, h19.out, h20.out, h21.out, h22.out, h23.out, h24.out, h25.out, h26.out, h27.out, h28.out, h29.out, h30.out, h31.out, h32.out, h33.out⟩
    | 12, _ =>
      obtain ⟨ty, ps, af, ho⟩ := op_lit hops (i := 12) (op := Op.move (Operand.tmp 16)) (dst := some 17) (g := none) rfl
      obtain rfl := h11 (hdep 11 (by simp))
      refine wpOp_lit ho (fun j b h => by cases h) ?_
      clear hops hdep ho
      replace h0 := hidH h0
      replace h1 := hidH h1
      replace h2 := hidH h2
      replace h3 := hidH h3
      replace h4 := hidH h4
      replace h5 := hidH h5
      replace h6 := hidH h6
      replace h7 := hidH h7
      replace h8 := hidH h8
      replace h9 := hidH h9
      replace h10 := hidH h10
      replace h11 := hidH h11
      replace h13 := hidH h13
      replace h14 := hidH h14
      replace h15 := hidH h15
      replace h16 := hidH h16
      replace h17 := hidH h17
      replace h18 := hidH h18
      replace h19 := hidH h19
      replace h20 := hidH h20
      replace h21 := hidH h21
      replace h22 := hidH h22
      replace h23 := hidH h23
      replace h24 := hidH h24
      replace h25 := hidH h25
      replace h26 := hidH h26
      replace h27 := hidH h27
      replace h28 := hidH h28
      replace h29 := hidH h29
      replace h30 := hidH h30
      replace h31 := hidH h31
      replace h32 := hidH h32
      replace h33 := hidH h33
      replace o33 := hidH o33
      go_wp2
      exact (HJ.out _ _ _).2 ⟨_, _, _, _, _, _, _, _, _, _, _, _, _, _, _, _, _, _, _, _, _, _, _, _, _, _, _, _, _, _, _, _, _, _, rfl, hG, hK, hO, o33.out, h0.out, h1.out, h2.out, h3.out, h4.out, h5.out, h6.out, h7.out, h8.out, h9.out, h10.out, fun _ => rfl, fun _ => rfl, h13.out, h14.out, h15.out, h16.out, h17.out, h18.out, h19.out, h20.out, h21.out, h22.out, h23.out, h24.out, h25.out, h26.out, h27.out, h28.out, h29.out, h30.out, h31.out, h32.out, h33.out⟩
    | 13, _ =>
      obtain ⟨ty, ps, af, ho⟩ := op_lit hops (i := 13) (op := Op.fieldAddr 69 (Operand.tmp 2) 2) (dst := some 18) (g := some (12, true)) rfl
      obtain rfl := h12 (hdep 12 (by simp))
      have hy := fun tmps ht => yielded_lit hops (i := 12) (op := Op.move (Operand.tmp 16)) (t := 17) (g := none) rfl tmps true ht
      refine wpOp_lit ho (fun j b h => by cases h; exact hy _ rfl) ?_
      clear hops hdep ho hy
      replace h0 := hidH h0
      replace h1 := hidH h1
      replace h2 := hidH h2
      replace h3 := hidH h3
      replace h4 := hidH h4
      replace h5 := hidH h5
      replace h6 := hidH h6
      replace h7 := hidH h7
      replace h8 := hidH h8
      replace h9 := hidH h9
      replace h10 := hidH h10
      replace h11 := hidH h11
      replace h12 := hidH h12
      replace h14 := hidH h14
      replace h15 := hidH h15
      replace h16 := hidH h16
      replace h17 := hidH h17
      replace h18 := hidH h18
      replace h19 := hidH h19
      replace h20 := hidH h20
      replace h21 := hidH h21
      replace h22 := hidH h22
      replace h23 := hidH h23
      replace h24 := hidH h24
      replace h25 := hidH h25
      replace h26 := hidH h26
      replace h27 := hidH h27
      replace h28 := hidH h28
      replace h29 := hidH h29
      replace h30 := hidH h30
      replace h31 := hidH h31
      replace h32 := hidH h32
      replace h33 := hidH h33
      replace o33 := hidH o33
      go_wp2
      exact (HJ.out _ _ _).2 ⟨_, _, _, _, _, _, _, _, _, _, _, _, _, _, _, _, _, _, _, _, _, _, _, _, _, _, _, _, _, _, _, _, _, _, rfl, hG, hK, hO, o33.out, h0.out, h1.out, h2.out, h3.out, h4.out, h5.out, h6.out, h7.out, h8.out, h9.out, h10.out, h11.out, fun _ => rfl, fun _ => rfl, h14.out, h15.out, h16.out, h17.out, h18.out, h19.out, h20.out, h21.out, h22.out, h23.out, h24.out, h25.out, h26.out, h27.out, h28.out, h29.out, h30.out, h31.out, h32.out, h33.out⟩
    | 14, _ =>
      obtain ⟨ty, ps, af, ho⟩ := op_lit hops (i := 14) (op := Op.load 2 (Operand.tmp 18)) (dst := some 19) (g := some (12, true)) rfl
      obtain rfl := h12 (hdep 12 (by simp))
      have hy := fun tmps ht => yielded_lit hops (i := 12) (op := Op.move (Operand.tmp 16)) (t := 17) (g := none) rfl tmps true ht
      obtain rfl := h13 (hdep 13 (by simp))
      refine wpOp_lit ho (fun j b h => by cases h; exact hy _ rfl) ?_
      clear hops hdep ho hy
      replace h0 := hidH h0
      replace h1 := hidH h1
      replace h2 := hidH h2
      replace h3 := hidH h3
      replace h4 := hidH h4
      replace h5 := hidH h5
      replace h6 := hidH h6
      replace h7 := hidH h7
      replace h8 := hidH h8
      replace h9 := hidH h9
      replace h10 := hidH h10
      replace h11 := hidH h11
      replace h12 := hidH h12
      replace h13 := hidH h13
      replace h15 := hidH h15
      replace h16 := hidH h16
      replace h17 := hidH h17
      replace h18 := hidH h18
      replace h19 := hidH h19
      replace h20 := hidH h20
      replace h21 := hidH h21
      replace h22 := hidH h22
      replace h23 := hidH h23
      replace h24 := hidH h24
      replace h25 := hidH h25
      replace h26 := hidH h26
      replace h27 := hidH h27
      replace h28 := hidH h28
      replace h29 := hidH h29
      replace h30 := hidH h30
      replace h31 := hidH h31
      replace h32 := hidH h32
      replace h33 := hidH h33
      replace o33 := hidH o33
      have q2 := hG.cell 2
      simp only [List.getElem?_toArray, List.getElem?_cons_succ, List.getElem?_cons_zero] at q2
      go_wp2
      exact (HJ.out _ _ _).2 ⟨_, _, _, _, _, _, _, _, _, _, _, _, _, _, _, _, _, _, _, _, _, _, _, _, _, _, _, _, _, _, _, _, _, _, rfl, hG, hK, hO, o33.out, h0.out, h1.out, h2.out, h3.out, h4.out, h5.out, h6.out, h7.out, h8.out, h9.out, h10.out, h11.out, fun _ => rfl, fun _ => rfl, fun _ => rfl, h15.out, h16.out, h17.out, h18.out, h19.out, h20.out, h21.out, h22.out, h23.out, h24.out, h25.out, h26.out, h27.out, h28.out, h29.out, h30.out, h31.out, h32.out, h33.out⟩
    | 15, _ =>
      obtain ⟨ty, ps, af, ho⟩ := op_lit hops (i := 15) (op := Op.fieldAddr 69 (Operand.tmp 3) 2) (dst := some 20) (g := some (12, true)) rfl
      obtain rfl := h12 (hdep 12 (by simp))
      have hy := fun tmps ht => yielded_lit hops (i := 12) (op := Op.move (Operand.tmp 16)) (t := 17) (g := none) rfl tmps true ht
      refine wpOp_lit ho (fun j b h => by cases h; exact hy _ rfl) ?_
      clear hops hdep ho hy
      replace h0 := hidH h0
      replace h1 := hidH h1
      replace h2 := hidH h2
      replace h3 := hidH h3
      replace h4 := hidH h4
      replace h5 := hidH h5
      replace h6 := hidH h6
      replace h7 := hidH h7
      replace h8 := hidH h8
      replace h9 := hidH h9
      replace h10 := hidH h10
      replace h11 := hidH h11
      replace h12 := hidH h12
      replace h13 := hidH h13
      replace h14 := hidH h14
      replace h16 := hidH h16
      replace h17 := hidH h17
      replace h18 := hidH h18
      replace h19 := hidH h19
      replace h20 := hidH h20
      replace h21 := hidH h21
      replace h22 := hidH h22
      replace h23 := hidH h23
      replace h24 := hidH h24
      replace h25 := hidH h25
      replace h26 := hidH h26
      replace h27 := hidH h27
      replace h28 := hidH h28
      replace h29 := hidH h29
      replace h30 := hidH h30
      replace h31 := hidH h31
      replace h32 := hidH h32
      replace h33 := hidH h33
      replace o33 := hidH o33
      go_wp2
      exact (HJ.out _ _ _).2 ⟨_, _, _, _, _, _, _, _, _, _, _, _, _, _, _, _, _, _, _, _, _, _, _, _, _, _, _, _, _, _, _, _, _, _, rfl, hG, hK, hO, o33.out, h0.out, h1.out, h2.out, h3.out, h4.out, h5.out, h6.out, h7.out, h8.out, h9.out, h10.out, h11.out, fun _ => rfl, h13.out, h14.out, fun _ => rfl, h16.out, h17.out, h18.out, h19.out, h20.out, h21.out, h22.out, h23.out, h24.out, h25.out, h26.out, h27.out, h28.out, h29.out, h30.out, h31.out, h32.out, h33.out⟩
    | 16, _ =>
      obtain ⟨ty, ps, af, ho⟩ := op_lit hops (i := 16) (op := Op.load 2 (Operand.tmp 20)) (dst := some 21) (g := some (12, true)) rfl
      obtain rfl := h12 (hdep 12 (by simp))
      have hy := fun tmps ht => yielded_lit hops (i := 12) (op := Op.move (Operand.tmp 16)) (t := 17) (g := none) rfl tmps true ht
      obtain rfl := h15 (hdep 15 (by simp))
      refine wpOp_lit ho (fun j b h => by cases h; exact hy _ rfl) ?_
      clear hops hdep ho hy
      replace h0 := hidH h0
      replace h1 := hidH h1
      replace h2 := hidH h2
      replace h3 := hidH h3
      replace h4 := hidH h4
      replace h5 := hidH h5
      replace h6 := hidH h6
      replace h7 := hidH h7
      replace h8 := hidH h8
      replace h9 := hidH h9
      replace h10 := hidH h10
      replace h11 := hidH h11
      replace h12 := hidH h12
      replace h13 := hidH h13
      replace h14 := hidH h14
      replace h15 := hidH h15
      replace h17 := hidH h17
      replace h18 := hidH h18
      replace h19 := hidH h19
      replace h20 := hidH h20
      replace h21 := hidH h21
      replace h22 := hidH h22
      replace h23 := hidH h23
      replace h24 := hidH h24
      replace h25 := hidH h25
      replace h26 := hidH h26
      replace h27 := hidH h27
      replace h28 := hidH h28
      replace h29 := hidH h29
      replace h30 := hidH h30
      replace h31 := hidH h31
      replace h32 := hidH h32
      replace h33 := hidH h33
      replace o33 := hidH o33
      have q2 := hK.cell 2
      simp only [List.getElem?_toArray, List.getElem?_cons_succ, List.getElem?_cons_zero] at q2
      go_wp2
      exact (HJ.out _ _ _).2 ⟨_, _, _, _, _, _, _, _, _, _, _, _, _, _, _, _, _, _, _, _, _, _, _, _, _, _, _, _, _, _, _, _, _, _, rfl, hG, hK, hO, o33.out, h0.out, h1.out, h2.out, h3.out, h4.out, h5.out, h6.out, h7.out, h8.out, h9.out, h10.out, h11.out, fun _ => rfl, h13.out, h14.out, fun _ => rfl, fun _ => rfl, h17.out, h18.out, h19.out, h20.out, h21.out, h22.out, h23.out, h24.out, h25.out, h26.out, h27.out, h28.out, h29.out, h30.out, h31.out, h32.out, h33.out⟩
    | 17, _ =>
      obtain ⟨ty, ps, af, ho⟩ := op_lit hops (i := 17) (op := Op.binOp BinOp.eql 2 (Operand.tmp 19) (Operand.tmp 21) 2) (dst := some 22) (g := some (12, true)) rfl
      obtain rfl := h12 (hdep 12 (by simp))
      have hy := fun tmps ht => yielded_lit hops (i := 12) (op := Op.move (Operand.tmp 16)) (t := 17) (g := none) rfl tmps true ht
      obtain rfl := h14 (hdep 14 (by simp))
      obtain rfl := h16 (hdep 16 (by simp))
      refine wpOp_lit ho (fun j b h => by cases h; exact hy _ rfl) ?_
      clear hops hdep ho hy
      replace h0 := hidH h0
      replace h1 := hidH h1
      replace h2 := hidH h2
      replace h3 := hidH h3
      replace h4 := hidH h4
      replace h5 := hidH h5
      replace h6 := hidH h6
      replace h7 := hidH h7
      replace h8 := hidH h8
      replace h9 := hidH h9
      replace h10 := hidH h10
      replace h11 := hidH h11
      replace h12 := hidH h12
      replace h13 := hidH h13
      replace h14 := hidH h14
      replace h15 := hidH h15
      replace h16 := hidH h16
      replace h18 := hidH h18
      replace h19 := hidH h19
      replace h20 := hidH h20
      replace h21 := hidH h21
      replace h22 := hidH h22
      replace h23 := hidH h23
      replace h24 := hidH h24
      replace h25 := hidH h25
      replace h26 := hidH h26
      replace h27 := hidH h27
      replace h28 := hidH h28
      replace h29 := hidH h29
      replace h30 := hidH h30
      replace h31 := hidH h31
      replace h32 := hidH h32
      replace h33 := hidH h33
      replace o33 := hidH o33
      have f := f2
      go_wp2
      exact (HJ.out _ _ _).2 ⟨_, _, _, _, _, _, _, _, _, _, _, _, _, _, _, _, _, _, _, _, _, _, _, _, _, _, _, _, _, _, _, _, _, _, rfl, hG, hK, hO, o33.out, h0.out, h1.out, h2.out, h3.out, h4.out, h5.out, h6.out, h7.out, h8.out, h9.out, h10.out, h11.out, fun _ => rfl, h13.out, fun _ => rfl, h15.out, fun _ => rfl, fun _ => rfl, h18.out, h19.out, h20.out, h21.out, h22.out, h23.out, h24.out, h25.out, h26.out, h27.out, h28.out, h29.out, h30.out, h31.out, h32.out, h33.out⟩
    | 18, _ =>
      obtain ⟨ty, ps, af, ho⟩ := op_lit hops (i := 18) (op := Op.pick (Operand.tmp 17) (Operand.tmp 22) (Operand.const (Value.bool false))) (dst := some 23) (g := none) rfl
      obtain rfl := h12 (hdep 12 (by simp))
      obtain rfl := h17 (hdep 17 (by simp))
      refine wpOp_lit ho (fun j b h => by cases h) ?_
      clear hops hdep ho
      replace h0 := hidH h0
      replace h1 := hidH h1
      replace h2 := hidH h2
      replace h3 := hidH h3
      replace h4 := hidH h4
      replace h5 := hidH h5
      replace h6 := hidH h6
      replace h7 := hidH h7
      replace h8 := hidH h8
      replace h9 := hidH h9
      replace h10 := hidH h10
      replace h11 := hidH h11
      replace h12 := hidH h12
      replace h13 := hidH h13
      replace h14 := hidH h14
      replace h15 := hidH h15
      replace h16 := hidH h16
      replace h17 := hidH h17
      replace h19 := hidH h19
      replace h20 := hidH h20
      replace h21 := hidH h21
      replace h22 := hidH h22
      replace h23 := hidH h23
      replace h24 := hidH h24
      replace h25 := hidH h25
      replace h26 := hidH h26
      replace h27 := hidH h27
      replace h28 := hidH h28
      replace h29 := hidH h29
      replace h30 := hidH h30
      replace h31 := hidH h31
      replace h32 := hidH h32
      replace h33 := hidH h33
      replace o33 := hidH o33
      go_wp2
      exact (HJ.out _ _ _).2 ⟨_, _, _, _, _, _, _, _, _, _, _, _, _, _, _, _, _, _, _, _, _, _, _, _, _, _, _, _, _, _, _, _, _, _, rfl, hG, hK, hO, o33.out, h0.out, h1.out, h2.out, h3.out, h4.out, h5.out, h6.out, h7.out, h8.out, h9.out, h10.out, h11.out, fun _ => rfl, h13.out, h14.out, h15.out, h16.out, fun _ => rfl, fun _ => rfl, h19.out, h20.out, h21.out, h22.out, h23.out, h24.out, h25.out, h26.out, h27.out, h28.out, h29.out, h30.out, h31.out, h32.out, h33.out⟩
    | 19, _ =>
      obtain ⟨ty, ps, af, ho⟩ := op_lit hops (i := 19) (op := Op.move (Operand.tmp 23)) (dst := some 24) (g := none) rfl
      obtain rfl := h18 (hdep 18 (by simp))
      refine wpOp_lit ho (fun j b h => by cases h) ?_
      clear hops hdep ho
      replace h0 := hidH h0
      replace h1 := hidH h1
      replace h2 := hidH h2
      replace h3 := hidH h3
      replace h4 := hidH h4
      replace h5 := hidH h5
      replace h6 := hidH h6
      replace h7 := hidH h7
      replace h8 := hidH h8
      replace h9 := hidH h9
      replace h10 := hidH h10
      replace h11 := hidH h11
      replace h12 := hidH h12
      replace h13 := hidH h13
      replace h14 := hidH h14
      replace h15 := hidH h15
      replace h16 := hidH h16
      replace h17 := hidH h17
      replace h18 := hidH h18
      replace h20 := hidH h20
      replace h21 := hidH h21
      replace h22 := hidH h22
      replace h23 := hidH h23
      replace h24 := hidH h24
      replace h25 := hidH h25
      replace h26 := hidH h26
      replace h27 := hidH h27
      replace h28 := hidH h28
      replace h29 := hidH h29
      replace h30 := hidH h30
      replace h31 := hidH h31
      replace h32 := hidH h32
      replace h33 := hidH h33
      replace o33 := hidH o33
      go_wp2
      exact (HJ.out _ _ _).2 ⟨_, _, _, _, _, _, _, _, _, _, _, _, _, _, _, _, _, _, _, _, _, _, _, _, _, _, _, _, _, _, _, _, _, _, rfl, hG, hK, hO, o33.out, h0.out, h1.out, h2.out, h3.out, h4.out, h5.out, h6.out, h7.out, h8.out, h9.out, h10.out, h11.out, h12.out, h13.out, h14.out, h15.out, h16.out, h17.out, fun _ => rfl, fun _ => rfl, h20.out, h21.out, h22.out, h23.out, h24.out, h25.out, h26.out, h27.out, h28.out, h29.out, h30.out, h31.out, h32.out, h33.out⟩
    | 20, _ =>
      obtain ⟨ty, ps, af, ho⟩ := op_lit hops (i := 20) (op := Op.load 69 (Operand.tmp 2)) (dst := some 25) (g := some (19, true)) rfl
      obtain rfl := h19 (hdep 19 (by simp))
      have hy := fun tmps ht => yielded_lit hops (i := 19) (op := Op.move (Operand.tmp 23)) (t := 24) (g := none) rfl tmps true ht
      refine wpOp_lit ho (fun j b h => by cases h; exact hy _ rfl) ?_
      clear hops hdep ho hy
      replace h0 := hidH h0
      replace h1 := hidH h1
      replace h2 := hidH h2
      replace h3 := hidH h3
      replace h4 := hidH h4
      replace h5 := hidH h5
      replace h6 := hidH h6
      replace h7 := hidH h7
      replace h8 := hidH h8
      replace h9 := hidH h9
      replace h10 := hidH h10
      replace h11 := hidH h11
      replace h12 := hidH h12
      replace h13 := hidH h13
      replace h14 := hidH h14
      replace h15 := hidH h15
      replace h16 := hidH h16
      replace h17 := hidH h17
      replace h18 := hidH h18
      replace h19 := hidH h19
      replace h21 := hidH h21
      replace h22 := hidH h22
      replace h23 := hidH h23
      replace h24 := hidH h24
      replace h25 := hidH h25
      replace h26 := hidH h26
      replace h27 := hidH h27
      replace h28 := hidH h28
      replace h29 := hidH h29
      replace h30 := hidH h30
      replace h31 := hidH h31
      replace h32 := hidH h32
      replace h33 := hidH h33
      replace o33 := hidH o33
      have q0 := hG.cell 0
      have q1 := hG.cell 1
      have q2 := hG.cell 2
      have q3 := hG.cell 3
      have q4 := hG.cell 4
      have q5 := hG.cell 5
      have q6 := hG.cell 6
      simp only [List.getElem?_toArray, List.getElem?_cons_succ, List.getElem?_cons_zero] at q0 q1 q2 q3 q4 q5 q6
      go_wp2
      exact (HJ.out _ _ _).2 ⟨_, _, _, _, _, _, _, _, _, _, _, _, _, _, _, _, _, _, _, _, _, _, _, _, _, _, _, _, _, _, _, _, _, _, rfl, hG, hK, hO, o33.out, h0.out, h1.out, h2.out, h3.out, h4.out, h5.out, h6.out, h7.out, h8.out, h9.out, h10.out, h11.out, h12.out, h13.out, h14.out, h15.out, h16.out, h17.out, h18.out, fun _ => rfl, fun _ => rfl, h21.out, h22.out, h23.out, h24.out, h25.out, h26.out, h27.out, h28.out, h29.out, h30.out, h31.out, h32.out, h33.out⟩
    | 21, _ =>
      obtain ⟨ty, ps, af, ho⟩ := op_lit hops (i := 21) (op := Op.call { callee := Callee.value (Operand.func 159), args := #[(Operand.tmp 25)], argTypes := #[69] }) (dst := some 26) (g := some (19, true)) rfl
      obtain rfl := h19 (hdep 19 (by simp))
      have hy := fun tmps ht => yielded_lit hops (i := 19) (op := Op.move (Operand.tmp 23)) (t := 24) (g := none) rfl tmps true ht
      obtain rfl := h20 (hdep 20 (by simp))
      refine wpOp_lit ho (fun j b h => by cases h; exact hy _ rfl) ?_
      clear hops hdep ho hy
      replace h0 := hidH h0
      replace h1 := hidH h1
      replace h2 := hidH h2
      replace h3 := hidH h3
      replace h4 := hidH h4
      replace h5 := hidH h5
      replace h6 := hidH h6
      replace h7 := hidH h7
      replace h8 := hidH h8
      replace h9 := hidH h9
      replace h10 := hidH h10
      replace h11 := hidH h11
      replace h12 := hidH h12
      replace h13 := hidH h13
      replace h14 := hidH h14
      replace h15 := hidH h15
      replace h16 := hidH h16
      replace h17 := hidH h17
      replace h18 := hidH h18
      replace h19 := hidH h19
      replace h20 := hidH h20
      replace h22 := hidH h22
      replace h23 := hidH h23
      replace h24 := hidH h24
      replace h25 := hidH h25
      replace h26 := hidH h26
      replace h27 := hidH h27
      replace h28 := hidH h28
      replace h29 := hidH h29
      replace h30 := hidH h30
      replace h31 := hidH h31
      replace h32 := hidH h32
      replace h33 := hidH h33
      replace o33 := hidH o33
      go_wp2_with fail
      refine (FX W).mono ?_
      rintro e w9 ⟨rfl, hb⟩
      go_wp2
      exact (HJ.out _ _ _).2 ⟨_, _, _, _, _, _, _, _, _, _, _, _, _, _, _, _, _, _, _, _, _, _, _, _, _, _, _, _, _, _, _, _, _, _, rfl, hG.below hb, hK.below hb, btr hO hb, o33.out, h0.out, h1.out, h2.out, h3.out, h4.out, h5.out, h6.out, h7.out, h8.out, h9.out, h10.out, h11.out, h12.out, h13.out, h14.out, h15.out, h16.out, h17.out, h18.out, fun _ => rfl, fun _ => rfl, fun _ => rfl, h22.out, h23.out, h24.out, h25.out, h26.out, h27.out, h28.out, h29.out, h30.out, h31.out, h32.out, h33.out⟩
    | 22, _ =>
      obtain ⟨ty, ps, af, ho⟩ := op_lit hops (i := 22) (op := Op.load 69 (Operand.tmp 3)) (dst := some 27) (g := some (19, true)) rfl
      obtain rfl := h19 (hdep 19 (by simp))
      have hy := fun tmps ht => yielded_lit hops (i := 19) (op := Op.move (Operand.tmp 23)) (t := 24) (g := none) rfl tmps true ht
      refine wpOp_lit ho (fun j b h => by cases h; exact hy _ rfl) ?_
      clear hops hdep ho hy
      replace h0 := hidH h0
      replace h1 := hidH h1
      replace h2 := hidH h2
      replace h3 := hidH h3
      replace h4 := hidH h4
      replace h5 := hidH h5
      replace h6 := hidH h6
      replace h7 := hidH h7
      replace h8 := hidH h8
      replace h9 := hidH h9
      replace h10 := hidH h10
      replace h11 := hidH h11
      replace h12 := hidH h12
      replace h13 := hidH h13
      replace h14 := hidH h14
      replace h15 := hidH h15
      replace h16 := hidH h16
      replace h17 := hidH h17
      replace h18 := hidH h18
      replace h19 := hidH h19
      replace h20 := hidH h20
      replace h21 := hidH h21
      replace h23 := hidH h23
      replace h24 := hidH h24
      replace h25 := hidH h25
      replace h26 := hidH h26
      replace h27 := hidH h27
      replace h28 := hidH h28
      replace h29 := hidH h29
      replace h30 := hidH h30
      replace h31 := hidH h31
      replace h32 := hidH h32
      replace h33 := hidH h33
      replace o33 := hidH o33
      have q0 := hK.cell 0
      have q1 := hK.cell 1
      have q2 := hK.cell 2
      have q3 := hK.cell 3
      have q4 := hK.cell 4
      have q5 := hK.cell 5
      have q6 := hK.cell 6
      simp only [List.getElem?_toArray, List.getElem?_cons_succ, List.getElem?_cons_zero] at q0 q1 q2 q3 q4 q5 q6
      go_wp2
      exact (HJ.out _ _ _).2 ⟨_, _, _, _, _, _, _, _, _, _, _, _, _, _, _, _, _, _, _, _, _, _, _, _, _, _, _, _, _, _, _, _, _, _, rfl, hG, hK, hO, o33.out, h0.out, h1.out, h2.out, h3.out, h4.out, h5.out, h6.out, h7.out, h8.out, h9.out, h10.out, h11.out, h12.out, h13.out, h14.out, h15.out, h16.out, h17.out, h18.out, fun _ => rfl, h20.out, h21.out, fun _ => rfl, h23.out, h24.out, h25.out, h26.out, h27.out, h28.out, h29.out, h30.out, h31.out, h32.out, h33.out⟩
    | 23, _ =>
      obtain ⟨ty, ps, af, ho⟩ := op_lit hops (i := 23) (op := Op.call { callee := Callee.value (Operand.func 159), args := #[(Operand.tmp 27)], argTypes := #[69] }) (dst := some 28) (g := some (19, true)) rfl
      obtain rfl := h19 (hdep 19 (by simp))
      have hy := fun tmps ht => yielded_lit hops (i := 19) (op := Op.move (Operand.tmp 23)) (t := 24) (g := none) rfl tmps true ht
      obtain rfl := h22 (hdep 22 (by simp))
      refine wpOp_lit ho (fun j b h => by cases h; exact hy _ rfl) ?_
      clear hops hdep ho hy
      replace h0 := hidH h0
      replace h1 := hidH h1
      replace h2 := hidH h2
      replace h3 := hidH h3
      replace h4 := hidH h4
      replace h5 := hidH h5
      replace h6 := hidH h6
      replace h7 := hidH h7
      replace h8 := hidH h8
      replace h9 := hidH h9
      replace h10 := hidH h10
      replace h11 := hidH h11
      replace h12 := hidH h12
      replace h13 := hidH h13
      replace h14 := hidH h14
      replace h15 := hidH h15
      replace h16 := hidH h16
      replace h17 := hidH h17
      replace h18 := hidH h18
      replace h19 := hidH h19
      replace h20 := hidH h20
      replace h21 := hidH h21
      replace h22 := hidH h22
      replace h24 := hidH h24
      replace h25 := hidH h25
      replace h26 := hidH h26
      replace h27 := hidH h27
      replace h28 := hidH h28
      replace h29 := hidH h29
      replace h30 := hidH h30
      replace h31 := hidH h31
      replace h32 := hidH h32
      replace h33 := hidH h33
      replace o33 := hidH o33
      go_wp2_with fail
      refine (FY W).mono ?_
      rintro e w9 ⟨rfl, hb⟩
      go_wp2
      exact (HJ.out _ _ _).2 ⟨_, _, _, _, _, _, _, _, _, _, _, _, _, _, _, _, _, _, _, _, _, _, _, _, _, _, _, _, _, _, _, _, _, _, rfl, hG.below hb, hK.below hb, btr hO hb, o33.out, h0.out, h1.out, h2.out, h3.out, h4.out, h5.out, h6.out, h7.out, h8.out, h9.out, h10.out, h11.out, h12.out, h13.out, h14.out, h15.out, h16.out, h17.out, h18.out, fun _ => rfl, h20.out, h21.out, fun _ => rfl, fun _ => rfl, h24.out, h25.out, h26.out, h27.out, h28.out, h29.out, h30.out, h31.out, h32.out, h33.out⟩
    | 24, _ =>
      obtain ⟨ty, ps, af, ho⟩ := op_lit hops (i := 24) (op := Op.binOp BinOp.eql 2 (Operand.tmp 26) (Operand.tmp 28) 2) (dst := some 29) (g := some (19, true)) rfl
      obtain rfl := h19 (hdep 19 (by simp))
      have hy := fun tmps ht => yielded_lit hops (i := 19) (op := Op.move (Operand.tmp 23)) (t := 24) (g := none) rfl tmps true ht
      obtain rfl := h21 (hdep 21 (by simp))
      obtain rfl := h23 (hdep 23 (by simp))
      refine wpOp_lit ho (fun j b h => by cases h; exact hy _ rfl) ?_
      clear hops hdep ho hy
      replace h0 := hidH h0
      replace h1 := hidH h1
      replace h2 := hidH h2
      replace h3 := hidH h3
      replace h4 := hidH h4
      replace h5 := hidH h5
      replace h6 := hidH h6
      replace h7 := hidH h7
      replace h8 := hidH h8
      replace h9 := hidH h9
      replace h10 := hidH h10
      replace h11 := hidH h11
      replace h12 := hidH h12
      replace h13 := hidH h13
      replace h14 := hidH h14
      replace h15 := hidH h15
      replace h16 := hidH h16
      replace h17 := hidH h17
      replace h18 := hidH h18
      replace h19 := hidH h19
      replace h20 := hidH h20
      replace h21 := hidH h21
      replace h22 := hidH h22
      replace h23 := hidH h23
      replace h25 := hidH h25
      replace h26 := hidH h26
      replace h27 := hidH h27
      replace h28 := hidH h28
      replace h29 := hidH h29
      replace h30 := hidH h30
      replace h31 := hidH h31
      replace h32 := hidH h32
      replace h33 := hidH h33
      replace o33 := hidH o33
      have f := fz
      go_wp2
      exact (HJ.out _ _ _).2 ⟨_, _, _, _, _, _, _, _, _, _, _, _, _, _, _, _, _, _, _, _, _, _, _, _, _, _, _, _, _, _, _, _, _, _, rfl, hG, hK, hO, o33.out, h0.out, h1.out, h2.out, h3.out, h4.out, h5.out, h6.out, h7.out, h8.out, h9.out, h10.out, h11.out, h12.out, h13.out, h14.out, h15.out, h16.out, h17.out, h18.out, fun _ => rfl, h20.out, fun _ => rfl, h22.out, fun _ => rfl, fun _ => rfl, h25.out, h26.out, h27.out, h28.out, h29.out, h30.out, h31.out, h32.out, h33.out⟩
    | 25, _ =>
      obtain ⟨ty, ps, af, ho⟩ := op_lit hops (i := 25) (op := Op.pick (Operand.tmp 24) (Operand.tmp 29) (Operand.const (Value.bool false))) (dst := some 30) (g := none) rfl
      obtain rfl := h19 (hdep 19 (by simp))
      obtain rfl := h24 (hdep 24 (by simp))
      refine wpOp_lit ho (fun j b h => by cases h) ?_
      clear hops hdep ho
      replace h0 := hidH h0
      replace h1 := hidH h1
      replace h2 := hidH h2
      replace h3 := hidH h3
      replace h4 := hidH h4
      replace h5 := hidH h5
      replace h6 := hidH h6
      replace h7 := hidH h7
      replace h8 := hidH h8
      replace h9 := hidH h9
      replace h10 := hidH h10
      replace h11 := hidH h11
      replace h12 := hidH h12
      replace h13 := hidH h13
      replace h14 := hidH h14
      replace h15 := hidH h15
      replace h16 := hidH h16
      replace h17 := hidH h17
      replace h18 := hidH h18
      replace h19 := hidH h19
      replace h20 := hidH h20
      replace h21 := hidH h21
      replace h22 := hidH h22
      replace h23 := hidH h23
      replace h24 := hidH h24
      replace h26 := hidH h26
      replace h27 := hidH h27
      replace h28 := hidH h28
      replace h29 := hidH h29
      replace h30 := hidH h30
      replace h31 := hidH h31
      replace h32 := hidH h32
      replace h33 := hidH h33
      replace o33 := hidH o33
      go_wp2
      exact (HJ.out _ _ _).2 ⟨_, _, _, _, _, _, _, _, _, _, _, _, _, _, _, _, _, _, _, _, _, _, _, _, _, _, _, _, _, _, _, _, _, _, rfl, hG, hK, hO, o33.out, h0.out, h1.out, h2.out, h3.out, h4.out, h5.out, h6.out, h7.out, h8.out, h9.out, h10.out, h11.out, h12.out, h13.out, h14.out, h15.out, h16.out, h17.out, h18.out, fun _ => rfl, h20.out, h21.out, h22.out, h23.out, fun _ => rfl, fun _ => rfl, h26.out, h27.out, h28.out, h29.out, h30.out, h31.out, h32.out, h33.out⟩
    | 26, _ =>
      obtain ⟨ty, ps, af, ho⟩ := op_lit hops (i := 26) (op := Op.move (Operand.tmp 30)) (dst := some 31) (g := none) rfl
      obtain rfl := h25 (hdep 25 (by simp))
      refine wpOp_lit ho (fun j b h => by cases h) ?_
      clear hops hdep ho
      replace h0 := hidH h0
      replace h1 := hidH h1
      replace h2 := hidH h2
      replace h3 := hidH h3
      replace h4 := hidH h4
      replace h5 := hidH h5
      replace h6 := hidH h6
      replace h7 := hidH h7
      replace h8 := hidH h8
      replace h9 := hidH h9
      replace h10 := hidH h10
      replace h11 := hidH h11
      replace h12 := hidH h12
      replace h13 := hidH h13
      replace h14 := hidH h14
      replace h15 := hidH h15
      replace h16 := hidH h16
      replace h17 := hidH h17
      replace h18 := hidH h18
      replace h19 := hidH h19
      replace h20 := hidH h20
      replace h21 := hidH h21
      replace h22 := hidH h22
      replace h23 := hidH h23
      replace h24 := hidH h24
      replace h25 := hidH h25
      replace h27 := hidH h27
      replace h28 := hidH h28
      replace h29 := hidH h29
      replace h30 := hidH h30
      replace h31 := hidH h31
      replace h32 := hidH h32
      replace h33 := hidH h33
      replace o33 := hidH o33
      go_wp2
      exact (HJ.out _ _ _).2 ⟨_, _, _, _, _, _, _, _, _, _, _, _, _, _, _, _, _, _, _, _, _, _, _, _, _, _, _, _, _, _, _, _, _, _, rfl, hG, hK, hO, o33.out, h0.out, h1.out, h2.out, h3.out, h4.out, h5.out, h6.out, h7.out, h8.out, h9.out, h10.out, h11.out, h12.out, h13.out, h14.out, h15.out, h16.out, h17.out, h18.out, h19.out, h20.out, h21.out, h22.out, h23.out, h24.out, fun _ => rfl, fun _ => rfl, h27.out, h28.out, h29.out, h30.out, h31.out, h32.out, h33.out⟩
    | 27, _ =>
      obtain ⟨ty, ps, af, ho⟩ := op_lit hops (i := 27) (op := Op.fieldAddr 69 (Operand.tmp 2) 6) (dst := some 32) (g := some (26, true)) rfl
      obtain rfl := h26 (hdep 26 (by simp))
      have hy := fun tmps ht => yielded_lit hops (i := 26) (op := Op.move (Operand.tmp 30)) (t := 31) (g := none) rfl tmps false ht
      refine wpOp_off ho (hy _ rfl) (by decide) ?_
      clear hops hdep
      replace h0 := hidH h0
      replace h1 := hidH h1
      replace h2 := hidH h2
      replace h3 := hidH h3
      replace h4 := hidH h4
      replace h5 := hidH h5
      replace h6 := hidH h6
      replace h7 := hidH h7
      replace h8 := hidH h8
      replace h9 := hidH h9
      replace h10 := hidH h10
      replace h11 := hidH h11
      replace h12 := hidH h12
      replace h13 := hidH h13
      replace h14 := hidH h14
      replace h15 := hidH h15
      replace h16 := hidH h16
      replace h17 := hidH h17
      replace h18 := hidH h18
      replace h19 := hidH h19
      replace h20 := hidH h20
      replace h21 := hidH h21
      replace h22 := hidH h22
      replace h23 := hidH h23
      replace h24 := hidH h24
      replace h25 := hidH h25
      replace h26 := hidH h26
      replace h28 := hidH h28
      replace h29 := hidH h29
      replace h30 := hidH h30
      replace h31 := hidH h31
      replace h32 := hidH h32
      replace h33 := hidH h33
      replace o33 := hidH o33
      exact (HJ.out _ _ _).2 ⟨_, _, _, _, _, _, _, _, _, _, _, _, _, _, _, _, _, _, _, _, _, _, _, _, _, _, _, _, _, _, _, _, _, _, rfl, hG, hK, hO, o33.out, h0.out, h1.out, h2.out, h3.out, h4.out, h5.out, h6.out, h7.out, h8.out, h9.out, h10.out, h11.out, h12.out, h13.out, h14.out, h15.out, h16.out, h17.out, h18.out, h19.out, h20.out, h21.out, h22.out, h23.out, h24.out, h25.out, fun _ => rfl, fun _ => rfl, h28.out, h29.out, h30.out, h31.out, h32.out, h33.out⟩
    | 28, _ =>
      obtain ⟨ty, ps, af, ho⟩ := op_lit hops (i := 28) (op := Op.load 22 (Operand.tmp 32)) (dst := some 33) (g := some (26, true)) rfl
      obtain rfl := h26 (hdep 26 (by simp))
      have hy := fun tmps ht => yielded_lit hops (i := 26) (op := Op.move (Operand.tmp 30)) (t := 31) (g := none) rfl tmps false ht
      refine wpOp_off ho (hy _ rfl) (by decide) ?_
      clear hops hdep
      replace h0 := hidH h0
      replace h1 := hidH h1
      replace h2 := hidH h2
      replace h3 := hidH h3
      replace h4 := hidH h4
      replace h5 := hidH h5
      replace h6 := hidH h6
      replace h7 := hidH h7
      replace h8 := hidH h8
      replace h9 := hidH h9
      replace h10 := hidH h10
      replace h11 := hidH h11
      replace h12 := hidH h12
      replace h13 := hidH h13
      replace h14 := hidH h14
      replace h15 := hidH h15
      replace h16 := hidH h16
      replace h17 := hidH h17
      replace h18 := hidH h18
      replace h19 := hidH h19
      replace h20 := hidH h20
      replace h21 := hidH h21
      replace h22 := hidH h22
      replace h23 := hidH h23
      replace h24 := hidH h24
      replace h25 := hidH h25
      replace h26 := hidH h26
      replace h27 := hidH h27
      replace h29 := hidH h29
      replace h30 := hidH h30
      replace h31 := hidH h31
      replace h32 := hidH h32
      replace h33 := hidH h33
      replace o33 := hidH o33
      exact (HJ.out _ _ _).2 ⟨_, _, _, _, _, _, _, _, _, _, _, _, _, _, _, _, _, _, _, _, _, _, _, _, _, _, _, _, _, _, _, _, _, _, rfl, hG, hK, hO, o33.out, h0.out, h1.out, h2.out, h3.out, h4.out, h5.out, h6.out, h7.out, h8.out, h9.out, h10.out, h11.out, h12.out, h13.out, h14.out, h15.out, h16.out, h17.out, h18.out, h19.out, h20.out, h21.out, h22.out, h23.out, h24.out, h25.out, fun _ => rfl, h27.out, fun _ => rfl, h29.out, h30.out, h31.out, h32.out, h33.out⟩
    | 29, _ =>
      obtain ⟨ty, ps, af, ho⟩ := op_lit hops (i := 29) (op := Op.fieldAddr 69 (Operand.tmp 3) 6) (dst := some 34) (g := some (26, true)) rfl
      obtain rfl := h26 (hdep 26 (by simp))
      have hy := fun tmps ht => yielded_lit hops (i := 26) (op := Op.move (Operand.tmp 30)) (t := 31) (g := none) rfl tmps false ht
      refine wpOp_off ho (hy _ rfl) (by decide) ?_
      clear hops hdep
      replace h0 := hidH h0
      replace h1 := hidH h1
      replace h2 := hidH h2
      replace h3 := hidH h3
      replace h4 := hidH h4
      replace h5 := hidH h5
      replace h6 := hidH h6
      replace h7 := hidH h7
      replace h8 := hidH h8
      replace h9 := hidH h9
      replace h10 := hidH h10
      replace h11 := hidH h11
      replace h12 := hidH h12
      replace h13 := hidH h13
      replace h14 := hidH h14
      replace h15 := hidH h15
      replace h16 := hidH h16
      replace h17 := hidH h17
      replace h18 := hidH h18
      replace h19 := hidH h19
      replace h20 := hidH h20
      replace h21 := hidH h21
      replace h22 := hidH h22
      replace h23 := hidH h23
      replace h24 := hidH h24
      replace h25 := hidH h25
      replace h26 := hidH h26
      replace h27 := hidH h27
      replace h28 := hidH h28
      replace h30 := hidH h30
      replace h31 := hidH h31
      replace h32 := hidH h32
      replace h33 := hidH h33
      replace o33 := hidH o33
      exact (HJ.out _ _ _).2 ⟨_, _, _, _, _, _, _, _, _, _, _, _, _, _, _, _, _, _, _, _, _, _, _, _, _, _, _, _, _, _, _, _, _, _, rfl, hG, hK, hO, o33.out, h0.out, h1.out, h2.out, h3.out, h4.out, h5.out, h6.out, h7.out, h8.out, h9.out, h10.out, h11.out, h12.out, h13.out, h14.out, h15.out, h16.out, h17.out, h18.out, h19.out, h20.out, h21.out, h22.out, h23.out, h24.out, h25.out, fun _ => rfl, h27.out, h28.out, fun _ => rfl, h30.out, h31.out, h32.out, h33.out⟩
    | 30, _ =>
      obtain ⟨ty, ps, af, ho⟩ := op_lit hops (i := 30) (op := Op.load 22 (Operand.tmp 34)) (dst := some 35) (g := some (26, true)) rfl
      obtain rfl := h26 (hdep 26 (by simp))
      have hy := fun tmps ht => yielded_lit hops (i := 26) (op := Op.move (Operand.tmp 30)) (t := 31) (g := none) rfl tmps false ht
      refine wpOp_off ho (hy _ rfl) (by decide) ?_
      clear hops hdep
      replace h0 := hidH h0
      replace h1 := hidH h1
      replace h2 := hidH h2
      replace h3 := hidH h3
      replace h4 := hidH h4
      replace h5 := hidH h5
      replace h6 := hidH h6
      replace h7 := hidH h7
      replace h8 := hidH h8
      replace h9 := hidH h9
      replace h10 := hidH h10
      replace h11 := hidH h11
      replace h12 := hidH h12
      replace h13 := hidH h13
      replace h14 := hidH h14
      replace h15 := hidH h15
      replace h16 := hidH h16
      replace h17 := hidH h17
      replace h18 := hidH h18
      replace h19 := hidH h19
      replace h20 := hidH h20
      replace h21 := hidH h21
      replace h22 := hidH h22
      replace h23 := hidH h23
      replace h24 := hidH h24
      replace h25 := hidH h25
      replace h26 := hidH h26
      replace h27 := hidH h27
      replace h28 := hidH h28
      replace h29 := hidH h29
      replace h31 := hidH h31
      replace h32 := hidH h32
      replace h33 := hidH h33
      replace o33 := hidH o33
      exact (HJ.out _ _ _).2 ⟨_, _, _, _, _, _, _, _, _, _, _, _, _, _, _, _, _, _, _, _, _, _, _, _, _, _, _, _, _, _, _, _, _, _, rfl, hG, hK, hO, o33.out, h0.out, h1.out, h2.out, h3.out, h4.out, h5.out, h6.out, h7.out, h8.out, h9.out, h10.out, h11.out, h12.out, h13.out, h14.out, h15.out, h16.out, h17.out, h18.out, h19.out, h20.out, h21.out, h22.out, h23.out, h24.out, h25.out, fun _ => rfl, h27.out, h28.out, h29.out, fun _ => rfl, h31.out, h32.out, h33.out⟩
    | 31, _ =>
      obtain ⟨ty, ps, af, ho⟩ := op_lit hops (i := 31) (op := Op.call { callee := Callee.value (Operand.func 160), args := #[(Operand.tmp 33), (Operand.tmp 35)], argTypes := #[22, 22] }) (dst := some 36) (g := some (26, true)) rfl
      obtain rfl := h26 (hdep 26 (by simp))
      have hy := fun tmps ht => yielded_lit hops (i := 26) (op := Op.move (Operand.tmp 30)) (t := 31) (g := none) rfl tmps false ht
      refine wpOp_off ho (hy _ rfl) (by decide) ?_
      clear hops hdep
      replace h0 := hidH h0
      replace h1 := hidH h1
      replace h2 := hidH h2
      replace h3 := hidH h3
      replace h4 := hidH h4
      replace h5 := hidH h5
      replace h6 := hidH h6
      replace h7 := hidH h7
      replace h8 := hidH h8
      replace h9 := hidH h9
      replace h10 := hidH h10
      replace h11 := hidH h11
      replace h12 := hidH h12
      replace h13 := hidH h13
      replace h14 := hidH h14
      replace h15 := hidH h15
      replace h16 := hidH h16
      replace h17 := hidH h17
      replace h18 := hidH h18
      replace h19 := hidH h19
      replace h20 := hidH h20
      replace h21 := hidH h21
      replace h22 := hidH h22
      replace h23 := hidH h23
      replace h24 := hidH h24
      replace h25 := hidH h25
      replace h26 := hidH h26
      replace h27 := hidH h27
      replace h28 := hidH h28
      replace h29 := hidH h29
      replace h30 := hidH h30
      replace h32 := hidH h32
      replace h33 := hidH h33
      replace o33 := hidH o33
      exact (HJ.out _ _ _).2 ⟨_, _, _, _, _, _, _, _, _, _, _, _, _, _, _, _, _, _, _, _, _, _, _, _, _, _, _, _, _, _, _, _, _, _, rfl, hG, hK, hO, o33.out, h0.out, h1.out, h2.out, h3.out, h4.out, h5.out, h6.out, h7.out, h8.out, h9.out, h10.out, h11.out, h12.out, h13.out, h14.out, h15.out, h16.out, h17.out, h18.out, h19.out, h20.out, h21.out, h22.out, h23.out, h24.out, h25.out, fun _ => rfl, h27.out, h28.out, h29.out, h30.out, fun _ => rfl, h32.out, h33.out⟩
    | 32, _ =>
      obtain ⟨ty, ps, af, ho⟩ := op_lit hops (i := 32) (op := Op.pick (Operand.tmp 31) (Operand.tmp 36) (Operand.const (Value.bool false))) (dst := some 37) (g := none) rfl
      obtain rfl := h26 (hdep 26 (by simp))
      obtain rfl := h31 (hdep 31 (by simp))
      refine wpOp_lit ho (fun j b h => by cases h) ?_
      clear hops hdep ho
      replace h0 := hidH h0
      replace h1 := hidH h1
      replace h2 := hidH h2
      replace h3 := hidH h3
      replace h4 := hidH h4
      replace h5 := hidH h5
      replace h6 := hidH h6
      replace h7 := hidH h7
      replace h8 := hidH h8
      replace h9 := hidH h9
      replace h10 := hidH h10
      replace h11 := hidH h11
      replace h12 := hidH h12
      replace h13 := hidH h13
      replace h14 := hidH h14
      replace h15 := hidH h15
      replace h16 := hidH h16
      replace h17 := hidH h17
      replace h18 := hidH h18
      replace h19 := hidH h19
      replace h20 := hidH h20
      replace h21 := hidH h21
      replace h22 := hidH h22
      replace h23 := hidH h23
      replace h24 := hidH h24
      replace h25 := hidH h25
      replace h26 := hidH h26
      replace h27 := hidH h27
      replace h28 := hidH h28
      replace h29 := hidH h29
      replace h30 := hidH h30
      replace h31 := hidH h31
      replace h33 := hidH h33
      replace o33 := hidH o33
      go_wp2
      exact (HJ.out _ _ _).2 ⟨_, _, _, _, _, _, _, _, _, _, _, _, _, _, _, _, _, _, _, _, _, _, _, _, _, _, _, _, _, _, _, _, _, _, rfl, hG, hK, hO, o33.out, h0.out, h1.out, h2.out, h3.out, h4.out, h5.out, h6.out, h7.out, h8.out, h9.out, h10.out, h11.out, h12.out, h13.out, h14.out, h15.out, h16.out, h17.out, h18.out, h19.out, h20.out, h21.out, h22.out, h23.out, h24.out, h25.out, fun _ => rfl, h27.out, h28.out, h29.out, h30.out, fun _ => rfl, fun _ => rfl, h33.out⟩
    | 33, _ =>
      obtain ⟨ty, ps, af, ho⟩ := op_lit hops (i := 33) (op := Op.assign (Operand.tmp 37)) (dst := some 4) (g := none) rfl
      obtain rfl := h32 (hdep 32 (by simp))
      obtain rfl := o33 hdn
      refine wpOp_lit ho (fun j b h => by cases h) ?_
      clear hops hdep ho
      replace h0 := hidH h0
      replace h1 := hidH h1
      replace h2 := hidH h2
      replace h3 := hidH h3
      replace h4 := hidH h4
      replace h5 := hidH h5
      replace h6 := hidH h6
      replace h7 := hidH h7
      replace h8 := hidH h8
      replace h9 := hidH h9
      replace h10 := hidH h10
      replace h11 := hidH h11
      replace h12 := hidH h12
      replace h13 := hidH h13
      replace h14 := hidH h14
      replace h15 := hidH h15
      replace h16 := hidH h16
      replace h17 := hidH h17
      replace h18 := hidH h18
      replace h19 := hidH h19
      replace h20 := hidH h20
      replace h21 := hidH h21
      replace h22 := hidH h22
      replace h23 := hidH h23
      replace h24 := hidH h24
      replace h25 := hidH h25
      replace h26 := hidH h26
      replace h27 := hidH h27
      replace h28 := hidH h28
      replace h29 := hidH h29
      replace h30 := hidH h30
      replace h31 := hidH h31
      replace h32 := hidH h32
      go_wp2
      exact (HJ.out _ _ _).2 ⟨_, _, _, _, _, _, _, _, _, _, _, _, _, _, _, _, _, _, _, _, _, _, _, _, _, _, _, _, _, _, _, _, _, _, rfl, hG, hK, hO, (fun h => by simp at h), h0.out, h1.out, h2.out, h3.out, h4.out, h5.out, h6.out, h7.out, h8.out, h9.out, h10.out, h11.out, h12.out, h13.out, h14.out, h15.out, h16.out, h17.out, h18.out, h19.out, h20.out, h21.out, h22.out, h23.out, h24.out, h25.out, h26.out, h27.out, h28.out, h29.out, h30.out, h31.out, fun _ => rfl, fun _ => rfl⟩
    | n + 34, h => omega
  case fin =>
    clear hops hdeps hback
    rintro dn ac W hJ hall
    obtain ⟨t5, t6, t7, t8, t9, t10, t11, t12, t13, t14, t15, t16, t17, t18, t19, t20, t21, t22, t23, t24, t25, t26, t27, t28, t29, t30, t31, t32, t33, t34, t35, t36, t37, t4, rfl, hG, hK, hO, o33, h0, h1, h2, h3, h4, h5, h6, h7, h8, h9, h10, h11, h12, h13, h14, h15, h16, h17, h18, h19, h20, h21, h22, h23, h24, h25, h26, h27, h28, h29, h30, h31, h32, h33⟩ := (HJ.out _ _ _).1 hJ
    obtain rfl := h33 (hall 33 (by omega))
    exact fin _ _ _ _ _ _ _ _ _ _ _ _ _ _ _ _ _ _ _ _ _ _ _ _ _ _ _ _ _ _ _ _ _ W hO
end Go.Proofs.Ythljdikcpdokdaa
