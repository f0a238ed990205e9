/- The region of the program's areWhole. -/
import Derived.Test.YtbfbfimmhpijfaaM8
import Derived.Test.YtbfbfimmhpijfaaUniR
import Derived.Test.YtbfbfimmhpijfaaRegInv
namespace Go.Proofs.Ytbfbfimmhpijfaa
open Go.RowKit Go.Deep

set_option maxRecDepth 100000 in
set_option maxHeartbeats 1000000 in
theorem regAW {Q : Exit → Act → World → Prop} (x1 x2 x5 x6 x7 x8 x9 x10 x11 x12 x13 x14 x15 x16 x17 x18 x19 x20 x21 x22 x23 x24 x25 x26 u_27 u_28 u_29 u_30 u_31 u_32 u_33 u_34 u_35 u_36 u_37 u_38 x39 : Value) (ww : World) (x y : DataM) (p z b : Bool) (A B : Option Addr) (ca cb g ga oa k m c : Nat)
    (hga : ga < ww.heap.size) (c0 : ww.cell? ⟨ga, oa + m * 7, none⟩ = some (.int .i64 y.Tsn)) (c1 : ww.cell? ⟨ga, oa + m * 7 + 1, none⟩ = some (.int .i64 y.Stream)) (c2 : ww.cell? ⟨ga, oa + m * 7 + 2, none⟩ = some (.int .i64 y.Seq)) (c3 : ww.cell? ⟨ga, oa + m * 7 + 3, none⟩ = some (.bool y.First)) (c4 : ww.cell? ⟨ga, oa + m * 7 + 4, none⟩ = some (.bool y.Last)) (c5 : ww.cell? ⟨ga, oa + m * 7 + 5, none⟩ = some (.bool y.Unordered)) (c6 : ww.cell? ⟨ga, oa + m * 7 + 6, none⟩ = some (.slice B y.Piece.length cb)) (hi0 : (0 : Int) ≤ (m : Int)) (hi1 : (m : Int) < (k : Int) + 1) (hgt : (0 : Int) < (m : Int) + 1) (him : (m : Int) ≤ 1000)
    (FO : ∀ u : World, Calls Try.prog 86 #[.agg #[.int .i64 x.Tsn, .int .i64 x.Stream, .int .i64 x.Seq, .bool p, .bool z, .bool x.Unordered, .slice A x.Piece.length ca], .agg #[.int .i64 y.Tsn, .int .i64 y.Stream, .int .i64 y.Seq, .bool y.First, .bool y.Last, .bool y.Unordered, .slice B y.Piece.length cb]] u (fun e w' => e = .returned (.bool b) ∧ Below u.heap.size u w')) {ops : Array Oper}
    (hops : (ops.map fun o => (o.op, o.dst, o.guard)) = #[(Op.move (Operand.tmp 3), some 27, none), (Op.binOp BinOp.gtr 3 (Operand.tmp 27) ((Operand.const (Value.int .i64 0))) 3, some 28, none), (Op.move (Operand.tmp 28), some 29, none), (Op.load 38 (Operand.tmp 4), some 30, some (2, true)), (Op.move (Operand.tmp 0), some 31, some (2, true)), (Op.move (Operand.tmp 3), some 32, some (2, true)), (Op.binOp BinOp.sub 3 (Operand.tmp 32) ((Operand.const (Value.int .i64 1))) 3, some 33, some (2, true)), (Op.indexAddr 28 (Operand.tmp 31) (Operand.tmp 33), some 34, some (2, true)), (Op.load 38 (Operand.tmp 34), some 35, some (2, true)), (Op.call { callee := Callee.value (Operand.func 86), args := #[(Operand.tmp 30), (Operand.tmp 35)], argTypes := #[38, 38] }, some 36, some (2, true)), (Op.unOp UnOp.not 4 (Operand.tmp 36), some 37, some (2, true)), (Op.pick (Operand.tmp 29) (Operand.tmp 37) (Operand.const (Value.bool false)), some 38, none)])
    (hdeps : ((List.range 12).all fun i => ((fun i => [[], [0], [1], [2], [2], [2], [2, 5], [2, 4, 6], [2, 7], [2, 3, 8], [2, 9], [2, 10]].getD i []) i).all fun j => ((ops[i]?).map fun o => o.after.any fun e => Region.binds .any e && e.on == j).getD false) = true)
    (hback : ((List.range 12).all fun i => ((ops[i]?).map fun o => o.after.all fun e => decide (e.on < i)).getD false) = true)
    {a0 : Act} {w0 : World} (ha : a0 = { tmps := #[.slice (some ⟨ga, oa, none⟩) (k + 1) c, x1, x2, .int .i64 ((m : Int) + 1), .pointer (some ⟨g, 0, none⟩), x5, x6, x7, x8, x9, x10, x11, x12, x13, x14, x15, x16, x17, x18, x19, x20, x21, x22, x23, x24, x25, x26, u_27, u_28, u_29, u_30, u_31, u_32, u_33, u_34, u_35, u_36, u_37, u_38, x39], defers := [] }) (hG : Blk w0 g 38 #[.int .i64 x.Tsn, .int .i64 x.Stream, .int .i64 x.Seq, .bool p, .bool z, .bool x.Unordered, .slice A x.Piece.length ca]) (hO : Below ww.heap.size ww w0)
    (fin : ∀ t27 t28 t29 t30 t31 t32 t33 t34 t35 t36 t37 (W : World), (Below ww.heap.size ww W) → Q .normal { tmps := #[.slice (some ⟨ga, oa, none⟩) (k + 1) c, x1, x2, .int .i64 ((m : Int) + 1), .pointer (some ⟨g, 0, none⟩), x5, x6, x7, x8, x9, x10, x11, x12, x13, x14, x15, x16, x17, x18, x19, x20, x21, x22, x23, x24, x25, x26, t27, t28, t29, t30, t31, t32, t33, t34, t35, t36, t37, .bool (!b), x39], defers := [] } W) :
    wpAny Try.prog .any ops Q ops.size (Array.replicate ops.size false) a0 w0 := by
  have hn : ops.size = 12 := by have := congrArg Array.size hops; simpa using this
  obtain ⟨J, HJ⟩ : ∃ J : (Nat → Bool) → Act → World → Prop, ∀ dn ac W, J dn ac W ↔ (fun dn ac W => ∃ t27 t28 t29 t30 t31 t32 t33 t34 t35 t36 t37 t38, ac = { tmps := #[.slice (some ⟨ga, oa, none⟩) (k + 1) c, x1, x2, .int .i64 ((m : Int) + 1), .pointer (some ⟨g, 0, none⟩), x5, x6, x7, x8, x9, x10, x11, x12, x13, x14, x15, x16, x17, x18, x19, x20, x21, x22, x23, x24, x25, x26, t27, t28, t29, t30, t31, t32, t33, t34, t35, t36, t37, t38, x39], defers := [] } ∧ (Blk W g 38 #[.int .i64 x.Tsn, .int .i64 x.Stream, .int .i64 x.Seq, .bool p, .bool z, .bool x.Unordered, .slice A x.Piece.length ca]) ∧ (Below ww.heap.size ww W) ∧ (dn 0 = true → t27 = .int .i64 ((m : Int) + 1)) ∧ (dn 1 = true → t28 = .bool true) ∧ (dn 2 = true → t29 = .bool true) ∧ (dn 3 = true → t30 = .agg #[.int .i64 x.Tsn, .int .i64 x.Stream, .int .i64 x.Seq, .bool p, .bool z, .bool x.Unordered, .slice A x.Piece.length ca]) ∧ (dn 4 = true → t31 = .slice (some ⟨ga, oa, none⟩) (k + 1) c) ∧ (dn 5 = true → t32 = .int .i64 ((m : Int) + 1)) ∧ (dn 6 = true → t33 = .int .i64 (m : Int)) ∧ (dn 7 = true → t34 = .pointer (some ⟨ga, oa + m * 7, none⟩)) ∧ (dn 8 = true → t35 = .agg #[.int .i64 y.Tsn, .int .i64 y.Stream, .int .i64 y.Seq, .bool y.First, .bool y.Last, .bool y.Unordered, .slice B y.Piece.length cb]) ∧ (dn 9 = true → t36 = .bool b) ∧ (dn 10 = true → t37 = .bool (!b)) ∧ (dn 11 = true → t38 = .bool (!b))) dn ac W := ⟨_, fun _ _ _ => Iff.rfl⟩
  replace HJ := hidH HJ
  refine region_inv 12 (fun i => [[], [0], [1], [2], [2], [2], [2, 5], [2, 4, 6], [2, 7], [2, 3, 8], [2, 9], [2, 10]].getD i []) J hn hdeps hback ?start ?step ?fin
  case start => exact (HJ.out _ _ _).2 ⟨u_27, u_28, u_29, u_30, u_31, u_32, u_33, u_34, u_35, u_36, u_37, u_38, ha, hG, hO, fun h => by simp at h, fun h => by simp at h, fun h => by simp at h, fun h => by simp at h, fun h => by simp at h, fun h => by simp at h, fun h => by simp at h, fun h => by simp at h, fun h => by simp at h, fun h => by simp at h, fun h => by simp at h, fun h => by simp at h⟩
  all_goals clear ha hG hO
  case step =>
    clear fin hdeps hback
    intro i hi dn ac W hJ hdn hdep
    obtain ⟨t27, t28, t29, t30, t31, t32, t33, t34, t35, t36, t37, t38, rfl, hG, hO, h0, h1, h2, h3, h4, h5, h6, h7, h8, h9, h10, h11⟩ := (HJ.out _ _ _).1 hJ
    clear hJ
    match i, hi with
    | 0, _ =>
      obtain ⟨ty, ps, af, ho⟩ := op_lit hops (i := 0) (op := Op.move (Operand.tmp 3)) (dst := some 27) (g := none) rfl
      refine wpOp_lit ho (fun j b h => by cases h) ?_
      clear hops hdep ho
      replace h1 := hidH h1
      replace h2 := hidH h2
      replace h3 := hidH h3
      replace h4 := hidH h4
      replace h5 := hidH h5
      replace h6 := hidH h6
      replace h7 := hidH h7
      replace h8 := hidH h8
      replace h9 := hidH h9
      replace h10 := hidH h10
      replace h11 := hidH h11
      go_wp2
      exact (HJ.out _ _ _).2 ⟨_, _, _, _, _, _, _, _, _, _, _, _, rfl, hG, hO, fun _ => rfl, h1.out, h2.out, h3.out, h4.out, h5.out, h6.out, h7.out, h8.out, h9.out, h10.out, h11.out⟩
    | 1, _ =>
      obtain ⟨ty, ps, af, ho⟩ := op_lit hops (i := 1) (op := Op.binOp BinOp.gtr 3 (Operand.tmp 27) ((Operand.const (Value.int .i64 0))) 3) (dst := some 28) (g := none) rfl
      obtain rfl := h0 (hdep 0 (by simp))
      refine wpOp_lit ho (fun j b h => by cases h) ?_
      clear hops hdep ho
      replace h0 := hidH h0
      replace h2 := hidH h2
      replace h3 := hidH h3
      replace h4 := hidH h4
      replace h5 := hidH h5
      replace h6 := hidH h6
      replace h7 := hidH h7
      replace h8 := hidH h8
      replace h9 := hidH h9
      replace h10 := hidH h10
      replace h11 := hidH h11
      go_wp2
      exact (HJ.out _ _ _).2 ⟨_, _, _, _, _, _, _, _, _, _, _, _, rfl, hG, hO, fun _ => rfl, fun _ => rfl, h2.out, h3.out, h4.out, h5.out, h6.out, h7.out, h8.out, h9.out, h10.out, h11.out⟩
    | 2, _ =>
      obtain ⟨ty, ps, af, ho⟩ := op_lit hops (i := 2) (op := Op.move (Operand.tmp 28)) (dst := some 29) (g := none) rfl
      obtain rfl := h1 (hdep 1 (by simp))
      refine wpOp_lit ho (fun j b h => by cases h) ?_
      clear hops hdep ho
      replace h0 := hidH h0
      replace h1 := hidH h1
      replace h3 := hidH h3
      replace h4 := hidH h4
      replace h5 := hidH h5
      replace h6 := hidH h6
      replace h7 := hidH h7
      replace h8 := hidH h8
      replace h9 := hidH h9
      replace h10 := hidH h10
      replace h11 := hidH h11
      go_wp2
      exact (HJ.out _ _ _).2 ⟨_, _, _, _, _, _, _, _, _, _, _, _, rfl, hG, hO, h0.out, fun _ => rfl, fun _ => rfl, h3.out, h4.out, h5.out, h6.out, h7.out, h8.out, h9.out, h10.out, h11.out⟩
    | 3, _ =>
      obtain ⟨ty, ps, af, ho⟩ := op_lit hops (i := 3) (op := Op.load 38 (Operand.tmp 4)) (dst := some 30) (g := some (2, true)) rfl
      obtain rfl := h2 (hdep 2 (by simp))
      have hy := fun tmps ht => yielded_lit hops (i := 2) (op := Op.move (Operand.tmp 28)) (t := 29) (g := none) rfl tmps true ht
      refine wpOp_lit ho (fun j b h => by cases h; exact hy _ rfl) ?_
      clear hops hdep ho hy
      replace h0 := hidH h0
      replace h1 := hidH h1
      replace h2 := hidH h2
      replace h4 := hidH h4
      replace h5 := hidH h5
      replace h6 := hidH h6
      replace h7 := hidH h7
      replace h8 := hidH h8
      replace h9 := hidH h9
      replace h10 := hidH h10
      replace h11 := hidH h11
      have q0 := hG.cell 0
      have q1 := hG.cell 1
      have q2 := hG.cell 2
      have q3 := hG.cell 3
      have q4 := hG.cell 4
      have q5 := hG.cell 5
      have q6 := hG.cell 6
      simp only [List.getElem?_toArray, List.getElem?_cons_succ, List.getElem?_cons_zero] at q0 q1 q2 q3 q4 q5 q6
      go_wp2
      exact (HJ.out _ _ _).2 ⟨_, _, _, _, _, _, _, _, _, _, _, _, rfl, hG, hO, h0.out, h1.out, fun _ => rfl, fun _ => rfl, h4.out, h5.out, h6.out, h7.out, h8.out, h9.out, h10.out, h11.out⟩
    | 4, _ =>
      obtain ⟨ty, ps, af, ho⟩ := op_lit hops (i := 4) (op := Op.move (Operand.tmp 0)) (dst := some 31) (g := some (2, true)) rfl
      obtain rfl := h2 (hdep 2 (by simp))
      have hy := fun tmps ht => yielded_lit hops (i := 2) (op := Op.move (Operand.tmp 28)) (t := 29) (g := none) rfl tmps true ht
      refine wpOp_lit ho (fun j b h => by cases h; exact hy _ rfl) ?_
      clear hops hdep ho hy
      replace h0 := hidH h0
      replace h1 := hidH h1
      replace h2 := hidH h2
      replace h3 := hidH h3
      replace h5 := hidH h5
      replace h6 := hidH h6
      replace h7 := hidH h7
      replace h8 := hidH h8
      replace h9 := hidH h9
      replace h10 := hidH h10
      replace h11 := hidH h11
      go_wp2
      exact (HJ.out _ _ _).2 ⟨_, _, _, _, _, _, _, _, _, _, _, _, rfl, hG, hO, h0.out, h1.out, fun _ => rfl, h3.out, fun _ => rfl, h5.out, h6.out, h7.out, h8.out, h9.out, h10.out, h11.out⟩
    | 5, _ =>
      obtain ⟨ty, ps, af, ho⟩ := op_lit hops (i := 5) (op := Op.move (Operand.tmp 3)) (dst := some 32) (g := some (2, true)) rfl
      obtain rfl := h2 (hdep 2 (by simp))
      have hy := fun tmps ht => yielded_lit hops (i := 2) (op := Op.move (Operand.tmp 28)) (t := 29) (g := none) rfl tmps true ht
      refine wpOp_lit ho (fun j b h => by cases h; exact hy _ rfl) ?_
      clear hops hdep ho hy
      replace h0 := hidH h0
      replace h1 := hidH h1
      replace h2 := hidH h2
      replace h3 := hidH h3
      replace h4 := hidH h4
      replace h6 := hidH h6
      replace h7 := hidH h7
      replace h8 := hidH h8
      replace h9 := hidH h9
      replace h10 := hidH h10
      replace h11 := hidH h11
      go_wp2
      exact (HJ.out _ _ _).2 ⟨_, _, _, _, _, _, _, _, _, _, _, _, rfl, hG, hO, h0.out, h1.out, fun _ => rfl, h3.out, h4.out, fun _ => rfl, h6.out, h7.out, h8.out, h9.out, h10.out, h11.out⟩
    | 6, _ =>
      obtain ⟨ty, ps, af, ho⟩ := op_lit hops (i := 6) (op := Op.binOp BinOp.sub 3 (Operand.tmp 32) ((Operand.const (Value.int .i64 1))) 3) (dst := some 33) (g := some (2, true)) rfl
      obtain rfl := h2 (hdep 2 (by simp))
      have hy := fun tmps ht => yielded_lit hops (i := 2) (op := Op.move (Operand.tmp 28)) (t := 29) (g := none) rfl tmps true ht
      obtain rfl := h5 (hdep 5 (by simp))
      refine wpOp_lit ho (fun j b h => by cases h; exact hy _ rfl) ?_
      clear hops hdep ho hy
      replace h0 := hidH h0
      replace h1 := hidH h1
      replace h2 := hidH h2
      replace h3 := hidH h3
      replace h4 := hidH h4
      replace h5 := hidH h5
      replace h7 := hidH h7
      replace h8 := hidH h8
      replace h9 := hidH h9
      replace h10 := hidH h10
      replace h11 := hidH h11
      go_wp2
      exact (HJ.out _ _ _).2 ⟨_, _, _, _, _, _, _, _, _, _, _, _, rfl, hG, hO, h0.out, h1.out, fun _ => rfl, h3.out, h4.out, fun _ => rfl, fun _ => rfl, h7.out, h8.out, h9.out, h10.out, h11.out⟩
    | 7, _ =>
      obtain ⟨ty, ps, af, ho⟩ := op_lit hops (i := 7) (op := Op.indexAddr 28 (Operand.tmp 31) (Operand.tmp 33)) (dst := some 34) (g := some (2, true)) rfl
      obtain rfl := h2 (hdep 2 (by simp))
      have hy := fun tmps ht => yielded_lit hops (i := 2) (op := Op.move (Operand.tmp 28)) (t := 29) (g := none) rfl tmps true ht
      obtain rfl := h4 (hdep 4 (by simp))
      obtain rfl := h6 (hdep 6 (by simp))
      refine wpOp_lit ho (fun j b h => by cases h; exact hy _ rfl) ?_
      clear hops hdep ho hy
      replace h0 := hidH h0
      replace h1 := hidH h1
      replace h2 := hidH h2
      replace h3 := hidH h3
      replace h4 := hidH h4
      replace h5 := hidH h5
      replace h6 := hidH h6
      replace h8 := hidH h8
      replace h9 := hidH h9
      replace h10 := hidH h10
      replace h11 := hidH h11
      go_wp2
      exact (HJ.out _ _ _).2 ⟨_, _, _, _, _, _, _, _, _, _, _, _, rfl, hG, hO, h0.out, h1.out, fun _ => rfl, h3.out, fun _ => rfl, h5.out, fun _ => rfl, fun _ => rfl, h8.out, h9.out, h10.out, h11.out⟩
    | 8, _ =>
      obtain ⟨ty, ps, af, ho⟩ := op_lit hops (i := 8) (op := Op.load 38 (Operand.tmp 34)) (dst := some 35) (g := some (2, true)) rfl
      obtain rfl := h2 (hdep 2 (by simp))
      have hy := fun tmps ht => yielded_lit hops (i := 2) (op := Op.move (Operand.tmp 28)) (t := 29) (g := none) rfl tmps true ht
      obtain rfl := h7 (hdep 7 (by simp))
      refine wpOp_lit ho (fun j b h => by cases h; exact hy _ rfl) ?_
      clear hops hdep ho hy
      replace h0 := hidH h0
      replace h1 := hidH h1
      replace h2 := hidH h2
      replace h3 := hidH h3
      replace h4 := hidH h4
      replace h5 := hidH h5
      replace h6 := hidH h6
      replace h7 := hidH h7
      replace h9 := hidH h9
      replace h10 := hidH h10
      replace h11 := hidH h11
      have q0 := (hO.cell (p := ⟨ga, oa + m * 7, none⟩) hga).trans c0
      have q1 := (hO.cell (p := ⟨ga, oa + m * 7 + 1, none⟩) hga).trans c1
      have q2 := (hO.cell (p := ⟨ga, oa + m * 7 + 2, none⟩) hga).trans c2
      have q3 := (hO.cell (p := ⟨ga, oa + m * 7 + 3, none⟩) hga).trans c3
      have q4 := (hO.cell (p := ⟨ga, oa + m * 7 + 4, none⟩) hga).trans c4
      have q5 := (hO.cell (p := ⟨ga, oa + m * 7 + 5, none⟩) hga).trans c5
      have q6 := (hO.cell (p := ⟨ga, oa + m * 7 + 6, none⟩) hga).trans c6
      go_wp2
      exact (HJ.out _ _ _).2 ⟨_, _, _, _, _, _, _, _, _, _, _, _, rfl, hG, hO, h0.out, h1.out, fun _ => rfl, h3.out, h4.out, h5.out, h6.out, fun _ => rfl, fun _ => rfl, h9.out, h10.out, h11.out⟩
    | 9, _ =>
      obtain ⟨ty, ps, af, ho⟩ := op_lit hops (i := 9) (op := Op.call { callee := Callee.value (Operand.func 86), args := #[(Operand.tmp 30), (Operand.tmp 35)], argTypes := #[38, 38] }) (dst := some 36) (g := some (2, true)) rfl
      obtain rfl := h2 (hdep 2 (by simp))
      have hy := fun tmps ht => yielded_lit hops (i := 2) (op := Op.move (Operand.tmp 28)) (t := 29) (g := none) rfl tmps true ht
      obtain rfl := h3 (hdep 3 (by simp))
      obtain rfl := h8 (hdep 8 (by simp))
      refine wpOp_lit ho (fun j b h => by cases h; exact hy _ rfl) ?_
      clear hops hdep ho hy
      replace h0 := hidH h0
      replace h1 := hidH h1
      replace h2 := hidH h2
      replace h3 := hidH h3
      replace h4 := hidH h4
      replace h5 := hidH h5
      replace h6 := hidH h6
      replace h7 := hidH h7
      replace h8 := hidH h8
      replace h10 := hidH h10
      replace h11 := hidH h11
      go_wp2_with fail
      refine (FO W).mono ?_
      rintro e w9 ⟨rfl, hb⟩
      go_wp2
      exact (HJ.out _ _ _).2 ⟨_, _, _, _, _, _, _, _, _, _, _, _, rfl, hG.below hb, btr hO hb, h0.out, h1.out, fun _ => rfl, fun _ => rfl, h4.out, h5.out, h6.out, h7.out, fun _ => rfl, fun _ => rfl, h10.out, h11.out⟩
    | 10, _ =>
      obtain ⟨ty, ps, af, ho⟩ := op_lit hops (i := 10) (op := Op.unOp UnOp.not 4 (Operand.tmp 36)) (dst := some 37) (g := some (2, true)) rfl
      obtain rfl := h2 (hdep 2 (by simp))
      have hy := fun tmps ht => yielded_lit hops (i := 2) (op := Op.move (Operand.tmp 28)) (t := 29) (g := none) rfl tmps true ht
      obtain rfl := h9 (hdep 9 (by simp))
      refine wpOp_lit ho (fun j b h => by cases h; exact hy _ rfl) ?_
      clear hops hdep ho hy
      replace h0 := hidH h0
      replace h1 := hidH h1
      replace h2 := hidH h2
      replace h3 := hidH h3
      replace h4 := hidH h4
      replace h5 := hidH h5
      replace h6 := hidH h6
      replace h7 := hidH h7
      replace h8 := hidH h8
      replace h9 := hidH h9
      replace h11 := hidH h11
      go_wp2
      exact (HJ.out _ _ _).2 ⟨_, _, _, _, _, _, _, _, _, _, _, _, rfl, hG, hO, h0.out, h1.out, fun _ => rfl, h3.out, h4.out, h5.out, h6.out, h7.out, h8.out, fun _ => rfl, fun _ => rfl, h11.out⟩
    | 11, _ =>
      obtain ⟨ty, ps, af, ho⟩ := op_lit hops (i := 11) (op := Op.pick (Operand.tmp 29) (Operand.tmp 37) (Operand.const (Value.bool false))) (dst := some 38) (g := none) rfl
      obtain rfl := h2 (hdep 2 (by simp))
      obtain rfl := h10 (hdep 10 (by simp))
      refine wpOp_lit ho (fun j b h => by cases h) ?_
      clear hops hdep ho
      replace h0 := hidH h0
      replace h1 := hidH h1
      replace h2 := hidH h2
      replace h3 := hidH h3
      replace h4 := hidH h4
      replace h5 := hidH h5
      replace h6 := hidH h6
      replace h7 := hidH h7
      replace h8 := hidH h8
      replace h9 := hidH h9
      replace h10 := hidH h10
      go_wp2
      exact (HJ.out _ _ _).2 ⟨_, _, _, _, _, _, _, _, _, _, _, _, rfl, hG, hO, h0.out, h1.out, fun _ => rfl, h3.out, h4.out, h5.out, h6.out, h7.out, h8.out, h9.out, fun _ => rfl, fun _ => rfl⟩
    | n + 12, h => omega
  case fin =>
    clear hops hdeps hback
    rintro dn ac W hJ hall
    obtain ⟨t27, t28, t29, t30, t31, t32, t33, t34, t35, t36, t37, t38, rfl, hG, hO, h0, h1, h2, h3, h4, h5, h6, h7, h8, h9, h10, h11⟩ := (HJ.out _ _ _).1 hJ
    obtain rfl := h11 (hall 11 (by omega))
    exact fin _ _ _ _ _ _ _ _ _ _ _ W hO
end Go.Proofs.Ytbfbfimmhpijfaa
