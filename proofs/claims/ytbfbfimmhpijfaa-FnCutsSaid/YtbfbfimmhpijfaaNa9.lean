import Derived.Test.YtbfbfimmhpijfaaNa1
import Derived.Test.YtbfbfimmhpijfaaUniR
import Derived.Test.YtbfbfimmhpijfaaRegInv
import Derived.Test.YtbfbfimmhpijfaaNa8
import Derived.Test.YtbfbfimmhpijfaaNa3

/- The region of the program's areWhole. -/
namespace Go.Proofs.Ytbfbfimmhpijfaa
open Go.RowKit Go.Deep

set_option maxRecDepth 100000 in
set_option maxHeartbeats 1000000 in
theorem regAW {Q : Exit → Act → World → Prop} (x1 x2 x5 x6 x7 x8 x9 x10 x11 x12 x13 x14 x15 x16 x17 x18 x19 x20 x21 x22 x23 x24 x25 x26 u_27 u_28 u_29 u_30 u_31 u_32 u_33 u_34 u_35 u_36 u_37 u_38 x39 : Value) (ww : World) (x y : DataM) (p z b : Bool) (A B : Option Addr) (ca cb g ga oa k m c : Nat)
    (hga : ga < ww.heap.size) (c0 : ww.cell? ⟨ga, oa + m * 7, none⟩ = some (.int .i64 y.Tsn)) (c1 : ww.cell? ⟨ga, oa + m * 7 + 1, none⟩ = some (.int .i64 y.Stream)) (c2 : ww.cell? ⟨ga, oa + m * 7 + 2, none⟩ = some (.int .i64 y.Seq)) (c3 : ww.cell? ⟨ga, oa + m * 7 + 3, none⟩ = some (.bool y.First)) (c4 : ww.cell? ⟨ga, oa + m * 7 + 4, none⟩ = some (.bool y.Last)) (c5 : ww.cell? ⟨ga, oa + m * 7 + 5, none⟩ = some (.bool y.Unordered)) (c6 : ww.cell? ⟨ga, oa + m * 7 + 6, none⟩ = some (.slice B y.Piece.length cb)) (hi0 : (0 : Int) ≤ (m : Int)) (hi1 : (m : Int) < (k : Int) + 1) (hgt : (0 : Int) < (m : Int) + 1) (him : (m : Int) ≤ 1000)
    (FO : ∀ u : World, Calls Try.prog 86 #[.agg #[.int .i64 x.Tsn, .int .i64 x.Stream, .int .i64 x.Seq, .bool p, .bool z, .bool x.Unordered, .slice A x.Piece.length ca], .agg #[.int .i64 y.Tsn, .int .i64 y.Stream, .int .i64 y.Seq, .bool y.First, .bool y.Last, .bool y.Unordered, .slice B y.Piece.length cb]] u (fun e w' => e = .returned (.bool b) ∧ Below u.heap.size u w')) {ops : Array Oper}
    (hops : (ops.map fun o => (o.op, o.dst, o.guard)) = #[(Op.move (Operand.tmp 3), some 27, none), (Op.binOp BinOp.gtr 3 (Operand.tmp 27) ((Operand.const (Value.int .i64 0))) 3, some 28, none), (Op.move (Operand.tmp 28), some 29, none), (Op.load 38 (Operand.tmp 4), some 30, some (2, true)), (Op.move (Operand.tmp 0), some 31, some (2, true)), (Op.move (Operand.tmp 3), some 32, some (2, true)), (Op.binOp BinOp.sub 3 (Operand.tmp 32) ((Operand.const (Value.int .i64 1))) 3, some 33, some (2, true)), (Op.indexAddr 28 (Operand.tmp 31) (Operand.tmp 33), some 34, some (2, true)), (Op.load 38 (Operand.tmp 34), some 35, some (2, true)), (Op.call { callee := Callee.value (Operand.func 86), args := #[(Operand.tmp 30), (Operand.tmp 35)], argTypes := #[38, 38] }, some 36, some (2, true)), (Op.unOp UnOp.not 4 (Operand.tmp 36), some 37, some (2, true)), (Op.pick (Operand.tmp 29) (Operand.tmp 37) (Operand.const (Value.bool false)), some 38, none)])
    (hdeps : ((List.range 12).all fun i => ((fun i => [[], [0], [1], [2], [2], [2], [2, 5], [2, 4, 6], [2, 7], [2, 3, 8], [2, 9], [2, 10]].getD i []) i).all fun j => ((ops[i]?).map fun o => o.after.any fun e => Region.binds .any e && e.on == j).getD false) = true)
    (hback : ((List.range 12).all fun i => ((ops[i]?).map fun o => o.after.all fun e => decide (e.on < i)).getD false) = true)
    {a0 : Act} {w0 : World} (ha : a0 = { tmps := #[.slice (some ⟨ga, oa, none⟩) (k + 1) c, x1, x2, .int .i64 ((m : Int) + 1), .pointer (some ⟨g, 0, none⟩), x5, x6, x7, x8, x9, x10, x11, x12, x13, x14, x15, x16, x17, x18, x19, x20, x21, x22, x23, x24, x25, x26, u_27, u_28, u_29, u_30, u_31, u_32, u_33, u_34, u_35, u_36, u_37, u_38, x39], defers := [] }) (hG : Blk w0 g 38 #[.int .i64 x.Tsn, .int .i64 x.Stream, .int .i64 x.Seq, .bool p, .bool z, .bool x.Unordered, .slice A x.Piece.length ca]) (hO : Below ww.heap.size ww w0)
    (fin : ∀ t27 t28 t29 t30 t31 t32 t33 t34 t35 t36 t37 (W : World), (Below ww.heap.size ww W) → Q .normal { tmps := #[.slice (some ⟨ga, oa, none⟩) (k + 1) c, x1, x2, .int .i64 ((m : Int) + 1), .pointer (some ⟨g, 0, none⟩), x5, x6, x7, x8, x9, x10, x11, x12, x13, x14, x15, x16, x17, x18, x19, x20, x21, x22, x23, x24, x25, x26, t27, t28, t29, t30, t31, t32, t33, t34, t35, t36, t37, .bool (!b), x39], defers := [] } W) :
    wpAny Try.prog .any ops Q ops.size (Array.replicate ops.size false) a0 w0 := by
  have hn : ops.size = 12 := by have := congrArg Array.size hops; simpa using this
  obtain ⟨J, HJ⟩ : ∃ J : (Nat → Bool) → Act → World → Prop, ∀ dn ac W, J dn ac W ↔ (fun dn ac W => ∃ t27 t28 t29 t30 t31 t32 t33 t34 t35 t36 t37 t38, ac = { tmps := #[.slice (some ⟨ga, oa, none⟩) (k + 1) c, x1, x2, .int .i64 ((m : Int) + 1), .pointer (some ⟨g, 0, none⟩), x5, x6, x7, x8, x9, x10, x11, x12, x13, x14, x15, x16, x17, x18, x19, x20, x21, x22, x23, x24, x25, x26, t27, t28, t29, t30, t31, t32, t33, t34, t35, t36, t37, t38, x39], defers := [] } ∧ (Blk W g 38 #[.int .i64 x.Tsn, .int .i64 x.Stream, .int .i64 x.Seq, .bool p, .bool z, .bool x.Unordered, .slice A x.Piece.length ca]) ∧ (Below ww.heap.size ww W) ∧ (dn 0 = true → t27 = .int .i64 ((m : Int) + 1)) ∧ (dn 1 = true → t28 = .bool true) ∧ (dn 2 = true → t29 = .bool true) ∧ (dn 3 = true → t30 = .agg #[.int .i64 x.Tsn, .int .i64 x.Stream, .int .i64 x.Seq, .bool p, .bool z, .bool x.Unordered, .slice A x.Piece.length ca]) ∧ (dn 4 = true → t31 = .slice (some ⟨ga, oa, none⟩) (k + 1) c) ∧ (dn 5 = true → t32 = .int .i64 ((m : Int) + 1)) ∧ (dn 6 = true → t33 = .int .i64 (m : Int)) ∧ (dn 7 = true → t34 = .pointer (some ⟨ga, oa + m * 7, none⟩)) ∧ (dn 8 = true → t35 = .agg #[.int .i64 y.Tsn, .int .i64 y.Stream, .int .i64 y.Seq, .bool y.First, .bool y.Last, .bool y.Unordered, .slice B y.Piece.length cb]) ∧ (dn 9 = true → t36 = .bool b) ∧ (dn 10 = true → t37 = .bool (!b)) ∧ (dn 11 = true → t38 = .bool (!b))) dn ac W := ⟨_, fun _ _ _ => Iff.rfl⟩
  replace HJ := hidH HJ
  refine region_inv 12 (fun i => [[], [0], [1], [2], [2], [2], [2, 5], [2, 4, 6], [2, 7], [2, 3, 8], [2, 9], [2, 10]].getD i []) J hn hdeps hback ?start ?step ?fin
  case start => exact (HJ.out _ _ _).2 ⟨u_27, u_28, u_29, u_30, u_31, u_32, u_33, u_34, u_35, u_36, u_37, u_38, ha, hG, hO, fun h => by simp at h, fun h => by simp at h, fun h => by simp at h, fun h => by simp at h, fun h => by simp at h, fun h => by simp at h, fun h => by simp at h, fun h => by simp at h, fun h => by simp at h, fun h => by simp at h, fun h => by simp at h, fun h => by simp at h⟩
  all_goals clear ha hG hO
  case step =>
    clear fin hdeps hback
    intro i hi dn ac W hJ hdn hdep
    obtain ⟨t27, t28, t29, t30, t31, t32, t33, t34, t35, t36, t37, t38, rfl, hG, hO, h0, h1, h2, h3, h4, h5, h6, h7, h8, h9, h10, h11⟩ := (HJ.out _ _ _).1 hJ
    clear hJ
    match i, hi with
    | 0, _ =>
      obtain ⟨ty, ps, af, ho⟩ := op_lit hops (i := 0) (op := Op.move (Operand.tmp 3)) (dst := some 27) (g := none) rfl
      refine wpOp_lit ho (fun j b h => by cases h) ?_
      clear hops hdep ho
      replace h1 := hidH h1
      replace h2 := hidH h2
      replace h3 := hidH h3
      replace h4 := hidH h4
      replace h5 := hidH h5
      replace h6 := hidH h6
      replace h7 := hidH h7
      replace h8 := hidH h8
      replace h9 := hidH h9
      replace h10 := hidH h10
      replace h11 := hidH h11
      go_wp2
      exact (HJ.out _ _ _).2 ⟨_, _, _, _, _, _, _, _, _, _, _, _, rfl, hG, hO, fun _ => rfl, h1.out, h2.out, h3.out, h4.out, h5.out, h6.out, h7.out, h8.out, h9.out, h10.out, h11.out⟩
    | 1, _ =>
      obtain ⟨ty, ps, af, ho⟩ := op_lit hops (i := 1) (op := Op.binOp BinOp.gtr 3 (Operand.tmp 27) ((Operand.const (Value.int .i64 0))) 3) (dst := some 28) (g := none) rfl
      obtain rfl := h0 (hdep 0 (by simp))
      refine wpOp_lit ho (fun j b h => by cases h) ?_
      clear hops hdep ho
      replace h0 := hidH h0
      replace h2 := hidH h2
      replace h3 := hidH h3
      replace h4 := hidH h4
      replace h5 := hidH h5
      replace h6 := hidH h6
      replace h7 := hidH h7
      replace h8 := hidH h8
      replace h9 := hidH h9
      replace h10 := hidH h10
      replace h11 := hidH h11
      go_wp2
      exact (HJ.out _ _ _).2 ⟨_, _, _, _, _, _, _, _, _, _, _, _, rfl, hG, hO, fun _ => rfl, fun _ => rfl, h2.out, h3.out, h4.out, h5.out, h6.out, h7.out, h8.out, h9.out, h10.out, h11.out⟩
    | 2, _ =>
      obtain ⟨ty, ps, af, ho⟩ := op_lit hops (i := 2) (op := Op.move (Operand.tmp 28)) (dst := some 29) (g := none) rfl
      obtain rfl := h1 (hdep 1 (by simp))
      refine wpOp_lit ho (fun j b h => by cases h) ?_
      clear hops hdep ho
      replace h0 := hidH h0
      replace h1 := hidH h1
      replace h3 := hidH h3
      replace h4 := hidH h4
      replace h5 := hidH h5
      replace h6 := hidH h6
      replace h7 := hidH h7
      replace h8 := hidH h8
      replace h9 := hidH h9
      replace h10 := hidH h10
      replace h11 := hidH h11
      go_wp2
      exact (HJ.out _ _ _).2 ⟨_, _, _, _, _, _, _, _, _, _, _, _, rfl, hG, hO, h0.out, fun _ => rfl, fun _ => rfl, h3.out, h4.out, h5.out, h6.out, h7.out, h8.out, h9.out, h10.out, h11.out⟩
    | 3, _ =>
      obtain ⟨ty, ps, af, ho⟩ := op_lit hops (i := 3) (op := Op.load 38 (Operand.tmp 4)) (dst := some 30) (g := some (2, true)) rfl
      obtain rfl := h2 (hdep 2 (by simp))
      have hy := fun tmps ht => yielded_lit hops (i := 2) (op := Op.move (Operand.tmp 28)) (t := 29) (g := none) rfl tmps true ht
      refine wpOp_lit ho (fun j b h => by cases h; exact hy _ rfl) ?_
      clear hops hdep ho hy
      replace h0 := hidH h0
      replace h1 := hidH h1
      replace h2 := hidH h2
      replace h4 := hidH h4
      replace h5 := hidH h5
      replace h6 := hidH h6
      replace h7 := hidH h7
      replace h8 := hidH h8
      replace h9 := hidH h9
      replace h10 := hidH h10
      replace h11 := hidH h11
      have q0 := hG.cell 0
      have q1 := hG.cell 1
      have q2 := hG.cell 2
      have q3 := hG.cell 3
      have q4 := hG.cell 4
      have q5 := hG.cell 5
      have q6 := hG.cell 6
      simp only [List.getElem?_toArray, List.getElem?_cons_succ, List.getElem?_cons_zero] at q0 q1 q2 q3 q4 q5 q6
      go_wp2
      exact (HJ.out _ _ _).2 ⟨_, _, _, _, _, _, _, _, _, _, _, _, rfl, hG, hO, h0.out, h1.out, fun _ => rfl, fun _ => rfl, h4.out, h5.out, h6.out, h7.out, h8.out, h9.out, h10.out, h11.out⟩
    | 4, _ =>
      obtain ⟨ty, ps, af, ho⟩ := op_lit hops (i := 4) (op := Op.move (Operand.tmp 0)) (dst := some 31) (g := some (2, true)) rfl
      obtain rfl := h2 (hdep 2 (by simp))
      have hy := fun tmps ht => yielded_lit hops (i := 2) (op := Op.move (Operand.tmp 28)) (t := 29) (g := none) rfl tmps true ht
      refine wpOp_lit ho (fun j b h => by cases h; exact hy _ rfl) ?_
      clear hops hdep ho hy
      replace h0 := hidH h0
      replace h1 := hidH h1
      replace h2 := hidH h2
      replace h3 := hidH h3
      replace h5 := hidH h5
      replace h6 := hidH h6
      replace h7 := hidH h7
      replace h8 := hidH h8
      replace h9 := hidH h9
      replace h10 := hidH h10
      replace h11 := hidH h11
      go_wp2
      exact (HJ.out _ _ _).2 ⟨_, _, _, _, _, _, _, _, _, _, _, _, rfl, hG, hO, h0.out, h1.out, fun _ => rfl, h3.out, fun _ => rfl, h5.out, h6.out, h7.out, h8.out, h9.out, h10.out, h11.out⟩
    | 5, _ =>
      obtain ⟨ty, ps, af, ho⟩ := op_lit hops (i := 5) (op := Op.move (Operand.tmp 3)) (dst := some 32) (g := some (2, true)) rfl
      obtain rfl := h2 (hdep 2 (by simp))
      have hy := fun tmps ht => yielded_lit hops (i := 2) (op := Op.move (Operand.tmp 28)) (t := 29) (g := none) rfl tmps true ht
      refine wpOp_lit ho (fun j b h => by cases h; exact hy _ rfl) ?_
      clear hops hdep ho hy
      replace h0 := hidH h0
      replace h1 := hidH h1
      replace h2 := hidH h2
      replace h3 := hidH h3
      replace h4 := hidH h4
      replace h6 := hidH h6
      replace h7 := hidH h7
      replace h8 := hidH h8
      replace h9 := hidH h9
      replace h10 := hidH h10
      replace h11 := hidH h11
      go_wp2
      exact (HJ.out _ _ _).2 ⟨_, _, _, _, _, _, _, _, _, _, _, _, rfl, hG, hO, h0.out, h1.out, fun _ => rfl, h3.out, h4.out, fun _ => rfl, h6.out, h7.out, h8.out, h9.out, h10.out, h11.out⟩
    | 6, _ =>
      obtain ⟨ty, ps, af, ho⟩ := op_lit hops (i := 6) (op := Op.binOp BinOp.sub 3 (Operand.tmp 32) ((Operand.const (Value.int .i64 1))) 3) (dst := some 33) (g := some (2, true)) rfl
      obtain rfl := h2 (hdep 2 (by simp))
      have hy := fun tmps ht => yielded_lit hops (i := 2) (op := Op.move (Operand.tmp 28)) (t := 29) (g := none) rfl tmps true ht
      obtain rfl := h5 (hdep 5 (by simp))
      refine wpOp_lit ho (fun j b h => by cases h; exact hy _ rfl) ?_
      clear hops hdep ho hy
      replace h0 := hidH h0
      replace h1 := hidH h1
      replace h2 := hidH h2
      replace h3 := hidH h3
      replace h4 := hidH h4
      replace h5 := hidH h5
      replace h7 := hidH h7
      replace h8 := hidH h8
      replace h9 := hidH h9
      replace h10 := hidH h10
      replace h11 := hidH h11
      go_wp2
      exact (HJ.out _ _ _).2 ⟨_, _, _, _, _, _, _, _, _, _, _, _, rfl, hG, hO, h0.out, h1.out, fun _ => rfl, h3.out, h4.out, fun _ => rfl, fun _ => rfl, h7.out, h8.out, h9.out, h10.out, h11.out⟩
    | 7, _ =>
      obtain ⟨ty, ps, af, ho⟩ := op_lit hops (i := 7) (op := Op.indexAddr 28 (Operand.tmp 31) (Operand.tmp 33)) (dst := some 34) (g := some (2, true)) rfl
      obtain rfl := h2 (hdep 2 (by simp))
      have hy := fun tmps ht => yielded_lit hops (i := 2) (op := Op.move (Operand.tmp 28)) (t := 29) (g := none) rfl tmps true ht
      obtain rfl := h4 (hdep 4 (by simp))
      obtain rfl := h6 (hdep 6 (by simp))
      refine wpOp_lit ho (fun j b h => by cases h; exact hy _ rfl) ?_
      clear hops hdep ho hy
      replace h0 := hidH h0
      replace h1 := hidH h1
      replace h2 := hidH h2
      replace h3 := hidH h3
      replace h4 := hidH h4
      replace h5 := hidH h5
      replace h6 := hidH h6
      replace h8 := hidH h8
      replace h9 := hidH h9
      replace h10 := hidH h10
      replace h11 := hidH h11
      go_wp2
      exact (HJ.out _ _ _).2 ⟨_, _, _, _, _, _, _, _, _, _, _, _, rfl, hG, hO, h0.out, h1.out, fun _ => rfl, h3.out, fun _ => rfl, h5.out, fun _ => rfl, fun _ => rfl, h8.out, h9.out, h10.out, h11.out⟩
    | 8, _ =>
      obtain ⟨ty, ps, af, ho⟩ := op_lit hops (i := 8) (op := Op.load 38 (Operand.tmp 34)) (dst := some 35) (g := some (2, true)) rfl
      obtain rfl := h2 (hdep 2 (by simp))
      have hy := fun tmps ht => yielded_lit hops (i := 2) (op := Op.move (Operand.tmp 28)) (t := 29) (g := none) rfl tmps true ht
      obtain rfl := h7 (hdep 7 (by simp))
      refine wpOp_lit ho (fun j b h => by cases h; exact hy _ rfl) ?_
      clear hops hdep ho hy
      replace h0 := hidH h0
      replace h1 := hidH h1
      replace h2 := hidH h2
      replace h3 := hidH h3
      replace h4 := hidH h4
      replace h5 := hidH h5
      replace h6 := hidH h6
      replace h7 := hidH h7
      replace h9 := hidH h9
      replace h10 := hidH h10
      replace h11 := hidH h11
      have q0 := (hO.cell (p := ⟨ga, oa + m * 7, none⟩) hga).trans c0
      have q1 := (hO.cell (p := ⟨ga, oa + m * 7 + 1, none⟩) hga).trans c1
      have q2 := (hO.cell (p := ⟨ga, oa + m * 7 + 2, none⟩) hga).trans c2
      have q3 := (hO.cell (p := ⟨ga, oa + m * 7 + 3, none⟩) hga).trans c3
      have q4 := (hO.cell (p := ⟨ga, oa + m * 7 + 4, none⟩) hga).trans c4
      have q5 := (hO.cell (p := ⟨ga, oa + m * 7 + 5, none⟩) hga).trans c5
      have q6 := (hO.cell (p := ⟨ga, oa + m * 7 + 6, none⟩) hga).trans c6
      go_wp2
      exact (HJ.out _ _ _).2 ⟨_, _, _, _, _, _, _, _, _, _, _, _, rfl, hG, hO, h0.out, h1.out, fun _ => rfl, h3.out, h4.out, h5.out, h6.out, fun _ => rfl, fun _ => rfl, h9.out, h10.out, h11.out⟩
    | 9, _ =>
      obtain ⟨ty, ps, af, ho⟩ := op_lit hops (i := 9) (op := Op.call { callee := Callee.value (Operand.func 86), args := #[(Operand.tmp 30), (Operand.tmp 35)], argTypes := #[38, 38] }) (dst := some 36) (g := some (2, true)) rfl
      obtain rfl := h2 (hdep 2 (by simp))
      have hy := fun tmps ht => yielded_lit hops (i := 2) (op := Op.move (Operand.tmp 28)) (t := 29) (g := none) rfl tmps true ht
      obtain rfl := h3 (hdep 3 (by simp))
      obtain rfl := h8 (hdep 8 (by simp))
      refine wpOp_lit ho (fun j b h => by cases h; exact hy _ rfl) ?_
      clear hops hdep ho hy
      replace h0 := hidH h0
      replace h1 := hidH h1
      replace h2 := hidH h2
      replace h3 := hidH h3
      replace h4 := hidH h4
      replace h5 := hidH h5
      replace h6 := hidH h6
      replace h7 := hidH h7
      replace h8 := hidH h8
      replace h10 := hidH h10
      replace h11 := hidH h11
      go_wp2_with fail
      refine (FO W).mono ?_
      rintro e w9 ⟨rfl, hb⟩
      go_wp2
      exact (HJ.out _ _ _).2 ⟨_, _, _, _, _, _, _, _, _, _, _, _, rfl, hG.below hb, btr hO hb, h0.out, h1.out, fun _ => rfl, fun _ => rfl, h4.out, h5.out, h6.out, h7.out, fun _ => rfl, fun _ => rfl, h10.out, h11.out⟩
    | 10, _ =>
      obtain ⟨ty, ps, af, ho⟩ := op_lit hops (i := 10) (op := Op.unOp UnOp.not 4 (Operand.tmp 36)) (dst := some 37) (g := some (2, true)) rfl
      obtain rfl := h2 (hdep 2 (by simp))
      have hy := fun tmps ht => yielded_lit hops (i := 2) (op := Op.move (Operand.tmp 28)) (t := 29) (g := none) rfl tmps true ht
      obtain rfl := h9 (hdep 9 (by simp))
      refine wpOp_lit ho (fun j b h => by cases h; exact hy _ rfl) ?_
      clear hops hdep ho hy
      replace h0 := hidH h0
      replace h1 := hidH h1
      replace h2 := hidH h2
      replace h3 := hidH h3
      replace h4 := hidH h4
      replace h5 := hidH h5
      replace h6 := hidH h6
      replace h7 := hidH h7
      replace h8 := hidH h8
      replace h9 := hidH h9
      replace h11 := hidH h11
      go_wp2
      exact (HJ.out _ _ _).2 ⟨_, _, _, _, _, _, _, _, _, _, _, _, rfl, hG, hO, h0.out, h1.out, fun _ => rfl, h3.out, h4.out, h5.out, h6.out, h7.out, h8.out, fun _ => rfl, fun _ => rfl, h11.out⟩
    | 11, _ =>
      obtain ⟨ty, ps, af, ho⟩ := op_lit hops (i := 11) (op := Op.pick (Operand.tmp 29) (Operand.tmp 37) (Operand.const (Value.bool false))) (dst := some 38) (g := none) rfl
      obtain rfl := h2 (hdep 2 (by simp))
      obtain rfl := h10 (hdep 10 (by simp))
      refine wpOp_lit ho (fun j b h => by cases h) ?_
      clear hops hdep ho
      replace h0 := hidH h0
      replace h1 := hidH h1
      replace h2 := hidH h2
      replace h3 := hidH h3
      replace h4 := hidH h4
      replace h5 := hidH h5
      replace h6 := hidH h6
      replace h7 := hidH h7
      replace h8 := hidH h8
      replace h9 := hidH h9
      replace h10 := hidH h10
      go_wp2
      exact (HJ.out _ _ _).2 ⟨_, _, _, _, _, _, _, _, _, _, _, _, rfl, hG, hO, h0.out, h1.out, fun _ => rfl, h3.out, h4.out, h5.out, h6.out, h7.out, h8.out, h9.out, fun _ => rfl, fun _ => rfl⟩
    | n + 12, h => omega
  case fin =>
    clear hops hdeps hback
    rintro dn ac W hJ hall
    obtain ⟨t27, t28, t29, t30, t31, t32, t33, t34, t35, t36, t37, t38, rfl, hG, hO, h0, h1, h2, h3, h4, h5, h6, h7, h8, h9, h10, h11⟩ := (HJ.out _ _ _).1 hJ
    obtain rfl := h11 (hall 11 (by omega))
    exact fin _ _ _ _ _ _ _ _ _ _ _ W hO
end Go.Proofs.Ytbfbfimmhpijfaa

/- Chapter 8: the program's wordAfter, follows, areWhole. (WRITTEN BY tools/joini8.py) -/
namespace Go.Proofs.Ytbfbfimmhpijfaa
open Go.RowKit Go.Deep Go.BigFrame

set_option maxHeartbeats 400000 in
theorem wa_any (n : Int) (w : World) (h1 : 0 ≤ n) (h2 : n ≤ 4294967295) : Calls Try.prog 47 #[.int .i64 n] w fun e w' => e = .returned (.int .i64 ((n + 1) % 4294967296)) ∧ w' = w := by
  go_enter Try.func47, Try.ntmps47
  go_wp2
  go_ret
  exact ⟨rfl, rfl⟩
def foll (x y : DataM) : Prop := x.Tsn = (y.Tsn + 1) % 4294967296 ∧ x.Stream = y.Stream ∧ x.Seq = y.Seq ∧ x.Unordered = y.Unordered
def EqP (P : Prop) (w : World) (e : Ending) (w' : World) : Prop := ∃ b : Bool, e = .returned (.bool b) ∧ (b = true ↔ P) ∧ Below w.heap.size w w'
open Classical in
noncomputable def propB (P : Prop) : Bool := decide P
theorem propB_iff (P : Prop) : propB P = true ↔ P := by simp [propB]
theorem EqP.bol {P : Prop} {w : World} {e : Ending} {w' : World} (h : EqP P w e w') : e = .returned (.bool (propB P)) ∧ Below w.heap.size w w' := by
  obtain ⟨b, rfl, h1, h2⟩ := h
  refine ⟨?_, h2⟩
  rw [show b = propB P by rw [Bool.eq_iff_iff, h1, propB_iff]]
set_option maxRecDepth 100000 in
set_option maxHeartbeats 4000000 in
theorem foll_any (x y : DataM) (A B : Option Addr) (ca cb : Nat) (w : World) (t0 : 0 ≤ y.Tsn) (t1 : y.Tsn ≤ 4294967295) :
    Calls Try.prog 86 #[.agg #[.int .i64 x.Tsn, .int .i64 x.Stream, .int .i64 x.Seq, .bool x.First, .bool x.Last, .bool x.Unordered, .slice A x.Piece.length ca], .agg #[.int .i64 y.Tsn, .int .i64 y.Stream, .int .i64 y.Seq, .bool y.First, .bool y.Last, .bool y.Unordered, .slice B y.Piece.length cb]] w (EqP (foll x y) w) := by
  have HAD := hidH (fun (u : World) => wa_any y.Tsn u t0 t1)
  have B2 := hidH (bal (bal (Below.refl w.heap.size w) (.cells #[.int .i64 x.Tsn, .int .i64 x.Stream, .int .i64 x.Seq, .bool x.First, .bool x.Last, .bool x.Unordered, .slice A x.Piece.length ca] 38)) (.cells #[.int .i64 y.Tsn, .int .i64 y.Stream, .int .i64 y.Seq, .bool y.First, .bool y.Last, .bool y.Unordered, .slice B y.Piece.length cb] 38))
  have HN := hidH (fun (h : ¬ (x.Tsn = (y.Tsn + 1) % 4294967296 ∧ x.Stream = y.Stream ∧ x.Seq = y.Seq ∧ x.Unordered = y.Unordered)) => show ¬ foll x y from h)
  clear t0 t1
  go_enter Try.func86, Try.ntmps86
  go_wp2_with fail
  try simp only [List.append]
  refine wp_region_quiet_lit (by kernel_rfl) (by kernel_rfl) ?_
  by_cases e0 : x.Tsn = (y.Tsn + 1) % 4294967296
  case neg =>
    have HXY := hidH (HN.out (fun h => e0 h.1))
    have f0 : (x.Tsn == (y.Tsn + 1) % 4294967296) = false := by rw [beq_eq_false_iff_ne]; exact e0
    clear HN e0
    repeat (go_big_quiet_step ((go_at_call 47; exact Calls.quiet_of_same (HAD.out _))))
    refine wpQuiet_nil ?_
    intro _ hw'
    obtain ⟨nq, hw''⟩ := hw'
    subst hw''
    go_wp2
    go_ret
    exact ⟨false, rfl, ⟨(fun h => by cases h), fun h => absurd h HXY.out⟩, below_drewN B2.out _⟩
  have f0 : (x.Tsn == (y.Tsn + 1) % 4294967296) = true := by rw [beq_iff_eq]; exact e0
  by_cases e1 : x.Stream = y.Stream
  case neg =>
    have HXY := hidH (HN.out (fun h => e1 h.2.1))
    have f1 : (x.Stream == y.Stream) = false := by rw [beq_eq_false_iff_ne]; exact e1
    clear HN e0 e1
    repeat (go_big_quiet_step ((go_at_call 47; exact Calls.quiet_of_same (HAD.out _))))
    refine wpQuiet_nil ?_
    intro _ hw'
    obtain ⟨nq, hw''⟩ := hw'
    subst hw''
    go_wp2
    go_ret
    exact ⟨false, rfl, ⟨(fun h => by cases h), fun h => absurd h HXY.out⟩, below_drewN B2.out _⟩
  have f1 : (x.Stream == y.Stream) = true := by rw [beq_iff_eq]; exact e1
  by_cases e2 : x.Seq = y.Seq
  case neg =>
    have HXY := hidH (HN.out (fun h => e2 h.2.2.1))
    have f2 : (x.Seq == y.Seq) = false := by rw [beq_eq_false_iff_ne]; exact e2
    clear HN e0 e1 e2
    repeat (go_big_quiet_step ((go_at_call 47; exact Calls.quiet_of_same (HAD.out _))))
    refine wpQuiet_nil ?_
    intro _ hw'
    obtain ⟨nq, hw''⟩ := hw'
    subst hw''
    go_wp2
    go_ret
    exact ⟨false, rfl, ⟨(fun h => by cases h), fun h => absurd h HXY.out⟩, below_drewN B2.out _⟩
  have f2 : (x.Seq == y.Seq) = true := by rw [beq_iff_eq]; exact e2
  have HXY := hidH (fun (h : x.Unordered = y.Unordered) => show foll x y from ⟨e0, e1, e2, h⟩)
  have HNY := hidH (fun (h : ¬ x.Unordered = y.Unordered) => HN.out (fun z => h z.2.2.2))
  clear HN e0 e1 e2
  obtain ⟨p, hp⟩ : ∃ p, x.Unordered = p := ⟨_, rfl⟩
  obtain ⟨z, hz⟩ : ∃ z, y.Unordered = z := ⟨_, rfl⟩
  simp only [hp, hz] at HXY HNY B2 ⊢
  have HP := hidH hp
  clear hp hz
  cases p <;> cases z
  · repeat (go_big_quiet_step ((go_at_call 47; exact Calls.quiet_of_same (HAD.out _))))
    refine wpQuiet_nil ?_
    intro _ hw'
    obtain ⟨nq, hw''⟩ := hw'
    subst hw''
    go_wp2
    go_ret
    exact ⟨true, rfl, ⟨fun _ => HXY.out (by simp), fun _ => rfl⟩, below_drewN B2.out _⟩
  · repeat (go_big_quiet_step ((go_at_call 47; exact Calls.quiet_of_same (HAD.out _))))
    refine wpQuiet_nil ?_
    intro _ hw'
    obtain ⟨nq, hw''⟩ := hw'
    subst hw''
    go_wp2
    go_ret
    exact ⟨false, rfl, ⟨(fun h => by cases h), fun h => absurd h (HNY.out (by simp))⟩, below_drewN B2.out _⟩
  · repeat (go_big_quiet_step ((go_at_call 47; exact Calls.quiet_of_same (HAD.out _))))
    refine wpQuiet_nil ?_
    intro _ hw'
    obtain ⟨nq, hw''⟩ := hw'
    subst hw''
    go_wp2
    go_ret
    exact ⟨false, rfl, ⟨(fun h => by cases h), fun h => absurd h (HNY.out (by simp))⟩, below_drewN B2.out _⟩
  · repeat (go_big_quiet_step ((go_at_call 47; exact Calls.quiet_of_same (HAD.out _))))
    refine wpQuiet_nil ?_
    intro _ hw'
    obtain ⟨nq, hw''⟩ := hw'
    subst hw''
    go_wp2
    go_ret
    exact ⟨true, rfl, ⟨fun _ => HXY.out (by simp), fun _ => rfl⟩, below_drewN B2.out _⟩
/-- What areWhole looks at, piece by piece. -/
def okAt (r : List DataM) (k j : Nat) : Prop := (r.getD j dat0).First = decide (j = 0) ∧ (r.getD j dat0).Last = decide (j = k) ∧ (0 < j → foll (r.getD j dat0) (r.getD (j - 1) dat0))
theorem whole_ok {r : List DataM} {k : Nat} (hk : r.length = k + 1) : whole r ↔ ∀ j, j < k + 1 → okAt r k j := by
  constructor
  · rintro ⟨h0, h1, h2⟩ j hj
    rw [hk, Nat.add_sub_cancel] at h1
    refine ⟨?_, ?_, fun hp => ?_⟩
    · by_cases e : j = 0
      · subst e; simpa using h0
      · obtain ⟨i, rfl⟩ : ∃ i, j = i + 1 := ⟨j - 1, by omega⟩
        rw [(h2 i (by omega)).2.1]; simp
    · by_cases e : j = k
      · subst e; simpa using h1
      · rw [(h2 j (by omega)).1]; simp [e]
    · obtain ⟨i, rfl⟩ : ∃ i, j = i + 1 := ⟨j - 1, by omega⟩
      obtain ⟨_, _, a, b, c, d⟩ := h2 i (by omega)
      rw [Nat.add_sub_cancel]
      exact ⟨d, a.symm, b.symm, c.symm⟩
  · intro h
    refine ⟨by simpa using (h 0 (by omega)).1, by rw [hk, Nat.add_sub_cancel]; simpa using (h k (by omega)).2.1, fun i hi => ?_⟩
    have h1 := h i (by omega)
    have h2 := h (i + 1) (by omega)
    obtain ⟨d, a, b, c⟩ := h2.2.2 (by omega)
    rw [Nat.add_sub_cancel] at d a b c
    refine ⟨?_, by simpa using h2.1, a.symm, b.symm, c.symm, d⟩
    have e : ¬ i = k := by omega
    rw [h1.2.1]; simp [e]
set_option maxRecDepth 100000 in
set_option maxHeartbeats 8000000 in
theorem areWhole_any (r : List DataM) (k : Nat) (v : Value) (u : World) (h : Rd u (st_Data r) v) (hk : r.length = k + 1) (hkm : k ≤ 100) (hall : ∀ x ∈ r, pdF x = 0) : Calls Try.prog 82 #[v] u (EqP (whole r) u) := by
  obtain ⟨ga, oa, c, e, hga, E0⟩ := el_Data h (j := 0) (by omega)
  rw [hk] at e
  subst e
  have HEL := hidH (fun (j : Nat) (hj : j < r.length) (W : World) (hW : Below u.heap.size u W) => show ∃ x : DataM, r.getD j dat0 = x ∧ 0 ≤ x.Tsn ∧ x.Tsn ≤ 4294967295 ∧ ∃ A cA, W.cell? ⟨ga, oa + j * 7, none⟩ = some (.int .i64 x.Tsn) ∧ W.cell? ⟨ga, oa + j * 7 + 1, none⟩ = some (.int .i64 x.Stream) ∧ W.cell? ⟨ga, oa + j * 7 + 2, none⟩ = some (.int .i64 x.Seq) ∧ W.cell? ⟨ga, oa + j * 7 + 3, none⟩ = some (.bool x.First) ∧ W.cell? ⟨ga, oa + j * 7 + 4, none⟩ = some (.bool x.Last) ∧ W.cell? ⟨ga, oa + j * 7 + 5, none⟩ = some (.bool x.Unordered) ∧ W.cell? ⟨ga, oa + j * 7 + 6, none⟩ = some (.slice A x.Piece.length cA) by
    obtain ⟨g', o', c', e, _, E⟩ := el_Data h hj
    injection e with e1 e2 e3
    injection e1 with e1
    injection e1 with e1 e4
    subst e1 e4
    obtain ⟨A, cA, z0, z1, z2, z3, z4, z5, z6, _⟩ := mem_Data (RdL.below hW _ hga E)
    have z := (pdF_zero (hall r[j] (List.getElem_mem hj))).1
    exact ⟨r[j], getD_at hj, z.1, z.2, A, cA, z0, z1, z2, z3, z4, z5, z6⟩)
  have HWO := hidH (whole_ok hk)
  have HK := hidH hk
  clear h E0 hall hk
  go_enter Try.func82, Try.ntmps82
  go_wp2
  go_loopw [7] (fun i wr => ∃ j : Nat, j ≤ k + 1 ∧ i = .int .i64 j ∧ (∀ t, t < j → okAt r k t) ∧ Below u.heap.size u wr) (fun i _ => k + 1 - (intOf i).toNat)
  case atStart => exact ⟨0, by omega, rfl, fun t ht => by omega, Below.refl _ _⟩
  case round =>
    obtain ⟨j, hj, rfl, hOk, hB⟩ := hrel
    by_cases hlt : j < k + 1
    case neg =>
      obtain rfl : j = k + 1 := by omega
      have HW := hidH (HWO.out.2 hOk)
      have HB := hidH hB
      clear hOk hB hlt hj
      go_wp2
      go_ret
      exact ⟨true, rfl, ⟨fun _ => HW.out, fun _ => rfl⟩, HB.out⟩
    have hj0 : (0 : Int) ≤ (j : Int) := by omega
    have hj1 : (j : Int) < (k : Int) + 1 := by omega
    obtain ⟨x, hx, _, _, A, cA, c0, c1, c2, c3, c4, c5, c6⟩ := HEL.out j (by have := HK.out; omega) wr hB
    have HOK := hidH (fun (t : okAt r k j) => show ∀ t, t < j + 1 → okAt r k t from fun i hi => by
      by_cases e : i = j
      · subst e; exact t
      · exact hOk i (by omega))
    have HNO := hidH (fun (t : ¬ okAt r k j) => show ¬ whole r from fun hw => t (HWO.out.1 hw j hlt))
    have HDEF := hidH (show okAt r k j ↔ x.First = decide (j = 0) ∧ x.Last = decide (j = k) ∧ (0 < j → foll x (r.getD (j - 1) dat0)) by rw [← hx]; exact Iff.rfl)
    have B1 := hidH (btr hB (bal (Below.refl wr.heap.size wr) (.cells #[.int .i64 x.Tsn, .int .i64 x.Stream, .int .i64 x.Seq, .bool x.First, .bool x.Last, .bool x.Unordered, .slice A x.Piece.length cA] 38)))
    clear hOk hx
    obtain ⟨p, hp⟩ : ∃ p, x.First = p := ⟨_, rfl⟩
    obtain ⟨z, hz⟩ : ∃ z, x.Last = z := ⟨_, rfl⟩
    have HPZ := hidH (And.intro hp hz)
    rw [hp] at c3
    rw [hz] at c4
    by_cases hj00 : j = 0
    · subst hj00
      simp only [hp, hz] at B1
      simp only [Nat.zero_mul, Nat.add_zero] at c0 c1 c2 c3 c4 c5 c6
      have HNF := hidH (fun (t : p = false) => HNO.out (fun o => by have := (HDEF.out.1 o).1; rw [HPZ.out.1, t] at this; simp at this))
      cases p
      case false =>
        have HX := hidH (HNF.out rfl)
        clear hp hz HNO HOK HDEF HPZ
        go_wp2
        go_ret
        exact ⟨false, rfl, ⟨(fun h => by cases h), fun h => absurd h HX.out⟩, B1.out⟩
      by_cases hkk : (0 : Nat) = k
      · have hq : ((0 : Int) == (k : Int)) = true := by rw [beq_iff_eq]; omega
        cases z
        case false =>
          have HX := hidH (HNO.out (fun o => by have := (HDEF.out.1 o).2.1; rw [HPZ.out.2] at this; simp at this; omega))
          clear hp hz HNO HOK HDEF HPZ HNF hkk
          go_wp2
          go_ret
          exact ⟨false, rfl, ⟨(fun h => by cases h), fun h => absurd h HX.out⟩, B1.out⟩
        have HQ := hidH (show (0 : Nat) = k from hkk)
        clear hkk
        have HY := hidH (HOK.out (HDEF.out.2 ⟨by rw [HPZ.out.1]; simp, by rw [HPZ.out.2]; simp [HQ.out], fun h => by omega⟩))
        clear hp hz HNO HOK HDEF HPZ HNF
        go_wp2
        go_quiet (fail)
        go_wp2
        exact ⟨⟨1, by omega, by go_num, HY.out, below_drewN B1.out _⟩, by simp [intOf]⟩
      · have hq : ((0 : Int) == (k : Int)) = false := by rw [beq_eq_false_iff_ne]; omega
        cases z
        case true =>
          have HX := hidH (HNO.out (fun o => by have := (HDEF.out.1 o).2.1; rw [HPZ.out.2] at this; simp at this; omega))
          clear hp hz HNO HOK HDEF HPZ HNF hkk
          go_wp2
          go_ret
          exact ⟨false, rfl, ⟨(fun h => by cases h), fun h => absurd h HX.out⟩, B1.out⟩
        have HQ := hidH (show ¬ (0 : Nat) = k from hkk)
        clear hkk
        have HY := hidH (HOK.out (HDEF.out.2 ⟨by rw [HPZ.out.1]; simp, by rw [HPZ.out.2]; simp [HQ.out], fun h => by omega⟩))
        clear hp hz HNO HOK HDEF HPZ HNF
        go_wp2
        go_quiet (fail)
        go_wp2
        exact ⟨⟨1, by omega, by go_num, HY.out, below_drewN B1.out _⟩, by simp [intOf]⟩
    · obtain ⟨i, rfl⟩ : ∃ i, j = i + 1 := ⟨j - 1, by omega⟩
      simp only [hp, hz] at B1
      rw [show ((i + 1 : Nat) : Int) = (i : Int) + 1 by omega] at hj0 hj1 ⊢
      have hi0 : (0 : Int) ≤ (i : Int) := by omega
      have hi1 : (i : Int) < (k : Int) + 1 := by omega
      have hgt : (0 : Int) < (i : Int) + 1 := by omega
      have hp0 : ((i : Int) + 1 == 0) = false := by rw [beq_eq_false_iff_ne]; omega
      have hne0 : ¬ (i + 1 = 0) := by omega
      cases p
      case true =>
        have HX := hidH (HNO.out (fun o => by have := (HDEF.out.1 o).1; rw [HPZ.out.1] at this; simp at this))
        clear hp hz HNO HOK HDEF HPZ
        go_wp2
        go_ret
        exact ⟨false, rfl, ⟨(fun h => by cases h), fun h => absurd h HX.out⟩, B1.out⟩
      by_cases hkk : i + 1 = k
      · have hq : ((i : Int) + 1 == (k : Int)) = true := by rw [beq_iff_eq]; omega
        cases z
        case false =>
          have HX := hidH (HNO.out (fun o => by have := (HDEF.out.1 o).2.1; rw [HPZ.out.2] at this; simp [hkk] at this))
          clear hp hz HNO HOK HDEF HPZ hkk
          go_wp2
          go_ret
          exact ⟨false, rfl, ⟨(fun h => by cases h), fun h => absurd h HX.out⟩, B1.out⟩
        have HQ := hidH hkk
        obtain ⟨y, hy, t0, t1, B, cB, d0, d1, d2, d3, d4, d5, d6⟩ := HEL.out i (by have := HK.out; omega) _ B1.out
        have HFD := hidH (fun (o : okAt r k (i + 1)) => show foll x y by have := (HDEF.out.1 o).2.2 (by omega); rwa [Nat.add_sub_cancel, hy] at this)
        have HFU := hidH (fun (o : foll x y) => HDEF.out.2 ⟨by rw [HPZ.out.1]; simp, by rw [HPZ.out.2]; simp [HQ.out], fun _ => by rw [Nat.add_sub_cancel, hy]; exact o⟩)
        have HF := hidH (fun W => (foll_any x y A B cA cB W t0 t1).mono (fun _ _ h => h.bol))
        rw [HPZ.out.1, HPZ.out.2] at HF
        clear hy t0 t1 hp hz
        clear hkk
        have KG := Blk.new wr 38 #[.int .i64 x.Tsn, .int .i64 x.Stream, .int .i64 x.Seq, .bool false, .bool true, .bool x.Unordered, .slice A x.Piece.length cA]
        have hga2 : ga < (wr.alloc (.cells #[.int .i64 x.Tsn, .int .i64 x.Stream, .int .i64 x.Seq, .bool false, .bool true, .bool x.Unordered, .slice A x.Piece.length cA] 38)).heap.size := by have := hB.size; rw [World.size_alloc]; omega
        have HKG := hidH KG
        have him : (i : Int) ≤ 1000 := by omega
        clear KG
        go_wp2_with fail
        refine wp_region_any (by kernel_rfl) ?_
        refine regAW _ _ _ _ _ _ _ _ _ _ _ _ _ _ _ _ _ _ _ _ _ _ _ _ _ _ _ _ _ _ _ _ _ _ _ _ _ _ x y false true (propB (foll x y)) A B cA cB wr.heap.size ga oa k i c hga2 d0 d1 d2 d3 d4 d5 d6 hi0 hi1 hgt him HF.out (by kernel_rfl) (by kernel_rfl) (by kernel_rfl) rfl (HKG.out.below (Below.refl _ _).drew) (Below.refl _ _).drew ?_
        intros
        rename_i w5 b5
        have HBB := hidH (btr B1.out b5)
        obtain ⟨b, hb⟩ : ∃ b, propB (foll x y) = b := ⟨_, rfl⟩
        have HV := hidH (propB_iff (foll x y))
        simp only [hb] at HV ⊢
        clear hb b5 hga2
        cases b
        · have HX := hidH (HNO.out (fun o => by have := HV.out.2 (HFD.out o); cases this))
          clear HNO HOK HDEF HPZ HV HFD
          go_wp2
          go_ret
          exact ⟨false, rfl, ⟨(fun h => by cases h), fun h => absurd h HX.out⟩, HBB.out⟩
        · have HY := hidH (HOK.out (HFU.out (HV.out.1 rfl)))
          clear HNO HOK HDEF HPZ HV HFD HFU
          go_wp2
          go_roundw
          case rel => exact ⟨i + 1 + 1, by omega, by go_num, HY.out, HBB.out⟩
          case measure => simp [intOf]; omega
      · have hq : ((i : Int) + 1 == (k : Int)) = false := by rw [beq_eq_false_iff_ne]; omega
        cases z
        case true =>
          have HX := hidH (HNO.out (fun o => by have := (HDEF.out.1 o).2.1; rw [HPZ.out.2] at this; simp [hkk] at this))
          clear hp hz HNO HOK HDEF HPZ hkk
          go_wp2
          go_ret
          exact ⟨false, rfl, ⟨(fun h => by cases h), fun h => absurd h HX.out⟩, B1.out⟩
        have HQ := hidH hkk
        obtain ⟨y, hy, t0, t1, B, cB, d0, d1, d2, d3, d4, d5, d6⟩ := HEL.out i (by have := HK.out; omega) _ B1.out
        have HFD := hidH (fun (o : okAt r k (i + 1)) => show foll x y by have := (HDEF.out.1 o).2.2 (by omega); rwa [Nat.add_sub_cancel, hy] at this)
        have HFU := hidH (fun (o : foll x y) => HDEF.out.2 ⟨by rw [HPZ.out.1]; simp, by rw [HPZ.out.2]; simp [HQ.out], fun _ => by rw [Nat.add_sub_cancel, hy]; exact o⟩)
        have HF := hidH (fun W => (foll_any x y A B cA cB W t0 t1).mono (fun _ _ h => h.bol))
        rw [HPZ.out.1, HPZ.out.2] at HF
        clear hy t0 t1 hp hz
        clear hkk
        have KG := Blk.new wr 38 #[.int .i64 x.Tsn, .int .i64 x.Stream, .int .i64 x.Seq, .bool false, .bool false, .bool x.Unordered, .slice A x.Piece.length cA]
        have hga2 : ga < (wr.alloc (.cells #[.int .i64 x.Tsn, .int .i64 x.Stream, .int .i64 x.Seq, .bool false, .bool false, .bool x.Unordered, .slice A x.Piece.length cA] 38)).heap.size := by have := hB.size; rw [World.size_alloc]; omega
        have HKG := hidH KG
        have him : (i : Int) ≤ 1000 := by omega
        clear KG
        go_wp2_with fail
        refine wp_region_any (by kernel_rfl) ?_
        refine regAW _ _ _ _ _ _ _ _ _ _ _ _ _ _ _ _ _ _ _ _ _ _ _ _ _ _ _ _ _ _ _ _ _ _ _ _ _ _ x y false false (propB (foll x y)) A B cA cB wr.heap.size ga oa k i c hga2 d0 d1 d2 d3 d4 d5 d6 hi0 hi1 hgt him HF.out (by kernel_rfl) (by kernel_rfl) (by kernel_rfl) rfl (HKG.out.below (Below.refl _ _).drew) (Below.refl _ _).drew ?_
        intros
        rename_i w5 b5
        have HBB := hidH (btr B1.out b5)
        obtain ⟨b, hb⟩ : ∃ b, propB (foll x y) = b := ⟨_, rfl⟩
        have HV := hidH (propB_iff (foll x y))
        simp only [hb] at HV ⊢
        clear hb b5 hga2
        cases b
        · have HX := hidH (HNO.out (fun o => by have := HV.out.2 (HFD.out o); cases this))
          clear HNO HOK HDEF HPZ HV HFD
          go_wp2
          go_ret
          exact ⟨false, rfl, ⟨(fun h => by cases h), fun h => absurd h HX.out⟩, HBB.out⟩
        · have HY := hidH (HOK.out (HFU.out (HV.out.1 rfl)))
          clear HNO HOK HDEF HPZ HV HFD HFU
          go_wp2
          go_roundw
          case rel => exact ⟨i + 1 + 1, by omega, by go_num, HY.out, HBB.out⟩
          case measure => simp [intOf]; omega
end Go.Proofs.Ytbfbfimmhpijfaa

/- The program's Data: fault, flags, write. -/
namespace Go.Proofs.Ytbfbfimmhpijfaa
open Go.RowKit Go.Deep

set_option maxRecDepth 100000 in
set_option maxHeartbeats 2000000 in
theorem pdF_impl (y : DataM) (vs : List Value) (w : World) (h : RdA w y.vs vs) :
    Calls Try.prog 81 #[.agg vs.toArray] w fun e w' => e = .returned (.int .i64 (pdF y)) ∧ Below w.heap.size w w' := by
  obtain ⟨A, c, rfl⟩ := shape_Data h
  have hm : (y.Piece.length : Int) ≤ 9223372036854775807 := by
    have h' : RdA w [.int y.Tsn, .int y.Stream, .int y.Seq, .bool y.First, .bool y.Last, .bool y.Unordered, .bs y.Piece] _ := h
    obtain ⟨_, _, e, k, _⟩ := h'.tl.tl.tl.tl.tl.tl.hd.bs_out
    exact k.len
  clear h
  by_cases h1 : wB y.Tsn = true
  · by_cases h2 : inB y.Stream 0 9 = true
    · by_cases h3 : inB y.Seq 0 65535 = true
      · by_cases h4 : y.Piece.length < 1
        · have e : pdF y = 2 := by simp only [pdF, h1, h2, h3, Bool.and_self, if_true]; rw [if_neg (by omega)]
          have h4' : ((y.Piece.length : Int) == 0) = true := by rw [beq_iff_eq]; omega
          rw [e]
          clear e h4
          go_enter Try.func81, Try.ntmps81
          go_wp2_with (first | (go_at_call 75; refine (isWord_any _ _).mono ?_; rintro e w' ⟨rfl, rfl⟩) | (go_at_call 60; refine (isStream_any _ _).mono ?_; rintro e w' ⟨rfl, rfl⟩) | (go_at_call 76; refine (isPair_any _ _).mono ?_; rintro e w' ⟨rfl, rfl⟩))
          go_ret
          exact ⟨rfl, bal (Below.refl _ _) _⟩
        · have h4' : ((y.Piece.length : Int) == 0) = false := by rw [beq_eq_false_iff_ne]; omega
          by_cases h5 : 100 < y.Piece.length
          · have e : pdF y = 2 := by simp only [pdF, h1, h2, h3, Bool.and_self, if_true]; rw [if_neg (by omega)]
            have h5' : (100 : Int) < (y.Piece.length : Int) := by omega
            rw [e]
            clear e h4 h5
            go_enter Try.func81, Try.ntmps81
            go_wp2_with (first | (go_at_call 75; refine (isWord_any _ _).mono ?_; rintro e w' ⟨rfl, rfl⟩) | (go_at_call 60; refine (isStream_any _ _).mono ?_; rintro e w' ⟨rfl, rfl⟩) | (go_at_call 76; refine (isPair_any _ _).mono ?_; rintro e w' ⟨rfl, rfl⟩))
            go_ret
            exact ⟨rfl, bal (Below.refl _ _) _⟩
          · have h5' : ¬ (100 : Int) < (y.Piece.length : Int) := by omega
            have e0 : pdF y = if y.Unordered = true ∧ y.Seq ≠ 0 then 1 else 0 := by simp only [pdF, h1, h2, h3, Bool.and_self, if_true]; rw [if_pos (by omega)]
            rw [e0]
            clear e0 h4 h5
            by_cases h6 : y.Unordered = true
            · by_cases h7 : y.Seq = 0
              · rw [if_neg (fun h => h.2 h7)]
                have h8 : (y.Seq != 0) = false := by rw [h7]; rfl
                go_enter Try.func81, Try.ntmps81
                go_wp2_with (first | (go_at_call 75; refine (isWord_any _ _).mono ?_; rintro e w' ⟨rfl, rfl⟩) | (go_at_call 60; refine (isStream_any _ _).mono ?_; rintro e w' ⟨rfl, rfl⟩) | (go_at_call 76; refine (isPair_any _ _).mono ?_; rintro e w' ⟨rfl, rfl⟩))
                go_ret
                exact ⟨rfl, bal (Below.refl _ _) _⟩
              · rw [if_pos ⟨h6, h7⟩]
                have h8 : (y.Seq != 0) = true := by rw [bne_iff_ne]; exact h7
                go_enter Try.func81, Try.ntmps81
                go_wp2_with (first | (go_at_call 75; refine (isWord_any _ _).mono ?_; rintro e w' ⟨rfl, rfl⟩) | (go_at_call 60; refine (isStream_any _ _).mono ?_; rintro e w' ⟨rfl, rfl⟩) | (go_at_call 76; refine (isPair_any _ _).mono ?_; rintro e w' ⟨rfl, rfl⟩))
                go_ret
                exact ⟨rfl, bal (Below.refl _ _) _⟩
            · have h6 : y.Unordered = false := by simpa using h6
              rw [if_neg (fun h => by rw [h6] at h; exact Bool.noConfusion h.1)]
              go_enter Try.func81, Try.ntmps81
              go_wp2_with (first | (go_at_call 75; refine (isWord_any _ _).mono ?_; rintro e w' ⟨rfl, rfl⟩) | (go_at_call 60; refine (isStream_any _ _).mono ?_; rintro e w' ⟨rfl, rfl⟩) | (go_at_call 76; refine (isPair_any _ _).mono ?_; rintro e w' ⟨rfl, rfl⟩))
              go_ret
              exact ⟨rfl, bal (Below.refl _ _) _⟩
      · have h3 : inB y.Seq 0 65535 = false := by simpa using h3
        have e : pdF y = 3 := by simp [pdF, h3]
        rw [e]
        clear e
        go_enter Try.func81, Try.ntmps81
        go_wp2_with (first | (go_at_call 75; refine (isWord_any _ _).mono ?_; rintro e w' ⟨rfl, rfl⟩) | (go_at_call 60; refine (isStream_any _ _).mono ?_; rintro e w' ⟨rfl, rfl⟩) | (go_at_call 76; refine (isPair_any _ _).mono ?_; rintro e w' ⟨rfl, rfl⟩))
        go_ret
        exact ⟨rfl, bal (Below.refl _ _) _⟩
    · have h2 : inB y.Stream 0 9 = false := by simpa using h2
      have e : pdF y = 3 := by simp [pdF, h2]
      rw [e]
      clear e
      go_enter Try.func81, Try.ntmps81
      go_wp2_with (first | (go_at_call 75; refine (isWord_any _ _).mono ?_; rintro e w' ⟨rfl, rfl⟩) | (go_at_call 60; refine (isStream_any _ _).mono ?_; rintro e w' ⟨rfl, rfl⟩) | (go_at_call 76; refine (isPair_any _ _).mono ?_; rintro e w' ⟨rfl, rfl⟩))
      go_ret
      exact ⟨rfl, bal (Below.refl _ _) _⟩
  · have h1 : wB y.Tsn = false := by simpa using h1
    have e : pdF y = 3 := by simp [pdF, h1]
    rw [e]
    clear e
    go_enter Try.func81, Try.ntmps81
    go_wp2_with (first | (go_at_call 75; refine (isWord_any _ _).mono ?_; rintro e w' ⟨rfl, rfl⟩) | (go_at_call 60; refine (isStream_any _ _).mono ?_; rintro e w' ⟨rfl, rfl⟩) | (go_at_call 76; refine (isPair_any _ _).mono ?_; rintro e w' ⟨rfl, rfl⟩))
    go_ret
    exact ⟨rfl, bal (Below.refl _ _) _⟩
set_option maxHeartbeats 1000000 in
theorem flags_impl (t s q : Int) (f l u : Bool) (v : Value) (w : World) :
    Calls Try.prog 85 #[.agg #[.int .i64 t, .int .i64 s, .int .i64 q, .bool f, .bool l, .bool u, v]] w fun e w' => e = .returned (.int .i64 (bitN l 1 + bitN f 2 + bitN u 4)) ∧ w.alloc (.cells #[.int .i64 t, .int .i64 s, .int .i64 q, .bool f, .bool l, .bool u, v] 38) = w' := by
  cases f <;> cases l <;> cases u
  all_goals
    go_enter Try.func85, Try.ntmps85
    go_wp2
    go_ret
    exact ⟨rfl, rfl⟩
end Go.Proofs.Ytbfbfimmhpijfaa
