/- The region of the program's piecesFault. -/
import Derived.Test.YtncnibkojneejaaM9
import Derived.Test.YtncnibkojneejaaRegInv
namespace Go.Proofs.Ytncnibkojneejaa
open Go.RowKit Go.Deep

set_option maxRecDepth 100000 in
set_option maxHeartbeats 1000000 in
theorem regPF9 {Q : Exit → Act → World → Prop} (x0 x2 x5 x6 x7 x8 x9 x10 x11 x12 x13 x14 x15 x16 x17 x18 u_19 u_20 u_21 u_22 u_23 u_24 u_25 u_26 u_27 u_28 u_29 u_30 u_31 u_32 u_33 x34 x35 x36 x37 x38 x39 : Value) (ww : World) (y : RecvM) (x : DataM) (q : Int) (A A1 A3 : Option Addr) (cA c1 c2 c3 g gr ga oa m : Nat)
    (hga : ga < ww.heap.size) (d0 : ww.cell? ⟨ga, oa + m * 7, none⟩ = some (.int .i64 q)) (hi0 : (0 : Int) ≤ (m : Int)) (hi1 : (m : Int) < (y.Pieces.length : Int)) (hgt : (0 : Int) < (m : Int) + 1)  (him : (m : Int) ≤ 1000000000000) {ops : Array Oper}
    (hops : (ops.map fun o => (o.op, o.dst, o.guard)) = #[(Op.move (Operand.tmp 3), some 19, none), (Op.binOp BinOp.gtr 3 (Operand.tmp 19) ((Operand.const (Value.int .i64 0))) 3, some 20, none), (Op.move (Operand.tmp 20), some 21, none), (Op.fieldAddr 27 (Operand.tmp 1) 2, some 22, some (2, true)), (Op.load 25 (Operand.tmp 22), some 23, some (2, true)), (Op.move (Operand.tmp 3), some 24, some (2, true)), (Op.binOp BinOp.sub 3 (Operand.tmp 24) ((Operand.const (Value.int .i64 1))) 3, some 25, some (2, true)), (Op.indexAddr 25 (Operand.tmp 23) (Operand.tmp 25), some 26, some (2, true)), (Op.fieldAddr 76 (Operand.tmp 26) 0, some 27, some (2, true)), (Op.load 2 (Operand.tmp 27), some 28, some (2, true)), (Op.fieldAddr 76 (Operand.tmp 4) 0, some 29, some (2, true)), (Op.load 2 (Operand.tmp 29), some 30, some (2, true)), (Op.call { callee := Callee.value (Operand.func 69), args := #[(Operand.tmp 28), (Operand.tmp 30)], argTypes := #[2, 2] }, some 31, some (2, true)), (Op.unOp UnOp.not 4 (Operand.tmp 31), some 32, some (2, true)), (Op.pick (Operand.tmp 21) (Operand.tmp 32) (Operand.const (Value.bool false)), some 33, none)])
    (hdeps : ((List.range 15).all fun i => ((fun i => [[], [0], [1], [2], [2, 3], [2], [2, 5], [2, 4, 6], [2, 7], [2, 8], [2], [2, 10], [2, 9, 11], [2, 12], [2, 13]].getD i []) i).all fun j => ((ops[i]?).map fun o => o.after.any fun e => Region.binds .any e && e.on == j).getD false) = true)
    (hback : ((List.range 15).all fun i => ((ops[i]?).map fun o => o.after.all fun e => decide (e.on < i)).getD false) = true)
    {a0 : Act} {w0 : World} (ha : a0 = { tmps := #[x0, .pointer (some ⟨gr, 0, none⟩), x2, .int .i64 ((m : Int) + 1), .pointer (some ⟨g, 0, none⟩), x5, x6, x7, x8, x9, x10, x11, x12, x13, x14, x15, x16, x17, x18, u_19, u_20, u_21, u_22, u_23, u_24, u_25, u_26, u_27, u_28, u_29, u_30, u_31, u_32, u_33, x34, x35, x36, x37, x38, x39], defers := [] }) (hR : Blk w0 gr 27 #[.int .i64 y.Cum, .slice A1 y.Beyond.length c1, .slice (some ⟨ga, oa, none⟩) y.Pieces.length c2, .slice A3 y.Next.length c3]) (hG : Blk w0 g 76 #[.int .i64 x.Tsn, .int .i64 x.Stream, .int .i64 x.Seq, .bool x.First, .bool x.Last, .bool x.Unordered, .slice A x.Piece.length cA]) (hO : Below ww.heap.size ww w0)
    (fin : ∀ t19 t20 t21 t22 t23 t24 t25 t26 t27 t28 t29 t30 t31 t32 (W : World), (Below ww.heap.size ww W) → Q .normal { tmps := #[x0, .pointer (some ⟨gr, 0, none⟩), x2, .int .i64 ((m : Int) + 1), .pointer (some ⟨g, 0, none⟩), x5, x6, x7, x8, x9, x10, x11, x12, x13, x14, x15, x16, x17, x18, t19, t20, t21, t22, t23, t24, t25, t26, t27, t28, t29, t30, t31, t32, .bool (!(lessB q x.Tsn)), x34, x35, x36, x37, x38, x39], defers := [] } W) :
    wpAny Try.prog .any ops Q ops.size (Array.replicate ops.size false) a0 w0 := by
  have hn : ops.size = 15 := by have := congrArg Array.size hops; simpa using this
  obtain ⟨J, HJ⟩ : ∃ J : (Nat → Bool) → Act → World → Prop, ∀ dn ac W, J dn ac W ↔ (fun dn ac W => ∃ t19 t20 t21 t22 t23 t24 t25 t26 t27 t28 t29 t30 t31 t32 t33, ac = { tmps := #[x0, .pointer (some ⟨gr, 0, none⟩), x2, .int .i64 ((m : Int) + 1), .pointer (some ⟨g, 0, none⟩), x5, x6, x7, x8, x9, x10, x11, x12, x13, x14, x15, x16, x17, x18, t19, t20, t21, t22, t23, t24, t25, t26, t27, t28, t29, t30, t31, t32, t33, x34, x35, x36, x37, x38, x39], defers := [] } ∧ (Blk W gr 27 #[.int .i64 y.Cum, .slice A1 y.Beyond.length c1, .slice (some ⟨ga, oa, none⟩) y.Pieces.length c2, .slice A3 y.Next.length c3]) ∧ (Blk W g 76 #[.int .i64 x.Tsn, .int .i64 x.Stream, .int .i64 x.Seq, .bool x.First, .bool x.Last, .bool x.Unordered, .slice A x.Piece.length cA]) ∧ (Below ww.heap.size ww W) ∧ (dn 0 = true → t19 = .int .i64 ((m : Int) + 1)) ∧ (dn 1 = true → t20 = .bool true) ∧ (dn 2 = true → t21 = .bool true) ∧ (dn 3 = true → t22 = .pointer (some ⟨gr, 2, none⟩)) ∧ (dn 4 = true → t23 = .slice (some ⟨ga, oa, none⟩) y.Pieces.length c2) ∧ (dn 5 = true → t24 = .int .i64 ((m : Int) + 1)) ∧ (dn 6 = true → t25 = .int .i64 (m : Int)) ∧ (dn 7 = true → t26 = .pointer (some ⟨ga, oa + m * 7, none⟩)) ∧ (dn 8 = true → t27 = .pointer (some ⟨ga, oa + m * 7, none⟩)) ∧ (dn 9 = true → t28 = .int .i64 q) ∧ (dn 10 = true → t29 = .pointer (some ⟨g, 0, none⟩)) ∧ (dn 11 = true → t30 = .int .i64 x.Tsn) ∧ (dn 12 = true → t31 = .bool (lessB q x.Tsn)) ∧ (dn 13 = true → t32 = .bool (!(lessB q x.Tsn))) ∧ (dn 14 = true → t33 = .bool (!(lessB q x.Tsn)))) dn ac W := ⟨_, fun _ _ _ => Iff.rfl⟩
  replace HJ := hidH HJ
  refine region_inv 15 (fun i => [[], [0], [1], [2], [2, 3], [2], [2, 5], [2, 4, 6], [2, 7], [2, 8], [2], [2, 10], [2, 9, 11], [2, 12], [2, 13]].getD i []) J hn hdeps hback ?start ?step ?fin
  case start => exact (HJ.out _ _ _).2 ⟨u_19, u_20, u_21, u_22, u_23, u_24, u_25, u_26, u_27, u_28, u_29, u_30, u_31, u_32, u_33, ha, hR, hG, hO, fun h => by simp at h, fun h => by simp at h, fun h => by simp at h, fun h => by simp at h, fun h => by simp at h, fun h => by simp at h, fun h => by simp at h, fun h => by simp at h, fun h => by simp at h, fun h => by simp at h, fun h => by simp at h, fun h => by simp at h, fun h => by simp at h, fun h => by simp at h, fun h => by simp at h⟩
  all_goals clear ha hR hG hO
  case step =>
    clear fin hdeps hback
    intro i hi dn ac W hJ hdn hdep
    obtain ⟨t19, t20, t21, t22, t23, t24, t25, t26, t27, t28, t29, t30, t31, t32, t33, rfl, hR, hG, hO, h0, h1, h2, h3, h4, h5, h6, h7, h8, h9, h10, h11, h12, h13, h14⟩ := (HJ.out _ _ _).1 hJ
    clear hJ
    match i, hi with
    | 0, _ =>
      obtain ⟨ty, ps, af, ho⟩ := op_lit hops (i := 0) (op := Op.move (Operand.tmp 3)) (dst := some 19) (g := none) rfl
      refine wpOp_lit ho (fun j b h => by cases h) ?_
      clear hops hdep ho
      replace h1 := hidH h1
      replace h2 := hidH h2
      replace h3 := hidH h3
      replace h4 := hidH h4
      replace h5 := hidH h5
      replace h6 := hidH h6
      replace h7 := hidH h7
      replace h8 := hidH h8
      replace h9 := hidH h9
      replace h10 := hidH h10
      replace h11 := hidH h11
      replace h12 := hidH h12
      replace h13 := hidH h13
      replace h14 := hidH h14
      go_wp2
      exact (HJ.out _ _ _).2 ⟨_, _, _, _, _, _, _, _, _, _, _, _, _, _, _, rfl, hR, hG, hO, fun _ => rfl, h1.out, h2.out, h3.out, h4.out, h5.out, h6.out, h7.out, h8.out, h9.out, h10.out, h11.out, h12.out, h13.out, h14.out⟩
    | 1, _ =>
      obtain ⟨ty, ps, af, ho⟩ := op_lit hops (i := 1) (op := Op.binOp BinOp.gtr 3 (Operand.tmp 19) ((Operand.const (Value.int .i64 0))) 3) (dst := some 20) (g := none) rfl
      obtain rfl := h0 (hdep 0 (by simp))
      refine wpOp_lit ho (fun j b h => by cases h) ?_
      clear hops hdep ho
      replace h0 := hidH h0
      replace h2 := hidH h2
      replace h3 := hidH h3
      replace h4 := hidH h4
      replace h5 := hidH h5
      replace h6 := hidH h6
      replace h7 := hidH h7
      replace h8 := hidH h8
      replace h9 := hidH h9
      replace h10 := hidH h10
      replace h11 := hidH h11
      replace h12 := hidH h12
      replace h13 := hidH h13
      replace h14 := hidH h14
      go_wp2
      exact (HJ.out _ _ _).2 ⟨_, _, _, _, _, _, _, _, _, _, _, _, _, _, _, rfl, hR, hG, hO, fun _ => rfl, fun _ => rfl, h2.out, h3.out, h4.out, h5.out, h6.out, h7.out, h8.out, h9.out, h10.out, h11.out, h12.out, h13.out, h14.out⟩
    | 2, _ =>
      obtain ⟨ty, ps, af, ho⟩ := op_lit hops (i := 2) (op := Op.move (Operand.tmp 20)) (dst := some 21) (g := none) rfl
      obtain rfl := h1 (hdep 1 (by simp))
      refine wpOp_lit ho (fun j b h => by cases h) ?_
      clear hops hdep ho
      replace h0 := hidH h0
      replace h1 := hidH h1
      replace h3 := hidH h3
      replace h4 := hidH h4
      replace h5 := hidH h5
      replace h6 := hidH h6
      replace h7 := hidH h7
      replace h8 := hidH h8
      replace h9 := hidH h9
      replace h10 := hidH h10
      replace h11 := hidH h11
      replace h12 := hidH h12
      replace h13 := hidH h13
      replace h14 := hidH h14
      go_wp2
      exact (HJ.out _ _ _).2 ⟨_, _, _, _, _, _, _, _, _, _, _, _, _, _, _, rfl, hR, hG, hO, h0.out, fun _ => rfl, fun _ => rfl, h3.out, h4.out, h5.out, h6.out, h7.out, h8.out, h9.out, h10.out, h11.out, h12.out, h13.out, h14.out⟩
    | 3, _ =>
      obtain ⟨ty, ps, af, ho⟩ := op_lit hops (i := 3) (op := Op.fieldAddr 27 (Operand.tmp 1) 2) (dst := some 22) (g := some (2, true)) rfl
      obtain rfl := h2 (hdep 2 (by simp))
      have hy := fun tmps ht => yielded_lit hops (i := 2) (op := Op.move (Operand.tmp 20)) (t := 21) (g := none) rfl tmps true ht
      refine wpOp_lit ho (fun j b h => by cases h; exact hy _ rfl) ?_
      clear hops hdep ho hy
      replace h0 := hidH h0
      replace h1 := hidH h1
      replace h2 := hidH h2
      replace h4 := hidH h4
      replace h5 := hidH h5
      replace h6 := hidH h6
      replace h7 := hidH h7
      replace h8 := hidH h8
      replace h9 := hidH h9
      replace h10 := hidH h10
      replace h11 := hidH h11
      replace h12 := hidH h12
      replace h13 := hidH h13
      replace h14 := hidH h14
      go_wp2
      exact (HJ.out _ _ _).2 ⟨_, _, _, _, _, _, _, _, _, _, _, _, _, _, _, rfl, hR, hG, hO, h0.out, h1.out, fun _ => rfl, fun _ => rfl, h4.out, h5.out, h6.out, h7.out, h8.out, h9.out, h10.out, h11.out, h12.out, h13.out, h14.out⟩
    | 4, _ =>
      obtain ⟨ty, ps, af, ho⟩ := op_lit hops (i := 4) (op := Op.load 25 (Operand.tmp 22)) (dst := some 23) (g := some (2, true)) rfl
      obtain rfl := h2 (hdep 2 (by simp))
      have hy := fun tmps ht => yielded_lit hops (i := 2) (op := Op.move (Operand.tmp 20)) (t := 21) (g := none) rfl tmps true ht
      obtain rfl := h3 (hdep 3 (by simp))
      refine wpOp_lit ho (fun j b h => by cases h; exact hy _ rfl) ?_
      clear hops hdep ho hy
      replace h0 := hidH h0
      replace h1 := hidH h1
      replace h2 := hidH h2
      replace h3 := hidH h3
      replace h5 := hidH h5
      replace h6 := hidH h6
      replace h7 := hidH h7
      replace h8 := hidH h8
      replace h9 := hidH h9
      replace h10 := hidH h10
      replace h11 := hidH h11
      replace h12 := hidH h12
      replace h13 := hidH h13
      replace h14 := hidH h14
      have q2 := hR.cell 2
      simp only [List.getElem?_toArray, List.getElem?_cons_succ, List.getElem?_cons_zero] at q2
      go_wp2
      exact (HJ.out _ _ _).2 ⟨_, _, _, _, _, _, _, _, _, _, _, _, _, _, _, rfl, hR, hG, hO, h0.out, h1.out, fun _ => rfl, fun _ => rfl, fun _ => rfl, h5.out, h6.out, h7.out, h8.out, h9.out, h10.out, h11.out, h12.out, h13.out, h14.out⟩
    | 5, _ =>
      obtain ⟨ty, ps, af, ho⟩ := op_lit hops (i := 5) (op := Op.move (Operand.tmp 3)) (dst := some 24) (g := some (2, true)) rfl
      obtain rfl := h2 (hdep 2 (by simp))
      have hy := fun tmps ht => yielded_lit hops (i := 2) (op := Op.move (Operand.tmp 20)) (t := 21) (g := none) rfl tmps true ht
      refine wpOp_lit ho (fun j b h => by cases h; exact hy _ rfl) ?_
      clear hops hdep ho hy
      replace h0 := hidH h0
      replace h1 := hidH h1
      replace h2 := hidH h2
      replace h3 := hidH h3
      replace h4 := hidH h4
      replace h6 := hidH h6
      replace h7 := hidH h7
      replace h8 := hidH h8
      replace h9 := hidH h9
      replace h10 := hidH h10
      replace h11 := hidH h11
      replace h12 := hidH h12
      replace h13 := hidH h13
      replace h14 := hidH h14
      go_wp2
      exact (HJ.out _ _ _).2 ⟨_, _, _, _, _, _, _, _, _, _, _, _, _, _, _, rfl, hR, hG, hO, h0.out, h1.out, fun _ => rfl, h3.out, h4.out, fun _ => rfl, h6.out, h7.out, h8.out, h9.out, h10.out, h11.out, h12.out, h13.out, h14.out⟩
    | 6, _ =>
      obtain ⟨ty, ps, af, ho⟩ := op_lit hops (i := 6) (op := Op.binOp BinOp.sub 3 (Operand.tmp 24) ((Operand.const (Value.int .i64 1))) 3) (dst := some 25) (g := some (2, true)) rfl
      obtain rfl := h2 (hdep 2 (by simp))
      have hy := fun tmps ht => yielded_lit hops (i := 2) (op := Op.move (Operand.tmp 20)) (t := 21) (g := none) rfl tmps true ht
      obtain rfl := h5 (hdep 5 (by simp))
      refine wpOp_lit ho (fun j b h => by cases h; exact hy _ rfl) ?_
      clear hops hdep ho hy
      replace h0 := hidH h0
      replace h1 := hidH h1
      replace h2 := hidH h2
      replace h3 := hidH h3
      replace h4 := hidH h4
      replace h5 := hidH h5
      replace h7 := hidH h7
      replace h8 := hidH h8
      replace h9 := hidH h9
      replace h10 := hidH h10
      replace h11 := hidH h11
      replace h12 := hidH h12
      replace h13 := hidH h13
      replace h14 := hidH h14
      go_wp2
      exact (HJ.out _ _ _).2 ⟨_, _, _, _, _, _, _, _, _, _, _, _, _, _, _, rfl, hR, hG, hO, h0.out, h1.out, fun _ => rfl, h3.out, h4.out, fun _ => rfl, fun _ => rfl, h7.out, h8.out, h9.out, h10.out, h11.out, h12.out, h13.out, h14.out⟩
    | 7, _ =>
      obtain ⟨ty, ps, af, ho⟩ := op_lit hops (i := 7) (op := Op.indexAddr 25 (Operand.tmp 23) (Operand.tmp 25)) (dst := some 26) (g := some (2, true)) rfl
      obtain rfl := h2 (hdep 2 (by simp))
      have hy := fun tmps ht => yielded_lit hops (i := 2) (op := Op.move (Operand.tmp 20)) (t := 21) (g := none) rfl tmps true ht
      obtain rfl := h4 (hdep 4 (by simp))
      obtain rfl := h6 (hdep 6 (by simp))
      refine wpOp_lit ho (fun j b h => by cases h; exact hy _ rfl) ?_
      clear hops hdep ho hy
      replace h0 := hidH h0
      replace h1 := hidH h1
      replace h2 := hidH h2
      replace h3 := hidH h3
      replace h4 := hidH h4
      replace h5 := hidH h5
      replace h6 := hidH h6
      replace h8 := hidH h8
      replace h9 := hidH h9
      replace h10 := hidH h10
      replace h11 := hidH h11
      replace h12 := hidH h12
      replace h13 := hidH h13
      replace h14 := hidH h14
      go_wp2
      exact (HJ.out _ _ _).2 ⟨_, _, _, _, _, _, _, _, _, _, _, _, _, _, _, rfl, hR, hG, hO, h0.out, h1.out, fun _ => rfl, h3.out, fun _ => rfl, h5.out, fun _ => rfl, fun _ => rfl, h8.out, h9.out, h10.out, h11.out, h12.out, h13.out, h14.out⟩
    | 8, _ =>
      obtain ⟨ty, ps, af, ho⟩ := op_lit hops (i := 8) (op := Op.fieldAddr 76 (Operand.tmp 26) 0) (dst := some 27) (g := some (2, true)) rfl
      obtain rfl := h2 (hdep 2 (by simp))
      have hy := fun tmps ht => yielded_lit hops (i := 2) (op := Op.move (Operand.tmp 20)) (t := 21) (g := none) rfl tmps true ht
      obtain rfl := h7 (hdep 7 (by simp))
      refine wpOp_lit ho (fun j b h => by cases h; exact hy _ rfl) ?_
      clear hops hdep ho hy
      replace h0 := hidH h0
      replace h1 := hidH h1
      replace h2 := hidH h2
      replace h3 := hidH h3
      replace h4 := hidH h4
      replace h5 := hidH h5
      replace h6 := hidH h6
      replace h7 := hidH h7
      replace h9 := hidH h9
      replace h10 := hidH h10
      replace h11 := hidH h11
      replace h12 := hidH h12
      replace h13 := hidH h13
      replace h14 := hidH h14
      go_wp2
      exact (HJ.out _ _ _).2 ⟨_, _, _, _, _, _, _, _, _, _, _, _, _, _, _, rfl, hR, hG, hO, h0.out, h1.out, fun _ => rfl, h3.out, h4.out, h5.out, h6.out, fun _ => rfl, fun _ => rfl, h9.out, h10.out, h11.out, h12.out, h13.out, h14.out⟩
    | 9, _ =>
      obtain ⟨ty, ps, af, ho⟩ := op_lit hops (i := 9) (op := Op.load 2 (Operand.tmp 27)) (dst := some 28) (g := some (2, true)) rfl
      obtain rfl := h2 (hdep 2 (by simp))
      have hy := fun tmps ht => yielded_lit hops (i := 2) (op := Op.move (Operand.tmp 20)) (t := 21) (g := none) rfl tmps true ht
      obtain rfl := h8 (hdep 8 (by simp))
      refine wpOp_lit ho (fun j b h => by cases h; exact hy _ rfl) ?_
      clear hops hdep ho hy
      replace h0 := hidH h0
      replace h1 := hidH h1
      replace h2 := hidH h2
      replace h3 := hidH h3
      replace h4 := hidH h4
      replace h5 := hidH h5
      replace h6 := hidH h6
      replace h7 := hidH h7
      replace h8 := hidH h8
      replace h10 := hidH h10
      replace h11 := hidH h11
      replace h12 := hidH h12
      replace h13 := hidH h13
      replace h14 := hidH h14
      have q0 := (hO.cell (p := ⟨ga, oa + m * 7, none⟩) hga).trans d0
      go_wp2
      exact (HJ.out _ _ _).2 ⟨_, _, _, _, _, _, _, _, _, _, _, _, _, _, _, rfl, hR, hG, hO, h0.out, h1.out, fun _ => rfl, h3.out, h4.out, h5.out, h6.out, h7.out, fun _ => rfl, fun _ => rfl, h10.out, h11.out, h12.out, h13.out, h14.out⟩
    | 10, _ =>
      obtain ⟨ty, ps, af, ho⟩ := op_lit hops (i := 10) (op := Op.fieldAddr 76 (Operand.tmp 4) 0) (dst := some 29) (g := some (2, true)) rfl
      obtain rfl := h2 (hdep 2 (by simp))
      have hy := fun tmps ht => yielded_lit hops (i := 2) (op := Op.move (Operand.tmp 20)) (t := 21) (g := none) rfl tmps true ht
      refine wpOp_lit ho (fun j b h => by cases h; exact hy _ rfl) ?_
      clear hops hdep ho hy
      replace h0 := hidH h0
      replace h1 := hidH h1
      replace h2 := hidH h2
      replace h3 := hidH h3
      replace h4 := hidH h4
      replace h5 := hidH h5
      replace h6 := hidH h6
      replace h7 := hidH h7
      replace h8 := hidH h8
      replace h9 := hidH h9
      replace h11 := hidH h11
      replace h12 := hidH h12
      replace h13 := hidH h13
      replace h14 := hidH h14
      go_wp2
      exact (HJ.out _ _ _).2 ⟨_, _, _, _, _, _, _, _, _, _, _, _, _, _, _, rfl, hR, hG, hO, h0.out, h1.out, fun _ => rfl, h3.out, h4.out, h5.out, h6.out, h7.out, h8.out, h9.out, fun _ => rfl, h11.out, h12.out, h13.out, h14.out⟩
    | 11, _ =>
      obtain ⟨ty, ps, af, ho⟩ := op_lit hops (i := 11) (op := Op.load 2 (Operand.tmp 29)) (dst := some 30) (g := some (2, true)) rfl
      obtain rfl := h2 (hdep 2 (by simp))
      have hy := fun tmps ht => yielded_lit hops (i := 2) (op := Op.move (Operand.tmp 20)) (t := 21) (g := none) rfl tmps true ht
      obtain rfl := h10 (hdep 10 (by simp))
      refine wpOp_lit ho (fun j b h => by cases h; exact hy _ rfl) ?_
      clear hops hdep ho hy
      replace h0 := hidH h0
      replace h1 := hidH h1
      replace h2 := hidH h2
      replace h3 := hidH h3
      replace h4 := hidH h4
      replace h5 := hidH h5
      replace h6 := hidH h6
      replace h7 := hidH h7
      replace h8 := hidH h8
      replace h9 := hidH h9
      replace h10 := hidH h10
      replace h12 := hidH h12
      replace h13 := hidH h13
      replace h14 := hidH h14
      have q0 := hG.cell 0
      simp only [List.getElem?_toArray, List.getElem?_cons_zero] at q0
      go_wp2
      exact (HJ.out _ _ _).2 ⟨_, _, _, _, _, _, _, _, _, _, _, _, _, _, _, rfl, hR, hG, hO, h0.out, h1.out, fun _ => rfl, h3.out, h4.out, h5.out, h6.out, h7.out, h8.out, h9.out, fun _ => rfl, fun _ => rfl, h12.out, h13.out, h14.out⟩
    | 12, _ =>
      obtain ⟨ty, ps, af, ho⟩ := op_lit hops (i := 12) (op := Op.call { callee := Callee.value (Operand.func 69), args := #[(Operand.tmp 28), (Operand.tmp 30)], argTypes := #[2, 2] }) (dst := some 31) (g := some (2, true)) rfl
      obtain rfl := h2 (hdep 2 (by simp))
      have hy := fun tmps ht => yielded_lit hops (i := 2) (op := Op.move (Operand.tmp 20)) (t := 21) (g := none) rfl tmps true ht
      obtain rfl := h9 (hdep 9 (by simp))
      obtain rfl := h11 (hdep 11 (by simp))
      refine wpOp_lit ho (fun j b h => by cases h; exact hy _ rfl) ?_
      clear hops hdep ho hy
      replace h0 := hidH h0
      replace h1 := hidH h1
      replace h2 := hidH h2
      replace h3 := hidH h3
      replace h4 := hidH h4
      replace h5 := hidH h5
      replace h6 := hidH h6
      replace h7 := hidH h7
      replace h8 := hidH h8
      replace h9 := hidH h9
      replace h10 := hidH h10
      replace h11 := hidH h11
      replace h13 := hidH h13
      replace h14 := hidH h14
      go_wp2_with fail
      refine (less_impl q x.Tsn W).mono ?_
      rintro e w9 ⟨rfl, hb⟩
      go_wp2
      exact (HJ.out _ _ _).2 ⟨_, _, _, _, _, _, _, _, _, _, _, _, _, _, _, rfl, hR.below hb, hG.below hb, btr hO hb, h0.out, h1.out, fun _ => rfl, h3.out, h4.out, h5.out, h6.out, h7.out, h8.out, fun _ => rfl, h10.out, fun _ => rfl, fun _ => rfl, h13.out, h14.out⟩
    | 13, _ =>
      obtain ⟨ty, ps, af, ho⟩ := op_lit hops (i := 13) (op := Op.unOp UnOp.not 4 (Operand.tmp 31)) (dst := some 32) (g := some (2, true)) rfl
      obtain rfl := h2 (hdep 2 (by simp))
      have hy := fun tmps ht => yielded_lit hops (i := 2) (op := Op.move (Operand.tmp 20)) (t := 21) (g := none) rfl tmps true ht
      obtain rfl := h12 (hdep 12 (by simp))
      refine wpOp_lit ho (fun j b h => by cases h; exact hy _ rfl) ?_
      clear hops hdep ho hy
      replace h0 := hidH h0
      replace h1 := hidH h1
      replace h2 := hidH h2
      replace h3 := hidH h3
      replace h4 := hidH h4
      replace h5 := hidH h5
      replace h6 := hidH h6
      replace h7 := hidH h7
      replace h8 := hidH h8
      replace h9 := hidH h9
      replace h10 := hidH h10
      replace h11 := hidH h11
      replace h12 := hidH h12
      replace h14 := hidH h14
      go_wp2
      exact (HJ.out _ _ _).2 ⟨_, _, _, _, _, _, _, _, _, _, _, _, _, _, _, rfl, hR, hG, hO, h0.out, h1.out, fun _ => rfl, h3.out, h4.out, h5.out, h6.out, h7.out, h8.out, h9.out, h10.out, h11.out, fun _ => rfl, fun _ => rfl, h14.out⟩
    | 14, _ =>
      obtain ⟨ty, ps, af, ho⟩ := op_lit hops (i := 14) (op := Op.pick (Operand.tmp 21) (Operand.tmp 32) (Operand.const (Value.bool false))) (dst := some 33) (g := none) rfl
      obtain rfl := h2 (hdep 2 (by simp))
      obtain rfl := h13 (hdep 13 (by simp))
      refine wpOp_lit ho (fun j b h => by cases h) ?_
      clear hops hdep ho
      replace h0 := hidH h0
      replace h1 := hidH h1
      replace h2 := hidH h2
      replace h3 := hidH h3
      replace h4 := hidH h4
      replace h5 := hidH h5
      replace h6 := hidH h6
      replace h7 := hidH h7
      replace h8 := hidH h8
      replace h9 := hidH h9
      replace h10 := hidH h10
      replace h11 := hidH h11
      replace h12 := hidH h12
      replace h13 := hidH h13
      go_wp2
      exact (HJ.out _ _ _).2 ⟨_, _, _, _, _, _, _, _, _, _, _, _, _, _, _, rfl, hR, hG, hO, h0.out, h1.out, fun _ => rfl, h3.out, h4.out, h5.out, h6.out, h7.out, h8.out, h9.out, h10.out, h11.out, h12.out, fun _ => rfl, fun _ => rfl⟩
    | n + 15, h => omega
  case fin =>
    clear hops hdeps hback
    rintro dn ac W hJ hall
    obtain ⟨t19, t20, t21, t22, t23, t24, t25, t26, t27, t28, t29, t30, t31, t32, t33, rfl, hR, hG, hO, h0, h1, h2, h3, h4, h5, h6, h7, h8, h9, h10, h11, h12, h13, h14⟩ := (HJ.out _ _ _).1 hJ
    obtain rfl := h14 (hall 14 (by omega))
    exact fin _ _ _ _ _ _ _ _ _ _ _ _ _ _ W hO
end Go.Proofs.Ytncnibkojneejaa
