/- The third region of the law FnMacs that draws its order: a long key and its digest. -/
import Derived.Test.YtanffpmpknmldaaLaw6
namespace Go.Proofs.Ytanffpmpknmldaa
open Go.RowKit Go.Deep

set_option maxRecDepth 100000 in
set_option maxHeartbeats 1000000 in
theorem regMac12 {Q : Exit → Act → World → Prop} (x1 x8 x9 x10 x11 x12 x13 x14 x15 x16 x17 x18 x19 x20 x21 x22 x23 x24 x25 x26 x27 x28 x29 x30 x31 x32 x33 x34 x35 x36 x37 x38 x39 x40 x41 x42 x43 x44 x45 x46 x47 x48 x49 x50 x51 x52 x53 x54 x55 x56 x57 x58 x59 x60 x61 x62 x63 x64 x65 x66 x67 : Value) (ws : World) (g : Nat) (M K D PA PB cA : Option Addr) (ml k d a b l : List Int) (cm ck cd pa pb ca : Nat) (sk : List Int) (hk : (64 : Int) < (k.length : Int))
    (B1 : ∀ u, MS ws g 0 M ml cm K k D d PA a PB b cA l u → Calls Try.prog 16 #[.slice K k.length ck] u (RB u 0 sk))
    (B2 : ∀ (u : World) (A1 : Option Addr) (c1 : Nat), MS ws g 0 M ml cm K k D d PA a PB b cA l u → Bs u A1 sk → Calls Try.prog 10 #[.slice A1 sk.length c1, .slice D d.length cd] u (RB u 0 ml)) {ops : Array Oper}
    (hops : (ops.map fun o => (o.op, o.dst, o.guard)) = #[(Op.move (Operand.tmp 3), some 68, none), (Op.call { callee := Callee.builtin Builtin.len, args := #[(Operand.tmp 68)], argTypes := #[22] }, some 69, none), (Op.binOp BinOp.gtr 3 (Operand.tmp 69) (Operand.const (Value.int .i64 64)) 3, some 70, none), (Op.move (Operand.tmp 70), some 71, none), (Op.move (Operand.tmp 3), some 72, some (3, true)), (Op.call { callee := Callee.value (Operand.func 16), args := #[(Operand.tmp 72)], argTypes := #[22] }, some 73, some (3, true)), (Op.field 27 (Operand.tmp 73) 1, some 74, some (3, true)), (Op.move (Operand.tmp 4), some 75, some (3, true)), (Op.call { callee := Callee.value (Operand.func 10), args := #[(Operand.tmp 74), (Operand.tmp 75)], argTypes := #[22, 22] }, some 76, some (3, true)), (Op.field 27 (Operand.tmp 76) 1, some 77, some (3, true)), (Op.fieldAddr 27 (Operand.tmp 5) 1, some 78, some (3, true)), (Op.load 22 (Operand.tmp 78), some 79, some (3, true)), (Op.call { callee := Callee.value (Operand.func 15), args := #[(Operand.tmp 77), (Operand.tmp 79)], argTypes := #[22, 22] }, some 80, some (3, true)), (Op.unOp UnOp.not 4 (Operand.tmp 80), some 81, some (3, true)), (Op.pick (Operand.tmp 71) (Operand.tmp 81) (Operand.const (Value.bool false)), some 82, none)])
    (hdeps : ((List.range 15).all fun i => ((fun i => [[], [0], [1], [2], [3], [3, 4], [3, 5], [3], [3, 6, 7], [3, 8], [3], [3, 10], [3, 9, 11], [3, 12], [3, 13]].getD i []) i).all fun j => ((ops[i]?).map fun o => o.after.any fun e => Region.binds .any e && e.on == j).getD false) = true)
    (hback : ((List.range 15).all fun i => ((ops[i]?).map fun o => o.after.all fun e => decide (e.on < i)).getD false) = true)
    {a0 : Act} {w0 : World} (ha : a0 = { tmps := #[.slice cA l.length ca, x1, .bool false, .slice K k.length ck, .slice D d.length cd, .pointer (some ⟨g, 0, none⟩), .slice PA a.length pa, .slice PB b.length pb, x8, x9, x10, x11, x12, x13, x14, x15, x16, x17, x18, x19, x20, x21, x22, x23, x24, x25, x26, x27, x28, x29, x30, x31, x32, x33, x34, x35, x36, x37, x38, x39, x40, x41, x42, x43, x44, x45, x46, x47, x48, x49, x50, x51, x52, x53, x54, x55, x56, x57, x58, x59, x60, x61, x62, x63, x64, x65, x66, x67, undef, undef, undef, undef, undef, undef, undef, undef, undef, undef, undef, undef, undef, undef, undef, undef, undef, undef, undef, undef, undef, undef, undef, undef, undef, undef, undef, undef, undef, undef, undef, undef, undef, undef], defers := [] }) (hM : MS ws g 0 M ml cm K k D d PA a PB b cA l w0)
    (fin : ∀ t68 t69 t70 t71 t72 t73 t74 t75 t76 t77 t78 t79 t80 t81 (W : World), (MS ws g 0 M ml cm K k D d PA a PB b cA l W) → Q .normal { tmps := #[.slice cA l.length ca, x1, .bool false, .slice K k.length ck, .slice D d.length cd, .pointer (some ⟨g, 0, none⟩), .slice PA a.length pa, .slice PB b.length pb, x8, x9, x10, x11, x12, x13, x14, x15, x16, x17, x18, x19, x20, x21, x22, x23, x24, x25, x26, x27, x28, x29, x30, x31, x32, x33, x34, x35, x36, x37, x38, x39, x40, x41, x42, x43, x44, x45, x46, x47, x48, x49, x50, x51, x52, x53, x54, x55, x56, x57, x58, x59, x60, x61, x62, x63, x64, x65, x66, x67, t68, t69, t70, t71, t72, t73, t74, t75, t76, t77, t78, t79, t80, t81, .bool false, undef, undef, undef, undef, undef, undef, undef, undef, undef, undef, undef, undef, undef, undef, undef, undef, undef, undef, undef], defers := [] } W) :
    wpAny Try.prog .any ops Q ops.size (Array.replicate ops.size false) a0 w0 := by
  have hn : ops.size = 15 := by have := congrArg Array.size hops; simpa using this
  obtain ⟨J, HJ⟩ : ∃ J : (Nat → Bool) → Act → World → Prop, ∀ dn ac W, J dn ac W ↔ (fun dn ac W => ∃ t68 t69 t70 t71 t72 t73 t74 t75 t76 t77 t78 t79 t80 t81 t82, ac = { tmps := #[.slice cA l.length ca, x1, .bool false, .slice K k.length ck, .slice D d.length cd, .pointer (some ⟨g, 0, none⟩), .slice PA a.length pa, .slice PB b.length pb, x8, x9, x10, x11, x12, x13, x14, x15, x16, x17, x18, x19, x20, x21, x22, x23, x24, x25, x26, x27, x28, x29, x30, x31, x32, x33, x34, x35, x36, x37, x38, x39, x40, x41, x42, x43, x44, x45, x46, x47, x48, x49, x50, x51, x52, x53, x54, x55, x56, x57, x58, x59, x60, x61, x62, x63, x64, x65, x66, x67, t68, t69, t70, t71, t72, t73, t74, t75, t76, t77, t78, t79, t80, t81, t82, undef, undef, undef, undef, undef, undef, undef, undef, undef, undef, undef, undef, undef, undef, undef, undef, undef, undef, undef], defers := [] } ∧ (MS ws g 0 M ml cm K k D d PA a PB b cA l W) ∧ (dn 0 = true → t68 = .slice K k.length ck) ∧ (dn 1 = true → t69 = .int .i64 (k.length : Int)) ∧ (dn 2 = true → t70 = .bool true) ∧ (dn 3 = true → t71 = .bool true) ∧ (dn 4 = true → t72 = .slice K k.length ck) ∧ (dn 5 = true → ∃ (A1 : Option Addr) (c1 : Nat), t73 = .agg #[.int .i64 0, .slice A1 sk.length c1] ∧ Bs W A1 sk) ∧ (dn 6 = true → ∃ (A1 : Option Addr) (c1 : Nat), t74 = .slice A1 sk.length c1 ∧ Bs W A1 sk) ∧ (dn 7 = true → t75 = .slice D d.length cd) ∧ (dn 8 = true → ∃ (A1 : Option Addr) (c1 : Nat), t76 = .agg #[.int .i64 0, .slice A1 ml.length c1] ∧ Bs W A1 ml) ∧ (dn 9 = true → ∃ (A1 : Option Addr) (c1 : Nat), t77 = .slice A1 ml.length c1 ∧ Bs W A1 ml) ∧ (dn 10 = true → t78 = .pointer (some ⟨g, 1, none⟩)) ∧ (dn 11 = true → t79 = .slice M ml.length cm) ∧ (dn 12 = true → t80 = .bool true) ∧ (dn 13 = true → t81 = .bool false) ∧ (dn 14 = true → t82 = .bool false)) dn ac W := ⟨_, fun _ _ _ => Iff.rfl⟩
  replace HJ := hidH HJ
  refine region_inv 15 (fun i => [[], [0], [1], [2], [3], [3, 4], [3, 5], [3], [3, 6, 7], [3, 8], [3], [3, 10], [3, 9, 11], [3, 12], [3, 13]].getD i []) J hn hdeps hback ?start ?step ?fin
  case start => exact (HJ.out _ _ _).2 ⟨undef, undef, undef, undef, undef, undef, undef, undef, undef, undef, undef, undef, undef, undef, undef, ha, hM, fun h => by simp at h, fun h => by simp at h, fun h => by simp at h, fun h => by simp at h, fun h => by simp at h, fun h => by simp at h, fun h => by simp at h, fun h => by simp at h, fun h => by simp at h, fun h => by simp at h, fun h => by simp at h, fun h => by simp at h, fun h => by simp at h, fun h => by simp at h, fun h => by simp at h⟩
  all_goals clear ha hM
  case step =>
    clear fin hdeps hback
    intro i hi dn ac W hJ hdn hdep
    obtain ⟨t68, t69, t70, t71, t72, t73, t74, t75, t76, t77, t78, t79, t80, t81, t82, rfl, hM, h0, h1, h2, h3, h4, h5, h6, h7, h8, h9, h10, h11, h12, h13, h14⟩ := (HJ.out _ _ _).1 hJ
    clear hJ
    match i, hi with
    | 0, _ =>
      obtain ⟨ty, ps, af, ho⟩ := op_lit hops (i := 0) (op := Op.move (Operand.tmp 3)) (dst := some 68) (g := none) rfl
      refine wpOp_lit ho (fun j b h => by cases h) ?_
      clear hops hdep ho
      replace h1 := hidH h1
      replace h2 := hidH h2
      replace h3 := hidH h3
      replace h4 := hidH h4
      replace h5 := hidH h5
      replace h6 := hidH h6
      replace h7 := hidH h7
      replace h8 := hidH h8
      replace h9 := hidH h9
      replace h10 := hidH h10
      replace h11 := hidH h11
      replace h12 := hidH h12
      replace h13 := hidH h13
      replace h14 := hidH h14
      go_wp2
      exact (HJ.out _ _ _).2 ⟨_, _, _, _, _, _, _, _, _, _, _, _, _, _, _, rfl, hM, fun _ => rfl, h1.out, h2.out, h3.out, h4.out, h5.out, h6.out, h7.out, h8.out, h9.out, h10.out, h11.out, h12.out, h13.out, h14.out⟩
    | 1, _ =>
      obtain ⟨ty, ps, af, ho⟩ := op_lit hops (i := 1) (op := Op.call { callee := Callee.builtin Builtin.len, args := #[(Operand.tmp 68)], argTypes := #[22] }) (dst := some 69) (g := none) rfl
      obtain rfl := h0 (hdep 0 (by simp))
      refine wpOp_lit ho (fun j b h => by cases h) ?_
      clear hops hdep ho
      replace h0 := hidH h0
      replace h2 := hidH h2
      replace h3 := hidH h3
      replace h4 := hidH h4
      replace h5 := hidH h5
      replace h6 := hidH h6
      replace h7 := hidH h7
      replace h8 := hidH h8
      replace h9 := hidH h9
      replace h10 := hidH h10
      replace h11 := hidH h11
      replace h12 := hidH h12
      replace h13 := hidH h13
      replace h14 := hidH h14
      go_wp2
      exact (HJ.out _ _ _).2 ⟨_, _, _, _, _, _, _, _, _, _, _, _, _, _, _, rfl, hM, fun _ => rfl, fun _ => rfl, h2.out, h3.out, h4.out, h5.out, h6.out, h7.out, h8.out, h9.out, h10.out, h11.out, h12.out, h13.out, h14.out⟩
    | 2, _ =>
      obtain ⟨ty, ps, af, ho⟩ := op_lit hops (i := 2) (op := Op.binOp BinOp.gtr 3 (Operand.tmp 69) (Operand.const (Value.int .i64 64)) 3) (dst := some 70) (g := none) rfl
      obtain rfl := h1 (hdep 1 (by simp))
      refine wpOp_lit ho (fun j b h => by cases h) ?_
      clear hops hdep ho
      replace h0 := hidH h0
      replace h1 := hidH h1
      replace h3 := hidH h3
      replace h4 := hidH h4
      replace h5 := hidH h5
      replace h6 := hidH h6
      replace h7 := hidH h7
      replace h8 := hidH h8
      replace h9 := hidH h9
      replace h10 := hidH h10
      replace h11 := hidH h11
      replace h12 := hidH h12
      replace h13 := hidH h13
      replace h14 := hidH h14
      go_wp2
      exact (HJ.out _ _ _).2 ⟨_, _, _, _, _, _, _, _, _, _, _, _, _, _, _, rfl, hM, h0.out, fun _ => rfl, fun _ => rfl, h3.out, h4.out, h5.out, h6.out, h7.out, h8.out, h9.out, h10.out, h11.out, h12.out, h13.out, h14.out⟩
    | 3, _ =>
      obtain ⟨ty, ps, af, ho⟩ := op_lit hops (i := 3) (op := Op.move (Operand.tmp 70)) (dst := some 71) (g := none) rfl
      obtain rfl := h2 (hdep 2 (by simp))
      refine wpOp_lit ho (fun j b h => by cases h) ?_
      clear hops hdep ho
      replace h0 := hidH h0
      replace h1 := hidH h1
      replace h2 := hidH h2
      replace h4 := hidH h4
      replace h5 := hidH h5
      replace h6 := hidH h6
      replace h7 := hidH h7
      replace h8 := hidH h8
      replace h9 := hidH h9
      replace h10 := hidH h10
      replace h11 := hidH h11
      replace h12 := hidH h12
      replace h13 := hidH h13
      replace h14 := hidH h14
      go_wp2
      exact (HJ.out _ _ _).2 ⟨_, _, _, _, _, _, _, _, _, _, _, _, _, _, _, rfl, hM, h0.out, h1.out, fun _ => rfl, fun _ => rfl, h4.out, h5.out, h6.out, h7.out, h8.out, h9.out, h10.out, h11.out, h12.out, h13.out, h14.out⟩
    | 4, _ =>
      obtain ⟨ty, ps, af, ho⟩ := op_lit hops (i := 4) (op := Op.move (Operand.tmp 3)) (dst := some 72) (g := some (3, true)) rfl
      obtain rfl := h3 (hdep 3 (by simp))
      have hy := fun tmps ht => yielded_lit hops (i := 3) (op := Op.move (Operand.tmp 70)) (t := 71) (g := none) rfl tmps true ht
      refine wpOp_lit ho (fun j b h => by cases h; exact hy _ rfl) ?_
      clear hops hdep ho hy
      replace h0 := hidH h0
      replace h1 := hidH h1
      replace h2 := hidH h2
      replace h3 := hidH h3
      replace h5 := hidH h5
      replace h6 := hidH h6
      replace h7 := hidH h7
      replace h8 := hidH h8
      replace h9 := hidH h9
      replace h10 := hidH h10
      replace h11 := hidH h11
      replace h12 := hidH h12
      replace h13 := hidH h13
      replace h14 := hidH h14
      go_wp2
      exact (HJ.out _ _ _).2 ⟨_, _, _, _, _, _, _, _, _, _, _, _, _, _, _, rfl, hM, h0.out, h1.out, h2.out, fun _ => rfl, fun _ => rfl, h5.out, h6.out, h7.out, h8.out, h9.out, h10.out, h11.out, h12.out, h13.out, h14.out⟩
    | 5, _ =>
      obtain ⟨ty, ps, af, ho⟩ := op_lit hops (i := 5) (op := Op.call { callee := Callee.value (Operand.func 16), args := #[(Operand.tmp 72)], argTypes := #[22] }) (dst := some 73) (g := some (3, true)) rfl
      obtain rfl := h3 (hdep 3 (by simp))
      have hy := fun tmps ht => yielded_lit hops (i := 3) (op := Op.move (Operand.tmp 70)) (t := 71) (g := none) rfl tmps true ht
      obtain rfl := h4 (hdep 4 (by simp))
      refine wpOp_lit ho (fun j b h => by cases h; exact hy _ rfl) ?_
      clear hops hdep ho hy
      replace h0 := hidH h0
      replace h1 := hidH h1
      replace h2 := hidH h2
      replace h3 := hidH h3
      replace h4 := hidH h4
      replace h6 := hidH h6
      replace h7 := hidH h7
      replace h8 := hidH h8
      replace h9 := hidH h9
      replace h10 := hidH h10
      replace h11 := hidH h11
      replace h12 := hidH h12
      replace h13 := hidH h13
      replace h14 := hidH h14
      go_wp2_with fail
      refine (B1 _ hM).mono ?_
      rintro e w1 ⟨A1, c1, rfl, hT, hb⟩
      go_wp2
      exact (HJ.out _ _ _).2 ⟨_, _, _, _, _, _, _, _, _, _, _, _, _, _, _, rfl, hM.below hb, h0.out, h1.out, h2.out, fun _ => rfl, fun _ => rfl, fun _ => ⟨A1, c1, rfl, hT⟩, fun h => by obtain ⟨A1, c1, q1, q2⟩ := h6.out h; exact ⟨A1, c1, q1, bs_below q2 hb⟩, h7.out, fun h => by obtain ⟨A1, c1, q1, q2⟩ := h8.out h; exact ⟨A1, c1, q1, bs_below q2 hb⟩, fun h => by obtain ⟨A1, c1, q1, q2⟩ := h9.out h; exact ⟨A1, c1, q1, bs_below q2 hb⟩, h10.out, h11.out, h12.out, h13.out, h14.out⟩
    | 6, _ =>
      obtain ⟨ty, ps, af, ho⟩ := op_lit hops (i := 6) (op := Op.field 27 (Operand.tmp 73) 1) (dst := some 74) (g := some (3, true)) rfl
      obtain rfl := h3 (hdep 3 (by simp))
      have hy := fun tmps ht => yielded_lit hops (i := 3) (op := Op.move (Operand.tmp 70)) (t := 71) (g := none) rfl tmps true ht
      obtain ⟨A1, c1, rfl, hT⟩ := h5 (hdep 5 (by simp))
      refine wpOp_lit ho (fun j b h => by cases h; exact hy _ rfl) ?_
      clear hops hdep ho hy
      replace h0 := hidH h0
      replace h1 := hidH h1
      replace h2 := hidH h2
      replace h3 := hidH h3
      replace h4 := hidH h4
      replace h5 := hidH h5
      replace h7 := hidH h7
      replace h8 := hidH h8
      replace h9 := hidH h9
      replace h10 := hidH h10
      replace h11 := hidH h11
      replace h12 := hidH h12
      replace h13 := hidH h13
      replace h14 := hidH h14
      have f1 := fldB7
      go_wp2
      exact (HJ.out _ _ _).2 ⟨_, _, _, _, _, _, _, _, _, _, _, _, _, _, _, rfl, hM, h0.out, h1.out, h2.out, fun _ => rfl, h4.out, fun _ => ⟨A1, c1, rfl, hT⟩, fun _ => ⟨A1, c1, rfl, hT⟩, h7.out, h8.out, h9.out, h10.out, h11.out, h12.out, h13.out, h14.out⟩
    | 7, _ =>
      obtain ⟨ty, ps, af, ho⟩ := op_lit hops (i := 7) (op := Op.move (Operand.tmp 4)) (dst := some 75) (g := some (3, true)) rfl
      obtain rfl := h3 (hdep 3 (by simp))
      have hy := fun tmps ht => yielded_lit hops (i := 3) (op := Op.move (Operand.tmp 70)) (t := 71) (g := none) rfl tmps true ht
      refine wpOp_lit ho (fun j b h => by cases h; exact hy _ rfl) ?_
      clear hops hdep ho hy
      replace h0 := hidH h0
      replace h1 := hidH h1
      replace h2 := hidH h2
      replace h3 := hidH h3
      replace h4 := hidH h4
      replace h5 := hidH h5
      replace h6 := hidH h6
      replace h8 := hidH h8
      replace h9 := hidH h9
      replace h10 := hidH h10
      replace h11 := hidH h11
      replace h12 := hidH h12
      replace h13 := hidH h13
      replace h14 := hidH h14
      go_wp2
      exact (HJ.out _ _ _).2 ⟨_, _, _, _, _, _, _, _, _, _, _, _, _, _, _, rfl, hM, h0.out, h1.out, h2.out, fun _ => rfl, h4.out, h5.out, h6.out, fun _ => rfl, h8.out, h9.out, h10.out, h11.out, h12.out, h13.out, h14.out⟩
    | 8, _ =>
      obtain ⟨ty, ps, af, ho⟩ := op_lit hops (i := 8) (op := Op.call { callee := Callee.value (Operand.func 10), args := #[(Operand.tmp 74), (Operand.tmp 75)], argTypes := #[22, 22] }) (dst := some 76) (g := some (3, true)) rfl
      obtain rfl := h3 (hdep 3 (by simp))
      have hy := fun tmps ht => yielded_lit hops (i := 3) (op := Op.move (Operand.tmp 70)) (t := 71) (g := none) rfl tmps true ht
      obtain ⟨A1, c1, rfl, hT⟩ := h6 (hdep 6 (by simp))
      obtain rfl := h7 (hdep 7 (by simp))
      refine wpOp_lit ho (fun j b h => by cases h; exact hy _ rfl) ?_
      clear hops hdep ho hy
      replace h0 := hidH h0
      replace h1 := hidH h1
      replace h2 := hidH h2
      replace h3 := hidH h3
      replace h4 := hidH h4
      replace h5 := hidH h5
      replace h6 := hidH h6
      replace h7 := hidH h7
      replace h9 := hidH h9
      replace h10 := hidH h10
      replace h11 := hidH h11
      replace h12 := hidH h12
      replace h13 := hidH h13
      replace h14 := hidH h14
      go_wp2_with fail
      refine (B2 _ A1 c1 hM hT).mono ?_
      rintro e w1 ⟨A2, c2, rfl, hT2, hb⟩
      go_wp2
      exact (HJ.out _ _ _).2 ⟨_, _, _, _, _, _, _, _, _, _, _, _, _, _, _, rfl, hM.below hb, h0.out, h1.out, h2.out, fun _ => rfl, h4.out, fun h => by obtain ⟨A1, c1, q1, q2⟩ := h5.out h; exact ⟨A1, c1, q1, bs_below q2 hb⟩, fun _ => ⟨A1, c1, rfl, bs_below hT hb⟩, fun _ => rfl, fun _ => ⟨A2, c2, rfl, hT2⟩, fun h => by obtain ⟨A1, c1, q1, q2⟩ := h9.out h; exact ⟨A1, c1, q1, bs_below q2 hb⟩, h10.out, h11.out, h12.out, h13.out, h14.out⟩
    | 9, _ =>
      obtain ⟨ty, ps, af, ho⟩ := op_lit hops (i := 9) (op := Op.field 27 (Operand.tmp 76) 1) (dst := some 77) (g := some (3, true)) rfl
      obtain rfl := h3 (hdep 3 (by simp))
      have hy := fun tmps ht => yielded_lit hops (i := 3) (op := Op.move (Operand.tmp 70)) (t := 71) (g := none) rfl tmps true ht
      obtain ⟨A1, c1, rfl, hT⟩ := h8 (hdep 8 (by simp))
      refine wpOp_lit ho (fun j b h => by cases h; exact hy _ rfl) ?_
      clear hops hdep ho hy
      replace h0 := hidH h0
      replace h1 := hidH h1
      replace h2 := hidH h2
      replace h3 := hidH h3
      replace h4 := hidH h4
      replace h5 := hidH h5
      replace h6 := hidH h6
      replace h7 := hidH h7
      replace h8 := hidH h8
      replace h10 := hidH h10
      replace h11 := hidH h11
      replace h12 := hidH h12
      replace h13 := hidH h13
      replace h14 := hidH h14
      have f1 := fldB7
      go_wp2
      exact (HJ.out _ _ _).2 ⟨_, _, _, _, _, _, _, _, _, _, _, _, _, _, _, rfl, hM, h0.out, h1.out, h2.out, fun _ => rfl, h4.out, h5.out, h6.out, h7.out, fun _ => ⟨A1, c1, rfl, hT⟩, fun _ => ⟨A1, c1, rfl, hT⟩, h10.out, h11.out, h12.out, h13.out, h14.out⟩
    | 10, _ =>
      obtain ⟨ty, ps, af, ho⟩ := op_lit hops (i := 10) (op := Op.fieldAddr 27 (Operand.tmp 5) 1) (dst := some 78) (g := some (3, true)) rfl
      obtain rfl := h3 (hdep 3 (by simp))
      have hy := fun tmps ht => yielded_lit hops (i := 3) (op := Op.move (Operand.tmp 70)) (t := 71) (g := none) rfl tmps true ht
      refine wpOp_lit ho (fun j b h => by cases h; exact hy _ rfl) ?_
      clear hops hdep ho hy
      replace h0 := hidH h0
      replace h1 := hidH h1
      replace h2 := hidH h2
      replace h3 := hidH h3
      replace h4 := hidH h4
      replace h5 := hidH h5
      replace h6 := hidH h6
      replace h7 := hidH h7
      replace h8 := hidH h8
      replace h9 := hidH h9
      replace h11 := hidH h11
      replace h12 := hidH h12
      replace h13 := hidH h13
      replace h14 := hidH h14
      go_wp2
      exact (HJ.out _ _ _).2 ⟨_, _, _, _, _, _, _, _, _, _, _, _, _, _, _, rfl, hM, h0.out, h1.out, h2.out, fun _ => rfl, h4.out, h5.out, h6.out, h7.out, h8.out, h9.out, fun _ => rfl, h11.out, h12.out, h13.out, h14.out⟩
    | 11, _ =>
      obtain ⟨ty, ps, af, ho⟩ := op_lit hops (i := 11) (op := Op.load 22 (Operand.tmp 78)) (dst := some 79) (g := some (3, true)) rfl
      obtain rfl := h3 (hdep 3 (by simp))
      have hy := fun tmps ht => yielded_lit hops (i := 3) (op := Op.move (Operand.tmp 70)) (t := 71) (g := none) rfl tmps true ht
      obtain rfl := h10 (hdep 10 (by simp))
      refine wpOp_lit ho (fun j b h => by cases h; exact hy _ rfl) ?_
      clear hops hdep ho hy
      replace h0 := hidH h0
      replace h1 := hidH h1
      replace h2 := hidH h2
      replace h3 := hidH h3
      replace h4 := hidH h4
      replace h5 := hidH h5
      replace h6 := hidH h6
      replace h7 := hidH h7
      replace h8 := hidH h8
      replace h9 := hidH h9
      replace h10 := hidH h10
      replace h12 := hidH h12
      replace h13 := hidH h13
      replace h14 := hidH h14
      have q1 := hM.blk.cell 1
      simp only [List.getElem?_toArray, List.getElem?_cons_succ, List.getElem?_cons_zero] at q1
      go_wp2
      exact (HJ.out _ _ _).2 ⟨_, _, _, _, _, _, _, _, _, _, _, _, _, _, _, rfl, hM, h0.out, h1.out, h2.out, fun _ => rfl, h4.out, h5.out, h6.out, h7.out, h8.out, h9.out, fun _ => rfl, fun _ => rfl, h12.out, h13.out, h14.out⟩
    | 12, _ =>
      obtain ⟨ty, ps, af, ho⟩ := op_lit hops (i := 12) (op := Op.call { callee := Callee.value (Operand.func 15), args := #[(Operand.tmp 77), (Operand.tmp 79)], argTypes := #[22, 22] }) (dst := some 80) (g := some (3, true)) rfl
      obtain rfl := h3 (hdep 3 (by simp))
      have hy := fun tmps ht => yielded_lit hops (i := 3) (op := Op.move (Operand.tmp 70)) (t := 71) (g := none) rfl tmps true ht
      obtain ⟨A1, c1, rfl, hT⟩ := h9 (hdep 9 (by simp))
      obtain rfl := h11 (hdep 11 (by simp))
      refine wpOp_lit ho (fun j b h => by cases h; exact hy _ rfl) ?_
      clear hops hdep ho hy
      replace h0 := hidH h0
      replace h1 := hidH h1
      replace h2 := hidH h2
      replace h3 := hidH h3
      replace h4 := hidH h4
      replace h5 := hidH h5
      replace h6 := hidH h6
      replace h7 := hidH h7
      replace h8 := hidH h8
      replace h9 := hidH h9
      replace h10 := hidH h10
      replace h11 := hidH h11
      replace h13 := hidH h13
      replace h14 := hidH h14
      have hmac := hM.mac
      go_wp2_with fail
      refine (lwB_sameB _ _ ml _ _ _ hT hmac).mono ?_
      rintro e w1 ⟨rfl, hb⟩
      go_wp2
      exact (HJ.out _ _ _).2 ⟨_, _, _, _, _, _, _, _, _, _, _, _, _, _, _, rfl, hM.below hb, h0.out, h1.out, h2.out, fun _ => rfl, h4.out, fun h => by obtain ⟨A1, c1, q1, q2⟩ := h5.out h; exact ⟨A1, c1, q1, bs_below q2 hb⟩, fun h => by obtain ⟨A1, c1, q1, q2⟩ := h6.out h; exact ⟨A1, c1, q1, bs_below q2 hb⟩, h7.out, fun h => by obtain ⟨A1, c1, q1, q2⟩ := h8.out h; exact ⟨A1, c1, q1, bs_below q2 hb⟩, fun _ => ⟨A1, c1, rfl, bs_below hT hb⟩, h10.out, fun _ => rfl, fun _ => rfl, h13.out, h14.out⟩
    | 13, _ =>
      obtain ⟨ty, ps, af, ho⟩ := op_lit hops (i := 13) (op := Op.unOp UnOp.not 4 (Operand.tmp 80)) (dst := some 81) (g := some (3, true)) rfl
      obtain rfl := h3 (hdep 3 (by simp))
      have hy := fun tmps ht => yielded_lit hops (i := 3) (op := Op.move (Operand.tmp 70)) (t := 71) (g := none) rfl tmps true ht
      obtain rfl := h12 (hdep 12 (by simp))
      refine wpOp_lit ho (fun j b h => by cases h; exact hy _ rfl) ?_
      clear hops hdep ho hy
      replace h0 := hidH h0
      replace h1 := hidH h1
      replace h2 := hidH h2
      replace h3 := hidH h3
      replace h4 := hidH h4
      replace h5 := hidH h5
      replace h6 := hidH h6
      replace h7 := hidH h7
      replace h8 := hidH h8
      replace h9 := hidH h9
      replace h10 := hidH h10
      replace h11 := hidH h11
      replace h12 := hidH h12
      replace h14 := hidH h14
      go_wp2
      exact (HJ.out _ _ _).2 ⟨_, _, _, _, _, _, _, _, _, _, _, _, _, _, _, rfl, hM, h0.out, h1.out, h2.out, fun _ => rfl, h4.out, h5.out, h6.out, h7.out, h8.out, h9.out, h10.out, h11.out, fun _ => rfl, fun _ => rfl, h14.out⟩
    | 14, _ =>
      obtain ⟨ty, ps, af, ho⟩ := op_lit hops (i := 14) (op := Op.pick (Operand.tmp 71) (Operand.tmp 81) (Operand.const (Value.bool false))) (dst := some 82) (g := none) rfl
      obtain rfl := h3 (hdep 3 (by simp))
      obtain rfl := h13 (hdep 13 (by simp))
      refine wpOp_lit ho (fun j b h => by cases h) ?_
      clear hops hdep ho
      replace h0 := hidH h0
      replace h1 := hidH h1
      replace h2 := hidH h2
      replace h3 := hidH h3
      replace h4 := hidH h4
      replace h5 := hidH h5
      replace h6 := hidH h6
      replace h7 := hidH h7
      replace h8 := hidH h8
      replace h9 := hidH h9
      replace h10 := hidH h10
      replace h11 := hidH h11
      replace h12 := hidH h12
      replace h13 := hidH h13
      go_wp2
      exact (HJ.out _ _ _).2 ⟨_, _, _, _, _, _, _, _, _, _, _, _, _, _, _, rfl, hM, h0.out, h1.out, h2.out, fun _ => rfl, h4.out, h5.out, h6.out, h7.out, h8.out, h9.out, h10.out, h11.out, h12.out, fun _ => rfl, fun _ => rfl⟩
    | n + 15, h => omega
  case fin =>
    clear hops hdeps hback
    rintro dn ac W hJ hall
    obtain ⟨t68, t69, t70, t71, t72, t73, t74, t75, t76, t77, t78, t79, t80, t81, t82, rfl, hM, h0, h1, h2, h3, h4, h5, h6, h7, h8, h9, h10, h11, h12, h13, h14⟩ := (HJ.out _ _ _).1 hJ
    obtain rfl := h14 (hall 14 (by omega))
    exact fin _ _ _ _ _ _ _ _ _ _ _ _ _ _ W hM
set_option maxRecDepth 100000 in
set_option maxHeartbeats 1000000 in
theorem regMac12n {Q : Exit → Act → World → Prop} (x1 x8 x9 x10 x11 x12 x13 x14 x15 x16 x17 x18 x19 x20 x21 x22 x23 x24 x25 x26 x27 x28 x29 x30 x31 x32 x33 x34 x35 x36 x37 x38 x39 x40 x41 x42 x43 x44 x45 x46 x47 x48 x49 x50 x51 x52 x53 x54 x55 x56 x57 x58 x59 x60 x61 x62 x63 x64 x65 x66 x67 : Value) (ws : World) (g : Nat) (M K D PA PB cA : Option Addr) (ml k d a b l : List Int) (cm ck cd pa pb ca : Nat) (hk : (k.length : Int) ≤ 64) {ops : Array Oper}
    (hops : (ops.map fun o => (o.op, o.dst, o.guard)) = #[(Op.move (Operand.tmp 3), some 68, none), (Op.call { callee := Callee.builtin Builtin.len, args := #[(Operand.tmp 68)], argTypes := #[22] }, some 69, none), (Op.binOp BinOp.gtr 3 (Operand.tmp 69) (Operand.const (Value.int .i64 64)) 3, some 70, none), (Op.move (Operand.tmp 70), some 71, none), (Op.move (Operand.tmp 3), some 72, some (3, true)), (Op.call { callee := Callee.value (Operand.func 16), args := #[(Operand.tmp 72)], argTypes := #[22] }, some 73, some (3, true)), (Op.field 27 (Operand.tmp 73) 1, some 74, some (3, true)), (Op.move (Operand.tmp 4), some 75, some (3, true)), (Op.call { callee := Callee.value (Operand.func 10), args := #[(Operand.tmp 74), (Operand.tmp 75)], argTypes := #[22, 22] }, some 76, some (3, true)), (Op.field 27 (Operand.tmp 76) 1, some 77, some (3, true)), (Op.fieldAddr 27 (Operand.tmp 5) 1, some 78, some (3, true)), (Op.load 22 (Operand.tmp 78), some 79, some (3, true)), (Op.call { callee := Callee.value (Operand.func 15), args := #[(Operand.tmp 77), (Operand.tmp 79)], argTypes := #[22, 22] }, some 80, some (3, true)), (Op.unOp UnOp.not 4 (Operand.tmp 80), some 81, some (3, true)), (Op.pick (Operand.tmp 71) (Operand.tmp 81) (Operand.const (Value.bool false)), some 82, none)])
    (hdeps : ((List.range 15).all fun i => ((fun i => [[], [0], [1], [2], [3], [3, 4], [3, 5], [3], [3, 6, 7], [3, 8], [3], [3, 10], [3, 9, 11], [3, 12], [3, 13]].getD i []) i).all fun j => ((ops[i]?).map fun o => o.after.any fun e => Region.binds .any e && e.on == j).getD false) = true)
    (hback : ((List.range 15).all fun i => ((ops[i]?).map fun o => o.after.all fun e => decide (e.on < i)).getD false) = true)
    {a0 : Act} {w0 : World} (ha : a0 = { tmps := #[.slice cA l.length ca, x1, .bool false, .slice K k.length ck, .slice D d.length cd, .pointer (some ⟨g, 0, none⟩), .slice PA a.length pa, .slice PB b.length pb, x8, x9, x10, x11, x12, x13, x14, x15, x16, x17, x18, x19, x20, x21, x22, x23, x24, x25, x26, x27, x28, x29, x30, x31, x32, x33, x34, x35, x36, x37, x38, x39, x40, x41, x42, x43, x44, x45, x46, x47, x48, x49, x50, x51, x52, x53, x54, x55, x56, x57, x58, x59, x60, x61, x62, x63, x64, x65, x66, x67, undef, undef, undef, undef, undef, undef, undef, undef, undef, undef, undef, undef, undef, undef, undef, undef, undef, undef, undef, undef, undef, undef, undef, undef, undef, undef, undef, undef, undef, undef, undef, undef, undef, undef], defers := [] }) (hM : MS ws g 0 M ml cm K k D d PA a PB b cA l w0)
    (fin : ∀ t68 t69 t70 t71 t72 t73 t74 t75 t76 t77 t78 t79 t80 t81 (W : World), (MS ws g 0 M ml cm K k D d PA a PB b cA l W) → Q .normal { tmps := #[.slice cA l.length ca, x1, .bool false, .slice K k.length ck, .slice D d.length cd, .pointer (some ⟨g, 0, none⟩), .slice PA a.length pa, .slice PB b.length pb, x8, x9, x10, x11, x12, x13, x14, x15, x16, x17, x18, x19, x20, x21, x22, x23, x24, x25, x26, x27, x28, x29, x30, x31, x32, x33, x34, x35, x36, x37, x38, x39, x40, x41, x42, x43, x44, x45, x46, x47, x48, x49, x50, x51, x52, x53, x54, x55, x56, x57, x58, x59, x60, x61, x62, x63, x64, x65, x66, x67, t68, t69, t70, t71, t72, t73, t74, t75, t76, t77, t78, t79, t80, t81, .bool false, undef, undef, undef, undef, undef, undef, undef, undef, undef, undef, undef, undef, undef, undef, undef, undef, undef, undef, undef], defers := [] } W) :
    wpAny Try.prog .any ops Q ops.size (Array.replicate ops.size false) a0 w0 := by
  have hn : ops.size = 15 := by have := congrArg Array.size hops; simpa using this
  obtain ⟨J, HJ⟩ : ∃ J : (Nat → Bool) → Act → World → Prop, ∀ dn ac W, J dn ac W ↔ (fun dn ac W => ∃ t68 t69 t70 t71 t72 t73 t74 t75 t76 t77 t78 t79 t80 t81 t82, ac = { tmps := #[.slice cA l.length ca, x1, .bool false, .slice K k.length ck, .slice D d.length cd, .pointer (some ⟨g, 0, none⟩), .slice PA a.length pa, .slice PB b.length pb, x8, x9, x10, x11, x12, x13, x14, x15, x16, x17, x18, x19, x20, x21, x22, x23, x24, x25, x26, x27, x28, x29, x30, x31, x32, x33, x34, x35, x36, x37, x38, x39, x40, x41, x42, x43, x44, x45, x46, x47, x48, x49, x50, x51, x52, x53, x54, x55, x56, x57, x58, x59, x60, x61, x62, x63, x64, x65, x66, x67, t68, t69, t70, t71, t72, t73, t74, t75, t76, t77, t78, t79, t80, t81, t82, undef, undef, undef, undef, undef, undef, undef, undef, undef, undef, undef, undef, undef, undef, undef, undef, undef, undef, undef], defers := [] } ∧ (MS ws g 0 M ml cm K k D d PA a PB b cA l W) ∧ (dn 0 = true → t68 = .slice K k.length ck) ∧ (dn 1 = true → t69 = .int .i64 (k.length : Int)) ∧ (dn 2 = true → t70 = .bool false) ∧ (dn 3 = true → t71 = .bool false) ∧ (dn 4 = true → t72 = undef) ∧ (dn 5 = true → t73 = undef) ∧ (dn 6 = true → t74 = undef) ∧ (dn 7 = true → t75 = undef) ∧ (dn 8 = true → t76 = undef) ∧ (dn 9 = true → t77 = undef) ∧ (dn 10 = true → t78 = undef) ∧ (dn 11 = true → t79 = undef) ∧ (dn 12 = true → t80 = undef) ∧ (dn 13 = true → t81 = undef) ∧ (dn 14 = true → t82 = .bool false)) dn ac W := ⟨_, fun _ _ _ => Iff.rfl⟩
  replace HJ := hidH HJ
  refine region_inv 15 (fun i => [[], [0], [1], [2], [3], [3, 4], [3, 5], [3], [3, 6, 7], [3, 8], [3], [3, 10], [3, 9, 11], [3, 12], [3, 13]].getD i []) J hn hdeps hback ?start ?step ?fin
  case start => exact (HJ.out _ _ _).2 ⟨undef, undef, undef, undef, undef, undef, undef, undef, undef, undef, undef, undef, undef, undef, undef, ha, hM, fun h => by simp at h, fun h => by simp at h, fun h => by simp at h, fun h => by simp at h, fun h => by simp at h, fun h => by simp at h, fun h => by simp at h, fun h => by simp at h, fun h => by simp at h, fun h => by simp at h, fun h => by simp at h, fun h => by simp at h, fun h => by simp at h, fun h => by simp at h, fun h => by simp at h⟩
  all_goals clear ha hM
  case step =>
    clear fin hdeps hback
    intro i hi dn ac W hJ hdn hdep
    obtain ⟨t68, t69, t70, t71, t72, t73, t74, t75, t76, t77, t78, t79, t80, t81, t82, rfl, hM, h0, h1, h2, h3, h4, h5, h6, h7, h8, h9, h10, h11, h12, h13, h14⟩ := (HJ.out _ _ _).1 hJ
    clear hJ
    match i, hi with
    | 0, _ =>
      obtain ⟨ty, ps, af, ho⟩ := op_lit hops (i := 0) (op := Op.move (Operand.tmp 3)) (dst := some 68) (g := none) rfl
      refine wpOp_lit ho (fun j b h => by cases h) ?_
      clear hops hdep ho
      replace h1 := hidH h1
      replace h2 := hidH h2
      replace h3 := hidH h3
      replace h4 := hidH h4
      replace h5 := hidH h5
      replace h6 := hidH h6
      replace h7 := hidH h7
      replace h8 := hidH h8
      replace h9 := hidH h9
      replace h10 := hidH h10
      replace h11 := hidH h11
      replace h12 := hidH h12
      replace h13 := hidH h13
      replace h14 := hidH h14
      go_wp2
      exact (HJ.out _ _ _).2 ⟨_, _, _, _, _, _, _, _, _, _, _, _, _, _, _, rfl, hM, fun _ => rfl, h1.out, h2.out, h3.out, h4.out, h5.out, h6.out, h7.out, h8.out, h9.out, h10.out, h11.out, h12.out, h13.out, h14.out⟩
    | 1, _ =>
      obtain ⟨ty, ps, af, ho⟩ := op_lit hops (i := 1) (op := Op.call { callee := Callee.builtin Builtin.len, args := #[(Operand.tmp 68)], argTypes := #[22] }) (dst := some 69) (g := none) rfl
      obtain rfl := h0 (hdep 0 (by simp))
      refine wpOp_lit ho (fun j b h => by cases h) ?_
      clear hops hdep ho
      replace h0 := hidH h0
      replace h2 := hidH h2
      replace h3 := hidH h3
      replace h4 := hidH h4
      replace h5 := hidH h5
      replace h6 := hidH h6
      replace h7 := hidH h7
      replace h8 := hidH h8
      replace h9 := hidH h9
      replace h10 := hidH h10
      replace h11 := hidH h11
      replace h12 := hidH h12
      replace h13 := hidH h13
      replace h14 := hidH h14
      go_wp2
      exact (HJ.out _ _ _).2 ⟨_, _, _, _, _, _, _, _, _, _, _, _, _, _, _, rfl, hM, fun _ => rfl, fun _ => rfl, h2.out, h3.out, h4.out, h5.out, h6.out, h7.out, h8.out, h9.out, h10.out, h11.out, h12.out, h13.out, h14.out⟩
    | 2, _ =>
      obtain ⟨ty, ps, af, ho⟩ := op_lit hops (i := 2) (op := Op.binOp BinOp.gtr 3 (Operand.tmp 69) (Operand.const (Value.int .i64 64)) 3) (dst := some 70) (g := none) rfl
      obtain rfl := h1 (hdep 1 (by simp))
      refine wpOp_lit ho (fun j b h => by cases h) ?_
      clear hops hdep ho
      replace h0 := hidH h0
      replace h1 := hidH h1
      replace h3 := hidH h3
      replace h4 := hidH h4
      replace h5 := hidH h5
      replace h6 := hidH h6
      replace h7 := hidH h7
      replace h8 := hidH h8
      replace h9 := hidH h9
      replace h10 := hidH h10
      replace h11 := hidH h11
      replace h12 := hidH h12
      replace h13 := hidH h13
      replace h14 := hidH h14
      have hdd : decide ((64 : Int) < (k.length : Int)) = false := by simp; omega
      go_wp2
      exact (HJ.out _ _ _).2 ⟨_, _, _, _, _, _, _, _, _, _, _, _, _, _, _, rfl, hM, h0.out, fun _ => rfl, fun _ => rfl, h3.out, h4.out, h5.out, h6.out, h7.out, h8.out, h9.out, h10.out, h11.out, h12.out, h13.out, h14.out⟩
    | 3, _ =>
      obtain ⟨ty, ps, af, ho⟩ := op_lit hops (i := 3) (op := Op.move (Operand.tmp 70)) (dst := some 71) (g := none) rfl
      obtain rfl := h2 (hdep 2 (by simp))
      refine wpOp_lit ho (fun j b h => by cases h) ?_
      clear hops hdep ho
      replace h0 := hidH h0
      replace h1 := hidH h1
      replace h2 := hidH h2
      replace h4 := hidH h4
      replace h5 := hidH h5
      replace h6 := hidH h6
      replace h7 := hidH h7
      replace h8 := hidH h8
      replace h9 := hidH h9
      replace h10 := hidH h10
      replace h11 := hidH h11
      replace h12 := hidH h12
      replace h13 := hidH h13
      replace h14 := hidH h14
      go_wp2
      exact (HJ.out _ _ _).2 ⟨_, _, _, _, _, _, _, _, _, _, _, _, _, _, _, rfl, hM, h0.out, h1.out, fun _ => rfl, fun _ => rfl, h4.out, h5.out, h6.out, h7.out, h8.out, h9.out, h10.out, h11.out, h12.out, h13.out, h14.out⟩
    | 4, _ =>
      obtain ⟨ty, ps, af, ho⟩ := op_lit hops (i := 4) (op := Op.move (Operand.tmp 3)) (dst := some 72) (g := some (3, true)) rfl
      obtain rfl := h3 (hdep 3 (by simp))
      have hy := fun tmps ht => yielded_lit hops (i := 3) (op := Op.move (Operand.tmp 70)) (t := 71) (g := none) rfl tmps false ht
      refine wpOp_off ho (hy _ rfl) (by decide) ?_
      clear hops hdep
      replace h0 := hidH h0
      replace h1 := hidH h1
      replace h2 := hidH h2
      replace h3 := hidH h3
      replace h5 := hidH h5
      replace h6 := hidH h6
      replace h7 := hidH h7
      replace h8 := hidH h8
      replace h9 := hidH h9
      replace h10 := hidH h10
      replace h11 := hidH h11
      replace h12 := hidH h12
      replace h13 := hidH h13
      replace h14 := hidH h14
      exact (HJ.out _ _ _).2 ⟨_, _, _, _, _, _, _, _, _, _, _, _, _, _, _, rfl, hM, h0.out, h1.out, h2.out, fun _ => rfl, fun _ => rfl, h5.out, h6.out, h7.out, h8.out, h9.out, h10.out, h11.out, h12.out, h13.out, h14.out⟩
    | 5, _ =>
      obtain ⟨ty, ps, af, ho⟩ := op_lit hops (i := 5) (op := Op.call { callee := Callee.value (Operand.func 16), args := #[(Operand.tmp 72)], argTypes := #[22] }) (dst := some 73) (g := some (3, true)) rfl
      obtain rfl := h3 (hdep 3 (by simp))
      have hy := fun tmps ht => yielded_lit hops (i := 3) (op := Op.move (Operand.tmp 70)) (t := 71) (g := none) rfl tmps false ht
      refine wpOp_off ho (hy _ rfl) (by decide) ?_
      clear hops hdep
      replace h0 := hidH h0
      replace h1 := hidH h1
      replace h2 := hidH h2
      replace h3 := hidH h3
      replace h4 := hidH h4
      replace h6 := hidH h6
      replace h7 := hidH h7
      replace h8 := hidH h8
      replace h9 := hidH h9
      replace h10 := hidH h10
      replace h11 := hidH h11
      replace h12 := hidH h12
      replace h13 := hidH h13
      replace h14 := hidH h14
      exact (HJ.out _ _ _).2 ⟨_, _, _, _, _, _, _, _, _, _, _, _, _, _, _, rfl, hM, h0.out, h1.out, h2.out, fun _ => rfl, h4.out, fun _ => rfl, h6.out, h7.out, h8.out, h9.out, h10.out, h11.out, h12.out, h13.out, h14.out⟩
    | 6, _ =>
      obtain ⟨ty, ps, af, ho⟩ := op_lit hops (i := 6) (op := Op.field 27 (Operand.tmp 73) 1) (dst := some 74) (g := some (3, true)) rfl
      obtain rfl := h3 (hdep 3 (by simp))
      have hy := fun tmps ht => yielded_lit hops (i := 3) (op := Op.move (Operand.tmp 70)) (t := 71) (g := none) rfl tmps false ht
      refine wpOp_off ho (hy _ rfl) (by decide) ?_
      clear hops hdep
      replace h0 := hidH h0
      replace h1 := hidH h1
      replace h2 := hidH h2
      replace h3 := hidH h3
      replace h4 := hidH h4
      replace h5 := hidH h5
      replace h7 := hidH h7
      replace h8 := hidH h8
      replace h9 := hidH h9
      replace h10 := hidH h10
      replace h11 := hidH h11
      replace h12 := hidH h12
      replace h13 := hidH h13
      replace h14 := hidH h14
      exact (HJ.out _ _ _).2 ⟨_, _, _, _, _, _, _, _, _, _, _, _, _, _, _, rfl, hM, h0.out, h1.out, h2.out, fun _ => rfl, h4.out, h5.out, fun _ => rfl, h7.out, h8.out, h9.out, h10.out, h11.out, h12.out, h13.out, h14.out⟩
    | 7, _ =>
      obtain ⟨ty, ps, af, ho⟩ := op_lit hops (i := 7) (op := Op.move (Operand.tmp 4)) (dst := some 75) (g := some (3, true)) rfl
      obtain rfl := h3 (hdep 3 (by simp))
      have hy := fun tmps ht => yielded_lit hops (i := 3) (op := Op.move (Operand.tmp 70)) (t := 71) (g := none) rfl tmps false ht
      refine wpOp_off ho (hy _ rfl) (by decide) ?_
      clear hops hdep
      replace h0 := hidH h0
      replace h1 := hidH h1
      replace h2 := hidH h2
      replace h3 := hidH h3
      replace h4 := hidH h4
      replace h5 := hidH h5
      replace h6 := hidH h6
      replace h8 := hidH h8
      replace h9 := hidH h9
      replace h10 := hidH h10
      replace h11 := hidH h11
      replace h12 := hidH h12
      replace h13 := hidH h13
      replace h14 := hidH h14
      exact (HJ.out _ _ _).2 ⟨_, _, _, _, _, _, _, _, _, _, _, _, _, _, _, rfl, hM, h0.out, h1.out, h2.out, fun _ => rfl, h4.out, h5.out, h6.out, fun _ => rfl, h8.out, h9.out, h10.out, h11.out, h12.out, h13.out, h14.out⟩
    | 8, _ =>
      obtain ⟨ty, ps, af, ho⟩ := op_lit hops (i := 8) (op := Op.call { callee := Callee.value (Operand.func 10), args := #[(Operand.tmp 74), (Operand.tmp 75)], argTypes := #[22, 22] }) (dst := some 76) (g := some (3, true)) rfl
      obtain rfl := h3 (hdep 3 (by simp))
      have hy := fun tmps ht => yielded_lit hops (i := 3) (op := Op.move (Operand.tmp 70)) (t := 71) (g := none) rfl tmps false ht
      refine wpOp_off ho (hy _ rfl) (by decide) ?_
      clear hops hdep
      replace h0 := hidH h0
      replace h1 := hidH h1
      replace h2 := hidH h2
      replace h3 := hidH h3
      replace h4 := hidH h4
      replace h5 := hidH h5
      replace h6 := hidH h6
      replace h7 := hidH h7
      replace h9 := hidH h9
      replace h10 := hidH h10
      replace h11 := hidH h11
      replace h12 := hidH h12
      replace h13 := hidH h13
      replace h14 := hidH h14
      exact (HJ.out _ _ _).2 ⟨_, _, _, _, _, _, _, _, _, _, _, _, _, _, _, rfl, hM, h0.out, h1.out, h2.out, fun _ => rfl, h4.out, h5.out, h6.out, h7.out, fun _ => rfl, h9.out, h10.out, h11.out, h12.out, h13.out, h14.out⟩
    | 9, _ =>
      obtain ⟨ty, ps, af, ho⟩ := op_lit hops (i := 9) (op := Op.field 27 (Operand.tmp 76) 1) (dst := some 77) (g := some (3, true)) rfl
      obtain rfl := h3 (hdep 3 (by simp))
      have hy := fun tmps ht => yielded_lit hops (i := 3) (op := Op.move (Operand.tmp 70)) (t := 71) (g := none) rfl tmps false ht
      refine wpOp_off ho (hy _ rfl) (by decide) ?_
      clear hops hdep
      replace h0 := hidH h0
      replace h1 := hidH h1
      replace h2 := hidH h2
      replace h3 := hidH h3
      replace h4 := hidH h4
      replace h5 := hidH h5
      replace h6 := hidH h6
      replace h7 := hidH h7
      replace h8 := hidH h8
      replace h10 := hidH h10
      replace h11 := hidH h11
      replace h12 := hidH h12
      replace h13 := hidH h13
      replace h14 := hidH h14
      exact (HJ.out _ _ _).2 ⟨_, _, _, _, _, _, _, _, _, _, _, _, _, _, _, rfl, hM, h0.out, h1.out, h2.out, fun _ => rfl, h4.out, h5.out, h6.out, h7.out, h8.out, fun _ => rfl, h10.out, h11.out, h12.out, h13.out, h14.out⟩
    | 10, _ =>
      obtain ⟨ty, ps, af, ho⟩ := op_lit hops (i := 10) (op := Op.fieldAddr 27 (Operand.tmp 5) 1) (dst := some 78) (g := some (3, true)) rfl
      obtain rfl := h3 (hdep 3 (by simp))
      have hy := fun tmps ht => yielded_lit hops (i := 3) (op := Op.move (Operand.tmp 70)) (t := 71) (g := none) rfl tmps false ht
      refine wpOp_off ho (hy _ rfl) (by decide) ?_
      clear hops hdep
      replace h0 := hidH h0
      replace h1 := hidH h1
      replace h2 := hidH h2
      replace h3 := hidH h3
      replace h4 := hidH h4
      replace h5 := hidH h5
      replace h6 := hidH h6
      replace h7 := hidH h7
      replace h8 := hidH h8
      replace h9 := hidH h9
      replace h11 := hidH h11
      replace h12 := hidH h12
      replace h13 := hidH h13
      replace h14 := hidH h14
      exact (HJ.out _ _ _).2 ⟨_, _, _, _, _, _, _, _, _, _, _, _, _, _, _, rfl, hM, h0.out, h1.out, h2.out, fun _ => rfl, h4.out, h5.out, h6.out, h7.out, h8.out, h9.out, fun _ => rfl, h11.out, h12.out, h13.out, h14.out⟩
    | 11, _ =>
      obtain ⟨ty, ps, af, ho⟩ := op_lit hops (i := 11) (op := Op.load 22 (Operand.tmp 78)) (dst := some 79) (g := some (3, true)) rfl
      obtain rfl := h3 (hdep 3 (by simp))
      have hy := fun tmps ht => yielded_lit hops (i := 3) (op := Op.move (Operand.tmp 70)) (t := 71) (g := none) rfl tmps false ht
      refine wpOp_off ho (hy _ rfl) (by decide) ?_
      clear hops hdep
      replace h0 := hidH h0
      replace h1 := hidH h1
      replace h2 := hidH h2
      replace h3 := hidH h3
      replace h4 := hidH h4
      replace h5 := hidH h5
      replace h6 := hidH h6
      replace h7 := hidH h7
      replace h8 := hidH h8
      replace h9 := hidH h9
      replace h10 := hidH h10
      replace h12 := hidH h12
      replace h13 := hidH h13
      replace h14 := hidH h14
      exact (HJ.out _ _ _).2 ⟨_, _, _, _, _, _, _, _, _, _, _, _, _, _, _, rfl, hM, h0.out, h1.out, h2.out, fun _ => rfl, h4.out, h5.out, h6.out, h7.out, h8.out, h9.out, h10.out, fun _ => rfl, h12.out, h13.out, h14.out⟩
    | 12, _ =>
      obtain ⟨ty, ps, af, ho⟩ := op_lit hops (i := 12) (op := Op.call { callee := Callee.value (Operand.func 15), args := #[(Operand.tmp 77), (Operand.tmp 79)], argTypes := #[22, 22] }) (dst := some 80) (g := some (3, true)) rfl
      obtain rfl := h3 (hdep 3 (by simp))
      have hy := fun tmps ht => yielded_lit hops (i := 3) (op := Op.move (Operand.tmp 70)) (t := 71) (g := none) rfl tmps false ht
      refine wpOp_off ho (hy _ rfl) (by decide) ?_
      clear hops hdep
      replace h0 := hidH h0
      replace h1 := hidH h1
      replace h2 := hidH h2
      replace h3 := hidH h3
      replace h4 := hidH h4
      replace h5 := hidH h5
      replace h6 := hidH h6
      replace h7 := hidH h7
      replace h8 := hidH h8
      replace h9 := hidH h9
      replace h10 := hidH h10
      replace h11 := hidH h11
      replace h13 := hidH h13
      replace h14 := hidH h14
      exact (HJ.out _ _ _).2 ⟨_, _, _, _, _, _, _, _, _, _, _, _, _, _, _, rfl, hM, h0.out, h1.out, h2.out, fun _ => rfl, h4.out, h5.out, h6.out, h7.out, h8.out, h9.out, h10.out, h11.out, fun _ => rfl, h13.out, h14.out⟩
    | 13, _ =>
      obtain ⟨ty, ps, af, ho⟩ := op_lit hops (i := 13) (op := Op.unOp UnOp.not 4 (Operand.tmp 80)) (dst := some 81) (g := some (3, true)) rfl
      obtain rfl := h3 (hdep 3 (by simp))
      have hy := fun tmps ht => yielded_lit hops (i := 3) (op := Op.move (Operand.tmp 70)) (t := 71) (g := none) rfl tmps false ht
      refine wpOp_off ho (hy _ rfl) (by decide) ?_
      clear hops hdep
      replace h0 := hidH h0
      replace h1 := hidH h1
      replace h2 := hidH h2
      replace h3 := hidH h3
      replace h4 := hidH h4
      replace h5 := hidH h5
      replace h6 := hidH h6
      replace h7 := hidH h7
      replace h8 := hidH h8
      replace h9 := hidH h9
      replace h10 := hidH h10
      replace h11 := hidH h11
      replace h12 := hidH h12
      replace h14 := hidH h14
      exact (HJ.out _ _ _).2 ⟨_, _, _, _, _, _, _, _, _, _, _, _, _, _, _, rfl, hM, h0.out, h1.out, h2.out, fun _ => rfl, h4.out, h5.out, h6.out, h7.out, h8.out, h9.out, h10.out, h11.out, h12.out, fun _ => rfl, h14.out⟩
    | 14, _ =>
      obtain ⟨ty, ps, af, ho⟩ := op_lit hops (i := 14) (op := Op.pick (Operand.tmp 71) (Operand.tmp 81) (Operand.const (Value.bool false))) (dst := some 82) (g := none) rfl
      obtain rfl := h3 (hdep 3 (by simp))
      obtain rfl := h13 (hdep 13 (by simp))
      refine wpOp_lit ho (fun j b h => by cases h) ?_
      clear hops hdep ho
      replace h0 := hidH h0
      replace h1 := hidH h1
      replace h2 := hidH h2
      replace h3 := hidH h3
      replace h4 := hidH h4
      replace h5 := hidH h5
      replace h6 := hidH h6
      replace h7 := hidH h7
      replace h8 := hidH h8
      replace h9 := hidH h9
      replace h10 := hidH h10
      replace h11 := hidH h11
      replace h12 := hidH h12
      replace h13 := hidH h13
      go_wp2
      exact (HJ.out _ _ _).2 ⟨_, _, _, _, _, _, _, _, _, _, _, _, _, _, _, rfl, hM, h0.out, h1.out, h2.out, fun _ => rfl, h4.out, h5.out, h6.out, h7.out, h8.out, h9.out, h10.out, h11.out, h12.out, fun _ => rfl, fun _ => rfl⟩
    | n + 15, h => omega
  case fin =>
    clear hops hdeps hback
    rintro dn ac W hJ hall
    obtain ⟨t68, t69, t70, t71, t72, t73, t74, t75, t76, t77, t78, t79, t80, t81, t82, rfl, hM, h0, h1, h2, h3, h4, h5, h6, h7, h8, h9, h10, h11, h12, h13, h14⟩ := (HJ.out _ _ _).1 hJ
    obtain rfl := h14 (hall 14 (by omega))
    exact fin _ _ _ _ _ _ _ _ _ _ _ _ _ _ W hM
end Go.Proofs.Ytanffpmpknmldaa
