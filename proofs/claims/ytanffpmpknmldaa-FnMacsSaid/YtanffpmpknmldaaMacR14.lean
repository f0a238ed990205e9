/- The last region of the law FnMacs that draws its order. -/
import Derived.Test.YtanffpmpknmldaaLaw6
namespace Go.Proofs.Ytanffpmpknmldaa
open Go.RowKit Go.Deep

set_option maxRecDepth 100000 in
set_option maxHeartbeats 1000000 in
theorem regMac14 {Q : Exit → Act → World → Prop} (x1 x8 x9 x10 x11 x12 x13 x14 x15 x16 x17 x18 x19 x20 x21 x22 x23 x24 x25 x26 x27 x28 x29 x30 x31 x32 x33 x34 x35 x36 x37 x38 x39 x40 x41 x42 x43 x44 x45 x46 x47 x48 x49 x50 x51 x52 x53 x54 x55 x56 x57 x58 x59 x60 x61 x62 x63 x64 x65 x66 x67 x68 x69 x70 x71 x72 x73 x74 x75 x76 x77 x78 x79 x80 x81 x82 : Value) (ws : World) (g : Nat) (M K D PA PB cA : Option Addr) (ml k d a b l : List Int) (cm ck cd pa pb ca : Nat)
    (B1 : ∀ u, MS ws g 0 M ml cm K k D d PA a PB b cA l u → Calls Try.prog 13 #[.slice M ml.length cm, .slice M ml.length cm] u fun e w' => e = .returned (.bool true) ∧ Below u.heap.size u w')
    (A2 : ∀ u, MS ws g 0 M ml cm K k D d PA a PB b cA l u → Calls Try.prog 18 #[.slice cA l.length ca, .int .i64 2, .int .i64 32] u fun e w' => ∃ i : Nat, e = .returned (.int .i64 (i : Int)) ∧ (i : Int) < 32 ∧ Below u.heap.size u w')
    (A3 : ∀ u, MS ws g 0 M ml cm K k D d PA a PB b cA l u → Calls Try.prog 18 #[.slice cA l.length ca, .int .i64 3, .int .i64 255] u fun e w' => ∃ m : Nat, e = .returned (.int .i64 (m : Int)) ∧ (m : Int) < 255 ∧ Below u.heap.size u w')
    (A4 : ∀ u, MS ws g 0 M ml cm K k D d PA a PB b cA l u → ∀ i m : Nat, (i : Int) < 32 → (m : Int) < 255 → Calls Try.prog 17 #[.slice M ml.length cm, .int .i64 (i : Int), .int .i64 (1 + (m : Int))] u fun e w' => ∃ A' c', e = .returned (.slice A' (turnL ml i (1 + m)).length c') ∧ Bs w' A' (turnL ml i (1 + m)) ∧ Below u.heap.size u w')
    (A5 : ∀ (u : World) (i m : Nat) (A' : Option Addr) (c' : Nat), MS ws g 0 M ml cm K k D d PA a PB b cA l u → (i : Int) < 32 → (m : Int) < 255 → Bs u A' (turnL ml i (1 + m)) → Calls Try.prog 13 #[.slice M ml.length cm, .slice A' (turnL ml i (1 + m)).length c'] u fun e w' => e = .returned (.bool false) ∧ Below u.heap.size u w') {ops : Array Oper}
    (hops : (ops.map fun o => (o.op, o.dst, o.guard)) = #[(Op.fieldAddr 27 (Operand.tmp 5) 1, some 83, none), (Op.load 22 (Operand.tmp 83), some 84, none), (Op.fieldAddr 27 (Operand.tmp 5) 1, some 85, none), (Op.load 22 (Operand.tmp 85), some 86, none), (Op.call { callee := Callee.value (Operand.func 13), args := #[(Operand.tmp 84), (Operand.tmp 86)], argTypes := #[22, 22] }, some 87, none), (Op.move (Operand.tmp 87), some 88, none), (Op.fieldAddr 27 (Operand.tmp 5) 1, some 89, some (5, true)), (Op.load 22 (Operand.tmp 89), some 90, some (5, true)), (Op.fieldAddr 27 (Operand.tmp 5) 1, some 91, some (5, true)), (Op.load 22 (Operand.tmp 91), some 92, some (5, true)), (Op.move (Operand.tmp 0), some 93, some (5, true)), (Op.call { callee := Callee.value (Operand.func 18), args := #[(Operand.tmp 93), (Operand.const (Value.int .i64 2)), (Operand.const (Value.int .i64 32))], argTypes := #[22, 2, 2] }, some 94, some (5, true)), (Op.move (Operand.tmp 0), some 95, some (5, true)), (Op.call { callee := Callee.value (Operand.func 18), args := #[(Operand.tmp 95), (Operand.const (Value.int .i64 3)), (Operand.const (Value.int .i64 255))], argTypes := #[22, 2, 2] }, some 96, some (5, true)), (Op.binOp BinOp.add 2 (Operand.const (Value.int .i64 1)) (Operand.tmp 96) 2, some 97, some (5, true)), (Op.call { callee := Callee.value (Operand.func 17), args := #[(Operand.tmp 92), (Operand.tmp 94), (Operand.tmp 97)], argTypes := #[22, 2, 2] }, some 98, some (5, true)), (Op.call { callee := Callee.value (Operand.func 13), args := #[(Operand.tmp 90), (Operand.tmp 98)], argTypes := #[22, 22] }, some 99, some (5, true)), (Op.unOp UnOp.not 4 (Operand.tmp 99), some 100, some (5, true)), (Op.pick (Operand.tmp 88) (Operand.tmp 100) (Operand.const (Value.bool false)), some 101, none), (Op.assign (Operand.tmp 101), some 2, none)])
    (hdeps : ((List.range 20).all fun i => ((fun i => [[], [0], [], [2], [1, 3], [4], [5], [5, 6], [5], [5, 8], [5], [5, 10], [5], [5, 12], [5, 13], [5, 9, 11, 14], [5, 7, 15], [5, 16], [5, 17], [18]].getD i []) i).all fun j => ((ops[i]?).map fun o => o.after.any fun e => Region.binds .any e && e.on == j).getD false) = true)
    (hback : ((List.range 20).all fun i => ((ops[i]?).map fun o => o.after.all fun e => decide (e.on < i)).getD false) = true)
    {a0 : Act} {w0 : World} (ha : a0 = { tmps := #[.slice cA l.length ca, x1, .bool false, .slice K k.length ck, .slice D d.length cd, .pointer (some ⟨g, 0, none⟩), .slice PA a.length pa, .slice PB b.length pb, x8, x9, x10, x11, x12, x13, x14, x15, x16, x17, x18, x19, x20, x21, x22, x23, x24, x25, x26, x27, x28, x29, x30, x31, x32, x33, x34, x35, x36, x37, x38, x39, x40, x41, x42, x43, x44, x45, x46, x47, x48, x49, x50, x51, x52, x53, x54, x55, x56, x57, x58, x59, x60, x61, x62, x63, x64, x65, x66, x67, x68, x69, x70, x71, x72, x73, x74, x75, x76, x77, x78, x79, x80, x81, x82, undef, undef, undef, undef, undef, undef, undef, undef, undef, undef, undef, undef, undef, undef, undef, undef, undef, undef, undef], defers := [] }) (hM : MS ws g 0 M ml cm K k D d PA a PB b cA l w0)
    (fin : ∀ t83 t84 t85 t86 t87 t88 t89 t90 t91 t92 t93 t94 t95 t96 t97 t98 t99 t100 t101 (W : World), (MS ws g 0 M ml cm K k D d PA a PB b cA l W) → Q .normal { tmps := #[.slice cA l.length ca, x1, .bool true, .slice K k.length ck, .slice D d.length cd, .pointer (some ⟨g, 0, none⟩), .slice PA a.length pa, .slice PB b.length pb, x8, x9, x10, x11, x12, x13, x14, x15, x16, x17, x18, x19, x20, x21, x22, x23, x24, x25, x26, x27, x28, x29, x30, x31, x32, x33, x34, x35, x36, x37, x38, x39, x40, x41, x42, x43, x44, x45, x46, x47, x48, x49, x50, x51, x52, x53, x54, x55, x56, x57, x58, x59, x60, x61, x62, x63, x64, x65, x66, x67, x68, x69, x70, x71, x72, x73, x74, x75, x76, x77, x78, x79, x80, x81, x82, t83, t84, t85, t86, t87, t88, t89, t90, t91, t92, t93, t94, t95, t96, t97, t98, t99, t100, t101], defers := [] } W) :
    wpAny Try.prog .any ops Q ops.size (Array.replicate ops.size false) a0 w0 := by
  have hn : ops.size = 20 := by have := congrArg Array.size hops; simpa using this
  obtain ⟨J, HJ⟩ : ∃ J : (Nat → Bool) → Act → World → Prop, ∀ dn ac W, J dn ac W ↔ (fun dn ac W => ∃ t83 t84 t85 t86 t87 t88 t89 t90 t91 t92 t93 t94 t95 t96 t97 t98 t99 t100 t101 t2, ac = { tmps := #[.slice cA l.length ca, x1, t2, .slice K k.length ck, .slice D d.length cd, .pointer (some ⟨g, 0, none⟩), .slice PA a.length pa, .slice PB b.length pb, x8, x9, x10, x11, x12, x13, x14, x15, x16, x17, x18, x19, x20, x21, x22, x23, x24, x25, x26, x27, x28, x29, x30, x31, x32, x33, x34, x35, x36, x37, x38, x39, x40, x41, x42, x43, x44, x45, x46, x47, x48, x49, x50, x51, x52, x53, x54, x55, x56, x57, x58, x59, x60, x61, x62, x63, x64, x65, x66, x67, x68, x69, x70, x71, x72, x73, x74, x75, x76, x77, x78, x79, x80, x81, x82, t83, t84, t85, t86, t87, t88, t89, t90, t91, t92, t93, t94, t95, t96, t97, t98, t99, t100, t101], defers := [] } ∧ (MS ws g 0 M ml cm K k D d PA a PB b cA l W) ∧ (dn 19 = false → t2 = .bool false) ∧ (dn 0 = true → t83 = .pointer (some ⟨g, 1, none⟩)) ∧ (dn 1 = true → t84 = .slice M ml.length cm) ∧ (dn 2 = true → t85 = .pointer (some ⟨g, 1, none⟩)) ∧ (dn 3 = true → t86 = .slice M ml.length cm) ∧ (dn 4 = true → t87 = .bool true) ∧ (dn 5 = true → t88 = .bool true) ∧ (dn 6 = true → t89 = .pointer (some ⟨g, 1, none⟩)) ∧ (dn 7 = true → t90 = .slice M ml.length cm) ∧ (dn 8 = true → t91 = .pointer (some ⟨g, 1, none⟩)) ∧ (dn 9 = true → t92 = .slice M ml.length cm) ∧ (dn 10 = true → t93 = .slice cA l.length ca) ∧ (dn 11 = true → ∃ i : Nat, t94 = .int .i64 (i : Int) ∧ (i : Int) < 32) ∧ (dn 12 = true → t95 = .slice cA l.length ca) ∧ (dn 13 = true → ∃ m : Nat, t96 = .int .i64 (m : Int) ∧ (m : Int) < 255) ∧ (dn 14 = true → ∃ m : Nat, t97 = .int .i64 (1 + (m : Int)) ∧ (m : Int) < 255) ∧ (dn 15 = true → ∃ (A1 : Option Addr) (c1 i m : Nat), t98 = .slice A1 (turnL ml i (1 + m)).length c1 ∧ Bs W A1 (turnL ml i (1 + m)) ∧ (i : Int) < 32 ∧ (m : Int) < 255) ∧ (dn 16 = true → t99 = .bool false) ∧ (dn 17 = true → t100 = .bool true) ∧ (dn 18 = true → t101 = .bool true) ∧ (dn 19 = true → t2 = .bool true)) dn ac W := ⟨_, fun _ _ _ => Iff.rfl⟩
  replace HJ := hidH HJ
  refine region_inv 20 (fun i => [[], [0], [], [2], [1, 3], [4], [5], [5, 6], [5], [5, 8], [5], [5, 10], [5], [5, 12], [5, 13], [5, 9, 11, 14], [5, 7, 15], [5, 16], [5, 17], [18]].getD i []) J hn hdeps hback ?start ?step ?fin
  case start => exact (HJ.out _ _ _).2 ⟨undef, undef, undef, undef, undef, undef, undef, undef, undef, undef, undef, undef, undef, undef, undef, undef, undef, undef, undef, .bool false, ha, hM, fun _ => rfl, fun h => by simp at h, fun h => by simp at h, fun h => by simp at h, fun h => by simp at h, fun h => by simp at h, fun h => by simp at h, fun h => by simp at h, fun h => by simp at h, fun h => by simp at h, fun h => by simp at h, fun h => by simp at h, fun h => by simp at h, fun h => by simp at h, fun h => by simp at h, fun h => by simp at h, fun h => by simp at h, fun h => by simp at h, fun h => by simp at h, fun h => by simp at h, fun h => by simp at h⟩
  all_goals clear ha hM
  case step =>
    clear fin hdeps hback
    intro i hi dn ac W hJ hdn hdep
    obtain ⟨t83, t84, t85, t86, t87, t88, t89, t90, t91, t92, t93, t94, t95, t96, t97, t98, t99, t100, t101, t2, rfl, hM, o19, h0, h1, h2, h3, h4, h5, h6, h7, h8, h9, h10, h11, h12, h13, h14, h15, h16, h17, h18, h19⟩ := (HJ.out _ _ _).1 hJ
    clear hJ
    match i, hi with
    | 0, _ =>
      obtain ⟨ty, ps, af, ho⟩ := op_lit hops (i := 0) (op := Op.fieldAddr 27 (Operand.tmp 5) 1) (dst := some 83) (g := none) rfl
      refine wpOp_lit ho (fun j b h => by cases h) ?_
      clear hops hdep ho
      replace h1 := hidH h1
      replace h2 := hidH h2
      replace h3 := hidH h3
      replace h4 := hidH h4
      replace h5 := hidH h5
      replace h6 := hidH h6
      replace h7 := hidH h7
      replace h8 := hidH h8
      replace h9 := hidH h9
      replace h10 := hidH h10
      replace h11 := hidH h11
      replace h12 := hidH h12
      replace h13 := hidH h13
      replace h14 := hidH h14
      replace h15 := hidH h15
      replace h16 := hidH h16
      replace h17 := hidH h17
      replace h18 := hidH h18
      replace h19 := hidH h19
      replace o19 := hidH o19
      go_wp2
      exact (HJ.out _ _ _).2 ⟨_, _, _, _, _, _, _, _, _, _, _, _, _, _, _, _, _, _, _, _, rfl, hM, o19.out, fun _ => rfl, h1.out, h2.out, h3.out, h4.out, h5.out, h6.out, h7.out, h8.out, h9.out, h10.out, h11.out, h12.out, h13.out, h14.out, h15.out, h16.out, h17.out, h18.out, h19.out⟩
    | 1, _ =>
      obtain ⟨ty, ps, af, ho⟩ := op_lit hops (i := 1) (op := Op.load 22 (Operand.tmp 83)) (dst := some 84) (g := none) rfl
      obtain rfl := h0 (hdep 0 (by simp))
      refine wpOp_lit ho (fun j b h => by cases h) ?_
      clear hops hdep ho
      replace h0 := hidH h0
      replace h2 := hidH h2
      replace h3 := hidH h3
      replace h4 := hidH h4
      replace h5 := hidH h5
      replace h6 := hidH h6
      replace h7 := hidH h7
      replace h8 := hidH h8
      replace h9 := hidH h9
      replace h10 := hidH h10
      replace h11 := hidH h11
      replace h12 := hidH h12
      replace h13 := hidH h13
      replace h14 := hidH h14
      replace h15 := hidH h15
      replace h16 := hidH h16
      replace h17 := hidH h17
      replace h18 := hidH h18
      replace h19 := hidH h19
      replace o19 := hidH o19
      have q1 := hM.blk.cell 1
      simp only [List.getElem?_toArray, List.getElem?_cons_succ, List.getElem?_cons_zero] at q1
      go_wp2
      exact (HJ.out _ _ _).2 ⟨_, _, _, _, _, _, _, _, _, _, _, _, _, _, _, _, _, _, _, _, rfl, hM, o19.out, fun _ => rfl, fun _ => rfl, h2.out, h3.out, h4.out, h5.out, h6.out, h7.out, h8.out, h9.out, h10.out, h11.out, h12.out, h13.out, h14.out, h15.out, h16.out, h17.out, h18.out, h19.out⟩
    | 2, _ =>
      obtain ⟨ty, ps, af, ho⟩ := op_lit hops (i := 2) (op := Op.fieldAddr 27 (Operand.tmp 5) 1) (dst := some 85) (g := none) rfl
      refine wpOp_lit ho (fun j b h => by cases h) ?_
      clear hops hdep ho
      replace h0 := hidH h0
      replace h1 := hidH h1
      replace h3 := hidH h3
      replace h4 := hidH h4
      replace h5 := hidH h5
      replace h6 := hidH h6
      replace h7 := hidH h7
      replace h8 := hidH h8
      replace h9 := hidH h9
      replace h10 := hidH h10
      replace h11 := hidH h11
      replace h12 := hidH h12
      replace h13 := hidH h13
      replace h14 := hidH h14
      replace h15 := hidH h15
      replace h16 := hidH h16
      replace h17 := hidH h17
      replace h18 := hidH h18
      replace h19 := hidH h19
      replace o19 := hidH o19
      go_wp2
      exact (HJ.out _ _ _).2 ⟨_, _, _, _, _, _, _, _, _, _, _, _, _, _, _, _, _, _, _, _, rfl, hM, o19.out, h0.out, h1.out, fun _ => rfl, h3.out, h4.out, h5.out, h6.out, h7.out, h8.out, h9.out, h10.out, h11.out, h12.out, h13.out, h14.out, h15.out, h16.out, h17.out, h18.out, h19.out⟩
    | 3, _ =>
      obtain ⟨ty, ps, af, ho⟩ := op_lit hops (i := 3) (op := Op.load 22 (Operand.tmp 85)) (dst := some 86) (g := none) rfl
      obtain rfl := h2 (hdep 2 (by simp))
      refine wpOp_lit ho (fun j b h => by cases h) ?_
      clear hops hdep ho
      replace h0 := hidH h0
      replace h1 := hidH h1
      replace h2 := hidH h2
      replace h4 := hidH h4
      replace h5 := hidH h5
      replace h6 := hidH h6
      replace h7 := hidH h7
      replace h8 := hidH h8
      replace h9 := hidH h9
      replace h10 := hidH h10
      replace h11 := hidH h11
      replace h12 := hidH h12
      replace h13 := hidH h13
      replace h14 := hidH h14
      replace h15 := hidH h15
      replace h16 := hidH h16
      replace h17 := hidH h17
      replace h18 := hidH h18
      replace h19 := hidH h19
      replace o19 := hidH o19
      have q1 := hM.blk.cell 1
      simp only [List.getElem?_toArray, List.getElem?_cons_succ, List.getElem?_cons_zero] at q1
      go_wp2
      exact (HJ.out _ _ _).2 ⟨_, _, _, _, _, _, _, _, _, _, _, _, _, _, _, _, _, _, _, _, rfl, hM, o19.out, h0.out, h1.out, fun _ => rfl, fun _ => rfl, h4.out, h5.out, h6.out, h7.out, h8.out, h9.out, h10.out, h11.out, h12.out, h13.out, h14.out, h15.out, h16.out, h17.out, h18.out, h19.out⟩
    | 4, _ =>
      obtain ⟨ty, ps, af, ho⟩ := op_lit hops (i := 4) (op := Op.call { callee := Callee.value (Operand.func 13), args := #[(Operand.tmp 84), (Operand.tmp 86)], argTypes := #[22, 22] }) (dst := some 87) (g := none) rfl
      obtain rfl := h1 (hdep 1 (by simp))
      obtain rfl := h3 (hdep 3 (by simp))
      refine wpOp_lit ho (fun j b h => by cases h) ?_
      clear hops hdep ho
      replace h0 := hidH h0
      replace h1 := hidH h1
      replace h2 := hidH h2
      replace h3 := hidH h3
      replace h5 := hidH h5
      replace h6 := hidH h6
      replace h7 := hidH h7
      replace h8 := hidH h8
      replace h9 := hidH h9
      replace h10 := hidH h10
      replace h11 := hidH h11
      replace h12 := hidH h12
      replace h13 := hidH h13
      replace h14 := hidH h14
      replace h15 := hidH h15
      replace h16 := hidH h16
      replace h17 := hidH h17
      replace h18 := hidH h18
      replace h19 := hidH h19
      replace o19 := hidH o19
      go_wp2_with fail
      refine (B1 _ hM).mono ?_
      rintro e w1 ⟨rfl, hb⟩
      go_wp2
      exact (HJ.out _ _ _).2 ⟨_, _, _, _, _, _, _, _, _, _, _, _, _, _, _, _, _, _, _, _, rfl, hM.below hb, o19.out, h0.out, fun _ => rfl, h2.out, fun _ => rfl, fun _ => rfl, h5.out, h6.out, h7.out, h8.out, h9.out, h10.out, h11.out, h12.out, h13.out, h14.out, fun h => by obtain ⟨A1, c1, i, m, q1, q2, q3⟩ := h15.out h; exact ⟨A1, c1, i, m, q1, bs_below q2 hb, q3⟩, h16.out, h17.out, h18.out, h19.out⟩
    | 5, _ =>
      obtain ⟨ty, ps, af, ho⟩ := op_lit hops (i := 5) (op := Op.move (Operand.tmp 87)) (dst := some 88) (g := none) rfl
      obtain rfl := h4 (hdep 4 (by simp))
      refine wpOp_lit ho (fun j b h => by cases h) ?_
      clear hops hdep ho
      replace h0 := hidH h0
      replace h1 := hidH h1
      replace h2 := hidH h2
      replace h3 := hidH h3
      replace h4 := hidH h4
      replace h6 := hidH h6
      replace h7 := hidH h7
      replace h8 := hidH h8
      replace h9 := hidH h9
      replace h10 := hidH h10
      replace h11 := hidH h11
      replace h12 := hidH h12
      replace h13 := hidH h13
      replace h14 := hidH h14
      replace h15 := hidH h15
      replace h16 := hidH h16
      replace h17 := hidH h17
      replace h18 := hidH h18
      replace h19 := hidH h19
      replace o19 := hidH o19
      go_wp2
      exact (HJ.out _ _ _).2 ⟨_, _, _, _, _, _, _, _, _, _, _, _, _, _, _, _, _, _, _, _, rfl, hM, o19.out, h0.out, h1.out, h2.out, h3.out, fun _ => rfl, fun _ => rfl, h6.out, h7.out, h8.out, h9.out, h10.out, h11.out, h12.out, h13.out, h14.out, h15.out, h16.out, h17.out, h18.out, h19.out⟩
    | 6, _ =>
      obtain ⟨ty, ps, af, ho⟩ := op_lit hops (i := 6) (op := Op.fieldAddr 27 (Operand.tmp 5) 1) (dst := some 89) (g := some (5, true)) rfl
      obtain rfl := h5 (hdep 5 (by simp))
      have hy := fun tmps ht => yielded_lit hops (i := 5) (op := Op.move (Operand.tmp 87)) (t := 88) (g := none) rfl tmps true ht
      refine wpOp_lit ho (fun j b h => by cases h; exact hy _ rfl) ?_
      clear hops hdep ho hy
      replace h0 := hidH h0
      replace h1 := hidH h1
      replace h2 := hidH h2
      replace h3 := hidH h3
      replace h4 := hidH h4
      replace h5 := hidH h5
      replace h7 := hidH h7
      replace h8 := hidH h8
      replace h9 := hidH h9
      replace h10 := hidH h10
      replace h11 := hidH h11
      replace h12 := hidH h12
      replace h13 := hidH h13
      replace h14 := hidH h14
      replace h15 := hidH h15
      replace h16 := hidH h16
      replace h17 := hidH h17
      replace h18 := hidH h18
      replace h19 := hidH h19
      replace o19 := hidH o19
      go_wp2
      exact (HJ.out _ _ _).2 ⟨_, _, _, _, _, _, _, _, _, _, _, _, _, _, _, _, _, _, _, _, rfl, hM, o19.out, h0.out, h1.out, h2.out, h3.out, h4.out, fun _ => rfl, fun _ => rfl, h7.out, h8.out, h9.out, h10.out, h11.out, h12.out, h13.out, h14.out, h15.out, h16.out, h17.out, h18.out, h19.out⟩
    | 7, _ =>
      obtain ⟨ty, ps, af, ho⟩ := op_lit hops (i := 7) (op := Op.load 22 (Operand.tmp 89)) (dst := some 90) (g := some (5, true)) rfl
      obtain rfl := h5 (hdep 5 (by simp))
      have hy := fun tmps ht => yielded_lit hops (i := 5) (op := Op.move (Operand.tmp 87)) (t := 88) (g := none) rfl tmps true ht
      obtain rfl := h6 (hdep 6 (by simp))
      refine wpOp_lit ho (fun j b h => by cases h; exact hy _ rfl) ?_
      clear hops hdep ho hy
      replace h0 := hidH h0
      replace h1 := hidH h1
      replace h2 := hidH h2
      replace h3 := hidH h3
      replace h4 := hidH h4
      replace h5 := hidH h5
      replace h6 := hidH h6
      replace h8 := hidH h8
      replace h9 := hidH h9
      replace h10 := hidH h10
      replace h11 := hidH h11
      replace h12 := hidH h12
      replace h13 := hidH h13
      replace h14 := hidH h14
      replace h15 := hidH h15
      replace h16 := hidH h16
      replace h17 := hidH h17
      replace h18 := hidH h18
      replace h19 := hidH h19
      replace o19 := hidH o19
      have q1 := hM.blk.cell 1
      simp only [List.getElem?_toArray, List.getElem?_cons_succ, List.getElem?_cons_zero] at q1
      go_wp2
      exact (HJ.out _ _ _).2 ⟨_, _, _, _, _, _, _, _, _, _, _, _, _, _, _, _, _, _, _, _, rfl, hM, o19.out, h0.out, h1.out, h2.out, h3.out, h4.out, fun _ => rfl, fun _ => rfl, fun _ => rfl, h8.out, h9.out, h10.out, h11.out, h12.out, h13.out, h14.out, h15.out, h16.out, h17.out, h18.out, h19.out⟩
    | 8, _ =>
      obtain ⟨ty, ps, af, ho⟩ := op_lit hops (i := 8) (op := Op.fieldAddr 27 (Operand.tmp 5) 1) (dst := some 91) (g := some (5, true)) rfl
      obtain rfl := h5 (hdep 5 (by simp))
      have hy := fun tmps ht => yielded_lit hops (i := 5) (op := Op.move (Operand.tmp 87)) (t := 88) (g := none) rfl tmps true ht
      refine wpOp_lit ho (fun j b h => by cases h; exact hy _ rfl) ?_
      clear hops hdep ho hy
      replace h0 := hidH h0
      replace h1 := hidH h1
      replace h2 := hidH h2
      replace h3 := hidH h3
      replace h4 := hidH h4
      replace h5 := hidH h5
      replace h6 := hidH h6
      replace h7 := hidH h7
      replace h9 := hidH h9
      replace h10 := hidH h10
      replace h11 := hidH h11
      replace h12 := hidH h12
      replace h13 := hidH h13
      replace h14 := hidH h14
      replace h15 := hidH h15
      replace h16 := hidH h16
      replace h17 := hidH h17
      replace h18 := hidH h18
      replace h19 := hidH h19
      replace o19 := hidH o19
      go_wp2
      exact (HJ.out _ _ _).2 ⟨_, _, _, _, _, _, _, _, _, _, _, _, _, _, _, _, _, _, _, _, rfl, hM, o19.out, h0.out, h1.out, h2.out, h3.out, h4.out, fun _ => rfl, h6.out, h7.out, fun _ => rfl, h9.out, h10.out, h11.out, h12.out, h13.out, h14.out, h15.out, h16.out, h17.out, h18.out, h19.out⟩
    | 9, _ =>
      obtain ⟨ty, ps, af, ho⟩ := op_lit hops (i := 9) (op := Op.load 22 (Operand.tmp 91)) (dst := some 92) (g := some (5, true)) rfl
      obtain rfl := h5 (hdep 5 (by simp))
      have hy := fun tmps ht => yielded_lit hops (i := 5) (op := Op.move (Operand.tmp 87)) (t := 88) (g := none) rfl tmps true ht
      obtain rfl := h8 (hdep 8 (by simp))
      refine wpOp_lit ho (fun j b h => by cases h; exact hy _ rfl) ?_
      clear hops hdep ho hy
      replace h0 := hidH h0
      replace h1 := hidH h1
      replace h2 := hidH h2
      replace h3 := hidH h3
      replace h4 := hidH h4
      replace h5 := hidH h5
      replace h6 := hidH h6
      replace h7 := hidH h7
      replace h8 := hidH h8
      replace h10 := hidH h10
      replace h11 := hidH h11
      replace h12 := hidH h12
      replace h13 := hidH h13
      replace h14 := hidH h14
      replace h15 := hidH h15
      replace h16 := hidH h16
      replace h17 := hidH h17
      replace h18 := hidH h18
      replace h19 := hidH h19
      replace o19 := hidH o19
      have q1 := hM.blk.cell 1
      simp only [List.getElem?_toArray, List.getElem?_cons_succ, List.getElem?_cons_zero] at q1
      go_wp2
      exact (HJ.out _ _ _).2 ⟨_, _, _, _, _, _, _, _, _, _, _, _, _, _, _, _, _, _, _, _, rfl, hM, o19.out, h0.out, h1.out, h2.out, h3.out, h4.out, fun _ => rfl, h6.out, h7.out, fun _ => rfl, fun _ => rfl, h10.out, h11.out, h12.out, h13.out, h14.out, h15.out, h16.out, h17.out, h18.out, h19.out⟩
    | 10, _ =>
      obtain ⟨ty, ps, af, ho⟩ := op_lit hops (i := 10) (op := Op.move (Operand.tmp 0)) (dst := some 93) (g := some (5, true)) rfl
      obtain rfl := h5 (hdep 5 (by simp))
      have hy := fun tmps ht => yielded_lit hops (i := 5) (op := Op.move (Operand.tmp 87)) (t := 88) (g := none) rfl tmps true ht
      refine wpOp_lit ho (fun j b h => by cases h; exact hy _ rfl) ?_
      clear hops hdep ho hy
      replace h0 := hidH h0
      replace h1 := hidH h1
      replace h2 := hidH h2
      replace h3 := hidH h3
      replace h4 := hidH h4
      replace h5 := hidH h5
      replace h6 := hidH h6
      replace h7 := hidH h7
      replace h8 := hidH h8
      replace h9 := hidH h9
      replace h11 := hidH h11
      replace h12 := hidH h12
      replace h13 := hidH h13
      replace h14 := hidH h14
      replace h15 := hidH h15
      replace h16 := hidH h16
      replace h17 := hidH h17
      replace h18 := hidH h18
      replace h19 := hidH h19
      replace o19 := hidH o19
      go_wp2
      exact (HJ.out _ _ _).2 ⟨_, _, _, _, _, _, _, _, _, _, _, _, _, _, _, _, _, _, _, _, rfl, hM, o19.out, h0.out, h1.out, h2.out, h3.out, h4.out, fun _ => rfl, h6.out, h7.out, h8.out, h9.out, fun _ => rfl, h11.out, h12.out, h13.out, h14.out, h15.out, h16.out, h17.out, h18.out, h19.out⟩
    | 11, _ =>
      obtain ⟨ty, ps, af, ho⟩ := op_lit hops (i := 11) (op := Op.call { callee := Callee.value (Operand.func 18), args := #[(Operand.tmp 93), (Operand.const (Value.int .i64 2)), (Operand.const (Value.int .i64 32))], argTypes := #[22, 2, 2] }) (dst := some 94) (g := some (5, true)) rfl
      obtain rfl := h5 (hdep 5 (by simp))
      have hy := fun tmps ht => yielded_lit hops (i := 5) (op := Op.move (Operand.tmp 87)) (t := 88) (g := none) rfl tmps true ht
      obtain rfl := h10 (hdep 10 (by simp))
      refine wpOp_lit ho (fun j b h => by cases h; exact hy _ rfl) ?_
      clear hops hdep ho hy
      replace h0 := hidH h0
      replace h1 := hidH h1
      replace h2 := hidH h2
      replace h3 := hidH h3
      replace h4 := hidH h4
      replace h5 := hidH h5
      replace h6 := hidH h6
      replace h7 := hidH h7
      replace h8 := hidH h8
      replace h9 := hidH h9
      replace h10 := hidH h10
      replace h12 := hidH h12
      replace h13 := hidH h13
      replace h14 := hidH h14
      replace h15 := hidH h15
      replace h16 := hidH h16
      replace h17 := hidH h17
      replace h18 := hidH h18
      replace h19 := hidH h19
      replace o19 := hidH o19
      go_wp2_with fail
      refine (A2 _ hM).mono ?_
      rintro e w1 ⟨i, rfl, hi, hb⟩
      go_wp2
      exact (HJ.out _ _ _).2 ⟨_, _, _, _, _, _, _, _, _, _, _, _, _, _, _, _, _, _, _, _, rfl, hM.below hb, o19.out, h0.out, h1.out, h2.out, h3.out, h4.out, fun _ => rfl, h6.out, h7.out, h8.out, h9.out, fun _ => rfl, fun _ => ⟨i, rfl, hi⟩, h12.out, h13.out, h14.out, fun h => by obtain ⟨A1, c1, i, m, q1, q2, q3⟩ := h15.out h; exact ⟨A1, c1, i, m, q1, bs_below q2 hb, q3⟩, h16.out, h17.out, h18.out, h19.out⟩
    | 12, _ =>
      obtain ⟨ty, ps, af, ho⟩ := op_lit hops (i := 12) (op := Op.move (Operand.tmp 0)) (dst := some 95) (g := some (5, true)) rfl
      obtain rfl := h5 (hdep 5 (by simp))
      have hy := fun tmps ht => yielded_lit hops (i := 5) (op := Op.move (Operand.tmp 87)) (t := 88) (g := none) rfl tmps true ht
      refine wpOp_lit ho (fun j b h => by cases h; exact hy _ rfl) ?_
      clear hops hdep ho hy
      replace h0 := hidH h0
      replace h1 := hidH h1
      replace h2 := hidH h2
      replace h3 := hidH h3
      replace h4 := hidH h4
      replace h5 := hidH h5
      replace h6 := hidH h6
      replace h7 := hidH h7
      replace h8 := hidH h8
      replace h9 := hidH h9
      replace h10 := hidH h10
      replace h11 := hidH h11
      replace h13 := hidH h13
      replace h14 := hidH h14
      replace h15 := hidH h15
      replace h16 := hidH h16
      replace h17 := hidH h17
      replace h18 := hidH h18
      replace h19 := hidH h19
      replace o19 := hidH o19
      go_wp2
      exact (HJ.out _ _ _).2 ⟨_, _, _, _, _, _, _, _, _, _, _, _, _, _, _, _, _, _, _, _, rfl, hM, o19.out, h0.out, h1.out, h2.out, h3.out, h4.out, fun _ => rfl, h6.out, h7.out, h8.out, h9.out, h10.out, h11.out, fun _ => rfl, h13.out, h14.out, h15.out, h16.out, h17.out, h18.out, h19.out⟩
    | 13, _ =>
      obtain ⟨ty, ps, af, ho⟩ := op_lit hops (i := 13) (op := Op.call { callee := Callee.value (Operand.func 18), args := #[(Operand.tmp 95), (Operand.const (Value.int .i64 3)), (Operand.const (Value.int .i64 255))], argTypes := #[22, 2, 2] }) (dst := some 96) (g := some (5, true)) rfl
      obtain rfl := h5 (hdep 5 (by simp))
      have hy := fun tmps ht => yielded_lit hops (i := 5) (op := Op.move (Operand.tmp 87)) (t := 88) (g := none) rfl tmps true ht
      obtain rfl := h12 (hdep 12 (by simp))
      refine wpOp_lit ho (fun j b h => by cases h; exact hy _ rfl) ?_
      clear hops hdep ho hy
      replace h0 := hidH h0
      replace h1 := hidH h1
      replace h2 := hidH h2
      replace h3 := hidH h3
      replace h4 := hidH h4
      replace h5 := hidH h5
      replace h6 := hidH h6
      replace h7 := hidH h7
      replace h8 := hidH h8
      replace h9 := hidH h9
      replace h10 := hidH h10
      replace h11 := hidH h11
      replace h12 := hidH h12
      replace h14 := hidH h14
      replace h15 := hidH h15
      replace h16 := hidH h16
      replace h17 := hidH h17
      replace h18 := hidH h18
      replace h19 := hidH h19
      replace o19 := hidH o19
      go_wp2_with fail
      refine (A3 _ hM).mono ?_
      rintro e w1 ⟨m, rfl, hm, hb⟩
      go_wp2
      exact (HJ.out _ _ _).2 ⟨_, _, _, _, _, _, _, _, _, _, _, _, _, _, _, _, _, _, _, _, rfl, hM.below hb, o19.out, h0.out, h1.out, h2.out, h3.out, h4.out, fun _ => rfl, h6.out, h7.out, h8.out, h9.out, h10.out, h11.out, fun _ => rfl, fun _ => ⟨m, rfl, hm⟩, h14.out, fun h => by obtain ⟨A1, c1, i, m, q1, q2, q3⟩ := h15.out h; exact ⟨A1, c1, i, m, q1, bs_below q2 hb, q3⟩, h16.out, h17.out, h18.out, h19.out⟩
    | 14, _ =>
      obtain ⟨ty, ps, af, ho⟩ := op_lit hops (i := 14) (op := Op.binOp BinOp.add 2 (Operand.const (Value.int .i64 1)) (Operand.tmp 96) 2) (dst := some 97) (g := some (5, true)) rfl
      obtain rfl := h5 (hdep 5 (by simp))
      have hy := fun tmps ht => yielded_lit hops (i := 5) (op := Op.move (Operand.tmp 87)) (t := 88) (g := none) rfl tmps true ht
      obtain ⟨m, rfl, hm⟩ := h13 (hdep 13 (by simp))
      refine wpOp_lit ho (fun j b h => by cases h; exact hy _ rfl) ?_
      clear hops hdep ho hy
      replace h0 := hidH h0
      replace h1 := hidH h1
      replace h2 := hidH h2
      replace h3 := hidH h3
      replace h4 := hidH h4
      replace h5 := hidH h5
      replace h6 := hidH h6
      replace h7 := hidH h7
      replace h8 := hidH h8
      replace h9 := hidH h9
      replace h10 := hidH h10
      replace h11 := hidH h11
      replace h12 := hidH h12
      replace h13 := hidH h13
      replace h15 := hidH h15
      replace h16 := hidH h16
      replace h17 := hidH h17
      replace h18 := hidH h18
      replace h19 := hidH h19
      replace o19 := hidH o19
      go_wp2
      exact (HJ.out _ _ _).2 ⟨_, _, _, _, _, _, _, _, _, _, _, _, _, _, _, _, _, _, _, _, rfl, hM, o19.out, h0.out, h1.out, h2.out, h3.out, h4.out, fun _ => rfl, h6.out, h7.out, h8.out, h9.out, h10.out, h11.out, h12.out, fun _ => ⟨m, rfl, hm⟩, fun _ => ⟨m, rfl, hm⟩, h15.out, h16.out, h17.out, h18.out, h19.out⟩
    | 15, _ =>
      obtain ⟨ty, ps, af, ho⟩ := op_lit hops (i := 15) (op := Op.call { callee := Callee.value (Operand.func 17), args := #[(Operand.tmp 92), (Operand.tmp 94), (Operand.tmp 97)], argTypes := #[22, 2, 2] }) (dst := some 98) (g := some (5, true)) rfl
      obtain rfl := h5 (hdep 5 (by simp))
      have hy := fun tmps ht => yielded_lit hops (i := 5) (op := Op.move (Operand.tmp 87)) (t := 88) (g := none) rfl tmps true ht
      obtain rfl := h9 (hdep 9 (by simp))
      obtain ⟨i, rfl, hi⟩ := h11 (hdep 11 (by simp))
      obtain ⟨m, rfl, hm⟩ := h14 (hdep 14 (by simp))
      refine wpOp_lit ho (fun j b h => by cases h; exact hy _ rfl) ?_
      clear hops hdep ho hy
      replace h0 := hidH h0
      replace h1 := hidH h1
      replace h2 := hidH h2
      replace h3 := hidH h3
      replace h4 := hidH h4
      replace h5 := hidH h5
      replace h6 := hidH h6
      replace h7 := hidH h7
      replace h8 := hidH h8
      replace h9 := hidH h9
      replace h10 := hidH h10
      replace h11 := hidH h11
      replace h12 := hidH h12
      replace h13 := hidH h13
      replace h14 := hidH h14
      replace h16 := hidH h16
      replace h17 := hidH h17
      replace h18 := hidH h18
      replace h19 := hidH h19
      replace o19 := hidH o19
      go_wp2_with fail
      refine (A4 _ hM i m hi hm).mono ?_
      rintro e w1 ⟨A1, c1, rfl, hT, hb⟩
      go_wp2
      exact (HJ.out _ _ _).2 ⟨_, _, _, _, _, _, _, _, _, _, _, _, _, _, _, _, _, _, _, _, rfl, hM.below hb, o19.out, h0.out, h1.out, h2.out, h3.out, h4.out, fun _ => rfl, h6.out, h7.out, h8.out, fun _ => rfl, h10.out, fun _ => ⟨i, rfl, hi⟩, h12.out, h13.out, fun _ => ⟨m, rfl, hm⟩, fun _ => ⟨A1, c1, i, m, rfl, hT, hi, hm⟩, h16.out, h17.out, h18.out, h19.out⟩
    | 16, _ =>
      obtain ⟨ty, ps, af, ho⟩ := op_lit hops (i := 16) (op := Op.call { callee := Callee.value (Operand.func 13), args := #[(Operand.tmp 90), (Operand.tmp 98)], argTypes := #[22, 22] }) (dst := some 99) (g := some (5, true)) rfl
      obtain rfl := h5 (hdep 5 (by simp))
      have hy := fun tmps ht => yielded_lit hops (i := 5) (op := Op.move (Operand.tmp 87)) (t := 88) (g := none) rfl tmps true ht
      obtain rfl := h7 (hdep 7 (by simp))
      obtain ⟨A1, c1, i, m, rfl, hT, hi, hm⟩ := h15 (hdep 15 (by simp))
      refine wpOp_lit ho (fun j b h => by cases h; exact hy _ rfl) ?_
      clear hops hdep ho hy
      replace h0 := hidH h0
      replace h1 := hidH h1
      replace h2 := hidH h2
      replace h3 := hidH h3
      replace h4 := hidH h4
      replace h5 := hidH h5
      replace h6 := hidH h6
      replace h7 := hidH h7
      replace h8 := hidH h8
      replace h9 := hidH h9
      replace h10 := hidH h10
      replace h11 := hidH h11
      replace h12 := hidH h12
      replace h13 := hidH h13
      replace h14 := hidH h14
      replace h15 := hidH h15
      replace h17 := hidH h17
      replace h18 := hidH h18
      replace h19 := hidH h19
      replace o19 := hidH o19
      go_wp2_with fail
      refine (A5 _ i m _ _ hM hi hm hT).mono ?_
      rintro e w1 ⟨rfl, hb⟩
      go_wp2
      exact (HJ.out _ _ _).2 ⟨_, _, _, _, _, _, _, _, _, _, _, _, _, _, _, _, _, _, _, _, rfl, hM.below hb, o19.out, h0.out, h1.out, h2.out, h3.out, h4.out, fun _ => rfl, h6.out, fun _ => rfl, h8.out, h9.out, h10.out, h11.out, h12.out, h13.out, h14.out, fun _ => ⟨A1, c1, i, m, rfl, bs_below hT hb, hi, hm⟩, fun _ => rfl, h17.out, h18.out, h19.out⟩
    | 17, _ =>
      obtain ⟨ty, ps, af, ho⟩ := op_lit hops (i := 17) (op := Op.unOp UnOp.not 4 (Operand.tmp 99)) (dst := some 100) (g := some (5, true)) rfl
      obtain rfl := h5 (hdep 5 (by simp))
      have hy := fun tmps ht => yielded_lit hops (i := 5) (op := Op.move (Operand.tmp 87)) (t := 88) (g := none) rfl tmps true ht
      obtain rfl := h16 (hdep 16 (by simp))
      refine wpOp_lit ho (fun j b h => by cases h; exact hy _ rfl) ?_
      clear hops hdep ho hy
      replace h0 := hidH h0
      replace h1 := hidH h1
      replace h2 := hidH h2
      replace h3 := hidH h3
      replace h4 := hidH h4
      replace h5 := hidH h5
      replace h6 := hidH h6
      replace h7 := hidH h7
      replace h8 := hidH h8
      replace h9 := hidH h9
      replace h10 := hidH h10
      replace h11 := hidH h11
      replace h12 := hidH h12
      replace h13 := hidH h13
      replace h14 := hidH h14
      replace h15 := hidH h15
      replace h16 := hidH h16
      replace h18 := hidH h18
      replace h19 := hidH h19
      replace o19 := hidH o19
      go_wp2
      exact (HJ.out _ _ _).2 ⟨_, _, _, _, _, _, _, _, _, _, _, _, _, _, _, _, _, _, _, _, rfl, hM, o19.out, h0.out, h1.out, h2.out, h3.out, h4.out, fun _ => rfl, h6.out, h7.out, h8.out, h9.out, h10.out, h11.out, h12.out, h13.out, h14.out, h15.out, fun _ => rfl, fun _ => rfl, h18.out, h19.out⟩
    | 18, _ =>
      obtain ⟨ty, ps, af, ho⟩ := op_lit hops (i := 18) (op := Op.pick (Operand.tmp 88) (Operand.tmp 100) (Operand.const (Value.bool false))) (dst := some 101) (g := none) rfl
      obtain rfl := h5 (hdep 5 (by simp))
      obtain rfl := h17 (hdep 17 (by simp))
      refine wpOp_lit ho (fun j b h => by cases h) ?_
      clear hops hdep ho
      replace h0 := hidH h0
      replace h1 := hidH h1
      replace h2 := hidH h2
      replace h3 := hidH h3
      replace h4 := hidH h4
      replace h5 := hidH h5
      replace h6 := hidH h6
      replace h7 := hidH h7
      replace h8 := hidH h8
      replace h9 := hidH h9
      replace h10 := hidH h10
      replace h11 := hidH h11
      replace h12 := hidH h12
      replace h13 := hidH h13
      replace h14 := hidH h14
      replace h15 := hidH h15
      replace h16 := hidH h16
      replace h17 := hidH h17
      replace h19 := hidH h19
      replace o19 := hidH o19
      go_wp2
      exact (HJ.out _ _ _).2 ⟨_, _, _, _, _, _, _, _, _, _, _, _, _, _, _, _, _, _, _, _, rfl, hM, o19.out, h0.out, h1.out, h2.out, h3.out, h4.out, fun _ => rfl, h6.out, h7.out, h8.out, h9.out, h10.out, h11.out, h12.out, h13.out, h14.out, h15.out, h16.out, fun _ => rfl, fun _ => rfl, h19.out⟩
    | 19, _ =>
      obtain ⟨ty, ps, af, ho⟩ := op_lit hops (i := 19) (op := Op.assign (Operand.tmp 101)) (dst := some 2) (g := none) rfl
      obtain rfl := h18 (hdep 18 (by simp))
      obtain rfl := o19 hdn
      refine wpOp_lit ho (fun j b h => by cases h) ?_
      clear hops hdep ho
      replace h0 := hidH h0
      replace h1 := hidH h1
      replace h2 := hidH h2
      replace h3 := hidH h3
      replace h4 := hidH h4
      replace h5 := hidH h5
      replace h6 := hidH h6
      replace h7 := hidH h7
      replace h8 := hidH h8
      replace h9 := hidH h9
      replace h10 := hidH h10
      replace h11 := hidH h11
      replace h12 := hidH h12
      replace h13 := hidH h13
      replace h14 := hidH h14
      replace h15 := hidH h15
      replace h16 := hidH h16
      replace h17 := hidH h17
      replace h18 := hidH h18
      go_wp2
      exact (HJ.out _ _ _).2 ⟨_, _, _, _, _, _, _, _, _, _, _, _, _, _, _, _, _, _, _, _, rfl, hM, (fun h => by simp at h), h0.out, h1.out, h2.out, h3.out, h4.out, h5.out, h6.out, h7.out, h8.out, h9.out, h10.out, h11.out, h12.out, h13.out, h14.out, h15.out, h16.out, h17.out, fun _ => rfl, fun _ => rfl⟩
    | n + 20, h => omega
  case fin =>
    clear hops hdeps hback
    rintro dn ac W hJ hall
    obtain ⟨t83, t84, t85, t86, t87, t88, t89, t90, t91, t92, t93, t94, t95, t96, t97, t98, t99, t100, t101, t2, rfl, hM, o19, h0, h1, h2, h3, h4, h5, h6, h7, h8, h9, h10, h11, h12, h13, h14, h15, h16, h17, h18, h19⟩ := (HJ.out _ _ _).1 hJ
    obtain rfl := h19 (hall 19 (by omega))
    exact fin _ _ _ _ _ _ _ _ _ _ _ _ _ _ _ _ _ _ _ W hM
end Go.Proofs.Ytanffpmpknmldaa
