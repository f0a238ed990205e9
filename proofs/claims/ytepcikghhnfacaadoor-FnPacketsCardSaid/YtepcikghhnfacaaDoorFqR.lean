/- A region of the law FnPackets that draws its order. -/
import Derived.Test.YtepcikghhnfacaaDoorFpR
namespace Go.Proofs.YtepcikghhnfacaaDoor
open Go.RowKit Go.Deep

set_option maxRecDepth 100000 in
set_option maxHeartbeats 1000000 in
theorem regFp14 {Q : Exit → Act → World → Prop} (x1 x2 x7 x9 x10 x11 x12 x13 x14 x15 x16 x17 x18 x19 x20 x21 x22 x23 x24 x25 x26 x27 x28 x29 x30 x31 x32 x33 x34 x35 x36 x37 x38 x39 x40 x41 x42 x43 x44 x45 x46 x47 x48 x49 x50 x51 x52 x53 x54 x55 x56 : Value) (ca : Nat) (ws : World) (q3 q4 q6 : Nat) (tag : Int) (P : Option Addr) (cs : List Chk) (cp : Nat) (C : Int) (A4 : Option Addr) (M : List Int) (c4 : Nat) (X : Option Addr) (D : List Int) (cx : Nat) (C6 T6 : Int) (P6 : Option Addr) (S6 : List Chk) (c6 : Nat) (cA : Option Addr) (l : List Int) (ty : TypeId) (pv : Value)
    (B2 : ∀ u, FpM ws q3 q4 q6 tag P cs cp C A4 M c4 X D C6 T6 P6 S6 c6 cA l ty pv u → Calls Tryd.prog 15 #[.slice cA l.length ca, .int .i64 2, .int .i64 (M.length : Int)] u fun e w' => ∃ i : Nat, e = .returned (.int .i64 (i : Int)) ∧ (i : Int) < (M.length : Int) ∧ Below u.heap.size u w')
    (B3 : ∀ u, FpM ws q3 q4 q6 tag P cs cp C A4 M c4 X D C6 T6 P6 S6 c6 cA l ty pv u → Calls Tryd.prog 15 #[.slice cA l.length ca, .int .i64 3, .int .i64 255] u fun e w' => ∃ m : Nat, e = .returned (.int .i64 (m : Int)) ∧ (m : Int) < 255 ∧ Below u.heap.size u w')
    (B4 : ∀ u, FpM ws q3 q4 q6 tag P cs cp C A4 M c4 X D C6 T6 P6 S6 c6 cA l ty pv u → ∀ i m : Nat, (i : Int) < (M.length : Int) → (m : Int) < 255 → Calls Tryd.prog 14 #[.slice A4 M.length c4, .int .i64 (i : Int), .int .i64 (1 + (m : Int))] u fun e w' => ∃ A' c', e = .returned (.slice A' (turnL M i (1 + m)).length c') ∧ (Bs w' A' (turnL M i (1 + m)) ∧ (turnL M i (1 + m)).length ≤ c' ∧ (c' : Int) ≤ 9223372036854775807) ∧ Below u.heap.size u w')
    (B5 : ∀ (u : World) (i m : Nat) (A' : Option Addr) (c' : Nat), FpM ws q3 q4 q6 tag P cs cp C A4 M c4 X D C6 T6 P6 S6 c6 cA l ty pv u → (i : Int) < (M.length : Int) → (m : Int) < 255 → (Bs u A' (turnL M i (1 + m)) ∧ (turnL M i (1 + m)).length ≤ c' ∧ (c' : Int) ≤ 9223372036854775807) → Calls Tryd.prog 9 #[.slice A' (turnL M i (1 + m)).length c'] u fun e w' => ∃ T1 P1 n1 c1, e = .returned (.agg #[.int .i64 9, .int .i64 T1, .slice P1 n1 c1]) ∧ Below u.heap.size u w') {ops : Array Oper}
    (hops : (ops.map fun o => (o.op, o.dst, o.guard)) = #[(Op.fieldAddr 29 (Operand.tmp 4) 1, some 57, none), (Op.load 22 (Operand.tmp 57), some 58, none), (Op.move (Operand.tmp 0), some 59, none), (Op.fieldAddr 29 (Operand.tmp 4) 1, some 60, none), (Op.load 22 (Operand.tmp 60), some 61, none), (Op.call { callee := Callee.builtin Builtin.len, args := #[(Operand.tmp 61)], argTypes := #[22] }, some 62, none), (Op.call { callee := Callee.value (Operand.func 15), args := #[(Operand.tmp 59), (Operand.const (Value.int .i64 2)), (Operand.tmp 62)], argTypes := #[22, 2, 2] }, some 63, none), (Op.move (Operand.tmp 0), some 64, none), (Op.call { callee := Callee.value (Operand.func 15), args := #[(Operand.tmp 64), (Operand.const (Value.int .i64 3)), (Operand.const (Value.int .i64 255))], argTypes := #[22, 2, 2] }, some 65, none), (Op.binOp BinOp.add 2 ((Operand.const (Value.int .i64 1))) (Operand.tmp 65) 2, some 66, none), (Op.call { callee := Callee.value (Operand.func 14), args := #[(Operand.tmp 58), (Operand.tmp 63), (Operand.tmp 66)], argTypes := #[22, 2, 2] }, some 67, none), (Op.call { callee := Callee.value (Operand.func 9), args := #[(Operand.tmp 67)], argTypes := #[22] }, some 68, none), (Op.alloc 33, some 8, none), (Op.store 33 (Operand.tmp 8) (Operand.tmp 68), none, none)])
    (hdeps : ((List.range 14).all fun i => ((fun i => [[], [0], [], [], [3], [4], [2, 5], [], [7], [8], [1, 6, 9], [10], [], [11, 12]].getD i []) i).all fun j => ((ops[i]?).map fun o => o.after.any fun e => Region.binds .any e && e.on == j).getD false) = true)
    (hback : ((List.range 14).all fun i => ((ops[i]?).map fun o => o.after.all fun e => decide (e.on < i)).getD false) = true)
    {a0 : Act} {w0 : World} (ha : a0 = { tmps := #[.slice cA l.length ca, x1, x2, .pointer (some ⟨q3, 0, none⟩), .pointer (some ⟨q4, 0, none⟩), .slice X D.length cx, .pointer (some ⟨q6, 0, none⟩), x7, undef, x9, x10, x11, x12, x13, x14, x15, x16, x17, x18, x19, x20, x21, x22, x23, x24, x25, x26, x27, x28, x29, x30, x31, x32, x33, x34, x35, x36, x37, x38, x39, x40, x41, x42, x43, x44, x45, x46, x47, x48, x49, x50, x51, x52, x53, x54, x55, x56, undef, undef, undef, undef, undef, undef, undef, undef, undef, undef, undef, undef, undef, undef, undef, undef, undef, undef, undef, undef, undef, undef, undef, undef, undef, undef, undef, undef, undef, undef, undef, undef, undef, undef, undef, undef, undef, undef, undef, undef, undef, undef, undef, undef, undef], defers := [] }) (hE : (false = true → false = true) ∧ (false = true → false = true) ∧ (false = true → false = true) ∧ (false = true → false = true)) (hE12 : false = true → false = true) (hE11 : (false = true → false = true) ∧ (false = true → false = true) ∧ (false = true → false = true)) (hE10 : (false = true → false = true) ∧ (false = true → false = true)) (hE9 : (false = true → false = true)) (hM0 : FpM ws q3 q4 q6 tag P cs cp C A4 M c4 X D C6 T6 P6 S6 c6 cA l ty pv w0) (hW : Below w0.heap.size w0 w0)
    (fin : ∀ t57 t58 t59 t60 t61 t62 t63 t64 t65 t66 t67 t68 t8 (W : World), (Below w0.heap.size w0 W) → (∃ (q8 : Nat) (T1 : Int) (P1 : Option Addr) (n1 c1 : Nat), t8 = .pointer (some ⟨q8, 0, none⟩) ∧ Blk W q8 33 #[.int .i64 9, .int .i64 T1, .slice P1 n1 c1]) → Q .normal { tmps := #[.slice cA l.length ca, x1, x2, .pointer (some ⟨q3, 0, none⟩), .pointer (some ⟨q4, 0, none⟩), .slice X D.length cx, .pointer (some ⟨q6, 0, none⟩), x7, t8, x9, x10, x11, x12, x13, x14, x15, x16, x17, x18, x19, x20, x21, x22, x23, x24, x25, x26, x27, x28, x29, x30, x31, x32, x33, x34, x35, x36, x37, x38, x39, x40, x41, x42, x43, x44, x45, x46, x47, x48, x49, x50, x51, x52, x53, x54, x55, x56, t57, t58, t59, t60, t61, t62, t63, t64, t65, t66, t67, t68, undef, undef, undef, undef, undef, undef, undef, undef, undef, undef, undef, undef, undef, undef, undef, undef, undef, undef, undef, undef, undef, undef, undef, undef, undef, undef, undef, undef, undef, undef, undef, undef, undef], defers := [] } W) :
    wpAny Tryd.prog .any ops Q ops.size (Array.replicate ops.size false) a0 w0 := by
  have hn : ops.size = 14 := by have := congrArg Array.size hops; simpa using this
  obtain ⟨J, HJ⟩ : ∃ J : (Nat → Bool) → Act → World → Prop, ∀ dn ac W, J dn ac W ↔ (fun dn ac W => ∃ t57 t58 t59 t60 t61 t62 t63 t64 t65 t66 t67 t68 t8, ac = { tmps := #[.slice cA l.length ca, x1, x2, .pointer (some ⟨q3, 0, none⟩), .pointer (some ⟨q4, 0, none⟩), .slice X D.length cx, .pointer (some ⟨q6, 0, none⟩), x7, t8, x9, x10, x11, x12, x13, x14, x15, x16, x17, x18, x19, x20, x21, x22, x23, x24, x25, x26, x27, x28, x29, x30, x31, x32, x33, x34, x35, x36, x37, x38, x39, x40, x41, x42, x43, x44, x45, x46, x47, x48, x49, x50, x51, x52, x53, x54, x55, x56, t57, t58, t59, t60, t61, t62, t63, t64, t65, t66, t67, t68, undef, undef, undef, undef, undef, undef, undef, undef, undef, undef, undef, undef, undef, undef, undef, undef, undef, undef, undef, undef, undef, undef, undef, undef, undef, undef, undef, undef, undef, undef, undef, undef, undef], defers := [] } ∧ ((dn 13 = true → dn 11 = true) ∧ (dn 13 = true → dn 10 = true) ∧ (dn 13 = true → dn 6 = true) ∧ (dn 13 = true → dn 8 = true)) ∧ (dn 13 = true → dn 12 = true) ∧ ((dn 11 = true → dn 10 = true) ∧ (dn 11 = true → dn 6 = true) ∧ (dn 11 = true → dn 8 = true)) ∧ ((dn 10 = true → dn 6 = true) ∧ (dn 10 = true → dn 8 = true)) ∧ ((dn 9 = true → dn 8 = true)) ∧ (FpM ws q3 q4 q6 tag P cs cp C A4 M c4 X D C6 T6 P6 S6 c6 cA l ty pv w0) ∧ (Below w0.heap.size w0 W) ∧ (dn 0 = true → t57 = .pointer (some ⟨q4, 1, none⟩)) ∧ (dn 1 = true → t58 = .slice A4 M.length c4) ∧ (dn 2 = true → t59 = .slice cA l.length ca) ∧ (dn 3 = true → t60 = .pointer (some ⟨q4, 1, none⟩)) ∧ (dn 4 = true → t61 = .slice A4 M.length c4) ∧ (dn 5 = true → t62 = .int .i64 (M.length : Int)) ∧ (dn 6 = true → ∃ i : Nat, t63 = .int .i64 (i : Int) ∧ (i : Int) < (M.length : Int)) ∧ (dn 7 = true → t64 = .slice cA l.length ca) ∧ (dn 8 = true → ∃ m : Nat, t65 = .int .i64 (m : Int) ∧ (m : Int) < 255) ∧ (dn 9 = true → ∃ m : Nat, t66 = .int .i64 (1 + (m : Int)) ∧ (m : Int) < 255) ∧ (dn 10 = true → dn 11 = false → ∃ (A1 : Option Addr) (c1 i m : Nat), t67 = .slice A1 (turnL M i (1 + m)).length c1 ∧ (Bs W A1 (turnL M i (1 + m)) ∧ (turnL M i (1 + m)).length ≤ c1 ∧ (c1 : Int) ≤ 9223372036854775807) ∧ (i : Int) < (M.length : Int) ∧ (m : Int) < 255) ∧ (dn 11 = true → ∃ (T1 : Int) (P1 : Option Addr) (n1 c1 : Nat), t68 = .agg #[.int .i64 9, .int .i64 T1, .slice P1 n1 c1]) ∧ (dn 12 = true → dn 13 = false → ∃ q8 : Nat, t8 = .pointer (some ⟨q8, 0, none⟩) ∧ Blk W q8 33 #[.int .i64 0, .int .i64 0, .slice none 0 0] ∧ w0.heap.size ≤ q8) ∧ (dn 13 = true → ∃ (q8 : Nat) (T1 : Int) (P1 : Option Addr) (n1 c1 : Nat), t8 = .pointer (some ⟨q8, 0, none⟩) ∧ Blk W q8 33 #[.int .i64 9, .int .i64 T1, .slice P1 n1 c1])) dn ac W := ⟨_, fun _ _ _ => Iff.rfl⟩
  replace HJ := hidH HJ
  refine region_inv 14 (fun i => [[], [0], [], [], [3], [4], [2, 5], [], [7], [8], [1, 6, 9], [10], [], [11, 12]].getD i []) J hn hdeps hback ?start ?step ?fin
  case start => exact (HJ.out _ _ _).2 ⟨undef, undef, undef, undef, undef, undef, undef, undef, undef, undef, undef, undef, undef, ha, hE, hE12, hE11, hE10, hE9, hM0, hW, fun h => by simp at h, fun h => by simp at h, fun h => by simp at h, fun h => by simp at h, fun h => by simp at h, fun h => by simp at h, fun h => by simp at h, fun h => by simp at h, fun h => by simp at h, fun h => by simp at h, fun h => by simp at h, fun h => by simp at h, fun h => by simp at h, fun h => by simp at h⟩
  all_goals clear ha hE hE12 hE11 hE10 hE9 hM0 hW
  case step =>
    clear fin hdeps hback
    intro i hi dn ac W hJ hdn hdep
    obtain ⟨t57, t58, t59, t60, t61, t62, t63, t64, t65, t66, t67, t68, t8, rfl, hE, hE12, hE11, hE10, hE9, hM0, hW, h0, h1, h2, h3, h4, h5, h6, h7, h8, h9, h10, h11, h12, h13⟩ := (HJ.out _ _ _).1 hJ
    clear hJ
    match i, hi with
    | 0, _ =>
      obtain ⟨ty, ps, af, ho⟩ := op_lit hops (i := 0) (op := Op.fieldAddr 29 (Operand.tmp 4) 1) (dst := some 57) (g := none) rfl
      refine wpOp_lit ho (fun j b h => by cases h) ?_
      clear hops hdep ho
      replace h1 := hidH h1
      replace h2 := hidH h2
      replace h3 := hidH h3
      replace h4 := hidH h4
      replace h5 := hidH h5
      replace h6 := hidH h6
      replace h7 := hidH h7
      replace h8 := hidH h8
      replace h9 := hidH h9
      replace h10 := hidH h10
      replace h11 := hidH h11
      replace h12 := hidH h12
      replace h13 := hidH h13
      go_wp2
      exact (HJ.out _ _ _).2 ⟨_, _, _, _, _, _, _, _, _, _, _, _, _, rfl, hE, hE12, hE11, hE10, hE9, hM0, hW, fun _ => rfl, h1.out, h2.out, h3.out, h4.out, h5.out, h6.out, h7.out, h8.out, h9.out, h10.out, h11.out, h12.out, h13.out⟩
    | 1, _ =>
      obtain ⟨ty, ps, af, ho⟩ := op_lit hops (i := 1) (op := Op.load 22 (Operand.tmp 57)) (dst := some 58) (g := none) rfl
      obtain rfl := h0 (hdep 0 (by simp))
      refine wpOp_lit ho (fun j b h => by cases h) ?_
      clear hops hdep ho
      replace h0 := hidH h0
      replace h2 := hidH h2
      replace h3 := hidH h3
      replace h4 := hidH h4
      replace h5 := hidH h5
      replace h6 := hidH h6
      replace h7 := hidH h7
      replace h8 := hidH h8
      replace h9 := hidH h9
      replace h10 := hidH h10
      replace h11 := hidH h11
      replace h12 := hidH h12
      replace h13 := hidH h13
      have hM := hM0.below hW
      have q1 := hM.rs.cell 1
      simp only [List.getElem?_toArray, List.getElem?_cons_succ, List.getElem?_cons_zero] at q1
      go_wp2
      exact (HJ.out _ _ _).2 ⟨_, _, _, _, _, _, _, _, _, _, _, _, _, rfl, hE, hE12, hE11, hE10, hE9, hM0, hW, fun _ => rfl, fun _ => rfl, h2.out, h3.out, h4.out, h5.out, h6.out, h7.out, h8.out, h9.out, h10.out, h11.out, h12.out, h13.out⟩
    | 2, _ =>
      obtain ⟨ty, ps, af, ho⟩ := op_lit hops (i := 2) (op := Op.move (Operand.tmp 0)) (dst := some 59) (g := none) rfl
      refine wpOp_lit ho (fun j b h => by cases h) ?_
      clear hops hdep ho
      replace h0 := hidH h0
      replace h1 := hidH h1
      replace h3 := hidH h3
      replace h4 := hidH h4
      replace h5 := hidH h5
      replace h6 := hidH h6
      replace h7 := hidH h7
      replace h8 := hidH h8
      replace h9 := hidH h9
      replace h10 := hidH h10
      replace h11 := hidH h11
      replace h12 := hidH h12
      replace h13 := hidH h13
      go_wp2
      exact (HJ.out _ _ _).2 ⟨_, _, _, _, _, _, _, _, _, _, _, _, _, rfl, hE, hE12, hE11, hE10, hE9, hM0, hW, h0.out, h1.out, fun _ => rfl, h3.out, h4.out, h5.out, h6.out, h7.out, h8.out, h9.out, h10.out, h11.out, h12.out, h13.out⟩
    | 3, _ =>
      obtain ⟨ty, ps, af, ho⟩ := op_lit hops (i := 3) (op := Op.fieldAddr 29 (Operand.tmp 4) 1) (dst := some 60) (g := none) rfl
      refine wpOp_lit ho (fun j b h => by cases h) ?_
      clear hops hdep ho
      replace h0 := hidH h0
      replace h1 := hidH h1
      replace h2 := hidH h2
      replace h4 := hidH h4
      replace h5 := hidH h5
      replace h6 := hidH h6
      replace h7 := hidH h7
      replace h8 := hidH h8
      replace h9 := hidH h9
      replace h10 := hidH h10
      replace h11 := hidH h11
      replace h12 := hidH h12
      replace h13 := hidH h13
      go_wp2
      exact (HJ.out _ _ _).2 ⟨_, _, _, _, _, _, _, _, _, _, _, _, _, rfl, hE, hE12, hE11, hE10, hE9, hM0, hW, h0.out, h1.out, h2.out, fun _ => rfl, h4.out, h5.out, h6.out, h7.out, h8.out, h9.out, h10.out, h11.out, h12.out, h13.out⟩
    | 4, _ =>
      obtain ⟨ty, ps, af, ho⟩ := op_lit hops (i := 4) (op := Op.load 22 (Operand.tmp 60)) (dst := some 61) (g := none) rfl
      obtain rfl := h3 (hdep 3 (by simp))
      refine wpOp_lit ho (fun j b h => by cases h) ?_
      clear hops hdep ho
      replace h0 := hidH h0
      replace h1 := hidH h1
      replace h2 := hidH h2
      replace h3 := hidH h3
      replace h5 := hidH h5
      replace h6 := hidH h6
      replace h7 := hidH h7
      replace h8 := hidH h8
      replace h9 := hidH h9
      replace h10 := hidH h10
      replace h11 := hidH h11
      replace h12 := hidH h12
      replace h13 := hidH h13
      have hM := hM0.below hW
      have q1 := hM.rs.cell 1
      simp only [List.getElem?_toArray, List.getElem?_cons_succ, List.getElem?_cons_zero] at q1
      go_wp2
      exact (HJ.out _ _ _).2 ⟨_, _, _, _, _, _, _, _, _, _, _, _, _, rfl, hE, hE12, hE11, hE10, hE9, hM0, hW, h0.out, h1.out, h2.out, fun _ => rfl, fun _ => rfl, h5.out, h6.out, h7.out, h8.out, h9.out, h10.out, h11.out, h12.out, h13.out⟩
    | 5, _ =>
      obtain ⟨ty, ps, af, ho⟩ := op_lit hops (i := 5) (op := Op.call { callee := Callee.builtin Builtin.len, args := #[(Operand.tmp 61)], argTypes := #[22] }) (dst := some 62) (g := none) rfl
      obtain rfl := h4 (hdep 4 (by simp))
      refine wpOp_lit ho (fun j b h => by cases h) ?_
      clear hops hdep ho
      replace h0 := hidH h0
      replace h1 := hidH h1
      replace h2 := hidH h2
      replace h3 := hidH h3
      replace h4 := hidH h4
      replace h6 := hidH h6
      replace h7 := hidH h7
      replace h8 := hidH h8
      replace h9 := hidH h9
      replace h10 := hidH h10
      replace h11 := hidH h11
      replace h12 := hidH h12
      replace h13 := hidH h13
      go_wp2
      exact (HJ.out _ _ _).2 ⟨_, _, _, _, _, _, _, _, _, _, _, _, _, rfl, hE, hE12, hE11, hE10, hE9, hM0, hW, h0.out, h1.out, h2.out, h3.out, fun _ => rfl, fun _ => rfl, h6.out, h7.out, h8.out, h9.out, h10.out, h11.out, h12.out, h13.out⟩
    | 6, _ =>
      obtain ⟨ty, ps, af, ho⟩ := op_lit hops (i := 6) (op := Op.call { callee := Callee.value (Operand.func 15), args := #[(Operand.tmp 59), (Operand.const (Value.int .i64 2)), (Operand.tmp 62)], argTypes := #[22, 2, 2] }) (dst := some 63) (g := none) rfl
      obtain rfl := h2 (hdep 2 (by simp))
      obtain rfl := h5 (hdep 5 (by simp))
      refine wpOp_lit ho (fun j b h => by cases h) ?_
      clear hops hdep ho
      replace h0 := hidH h0
      replace h1 := hidH h1
      replace h2 := hidH h2
      replace h3 := hidH h3
      replace h4 := hidH h4
      replace h5 := hidH h5
      replace h7 := hidH h7
      replace h8 := hidH h8
      replace h9 := hidH h9
      replace h10 := hidH h10
      replace h11 := hidH h11
      replace h12 := hidH h12
      replace h13 := hidH h13
      have hM := hM0.below hW
      go_wp2_with fail
      refine (B2 _ hM).mono ?_
      rintro e w1 ⟨i, rfl, hi, hb⟩
      go_wp2
      exact (HJ.out _ _ _).2 ⟨_, _, _, _, _, _, _, _, _, _, _, _, _, rfl, ⟨hE.1, hE.2.1, (fun _ => rfl), hE.2.2.2⟩, hE12, ⟨hE11.1, (fun _ => rfl), hE11.2.2⟩, ⟨(fun _ => rfl), hE10.2⟩, hE9, hM0, btr hW hb, h0.out, h1.out, fun _ => rfl, h3.out, h4.out, fun _ => rfl, fun _ => ⟨i, rfl, hi⟩, h7.out, h8.out, h9.out, fun h h2 => by obtain ⟨A1, c1, i, m, q1, q2, q3⟩ := h10.out h h2; exact ⟨A1, c1, i, m, q1, ⟨bs_below q2.1 hb, q2.2⟩, q3⟩, h11.out, fun h h2 => by obtain ⟨q8, q1, q2, q3⟩ := h12.out h h2; exact ⟨q8, q1, q2.below hb, q3⟩, (fun h => by have h3 : dn 6 = true := hE.2.2.1 h; rw [hdn] at h3; cases h3)⟩
    | 7, _ =>
      obtain ⟨ty, ps, af, ho⟩ := op_lit hops (i := 7) (op := Op.move (Operand.tmp 0)) (dst := some 64) (g := none) rfl
      refine wpOp_lit ho (fun j b h => by cases h) ?_
      clear hops hdep ho
      replace h0 := hidH h0
      replace h1 := hidH h1
      replace h2 := hidH h2
      replace h3 := hidH h3
      replace h4 := hidH h4
      replace h5 := hidH h5
      replace h6 := hidH h6
      replace h8 := hidH h8
      replace h9 := hidH h9
      replace h10 := hidH h10
      replace h11 := hidH h11
      replace h12 := hidH h12
      replace h13 := hidH h13
      go_wp2
      exact (HJ.out _ _ _).2 ⟨_, _, _, _, _, _, _, _, _, _, _, _, _, rfl, hE, hE12, hE11, hE10, hE9, hM0, hW, h0.out, h1.out, h2.out, h3.out, h4.out, h5.out, h6.out, fun _ => rfl, h8.out, h9.out, h10.out, h11.out, h12.out, h13.out⟩
    | 8, _ =>
      obtain ⟨ty, ps, af, ho⟩ := op_lit hops (i := 8) (op := Op.call { callee := Callee.value (Operand.func 15), args := #[(Operand.tmp 64), (Operand.const (Value.int .i64 3)), (Operand.const (Value.int .i64 255))], argTypes := #[22, 2, 2] }) (dst := some 65) (g := none) rfl
      obtain rfl := h7 (hdep 7 (by simp))
      refine wpOp_lit ho (fun j b h => by cases h) ?_
      clear hops hdep ho
      replace h0 := hidH h0
      replace h1 := hidH h1
      replace h2 := hidH h2
      replace h3 := hidH h3
      replace h4 := hidH h4
      replace h5 := hidH h5
      replace h6 := hidH h6
      replace h7 := hidH h7
      replace h9 := hidH h9
      replace h10 := hidH h10
      replace h11 := hidH h11
      replace h12 := hidH h12
      replace h13 := hidH h13
      have hM := hM0.below hW
      go_wp2_with fail
      refine (B3 _ hM).mono ?_
      rintro e w1 ⟨m, rfl, hm, hb⟩
      go_wp2
      exact (HJ.out _ _ _).2 ⟨_, _, _, _, _, _, _, _, _, _, _, _, _, rfl, ⟨hE.1, hE.2.1, hE.2.2.1, (fun _ => rfl)⟩, hE12, ⟨hE11.1, hE11.2.1, (fun _ => rfl)⟩, ⟨hE10.1, (fun _ => rfl)⟩, (fun _ => rfl), hM0, btr hW hb, h0.out, h1.out, h2.out, h3.out, h4.out, h5.out, h6.out, fun _ => rfl, fun _ => ⟨m, rfl, hm⟩, h9.out, fun h h2 => by obtain ⟨A1, c1, i, m, q1, q2, q3⟩ := h10.out h h2; exact ⟨A1, c1, i, m, q1, ⟨bs_below q2.1 hb, q2.2⟩, q3⟩, h11.out, fun h h2 => by obtain ⟨q8, q1, q2, q3⟩ := h12.out h h2; exact ⟨q8, q1, q2.below hb, q3⟩, (fun h => by have h3 : dn 8 = true := hE.2.2.2 h; rw [hdn] at h3; cases h3)⟩
    | 9, _ =>
      obtain ⟨ty, ps, af, ho⟩ := op_lit hops (i := 9) (op := Op.binOp BinOp.add 2 ((Operand.const (Value.int .i64 1))) (Operand.tmp 65) 2) (dst := some 66) (g := none) rfl
      have hd8 := hidH (hdep 8 (by simp))
      obtain ⟨m, rfl, hm⟩ := h8 (hdep 8 (by simp))
      refine wpOp_lit ho (fun j b h => by cases h) ?_
      clear hops hdep ho
      replace h0 := hidH h0
      replace h1 := hidH h1
      replace h2 := hidH h2
      replace h3 := hidH h3
      replace h4 := hidH h4
      replace h5 := hidH h5
      replace h6 := hidH h6
      replace h7 := hidH h7
      replace h8 := hidH h8
      replace h10 := hidH h10
      replace h11 := hidH h11
      replace h12 := hidH h12
      replace h13 := hidH h13
      have hb := Below.refl W.heap.size W
      go_wp2
      exact (HJ.out _ _ _).2 ⟨_, _, _, _, _, _, _, _, _, _, _, _, _, rfl, hE, hE12, hE11, hE10, (fun _ => hd8.out), hM0, btr hW hb, h0.out, h1.out, h2.out, h3.out, h4.out, h5.out, h6.out, h7.out, fun _ => ⟨m, rfl, hm⟩, fun _ => ⟨m, rfl, hm⟩, fun h h2 => by obtain ⟨A1, c1, i, m, q1, q2, q3⟩ := h10.out h h2; exact ⟨A1, c1, i, m, q1, ⟨bs_below q2.1 hb, q2.2⟩, q3⟩, h11.out, fun h h2 => by obtain ⟨q8, q1, q2, q3⟩ := h12.out h h2; exact ⟨q8, q1, q2.below hb, q3⟩, h13.out⟩
    | 10, _ =>
      obtain ⟨ty, ps, af, ho⟩ := op_lit hops (i := 10) (op := Op.call { callee := Callee.value (Operand.func 14), args := #[(Operand.tmp 58), (Operand.tmp 63), (Operand.tmp 66)], argTypes := #[22, 2, 2] }) (dst := some 67) (g := none) rfl
      have hd6 := hidH (hdep 6 (by simp))
      have hd8 := hidH (hE9 (hdep 9 (by simp)))
      obtain rfl := h1 (hdep 1 (by simp))
      obtain ⟨i, rfl, hi⟩ := h6 (hdep 6 (by simp))
      obtain ⟨m, rfl, hm⟩ := h9 (hdep 9 (by simp))
      refine wpOp_lit ho (fun j b h => by cases h) ?_
      clear hops hdep ho
      replace h0 := hidH h0
      replace h1 := hidH h1
      replace h2 := hidH h2
      replace h3 := hidH h3
      replace h4 := hidH h4
      replace h5 := hidH h5
      replace h6 := hidH h6
      replace h7 := hidH h7
      replace h8 := hidH h8
      replace h9 := hidH h9
      replace h11 := hidH h11
      replace h12 := hidH h12
      replace h13 := hidH h13
      have hM := hM0.below hW
      go_wp2_with fail
      refine (B4 _ hM i m hi hm).mono ?_
      rintro e w1 ⟨A1, c1, rfl, hT, hb⟩
      go_wp2
      exact (HJ.out _ _ _).2 ⟨_, _, _, _, _, _, _, _, _, _, _, _, _, rfl, ⟨hE.1, (fun _ => rfl), hE.2.2⟩, hE12, ⟨(fun _ => rfl), hE11.2⟩, ⟨(fun _ => hd6.out), (fun _ => hd8.out)⟩, hE9, hM0, btr hW hb, h0.out, fun _ => rfl, h2.out, h3.out, h4.out, h5.out, fun _ => ⟨i, rfl, hi⟩, h7.out, h8.out, fun _ => ⟨m, rfl, hm⟩, fun _ => fun _ => ⟨A1, c1, i, m, rfl, hT, hi, hm⟩, h11.out, fun h h2 => by obtain ⟨q8, q1, q2, q3⟩ := h12.out h h2; exact ⟨q8, q1, q2.below hb, q3⟩, (fun h => by have h3 : dn 10 = true := hE.2.1 h; rw [hdn] at h3; cases h3)⟩
    | 11, _ =>
      obtain ⟨ty, ps, af, ho⟩ := op_lit hops (i := 11) (op := Op.call { callee := Callee.value (Operand.func 9), args := #[(Operand.tmp 67)], argTypes := #[22] }) (dst := some 68) (g := none) rfl
      obtain ⟨A1, c1, i, m, rfl, hT, hi, hm⟩ := h10 (hdep 10 (by simp)) hdn
      have hd10 := hidH (hdep 10 (by simp))
      have hd6 := hidH (hE10.1 (hdep 10 (by simp)))
      have hd8 := hidH (hE10.2 (hdep 10 (by simp)))
      refine wpOp_lit ho (fun j b h => by cases h) ?_
      clear hops hdep ho
      replace h0 := hidH h0
      replace h1 := hidH h1
      replace h2 := hidH h2
      replace h3 := hidH h3
      replace h4 := hidH h4
      replace h5 := hidH h5
      replace h6 := hidH h6
      replace h7 := hidH h7
      replace h8 := hidH h8
      replace h9 := hidH h9
      replace h10 := hidH h10
      replace h12 := hidH h12
      replace h13 := hidH h13
      have hM := hM0.below hW
      go_wp2_with fail
      refine (B5 _ i m _ _ hM hi hm hT).mono ?_
      rintro e w1 ⟨T1, P1, n1, c1, rfl, hb⟩
      go_wp2
      exact (HJ.out _ _ _).2 ⟨_, _, _, _, _, _, _, _, _, _, _, _, _, rfl, ⟨(fun _ => rfl), hE.2⟩, hE12, ⟨(fun _ => hd10.out), (fun _ => hd6.out), (fun _ => hd8.out)⟩, hE10, hE9, hM0, btr hW hb, h0.out, h1.out, h2.out, h3.out, h4.out, h5.out, h6.out, h7.out, h8.out, h9.out, (fun _ h2 => by simp at h2), fun _ => ⟨T1, P1, n1, c1, rfl⟩, fun h h2 => by obtain ⟨q8, q1, q2, q3⟩ := h12.out h h2; exact ⟨q8, q1, q2.below hb, q3⟩, (fun h => by have h3 : dn 11 = true := hE.1 h; rw [hdn] at h3; cases h3)⟩
    | 12, _ =>
      obtain ⟨ty, ps, af, ho⟩ := op_lit hops (i := 12) (op := Op.alloc 33) (dst := some 8) (g := none) rfl
      refine wpOp_lit ho (fun j b h => by cases h) ?_
      clear hops hdep ho
      replace h0 := hidH h0
      replace h1 := hidH h1
      replace h2 := hidH h2
      replace h3 := hidH h3
      replace h4 := hidH h4
      replace h5 := hidH h5
      replace h6 := hidH h6
      replace h7 := hidH h7
      replace h8 := hidH h8
      replace h9 := hidH h9
      replace h10 := hidH h10
      replace h11 := hidH h11
      replace h13 := hidH h13
      have hb := bal (Below.refl W.heap.size W) (.cells #[.int .i64 0, .int .i64 0, .slice none 0 0] 33)
      have S12 := hidH (And.intro (Blk.new W 33 #[.int .i64 0, .int .i64 0, .slice none 0 0]) hW.size)
      go_wp2
      exact (HJ.out _ _ _).2 ⟨_, _, _, _, _, _, _, _, _, _, _, _, _, rfl, hE, (fun _ => rfl), hE11, hE10, hE9, hM0, btr hW hb, h0.out, h1.out, h2.out, h3.out, h4.out, h5.out, h6.out, h7.out, h8.out, h9.out, fun h h2 => by obtain ⟨A1, c1, i, m, q1, q2, q3⟩ := h10.out h h2; exact ⟨A1, c1, i, m, q1, ⟨bs_below q2.1 hb, q2.2⟩, q3⟩, h11.out, fun _ => fun _ => ⟨_, rfl, S12.out⟩, (fun h => by have h3 : dn 12 = true := hE12 h; rw [hdn] at h3; cases h3)⟩
    | 13, _ =>
      obtain ⟨ty, ps, af, ho⟩ := op_lit hops (i := 13) (op := Op.store 33 (Operand.tmp 8) (Operand.tmp 68)) (dst := none) (g := none) rfl
      have hd12 := hidH (hdep 12 (by simp))
      have hd11 := hidH (hdep 11 (by simp))
      have hd10 := hidH (hE11.1 (hdep 11 (by simp)))
      have hd6 := hidH (hE11.2.1 (hdep 11 (by simp)))
      have hd8 := hidH (hE11.2.2 (hdep 11 (by simp)))
      obtain ⟨q8, rfl, kq, hq8⟩ := h12 (hdep 12 (by simp)) hdn
      obtain ⟨T1, P1, n1, c1, rfl⟩ := h11 (hdep 11 (by simp))
      refine wpOp_lit ho (fun j b h => by cases h) ?_
      clear hops hdep ho
      replace h0 := hidH h0
      replace h1 := hidH h1
      replace h2 := hidH h2
      replace h3 := hidH h3
      replace h4 := hidH h4
      replace h5 := hidH h5
      replace h6 := hidH h6
      replace h7 := hidH h7
      replace h8 := hidH h8
      replace h9 := hidH h9
      replace h10 := hidH h10
      replace h11 := hidH h11
      replace h12 := hidH h12
      obtain ⟨x0, x1, x2, xz⟩ := kq.three
      have f0 := kq.frozen 0
      have f1 := kq.frozen 1
      have f2 := kq.frozen 2
      have KS := hidH (blk3_put kq (.int .i64 9) (.int .i64 T1) (.slice P1 n1 c1))
      clear kq
      go_wp2
      exact (HJ.out _ _ _).2 ⟨_, _, _, _, _, _, _, _, _, _, _, _, _, rfl, ⟨(fun _ => hd11.out), (fun _ => hd10.out), (fun _ => hd6.out), (fun _ => hd8.out)⟩, (fun _ => hd12.out), hE11, hE10, hE9, hM0, bst (bst (bst hW hq8 _) hq8 _) hq8 _, h0.out, h1.out, h2.out, h3.out, h4.out, h5.out, h6.out, h7.out, h8.out, h9.out, (fun _ h2 => by have h3 : dn 11 = false := h2; rw [hd11.out] at h3; cases h3), fun _ => ⟨T1, P1, n1, c1, rfl⟩, (fun _ h2 => by simp at h2), fun _ => ⟨q8, T1, P1, n1, c1, rfl, KS.out⟩⟩
    | n + 14, h => omega
  case fin =>
    clear hops hdeps hback
    rintro dn ac W hJ hall
    obtain ⟨t57, t58, t59, t60, t61, t62, t63, t64, t65, t66, t67, t68, t8, rfl, hE, hE12, hE11, hE10, hE9, hM0, hW, h0, h1, h2, h3, h4, h5, h6, h7, h8, h9, h10, h11, h12, h13⟩ := (HJ.out _ _ _).1 hJ
    exact fin _ _ _ _ _ _ _ _ _ _ _ _ _ W hW (h13 (hall 13 (by omega)))
end Go.Proofs.YtepcikghhnfacaaDoor
