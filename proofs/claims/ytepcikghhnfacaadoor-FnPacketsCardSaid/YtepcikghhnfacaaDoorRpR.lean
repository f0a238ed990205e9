/- The region of the model's ReadPacket that draws its order. -/
import Derived.Test.YtepcikghhnfacaaDoorRdS
import Derived.Test.YtepcikghhnfacaaDoorJa2
namespace Go.Proofs.YtepcikghhnfacaaDoor
open Go.RowKit Go.Deep
set_option maxRecDepth 100000 in
set_option maxHeartbeats 1000000 in
theorem regRpA {Q : Exit → Act → World → Prop} (x1 x2 x3 x4 x6 x7 x8 x9 x10 x11 x12 x13 x14 x15 x16 x17 x18 x19 x20 x21 x22 x23 x24 x25 x26 x27 x28 x29 x30 x31 : Value) (ws : World) (h : Nat) (tag : Int) (P : Option Addr) (cs : List Chk) (c : Nat) (A0 : Option Addr) (D : List Int) (c0 : Nat) (F : Int) (hF : (F != 0) = true)
    (PF : ∀ u : World, Cs u P cs → Calls Tryd.prog 10 #[.agg #[.int .i64 tag, .slice P cs.length c]] u fun e w' => e = .returned (.int .i64 F) ∧ Below u.heap.size u w') {ops : Array Oper}
    (hops : (ops.map fun o => (o.op, o.dst, o.guard)) = #[(Op.load 26 (Operand.tmp 5), some 32, none), (Op.call { callee := Callee.value (Operand.func 10), args := #[(Operand.tmp 32)], argTypes := #[26] }, some 33, none), (Op.binOp BinOp.neq 2 (Operand.tmp 33) ((Operand.const (Value.int .i64 0))) 2, some 34, none), (Op.move (Operand.tmp 34), some 35, none), (Op.call { callee := Callee.value (Operand.func 31), args := #[(Operand.tmp 5)], argTypes := #[53] }, some 36, some (3, false)), (Op.convert 22 9 (Operand.tmp 36), some 37, some (3, false)), (Op.move (Operand.tmp 0), some 38, some (3, false)), (Op.convert 22 9 (Operand.tmp 38), some 39, some (3, false)), (Op.binOp BinOp.neq 9 (Operand.tmp 37) (Operand.tmp 39) 9, some 40, some (3, false)), (Op.pick (Operand.tmp 35) (Operand.const (Value.bool true)) (Operand.tmp 40), some 41, none)])
    (hdeps : ((List.range 10).all fun i => ((fun i => [[], [0], [1], [2], [3], [3, 4], [3], [3, 6], [3, 5, 7], [3, 8]].getD i []) i).all fun j => ((ops[i]?).map fun o => o.after.any fun e => Region.binds .any e && e.on == j).getD false) = true)
    (hback : ((List.range 10).all fun i => ((ops[i]?).map fun o => o.after.all fun e => decide (e.on < i)).getD false) = true)
    {a0 : Act} {w0 : World} (ha : a0 = { tmps := #[.slice A0 D.length c0, x1, x2, x3, x4, .pointer (some ⟨h, 0, none⟩), x6, x7, x8, x9, x10, x11, x12, x13, x14, x15, x16, x17, x18, x19, x20, x21, x22, x23, x24, x25, x26, x27, x28, x29, x30, x31, undef, undef, undef, undef, undef, undef, undef, undef, undef, undef, undef, undef, undef], defers := [] }) (hM : PkB w0 h 0 tag P cs c) (hD : Bs w0 A0 D) (hO : Below ws.heap.size ws w0)
    (fin : ∀ t32 t33 t34 t35 t36 t37 t38 t39 t40 (W : World), (PkB W h 0 tag P cs c) → (Bs W A0 D) → (Below ws.heap.size ws W) → Q .normal { tmps := #[.slice A0 D.length c0, x1, x2, x3, x4, .pointer (some ⟨h, 0, none⟩), x6, x7, x8, x9, x10, x11, x12, x13, x14, x15, x16, x17, x18, x19, x20, x21, x22, x23, x24, x25, x26, x27, x28, x29, x30, x31, t32, t33, t34, t35, t36, t37, t38, t39, t40, .bool true, undef, undef, undef], defers := [] } W) :
    wpAny Tryd.prog .any ops Q ops.size (Array.replicate ops.size false) a0 w0 := by
  have hn : ops.size = 10 := by have := congrArg Array.size hops; simpa using this
  obtain ⟨J, HJ⟩ : ∃ J : (Nat → Bool) → Act → World → Prop, ∀ dn ac W, J dn ac W ↔ (fun dn ac W => ∃ t32 t33 t34 t35 t36 t37 t38 t39 t40 t41, ac = { tmps := #[.slice A0 D.length c0, x1, x2, x3, x4, .pointer (some ⟨h, 0, none⟩), x6, x7, x8, x9, x10, x11, x12, x13, x14, x15, x16, x17, x18, x19, x20, x21, x22, x23, x24, x25, x26, x27, x28, x29, x30, x31, t32, t33, t34, t35, t36, t37, t38, t39, t40, t41, undef, undef, undef], defers := [] } ∧ (PkB W h 0 tag P cs c) ∧ (Bs W A0 D) ∧ (Below ws.heap.size ws W) ∧ (dn 0 = true → t32 = .agg #[.int .i64 tag, .slice P cs.length c]) ∧ (dn 1 = true → t33 = .int .i64 F) ∧ (dn 2 = true → t34 = .bool true) ∧ (dn 3 = true → t35 = .bool true) ∧ (dn 4 = true → t36 = undef) ∧ (dn 5 = true → t37 = undef) ∧ (dn 6 = true → t38 = undef) ∧ (dn 7 = true → t39 = undef) ∧ (dn 8 = true → t40 = undef) ∧ (dn 9 = true → t41 = .bool true)) dn ac W := ⟨_, fun _ _ _ => Iff.rfl⟩
  replace HJ := hidH HJ
  refine region_inv 10 (fun i => [[], [0], [1], [2], [3], [3, 4], [3], [3, 6], [3, 5, 7], [3, 8]].getD i []) J hn hdeps hback ?start ?step ?fin
  case start => exact (HJ.out _ _ _).2 ⟨undef, undef, undef, undef, undef, undef, undef, undef, undef, undef, ha, hM, hD, hO, fun h => by simp at h, fun h => by simp at h, fun h => by simp at h, fun h => by simp at h, fun h => by simp at h, fun h => by simp at h, fun h => by simp at h, fun h => by simp at h, fun h => by simp at h, fun h => by simp at h⟩
  all_goals clear ha hM hD hO
  case step =>
    clear fin hdeps hback
    intro i hi dn ac W hJ hdn hdep
    obtain ⟨t32, t33, t34, t35, t36, t37, t38, t39, t40, t41, rfl, hM, hD, hO, h0, h1, h2, h3, h4, h5, h6, h7, h8, h9⟩ := (HJ.out _ _ _).1 hJ
    clear hJ
    match i, hi with
    | 0, _ =>
      obtain ⟨ty, ps, af, ho⟩ := op_lit hops (i := 0) (op := Op.load 26 (Operand.tmp 5)) (dst := some 32) (g := none) rfl
      refine wpOp_lit ho (fun j b h => by cases h) ?_
      clear hops hdep ho
      replace h1 := hidH h1
      replace h2 := hidH h2
      replace h3 := hidH h3
      replace h4 := hidH h4
      replace h5 := hidH h5
      replace h6 := hidH h6
      replace h7 := hidH h7
      replace h8 := hidH h8
      replace h9 := hidH h9
      have q0 := hM.c0
      have q1 := hM.c1
      have hlt := hM.lt
      go_wp2
      exact (HJ.out _ _ _).2 ⟨_, _, _, _, _, _, _, _, _, _, rfl, hM, hD, hO, fun _ => rfl, h1.out, h2.out, h3.out, h4.out, h5.out, h6.out, h7.out, h8.out, h9.out⟩
    | 1, _ =>
      obtain ⟨ty, ps, af, ho⟩ := op_lit hops (i := 1) (op := Op.call { callee := Callee.value (Operand.func 10), args := #[(Operand.tmp 32)], argTypes := #[26] }) (dst := some 33) (g := none) rfl
      obtain rfl := h0 (hdep 0 (by simp))
      refine wpOp_lit ho (fun j b h => by cases h) ?_
      clear hops hdep ho
      replace h0 := hidH h0
      replace h2 := hidH h2
      replace h3 := hidH h3
      replace h4 := hidH h4
      replace h5 := hidH h5
      replace h6 := hidH h6
      replace h7 := hidH h7
      replace h8 := hidH h8
      replace h9 := hidH h9
      go_wp2_with fail
      refine (PF _ hM.list).mono ?_
      rintro e w1 ⟨rfl, hb⟩
      go_wp2
      exact (HJ.out _ _ _).2 ⟨_, _, _, _, _, _, _, _, _, _, rfl, hM.below hb, bs_below hD hb, btr hO hb, fun _ => rfl, fun _ => rfl, h2.out, h3.out, h4.out, h5.out, h6.out, h7.out, h8.out, h9.out⟩
    | 2, _ =>
      obtain ⟨ty, ps, af, ho⟩ := op_lit hops (i := 2) (op := Op.binOp BinOp.neq 2 (Operand.tmp 33) ((Operand.const (Value.int .i64 0))) 2) (dst := some 34) (g := none) rfl
      obtain rfl := h1 (hdep 1 (by simp))
      refine wpOp_lit ho (fun j b h => by cases h) ?_
      clear hops hdep ho
      replace h0 := hidH h0
      replace h1 := hidH h1
      replace h3 := hidH h3
      replace h4 := hidH h4
      replace h5 := hidH h5
      replace h6 := hidH h6
      replace h7 := hidH h7
      replace h8 := hidH h8
      replace h9 := hidH h9
      go_wp2
      exact (HJ.out _ _ _).2 ⟨_, _, _, _, _, _, _, _, _, _, rfl, hM, hD, hO, h0.out, fun _ => rfl, fun _ => rfl, h3.out, h4.out, h5.out, h6.out, h7.out, h8.out, h9.out⟩
    | 3, _ =>
      obtain ⟨ty, ps, af, ho⟩ := op_lit hops (i := 3) (op := Op.move (Operand.tmp 34)) (dst := some 35) (g := none) rfl
      obtain rfl := h2 (hdep 2 (by simp))
      refine wpOp_lit ho (fun j b h => by cases h) ?_
      clear hops hdep ho
      replace h0 := hidH h0
      replace h1 := hidH h1
      replace h2 := hidH h2
      replace h4 := hidH h4
      replace h5 := hidH h5
      replace h6 := hidH h6
      replace h7 := hidH h7
      replace h8 := hidH h8
      replace h9 := hidH h9
      go_wp2
      exact (HJ.out _ _ _).2 ⟨_, _, _, _, _, _, _, _, _, _, rfl, hM, hD, hO, h0.out, h1.out, fun _ => rfl, fun _ => rfl, h4.out, h5.out, h6.out, h7.out, h8.out, h9.out⟩
    | 4, _ =>
      obtain ⟨ty, ps, af, ho⟩ := op_lit hops (i := 4) (op := Op.call { callee := Callee.value (Operand.func 31), args := #[(Operand.tmp 5)], argTypes := #[53] }) (dst := some 36) (g := some (3, false)) rfl
      obtain rfl := h3 (hdep 3 (by simp))
      have hy := fun tmps ht => yielded_lit hops (i := 3) (op := Op.move (Operand.tmp 34)) (t := 35) (g := none) rfl tmps true ht
      refine wpOp_off ho (hy _ rfl) (by decide) ?_
      clear hops hdep
      replace h0 := hidH h0
      replace h1 := hidH h1
      replace h2 := hidH h2
      replace h3 := hidH h3
      replace h5 := hidH h5
      replace h6 := hidH h6
      replace h7 := hidH h7
      replace h8 := hidH h8
      replace h9 := hidH h9
      exact (HJ.out _ _ _).2 ⟨_, _, _, _, _, _, _, _, _, _, rfl, hM, hD, hO, h0.out, h1.out, h2.out, fun _ => rfl, fun _ => rfl, h5.out, h6.out, h7.out, h8.out, h9.out⟩
    | 5, _ =>
      obtain ⟨ty, ps, af, ho⟩ := op_lit hops (i := 5) (op := Op.convert 22 9 (Operand.tmp 36)) (dst := some 37) (g := some (3, false)) rfl
      obtain rfl := h3 (hdep 3 (by simp))
      have hy := fun tmps ht => yielded_lit hops (i := 3) (op := Op.move (Operand.tmp 34)) (t := 35) (g := none) rfl tmps true ht
      refine wpOp_off ho (hy _ rfl) (by decide) ?_
      clear hops hdep
      replace h0 := hidH h0
      replace h1 := hidH h1
      replace h2 := hidH h2
      replace h3 := hidH h3
      replace h4 := hidH h4
      replace h6 := hidH h6
      replace h7 := hidH h7
      replace h8 := hidH h8
      replace h9 := hidH h9
      exact (HJ.out _ _ _).2 ⟨_, _, _, _, _, _, _, _, _, _, rfl, hM, hD, hO, h0.out, h1.out, h2.out, fun _ => rfl, h4.out, fun _ => rfl, h6.out, h7.out, h8.out, h9.out⟩
    | 6, _ =>
      obtain ⟨ty, ps, af, ho⟩ := op_lit hops (i := 6) (op := Op.move (Operand.tmp 0)) (dst := some 38) (g := some (3, false)) rfl
      obtain rfl := h3 (hdep 3 (by simp))
      have hy := fun tmps ht => yielded_lit hops (i := 3) (op := Op.move (Operand.tmp 34)) (t := 35) (g := none) rfl tmps true ht
      refine wpOp_off ho (hy _ rfl) (by decide) ?_
      clear hops hdep
      replace h0 := hidH h0
      replace h1 := hidH h1
      replace h2 := hidH h2
      replace h3 := hidH h3
      replace h4 := hidH h4
      replace h5 := hidH h5
      replace h7 := hidH h7
      replace h8 := hidH h8
      replace h9 := hidH h9
      exact (HJ.out _ _ _).2 ⟨_, _, _, _, _, _, _, _, _, _, rfl, hM, hD, hO, h0.out, h1.out, h2.out, fun _ => rfl, h4.out, h5.out, fun _ => rfl, h7.out, h8.out, h9.out⟩
    | 7, _ =>
      obtain ⟨ty, ps, af, ho⟩ := op_lit hops (i := 7) (op := Op.convert 22 9 (Operand.tmp 38)) (dst := some 39) (g := some (3, false)) rfl
      obtain rfl := h3 (hdep 3 (by simp))
      have hy := fun tmps ht => yielded_lit hops (i := 3) (op := Op.move (Operand.tmp 34)) (t := 35) (g := none) rfl tmps true ht
      refine wpOp_off ho (hy _ rfl) (by decide) ?_
      clear hops hdep
      replace h0 := hidH h0
      replace h1 := hidH h1
      replace h2 := hidH h2
      replace h3 := hidH h3
      replace h4 := hidH h4
      replace h5 := hidH h5
      replace h6 := hidH h6
      replace h8 := hidH h8
      replace h9 := hidH h9
      exact (HJ.out _ _ _).2 ⟨_, _, _, _, _, _, _, _, _, _, rfl, hM, hD, hO, h0.out, h1.out, h2.out, fun _ => rfl, h4.out, h5.out, h6.out, fun _ => rfl, h8.out, h9.out⟩
    | 8, _ =>
      obtain ⟨ty, ps, af, ho⟩ := op_lit hops (i := 8) (op := Op.binOp BinOp.neq 9 (Operand.tmp 37) (Operand.tmp 39) 9) (dst := some 40) (g := some (3, false)) rfl
      obtain rfl := h3 (hdep 3 (by simp))
      have hy := fun tmps ht => yielded_lit hops (i := 3) (op := Op.move (Operand.tmp 34)) (t := 35) (g := none) rfl tmps true ht
      refine wpOp_off ho (hy _ rfl) (by decide) ?_
      clear hops hdep
      replace h0 := hidH h0
      replace h1 := hidH h1
      replace h2 := hidH h2
      replace h3 := hidH h3
      replace h4 := hidH h4
      replace h5 := hidH h5
      replace h6 := hidH h6
      replace h7 := hidH h7
      replace h9 := hidH h9
      exact (HJ.out _ _ _).2 ⟨_, _, _, _, _, _, _, _, _, _, rfl, hM, hD, hO, h0.out, h1.out, h2.out, fun _ => rfl, h4.out, h5.out, h6.out, h7.out, fun _ => rfl, h9.out⟩
    | 9, _ =>
      obtain ⟨ty, ps, af, ho⟩ := op_lit hops (i := 9) (op := Op.pick (Operand.tmp 35) (Operand.const (Value.bool true)) (Operand.tmp 40)) (dst := some 41) (g := none) rfl
      obtain rfl := h3 (hdep 3 (by simp))
      obtain rfl := h8 (hdep 8 (by simp))
      refine wpOp_lit ho (fun j b h => by cases h) ?_
      clear hops hdep ho
      replace h0 := hidH h0
      replace h1 := hidH h1
      replace h2 := hidH h2
      replace h3 := hidH h3
      replace h4 := hidH h4
      replace h5 := hidH h5
      replace h6 := hidH h6
      replace h7 := hidH h7
      replace h8 := hidH h8
      go_wp2
      exact (HJ.out _ _ _).2 ⟨_, _, _, _, _, _, _, _, _, _, rfl, hM, hD, hO, h0.out, h1.out, h2.out, fun _ => rfl, h4.out, h5.out, h6.out, h7.out, fun _ => rfl, fun _ => rfl⟩
    | n + 10, h => omega
  case fin =>
    clear hops hdeps hback
    rintro dn ac W hJ hall
    obtain ⟨t32, t33, t34, t35, t36, t37, t38, t39, t40, t41, rfl, hM, hD, hO, h0, h1, h2, h3, h4, h5, h6, h7, h8, h9⟩ := (HJ.out _ _ _).1 hJ
    obtain rfl := h9 (hall 9 (by omega))
    exact fin _ _ _ _ _ _ _ _ _ W hM hD hO
set_option maxRecDepth 100000 in
set_option maxHeartbeats 1000000 in
theorem regRpB {Q : Exit → Act → World → Prop} (x1 x2 x3 x4 x6 x7 x8 x9 x10 x11 x12 x13 x14 x15 x16 x17 x18 x19 x20 x21 x22 x23 x24 x25 x26 x27 x28 x29 x30 x31 : Value) (ws : World) (h : Nat) (tag : Int) (P : Option Addr) (cs : List Chk) (c : Nat) (A0 : Option Addr) (D : List Int) (c0 : Nat) (L : List Int) (r : Bool) (HR : Hid (((strOfNums L).toList == (strOfNums D).toList) = r))
    (PF : ∀ u : World, Cs u P cs → Calls Tryd.prog 10 #[.agg #[.int .i64 tag, .slice P cs.length c]] u fun e w' => e = .returned (.int .i64 0) ∧ Below u.heap.size u w')
    (LP : ∀ u : World, PkB u h 0 tag P cs c → Calls Tryd.prog 31 #[.pointer (some ⟨h, 0, none⟩)] u (OwnB u L)) {ops : Array Oper}
    (hops : (ops.map fun o => (o.op, o.dst, o.guard)) = #[(Op.load 26 (Operand.tmp 5), some 32, none), (Op.call { callee := Callee.value (Operand.func 10), args := #[(Operand.tmp 32)], argTypes := #[26] }, some 33, none), (Op.binOp BinOp.neq 2 (Operand.tmp 33) ((Operand.const (Value.int .i64 0))) 2, some 34, none), (Op.move (Operand.tmp 34), some 35, none), (Op.call { callee := Callee.value (Operand.func 31), args := #[(Operand.tmp 5)], argTypes := #[53] }, some 36, some (3, false)), (Op.convert 22 9 (Operand.tmp 36), some 37, some (3, false)), (Op.move (Operand.tmp 0), some 38, some (3, false)), (Op.convert 22 9 (Operand.tmp 38), some 39, some (3, false)), (Op.binOp BinOp.neq 9 (Operand.tmp 37) (Operand.tmp 39) 9, some 40, some (3, false)), (Op.pick (Operand.tmp 35) (Operand.const (Value.bool true)) (Operand.tmp 40), some 41, none)])
    (hdeps : ((List.range 10).all fun i => ((fun i => [[], [0], [1], [2], [3], [3, 4], [3], [3, 6], [3, 5, 7], [3, 8]].getD i []) i).all fun j => ((ops[i]?).map fun o => o.after.any fun e => Region.binds .any e && e.on == j).getD false) = true)
    (hback : ((List.range 10).all fun i => ((ops[i]?).map fun o => o.after.all fun e => decide (e.on < i)).getD false) = true)
    {a0 : Act} {w0 : World} (ha : a0 = { tmps := #[.slice A0 D.length c0, x1, x2, x3, x4, .pointer (some ⟨h, 0, none⟩), x6, x7, x8, x9, x10, x11, x12, x13, x14, x15, x16, x17, x18, x19, x20, x21, x22, x23, x24, x25, x26, x27, x28, x29, x30, x31, undef, undef, undef, undef, undef, undef, undef, undef, undef, undef, undef, undef, undef], defers := [] }) (hM : PkB w0 h 0 tag P cs c) (hD : Bs w0 A0 D) (hO : Below ws.heap.size ws w0)
    (fin : ∀ t32 t33 t34 t35 t36 t37 t38 t39 t40 (W : World), (PkB W h 0 tag P cs c) → (Bs W A0 D) → (Below ws.heap.size ws W) → Q .normal { tmps := #[.slice A0 D.length c0, x1, x2, x3, x4, .pointer (some ⟨h, 0, none⟩), x6, x7, x8, x9, x10, x11, x12, x13, x14, x15, x16, x17, x18, x19, x20, x21, x22, x23, x24, x25, x26, x27, x28, x29, x30, x31, t32, t33, t34, t35, t36, t37, t38, t39, t40, .bool (!r), undef, undef, undef], defers := [] } W) :
    wpAny Tryd.prog .any ops Q ops.size (Array.replicate ops.size false) a0 w0 := by
  have hn : ops.size = 10 := by have := congrArg Array.size hops; simpa using this
  obtain ⟨J, HJ⟩ : ∃ J : (Nat → Bool) → Act → World → Prop, ∀ dn ac W, J dn ac W ↔ (fun dn ac W => ∃ t32 t33 t34 t35 t36 t37 t38 t39 t40 t41, ac = { tmps := #[.slice A0 D.length c0, x1, x2, x3, x4, .pointer (some ⟨h, 0, none⟩), x6, x7, x8, x9, x10, x11, x12, x13, x14, x15, x16, x17, x18, x19, x20, x21, x22, x23, x24, x25, x26, x27, x28, x29, x30, x31, t32, t33, t34, t35, t36, t37, t38, t39, t40, t41, undef, undef, undef], defers := [] } ∧ (PkB W h 0 tag P cs c) ∧ (Bs W A0 D) ∧ (Below ws.heap.size ws W) ∧ (dn 0 = true → t32 = .agg #[.int .i64 tag, .slice P cs.length c]) ∧ (dn 1 = true → t33 = .int .i64 0) ∧ (dn 2 = true → t34 = .bool false) ∧ (dn 3 = true → t35 = .bool false) ∧ (dn 4 = true → ∃ (A1 : Option Addr) (c1 : Nat), t36 = .slice A1 L.length c1 ∧ Bs W A1 L) ∧ (dn 5 = true → t37 = .string (strOfNums L)) ∧ (dn 6 = true → t38 = .slice A0 D.length c0) ∧ (dn 7 = true → t39 = .string (strOfNums D)) ∧ (dn 8 = true → t40 = .bool (!r)) ∧ (dn 9 = true → t41 = .bool (!r))) dn ac W := ⟨_, fun _ _ _ => Iff.rfl⟩
  replace HJ := hidH HJ
  refine region_inv 10 (fun i => [[], [0], [1], [2], [3], [3, 4], [3], [3, 6], [3, 5, 7], [3, 8]].getD i []) J hn hdeps hback ?start ?step ?fin
  case start => exact (HJ.out _ _ _).2 ⟨undef, undef, undef, undef, undef, undef, undef, undef, undef, undef, ha, hM, hD, hO, fun h => by simp at h, fun h => by simp at h, fun h => by simp at h, fun h => by simp at h, fun h => by simp at h, fun h => by simp at h, fun h => by simp at h, fun h => by simp at h, fun h => by simp at h, fun h => by simp at h⟩
  all_goals clear ha hM hD hO
  case step =>
    clear fin hdeps hback
    intro i hi dn ac W hJ hdn hdep
    obtain ⟨t32, t33, t34, t35, t36, t37, t38, t39, t40, t41, rfl, hM, hD, hO, h0, h1, h2, h3, h4, h5, h6, h7, h8, h9⟩ := (HJ.out _ _ _).1 hJ
    clear hJ
    match i, hi with
    | 0, _ =>
      obtain ⟨ty, ps, af, ho⟩ := op_lit hops (i := 0) (op := Op.load 26 (Operand.tmp 5)) (dst := some 32) (g := none) rfl
      refine wpOp_lit ho (fun j b h => by cases h) ?_
      clear hops hdep ho
      replace h1 := hidH h1
      replace h2 := hidH h2
      replace h3 := hidH h3
      replace h4 := hidH h4
      replace h5 := hidH h5
      replace h6 := hidH h6
      replace h7 := hidH h7
      replace h8 := hidH h8
      replace h9 := hidH h9
      have q0 := hM.c0
      have q1 := hM.c1
      have hlt := hM.lt
      go_wp2
      exact (HJ.out _ _ _).2 ⟨_, _, _, _, _, _, _, _, _, _, rfl, hM, hD, hO, fun _ => rfl, h1.out, h2.out, h3.out, h4.out, h5.out, h6.out, h7.out, h8.out, h9.out⟩
    | 1, _ =>
      obtain ⟨ty, ps, af, ho⟩ := op_lit hops (i := 1) (op := Op.call { callee := Callee.value (Operand.func 10), args := #[(Operand.tmp 32)], argTypes := #[26] }) (dst := some 33) (g := none) rfl
      obtain rfl := h0 (hdep 0 (by simp))
      refine wpOp_lit ho (fun j b h => by cases h) ?_
      clear hops hdep ho
      replace h0 := hidH h0
      replace h2 := hidH h2
      replace h3 := hidH h3
      replace h4 := hidH h4
      replace h5 := hidH h5
      replace h6 := hidH h6
      replace h7 := hidH h7
      replace h8 := hidH h8
      replace h9 := hidH h9
      go_wp2_with fail
      refine (PF _ hM.list).mono ?_
      rintro e w1 ⟨rfl, hb⟩
      go_wp2
      exact (HJ.out _ _ _).2 ⟨_, _, _, _, _, _, _, _, _, _, rfl, hM.below hb, bs_below hD hb, btr hO hb, fun _ => rfl, fun _ => rfl, h2.out, h3.out, fun h => by obtain ⟨A1, c1, q1, q2⟩ := h4.out h; exact ⟨A1, c1, q1, bs_below q2 hb⟩, h5.out, h6.out, h7.out, h8.out, h9.out⟩
    | 2, _ =>
      obtain ⟨ty, ps, af, ho⟩ := op_lit hops (i := 2) (op := Op.binOp BinOp.neq 2 (Operand.tmp 33) ((Operand.const (Value.int .i64 0))) 2) (dst := some 34) (g := none) rfl
      obtain rfl := h1 (hdep 1 (by simp))
      refine wpOp_lit ho (fun j b h => by cases h) ?_
      clear hops hdep ho
      replace h0 := hidH h0
      replace h1 := hidH h1
      replace h3 := hidH h3
      replace h4 := hidH h4
      replace h5 := hidH h5
      replace h6 := hidH h6
      replace h7 := hidH h7
      replace h8 := hidH h8
      replace h9 := hidH h9
      go_wp2
      exact (HJ.out _ _ _).2 ⟨_, _, _, _, _, _, _, _, _, _, rfl, hM, hD, hO, h0.out, fun _ => rfl, fun _ => rfl, h3.out, h4.out, h5.out, h6.out, h7.out, h8.out, h9.out⟩
    | 3, _ =>
      obtain ⟨ty, ps, af, ho⟩ := op_lit hops (i := 3) (op := Op.move (Operand.tmp 34)) (dst := some 35) (g := none) rfl
      obtain rfl := h2 (hdep 2 (by simp))
      refine wpOp_lit ho (fun j b h => by cases h) ?_
      clear hops hdep ho
      replace h0 := hidH h0
      replace h1 := hidH h1
      replace h2 := hidH h2
      replace h4 := hidH h4
      replace h5 := hidH h5
      replace h6 := hidH h6
      replace h7 := hidH h7
      replace h8 := hidH h8
      replace h9 := hidH h9
      go_wp2
      exact (HJ.out _ _ _).2 ⟨_, _, _, _, _, _, _, _, _, _, rfl, hM, hD, hO, h0.out, h1.out, fun _ => rfl, fun _ => rfl, h4.out, h5.out, h6.out, h7.out, h8.out, h9.out⟩
    | 4, _ =>
      obtain ⟨ty, ps, af, ho⟩ := op_lit hops (i := 4) (op := Op.call { callee := Callee.value (Operand.func 31), args := #[(Operand.tmp 5)], argTypes := #[53] }) (dst := some 36) (g := some (3, false)) rfl
      obtain rfl := h3 (hdep 3 (by simp))
      have hy := fun tmps ht => yielded_lit hops (i := 3) (op := Op.move (Operand.tmp 34)) (t := 35) (g := none) rfl tmps false ht
      refine wpOp_lit ho (fun j b h => by cases h; exact hy _ rfl) ?_
      clear hops hdep ho hy
      replace h0 := hidH h0
      replace h1 := hidH h1
      replace h2 := hidH h2
      replace h3 := hidH h3
      replace h5 := hidH h5
      replace h6 := hidH h6
      replace h7 := hidH h7
      replace h8 := hidH h8
      replace h9 := hidH h9
      go_wp2_with fail
      refine (LP _ hM).mono ?_
      rintro e w1 ⟨v, rfl, ow, hb⟩
      obtain ⟨A1, c1, rfl, ob, _, _⟩ := own_ob ow
      have hA := ob.bs
      clear ow ob
      go_wp2
      exact (HJ.out _ _ _).2 ⟨_, _, _, _, _, _, _, _, _, _, rfl, hM.below hb, bs_below hD hb, btr hO hb, h0.out, h1.out, h2.out, fun _ => rfl, fun _ => ⟨A1, c1, rfl, hA⟩, h5.out, h6.out, h7.out, h8.out, h9.out⟩
    | 5, _ =>
      obtain ⟨ty, ps, af, ho⟩ := op_lit hops (i := 5) (op := Op.convert 22 9 (Operand.tmp 36)) (dst := some 37) (g := some (3, false)) rfl
      obtain rfl := h3 (hdep 3 (by simp))
      have hy := fun tmps ht => yielded_lit hops (i := 3) (op := Op.move (Operand.tmp 34)) (t := 35) (g := none) rfl tmps false ht
      obtain ⟨A1, c1, rfl, hA⟩ := h4 (hdep 4 (by simp))
      refine wpOp_lit ho (fun j b h => by cases h; exact hy _ rfl) ?_
      clear hops hdep ho hy
      replace h0 := hidH h0
      replace h1 := hidH h1
      replace h2 := hidH h2
      replace h3 := hidH h3
      replace h4 := hidH h4
      replace h6 := hidH h6
      replace h7 := hidH h7
      replace h8 := hidH h8
      replace h9 := hidH h9
      have hcv := conv_bs W A1 L c1 hA
      go_wp2
      exact (HJ.out _ _ _).2 ⟨_, _, _, _, _, _, _, _, _, _, rfl, hM, hD, hO, h0.out, h1.out, h2.out, fun _ => rfl, fun _ => ⟨A1, c1, rfl, hA⟩, fun _ => rfl, h6.out, h7.out, h8.out, h9.out⟩
    | 6, _ =>
      obtain ⟨ty, ps, af, ho⟩ := op_lit hops (i := 6) (op := Op.move (Operand.tmp 0)) (dst := some 38) (g := some (3, false)) rfl
      obtain rfl := h3 (hdep 3 (by simp))
      have hy := fun tmps ht => yielded_lit hops (i := 3) (op := Op.move (Operand.tmp 34)) (t := 35) (g := none) rfl tmps false ht
      refine wpOp_lit ho (fun j b h => by cases h; exact hy _ rfl) ?_
      clear hops hdep ho hy
      replace h0 := hidH h0
      replace h1 := hidH h1
      replace h2 := hidH h2
      replace h3 := hidH h3
      replace h4 := hidH h4
      replace h5 := hidH h5
      replace h7 := hidH h7
      replace h8 := hidH h8
      replace h9 := hidH h9
      go_wp2
      exact (HJ.out _ _ _).2 ⟨_, _, _, _, _, _, _, _, _, _, rfl, hM, hD, hO, h0.out, h1.out, h2.out, fun _ => rfl, h4.out, h5.out, fun _ => rfl, h7.out, h8.out, h9.out⟩
    | 7, _ =>
      obtain ⟨ty, ps, af, ho⟩ := op_lit hops (i := 7) (op := Op.convert 22 9 (Operand.tmp 38)) (dst := some 39) (g := some (3, false)) rfl
      obtain rfl := h3 (hdep 3 (by simp))
      have hy := fun tmps ht => yielded_lit hops (i := 3) (op := Op.move (Operand.tmp 34)) (t := 35) (g := none) rfl tmps false ht
      obtain rfl := h6 (hdep 6 (by simp))
      refine wpOp_lit ho (fun j b h => by cases h; exact hy _ rfl) ?_
      clear hops hdep ho hy
      replace h0 := hidH h0
      replace h1 := hidH h1
      replace h2 := hidH h2
      replace h3 := hidH h3
      replace h4 := hidH h4
      replace h5 := hidH h5
      replace h6 := hidH h6
      replace h8 := hidH h8
      replace h9 := hidH h9
      have hcv := conv_bs W A0 D c0 hD
      go_wp2
      exact (HJ.out _ _ _).2 ⟨_, _, _, _, _, _, _, _, _, _, rfl, hM, hD, hO, h0.out, h1.out, h2.out, fun _ => rfl, h4.out, h5.out, fun _ => rfl, fun _ => rfl, h8.out, h9.out⟩
    | 8, _ =>
      obtain ⟨ty, ps, af, ho⟩ := op_lit hops (i := 8) (op := Op.binOp BinOp.neq 9 (Operand.tmp 37) (Operand.tmp 39) 9) (dst := some 40) (g := some (3, false)) rfl
      obtain rfl := h3 (hdep 3 (by simp))
      have hy := fun tmps ht => yielded_lit hops (i := 3) (op := Op.move (Operand.tmp 34)) (t := 35) (g := none) rfl tmps false ht
      obtain rfl := h5 (hdep 5 (by simp))
      obtain rfl := h7 (hdep 7 (by simp))
      refine wpOp_lit ho (fun j b h => by cases h; exact hy _ rfl) ?_
      clear hops hdep ho hy
      replace h0 := hidH h0
      replace h1 := hidH h1
      replace h2 := hidH h2
      replace h3 := hidH h3
      replace h4 := hidH h4
      replace h5 := hidH h5
      replace h6 := hidH h6
      replace h7 := hidH h7
      replace h9 := hidH h9
      have hr := HR.out
      go_wp2
      exact (HJ.out _ _ _).2 ⟨_, _, _, _, _, _, _, _, _, _, rfl, hM, hD, hO, h0.out, h1.out, h2.out, fun _ => rfl, h4.out, fun _ => rfl, h6.out, fun _ => rfl, fun _ => rfl, h9.out⟩
    | 9, _ =>
      obtain ⟨ty, ps, af, ho⟩ := op_lit hops (i := 9) (op := Op.pick (Operand.tmp 35) (Operand.const (Value.bool true)) (Operand.tmp 40)) (dst := some 41) (g := none) rfl
      obtain rfl := h3 (hdep 3 (by simp))
      obtain rfl := h8 (hdep 8 (by simp))
      refine wpOp_lit ho (fun j b h => by cases h) ?_
      clear hops hdep ho
      replace h0 := hidH h0
      replace h1 := hidH h1
      replace h2 := hidH h2
      replace h3 := hidH h3
      replace h4 := hidH h4
      replace h5 := hidH h5
      replace h6 := hidH h6
      replace h7 := hidH h7
      replace h8 := hidH h8
      go_wp2
      exact (HJ.out _ _ _).2 ⟨_, _, _, _, _, _, _, _, _, _, rfl, hM, hD, hO, h0.out, h1.out, h2.out, fun _ => rfl, h4.out, h5.out, h6.out, h7.out, fun _ => rfl, fun _ => rfl⟩
    | n + 10, h => omega
  case fin =>
    clear hops hdeps hback
    rintro dn ac W hJ hall
    obtain ⟨t32, t33, t34, t35, t36, t37, t38, t39, t40, t41, rfl, hM, hD, hO, h0, h1, h2, h3, h4, h5, h6, h7, h8, h9⟩ := (HJ.out _ _ _).1 hJ
    obtain rfl := h9 (hall 9 (by omega))
    exact fin _ _ _ _ _ _ _ _ _ W hM hD hO
end Go.Proofs.YtepcikghhnfacaaDoor
