/- The last region of the law FnCrcs. -/
import Derived.Test.YtanffpmpknmldaaLaw5
namespace Go.Proofs.Ytanffpmpknmldaa
open Go.RowKit Go.Deep

set_option maxRecDepth 100000 in
set_option maxHeartbeats 1000000 in
theorem regCrc {Q : Exit → Act → World → Prop} (x1 x5 x6 x7 x8 x9 x10 x11 x12 x13 x14 x15 x16 x17 x18 x19 x20 x21 x22 x23 x24 x25 : Value) (ws : World) (gd : Nat) (v : Int) (D cA : Option Addr) (d l : List Int) (dc ca : Nat) (hz : ((d.length : Int) == 0) = false)
    (A2 : ∀ u, KS ws gd 0 v D d cA l u → Calls Try.prog 18 #[.slice cA l.length ca, .int .i64 2, .int .i64 (d.length : Int)] u fun e w' => ∃ k : Nat, e = .returned (.int .i64 (k : Int)) ∧ (k : Int) < (d.length : Int) ∧ Below u.heap.size u w')
    (A3 : ∀ u, KS ws gd 0 v D d cA l u → Calls Try.prog 18 #[.slice cA l.length ca, .int .i64 3, .int .i64 255] u fun e w' => ∃ k : Nat, e = .returned (.int .i64 (k : Int)) ∧ (k : Int) < 255 ∧ Below u.heap.size u w')
    (A4 : ∀ u, KS ws gd 0 v D d cA l u → ∀ k m : Nat, (k : Int) < (d.length : Int) → (m : Int) < 255 → Calls Try.prog 17 #[.slice D d.length dc, .int .i64 (k : Int), .int .i64 (1 + (m : Int))] u fun e w' => ∃ A' c', e = .returned (.slice A' (turnL d k (1 + m)).length c') ∧ Bs w' A' (turnL d k (1 + m)) ∧ Below u.heap.size u w')
    (A5 : ∀ (u : World) (k m : Nat) (A' : Option Addr) (c' : Nat), (k : Int) < (d.length : Int) → (m : Int) < 255 → Bs u A' (turnL d k (1 + m)) → Calls Try.prog 20 #[.slice A' (turnL d k (1 + m)).length c'] u fun e w' => ∃ x : Int, e = .returned (.agg #[.int .i64 0, .int .i64 x]) ∧ (x != v) = true ∧ Below u.heap.size u w') {ops : Array Oper}
    (hops : (ops.map fun o => (o.op, o.dst, o.guard)) = #[(Op.move (Operand.tmp 3), some 26, none), (Op.call { callee := Callee.builtin Builtin.len, args := #[(Operand.tmp 26)], argTypes := #[22] }, some 27, none), (Op.binOp BinOp.eql 3 (Operand.tmp 27) (Operand.const (Value.int .i64 0)) 3, some 28, none), (Op.move (Operand.tmp 28), some 29, none), (Op.move (Operand.tmp 3), some 30, some (3, false)), (Op.move (Operand.tmp 0), some 31, some (3, false)), (Op.move (Operand.tmp 3), some 32, some (3, false)), (Op.call { callee := Callee.builtin Builtin.len, args := #[(Operand.tmp 32)], argTypes := #[22] }, some 33, some (3, false)), (Op.call { callee := Callee.value (Operand.func 18), args := #[(Operand.tmp 31), (Operand.const (Value.int .i64 2)), (Operand.tmp 33)], argTypes := #[22, 2, 2] }, some 34, some (3, false)), (Op.move (Operand.tmp 0), some 35, some (3, false)), (Op.call { callee := Callee.value (Operand.func 18), args := #[(Operand.tmp 35), (Operand.const (Value.int .i64 3)), (Operand.const (Value.int .i64 255))], argTypes := #[22, 2, 2] }, some 36, some (3, false)), (Op.binOp BinOp.add 2 (Operand.const (Value.int .i64 1)) (Operand.tmp 36) 2, some 37, some (3, false)), (Op.call { callee := Callee.value (Operand.func 17), args := #[(Operand.tmp 30), (Operand.tmp 34), (Operand.tmp 37)], argTypes := #[22, 2, 2] }, some 38, some (3, false)), (Op.call { callee := Callee.value (Operand.func 20), args := #[(Operand.tmp 38)], argTypes := #[22] }, some 39, some (3, false)), (Op.field 35 (Operand.tmp 39) 1, some 40, some (3, false)), (Op.fieldAddr 35 (Operand.tmp 4) 1, some 41, some (3, false)), (Op.load 2 (Operand.tmp 41), some 42, some (3, false)), (Op.binOp BinOp.neq 2 (Operand.tmp 40) (Operand.tmp 42) 2, some 43, some (3, false)), (Op.pick (Operand.tmp 29) (Operand.const (Value.bool true)) (Operand.tmp 43), some 44, none), (Op.assign (Operand.tmp 44), some 2, none)])
    (hdeps : ((List.range 20).all fun i => ((fun i => [[], [0], [1], [2], [3], [3], [3], [3, 6], [3, 5, 7], [3], [3, 9], [3, 10], [3, 4, 8, 11], [3, 12], [3, 13], [3], [3, 15], [3, 14, 16], [3, 17], [18]].getD i []) i).all fun j => ((ops[i]?).map fun o => o.after.any fun e => Region.binds .any e && e.on == j).getD false) = true)
    (hback : ((List.range 20).all fun i => ((ops[i]?).map fun o => o.after.all fun e => decide (e.on < i)).getD false) = true)
    {a0 : Act} {w0 : World} (ha : a0 = { tmps := #[.slice cA l.length ca, x1, .bool false, .slice D d.length dc, .pointer (some ⟨gd, 0, none⟩), x5, x6, x7, x8, x9, x10, x11, x12, x13, x14, x15, x16, x17, x18, x19, x20, x21, x22, x23, x24, x25, undef, undef, undef, undef, undef, undef, undef, undef, undef, undef, undef, undef, undef, undef, undef, undef, undef, undef, undef], defers := [] }) (hM : KS ws gd 0 v D d cA l w0)
    (fin : ∀ t26 t27 t28 t29 t30 t31 t32 t33 t34 t35 t36 t37 t38 t39 t40 t41 t42 t43 t44 (W : World), KS ws gd 0 v D d cA l W → Q .normal { tmps := #[.slice cA l.length ca, x1, .bool true, .slice D d.length dc, .pointer (some ⟨gd, 0, none⟩), x5, x6, x7, x8, x9, x10, x11, x12, x13, x14, x15, x16, x17, x18, x19, x20, x21, x22, x23, x24, x25, t26, t27, t28, t29, t30, t31, t32, t33, t34, t35, t36, t37, t38, t39, t40, t41, t42, t43, t44], defers := [] } W) :
    wpAny Try.prog .any ops Q ops.size (Array.replicate ops.size false) a0 w0 := by
  have hn : ops.size = 20 := by have := congrArg Array.size hops; simpa using this
  obtain ⟨J, HJ⟩ : ∃ J : (Nat → Bool) → Act → World → Prop, ∀ dn a W, J dn a W ↔ (fun dn a W => ∃ t26 t27 t28 t29 t30 t31 t32 t33 t34 t35 t36 t37 t38 t39 t40 t41 t42 t43 t44 t2, a = { tmps := #[.slice cA l.length ca, x1, t2, .slice D d.length dc, .pointer (some ⟨gd, 0, none⟩), x5, x6, x7, x8, x9, x10, x11, x12, x13, x14, x15, x16, x17, x18, x19, x20, x21, x22, x23, x24, x25, t26, t27, t28, t29, t30, t31, t32, t33, t34, t35, t36, t37, t38, t39, t40, t41, t42, t43, t44], defers := [] } ∧ KS ws gd 0 v D d cA l W ∧ (dn 19 = false → t2 = .bool false) ∧ (dn 0 = true → t26 = .slice D d.length dc) ∧ (dn 1 = true → t27 = .int .i64 (d.length : Int)) ∧ (dn 2 = true → t28 = .bool false) ∧ (dn 3 = true → t29 = .bool false) ∧ (dn 4 = true → t30 = .slice D d.length dc) ∧ (dn 5 = true → t31 = .slice cA l.length ca) ∧ (dn 6 = true → t32 = .slice D d.length dc) ∧ (dn 7 = true → t33 = .int .i64 (d.length : Int)) ∧ (dn 8 = true → ∃ k : Nat, t34 = .int .i64 (k : Int) ∧ (k : Int) < (d.length : Int)) ∧ (dn 9 = true → t35 = .slice cA l.length ca) ∧ (dn 10 = true → ∃ m : Nat, t36 = .int .i64 (m : Int) ∧ (m : Int) < 255) ∧ (dn 11 = true → ∃ m : Nat, t37 = .int .i64 (1 + (m : Int)) ∧ (m : Int) < 255) ∧ (dn 12 = true → ∃ (A1 : Option Addr) (c1 k m : Nat), t38 = .slice A1 (turnL d k (1 + m)).length c1 ∧ Bs W A1 (turnL d k (1 + m)) ∧ (k : Int) < (d.length : Int) ∧ (m : Int) < 255) ∧ (dn 13 = true → ∃ x : Int, t39 = .agg #[.int .i64 0, .int .i64 x] ∧ (x != v) = true) ∧ (dn 14 = true → ∃ x : Int, t40 = .int .i64 x ∧ (x != v) = true) ∧ (dn 15 = true → t41 = .pointer (some ⟨gd, 1, none⟩)) ∧ (dn 16 = true → t42 = .int .i64 v) ∧ (dn 17 = true → t43 = .bool true) ∧ (dn 18 = true → t44 = .bool true) ∧ (dn 19 = true → t2 = .bool true)) dn a W := ⟨_, fun _ _ _ => Iff.rfl⟩
  replace HJ := hidH HJ
  refine region_inv 20 (fun i => [[], [0], [1], [2], [3], [3], [3], [3, 6], [3, 5, 7], [3], [3, 9], [3, 10], [3, 4, 8, 11], [3, 12], [3, 13], [3], [3, 15], [3, 14, 16], [3, 17], [18]].getD i []) J hn hdeps hback ?start ?step ?fin
  case start => exact (HJ.out _ _ _).2 ⟨undef, undef, undef, undef, undef, undef, undef, undef, undef, undef, undef, undef, undef, undef, undef, undef, undef, undef, undef, .bool false, ha, hM, fun _ => rfl, fun h => by simp at h, fun h => by simp at h, fun h => by simp at h, fun h => by simp at h, fun h => by simp at h, fun h => by simp at h, fun h => by simp at h, fun h => by simp at h, fun h => by simp at h, fun h => by simp at h, fun h => by simp at h, fun h => by simp at h, fun h => by simp at h, fun h => by simp at h, fun h => by simp at h, fun h => by simp at h, fun h => by simp at h, fun h => by simp at h, fun h => by simp at h, fun h => by simp at h⟩
  all_goals clear ha hM
  case step =>
    clear fin hdeps hback
    intro i hi dn a W hJ hdn hdep
    obtain ⟨t26, t27, t28, t29, t30, t31, t32, t33, t34, t35, t36, t37, t38, t39, t40, t41, t42, t43, t44, t2, rfl, hM, o19, h0, h1, h2, h3, h4, h5, h6, h7, h8, h9, h10, h11, h12, h13, h14, h15, h16, h17, h18, h19⟩ := (HJ.out _ _ _).1 hJ
    clear hJ
    match i, hi with
    | 0, _ =>
      obtain ⟨ty, ps, af, ho⟩ := op_lit hops (i := 0) (op := Op.move (Operand.tmp 3)) (dst := some 26) (g := none) rfl
      refine wpOp_lit ho (fun j b h => by cases h) ?_
      clear hops hdep ho
      replace h1 := hidH h1
      replace h2 := hidH h2
      replace h3 := hidH h3
      replace h4 := hidH h4
      replace h5 := hidH h5
      replace h6 := hidH h6
      replace h7 := hidH h7
      replace h8 := hidH h8
      replace h9 := hidH h9
      replace h10 := hidH h10
      replace h11 := hidH h11
      replace h12 := hidH h12
      replace h13 := hidH h13
      replace h14 := hidH h14
      replace h15 := hidH h15
      replace h16 := hidH h16
      replace h17 := hidH h17
      replace h18 := hidH h18
      replace h19 := hidH h19
      replace o19 := hidH o19
      go_wp2
      exact (HJ.out _ _ _).2 ⟨_, _, _, _, _, _, _, _, _, _, _, _, _, _, _, _, _, _, _, _, rfl, hM, o19.out, fun _ => rfl, h1.out, h2.out, h3.out, h4.out, h5.out, h6.out, h7.out, h8.out, h9.out, h10.out, h11.out, h12.out, h13.out, h14.out, h15.out, h16.out, h17.out, h18.out, h19.out⟩
    | 1, _ =>
      obtain ⟨ty, ps, af, ho⟩ := op_lit hops (i := 1) (op := Op.call { callee := Callee.builtin Builtin.len, args := #[(Operand.tmp 26)], argTypes := #[22] }) (dst := some 27) (g := none) rfl
      obtain rfl := h0 (hdep 0 (by simp))
      refine wpOp_lit ho (fun j b h => by cases h) ?_
      clear hops hdep ho
      replace h0 := hidH h0
      replace h2 := hidH h2
      replace h3 := hidH h3
      replace h4 := hidH h4
      replace h5 := hidH h5
      replace h6 := hidH h6
      replace h7 := hidH h7
      replace h8 := hidH h8
      replace h9 := hidH h9
      replace h10 := hidH h10
      replace h11 := hidH h11
      replace h12 := hidH h12
      replace h13 := hidH h13
      replace h14 := hidH h14
      replace h15 := hidH h15
      replace h16 := hidH h16
      replace h17 := hidH h17
      replace h18 := hidH h18
      replace h19 := hidH h19
      replace o19 := hidH o19
      go_wp2
      exact (HJ.out _ _ _).2 ⟨_, _, _, _, _, _, _, _, _, _, _, _, _, _, _, _, _, _, _, _, rfl, hM, o19.out, fun _ => rfl, fun _ => rfl, h2.out, h3.out, h4.out, h5.out, h6.out, h7.out, h8.out, h9.out, h10.out, h11.out, h12.out, h13.out, h14.out, h15.out, h16.out, h17.out, h18.out, h19.out⟩
    | 2, _ =>
      obtain ⟨ty, ps, af, ho⟩ := op_lit hops (i := 2) (op := Op.binOp BinOp.eql 3 (Operand.tmp 27) (Operand.const (Value.int .i64 0)) 3) (dst := some 28) (g := none) rfl
      obtain rfl := h1 (hdep 1 (by simp))
      refine wpOp_lit ho (fun j b h => by cases h) ?_
      clear hops hdep ho
      replace h0 := hidH h0
      replace h1 := hidH h1
      replace h3 := hidH h3
      replace h4 := hidH h4
      replace h5 := hidH h5
      replace h6 := hidH h6
      replace h7 := hidH h7
      replace h8 := hidH h8
      replace h9 := hidH h9
      replace h10 := hidH h10
      replace h11 := hidH h11
      replace h12 := hidH h12
      replace h13 := hidH h13
      replace h14 := hidH h14
      replace h15 := hidH h15
      replace h16 := hidH h16
      replace h17 := hidH h17
      replace h18 := hidH h18
      replace h19 := hidH h19
      replace o19 := hidH o19
      go_wp2
      exact (HJ.out _ _ _).2 ⟨_, _, _, _, _, _, _, _, _, _, _, _, _, _, _, _, _, _, _, _, rfl, hM, o19.out, h0.out, fun _ => rfl, fun _ => rfl, h3.out, h4.out, h5.out, h6.out, h7.out, h8.out, h9.out, h10.out, h11.out, h12.out, h13.out, h14.out, h15.out, h16.out, h17.out, h18.out, h19.out⟩
    | 3, _ =>
      obtain ⟨ty, ps, af, ho⟩ := op_lit hops (i := 3) (op := Op.move (Operand.tmp 28)) (dst := some 29) (g := none) rfl
      obtain rfl := h2 (hdep 2 (by simp))
      refine wpOp_lit ho (fun j b h => by cases h) ?_
      clear hops hdep ho
      replace h0 := hidH h0
      replace h1 := hidH h1
      replace h2 := hidH h2
      replace h4 := hidH h4
      replace h5 := hidH h5
      replace h6 := hidH h6
      replace h7 := hidH h7
      replace h8 := hidH h8
      replace h9 := hidH h9
      replace h10 := hidH h10
      replace h11 := hidH h11
      replace h12 := hidH h12
      replace h13 := hidH h13
      replace h14 := hidH h14
      replace h15 := hidH h15
      replace h16 := hidH h16
      replace h17 := hidH h17
      replace h18 := hidH h18
      replace h19 := hidH h19
      replace o19 := hidH o19
      go_wp2
      exact (HJ.out _ _ _).2 ⟨_, _, _, _, _, _, _, _, _, _, _, _, _, _, _, _, _, _, _, _, rfl, hM, o19.out, h0.out, h1.out, fun _ => rfl, fun _ => rfl, h4.out, h5.out, h6.out, h7.out, h8.out, h9.out, h10.out, h11.out, h12.out, h13.out, h14.out, h15.out, h16.out, h17.out, h18.out, h19.out⟩
    | 4, _ =>
      obtain ⟨ty, ps, af, ho⟩ := op_lit hops (i := 4) (op := Op.move (Operand.tmp 3)) (dst := some 30) (g := some (3, false)) rfl
      obtain rfl := h3 (hdep 3 (by simp))
      have hy := fun tmps ht => yielded_lit hops (i := 3) (op := Op.move (Operand.tmp 28)) (t := 29) (g := none) rfl tmps false ht
      refine wpOp_lit ho (fun j b h => by cases h; exact hy _ rfl) ?_
      clear hops hdep ho hy
      replace h0 := hidH h0
      replace h1 := hidH h1
      replace h2 := hidH h2
      replace h3 := hidH h3
      replace h5 := hidH h5
      replace h6 := hidH h6
      replace h7 := hidH h7
      replace h8 := hidH h8
      replace h9 := hidH h9
      replace h10 := hidH h10
      replace h11 := hidH h11
      replace h12 := hidH h12
      replace h13 := hidH h13
      replace h14 := hidH h14
      replace h15 := hidH h15
      replace h16 := hidH h16
      replace h17 := hidH h17
      replace h18 := hidH h18
      replace h19 := hidH h19
      replace o19 := hidH o19
      go_wp2
      exact (HJ.out _ _ _).2 ⟨_, _, _, _, _, _, _, _, _, _, _, _, _, _, _, _, _, _, _, _, rfl, hM, o19.out, h0.out, h1.out, h2.out, fun _ => rfl, fun _ => rfl, h5.out, h6.out, h7.out, h8.out, h9.out, h10.out, h11.out, h12.out, h13.out, h14.out, h15.out, h16.out, h17.out, h18.out, h19.out⟩
    | 5, _ =>
      obtain ⟨ty, ps, af, ho⟩ := op_lit hops (i := 5) (op := Op.move (Operand.tmp 0)) (dst := some 31) (g := some (3, false)) rfl
      obtain rfl := h3 (hdep 3 (by simp))
      have hy := fun tmps ht => yielded_lit hops (i := 3) (op := Op.move (Operand.tmp 28)) (t := 29) (g := none) rfl tmps false ht
      refine wpOp_lit ho (fun j b h => by cases h; exact hy _ rfl) ?_
      clear hops hdep ho hy
      replace h0 := hidH h0
      replace h1 := hidH h1
      replace h2 := hidH h2
      replace h3 := hidH h3
      replace h4 := hidH h4
      replace h6 := hidH h6
      replace h7 := hidH h7
      replace h8 := hidH h8
      replace h9 := hidH h9
      replace h10 := hidH h10
      replace h11 := hidH h11
      replace h12 := hidH h12
      replace h13 := hidH h13
      replace h14 := hidH h14
      replace h15 := hidH h15
      replace h16 := hidH h16
      replace h17 := hidH h17
      replace h18 := hidH h18
      replace h19 := hidH h19
      replace o19 := hidH o19
      go_wp2
      exact (HJ.out _ _ _).2 ⟨_, _, _, _, _, _, _, _, _, _, _, _, _, _, _, _, _, _, _, _, rfl, hM, o19.out, h0.out, h1.out, h2.out, fun _ => rfl, h4.out, fun _ => rfl, h6.out, h7.out, h8.out, h9.out, h10.out, h11.out, h12.out, h13.out, h14.out, h15.out, h16.out, h17.out, h18.out, h19.out⟩
    | 6, _ =>
      obtain ⟨ty, ps, af, ho⟩ := op_lit hops (i := 6) (op := Op.move (Operand.tmp 3)) (dst := some 32) (g := some (3, false)) rfl
      obtain rfl := h3 (hdep 3 (by simp))
      have hy := fun tmps ht => yielded_lit hops (i := 3) (op := Op.move (Operand.tmp 28)) (t := 29) (g := none) rfl tmps false ht
      refine wpOp_lit ho (fun j b h => by cases h; exact hy _ rfl) ?_
      clear hops hdep ho hy
      replace h0 := hidH h0
      replace h1 := hidH h1
      replace h2 := hidH h2
      replace h3 := hidH h3
      replace h4 := hidH h4
      replace h5 := hidH h5
      replace h7 := hidH h7
      replace h8 := hidH h8
      replace h9 := hidH h9
      replace h10 := hidH h10
      replace h11 := hidH h11
      replace h12 := hidH h12
      replace h13 := hidH h13
      replace h14 := hidH h14
      replace h15 := hidH h15
      replace h16 := hidH h16
      replace h17 := hidH h17
      replace h18 := hidH h18
      replace h19 := hidH h19
      replace o19 := hidH o19
      go_wp2
      exact (HJ.out _ _ _).2 ⟨_, _, _, _, _, _, _, _, _, _, _, _, _, _, _, _, _, _, _, _, rfl, hM, o19.out, h0.out, h1.out, h2.out, fun _ => rfl, h4.out, h5.out, fun _ => rfl, h7.out, h8.out, h9.out, h10.out, h11.out, h12.out, h13.out, h14.out, h15.out, h16.out, h17.out, h18.out, h19.out⟩
    | 7, _ =>
      obtain ⟨ty, ps, af, ho⟩ := op_lit hops (i := 7) (op := Op.call { callee := Callee.builtin Builtin.len, args := #[(Operand.tmp 32)], argTypes := #[22] }) (dst := some 33) (g := some (3, false)) rfl
      obtain rfl := h3 (hdep 3 (by simp))
      have hy := fun tmps ht => yielded_lit hops (i := 3) (op := Op.move (Operand.tmp 28)) (t := 29) (g := none) rfl tmps false ht
      obtain rfl := h6 (hdep 6 (by simp))
      refine wpOp_lit ho (fun j b h => by cases h; exact hy _ rfl) ?_
      clear hops hdep ho hy
      replace h0 := hidH h0
      replace h1 := hidH h1
      replace h2 := hidH h2
      replace h3 := hidH h3
      replace h4 := hidH h4
      replace h5 := hidH h5
      replace h6 := hidH h6
      replace h8 := hidH h8
      replace h9 := hidH h9
      replace h10 := hidH h10
      replace h11 := hidH h11
      replace h12 := hidH h12
      replace h13 := hidH h13
      replace h14 := hidH h14
      replace h15 := hidH h15
      replace h16 := hidH h16
      replace h17 := hidH h17
      replace h18 := hidH h18
      replace h19 := hidH h19
      replace o19 := hidH o19
      go_wp2
      exact (HJ.out _ _ _).2 ⟨_, _, _, _, _, _, _, _, _, _, _, _, _, _, _, _, _, _, _, _, rfl, hM, o19.out, h0.out, h1.out, h2.out, fun _ => rfl, h4.out, h5.out, fun _ => rfl, fun _ => rfl, h8.out, h9.out, h10.out, h11.out, h12.out, h13.out, h14.out, h15.out, h16.out, h17.out, h18.out, h19.out⟩
    | 8, _ =>
      obtain ⟨ty, ps, af, ho⟩ := op_lit hops (i := 8) (op := Op.call { callee := Callee.value (Operand.func 18), args := #[(Operand.tmp 31), (Operand.const (Value.int .i64 2)), (Operand.tmp 33)], argTypes := #[22, 2, 2] }) (dst := some 34) (g := some (3, false)) rfl
      obtain rfl := h3 (hdep 3 (by simp))
      have hy := fun tmps ht => yielded_lit hops (i := 3) (op := Op.move (Operand.tmp 28)) (t := 29) (g := none) rfl tmps false ht
      obtain rfl := h5 (hdep 5 (by simp))
      obtain rfl := h7 (hdep 7 (by simp))
      refine wpOp_lit ho (fun j b h => by cases h; exact hy _ rfl) ?_
      clear hops hdep ho hy
      replace h0 := hidH h0
      replace h1 := hidH h1
      replace h2 := hidH h2
      replace h3 := hidH h3
      replace h4 := hidH h4
      replace h5 := hidH h5
      replace h6 := hidH h6
      replace h7 := hidH h7
      replace h9 := hidH h9
      replace h10 := hidH h10
      replace h11 := hidH h11
      replace h12 := hidH h12
      replace h13 := hidH h13
      replace h14 := hidH h14
      replace h15 := hidH h15
      replace h16 := hidH h16
      replace h17 := hidH h17
      replace h18 := hidH h18
      replace h19 := hidH h19
      replace o19 := hidH o19
      go_wp2_with fail
      refine (A2 _ hM).mono ?_
      rintro e w1 ⟨k, rfl, hk, hb⟩
      go_wp2
      exact (HJ.out _ _ _).2 ⟨_, _, _, _, _, _, _, _, _, _, _, _, _, _, _, _, _, _, _, _, rfl, hM.below hb, o19.out, h0.out, h1.out, h2.out, fun _ => rfl, h4.out, fun _ => rfl, h6.out, fun _ => rfl, fun _ => ⟨k, rfl, hk⟩, h9.out, h10.out, h11.out, fun h => by obtain ⟨A1, c1, k, m, q1, q2, q3⟩ := h12.out h; exact ⟨A1, c1, k, m, q1, bs_below q2 hb, q3⟩, h13.out, h14.out, h15.out, h16.out, h17.out, h18.out, h19.out⟩
    | 9, _ =>
      obtain ⟨ty, ps, af, ho⟩ := op_lit hops (i := 9) (op := Op.move (Operand.tmp 0)) (dst := some 35) (g := some (3, false)) rfl
      obtain rfl := h3 (hdep 3 (by simp))
      have hy := fun tmps ht => yielded_lit hops (i := 3) (op := Op.move (Operand.tmp 28)) (t := 29) (g := none) rfl tmps false ht
      refine wpOp_lit ho (fun j b h => by cases h; exact hy _ rfl) ?_
      clear hops hdep ho hy
      replace h0 := hidH h0
      replace h1 := hidH h1
      replace h2 := hidH h2
      replace h3 := hidH h3
      replace h4 := hidH h4
      replace h5 := hidH h5
      replace h6 := hidH h6
      replace h7 := hidH h7
      replace h8 := hidH h8
      replace h10 := hidH h10
      replace h11 := hidH h11
      replace h12 := hidH h12
      replace h13 := hidH h13
      replace h14 := hidH h14
      replace h15 := hidH h15
      replace h16 := hidH h16
      replace h17 := hidH h17
      replace h18 := hidH h18
      replace h19 := hidH h19
      replace o19 := hidH o19
      go_wp2
      exact (HJ.out _ _ _).2 ⟨_, _, _, _, _, _, _, _, _, _, _, _, _, _, _, _, _, _, _, _, rfl, hM, o19.out, h0.out, h1.out, h2.out, fun _ => rfl, h4.out, h5.out, h6.out, h7.out, h8.out, fun _ => rfl, h10.out, h11.out, h12.out, h13.out, h14.out, h15.out, h16.out, h17.out, h18.out, h19.out⟩
    | 10, _ =>
      obtain ⟨ty, ps, af, ho⟩ := op_lit hops (i := 10) (op := Op.call { callee := Callee.value (Operand.func 18), args := #[(Operand.tmp 35), (Operand.const (Value.int .i64 3)), (Operand.const (Value.int .i64 255))], argTypes := #[22, 2, 2] }) (dst := some 36) (g := some (3, false)) rfl
      obtain rfl := h3 (hdep 3 (by simp))
      have hy := fun tmps ht => yielded_lit hops (i := 3) (op := Op.move (Operand.tmp 28)) (t := 29) (g := none) rfl tmps false ht
      obtain rfl := h9 (hdep 9 (by simp))
      refine wpOp_lit ho (fun j b h => by cases h; exact hy _ rfl) ?_
      clear hops hdep ho hy
      replace h0 := hidH h0
      replace h1 := hidH h1
      replace h2 := hidH h2
      replace h3 := hidH h3
      replace h4 := hidH h4
      replace h5 := hidH h5
      replace h6 := hidH h6
      replace h7 := hidH h7
      replace h8 := hidH h8
      replace h9 := hidH h9
      replace h11 := hidH h11
      replace h12 := hidH h12
      replace h13 := hidH h13
      replace h14 := hidH h14
      replace h15 := hidH h15
      replace h16 := hidH h16
      replace h17 := hidH h17
      replace h18 := hidH h18
      replace h19 := hidH h19
      replace o19 := hidH o19
      go_wp2_with fail
      refine (A3 _ hM).mono ?_
      rintro e w1 ⟨m, rfl, hm, hb⟩
      go_wp2
      exact (HJ.out _ _ _).2 ⟨_, _, _, _, _, _, _, _, _, _, _, _, _, _, _, _, _, _, _, _, rfl, hM.below hb, o19.out, h0.out, h1.out, h2.out, fun _ => rfl, h4.out, h5.out, h6.out, h7.out, h8.out, fun _ => rfl, fun _ => ⟨m, rfl, hm⟩, h11.out, fun h => by obtain ⟨A1, c1, k, m, q1, q2, q3⟩ := h12.out h; exact ⟨A1, c1, k, m, q1, bs_below q2 hb, q3⟩, h13.out, h14.out, h15.out, h16.out, h17.out, h18.out, h19.out⟩
    | 11, _ =>
      obtain ⟨ty, ps, af, ho⟩ := op_lit hops (i := 11) (op := Op.binOp BinOp.add 2 (Operand.const (Value.int .i64 1)) (Operand.tmp 36) 2) (dst := some 37) (g := some (3, false)) rfl
      obtain rfl := h3 (hdep 3 (by simp))
      have hy := fun tmps ht => yielded_lit hops (i := 3) (op := Op.move (Operand.tmp 28)) (t := 29) (g := none) rfl tmps false ht
      obtain ⟨m, rfl, hm⟩ := h10 (hdep 10 (by simp))
      refine wpOp_lit ho (fun j b h => by cases h; exact hy _ rfl) ?_
      clear hops hdep ho hy
      replace h0 := hidH h0
      replace h1 := hidH h1
      replace h2 := hidH h2
      replace h3 := hidH h3
      replace h4 := hidH h4
      replace h5 := hidH h5
      replace h6 := hidH h6
      replace h7 := hidH h7
      replace h8 := hidH h8
      replace h9 := hidH h9
      replace h10 := hidH h10
      replace h12 := hidH h12
      replace h13 := hidH h13
      replace h14 := hidH h14
      replace h15 := hidH h15
      replace h16 := hidH h16
      replace h17 := hidH h17
      replace h18 := hidH h18
      replace h19 := hidH h19
      replace o19 := hidH o19
      go_wp2
      exact (HJ.out _ _ _).2 ⟨_, _, _, _, _, _, _, _, _, _, _, _, _, _, _, _, _, _, _, _, rfl, hM, o19.out, h0.out, h1.out, h2.out, fun _ => rfl, h4.out, h5.out, h6.out, h7.out, h8.out, h9.out, fun _ => ⟨m, rfl, hm⟩, fun _ => ⟨m, rfl, hm⟩, h12.out, h13.out, h14.out, h15.out, h16.out, h17.out, h18.out, h19.out⟩
    | 12, _ =>
      obtain ⟨ty, ps, af, ho⟩ := op_lit hops (i := 12) (op := Op.call { callee := Callee.value (Operand.func 17), args := #[(Operand.tmp 30), (Operand.tmp 34), (Operand.tmp 37)], argTypes := #[22, 2, 2] }) (dst := some 38) (g := some (3, false)) rfl
      obtain rfl := h3 (hdep 3 (by simp))
      have hy := fun tmps ht => yielded_lit hops (i := 3) (op := Op.move (Operand.tmp 28)) (t := 29) (g := none) rfl tmps false ht
      obtain rfl := h4 (hdep 4 (by simp))
      obtain ⟨k, rfl, hk⟩ := h8 (hdep 8 (by simp))
      obtain ⟨m, rfl, hm⟩ := h11 (hdep 11 (by simp))
      refine wpOp_lit ho (fun j b h => by cases h; exact hy _ rfl) ?_
      clear hops hdep ho hy
      replace h0 := hidH h0
      replace h1 := hidH h1
      replace h2 := hidH h2
      replace h3 := hidH h3
      replace h4 := hidH h4
      replace h5 := hidH h5
      replace h6 := hidH h6
      replace h7 := hidH h7
      replace h8 := hidH h8
      replace h9 := hidH h9
      replace h10 := hidH h10
      replace h11 := hidH h11
      replace h13 := hidH h13
      replace h14 := hidH h14
      replace h15 := hidH h15
      replace h16 := hidH h16
      replace h17 := hidH h17
      replace h18 := hidH h18
      replace h19 := hidH h19
      replace o19 := hidH o19
      go_wp2_with fail
      refine (A4 _ hM k m hk hm).mono ?_
      rintro e w1 ⟨A1, c1, rfl, hT, hb⟩
      go_wp2
      exact (HJ.out _ _ _).2 ⟨_, _, _, _, _, _, _, _, _, _, _, _, _, _, _, _, _, _, _, _, rfl, hM.below hb, o19.out, h0.out, h1.out, h2.out, fun _ => rfl, fun _ => rfl, h5.out, h6.out, h7.out, fun _ => ⟨k, rfl, hk⟩, h9.out, h10.out, fun _ => ⟨m, rfl, hm⟩, fun _ => ⟨A1, c1, k, m, rfl, hT, hk, hm⟩, h13.out, h14.out, h15.out, h16.out, h17.out, h18.out, h19.out⟩
    | 13, _ =>
      obtain ⟨ty, ps, af, ho⟩ := op_lit hops (i := 13) (op := Op.call { callee := Callee.value (Operand.func 20), args := #[(Operand.tmp 38)], argTypes := #[22] }) (dst := some 39) (g := some (3, false)) rfl
      obtain rfl := h3 (hdep 3 (by simp))
      have hy := fun tmps ht => yielded_lit hops (i := 3) (op := Op.move (Operand.tmp 28)) (t := 29) (g := none) rfl tmps false ht
      obtain ⟨A1, c1, k, m, rfl, hT, hk, hm⟩ := h12 (hdep 12 (by simp))
      refine wpOp_lit ho (fun j b h => by cases h; exact hy _ rfl) ?_
      clear hops hdep ho hy
      replace h0 := hidH h0
      replace h1 := hidH h1
      replace h2 := hidH h2
      replace h3 := hidH h3
      replace h4 := hidH h4
      replace h5 := hidH h5
      replace h6 := hidH h6
      replace h7 := hidH h7
      replace h8 := hidH h8
      replace h9 := hidH h9
      replace h10 := hidH h10
      replace h11 := hidH h11
      replace h12 := hidH h12
      replace h14 := hidH h14
      replace h15 := hidH h15
      replace h16 := hidH h16
      replace h17 := hidH h17
      replace h18 := hidH h18
      replace h19 := hidH h19
      replace o19 := hidH o19
      go_wp2_with fail
      refine (A5 _ k m _ _ hk hm hT).mono ?_
      rintro e w1 ⟨x, rfl, hx, hb⟩
      go_wp2
      exact (HJ.out _ _ _).2 ⟨_, _, _, _, _, _, _, _, _, _, _, _, _, _, _, _, _, _, _, _, rfl, hM.below hb, o19.out, h0.out, h1.out, h2.out, fun _ => rfl, h4.out, h5.out, h6.out, h7.out, h8.out, h9.out, h10.out, h11.out, fun _ => ⟨A1, c1, k, m, rfl, bs_below hT hb, hk, hm⟩, fun _ => ⟨x, rfl, hx⟩, h14.out, h15.out, h16.out, h17.out, h18.out, h19.out⟩
    | 14, _ =>
      obtain ⟨ty, ps, af, ho⟩ := op_lit hops (i := 14) (op := Op.field 35 (Operand.tmp 39) 1) (dst := some 40) (g := some (3, false)) rfl
      obtain rfl := h3 (hdep 3 (by simp))
      have hy := fun tmps ht => yielded_lit hops (i := 3) (op := Op.move (Operand.tmp 28)) (t := 29) (g := none) rfl tmps false ht
      obtain ⟨x, rfl, hx⟩ := h13 (hdep 13 (by simp))
      refine wpOp_lit ho (fun j b h => by cases h; exact hy _ rfl) ?_
      clear hops hdep ho hy
      replace h0 := hidH h0
      replace h1 := hidH h1
      replace h2 := hidH h2
      replace h3 := hidH h3
      replace h4 := hidH h4
      replace h5 := hidH h5
      replace h6 := hidH h6
      replace h7 := hidH h7
      replace h8 := hidH h8
      replace h9 := hidH h9
      replace h10 := hidH h10
      replace h11 := hidH h11
      replace h12 := hidH h12
      replace h13 := hidH h13
      replace h15 := hidH h15
      replace h16 := hidH h16
      replace h17 := hidH h17
      replace h18 := hidH h18
      replace h19 := hidH h19
      replace o19 := hidH o19
      have f1 := fldIV
      go_wp2
      exact (HJ.out _ _ _).2 ⟨_, _, _, _, _, _, _, _, _, _, _, _, _, _, _, _, _, _, _, _, rfl, hM, o19.out, h0.out, h1.out, h2.out, fun _ => rfl, h4.out, h5.out, h6.out, h7.out, h8.out, h9.out, h10.out, h11.out, h12.out, fun _ => ⟨x, rfl, hx⟩, fun _ => ⟨x, rfl, hx⟩, h15.out, h16.out, h17.out, h18.out, h19.out⟩
    | 15, _ =>
      obtain ⟨ty, ps, af, ho⟩ := op_lit hops (i := 15) (op := Op.fieldAddr 35 (Operand.tmp 4) 1) (dst := some 41) (g := some (3, false)) rfl
      obtain rfl := h3 (hdep 3 (by simp))
      have hy := fun tmps ht => yielded_lit hops (i := 3) (op := Op.move (Operand.tmp 28)) (t := 29) (g := none) rfl tmps false ht
      refine wpOp_lit ho (fun j b h => by cases h; exact hy _ rfl) ?_
      clear hops hdep ho hy
      replace h0 := hidH h0
      replace h1 := hidH h1
      replace h2 := hidH h2
      replace h3 := hidH h3
      replace h4 := hidH h4
      replace h5 := hidH h5
      replace h6 := hidH h6
      replace h7 := hidH h7
      replace h8 := hidH h8
      replace h9 := hidH h9
      replace h10 := hidH h10
      replace h11 := hidH h11
      replace h12 := hidH h12
      replace h13 := hidH h13
      replace h14 := hidH h14
      replace h16 := hidH h16
      replace h17 := hidH h17
      replace h18 := hidH h18
      replace h19 := hidH h19
      replace o19 := hidH o19
      go_wp2
      exact (HJ.out _ _ _).2 ⟨_, _, _, _, _, _, _, _, _, _, _, _, _, _, _, _, _, _, _, _, rfl, hM, o19.out, h0.out, h1.out, h2.out, fun _ => rfl, h4.out, h5.out, h6.out, h7.out, h8.out, h9.out, h10.out, h11.out, h12.out, h13.out, h14.out, fun _ => rfl, h16.out, h17.out, h18.out, h19.out⟩
    | 16, _ =>
      obtain ⟨ty, ps, af, ho⟩ := op_lit hops (i := 16) (op := Op.load 2 (Operand.tmp 41)) (dst := some 42) (g := some (3, false)) rfl
      obtain rfl := h3 (hdep 3 (by simp))
      have hy := fun tmps ht => yielded_lit hops (i := 3) (op := Op.move (Operand.tmp 28)) (t := 29) (g := none) rfl tmps false ht
      obtain rfl := h15 (hdep 15 (by simp))
      refine wpOp_lit ho (fun j b h => by cases h; exact hy _ rfl) ?_
      clear hops hdep ho hy
      replace h0 := hidH h0
      replace h1 := hidH h1
      replace h2 := hidH h2
      replace h3 := hidH h3
      replace h4 := hidH h4
      replace h5 := hidH h5
      replace h6 := hidH h6
      replace h7 := hidH h7
      replace h8 := hidH h8
      replace h9 := hidH h9
      replace h10 := hidH h10
      replace h11 := hidH h11
      replace h12 := hidH h12
      replace h13 := hidH h13
      replace h14 := hidH h14
      replace h15 := hidH h15
      replace h17 := hidH h17
      replace h18 := hidH h18
      replace h19 := hidH h19
      replace o19 := hidH o19
      have q1 := hM.blk.cell 1
      simp only [List.getElem?_toArray, List.getElem?_cons_succ, List.getElem?_cons_zero] at q1
      go_wp2
      exact (HJ.out _ _ _).2 ⟨_, _, _, _, _, _, _, _, _, _, _, _, _, _, _, _, _, _, _, _, rfl, hM, o19.out, h0.out, h1.out, h2.out, fun _ => rfl, h4.out, h5.out, h6.out, h7.out, h8.out, h9.out, h10.out, h11.out, h12.out, h13.out, h14.out, fun _ => rfl, fun _ => rfl, h17.out, h18.out, h19.out⟩
    | 17, _ =>
      obtain ⟨ty, ps, af, ho⟩ := op_lit hops (i := 17) (op := Op.binOp BinOp.neq 2 (Operand.tmp 40) (Operand.tmp 42) 2) (dst := some 43) (g := some (3, false)) rfl
      obtain rfl := h3 (hdep 3 (by simp))
      have hy := fun tmps ht => yielded_lit hops (i := 3) (op := Op.move (Operand.tmp 28)) (t := 29) (g := none) rfl tmps false ht
      obtain ⟨x, rfl, hx⟩ := h14 (hdep 14 (by simp))
      obtain rfl := h16 (hdep 16 (by simp))
      refine wpOp_lit ho (fun j b h => by cases h; exact hy _ rfl) ?_
      clear hops hdep ho hy
      replace h0 := hidH h0
      replace h1 := hidH h1
      replace h2 := hidH h2
      replace h3 := hidH h3
      replace h4 := hidH h4
      replace h5 := hidH h5
      replace h6 := hidH h6
      replace h7 := hidH h7
      replace h8 := hidH h8
      replace h9 := hidH h9
      replace h10 := hidH h10
      replace h11 := hidH h11
      replace h12 := hidH h12
      replace h13 := hidH h13
      replace h14 := hidH h14
      replace h15 := hidH h15
      replace h16 := hidH h16
      replace h18 := hidH h18
      replace h19 := hidH h19
      replace o19 := hidH o19
      go_wp2
      exact (HJ.out _ _ _).2 ⟨_, _, _, _, _, _, _, _, _, _, _, _, _, _, _, _, _, _, _, _, rfl, hM, o19.out, h0.out, h1.out, h2.out, fun _ => rfl, h4.out, h5.out, h6.out, h7.out, h8.out, h9.out, h10.out, h11.out, h12.out, h13.out, fun _ => ⟨x, rfl, hx⟩, h15.out, fun _ => rfl, fun _ => rfl, h18.out, h19.out⟩
    | 18, _ =>
      obtain ⟨ty, ps, af, ho⟩ := op_lit hops (i := 18) (op := Op.pick (Operand.tmp 29) (Operand.const (Value.bool true)) (Operand.tmp 43)) (dst := some 44) (g := none) rfl
      obtain rfl := h3 (hdep 3 (by simp))
      obtain rfl := h17 (hdep 17 (by simp))
      refine wpOp_lit ho (fun j b h => by cases h) ?_
      clear hops hdep ho
      replace h0 := hidH h0
      replace h1 := hidH h1
      replace h2 := hidH h2
      replace h3 := hidH h3
      replace h4 := hidH h4
      replace h5 := hidH h5
      replace h6 := hidH h6
      replace h7 := hidH h7
      replace h8 := hidH h8
      replace h9 := hidH h9
      replace h10 := hidH h10
      replace h11 := hidH h11
      replace h12 := hidH h12
      replace h13 := hidH h13
      replace h14 := hidH h14
      replace h15 := hidH h15
      replace h16 := hidH h16
      replace h17 := hidH h17
      replace h19 := hidH h19
      replace o19 := hidH o19
      go_wp2
      exact (HJ.out _ _ _).2 ⟨_, _, _, _, _, _, _, _, _, _, _, _, _, _, _, _, _, _, _, _, rfl, hM, o19.out, h0.out, h1.out, h2.out, fun _ => rfl, h4.out, h5.out, h6.out, h7.out, h8.out, h9.out, h10.out, h11.out, h12.out, h13.out, h14.out, h15.out, h16.out, fun _ => rfl, fun _ => rfl, h19.out⟩
    | 19, _ =>
      obtain ⟨ty, ps, af, ho⟩ := op_lit hops (i := 19) (op := Op.assign (Operand.tmp 44)) (dst := some 2) (g := none) rfl
      obtain rfl := h18 (hdep 18 (by simp))
      obtain rfl := o19 hdn
      refine wpOp_lit ho (fun j b h => by cases h) ?_
      clear hops hdep ho
      replace h0 := hidH h0
      replace h1 := hidH h1
      replace h2 := hidH h2
      replace h3 := hidH h3
      replace h4 := hidH h4
      replace h5 := hidH h5
      replace h6 := hidH h6
      replace h7 := hidH h7
      replace h8 := hidH h8
      replace h9 := hidH h9
      replace h10 := hidH h10
      replace h11 := hidH h11
      replace h12 := hidH h12
      replace h13 := hidH h13
      replace h14 := hidH h14
      replace h15 := hidH h15
      replace h16 := hidH h16
      replace h17 := hidH h17
      replace h18 := hidH h18
      go_wp2
      exact (HJ.out _ _ _).2 ⟨_, _, _, _, _, _, _, _, _, _, _, _, _, _, _, _, _, _, _, _, rfl, hM, (fun h => by simp at h), h0.out, h1.out, h2.out, h3.out, h4.out, h5.out, h6.out, h7.out, h8.out, h9.out, h10.out, h11.out, h12.out, h13.out, h14.out, h15.out, h16.out, h17.out, fun _ => rfl, fun _ => rfl⟩
    | n + 20, h => omega
  case fin =>
    clear hops hdeps hback
    rintro dn a W hJ hall
    obtain ⟨t26, t27, t28, t29, t30, t31, t32, t33, t34, t35, t36, t37, t38, t39, t40, t41, t42, t43, t44, t2, rfl, hM, o19, h0, h1, h2, h3, h4, h5, h6, h7, h8, h9, h10, h11, h12, h13, h14, h15, h16, h17, h18, h19⟩ := (HJ.out _ _ _).1 hJ
    obtain rfl := h19 (hall 19 (by omega))
    exact fin _ _ _ _ _ _ _ _ _ _ _ _ _ _ _ _ _ _ _ W hM
end Go.Proofs.Ytanffpmpknmldaa
