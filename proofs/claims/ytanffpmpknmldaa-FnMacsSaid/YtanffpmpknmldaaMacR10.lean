/- The second region of the law FnMacs that draws its order: a short key and a nought behind it. -/
import Derived.Test.YtanffpmpknmldaaLaw6
namespace Go.Proofs.Ytanffpmpknmldaa
open Go.RowKit Go.Deep

set_option maxRecDepth 100000 in
set_option maxHeartbeats 1000000 in
theorem regMac10 {Q : Exit → Act → World → Prop} (x1 x8 x9 x10 x11 x12 x13 x14 x15 x16 x17 x18 x19 x20 x21 x22 x23 x24 x25 x26 x27 x28 x29 x30 x31 x32 x33 x34 x35 x36 x37 x38 x39 x40 x41 x42 x43 x44 x45 x46 x47 x48 x49 x50 : Value) (ws : World) (g : Nat) (M K D PA PB cA : Option Addr) (ml k d a b l : List Int) (cm ck cd pa pb ca : Nat) (kz : List Int) (hkz : Hid (kz = k ++ [0])) (hk : (k.length : Int) < 64)
    (B1 : ∀ (u : World) (A1 : Option Addr) (c1 : Nat), MS ws g 0 M ml cm K k D d PA a PB b cA l u → Bs u A1 kz → Calls Try.prog 10 #[.slice A1 kz.length c1, .slice D d.length cd] u (RB u 0 ml)) {ops : Array Oper}
    (hops : (ops.map fun o => (o.op, o.dst, o.guard)) = #[(Op.move (Operand.tmp 3), some 51, none), (Op.call { callee := Callee.builtin Builtin.len, args := #[(Operand.tmp 51)], argTypes := #[22] }, some 52, none), (Op.binOp BinOp.lss 3 (Operand.tmp 52) ((Operand.const (Value.int .i64 64))) 3, some 53, none), (Op.move (Operand.tmp 53), some 54, none), (Op.buildSlice 22 0 #[], some 55, some (3, true)), (Op.move (Operand.tmp 3), some 56, some (3, true)), (Op.call { callee := Callee.builtin Builtin.append, args := #[(Operand.tmp 55), (Operand.tmp 56)], argTypes := #[22, 22] }, some 57, some (3, true)), (Op.buildSlice 22 1 #[(0, (Operand.const (Value.int .u8 0)))], some 58, some (3, true)), (Op.call { callee := Callee.builtin Builtin.append, args := #[(Operand.tmp 57), (Operand.tmp 58)], argTypes := #[22, 22] }, some 59, some (3, true)), (Op.move (Operand.tmp 4), some 60, some (3, true)), (Op.call { callee := Callee.value (Operand.func 10), args := #[(Operand.tmp 59), (Operand.tmp 60)], argTypes := #[22, 22] }, some 61, some (3, true)), (Op.field 27 (Operand.tmp 61) 1, some 62, some (3, true)), (Op.fieldAddr 27 (Operand.tmp 5) 1, some 63, some (3, true)), (Op.load 22 (Operand.tmp 63), some 64, some (3, true)), (Op.call { callee := Callee.value (Operand.func 15), args := #[(Operand.tmp 62), (Operand.tmp 64)], argTypes := #[22, 22] }, some 65, some (3, true)), (Op.unOp UnOp.not 4 (Operand.tmp 65), some 66, some (3, true)), (Op.pick (Operand.tmp 54) (Operand.tmp 66) (Operand.const (Value.bool false)), some 67, none)])
    (hdeps : ((List.range 17).all fun i => ((fun i => [[], [0], [1], [2], [3], [3], [3, 4, 5], [3], [3, 6, 7], [3], [3, 8, 9], [3, 10], [3], [3, 12], [3, 11, 13], [3, 14], [3, 15]].getD i []) i).all fun j => ((ops[i]?).map fun o => o.after.any fun e => Region.binds .any e && e.on == j).getD false) = true)
    (hback : ((List.range 17).all fun i => ((ops[i]?).map fun o => o.after.all fun e => decide (e.on < i)).getD false) = true)
    {a0 : Act} {w0 : World} (ha : a0 = { tmps := #[.slice cA l.length ca, x1, .bool false, .slice K k.length ck, .slice D d.length cd, .pointer (some ⟨g, 0, none⟩), .slice PA a.length pa, .slice PB b.length pb, x8, x9, x10, x11, x12, x13, x14, x15, x16, x17, x18, x19, x20, x21, x22, x23, x24, x25, x26, x27, x28, x29, x30, x31, x32, x33, x34, x35, x36, x37, x38, x39, x40, x41, x42, x43, x44, x45, x46, x47, x48, x49, x50, undef, undef, undef, undef, undef, undef, undef, undef, undef, undef, undef, undef, undef, undef, undef, undef, undef, undef, undef, undef, undef, undef, undef, undef, undef, undef, undef, undef, undef, undef, undef, undef, undef, undef, undef, undef, undef, undef, undef, undef, undef, undef, undef, undef, undef, undef, undef, undef, undef, undef, undef], defers := [] }) (hE : (false = true → false = true) ∧ (false = true → false = true) ∧ (false = true → false = true)) (hMS : MS ws g 0 M ml cm K k D d PA a PB b cA l w0) (hO : Below w0.heap.size w0 w0)
    (fin : ∀ t51 t52 t53 t54 t55 t56 t57 t58 t59 t60 t61 t62 t63 t64 t65 t66 (W : World), (Below w0.heap.size w0 W) → Q .normal { tmps := #[.slice cA l.length ca, x1, .bool false, .slice K k.length ck, .slice D d.length cd, .pointer (some ⟨g, 0, none⟩), .slice PA a.length pa, .slice PB b.length pb, x8, x9, x10, x11, x12, x13, x14, x15, x16, x17, x18, x19, x20, x21, x22, x23, x24, x25, x26, x27, x28, x29, x30, x31, x32, x33, x34, x35, x36, x37, x38, x39, x40, x41, x42, x43, x44, x45, x46, x47, x48, x49, x50, t51, t52, t53, t54, t55, t56, t57, t58, t59, t60, t61, t62, t63, t64, t65, t66, .bool false, undef, undef, undef, undef, undef, undef, undef, undef, undef, undef, undef, undef, undef, undef, undef, undef, undef, undef, undef, undef, undef, undef, undef, undef, undef, undef, undef, undef, undef, undef, undef, undef, undef, undef], defers := [] } W) :
    wpAny Try.prog .any ops Q ops.size (Array.replicate ops.size false) a0 w0 := by
  have hn : ops.size = 17 := by have := congrArg Array.size hops; simpa using this
  obtain ⟨J, HJ⟩ : ∃ J : (Nat → Bool) → Act → World → Prop, ∀ dn ac W, J dn ac W ↔ (fun dn ac W => ∃ t51 t52 t53 t54 t55 t56 t57 t58 t59 t60 t61 t62 t63 t64 t65 t66 t67, ac = { tmps := #[.slice cA l.length ca, x1, .bool false, .slice K k.length ck, .slice D d.length cd, .pointer (some ⟨g, 0, none⟩), .slice PA a.length pa, .slice PB b.length pb, x8, x9, x10, x11, x12, x13, x14, x15, x16, x17, x18, x19, x20, x21, x22, x23, x24, x25, x26, x27, x28, x29, x30, x31, x32, x33, x34, x35, x36, x37, x38, x39, x40, x41, x42, x43, x44, x45, x46, x47, x48, x49, x50, t51, t52, t53, t54, t55, t56, t57, t58, t59, t60, t61, t62, t63, t64, t65, t66, t67, undef, undef, undef, undef, undef, undef, undef, undef, undef, undef, undef, undef, undef, undef, undef, undef, undef, undef, undef, undef, undef, undef, undef, undef, undef, undef, undef, undef, undef, undef, undef, undef, undef, undef], defers := [] } ∧ ((dn 8 = true → dn 6 = true) ∧ (dn 10 = true → dn 8 = true) ∧ (dn 11 = true → dn 10 = true)) ∧ (MS ws g 0 M ml cm K k D d PA a PB b cA l w0) ∧ (Below w0.heap.size w0 W) ∧ (dn 0 = true → t51 = .slice K k.length ck) ∧ (dn 1 = true → t52 = .int .i64 (k.length : Int)) ∧ (dn 2 = true → t53 = .bool true) ∧ (dn 3 = true → t54 = .bool true) ∧ (dn 4 = true → dn 6 = false → W.ownsRow w0.heap.size 5 1 t55 0 []) ∧ (dn 5 = true → t56 = .slice K k.length ck) ∧ (dn 6 = true → dn 8 = false → W.ownsRow w0.heap.size 5 1 t57 k.length (k.map (Value.int .u8))) ∧ (dn 7 = true → dn 8 = false → ∃ g8 : Nat, t58 = .slice (some ⟨g8, 0, none⟩) 1 1 ∧ Blk W g8 5 #[.int .u8 0] ∧ w0.heap.size ≤ g8 ∧ (dn 4 = true → dn 6 = false → t55.ownBlock ≠ some g8)) ∧ (dn 8 = true → ∃ (A1 : Option Addr) (c1 : Nat), t59 = .slice A1 kz.length c1 ∧ Bs W A1 kz) ∧ (dn 9 = true → t60 = .slice D d.length cd) ∧ (dn 10 = true → ∃ (A1 : Option Addr) (c1 : Nat), t61 = .agg #[.int .i64 0, .slice A1 ml.length c1] ∧ Bs W A1 ml) ∧ (dn 11 = true → ∃ (A1 : Option Addr) (c1 : Nat), t62 = .slice A1 ml.length c1 ∧ Bs W A1 ml) ∧ (dn 12 = true → t63 = .pointer (some ⟨g, 1, none⟩)) ∧ (dn 13 = true → t64 = .slice M ml.length cm) ∧ (dn 14 = true → t65 = .bool true) ∧ (dn 15 = true → t66 = .bool false) ∧ (dn 16 = true → t67 = .bool false)) dn ac W := ⟨_, fun _ _ _ => Iff.rfl⟩
  replace HJ := hidH HJ
  refine region_inv 17 (fun i => [[], [0], [1], [2], [3], [3], [3, 4, 5], [3], [3, 6, 7], [3], [3, 8, 9], [3, 10], [3], [3, 12], [3, 11, 13], [3, 14], [3, 15]].getD i []) J hn hdeps hback ?start ?step ?fin
  case start => exact (HJ.out _ _ _).2 ⟨undef, undef, undef, undef, undef, undef, undef, undef, undef, undef, undef, undef, undef, undef, undef, undef, undef, ha, hE, hMS, hO, fun h => by simp at h, fun h => by simp at h, fun h => by simp at h, fun h => by simp at h, fun h => by simp at h, fun h => by simp at h, fun h => by simp at h, fun h => by simp at h, fun h => by simp at h, fun h => by simp at h, fun h => by simp at h, fun h => by simp at h, fun h => by simp at h, fun h => by simp at h, fun h => by simp at h, fun h => by simp at h, fun h => by simp at h⟩
  all_goals clear ha hE hMS hO
  case step =>
    clear fin hdeps hback
    intro i hi dn ac W hJ hdn hdep
    obtain ⟨t51, t52, t53, t54, t55, t56, t57, t58, t59, t60, t61, t62, t63, t64, t65, t66, t67, rfl, hE, hMS, hO, h0, h1, h2, h3, h4, h5, h6, h7, h8, h9, h10, h11, h12, h13, h14, h15, h16⟩ := (HJ.out _ _ _).1 hJ
    clear hJ
    match i, hi with
    | 0, _ =>
      obtain ⟨ty, ps, af, ho⟩ := op_lit hops (i := 0) (op := Op.move (Operand.tmp 3)) (dst := some 51) (g := none) rfl
      refine wpOp_lit ho (fun j b h => by cases h) ?_
      clear hops hdep ho
      replace h1 := hidH h1
      replace h2 := hidH h2
      replace h3 := hidH h3
      replace h4 := hidH h4
      replace h5 := hidH h5
      replace h6 := hidH h6
      replace h7 := hidH h7
      replace h8 := hidH h8
      replace h9 := hidH h9
      replace h10 := hidH h10
      replace h11 := hidH h11
      replace h12 := hidH h12
      replace h13 := hidH h13
      replace h14 := hidH h14
      replace h15 := hidH h15
      replace h16 := hidH h16
      go_wp2
      exact (HJ.out _ _ _).2 ⟨_, _, _, _, _, _, _, _, _, _, _, _, _, _, _, _, _, rfl, hE, hMS, hO, fun _ => rfl, h1.out, h2.out, h3.out, h4.out, h5.out, h6.out, h7.out, h8.out, h9.out, h10.out, h11.out, h12.out, h13.out, h14.out, h15.out, h16.out⟩
    | 1, _ =>
      obtain ⟨ty, ps, af, ho⟩ := op_lit hops (i := 1) (op := Op.call { callee := Callee.builtin Builtin.len, args := #[(Operand.tmp 51)], argTypes := #[22] }) (dst := some 52) (g := none) rfl
      obtain rfl := h0 (hdep 0 (by simp))
      refine wpOp_lit ho (fun j b h => by cases h) ?_
      clear hops hdep ho
      replace h0 := hidH h0
      replace h2 := hidH h2
      replace h3 := hidH h3
      replace h4 := hidH h4
      replace h5 := hidH h5
      replace h6 := hidH h6
      replace h7 := hidH h7
      replace h8 := hidH h8
      replace h9 := hidH h9
      replace h10 := hidH h10
      replace h11 := hidH h11
      replace h12 := hidH h12
      replace h13 := hidH h13
      replace h14 := hidH h14
      replace h15 := hidH h15
      replace h16 := hidH h16
      go_wp2
      exact (HJ.out _ _ _).2 ⟨_, _, _, _, _, _, _, _, _, _, _, _, _, _, _, _, _, rfl, hE, hMS, hO, fun _ => rfl, fun _ => rfl, h2.out, h3.out, h4.out, h5.out, h6.out, h7.out, h8.out, h9.out, h10.out, h11.out, h12.out, h13.out, h14.out, h15.out, h16.out⟩
    | 2, _ =>
      obtain ⟨ty, ps, af, ho⟩ := op_lit hops (i := 2) (op := Op.binOp BinOp.lss 3 (Operand.tmp 52) ((Operand.const (Value.int .i64 64))) 3) (dst := some 53) (g := none) rfl
      obtain rfl := h1 (hdep 1 (by simp))
      refine wpOp_lit ho (fun j b h => by cases h) ?_
      clear hops hdep ho
      replace h0 := hidH h0
      replace h1 := hidH h1
      replace h3 := hidH h3
      replace h4 := hidH h4
      replace h5 := hidH h5
      replace h6 := hidH h6
      replace h7 := hidH h7
      replace h8 := hidH h8
      replace h9 := hidH h9
      replace h10 := hidH h10
      replace h11 := hidH h11
      replace h12 := hidH h12
      replace h13 := hidH h13
      replace h14 := hidH h14
      replace h15 := hidH h15
      replace h16 := hidH h16
      go_wp2
      exact (HJ.out _ _ _).2 ⟨_, _, _, _, _, _, _, _, _, _, _, _, _, _, _, _, _, rfl, hE, hMS, hO, h0.out, fun _ => rfl, fun _ => rfl, h3.out, h4.out, h5.out, h6.out, h7.out, h8.out, h9.out, h10.out, h11.out, h12.out, h13.out, h14.out, h15.out, h16.out⟩
    | 3, _ =>
      obtain ⟨ty, ps, af, ho⟩ := op_lit hops (i := 3) (op := Op.move (Operand.tmp 53)) (dst := some 54) (g := none) rfl
      obtain rfl := h2 (hdep 2 (by simp))
      refine wpOp_lit ho (fun j b h => by cases h) ?_
      clear hops hdep ho
      replace h0 := hidH h0
      replace h1 := hidH h1
      replace h2 := hidH h2
      replace h4 := hidH h4
      replace h5 := hidH h5
      replace h6 := hidH h6
      replace h7 := hidH h7
      replace h8 := hidH h8
      replace h9 := hidH h9
      replace h10 := hidH h10
      replace h11 := hidH h11
      replace h12 := hidH h12
      replace h13 := hidH h13
      replace h14 := hidH h14
      replace h15 := hidH h15
      replace h16 := hidH h16
      go_wp2
      exact (HJ.out _ _ _).2 ⟨_, _, _, _, _, _, _, _, _, _, _, _, _, _, _, _, _, rfl, hE, hMS, hO, h0.out, h1.out, fun _ => rfl, fun _ => rfl, h4.out, h5.out, h6.out, h7.out, h8.out, h9.out, h10.out, h11.out, h12.out, h13.out, h14.out, h15.out, h16.out⟩
    | 4, _ =>
      obtain ⟨ty, ps, af, ho⟩ := op_lit hops (i := 4) (op := Op.buildSlice 22 0 #[]) (dst := some 55) (g := some (3, true)) rfl
      obtain rfl := h3 (hdep 3 (by simp))
      have hy := fun tmps ht => yielded_lit hops (i := 3) (op := Op.move (Operand.tmp 53)) (t := 54) (g := none) rfl tmps true ht
      refine wpOp_lit ho (fun j b h => by cases h; exact hy _ rfl) ?_
      clear hops hdep ho hy
      replace h0 := hidH h0
      replace h1 := hidH h1
      replace h2 := hidH h2
      replace h3 := hidH h3
      replace h5 := hidH h5
      replace h6 := hidH h6
      replace h7 := hidH h7
      replace h8 := hidH h8
      replace h9 := hidH h9
      replace h10 := hidH h10
      replace h11 := hidH h11
      replace h12 := hidH h12
      replace h13 := hidH h13
      replace h14 := hidH h14
      replace h15 := hidH h15
      replace h16 := hidH h16
      go_wp2
      have hb := bal (Below.refl W.heap.size W) (.cells #[] 5)
      exact (HJ.out _ _ _).2 ⟨_, _, _, _, _, _, _, _, _, _, _, _, _, _, _, _, _, rfl, hE, hMS, btr hO hb, h0.out, h1.out, h2.out, fun _ => rfl, fun _ => fun _ => World.ownsRow_lit _ #[] 0 hO.size (by unfold maxLen; omega) rfl, h5.out, fun h h2 => own_below (h6.out h h2) hb, (fun h h2 => by obtain ⟨g8, q1, q2, q3, q4⟩ := h7.out h h2; exact ⟨g8, q1, q2.below hb, q3, fun _ _ => by have := q2.lt; simp [Value.ownBlock]; omega⟩), (fun h => by obtain ⟨A1, c1, q1, q2⟩ := h8.out h; exact ⟨A1, c1, q1, bs_below q2 hb⟩), h9.out, fun h => by obtain ⟨A1, c1, q1, q2⟩ := h10.out h; exact ⟨A1, c1, q1, bs_below q2 hb⟩, fun h => by obtain ⟨A1, c1, q1, q2⟩ := h11.out h; exact ⟨A1, c1, q1, bs_below q2 hb⟩, h12.out, h13.out, h14.out, h15.out, h16.out⟩
    | 5, _ =>
      obtain ⟨ty, ps, af, ho⟩ := op_lit hops (i := 5) (op := Op.move (Operand.tmp 3)) (dst := some 56) (g := some (3, true)) rfl
      obtain rfl := h3 (hdep 3 (by simp))
      have hy := fun tmps ht => yielded_lit hops (i := 3) (op := Op.move (Operand.tmp 53)) (t := 54) (g := none) rfl tmps true ht
      refine wpOp_lit ho (fun j b h => by cases h; exact hy _ rfl) ?_
      clear hops hdep ho hy
      replace h0 := hidH h0
      replace h1 := hidH h1
      replace h2 := hidH h2
      replace h3 := hidH h3
      replace h4 := hidH h4
      replace h6 := hidH h6
      replace h7 := hidH h7
      replace h8 := hidH h8
      replace h9 := hidH h9
      replace h10 := hidH h10
      replace h11 := hidH h11
      replace h12 := hidH h12
      replace h13 := hidH h13
      replace h14 := hidH h14
      replace h15 := hidH h15
      replace h16 := hidH h16
      go_wp2
      exact (HJ.out _ _ _).2 ⟨_, _, _, _, _, _, _, _, _, _, _, _, _, _, _, _, _, rfl, hE, hMS, hO, h0.out, h1.out, h2.out, fun _ => rfl, h4.out, fun _ => rfl, h6.out, h7.out, h8.out, h9.out, h10.out, h11.out, h12.out, h13.out, h14.out, h15.out, h16.out⟩
    | 6, _ =>
      obtain ⟨ty, ps, af, ho⟩ := op_lit hops (i := 6) (op := Op.call { callee := Callee.builtin Builtin.append, args := #[(Operand.tmp 55), (Operand.tmp 56)], argTypes := #[22, 22] }) (dst := some 57) (g := some (3, true)) rfl
      obtain rfl := h3 (hdep 3 (by simp))
      have hy := fun tmps ht => yielded_lit hops (i := 3) (op := Op.move (Operand.tmp 53)) (t := 54) (g := none) rfl tmps true ht
      have o4 := hidH (h4 (hdep 4 (by simp)) hdn)
      have hd4 := hidH (hdep 4 (by simp))
      obtain rfl := h5 (hdep 5 (by simp))
      refine wpOp_lit ho (fun j b h => by cases h; exact hy _ rfl) ?_
      clear hops hdep ho hy
      replace h0 := hidH h0
      replace h1 := hidH h1
      replace h2 := hidH h2
      replace h3 := hidH h3
      replace h4 := hidH h4
      replace h5 := hidH h5
      replace h7 := hidH h7
      replace h8 := hidH h8
      replace h9 := hidH h9
      replace h10 := hidH h10
      replace h11 := hidH h11
      replace h12 := hidH h12
      replace h13 := hidH h13
      replace h14 := hidH h14
      replace h15 := hidH h15
      replace h16 := hidH h16
      have hkey := hMS.below hO |>.key
      have hsz := hO.size
      go_wp2_with (at_builtin; refine wpList_append_bs rfl _ _ rfl w0.heap.size _ _ _ rfl o4.out K k ck rfl hkey (by omega) hsz ?_)
      intro v2 w2 o2 hg
      have BB := hidH (hO.grown hg hsz (fun x hx => (o4.out.lt x hx).1))
      have O6 := hidH (show w2.ownsRow w0.heap.size 5 1 v2 k.length (k.map (Value.int .u8)) by simpa using o2)
      clear o2
      go_wp2
      exact (HJ.out _ _ _).2 ⟨_, _, _, _, _, _, _, _, _, _, _, _, _, _, _, _, _, rfl, ⟨fun _ => rfl, hE.2⟩, hMS, BB.out, h0.out, h1.out, h2.out, fun _ => rfl, fun _ h2 => by simp at h2, fun _ => rfl, fun _ => fun _ => O6.out, (fun h h2 => by obtain ⟨g8, q1, q2, q3, q4⟩ := h7.out h h2; exact ⟨g8, q1, (hg.block g8 q2.lt (fun e => q4 hd4.out hdn e.symm)).trans q2, q3, fun _ h3 => by simp at h3⟩), (fun h => by have h3 : dn 6 = true := hE.1 h; rw [hdn] at h3; cases h3), h9.out, (fun h => by have h3 : dn 6 = true := hE.1 (hE.2.1 h); rw [hdn] at h3; cases h3), (fun h => by have h3 : dn 6 = true := hE.1 (hE.2.1 (hE.2.2 h)); rw [hdn] at h3; cases h3), h12.out, h13.out, h14.out, h15.out, h16.out⟩
    | 7, _ =>
      obtain ⟨ty, ps, af, ho⟩ := op_lit hops (i := 7) (op := Op.buildSlice 22 1 #[(0, (Operand.const (Value.int .u8 0)))]) (dst := some 58) (g := some (3, true)) rfl
      obtain rfl := h3 (hdep 3 (by simp))
      have hy := fun tmps ht => yielded_lit hops (i := 3) (op := Op.move (Operand.tmp 53)) (t := 54) (g := none) rfl tmps true ht
      refine wpOp_lit ho (fun j b h => by cases h; exact hy _ rfl) ?_
      clear hops hdep ho hy
      replace h0 := hidH h0
      replace h1 := hidH h1
      replace h2 := hidH h2
      replace h3 := hidH h3
      replace h4 := hidH h4
      replace h5 := hidH h5
      replace h6 := hidH h6
      replace h8 := hidH h8
      replace h9 := hidH h9
      replace h10 := hidH h10
      replace h11 := hidH h11
      replace h12 := hidH h12
      replace h13 := hidH h13
      replace h14 := hidH h14
      replace h15 := hidH h15
      replace h16 := hidH h16
      go_wp2
      have hb := bal (Below.refl W.heap.size W) (.cells #[.int .u8 0] 5)
      exact (HJ.out _ _ _).2 ⟨_, _, _, _, _, _, _, _, _, _, _, _, _, _, _, _, _, rfl, hE, hMS, btr hO hb, h0.out, h1.out, h2.out, fun _ => rfl, fun h h2 => own_below (h4.out h h2) hb, h5.out, fun h h2 => own_below (h6.out h h2) hb, fun _ => fun _ => ⟨_, rfl, Blk.new _ _ _, hO.size, fun p q e => absurd ((h4.out p q).lt _ e).2 (Nat.lt_irrefl _)⟩, fun h => by obtain ⟨A1, c1, q1, q2⟩ := h8.out h; exact ⟨A1, c1, q1, bs_below q2 hb⟩, h9.out, fun h => by obtain ⟨A1, c1, q1, q2⟩ := h10.out h; exact ⟨A1, c1, q1, bs_below q2 hb⟩, fun h => by obtain ⟨A1, c1, q1, q2⟩ := h11.out h; exact ⟨A1, c1, q1, bs_below q2 hb⟩, h12.out, h13.out, h14.out, h15.out, h16.out⟩
    | 8, _ =>
      obtain ⟨ty, ps, af, ho⟩ := op_lit hops (i := 8) (op := Op.call { callee := Callee.builtin Builtin.append, args := #[(Operand.tmp 57), (Operand.tmp 58)], argTypes := #[22, 22] }) (dst := some 59) (g := some (3, true)) rfl
      obtain rfl := h3 (hdep 3 (by simp))
      have hy := fun tmps ht => yielded_lit hops (i := 3) (op := Op.move (Operand.tmp 53)) (t := 54) (g := none) rfl tmps true ht
      have o6 := hidH (h6 (hdep 6 (by simp)) hdn)
      have hd6 := hidH (hdep 6 (by simp))
      obtain ⟨g8, rfl, q2, q3, q4⟩ := h7 (hdep 7 (by simp)) hdn
      refine wpOp_lit ho (fun j b h => by cases h; exact hy _ rfl) ?_
      clear hops hdep ho hy
      replace h0 := hidH h0
      replace h1 := hidH h1
      replace h2 := hidH h2
      replace h3 := hidH h3
      replace h4 := hidH h4
      replace h5 := hidH h5
      replace h6 := hidH h6
      replace h7 := hidH h7
      replace h9 := hidH h9
      replace h10 := hidH h10
      replace h11 := hidH h11
      replace h12 := hidH h12
      replace h13 := hidH h13
      replace h14 := hidH h14
      replace h15 := hidH h15
      replace h16 := hidH h16
      have s8 : Bs W (some ⟨g8, 0, none⟩) [0] := .inr ⟨g8, 0, rfl, q2.lt, fun j hj => by
        have hj0 : j = 0 := by simpa using hj
        subst hj0
        exact q2.cell 0⟩
      have hsz := hO.size
      go_wp2_with (at_builtin; refine wpList_append_bs rfl _ _ rfl w0.heap.size _ _ _ rfl o6.out (some ⟨g8, 0, none⟩) [0] 1 rfl s8 (by simp; omega) hsz ?_)
      intro v2 w2 o2 hg
      have BB := hidH (hO.grown hg hsz (fun x hx => (o6.out.lt x hx).1))
      obtain ⟨A1, c1, rfl, ob, _, _⟩ := own_ob (d := kz) (by rw [hkz.out]; simpa using o2)
      have S8 := hidH ob.bs
      clear o2 ob
      go_wp2
      exact (HJ.out _ _ _).2 ⟨_, _, _, _, _, _, _, _, _, _, _, _, _, _, _, _, _, rfl, ⟨fun _ => hd6.out, fun _ => rfl, hE.2.2⟩, hMS, BB.out, h0.out, h1.out, h2.out, fun _ => rfl, (fun h h2 => by have h3 : dn 6 = false := h2; rw [hd6.out] at h3; cases h3), h5.out, fun _ h2 => by simp at h2, fun _ h2 => by simp at h2, fun _ => ⟨A1, c1, rfl, S8.out⟩, h9.out, (fun h => by have h3 : dn 8 = true := hE.2.1 h; rw [hdn] at h3; cases h3), (fun h => by have h3 : dn 8 = true := hE.2.1 (hE.2.2 h); rw [hdn] at h3; cases h3), h12.out, h13.out, h14.out, h15.out, h16.out⟩
    | 9, _ =>
      obtain ⟨ty, ps, af, ho⟩ := op_lit hops (i := 9) (op := Op.move (Operand.tmp 4)) (dst := some 60) (g := some (3, true)) rfl
      obtain rfl := h3 (hdep 3 (by simp))
      have hy := fun tmps ht => yielded_lit hops (i := 3) (op := Op.move (Operand.tmp 53)) (t := 54) (g := none) rfl tmps true ht
      refine wpOp_lit ho (fun j b h => by cases h; exact hy _ rfl) ?_
      clear hops hdep ho hy
      replace h0 := hidH h0
      replace h1 := hidH h1
      replace h2 := hidH h2
      replace h3 := hidH h3
      replace h4 := hidH h4
      replace h5 := hidH h5
      replace h6 := hidH h6
      replace h7 := hidH h7
      replace h8 := hidH h8
      replace h10 := hidH h10
      replace h11 := hidH h11
      replace h12 := hidH h12
      replace h13 := hidH h13
      replace h14 := hidH h14
      replace h15 := hidH h15
      replace h16 := hidH h16
      go_wp2
      exact (HJ.out _ _ _).2 ⟨_, _, _, _, _, _, _, _, _, _, _, _, _, _, _, _, _, rfl, hE, hMS, hO, h0.out, h1.out, h2.out, fun _ => rfl, h4.out, h5.out, h6.out, h7.out, h8.out, fun _ => rfl, h10.out, h11.out, h12.out, h13.out, h14.out, h15.out, h16.out⟩
    | 10, _ =>
      obtain ⟨ty, ps, af, ho⟩ := op_lit hops (i := 10) (op := Op.call { callee := Callee.value (Operand.func 10), args := #[(Operand.tmp 59), (Operand.tmp 60)], argTypes := #[22, 22] }) (dst := some 61) (g := some (3, true)) rfl
      obtain rfl := h3 (hdep 3 (by simp))
      have hy := fun tmps ht => yielded_lit hops (i := 3) (op := Op.move (Operand.tmp 53)) (t := 54) (g := none) rfl tmps true ht
      have hd8 := hidH (hdep 8 (by simp))
      obtain ⟨A1, c1, rfl, hT⟩ := h8 (hdep 8 (by simp))
      obtain rfl := h9 (hdep 9 (by simp))
      refine wpOp_lit ho (fun j b h => by cases h; exact hy _ rfl) ?_
      clear hops hdep ho hy
      replace h0 := hidH h0
      replace h1 := hidH h1
      replace h2 := hidH h2
      replace h3 := hidH h3
      replace h4 := hidH h4
      replace h5 := hidH h5
      replace h6 := hidH h6
      replace h7 := hidH h7
      replace h8 := hidH h8
      replace h9 := hidH h9
      replace h11 := hidH h11
      replace h12 := hidH h12
      replace h13 := hidH h13
      replace h14 := hidH h14
      replace h15 := hidH h15
      replace h16 := hidH h16
      have hM := hMS.below hO
      go_wp2_with fail
      refine (B1 _ A1 c1 hM hT).mono ?_
      rintro e w1 ⟨A2, c2, rfl, hT2, hb⟩
      go_wp2
      exact (HJ.out _ _ _).2 ⟨_, _, _, _, _, _, _, _, _, _, _, _, _, _, _, _, _, rfl, ⟨hE.1, fun _ => hd8.out, fun _ => rfl⟩, hMS, btr hO hb, h0.out, h1.out, h2.out, fun _ => rfl, fun h h2 => own_below (h4.out h h2) hb, h5.out, fun h h2 => own_below (h6.out h h2) hb, (fun h h2 => by obtain ⟨g8, q1, q2, q3, q4⟩ := h7.out h h2; exact ⟨g8, q1, q2.below hb, q3, q4⟩), fun _ => ⟨A1, c1, rfl, bs_below hT hb⟩, fun _ => rfl, fun _ => ⟨A2, c2, rfl, hT2⟩, fun h => by obtain ⟨A1, c1, q1, q2⟩ := h11.out h; exact ⟨A1, c1, q1, bs_below q2 hb⟩, h12.out, h13.out, h14.out, h15.out, h16.out⟩
    | 11, _ =>
      obtain ⟨ty, ps, af, ho⟩ := op_lit hops (i := 11) (op := Op.field 27 (Operand.tmp 61) 1) (dst := some 62) (g := some (3, true)) rfl
      obtain rfl := h3 (hdep 3 (by simp))
      have hy := fun tmps ht => yielded_lit hops (i := 3) (op := Op.move (Operand.tmp 53)) (t := 54) (g := none) rfl tmps true ht
      have hd10 := hidH (hdep 10 (by simp))
      obtain ⟨A1, c1, rfl, hT⟩ := h10 (hdep 10 (by simp))
      refine wpOp_lit ho (fun j b h => by cases h; exact hy _ rfl) ?_
      clear hops hdep ho hy
      replace h0 := hidH h0
      replace h1 := hidH h1
      replace h2 := hidH h2
      replace h3 := hidH h3
      replace h4 := hidH h4
      replace h5 := hidH h5
      replace h6 := hidH h6
      replace h7 := hidH h7
      replace h8 := hidH h8
      replace h9 := hidH h9
      replace h10 := hidH h10
      replace h12 := hidH h12
      replace h13 := hidH h13
      replace h14 := hidH h14
      replace h15 := hidH h15
      replace h16 := hidH h16
      have f1 := fldB7
      have hb := Below.refl W.heap.size W
      go_wp2
      exact (HJ.out _ _ _).2 ⟨_, _, _, _, _, _, _, _, _, _, _, _, _, _, _, _, _, rfl, ⟨hE.1, hE.2.1, fun _ => hd10.out⟩, hMS, btr hO hb, h0.out, h1.out, h2.out, fun _ => rfl, fun h h2 => own_below (h4.out h h2) hb, h5.out, fun h h2 => own_below (h6.out h h2) hb, (fun h h2 => by obtain ⟨g8, q1, q2, q3, q4⟩ := h7.out h h2; exact ⟨g8, q1, q2.below hb, q3, q4⟩), fun h => by obtain ⟨A1, c1, q1, q2⟩ := h8.out h; exact ⟨A1, c1, q1, bs_below q2 hb⟩, h9.out, fun _ => ⟨A1, c1, rfl, bs_below hT hb⟩, fun _ => ⟨A1, c1, rfl, hT⟩, h12.out, h13.out, h14.out, h15.out, h16.out⟩
    | 12, _ =>
      obtain ⟨ty, ps, af, ho⟩ := op_lit hops (i := 12) (op := Op.fieldAddr 27 (Operand.tmp 5) 1) (dst := some 63) (g := some (3, true)) rfl
      obtain rfl := h3 (hdep 3 (by simp))
      have hy := fun tmps ht => yielded_lit hops (i := 3) (op := Op.move (Operand.tmp 53)) (t := 54) (g := none) rfl tmps true ht
      refine wpOp_lit ho (fun j b h => by cases h; exact hy _ rfl) ?_
      clear hops hdep ho hy
      replace h0 := hidH h0
      replace h1 := hidH h1
      replace h2 := hidH h2
      replace h3 := hidH h3
      replace h4 := hidH h4
      replace h5 := hidH h5
      replace h6 := hidH h6
      replace h7 := hidH h7
      replace h8 := hidH h8
      replace h9 := hidH h9
      replace h10 := hidH h10
      replace h11 := hidH h11
      replace h13 := hidH h13
      replace h14 := hidH h14
      replace h15 := hidH h15
      replace h16 := hidH h16
      go_wp2
      exact (HJ.out _ _ _).2 ⟨_, _, _, _, _, _, _, _, _, _, _, _, _, _, _, _, _, rfl, hE, hMS, hO, h0.out, h1.out, h2.out, fun _ => rfl, h4.out, h5.out, h6.out, h7.out, h8.out, h9.out, h10.out, h11.out, fun _ => rfl, h13.out, h14.out, h15.out, h16.out⟩
    | 13, _ =>
      obtain ⟨ty, ps, af, ho⟩ := op_lit hops (i := 13) (op := Op.load 22 (Operand.tmp 63)) (dst := some 64) (g := some (3, true)) rfl
      obtain rfl := h3 (hdep 3 (by simp))
      have hy := fun tmps ht => yielded_lit hops (i := 3) (op := Op.move (Operand.tmp 53)) (t := 54) (g := none) rfl tmps true ht
      obtain rfl := h12 (hdep 12 (by simp))
      refine wpOp_lit ho (fun j b h => by cases h; exact hy _ rfl) ?_
      clear hops hdep ho hy
      replace h0 := hidH h0
      replace h1 := hidH h1
      replace h2 := hidH h2
      replace h3 := hidH h3
      replace h4 := hidH h4
      replace h5 := hidH h5
      replace h6 := hidH h6
      replace h7 := hidH h7
      replace h8 := hidH h8
      replace h9 := hidH h9
      replace h10 := hidH h10
      replace h11 := hidH h11
      replace h12 := hidH h12
      replace h14 := hidH h14
      replace h15 := hidH h15
      replace h16 := hidH h16
      have hM := hMS.below hO
      have q1 := hM.blk.cell 1
      simp only [List.getElem?_toArray, List.getElem?_cons_succ, List.getElem?_cons_zero] at q1
      go_wp2
      exact (HJ.out _ _ _).2 ⟨_, _, _, _, _, _, _, _, _, _, _, _, _, _, _, _, _, rfl, hE, hMS, hO, h0.out, h1.out, h2.out, fun _ => rfl, h4.out, h5.out, h6.out, h7.out, h8.out, h9.out, h10.out, h11.out, fun _ => rfl, fun _ => rfl, h14.out, h15.out, h16.out⟩
    | 14, _ =>
      obtain ⟨ty, ps, af, ho⟩ := op_lit hops (i := 14) (op := Op.call { callee := Callee.value (Operand.func 15), args := #[(Operand.tmp 62), (Operand.tmp 64)], argTypes := #[22, 22] }) (dst := some 65) (g := some (3, true)) rfl
      obtain rfl := h3 (hdep 3 (by simp))
      have hy := fun tmps ht => yielded_lit hops (i := 3) (op := Op.move (Operand.tmp 53)) (t := 54) (g := none) rfl tmps true ht
      obtain ⟨A1, c1, rfl, hT⟩ := h11 (hdep 11 (by simp))
      obtain rfl := h13 (hdep 13 (by simp))
      refine wpOp_lit ho (fun j b h => by cases h; exact hy _ rfl) ?_
      clear hops hdep ho hy
      replace h0 := hidH h0
      replace h1 := hidH h1
      replace h2 := hidH h2
      replace h3 := hidH h3
      replace h4 := hidH h4
      replace h5 := hidH h5
      replace h6 := hidH h6
      replace h7 := hidH h7
      replace h8 := hidH h8
      replace h9 := hidH h9
      replace h10 := hidH h10
      replace h11 := hidH h11
      replace h12 := hidH h12
      replace h13 := hidH h13
      replace h15 := hidH h15
      replace h16 := hidH h16
      have hmac := (hMS.below hO).mac
      go_wp2_with fail
      refine (lwB_sameB _ _ ml _ _ _ hT hmac).mono ?_
      rintro e w1 ⟨rfl, hb⟩
      go_wp2
      exact (HJ.out _ _ _).2 ⟨_, _, _, _, _, _, _, _, _, _, _, _, _, _, _, _, _, rfl, hE, hMS, btr hO hb, h0.out, h1.out, h2.out, fun _ => rfl, fun h h2 => own_below (h4.out h h2) hb, h5.out, fun h h2 => own_below (h6.out h h2) hb, (fun h h2 => by obtain ⟨g8, q1, q2, q3, q4⟩ := h7.out h h2; exact ⟨g8, q1, q2.below hb, q3, q4⟩), fun h => by obtain ⟨A1, c1, q1, q2⟩ := h8.out h; exact ⟨A1, c1, q1, bs_below q2 hb⟩, h9.out, fun h => by obtain ⟨A1, c1, q1, q2⟩ := h10.out h; exact ⟨A1, c1, q1, bs_below q2 hb⟩, fun _ => ⟨A1, c1, rfl, bs_below hT hb⟩, h12.out, fun _ => rfl, fun _ => rfl, h15.out, h16.out⟩
    | 15, _ =>
      obtain ⟨ty, ps, af, ho⟩ := op_lit hops (i := 15) (op := Op.unOp UnOp.not 4 (Operand.tmp 65)) (dst := some 66) (g := some (3, true)) rfl
      obtain rfl := h3 (hdep 3 (by simp))
      have hy := fun tmps ht => yielded_lit hops (i := 3) (op := Op.move (Operand.tmp 53)) (t := 54) (g := none) rfl tmps true ht
      obtain rfl := h14 (hdep 14 (by simp))
      refine wpOp_lit ho (fun j b h => by cases h; exact hy _ rfl) ?_
      clear hops hdep ho hy
      replace h0 := hidH h0
      replace h1 := hidH h1
      replace h2 := hidH h2
      replace h3 := hidH h3
      replace h4 := hidH h4
      replace h5 := hidH h5
      replace h6 := hidH h6
      replace h7 := hidH h7
      replace h8 := hidH h8
      replace h9 := hidH h9
      replace h10 := hidH h10
      replace h11 := hidH h11
      replace h12 := hidH h12
      replace h13 := hidH h13
      replace h14 := hidH h14
      replace h16 := hidH h16
      go_wp2
      exact (HJ.out _ _ _).2 ⟨_, _, _, _, _, _, _, _, _, _, _, _, _, _, _, _, _, rfl, hE, hMS, hO, h0.out, h1.out, h2.out, fun _ => rfl, h4.out, h5.out, h6.out, h7.out, h8.out, h9.out, h10.out, h11.out, h12.out, h13.out, fun _ => rfl, fun _ => rfl, h16.out⟩
    | 16, _ =>
      obtain ⟨ty, ps, af, ho⟩ := op_lit hops (i := 16) (op := Op.pick (Operand.tmp 54) (Operand.tmp 66) (Operand.const (Value.bool false))) (dst := some 67) (g := none) rfl
      obtain rfl := h3 (hdep 3 (by simp))
      obtain rfl := h15 (hdep 15 (by simp))
      refine wpOp_lit ho (fun j b h => by cases h) ?_
      clear hops hdep ho
      replace h0 := hidH h0
      replace h1 := hidH h1
      replace h2 := hidH h2
      replace h3 := hidH h3
      replace h4 := hidH h4
      replace h5 := hidH h5
      replace h6 := hidH h6
      replace h7 := hidH h7
      replace h8 := hidH h8
      replace h9 := hidH h9
      replace h10 := hidH h10
      replace h11 := hidH h11
      replace h12 := hidH h12
      replace h13 := hidH h13
      replace h14 := hidH h14
      replace h15 := hidH h15
      go_wp2
      exact (HJ.out _ _ _).2 ⟨_, _, _, _, _, _, _, _, _, _, _, _, _, _, _, _, _, rfl, hE, hMS, hO, h0.out, h1.out, h2.out, fun _ => rfl, h4.out, h5.out, h6.out, h7.out, h8.out, h9.out, h10.out, h11.out, h12.out, h13.out, h14.out, fun _ => rfl, fun _ => rfl⟩
    | n + 17, h => omega
  case fin =>
    clear hops hdeps hback
    rintro dn ac W hJ hall
    obtain ⟨t51, t52, t53, t54, t55, t56, t57, t58, t59, t60, t61, t62, t63, t64, t65, t66, t67, rfl, hE, hMS, hO, h0, h1, h2, h3, h4, h5, h6, h7, h8, h9, h10, h11, h12, h13, h14, h15, h16⟩ := (HJ.out _ _ _).1 hJ
    obtain rfl := h16 (hall 16 (by omega))
    exact fin _ _ _ _ _ _ _ _ _ _ _ _ _ _ _ _ W hO
set_option maxRecDepth 100000 in
set_option maxHeartbeats 1000000 in
theorem regMac10n {Q : Exit → Act → World → Prop} (x1 x8 x9 x10 x11 x12 x13 x14 x15 x16 x17 x18 x19 x20 x21 x22 x23 x24 x25 x26 x27 x28 x29 x30 x31 x32 x33 x34 x35 x36 x37 x38 x39 x40 x41 x42 x43 x44 x45 x46 x47 x48 x49 x50 : Value) (ws : World) (g : Nat) (M K D PA PB cA : Option Addr) (ml k d a b l : List Int) (cm ck cd pa pb ca : Nat) (hk : (64 : Int) ≤ (k.length : Int)) {ops : Array Oper}
    (hops : (ops.map fun o => (o.op, o.dst, o.guard)) = #[(Op.move (Operand.tmp 3), some 51, none), (Op.call { callee := Callee.builtin Builtin.len, args := #[(Operand.tmp 51)], argTypes := #[22] }, some 52, none), (Op.binOp BinOp.lss 3 (Operand.tmp 52) ((Operand.const (Value.int .i64 64))) 3, some 53, none), (Op.move (Operand.tmp 53), some 54, none), (Op.buildSlice 22 0 #[], some 55, some (3, true)), (Op.move (Operand.tmp 3), some 56, some (3, true)), (Op.call { callee := Callee.builtin Builtin.append, args := #[(Operand.tmp 55), (Operand.tmp 56)], argTypes := #[22, 22] }, some 57, some (3, true)), (Op.buildSlice 22 1 #[(0, (Operand.const (Value.int .u8 0)))], some 58, some (3, true)), (Op.call { callee := Callee.builtin Builtin.append, args := #[(Operand.tmp 57), (Operand.tmp 58)], argTypes := #[22, 22] }, some 59, some (3, true)), (Op.move (Operand.tmp 4), some 60, some (3, true)), (Op.call { callee := Callee.value (Operand.func 10), args := #[(Operand.tmp 59), (Operand.tmp 60)], argTypes := #[22, 22] }, some 61, some (3, true)), (Op.field 27 (Operand.tmp 61) 1, some 62, some (3, true)), (Op.fieldAddr 27 (Operand.tmp 5) 1, some 63, some (3, true)), (Op.load 22 (Operand.tmp 63), some 64, some (3, true)), (Op.call { callee := Callee.value (Operand.func 15), args := #[(Operand.tmp 62), (Operand.tmp 64)], argTypes := #[22, 22] }, some 65, some (3, true)), (Op.unOp UnOp.not 4 (Operand.tmp 65), some 66, some (3, true)), (Op.pick (Operand.tmp 54) (Operand.tmp 66) (Operand.const (Value.bool false)), some 67, none)])
    (hdeps : ((List.range 17).all fun i => ((fun i => [[], [0], [1], [2], [3], [3], [3, 4, 5], [3], [3, 6, 7], [3], [3, 8, 9], [3, 10], [3], [3, 12], [3, 11, 13], [3, 14], [3, 15]].getD i []) i).all fun j => ((ops[i]?).map fun o => o.after.any fun e => Region.binds .any e && e.on == j).getD false) = true)
    (hback : ((List.range 17).all fun i => ((ops[i]?).map fun o => o.after.all fun e => decide (e.on < i)).getD false) = true)
    {a0 : Act} {w0 : World} (ha : a0 = { tmps := #[.slice cA l.length ca, x1, .bool false, .slice K k.length ck, .slice D d.length cd, .pointer (some ⟨g, 0, none⟩), .slice PA a.length pa, .slice PB b.length pb, x8, x9, x10, x11, x12, x13, x14, x15, x16, x17, x18, x19, x20, x21, x22, x23, x24, x25, x26, x27, x28, x29, x30, x31, x32, x33, x34, x35, x36, x37, x38, x39, x40, x41, x42, x43, x44, x45, x46, x47, x48, x49, x50, undef, undef, undef, undef, undef, undef, undef, undef, undef, undef, undef, undef, undef, undef, undef, undef, undef, undef, undef, undef, undef, undef, undef, undef, undef, undef, undef, undef, undef, undef, undef, undef, undef, undef, undef, undef, undef, undef, undef, undef, undef, undef, undef, undef, undef, undef, undef, undef, undef, undef, undef], defers := [] }) (hM : MS ws g 0 M ml cm K k D d PA a PB b cA l w0)
    (fin : ∀ t51 t52 t53 t54 t55 t56 t57 t58 t59 t60 t61 t62 t63 t64 t65 t66 (W : World), (MS ws g 0 M ml cm K k D d PA a PB b cA l W) → Q .normal { tmps := #[.slice cA l.length ca, x1, .bool false, .slice K k.length ck, .slice D d.length cd, .pointer (some ⟨g, 0, none⟩), .slice PA a.length pa, .slice PB b.length pb, x8, x9, x10, x11, x12, x13, x14, x15, x16, x17, x18, x19, x20, x21, x22, x23, x24, x25, x26, x27, x28, x29, x30, x31, x32, x33, x34, x35, x36, x37, x38, x39, x40, x41, x42, x43, x44, x45, x46, x47, x48, x49, x50, t51, t52, t53, t54, t55, t56, t57, t58, t59, t60, t61, t62, t63, t64, t65, t66, .bool false, undef, undef, undef, undef, undef, undef, undef, undef, undef, undef, undef, undef, undef, undef, undef, undef, undef, undef, undef, undef, undef, undef, undef, undef, undef, undef, undef, undef, undef, undef, undef, undef, undef, undef], defers := [] } W) :
    wpAny Try.prog .any ops Q ops.size (Array.replicate ops.size false) a0 w0 := by
  have hn : ops.size = 17 := by have := congrArg Array.size hops; simpa using this
  obtain ⟨J, HJ⟩ : ∃ J : (Nat → Bool) → Act → World → Prop, ∀ dn ac W, J dn ac W ↔ (fun dn ac W => ∃ t51 t52 t53 t54 t55 t56 t57 t58 t59 t60 t61 t62 t63 t64 t65 t66 t67, ac = { tmps := #[.slice cA l.length ca, x1, .bool false, .slice K k.length ck, .slice D d.length cd, .pointer (some ⟨g, 0, none⟩), .slice PA a.length pa, .slice PB b.length pb, x8, x9, x10, x11, x12, x13, x14, x15, x16, x17, x18, x19, x20, x21, x22, x23, x24, x25, x26, x27, x28, x29, x30, x31, x32, x33, x34, x35, x36, x37, x38, x39, x40, x41, x42, x43, x44, x45, x46, x47, x48, x49, x50, t51, t52, t53, t54, t55, t56, t57, t58, t59, t60, t61, t62, t63, t64, t65, t66, t67, undef, undef, undef, undef, undef, undef, undef, undef, undef, undef, undef, undef, undef, undef, undef, undef, undef, undef, undef, undef, undef, undef, undef, undef, undef, undef, undef, undef, undef, undef, undef, undef, undef, undef], defers := [] } ∧ (MS ws g 0 M ml cm K k D d PA a PB b cA l W) ∧ (dn 0 = true → t51 = .slice K k.length ck) ∧ (dn 1 = true → t52 = .int .i64 (k.length : Int)) ∧ (dn 2 = true → t53 = .bool false) ∧ (dn 3 = true → t54 = .bool false) ∧ (dn 4 = true → t55 = undef) ∧ (dn 5 = true → t56 = undef) ∧ (dn 6 = true → t57 = undef) ∧ (dn 7 = true → t58 = undef) ∧ (dn 8 = true → t59 = undef) ∧ (dn 9 = true → t60 = undef) ∧ (dn 10 = true → t61 = undef) ∧ (dn 11 = true → t62 = undef) ∧ (dn 12 = true → t63 = undef) ∧ (dn 13 = true → t64 = undef) ∧ (dn 14 = true → t65 = undef) ∧ (dn 15 = true → t66 = undef) ∧ (dn 16 = true → t67 = .bool false)) dn ac W := ⟨_, fun _ _ _ => Iff.rfl⟩
  replace HJ := hidH HJ
  refine region_inv 17 (fun i => [[], [0], [1], [2], [3], [3], [3, 4, 5], [3], [3, 6, 7], [3], [3, 8, 9], [3, 10], [3], [3, 12], [3, 11, 13], [3, 14], [3, 15]].getD i []) J hn hdeps hback ?start ?step ?fin
  case start => exact (HJ.out _ _ _).2 ⟨undef, undef, undef, undef, undef, undef, undef, undef, undef, undef, undef, undef, undef, undef, undef, undef, undef, ha, hM, fun h => by simp at h, fun h => by simp at h, fun h => by simp at h, fun h => by simp at h, fun h => by simp at h, fun h => by simp at h, fun h => by simp at h, fun h => by simp at h, fun h => by simp at h, fun h => by simp at h, fun h => by simp at h, fun h => by simp at h, fun h => by simp at h, fun h => by simp at h, fun h => by simp at h, fun h => by simp at h, fun h => by simp at h⟩
  all_goals clear ha hM
  case step =>
    clear fin hdeps hback
    intro i hi dn ac W hJ hdn hdep
    obtain ⟨t51, t52, t53, t54, t55, t56, t57, t58, t59, t60, t61, t62, t63, t64, t65, t66, t67, rfl, hM, h0, h1, h2, h3, h4, h5, h6, h7, h8, h9, h10, h11, h12, h13, h14, h15, h16⟩ := (HJ.out _ _ _).1 hJ
    clear hJ
    match i, hi with
    | 0, _ =>
      obtain ⟨ty, ps, af, ho⟩ := op_lit hops (i := 0) (op := Op.move (Operand.tmp 3)) (dst := some 51) (g := none) rfl
      refine wpOp_lit ho (fun j b h => by cases h) ?_
      clear hops hdep ho
      replace h1 := hidH h1
      replace h2 := hidH h2
      replace h3 := hidH h3
      replace h4 := hidH h4
      replace h5 := hidH h5
      replace h6 := hidH h6
      replace h7 := hidH h7
      replace h8 := hidH h8
      replace h9 := hidH h9
      replace h10 := hidH h10
      replace h11 := hidH h11
      replace h12 := hidH h12
      replace h13 := hidH h13
      replace h14 := hidH h14
      replace h15 := hidH h15
      replace h16 := hidH h16
      go_wp2
      exact (HJ.out _ _ _).2 ⟨_, _, _, _, _, _, _, _, _, _, _, _, _, _, _, _, _, rfl, hM, fun _ => rfl, h1.out, h2.out, h3.out, h4.out, h5.out, h6.out, h7.out, h8.out, h9.out, h10.out, h11.out, h12.out, h13.out, h14.out, h15.out, h16.out⟩
    | 1, _ =>
      obtain ⟨ty, ps, af, ho⟩ := op_lit hops (i := 1) (op := Op.call { callee := Callee.builtin Builtin.len, args := #[(Operand.tmp 51)], argTypes := #[22] }) (dst := some 52) (g := none) rfl
      obtain rfl := h0 (hdep 0 (by simp))
      refine wpOp_lit ho (fun j b h => by cases h) ?_
      clear hops hdep ho
      replace h0 := hidH h0
      replace h2 := hidH h2
      replace h3 := hidH h3
      replace h4 := hidH h4
      replace h5 := hidH h5
      replace h6 := hidH h6
      replace h7 := hidH h7
      replace h8 := hidH h8
      replace h9 := hidH h9
      replace h10 := hidH h10
      replace h11 := hidH h11
      replace h12 := hidH h12
      replace h13 := hidH h13
      replace h14 := hidH h14
      replace h15 := hidH h15
      replace h16 := hidH h16
      go_wp2
      exact (HJ.out _ _ _).2 ⟨_, _, _, _, _, _, _, _, _, _, _, _, _, _, _, _, _, rfl, hM, fun _ => rfl, fun _ => rfl, h2.out, h3.out, h4.out, h5.out, h6.out, h7.out, h8.out, h9.out, h10.out, h11.out, h12.out, h13.out, h14.out, h15.out, h16.out⟩
    | 2, _ =>
      obtain ⟨ty, ps, af, ho⟩ := op_lit hops (i := 2) (op := Op.binOp BinOp.lss 3 (Operand.tmp 52) ((Operand.const (Value.int .i64 64))) 3) (dst := some 53) (g := none) rfl
      obtain rfl := h1 (hdep 1 (by simp))
      refine wpOp_lit ho (fun j b h => by cases h) ?_
      clear hops hdep ho
      replace h0 := hidH h0
      replace h1 := hidH h1
      replace h3 := hidH h3
      replace h4 := hidH h4
      replace h5 := hidH h5
      replace h6 := hidH h6
      replace h7 := hidH h7
      replace h8 := hidH h8
      replace h9 := hidH h9
      replace h10 := hidH h10
      replace h11 := hidH h11
      replace h12 := hidH h12
      replace h13 := hidH h13
      replace h14 := hidH h14
      replace h15 := hidH h15
      replace h16 := hidH h16
      have hdd : decide ((k.length : Int) < 64) = false := by simp; omega
      go_wp2
      exact (HJ.out _ _ _).2 ⟨_, _, _, _, _, _, _, _, _, _, _, _, _, _, _, _, _, rfl, hM, h0.out, fun _ => rfl, fun _ => rfl, h3.out, h4.out, h5.out, h6.out, h7.out, h8.out, h9.out, h10.out, h11.out, h12.out, h13.out, h14.out, h15.out, h16.out⟩
    | 3, _ =>
      obtain ⟨ty, ps, af, ho⟩ := op_lit hops (i := 3) (op := Op.move (Operand.tmp 53)) (dst := some 54) (g := none) rfl
      obtain rfl := h2 (hdep 2 (by simp))
      refine wpOp_lit ho (fun j b h => by cases h) ?_
      clear hops hdep ho
      replace h0 := hidH h0
      replace h1 := hidH h1
      replace h2 := hidH h2
      replace h4 := hidH h4
      replace h5 := hidH h5
      replace h6 := hidH h6
      replace h7 := hidH h7
      replace h8 := hidH h8
      replace h9 := hidH h9
      replace h10 := hidH h10
      replace h11 := hidH h11
      replace h12 := hidH h12
      replace h13 := hidH h13
      replace h14 := hidH h14
      replace h15 := hidH h15
      replace h16 := hidH h16
      go_wp2
      exact (HJ.out _ _ _).2 ⟨_, _, _, _, _, _, _, _, _, _, _, _, _, _, _, _, _, rfl, hM, h0.out, h1.out, fun _ => rfl, fun _ => rfl, h4.out, h5.out, h6.out, h7.out, h8.out, h9.out, h10.out, h11.out, h12.out, h13.out, h14.out, h15.out, h16.out⟩
    | 4, _ =>
      obtain ⟨ty, ps, af, ho⟩ := op_lit hops (i := 4) (op := Op.buildSlice 22 0 #[]) (dst := some 55) (g := some (3, true)) rfl
      obtain rfl := h3 (hdep 3 (by simp))
      have hy := fun tmps ht => yielded_lit hops (i := 3) (op := Op.move (Operand.tmp 53)) (t := 54) (g := none) rfl tmps false ht
      refine wpOp_off ho (hy _ rfl) (by decide) ?_
      clear hops hdep
      replace h0 := hidH h0
      replace h1 := hidH h1
      replace h2 := hidH h2
      replace h3 := hidH h3
      replace h5 := hidH h5
      replace h6 := hidH h6
      replace h7 := hidH h7
      replace h8 := hidH h8
      replace h9 := hidH h9
      replace h10 := hidH h10
      replace h11 := hidH h11
      replace h12 := hidH h12
      replace h13 := hidH h13
      replace h14 := hidH h14
      replace h15 := hidH h15
      replace h16 := hidH h16
      exact (HJ.out _ _ _).2 ⟨_, _, _, _, _, _, _, _, _, _, _, _, _, _, _, _, _, rfl, hM, h0.out, h1.out, h2.out, fun _ => rfl, fun _ => rfl, h5.out, h6.out, h7.out, h8.out, h9.out, h10.out, h11.out, h12.out, h13.out, h14.out, h15.out, h16.out⟩
    | 5, _ =>
      obtain ⟨ty, ps, af, ho⟩ := op_lit hops (i := 5) (op := Op.move (Operand.tmp 3)) (dst := some 56) (g := some (3, true)) rfl
      obtain rfl := h3 (hdep 3 (by simp))
      have hy := fun tmps ht => yielded_lit hops (i := 3) (op := Op.move (Operand.tmp 53)) (t := 54) (g := none) rfl tmps false ht
      refine wpOp_off ho (hy _ rfl) (by decide) ?_
      clear hops hdep
      replace h0 := hidH h0
      replace h1 := hidH h1
      replace h2 := hidH h2
      replace h3 := hidH h3
      replace h4 := hidH h4
      replace h6 := hidH h6
      replace h7 := hidH h7
      replace h8 := hidH h8
      replace h9 := hidH h9
      replace h10 := hidH h10
      replace h11 := hidH h11
      replace h12 := hidH h12
      replace h13 := hidH h13
      replace h14 := hidH h14
      replace h15 := hidH h15
      replace h16 := hidH h16
      exact (HJ.out _ _ _).2 ⟨_, _, _, _, _, _, _, _, _, _, _, _, _, _, _, _, _, rfl, hM, h0.out, h1.out, h2.out, fun _ => rfl, h4.out, fun _ => rfl, h6.out, h7.out, h8.out, h9.out, h10.out, h11.out, h12.out, h13.out, h14.out, h15.out, h16.out⟩
    | 6, _ =>
      obtain ⟨ty, ps, af, ho⟩ := op_lit hops (i := 6) (op := Op.call { callee := Callee.builtin Builtin.append, args := #[(Operand.tmp 55), (Operand.tmp 56)], argTypes := #[22, 22] }) (dst := some 57) (g := some (3, true)) rfl
      obtain rfl := h3 (hdep 3 (by simp))
      have hy := fun tmps ht => yielded_lit hops (i := 3) (op := Op.move (Operand.tmp 53)) (t := 54) (g := none) rfl tmps false ht
      refine wpOp_off ho (hy _ rfl) (by decide) ?_
      clear hops hdep
      replace h0 := hidH h0
      replace h1 := hidH h1
      replace h2 := hidH h2
      replace h3 := hidH h3
      replace h4 := hidH h4
      replace h5 := hidH h5
      replace h7 := hidH h7
      replace h8 := hidH h8
      replace h9 := hidH h9
      replace h10 := hidH h10
      replace h11 := hidH h11
      replace h12 := hidH h12
      replace h13 := hidH h13
      replace h14 := hidH h14
      replace h15 := hidH h15
      replace h16 := hidH h16
      exact (HJ.out _ _ _).2 ⟨_, _, _, _, _, _, _, _, _, _, _, _, _, _, _, _, _, rfl, hM, h0.out, h1.out, h2.out, fun _ => rfl, h4.out, h5.out, fun _ => rfl, h7.out, h8.out, h9.out, h10.out, h11.out, h12.out, h13.out, h14.out, h15.out, h16.out⟩
    | 7, _ =>
      obtain ⟨ty, ps, af, ho⟩ := op_lit hops (i := 7) (op := Op.buildSlice 22 1 #[(0, (Operand.const (Value.int .u8 0)))]) (dst := some 58) (g := some (3, true)) rfl
      obtain rfl := h3 (hdep 3 (by simp))
      have hy := fun tmps ht => yielded_lit hops (i := 3) (op := Op.move (Operand.tmp 53)) (t := 54) (g := none) rfl tmps false ht
      refine wpOp_off ho (hy _ rfl) (by decide) ?_
      clear hops hdep
      replace h0 := hidH h0
      replace h1 := hidH h1
      replace h2 := hidH h2
      replace h3 := hidH h3
      replace h4 := hidH h4
      replace h5 := hidH h5
      replace h6 := hidH h6
      replace h8 := hidH h8
      replace h9 := hidH h9
      replace h10 := hidH h10
      replace h11 := hidH h11
      replace h12 := hidH h12
      replace h13 := hidH h13
      replace h14 := hidH h14
      replace h15 := hidH h15
      replace h16 := hidH h16
      exact (HJ.out _ _ _).2 ⟨_, _, _, _, _, _, _, _, _, _, _, _, _, _, _, _, _, rfl, hM, h0.out, h1.out, h2.out, fun _ => rfl, h4.out, h5.out, h6.out, fun _ => rfl, h8.out, h9.out, h10.out, h11.out, h12.out, h13.out, h14.out, h15.out, h16.out⟩
    | 8, _ =>
      obtain ⟨ty, ps, af, ho⟩ := op_lit hops (i := 8) (op := Op.call { callee := Callee.builtin Builtin.append, args := #[(Operand.tmp 57), (Operand.tmp 58)], argTypes := #[22, 22] }) (dst := some 59) (g := some (3, true)) rfl
      obtain rfl := h3 (hdep 3 (by simp))
      have hy := fun tmps ht => yielded_lit hops (i := 3) (op := Op.move (Operand.tmp 53)) (t := 54) (g := none) rfl tmps false ht
      refine wpOp_off ho (hy _ rfl) (by decide) ?_
      clear hops hdep
      replace h0 := hidH h0
      replace h1 := hidH h1
      replace h2 := hidH h2
      replace h3 := hidH h3
      replace h4 := hidH h4
      replace h5 := hidH h5
      replace h6 := hidH h6
      replace h7 := hidH h7
      replace h9 := hidH h9
      replace h10 := hidH h10
      replace h11 := hidH h11
      replace h12 := hidH h12
      replace h13 := hidH h13
      replace h14 := hidH h14
      replace h15 := hidH h15
      replace h16 := hidH h16
      exact (HJ.out _ _ _).2 ⟨_, _, _, _, _, _, _, _, _, _, _, _, _, _, _, _, _, rfl, hM, h0.out, h1.out, h2.out, fun _ => rfl, h4.out, h5.out, h6.out, h7.out, fun _ => rfl, h9.out, h10.out, h11.out, h12.out, h13.out, h14.out, h15.out, h16.out⟩
    | 9, _ =>
      obtain ⟨ty, ps, af, ho⟩ := op_lit hops (i := 9) (op := Op.move (Operand.tmp 4)) (dst := some 60) (g := some (3, true)) rfl
      obtain rfl := h3 (hdep 3 (by simp))
      have hy := fun tmps ht => yielded_lit hops (i := 3) (op := Op.move (Operand.tmp 53)) (t := 54) (g := none) rfl tmps false ht
      refine wpOp_off ho (hy _ rfl) (by decide) ?_
      clear hops hdep
      replace h0 := hidH h0
      replace h1 := hidH h1
      replace h2 := hidH h2
      replace h3 := hidH h3
      replace h4 := hidH h4
      replace h5 := hidH h5
      replace h6 := hidH h6
      replace h7 := hidH h7
      replace h8 := hidH h8
      replace h10 := hidH h10
      replace h11 := hidH h11
      replace h12 := hidH h12
      replace h13 := hidH h13
      replace h14 := hidH h14
      replace h15 := hidH h15
      replace h16 := hidH h16
      exact (HJ.out _ _ _).2 ⟨_, _, _, _, _, _, _, _, _, _, _, _, _, _, _, _, _, rfl, hM, h0.out, h1.out, h2.out, fun _ => rfl, h4.out, h5.out, h6.out, h7.out, h8.out, fun _ => rfl, h10.out, h11.out, h12.out, h13.out, h14.out, h15.out, h16.out⟩
    | 10, _ =>
      obtain ⟨ty, ps, af, ho⟩ := op_lit hops (i := 10) (op := Op.call { callee := Callee.value (Operand.func 10), args := #[(Operand.tmp 59), (Operand.tmp 60)], argTypes := #[22, 22] }) (dst := some 61) (g := some (3, true)) rfl
      obtain rfl := h3 (hdep 3 (by simp))
      have hy := fun tmps ht => yielded_lit hops (i := 3) (op := Op.move (Operand.tmp 53)) (t := 54) (g := none) rfl tmps false ht
      refine wpOp_off ho (hy _ rfl) (by decide) ?_
      clear hops hdep
      replace h0 := hidH h0
      replace h1 := hidH h1
      replace h2 := hidH h2
      replace h3 := hidH h3
      replace h4 := hidH h4
      replace h5 := hidH h5
      replace h6 := hidH h6
      replace h7 := hidH h7
      replace h8 := hidH h8
      replace h9 := hidH h9
      replace h11 := hidH h11
      replace h12 := hidH h12
      replace h13 := hidH h13
      replace h14 := hidH h14
      replace h15 := hidH h15
      replace h16 := hidH h16
      exact (HJ.out _ _ _).2 ⟨_, _, _, _, _, _, _, _, _, _, _, _, _, _, _, _, _, rfl, hM, h0.out, h1.out, h2.out, fun _ => rfl, h4.out, h5.out, h6.out, h7.out, h8.out, h9.out, fun _ => rfl, h11.out, h12.out, h13.out, h14.out, h15.out, h16.out⟩
    | 11, _ =>
      obtain ⟨ty, ps, af, ho⟩ := op_lit hops (i := 11) (op := Op.field 27 (Operand.tmp 61) 1) (dst := some 62) (g := some (3, true)) rfl
      obtain rfl := h3 (hdep 3 (by simp))
      have hy := fun tmps ht => yielded_lit hops (i := 3) (op := Op.move (Operand.tmp 53)) (t := 54) (g := none) rfl tmps false ht
      refine wpOp_off ho (hy _ rfl) (by decide) ?_
      clear hops hdep
      replace h0 := hidH h0
      replace h1 := hidH h1
      replace h2 := hidH h2
      replace h3 := hidH h3
      replace h4 := hidH h4
      replace h5 := hidH h5
      replace h6 := hidH h6
      replace h7 := hidH h7
      replace h8 := hidH h8
      replace h9 := hidH h9
      replace h10 := hidH h10
      replace h12 := hidH h12
      replace h13 := hidH h13
      replace h14 := hidH h14
      replace h15 := hidH h15
      replace h16 := hidH h16
      exact (HJ.out _ _ _).2 ⟨_, _, _, _, _, _, _, _, _, _, _, _, _, _, _, _, _, rfl, hM, h0.out, h1.out, h2.out, fun _ => rfl, h4.out, h5.out, h6.out, h7.out, h8.out, h9.out, h10.out, fun _ => rfl, h12.out, h13.out, h14.out, h15.out, h16.out⟩
    | 12, _ =>
      obtain ⟨ty, ps, af, ho⟩ := op_lit hops (i := 12) (op := Op.fieldAddr 27 (Operand.tmp 5) 1) (dst := some 63) (g := some (3, true)) rfl
      obtain rfl := h3 (hdep 3 (by simp))
      have hy := fun tmps ht => yielded_lit hops (i := 3) (op := Op.move (Operand.tmp 53)) (t := 54) (g := none) rfl tmps false ht
      refine wpOp_off ho (hy _ rfl) (by decide) ?_
      clear hops hdep
      replace h0 := hidH h0
      replace h1 := hidH h1
      replace h2 := hidH h2
      replace h3 := hidH h3
      replace h4 := hidH h4
      replace h5 := hidH h5
      replace h6 := hidH h6
      replace h7 := hidH h7
      replace h8 := hidH h8
      replace h9 := hidH h9
      replace h10 := hidH h10
      replace h11 := hidH h11
      replace h13 := hidH h13
      replace h14 := hidH h14
      replace h15 := hidH h15
      replace h16 := hidH h16
      exact (HJ.out _ _ _).2 ⟨_, _, _, _, _, _, _, _, _, _, _, _, _, _, _, _, _, rfl, hM, h0.out, h1.out, h2.out, fun _ => rfl, h4.out, h5.out, h6.out, h7.out, h8.out, h9.out, h10.out, h11.out, fun _ => rfl, h13.out, h14.out, h15.out, h16.out⟩
    | 13, _ =>
      obtain ⟨ty, ps, af, ho⟩ := op_lit hops (i := 13) (op := Op.load 22 (Operand.tmp 63)) (dst := some 64) (g := some (3, true)) rfl
      obtain rfl := h3 (hdep 3 (by simp))
      have hy := fun tmps ht => yielded_lit hops (i := 3) (op := Op.move (Operand.tmp 53)) (t := 54) (g := none) rfl tmps false ht
      refine wpOp_off ho (hy _ rfl) (by decide) ?_
      clear hops hdep
      replace h0 := hidH h0
      replace h1 := hidH h1
      replace h2 := hidH h2
      replace h3 := hidH h3
      replace h4 := hidH h4
      replace h5 := hidH h5
      replace h6 := hidH h6
      replace h7 := hidH h7
      replace h8 := hidH h8
      replace h9 := hidH h9
      replace h10 := hidH h10
      replace h11 := hidH h11
      replace h12 := hidH h12
      replace h14 := hidH h14
      replace h15 := hidH h15
      replace h16 := hidH h16
      exact (HJ.out _ _ _).2 ⟨_, _, _, _, _, _, _, _, _, _, _, _, _, _, _, _, _, rfl, hM, h0.out, h1.out, h2.out, fun _ => rfl, h4.out, h5.out, h6.out, h7.out, h8.out, h9.out, h10.out, h11.out, h12.out, fun _ => rfl, h14.out, h15.out, h16.out⟩
    | 14, _ =>
      obtain ⟨ty, ps, af, ho⟩ := op_lit hops (i := 14) (op := Op.call { callee := Callee.value (Operand.func 15), args := #[(Operand.tmp 62), (Operand.tmp 64)], argTypes := #[22, 22] }) (dst := some 65) (g := some (3, true)) rfl
      obtain rfl := h3 (hdep 3 (by simp))
      have hy := fun tmps ht => yielded_lit hops (i := 3) (op := Op.move (Operand.tmp 53)) (t := 54) (g := none) rfl tmps false ht
      refine wpOp_off ho (hy _ rfl) (by decide) ?_
      clear hops hdep
      replace h0 := hidH h0
      replace h1 := hidH h1
      replace h2 := hidH h2
      replace h3 := hidH h3
      replace h4 := hidH h4
      replace h5 := hidH h5
      replace h6 := hidH h6
      replace h7 := hidH h7
      replace h8 := hidH h8
      replace h9 := hidH h9
      replace h10 := hidH h10
      replace h11 := hidH h11
      replace h12 := hidH h12
      replace h13 := hidH h13
      replace h15 := hidH h15
      replace h16 := hidH h16
      exact (HJ.out _ _ _).2 ⟨_, _, _, _, _, _, _, _, _, _, _, _, _, _, _, _, _, rfl, hM, h0.out, h1.out, h2.out, fun _ => rfl, h4.out, h5.out, h6.out, h7.out, h8.out, h9.out, h10.out, h11.out, h12.out, h13.out, fun _ => rfl, h15.out, h16.out⟩
    | 15, _ =>
      obtain ⟨ty, ps, af, ho⟩ := op_lit hops (i := 15) (op := Op.unOp UnOp.not 4 (Operand.tmp 65)) (dst := some 66) (g := some (3, true)) rfl
      obtain rfl := h3 (hdep 3 (by simp))
      have hy := fun tmps ht => yielded_lit hops (i := 3) (op := Op.move (Operand.tmp 53)) (t := 54) (g := none) rfl tmps false ht
      refine wpOp_off ho (hy _ rfl) (by decide) ?_
      clear hops hdep
      replace h0 := hidH h0
      replace h1 := hidH h1
      replace h2 := hidH h2
      replace h3 := hidH h3
      replace h4 := hidH h4
      replace h5 := hidH h5
      replace h6 := hidH h6
      replace h7 := hidH h7
      replace h8 := hidH h8
      replace h9 := hidH h9
      replace h10 := hidH h10
      replace h11 := hidH h11
      replace h12 := hidH h12
      replace h13 := hidH h13
      replace h14 := hidH h14
      replace h16 := hidH h16
      exact (HJ.out _ _ _).2 ⟨_, _, _, _, _, _, _, _, _, _, _, _, _, _, _, _, _, rfl, hM, h0.out, h1.out, h2.out, fun _ => rfl, h4.out, h5.out, h6.out, h7.out, h8.out, h9.out, h10.out, h11.out, h12.out, h13.out, h14.out, fun _ => rfl, h16.out⟩
    | 16, _ =>
      obtain ⟨ty, ps, af, ho⟩ := op_lit hops (i := 16) (op := Op.pick (Operand.tmp 54) (Operand.tmp 66) (Operand.const (Value.bool false))) (dst := some 67) (g := none) rfl
      obtain rfl := h3 (hdep 3 (by simp))
      obtain rfl := h15 (hdep 15 (by simp))
      refine wpOp_lit ho (fun j b h => by cases h) ?_
      clear hops hdep ho
      replace h0 := hidH h0
      replace h1 := hidH h1
      replace h2 := hidH h2
      replace h3 := hidH h3
      replace h4 := hidH h4
      replace h5 := hidH h5
      replace h6 := hidH h6
      replace h7 := hidH h7
      replace h8 := hidH h8
      replace h9 := hidH h9
      replace h10 := hidH h10
      replace h11 := hidH h11
      replace h12 := hidH h12
      replace h13 := hidH h13
      replace h14 := hidH h14
      replace h15 := hidH h15
      go_wp2
      exact (HJ.out _ _ _).2 ⟨_, _, _, _, _, _, _, _, _, _, _, _, _, _, _, _, _, rfl, hM, h0.out, h1.out, h2.out, fun _ => rfl, h4.out, h5.out, h6.out, h7.out, h8.out, h9.out, h10.out, h11.out, h12.out, h13.out, h14.out, fun _ => rfl, fun _ => rfl⟩
    | n + 17, h => omega
  case fin =>
    clear hops hdeps hback
    rintro dn ac W hJ hall
    obtain ⟨t51, t52, t53, t54, t55, t56, t57, t58, t59, t60, t61, t62, t63, t64, t65, t66, t67, rfl, hM, h0, h1, h2, h3, h4, h5, h6, h7, h8, h9, h10, h11, h12, h13, h14, h15, h16⟩ := (HJ.out _ _ _).1 hJ
    obtain rfl := h16 (hall 16 (by omega))
    exact fin _ _ _ _ _ _ _ _ _ _ _ _ _ _ _ _ W hM
end Go.Proofs.Ytanffpmpknmldaa
