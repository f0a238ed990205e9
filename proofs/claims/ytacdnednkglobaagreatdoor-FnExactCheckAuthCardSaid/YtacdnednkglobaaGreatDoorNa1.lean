import Derived.Test.YtacdnednkglobaaGreatDoorChS
import Derived.Test.YtacdnednkglobaaGreatDoorRegInv
import Derived.Test.YtacdnednkglobaaGreatDoorApp
import Derived.Test.YtacdnednkglobaaGreatDoorDrawAt
import Derived.Deep.LoopGhost
import Derived.Test.YtacdnednkglobaaGreatDoorPack
import Derived.Test.YtacdnednkglobaaGreatDoorUniO
import Derived.Maps.AppendAt

/- The region of l4Chunk that draws its order. -/
namespace Go.Proofs.YtacdnednkglobaaGreatDoor
open Go.RowKit Go.Deep

set_option maxRecDepth 100000 in
set_option maxHeartbeats 1000000 in
theorem regCh {Q : Exit → Act → World → Prop} (x1 x2 : Value) (g o : Nat) (k f : Int) (A : Option Addr) (b : List Int) (c : Nat) (hk0 : 0 ≤ k) (hk1 : k ≤ 255) (hf0 : 0 ≤ f) (hf1 : f ≤ 255) (hb0 : (b.length : Int) ≤ 1000) {ops : Array Oper}
    (hops : (ops.map fun o => (o.op, o.dst, o.guard)) = #[(Op.move (Operand.tmp 0), some 4, none), (Op.nilCheck (Operand.tmp 4), some 5, none), (Op.fieldAddr 25 (Operand.tmp 5) 0, some 6, none), (Op.load 2 (Operand.tmp 6), some 7, none), (Op.convert 2 5 (Operand.tmp 7), some 8, none), (Op.move (Operand.tmp 0), some 9, none), (Op.nilCheck (Operand.tmp 9), some 10, none), (Op.fieldAddr 25 (Operand.tmp 10) 1, some 11, none), (Op.load 2 (Operand.tmp 11), some 12, none), (Op.convert 2 5 (Operand.tmp 12), some 13, none), (Op.buildSlice 22 2 #[(0, (Operand.tmp 8)), (1, (Operand.tmp 13))], some 14, none), (Op.move (Operand.tmp 0), some 15, none), (Op.nilCheck (Operand.tmp 15), some 16, none), (Op.fieldAddr 25 (Operand.tmp 16) 2, some 17, none), (Op.load 22 (Operand.tmp 17), some 18, none), (Op.call { callee := Callee.builtin Builtin.len, args := #[(Operand.tmp 18)], argTypes := #[22] }, some 19, none), (Op.binOp BinOp.add 3 (Operand.tmp 19) ((Operand.const (Value.int .i64 4))) 3, some 20, none), (Op.call { callee := Callee.value (Operand.func 96), args := #[(Operand.tmp 20)], argTypes := #[2] }, some 21, none), (Op.call { callee := Callee.builtin Builtin.append, args := #[(Operand.tmp 14), (Operand.tmp 21)], argTypes := #[22, 22] }, some 22, none), (Op.assign (Operand.tmp 22), some 3, none)])
    (hdeps : ((List.range 20).all fun i => ((fun i => [[], [0], [1], [2], [3], [], [5], [6], [7], [8], [4, 9], [], [11], [12], [13], [14], [15], [16], [10, 17], [18]].getD i []) i).all fun j => ((ops[i]?).map fun o => o.after.any fun e => Region.binds .any e && e.on == j).getD false) = true)
    (hback : ((List.range 20).all fun i => ((ops[i]?).map fun o => o.after.all fun e => decide (e.on < i)).getD false) = true)
    {a0 : Act} {w0 : World} (ha : a0 = { tmps := #[.pointer (some ⟨g, o, none⟩), x1, x2, undef, undef, undef, undef, undef, undef, undef, undef, undef, undef, undef, undef, undef, undef, undef, undef, undef, undef, undef, undef, undef, undef, undef, undef, undef, undef, undef, undef, undef, undef, undef, undef, undef, undef], defers := [] }) (hE : false = true → false = true) (hCK : CkB w0 g o k f A b c) (hO : Below w0.heap.size w0 w0)
    (fin : ∀ t4 t5 t6 t7 t8 t9 t10 t11 t12 t13 t14 t15 t16 t17 t18 t19 t20 t21 t22 t3 (W : World), (Below w0.heap.size w0 W) → (W.ownsRow w0.heap.size 5 1 t3 4 ([k, f, ((b.length : Int) + 4) / 256, ((b.length : Int) + 4) % 256].map (Value.int .u8))) → Q .normal { tmps := #[.pointer (some ⟨g, o, none⟩), x1, x2, t3, t4, t5, t6, t7, t8, t9, t10, t11, t12, t13, t14, t15, t16, t17, t18, t19, t20, t21, t22, undef, undef, undef, undef, undef, undef, undef, undef, undef, undef, undef, undef, undef, undef], defers := [] } W) :
    wpAny Tryz.prog .any ops Q ops.size (Array.replicate ops.size false) a0 w0 := by
  have hn : ops.size = 20 := by have := congrArg Array.size hops; simpa using this
  obtain ⟨J, HJ⟩ : ∃ J : (Nat → Bool) → Act → World → Prop, ∀ dn ac W, J dn ac W ↔ (fun dn ac W => ∃ t4 t5 t6 t7 t8 t9 t10 t11 t12 t13 t14 t15 t16 t17 t18 t19 t20 t21 t22 t3, ac = { tmps := #[.pointer (some ⟨g, o, none⟩), x1, x2, t3, t4, t5, t6, t7, t8, t9, t10, t11, t12, t13, t14, t15, t16, t17, t18, t19, t20, t21, t22, undef, undef, undef, undef, undef, undef, undef, undef, undef, undef, undef, undef, undef, undef], defers := [] } ∧ (dn 19 = true → dn 18 = true) ∧ (CkB w0 g o k f A b c) ∧ (Below w0.heap.size w0 W) ∧ (dn 0 = true → t4 = .pointer (some ⟨g, o, none⟩)) ∧ (dn 1 = true → t5 = .pointer (some ⟨g, o, none⟩)) ∧ (dn 2 = true → t6 = .pointer (some ⟨g, o, none⟩)) ∧ (dn 3 = true → t7 = .int .i64 k) ∧ (dn 4 = true → t8 = .int .u8 k) ∧ (dn 5 = true → t9 = .pointer (some ⟨g, o, none⟩)) ∧ (dn 6 = true → t10 = .pointer (some ⟨g, o, none⟩)) ∧ (dn 7 = true → t11 = .pointer (some ⟨g, o + 1, none⟩)) ∧ (dn 8 = true → t12 = .int .i64 f) ∧ (dn 9 = true → t13 = .int .u8 f) ∧ (dn 10 = true → dn 18 = false → W.ownsRow w0.heap.size 5 1 t14 2 [.int .u8 k, .int .u8 f]) ∧ (dn 11 = true → t15 = .pointer (some ⟨g, o, none⟩)) ∧ (dn 12 = true → t16 = .pointer (some ⟨g, o, none⟩)) ∧ (dn 13 = true → t17 = .pointer (some ⟨g, o + 2, none⟩)) ∧ (dn 14 = true → t18 = .slice A b.length c) ∧ (dn 15 = true → t19 = .int .i64 (b.length : Int)) ∧ (dn 16 = true → t20 = .int .i64 ((b.length : Int) + 4)) ∧ (dn 17 = true → dn 18 = false → ∃ g2 : Nat, t21 = .slice (some ⟨g2, 0, none⟩) 2 2 ∧ Blk W g2 5 #[.int .u8 (((b.length : Int) + 4) / 256), .int .u8 (((b.length : Int) + 4) % 256)]) ∧ (dn 18 = true → W.ownsRow w0.heap.size 5 1 t22 4 ([k, f, ((b.length : Int) + 4) / 256, ((b.length : Int) + 4) % 256].map (Value.int .u8))) ∧ (dn 19 = true → W.ownsRow w0.heap.size 5 1 t3 4 ([k, f, ((b.length : Int) + 4) / 256, ((b.length : Int) + 4) % 256].map (Value.int .u8)))) dn ac W := ⟨_, fun _ _ _ => Iff.rfl⟩
  replace HJ := hidH HJ
  refine region_inv 20 (fun i => [[], [0], [1], [2], [3], [], [5], [6], [7], [8], [4, 9], [], [11], [12], [13], [14], [15], [16], [10, 17], [18]].getD i []) J hn hdeps hback ?start ?step ?fin
  case start => exact (HJ.out _ _ _).2 ⟨undef, undef, undef, undef, undef, undef, undef, undef, undef, undef, undef, undef, undef, undef, undef, undef, undef, undef, undef, undef, ha, hE, hCK, hO, fun h => by simp at h, fun h => by simp at h, fun h => by simp at h, fun h => by simp at h, fun h => by simp at h, fun h => by simp at h, fun h => by simp at h, fun h => by simp at h, fun h => by simp at h, fun h => by simp at h, fun h => by simp at h, fun h => by simp at h, fun h => by simp at h, fun h => by simp at h, fun h => by simp at h, fun h => by simp at h, fun h => by simp at h, fun h => by simp at h, fun h => by simp at h, fun h => by simp at h⟩
  all_goals clear ha hE hCK hO
  case step =>
    clear fin hdeps hback
    intro i hi dn ac W hJ hdn hdep
    obtain ⟨t4, t5, t6, t7, t8, t9, t10, t11, t12, t13, t14, t15, t16, t17, t18, t19, t20, t21, t22, t3, rfl, hE, hCK, hO, h0, h1, h2, h3, h4, h5, h6, h7, h8, h9, h10, h11, h12, h13, h14, h15, h16, h17, h18, h19⟩ := (HJ.out _ _ _).1 hJ
    clear hJ
    match i, hi with
    | 0, _ =>
      obtain ⟨ty, ps, af, ho⟩ := op_lit hops (i := 0) (op := Op.move (Operand.tmp 0)) (dst := some 4) (g := none) rfl
      refine wpOp_lit ho (fun j b h => by cases h) ?_
      clear hops hdep ho
      replace h1 := hidH h1
      replace h2 := hidH h2
      replace h3 := hidH h3
      replace h4 := hidH h4
      replace h5 := hidH h5
      replace h6 := hidH h6
      replace h7 := hidH h7
      replace h8 := hidH h8
      replace h9 := hidH h9
      replace h10 := hidH h10
      replace h11 := hidH h11
      replace h12 := hidH h12
      replace h13 := hidH h13
      replace h14 := hidH h14
      replace h15 := hidH h15
      replace h16 := hidH h16
      replace h17 := hidH h17
      replace h18 := hidH h18
      replace h19 := hidH h19
      go_wp2
      exact (HJ.out _ _ _).2 ⟨_, _, _, _, _, _, _, _, _, _, _, _, _, _, _, _, _, _, _, _, rfl, hE, hCK, hO, fun _ => rfl, h1.out, h2.out, h3.out, h4.out, h5.out, h6.out, h7.out, h8.out, h9.out, h10.out, h11.out, h12.out, h13.out, h14.out, h15.out, h16.out, h17.out, h18.out, h19.out⟩
    | 1, _ =>
      obtain ⟨ty, ps, af, ho⟩ := op_lit hops (i := 1) (op := Op.nilCheck (Operand.tmp 4)) (dst := some 5) (g := none) rfl
      obtain rfl := h0 (hdep 0 (by simp))
      refine wpOp_lit ho (fun j b h => by cases h) ?_
      clear hops hdep ho
      replace h0 := hidH h0
      replace h2 := hidH h2
      replace h3 := hidH h3
      replace h4 := hidH h4
      replace h5 := hidH h5
      replace h6 := hidH h6
      replace h7 := hidH h7
      replace h8 := hidH h8
      replace h9 := hidH h9
      replace h10 := hidH h10
      replace h11 := hidH h11
      replace h12 := hidH h12
      replace h13 := hidH h13
      replace h14 := hidH h14
      replace h15 := hidH h15
      replace h16 := hidH h16
      replace h17 := hidH h17
      replace h18 := hidH h18
      replace h19 := hidH h19
      go_wp2
      exact (HJ.out _ _ _).2 ⟨_, _, _, _, _, _, _, _, _, _, _, _, _, _, _, _, _, _, _, _, rfl, hE, hCK, hO, fun _ => rfl, fun _ => rfl, h2.out, h3.out, h4.out, h5.out, h6.out, h7.out, h8.out, h9.out, h10.out, h11.out, h12.out, h13.out, h14.out, h15.out, h16.out, h17.out, h18.out, h19.out⟩
    | 2, _ =>
      obtain ⟨ty, ps, af, ho⟩ := op_lit hops (i := 2) (op := Op.fieldAddr 25 (Operand.tmp 5) 0) (dst := some 6) (g := none) rfl
      obtain rfl := h1 (hdep 1 (by simp))
      refine wpOp_lit ho (fun j b h => by cases h) ?_
      clear hops hdep ho
      replace h0 := hidH h0
      replace h1 := hidH h1
      replace h3 := hidH h3
      replace h4 := hidH h4
      replace h5 := hidH h5
      replace h6 := hidH h6
      replace h7 := hidH h7
      replace h8 := hidH h8
      replace h9 := hidH h9
      replace h10 := hidH h10
      replace h11 := hidH h11
      replace h12 := hidH h12
      replace h13 := hidH h13
      replace h14 := hidH h14
      replace h15 := hidH h15
      replace h16 := hidH h16
      replace h17 := hidH h17
      replace h18 := hidH h18
      replace h19 := hidH h19
      go_wp2
      exact (HJ.out _ _ _).2 ⟨_, _, _, _, _, _, _, _, _, _, _, _, _, _, _, _, _, _, _, _, rfl, hE, hCK, hO, h0.out, fun _ => rfl, fun _ => rfl, h3.out, h4.out, h5.out, h6.out, h7.out, h8.out, h9.out, h10.out, h11.out, h12.out, h13.out, h14.out, h15.out, h16.out, h17.out, h18.out, h19.out⟩
    | 3, _ =>
      obtain ⟨ty, ps, af, ho⟩ := op_lit hops (i := 3) (op := Op.load 2 (Operand.tmp 6)) (dst := some 7) (g := none) rfl
      obtain rfl := h2 (hdep 2 (by simp))
      refine wpOp_lit ho (fun j b h => by cases h) ?_
      clear hops hdep ho
      replace h0 := hidH h0
      replace h1 := hidH h1
      replace h2 := hidH h2
      replace h4 := hidH h4
      replace h5 := hidH h5
      replace h6 := hidH h6
      replace h7 := hidH h7
      replace h8 := hidH h8
      replace h9 := hidH h9
      replace h10 := hidH h10
      replace h11 := hidH h11
      replace h12 := hidH h12
      replace h13 := hidH h13
      replace h14 := hidH h14
      replace h15 := hidH h15
      replace h16 := hidH h16
      replace h17 := hidH h17
      replace h18 := hidH h18
      replace h19 := hidH h19
      have q := (hCK.below hO).c0
      go_wp2
      exact (HJ.out _ _ _).2 ⟨_, _, _, _, _, _, _, _, _, _, _, _, _, _, _, _, _, _, _, _, rfl, hE, hCK, hO, h0.out, h1.out, fun _ => rfl, fun _ => rfl, h4.out, h5.out, h6.out, h7.out, h8.out, h9.out, h10.out, h11.out, h12.out, h13.out, h14.out, h15.out, h16.out, h17.out, h18.out, h19.out⟩
    | 4, _ =>
      obtain ⟨ty, ps, af, ho⟩ := op_lit hops (i := 4) (op := Op.convert 2 5 (Operand.tmp 7)) (dst := some 8) (g := none) rfl
      obtain rfl := h3 (hdep 3 (by simp))
      refine wpOp_lit ho (fun j b h => by cases h) ?_
      clear hops hdep ho
      replace h0 := hidH h0
      replace h1 := hidH h1
      replace h2 := hidH h2
      replace h3 := hidH h3
      replace h5 := hidH h5
      replace h6 := hidH h6
      replace h7 := hidH h7
      replace h8 := hidH h8
      replace h9 := hidH h9
      replace h10 := hidH h10
      replace h11 := hidH h11
      replace h12 := hidH h12
      replace h13 := hidH h13
      replace h14 := hidH h14
      replace h15 := hidH h15
      replace h16 := hidH h16
      replace h17 := hidH h17
      replace h18 := hidH h18
      replace h19 := hidH h19
      go_wp2
      exact (HJ.out _ _ _).2 ⟨_, _, _, _, _, _, _, _, _, _, _, _, _, _, _, _, _, _, _, _, rfl, hE, hCK, hO, h0.out, h1.out, h2.out, fun _ => rfl, fun _ => rfl, h5.out, h6.out, h7.out, h8.out, h9.out, h10.out, h11.out, h12.out, h13.out, h14.out, h15.out, h16.out, h17.out, h18.out, h19.out⟩
    | 5, _ =>
      obtain ⟨ty, ps, af, ho⟩ := op_lit hops (i := 5) (op := Op.move (Operand.tmp 0)) (dst := some 9) (g := none) rfl
      refine wpOp_lit ho (fun j b h => by cases h) ?_
      clear hops hdep ho
      replace h0 := hidH h0
      replace h1 := hidH h1
      replace h2 := hidH h2
      replace h3 := hidH h3
      replace h4 := hidH h4
      replace h6 := hidH h6
      replace h7 := hidH h7
      replace h8 := hidH h8
      replace h9 := hidH h9
      replace h10 := hidH h10
      replace h11 := hidH h11
      replace h12 := hidH h12
      replace h13 := hidH h13
      replace h14 := hidH h14
      replace h15 := hidH h15
      replace h16 := hidH h16
      replace h17 := hidH h17
      replace h18 := hidH h18
      replace h19 := hidH h19
      go_wp2
      exact (HJ.out _ _ _).2 ⟨_, _, _, _, _, _, _, _, _, _, _, _, _, _, _, _, _, _, _, _, rfl, hE, hCK, hO, h0.out, h1.out, h2.out, h3.out, h4.out, fun _ => rfl, h6.out, h7.out, h8.out, h9.out, h10.out, h11.out, h12.out, h13.out, h14.out, h15.out, h16.out, h17.out, h18.out, h19.out⟩
    | 6, _ =>
      obtain ⟨ty, ps, af, ho⟩ := op_lit hops (i := 6) (op := Op.nilCheck (Operand.tmp 9)) (dst := some 10) (g := none) rfl
      obtain rfl := h5 (hdep 5 (by simp))
      refine wpOp_lit ho (fun j b h => by cases h) ?_
      clear hops hdep ho
      replace h0 := hidH h0
      replace h1 := hidH h1
      replace h2 := hidH h2
      replace h3 := hidH h3
      replace h4 := hidH h4
      replace h5 := hidH h5
      replace h7 := hidH h7
      replace h8 := hidH h8
      replace h9 := hidH h9
      replace h10 := hidH h10
      replace h11 := hidH h11
      replace h12 := hidH h12
      replace h13 := hidH h13
      replace h14 := hidH h14
      replace h15 := hidH h15
      replace h16 := hidH h16
      replace h17 := hidH h17
      replace h18 := hidH h18
      replace h19 := hidH h19
      go_wp2
      exact (HJ.out _ _ _).2 ⟨_, _, _, _, _, _, _, _, _, _, _, _, _, _, _, _, _, _, _, _, rfl, hE, hCK, hO, h0.out, h1.out, h2.out, h3.out, h4.out, fun _ => rfl, fun _ => rfl, h7.out, h8.out, h9.out, h10.out, h11.out, h12.out, h13.out, h14.out, h15.out, h16.out, h17.out, h18.out, h19.out⟩
    | 7, _ =>
      obtain ⟨ty, ps, af, ho⟩ := op_lit hops (i := 7) (op := Op.fieldAddr 25 (Operand.tmp 10) 1) (dst := some 11) (g := none) rfl
      obtain rfl := h6 (hdep 6 (by simp))
      refine wpOp_lit ho (fun j b h => by cases h) ?_
      clear hops hdep ho
      replace h0 := hidH h0
      replace h1 := hidH h1
      replace h2 := hidH h2
      replace h3 := hidH h3
      replace h4 := hidH h4
      replace h5 := hidH h5
      replace h6 := hidH h6
      replace h8 := hidH h8
      replace h9 := hidH h9
      replace h10 := hidH h10
      replace h11 := hidH h11
      replace h12 := hidH h12
      replace h13 := hidH h13
      replace h14 := hidH h14
      replace h15 := hidH h15
      replace h16 := hidH h16
      replace h17 := hidH h17
      replace h18 := hidH h18
      replace h19 := hidH h19
      go_wp2
      exact (HJ.out _ _ _).2 ⟨_, _, _, _, _, _, _, _, _, _, _, _, _, _, _, _, _, _, _, _, rfl, hE, hCK, hO, h0.out, h1.out, h2.out, h3.out, h4.out, h5.out, fun _ => rfl, fun _ => rfl, h8.out, h9.out, h10.out, h11.out, h12.out, h13.out, h14.out, h15.out, h16.out, h17.out, h18.out, h19.out⟩
    | 8, _ =>
      obtain ⟨ty, ps, af, ho⟩ := op_lit hops (i := 8) (op := Op.load 2 (Operand.tmp 11)) (dst := some 12) (g := none) rfl
      obtain rfl := h7 (hdep 7 (by simp))
      refine wpOp_lit ho (fun j b h => by cases h) ?_
      clear hops hdep ho
      replace h0 := hidH h0
      replace h1 := hidH h1
      replace h2 := hidH h2
      replace h3 := hidH h3
      replace h4 := hidH h4
      replace h5 := hidH h5
      replace h6 := hidH h6
      replace h7 := hidH h7
      replace h9 := hidH h9
      replace h10 := hidH h10
      replace h11 := hidH h11
      replace h12 := hidH h12
      replace h13 := hidH h13
      replace h14 := hidH h14
      replace h15 := hidH h15
      replace h16 := hidH h16
      replace h17 := hidH h17
      replace h18 := hidH h18
      replace h19 := hidH h19
      have q := (hCK.below hO).c1
      go_wp2
      exact (HJ.out _ _ _).2 ⟨_, _, _, _, _, _, _, _, _, _, _, _, _, _, _, _, _, _, _, _, rfl, hE, hCK, hO, h0.out, h1.out, h2.out, h3.out, h4.out, h5.out, h6.out, fun _ => rfl, fun _ => rfl, h9.out, h10.out, h11.out, h12.out, h13.out, h14.out, h15.out, h16.out, h17.out, h18.out, h19.out⟩
    | 9, _ =>
      obtain ⟨ty, ps, af, ho⟩ := op_lit hops (i := 9) (op := Op.convert 2 5 (Operand.tmp 12)) (dst := some 13) (g := none) rfl
      obtain rfl := h8 (hdep 8 (by simp))
      refine wpOp_lit ho (fun j b h => by cases h) ?_
      clear hops hdep ho
      replace h0 := hidH h0
      replace h1 := hidH h1
      replace h2 := hidH h2
      replace h3 := hidH h3
      replace h4 := hidH h4
      replace h5 := hidH h5
      replace h6 := hidH h6
      replace h7 := hidH h7
      replace h8 := hidH h8
      replace h10 := hidH h10
      replace h11 := hidH h11
      replace h12 := hidH h12
      replace h13 := hidH h13
      replace h14 := hidH h14
      replace h15 := hidH h15
      replace h16 := hidH h16
      replace h17 := hidH h17
      replace h18 := hidH h18
      replace h19 := hidH h19
      go_wp2
      exact (HJ.out _ _ _).2 ⟨_, _, _, _, _, _, _, _, _, _, _, _, _, _, _, _, _, _, _, _, rfl, hE, hCK, hO, h0.out, h1.out, h2.out, h3.out, h4.out, h5.out, h6.out, h7.out, fun _ => rfl, fun _ => rfl, h10.out, h11.out, h12.out, h13.out, h14.out, h15.out, h16.out, h17.out, h18.out, h19.out⟩
    | 10, _ =>
      obtain ⟨ty, ps, af, ho⟩ := op_lit hops (i := 10) (op := Op.buildSlice 22 2 #[(0, (Operand.tmp 8)), (1, (Operand.tmp 13))]) (dst := some 14) (g := none) rfl
      obtain rfl := h4 (hdep 4 (by simp))
      obtain rfl := h9 (hdep 9 (by simp))
      refine wpOp_lit ho (fun j b h => by cases h) ?_
      clear hops hdep ho
      replace h0 := hidH h0
      replace h1 := hidH h1
      replace h2 := hidH h2
      replace h3 := hidH h3
      replace h4 := hidH h4
      replace h5 := hidH h5
      replace h6 := hidH h6
      replace h7 := hidH h7
      replace h8 := hidH h8
      replace h9 := hidH h9
      replace h11 := hidH h11
      replace h12 := hidH h12
      replace h13 := hidH h13
      replace h14 := hidH h14
      replace h15 := hidH h15
      replace h16 := hidH h16
      replace h17 := hidH h17
      replace h18 := hidH h18
      replace h19 := hidH h19
      go_wp2
      have hb := bal (Below.refl W.heap.size W) (.cells #[.int .u8 k, .int .u8 f] 5)
      exact (HJ.out _ _ _).2 ⟨_, _, _, _, _, _, _, _, _, _, _, _, _, _, _, _, _, _, _, _, rfl, hE, hCK, btr hO hb, h0.out, h1.out, h2.out, h3.out, fun _ => rfl, h5.out, h6.out, h7.out, h8.out, fun _ => rfl, fun _ => fun _ => World.ownsRow_lit _ #[.int .u8 k, .int .u8 f] 2 hO.size (by unfold maxLen; omega) rfl, h11.out, h12.out, h13.out, h14.out, h15.out, h16.out, (fun h h2 => by obtain ⟨g2, q1, q2⟩ := h17.out h h2; exact ⟨g2, q1, q2.below hb⟩), fun h => own_below0 (h18.out h) hb, fun h => own_below0 (h19.out h) hb⟩
    | 11, _ =>
      obtain ⟨ty, ps, af, ho⟩ := op_lit hops (i := 11) (op := Op.move (Operand.tmp 0)) (dst := some 15) (g := none) rfl
      refine wpOp_lit ho (fun j b h => by cases h) ?_
      clear hops hdep ho
      replace h0 := hidH h0
      replace h1 := hidH h1
      replace h2 := hidH h2
      replace h3 := hidH h3
      replace h4 := hidH h4
      replace h5 := hidH h5
      replace h6 := hidH h6
      replace h7 := hidH h7
      replace h8 := hidH h8
      replace h9 := hidH h9
      replace h10 := hidH h10
      replace h12 := hidH h12
      replace h13 := hidH h13
      replace h14 := hidH h14
      replace h15 := hidH h15
      replace h16 := hidH h16
      replace h17 := hidH h17
      replace h18 := hidH h18
      replace h19 := hidH h19
      go_wp2
      exact (HJ.out _ _ _).2 ⟨_, _, _, _, _, _, _, _, _, _, _, _, _, _, _, _, _, _, _, _, rfl, hE, hCK, hO, h0.out, h1.out, h2.out, h3.out, h4.out, h5.out, h6.out, h7.out, h8.out, h9.out, h10.out, fun _ => rfl, h12.out, h13.out, h14.out, h15.out, h16.out, h17.out, h18.out, h19.out⟩
    | 12, _ =>
      obtain ⟨ty, ps, af, ho⟩ := op_lit hops (i := 12) (op := Op.nilCheck (Operand.tmp 15)) (dst := some 16) (g := none) rfl
      obtain rfl := h11 (hdep 11 (by simp))
      refine wpOp_lit ho (fun j b h => by cases h) ?_
      clear hops hdep ho
      replace h0 := hidH h0
      replace h1 := hidH h1
      replace h2 := hidH h2
      replace h3 := hidH h3
      replace h4 := hidH h4
      replace h5 := hidH h5
      replace h6 := hidH h6
      replace h7 := hidH h7
      replace h8 := hidH h8
      replace h9 := hidH h9
      replace h10 := hidH h10
      replace h11 := hidH h11
      replace h13 := hidH h13
      replace h14 := hidH h14
      replace h15 := hidH h15
      replace h16 := hidH h16
      replace h17 := hidH h17
      replace h18 := hidH h18
      replace h19 := hidH h19
      go_wp2
      exact (HJ.out _ _ _).2 ⟨_, _, _, _, _, _, _, _, _, _, _, _, _, _, _, _, _, _, _, _, rfl, hE, hCK, hO, h0.out, h1.out, h2.out, h3.out, h4.out, h5.out, h6.out, h7.out, h8.out, h9.out, h10.out, fun _ => rfl, fun _ => rfl, h13.out, h14.out, h15.out, h16.out, h17.out, h18.out, h19.out⟩
    | 13, _ =>
      obtain ⟨ty, ps, af, ho⟩ := op_lit hops (i := 13) (op := Op.fieldAddr 25 (Operand.tmp 16) 2) (dst := some 17) (g := none) rfl
      obtain rfl := h12 (hdep 12 (by simp))
      refine wpOp_lit ho (fun j b h => by cases h) ?_
      clear hops hdep ho
      replace h0 := hidH h0
      replace h1 := hidH h1
      replace h2 := hidH h2
      replace h3 := hidH h3
      replace h4 := hidH h4
      replace h5 := hidH h5
      replace h6 := hidH h6
      replace h7 := hidH h7
      replace h8 := hidH h8
      replace h9 := hidH h9
      replace h10 := hidH h10
      replace h11 := hidH h11
      replace h12 := hidH h12
      replace h14 := hidH h14
      replace h15 := hidH h15
      replace h16 := hidH h16
      replace h17 := hidH h17
      replace h18 := hidH h18
      replace h19 := hidH h19
      go_wp2
      exact (HJ.out _ _ _).2 ⟨_, _, _, _, _, _, _, _, _, _, _, _, _, _, _, _, _, _, _, _, rfl, hE, hCK, hO, h0.out, h1.out, h2.out, h3.out, h4.out, h5.out, h6.out, h7.out, h8.out, h9.out, h10.out, h11.out, fun _ => rfl, fun _ => rfl, h14.out, h15.out, h16.out, h17.out, h18.out, h19.out⟩
    | 14, _ =>
      obtain ⟨ty, ps, af, ho⟩ := op_lit hops (i := 14) (op := Op.load 22 (Operand.tmp 17)) (dst := some 18) (g := none) rfl
      obtain rfl := h13 (hdep 13 (by simp))
      refine wpOp_lit ho (fun j b h => by cases h) ?_
      clear hops hdep ho
      replace h0 := hidH h0
      replace h1 := hidH h1
      replace h2 := hidH h2
      replace h3 := hidH h3
      replace h4 := hidH h4
      replace h5 := hidH h5
      replace h6 := hidH h6
      replace h7 := hidH h7
      replace h8 := hidH h8
      replace h9 := hidH h9
      replace h10 := hidH h10
      replace h11 := hidH h11
      replace h12 := hidH h12
      replace h13 := hidH h13
      replace h15 := hidH h15
      replace h16 := hidH h16
      replace h17 := hidH h17
      replace h18 := hidH h18
      replace h19 := hidH h19
      have q := (hCK.below hO).c2
      go_wp2
      exact (HJ.out _ _ _).2 ⟨_, _, _, _, _, _, _, _, _, _, _, _, _, _, _, _, _, _, _, _, rfl, hE, hCK, hO, h0.out, h1.out, h2.out, h3.out, h4.out, h5.out, h6.out, h7.out, h8.out, h9.out, h10.out, h11.out, h12.out, fun _ => rfl, fun _ => rfl, h15.out, h16.out, h17.out, h18.out, h19.out⟩
    | 15, _ =>
      obtain ⟨ty, ps, af, ho⟩ := op_lit hops (i := 15) (op := Op.call { callee := Callee.builtin Builtin.len, args := #[(Operand.tmp 18)], argTypes := #[22] }) (dst := some 19) (g := none) rfl
      obtain rfl := h14 (hdep 14 (by simp))
      refine wpOp_lit ho (fun j b h => by cases h) ?_
      clear hops hdep ho
      replace h0 := hidH h0
      replace h1 := hidH h1
      replace h2 := hidH h2
      replace h3 := hidH h3
      replace h4 := hidH h4
      replace h5 := hidH h5
      replace h6 := hidH h6
      replace h7 := hidH h7
      replace h8 := hidH h8
      replace h9 := hidH h9
      replace h10 := hidH h10
      replace h11 := hidH h11
      replace h12 := hidH h12
      replace h13 := hidH h13
      replace h14 := hidH h14
      replace h16 := hidH h16
      replace h17 := hidH h17
      replace h18 := hidH h18
      replace h19 := hidH h19
      go_wp2
      exact (HJ.out _ _ _).2 ⟨_, _, _, _, _, _, _, _, _, _, _, _, _, _, _, _, _, _, _, _, rfl, hE, hCK, hO, h0.out, h1.out, h2.out, h3.out, h4.out, h5.out, h6.out, h7.out, h8.out, h9.out, h10.out, h11.out, h12.out, h13.out, fun _ => rfl, fun _ => rfl, h16.out, h17.out, h18.out, h19.out⟩
    | 16, _ =>
      obtain ⟨ty, ps, af, ho⟩ := op_lit hops (i := 16) (op := Op.binOp BinOp.add 3 (Operand.tmp 19) ((Operand.const (Value.int .i64 4))) 3) (dst := some 20) (g := none) rfl
      obtain rfl := h15 (hdep 15 (by simp))
      refine wpOp_lit ho (fun j b h => by cases h) ?_
      clear hops hdep ho
      replace h0 := hidH h0
      replace h1 := hidH h1
      replace h2 := hidH h2
      replace h3 := hidH h3
      replace h4 := hidH h4
      replace h5 := hidH h5
      replace h6 := hidH h6
      replace h7 := hidH h7
      replace h8 := hidH h8
      replace h9 := hidH h9
      replace h10 := hidH h10
      replace h11 := hidH h11
      replace h12 := hidH h12
      replace h13 := hidH h13
      replace h14 := hidH h14
      replace h15 := hidH h15
      replace h17 := hidH h17
      replace h18 := hidH h18
      replace h19 := hidH h19
      go_wp2
      exact (HJ.out _ _ _).2 ⟨_, _, _, _, _, _, _, _, _, _, _, _, _, _, _, _, _, _, _, _, rfl, hE, hCK, hO, h0.out, h1.out, h2.out, h3.out, h4.out, h5.out, h6.out, h7.out, h8.out, h9.out, h10.out, h11.out, h12.out, h13.out, h14.out, fun _ => rfl, fun _ => rfl, h17.out, h18.out, h19.out⟩
    | 17, _ =>
      obtain ⟨ty, ps, af, ho⟩ := op_lit hops (i := 17) (op := Op.call { callee := Callee.value (Operand.func 96), args := #[(Operand.tmp 20)], argTypes := #[2] }) (dst := some 21) (g := none) rfl
      obtain rfl := h16 (hdep 16 (by simp))
      refine wpOp_lit ho (fun j b h => by cases h) ?_
      clear hops hdep ho
      replace h0 := hidH h0
      replace h1 := hidH h1
      replace h2 := hidH h2
      replace h3 := hidH h3
      replace h4 := hidH h4
      replace h5 := hidH h5
      replace h6 := hidH h6
      replace h7 := hidH h7
      replace h8 := hidH h8
      replace h9 := hidH h9
      replace h10 := hidH h10
      replace h11 := hidH h11
      replace h12 := hidH h12
      replace h13 := hidH h13
      replace h14 := hidH h14
      replace h15 := hidH h15
      replace h16 := hidH h16
      replace h18 := hidH h18
      replace h19 := hidH h19
      go_wp2_with fail
      refine (pair_any _ _ (by omega) (by omega)).mono ?_
      rintro e w1 ⟨rfl, rfl⟩
      have hb := bal (Below.refl W.heap.size W) (.cells #[.int .u8 (((b.length : Int) + 4) / 256), .int .u8 (((b.length : Int) + 4) % 256)] 5)
      go_wp2
      exact (HJ.out _ _ _).2 ⟨_, _, _, _, _, _, _, _, _, _, _, _, _, _, _, _, _, _, _, _, rfl, hE, hCK, btr hO hb, h0.out, h1.out, h2.out, h3.out, h4.out, h5.out, h6.out, h7.out, h8.out, h9.out, fun h h2 => own_below0 (h10.out h h2) hb, h11.out, h12.out, h13.out, h14.out, h15.out, fun _ => rfl, fun _ => fun _ => ⟨_, rfl, Blk.new _ _ _⟩, fun h => own_below0 (h18.out h) hb, fun h => own_below0 (h19.out h) hb⟩
    | 18, _ =>
      obtain ⟨ty, ps, af, ho⟩ := op_lit hops (i := 18) (op := Op.call { callee := Callee.builtin Builtin.append, args := #[(Operand.tmp 14), (Operand.tmp 21)], argTypes := #[22, 22] }) (dst := some 22) (g := none) rfl
      have o10 := hidH (h10 (hdep 10 (by simp)) hdn)
      obtain ⟨g2, rfl, q2⟩ := h17 (hdep 17 (by simp)) hdn
      refine wpOp_lit ho (fun j b h => by cases h) ?_
      clear hops hdep ho
      replace h0 := hidH h0
      replace h1 := hidH h1
      replace h2 := hidH h2
      replace h3 := hidH h3
      replace h4 := hidH h4
      replace h5 := hidH h5
      replace h6 := hidH h6
      replace h7 := hidH h7
      replace h8 := hidH h8
      replace h9 := hidH h9
      replace h10 := hidH h10
      replace h11 := hidH h11
      replace h12 := hidH h12
      replace h13 := hidH h13
      replace h14 := hidH h14
      replace h15 := hidH h15
      replace h16 := hidH h16
      replace h17 := hidH h17
      replace h19 := hidH h19
      have s2 : Bs W (some ⟨g2, 0, none⟩) [((b.length : Int) + 4) / 256, ((b.length : Int) + 4) % 256] := lit_bs2 q2
      have hsz := hO.size
      go_wp2_with (at_builtin; refine wpList_append_bs rfl _ _ rfl w0.heap.size _ _ _ rfl o10.out (some ⟨g2, 0, none⟩) [((b.length : Int) + 4) / 256, ((b.length : Int) + 4) % 256] 2 rfl s2 (by simp) hsz ?_)
      intro v2 w2 o2 hg
      have BB := hidH (hO.grown hg hsz (fun x hx => (o10.out.lt x hx).1))
      have O8 := hidH (show w2.ownsRow w0.heap.size 5 1 v2 4 ([k, f, ((b.length : Int) + 4) / 256, ((b.length : Int) + 4) % 256].map (Value.int .u8)) by simpa using o2)
      clear o2 hg
      go_wp2
      exact (HJ.out _ _ _).2 ⟨_, _, _, _, _, _, _, _, _, _, _, _, _, _, _, _, _, _, _, _, rfl, fun _ => rfl, hCK, BB.out, h0.out, h1.out, h2.out, h3.out, h4.out, h5.out, h6.out, h7.out, h8.out, h9.out, (fun _ h2 => by simp at h2), h11.out, h12.out, h13.out, h14.out, h15.out, h16.out, (fun _ h2 => by simp at h2), fun _ => O8.out, (fun h => by have h3 : dn 18 = true := hE h; rw [hdn] at h3; cases h3)⟩
    | 19, _ =>
      obtain ⟨ty, ps, af, ho⟩ := op_lit hops (i := 19) (op := Op.assign (Operand.tmp 22)) (dst := some 3) (g := none) rfl
      have hd18 := hidH (hdep 18 (by simp))
      obtain o18 := h18 (hdep 18 (by simp))
      refine wpOp_lit ho (fun j b h => by cases h) ?_
      clear hops hdep ho
      replace h0 := hidH h0
      replace h1 := hidH h1
      replace h2 := hidH h2
      replace h3 := hidH h3
      replace h4 := hidH h4
      replace h5 := hidH h5
      replace h6 := hidH h6
      replace h7 := hidH h7
      replace h8 := hidH h8
      replace h9 := hidH h9
      replace h10 := hidH h10
      replace h11 := hidH h11
      replace h12 := hidH h12
      replace h13 := hidH h13
      replace h14 := hidH h14
      replace h15 := hidH h15
      replace h16 := hidH h16
      replace h17 := hidH h17
      replace h18 := hidH h18
      have hb := Below.refl W.heap.size W
      go_wp2
      exact (HJ.out _ _ _).2 ⟨_, _, _, _, _, _, _, _, _, _, _, _, _, _, _, _, _, _, _, _, rfl, fun _ => hd18.out, hCK, btr hO hb, h0.out, h1.out, h2.out, h3.out, h4.out, h5.out, h6.out, h7.out, h8.out, h9.out, fun h h2 => own_below0 (h10.out h h2) hb, h11.out, h12.out, h13.out, h14.out, h15.out, h16.out, (fun h h2 => by obtain ⟨g2, q1, q2⟩ := h17.out h h2; exact ⟨g2, q1, q2.below hb⟩), fun _ => own_below0 o18 hb, fun _ => o18⟩
    | n + 20, h => omega
  case fin =>
    clear hops hdeps hback
    rintro dn ac W hJ hall
    obtain ⟨t4, t5, t6, t7, t8, t9, t10, t11, t12, t13, t14, t15, t16, t17, t18, t19, t20, t21, t22, t3, rfl, hE, hCK, hO, h0, h1, h2, h3, h4, h5, h6, h7, h8, h9, h10, h11, h12, h13, h14, h15, h16, h17, h18, h19⟩ := (HJ.out _ _ _).1 hJ
    exact fin _ _ _ _ _ _ _ _ _ _ _ _ _ _ _ _ _ _ _ _ W hO (h19 (hall 19 (by omega)))
end Go.Proofs.YtacdnednkglobaaGreatDoor

/- The model's padding of a message: l2Pad, PadMessage. -/
namespace Go.Proofs.YtacdnednkglobaaGreatDoor
open Go.RowKit Go.Deep

/-- How many zero bytes. -/
def zerosN (n : Nat) : Nat := (119 - n % 64) % 64
def padTo (l : List Int) (k : Nat) : List Int := l ++ 128 :: List.replicate k 0
def padL (l : List Int) : List Int := padTo l (zerosN l.length) ++ [0, 0, 0, 0] ++ pk (8 * l.length)
theorem padTo_len (l : List Int) (k : Nat) : (padTo l k).length = l.length + 1 + k := by simp [padTo]; omega
theorem padTo_succ (l : List Int) (k : Nat) : padTo l (k + 1) = padTo l k ++ [0] := by simp [padTo, List.replicate_succ']
theorem zeros_test (n k : Nat) (hk : k ≤ zerosN n) : (n + 1 + k) % 64 = 56 ↔ k = zerosN n := by unfold zerosN at *; omega
theorem padL_len (l : List Int) : (padL l).length = l.length + 9 + zerosN l.length := by
  rw [padL, List.length_append, List.length_append, padTo_len]; simp [pk]; omega
set_option maxRecDepth 100000 in
set_option maxHeartbeats 2000000 in
theorem pad_any (A : Option Addr) (l : List Int) (c : Nat) (w : World) (hA : Bs w A l) (hm : l.length ≤ 50000) :
    Calls Tryz.prog 152 #[.slice A l.length c] w (OwnB w (padL l)) := by
  have hmi : (l.length : Int) ≤ 50000 := by omega
  go_enter Tryz.func152, Tryz.ntmps152
  go_wp2_with fail
  refine (copy_any _ _ _ _ hA (by omega)).mono ?_
  rintro e w1 ⟨v, rfl, o1, b1⟩
  have hb2 := b1.size
  have P1 := lit_bs w1 5 [128]
  go_wp2_with (at_builtin; refine wpList_append_bs rfl _ _ rfl w.heap.size _ _ _ rfl (o1.alloc _) (some ⟨w1.heap.size, 0, none⟩) [128] 1 rfl P1 (by simp; omega) (by simp; omega) ?_)
  intro v2 w2 o2 g2
  have B2 : Below w.heap.size w w2 := (bal b1 _).grown g2 (by simp; omega) (fun k hk => (o1.lt k hk).1)
  have O2 : w2.ownsRow w.heap.size 5 1 v2 (padTo l 0).length ((padTo l 0).map (Value.int .u8)) := by
    rw [padTo_len]; simpa [padTo] using o2
  clear o1 o2 g2 P1 b1 hb2 hA
  obtain ⟨z, hz⟩ : ∃ z, zerosN l.length = z := ⟨_, rfl⟩
  have hz64 : z < 64 := by rw [← hz]; exact Nat.mod_lt _ (by omega)
  have HZ := hidH hz
  clear hz
  go_wp2_with fail
  go_loopg [3] z (fun g v wr => ∃ k : Nat, k ≤ z ∧ g = z - k ∧ wr.ownsRow w.heap.size 5 1 v (padTo l k).length ((padTo l k).map (Value.int .u8)) ∧ Below w.heap.size w wr)
  case atStart => exact ⟨0, by omega, by omega, O2, B2⟩
  case round =>
    obtain ⟨k, hk, rfl, hown, hB⟩ := hrel
    have hsz := hB.size
    have HL := hidH (padTo_len l k)
    have hpl : ((padTo l k).length : Int) ≤ 60000 := by rw [HL.out]; omega
    by_cases hlt : k < z
    · have ht : (((padTo l k).length : Int) % 64 != 56) = true := by
        rw [HL.out]
        have := zeros_test l.length k (by rw [HZ.out]; exact hk)
        rw [HZ.out] at this
        rw [bne_iff_ne]; omega
      obtain ⟨A1, c1, rfl, ob, _, _⟩ := own_ob hown
      have P1 := lit_bs wr 5 [0]
      have PH := hidH P1
      have OH := hidH hown
      clear P1 ob
      go_wp2_with (at_builtin; refine wpList_append_bs rfl _ _ rfl w.heap.size _ _ _ rfl (OH.out.alloc _) (some ⟨wr.heap.size, 0, none⟩) [0] 1 rfl PH.out (by have := HL.out; simp; omega) (by simp; omega) ?_)
      intro v3 w3 o3 g3
      have B3 := hidH (own_grow (m := 0) hB hown g3)
      have O3 := hidH o3
      clear o3 g3 hown hB
      go_wp2
      go_roundg (z - (k + 1))
      case rel => exact ⟨k + 1, by omega, rfl, by rw [padTo_succ]; simpa using O3.out, B3.out⟩
      case measure => omega
    · obtain rfl : k = z := by omega
      have ht : (((padTo l k).length : Int) % 64 != 56) = false := by
        rw [HL.out]
        have := (zeros_test l.length k (by rw [HZ.out]; exact hk)).2 HZ.out.symm
        rw [bne_eq_false_iff_eq]; omega
      obtain ⟨A1, c1, rfl, ob, _, _⟩ := own_ob hown
      have P4 := hidH (lit_bs wr 5 [0, 0, 0, 0])
      have OH := hidH hown
      clear ob hlt hk
      go_wp2_with (at_builtin; refine wpList_append_bs rfl _ _ rfl w.heap.size _ _ _ rfl (OH.out.alloc _) (some ⟨wr.heap.size, 0, none⟩) [0, 0, 0, 0] 4 rfl P4.out (by have := HL.out; simp; omega) (by simp; omega) ?_)
      intro v4 w4 o4 g4
      have B4 := own_grow (m := 0) hB hown g4
      have hs4 := B4.size
      have P5 := hidH (lit_bs w4 5 (pk ((l.length : Int) * 8)))
      have O4 := hidH o4
      clear hown hB g4 o4 P4 OH
      go_wp2_with (first | (go_at_call 95; refine (l1Pack_any _ _ (by omega) (by omega)).mono ?_; rintro e w' ⟨rfl, rfl⟩) | (at_builtin; refine wpList_append_bs rfl _ _ rfl w.heap.size _ _ _ rfl (O4.out.alloc _) (some ⟨w4.heap.size, 0, none⟩) (pk ((l.length : Int) * 8)) 4 rfl P5.out (by have := HL.out; simp [pk]; omega) (by simp; omega) ?_))
      intro v6 w6 o6 g6
      have B6 := hidH (own_grow (m := 0) B4 O4.out g6)
      have O6 := hidH o6
      clear g6 o6 B4
      go_wp2
      go_ret
      refine ⟨_, rfl, ?_, B6.out⟩
      have e : padL l = padTo l k ++ [0, 0, 0, 0] ++ pk ((l.length : Int) * 8) := by rw [padL, HZ.out, Int.mul_comm]
      rw [e]
      have := O6.out
      simpa [Nat.add_assoc, Nat.add_comm 4] using this
theorem own_bres {w0 w : World} {v : Value} {l : List Int} (x : Int) (h : w.ownsRow w0.heap.size 5 1 v l.length (l.map (Value.int .u8))) (hb : Below w0.heap.size w0 w) :
    ∃ A cp, v = .slice A l.length cp ∧ BRes w0 x l (.returned (.agg #[.int .i64 x, .slice A l.length cp])) w := by
  obtain ⟨A, cp, rfl, ob, h1, h2⟩ := own_ob h
  exact ⟨A, cp, rfl, A, cp, rfl, ob, hb, h1, h2⟩
theorem Ob.setCell {B C : Nat} {w : World} {A : Option Addr} {l : List Int} (h : Ob B C w A l) {p : Addr} (hp : p.block < B) (u : Value) : Ob B C (w.setCell p u) A l := by
  rcases h with h | ⟨b, off, h1, h2, h3, h4, h5⟩
  · exact .inl h
  · exact .inr ⟨b, off, h1, h2, h3, by simpa [World.setCell] using h4, fun j hj => ⟨(World.cell?_setCell_other _ _ _ _ (fun e => by subst e; simp at hp; omega)).trans (h5 j hj).1, (World.frozen?_setCell _ _ _ _).trans (h5 j hj).2⟩⟩
theorem Ob.mono {B B' C : Nat} {w : World} {A : Option Addr} {l : List Int} (h : Ob B C w A l) (hB : B' ≤ B) : Ob B' C w A l := by
  rcases h with h | ⟨b, off, h1, h2, h3, h4, h5⟩
  · exact .inl h
  · exact .inr ⟨b, off, h1, by omega, h3, h4, h5⟩
theorem bres_set {w w1 : World} {A : Option Addr} {l : List Int} {cp : Nat} (x : Int) (hO : Ob (w.heap.size + 1) w1.heap.size w1 A l) (hb : Below w.heap.size w w1) (h1 : l.length ≤ cp) (h2 : (cp : Int) ≤ 9223372036854775807) (u0 u1 : Value) :
    BRes w x l (.returned (.agg #[.int .i64 x, .slice A l.length cp])) ((w1.setCell ⟨w.heap.size, 0, none⟩ u0).setCell ⟨w.heap.size, 1, none⟩ u1) := by
  have e : ((w1.setCell ⟨w.heap.size, 0, none⟩ u0).setCell ⟨w.heap.size, 1, none⟩ u1).heap.size = w1.heap.size := by simp [World.setCell]
  refine ⟨A, cp, rfl, ?_, bst (bst hb (Nat.le_refl _) _) (Nat.le_refl _) _, h1, h2⟩
  rw [e]
  exact ((hO.setCell (p := ⟨w.heap.size, 0, none⟩) (Nat.lt_succ_self _) _).setCell (p := ⟨w.heap.size, 1, none⟩) (Nat.lt_succ_self _) _).mono (Nat.le_succ _)
def padC (l : List Int) : Int := if l.length ≤ 700 then 0 else 2
def padM (l : List Int) : List Int := if l.length ≤ 700 then padL l else []
end Go.Proofs.YtacdnednkglobaaGreatDoor

/- The model's bytes of a chunk: l4Chunk, PackChunk. -/
namespace Go.Proofs.YtacdnednkglobaaGreatDoor
open Go.RowKit Go.Deep

/-- The head and the body, j noughts behind. -/
def chTo (H : List Int) (j : Nat) : List Int := H ++ List.replicate j 0
theorem chTo_len (H : List Int) (j : Nat) : (chTo H j).length = H.length + j := by simp [chTo]
theorem chTo_succ (H : List Int) (j : Nat) : chTo H (j + 1) = chTo H j ++ [0] := by simp [chTo, List.replicate_succ']
theorem ch_test (n j : Nat) (hj : j ≤ chPad n) : (4 + n + j) % 4 = 0 ↔ j = chPad n := by unfold chPad at *; omega
set_option maxRecDepth 100000 in
set_option maxHeartbeats 2000000 in
theorem l4Chunk_any (g o : Nat) (k f : Int) (A : Option Addr) (b : List Int) (c : Nat) (w : World) (hC : CkB w g o k f A b c) (hk0 : 0 ≤ k) (hk1 : k ≤ 255) (hf0 : 0 ≤ f) (hf1 : f ≤ 255) (hb : b.length ≤ 1000) :
    Calls Tryz.prog 146 #[.pointer (some ⟨g, o, none⟩)] w (OwnB w (chL k f b)) := by
  obtain ⟨H, hH⟩ : ∃ H, [k, f, ((b.length : Int) + 4) / 256, ((b.length : Int) + 4) % 256] ++ b = H := ⟨_, rfl⟩
  have hHl : H.length = 4 + b.length := by rw [← hH]; simp; omega
  have hL : chL k f b = chTo H (chPad b.length) := by rw [chL, hH, chTo]
  rw [hL]
  have hz4 : chPad b.length < 4 := by unfold chPad; omega
  have HTEST := hidH (ch_test b.length)
  obtain ⟨z, hz⟩ : ∃ z, chPad b.length = z := ⟨_, rfl⟩
  rw [hz] at hz4 HTEST ⊢
  have HC := hidH hC
  have HH := hidH hH
  have HHL := hidH hHl
  have HB := hidH hb
  have hbI : (b.length : Int) ≤ 1000 := by omega
  have HFIN := hidH (And.intro hk0 (And.intro hk1 (And.intro hf0 hf1)))
  clear hC hH hHl hL hz hb hk0 hk1 hf0 hf1
  go_enter Tryz.func146, Tryz.ntmps146
  go_wp2_with fail
  refine wp_region_any (by kernel_rfl) ?_
  refine regCh _ _ g o k f A b c HFIN.out.1 HFIN.out.2.1 HFIN.out.2.2.1 HFIN.out.2.2.2 hbI (by kernel_rfl) (by kernel_rfl) (by kernel_rfl) rfl (fun h => h) (HC.out.below (Below.refl w.heap.size w).drew) (Below.refl _ _) ?_
  intros
  rename_i t3 W hO hown
  have hB : Below w.heap.size w W := btr (Below.refl w.heap.size w).drew hO
  have OW := hidH (show W.ownsRow w.heap.size 5 1 t3 4 _ from hown)
  have HBW := hidH hB
  have CW := HC.out.below hB
  have q2 := CW.c2
  have hlt := CW.lt
  have SB := hidH CW.body
  have hsz := hB.size
  clear CW hown hO hB
  go_wp2_with (at_builtin; refine wpList_append_bs rfl _ _ rfl w.heap.size _ _ _ rfl OW.out A b c rfl SB.out (by have := HB.out; omega) hsz ?_)
  intro v2 w2 o2 g2
  have B2 := hidH (HBW.out.grown g2 hsz (fun x hx => (OW.out.lt x hx).1))
  have O2 := hidH (show w2.ownsRow w.heap.size 5 1 v2 (chTo H 0).length ((chTo H 0).map (Value.int .u8)) by
    rw [chTo_len, HHL.out]
    have := o2
    simpa [chTo, ← HH.out] using this)
  clear o2 g2 q2 SB OW
  go_wp2_with fail
  go_loopg [3] z (fun q v wr => ∃ j : Nat, j ≤ z ∧ q = z - j ∧ wr.ownsRow w.heap.size 5 1 v (chTo H j).length ((chTo H j).map (Value.int .u8)) ∧ Below w.heap.size w wr)
  case atStart => exact ⟨0, by omega, by omega, O2.out, B2.out⟩
  case round =>
    obtain ⟨j, hj, rfl, hown, hB⟩ := hrel
    have hsz := hB.size
    have HL := hidH (show (chTo H j).length = 4 + b.length + j by rw [chTo_len, HHL.out])
    have hpl : ((chTo H j).length : Int) ≤ 60000 := by rw [HL.out]; have := HB.out; omega
    by_cases hlt : j < z
    · have ht : (((chTo H j).length : Int) % 4 != 0) = true := by
        rw [HL.out]
        have := HTEST.out j hj
        rw [bne_iff_ne]; omega
      obtain ⟨A1, c1, rfl, ob, _, _⟩ := own_ob hown
      have P1 := lit_bs wr 5 [0]
      have PH := hidH P1
      have OH := hidH hown
      clear P1 ob
      go_wp2_with (at_builtin; refine wpList_append_bs rfl _ _ rfl w.heap.size _ _ _ rfl (OH.out.alloc _) (some ⟨wr.heap.size, 0, none⟩) [0] 1 rfl PH.out (by have := HL.out; have := HB.out; simp; omega) (by simp; omega) ?_)
      intro v3 w3 o3 g3
      have B3 := hidH (own_grow (m := 0) hB hown g3)
      have O3 := hidH o3
      clear o3 g3 hown hB
      go_wp2
      go_roundg (z - (j + 1))
      case rel => exact ⟨j + 1, by omega, rfl, by rw [chTo_succ]; simpa using O3.out, B3.out⟩
      case measure => omega
    · obtain rfl : j = z := by omega
      have ht : (((chTo H j).length : Int) % 4 != 0) = false := by
        rw [HL.out]
        have := (HTEST.out j hj).2 rfl
        rw [bne_eq_false_iff_eq]; omega
      obtain ⟨A1, c1, rfl, ob, _, _⟩ := own_ob hown
      have OH := hidH hown
      have HBB := hidH hB
      clear ob hlt hj hown hB
      go_wp2
      go_ret
      exact ⟨_, rfl, OH.out, HBB.out⟩
def chM (k f : Int) (b : List Int) : List Int := if chF k f b = 0 then chL k f b else []
theorem chF_zero {k f : Int} {b : List Int} (h : chF k f b = 0) : (0 ≤ k ∧ k ≤ 255) ∧ (0 ≤ f ∧ f ≤ 255) ∧ b.length ≤ 160 := by
  unfold chF inB at h
  split at h
  · next h1 =>
    simp at h1
    split at h
    · exact ⟨h1.1, h1.2, by assumption⟩
    · cases h
  · cases h
theorem bres_at {w W : World} {R : Nat} {A : Option Addr} {l : List Int} {cp : Nat} (x : Int) (hO : Ob (R + 1) W.heap.size W A l) (hR : w.heap.size ≤ R) (hb : Below w.heap.size w W) (h1 : l.length ≤ cp) (h2 : (cp : Int) ≤ 9223372036854775807) (u0 u1 : Value) :
    BRes w x l (.returned (.agg #[.int .i64 x, .slice A l.length cp])) ((W.setCell ⟨R, 0, none⟩ u0).setCell ⟨R, 1, none⟩ u1) := by
  have e : ((W.setCell ⟨R, 0, none⟩ u0).setCell ⟨R, 1, none⟩ u1).heap.size = W.heap.size := by simp [World.setCell]
  refine ⟨A, cp, rfl, ?_, bst (bst hb hR _) hR _, h1, h2⟩
  rw [e]
  exact ((hO.setCell (p := ⟨R, 0, none⟩) (Nat.lt_succ_self _) _).setCell (p := ⟨R, 1, none⟩) (Nat.lt_succ_self _) _).mono (by omega)
end Go.Proofs.YtacdnednkglobaaGreatDoor

/- Rows of structs that hold plain cells (numbers, bools) and then one slice of bytes: the row owned, each struct's bytes in a window of its own. -/
namespace Go.Proofs.YtacdnednkglobaaGreatDoor
open Go.RowKit Go.Deep

/-- A plain cell, its value. -/
def pv : V → Value
  | .int n => .int .i64 n
  | .bool b => .bool b
  | _ => .int .i64 0
def Pl : V → Prop
  | .int _ => True
  | .bool _ => True
  | _ => False
structure RowE where
  pre : List V
  val : Value
  bytes : List Int
  lo : Nat
  hi : Nat
def RowE.vs (x : RowE) : List V := x.pre ++ [.bs x.bytes]
def RowE.cs (x : RowE) : List Value := x.pre.map pv ++ [x.val]
def REok (W : Nat) (x : RowE) : Prop := x.pre.length + 1 = W ∧ ∀ p ∈ x.pre, Pl p
def flatR (q : List RowE) : List Value := q.flatMap RowE.cs
theorem flatR_app (a b : List RowE) : flatR (a ++ b) = flatR a ++ flatR b := by simp [flatR]
theorem flatR_cons (x : RowE) (q : List RowE) : flatR (x :: q) = x.cs ++ flatR q := rfl
theorem REok.cs {W : Nat} {x : RowE} (h : REok W x) : x.cs.length = W := by simp [RowE.cs, h.1]
theorem flatR_len {W : Nat} : ∀ {q : List RowE}, (∀ x ∈ q, REok W x) → (flatR q).length = q.length * W
  | [], _ => by simp [flatR]
  | x :: q, h => by
    rw [flatR_cons, List.length_append, (h x (by simp)).cs, flatR_len (fun y hy => h y (by simp [hy])), List.length_cons, Nat.add_mul]; omega
theorem Ow.pv {w : World} {S : Fp} : ∀ {p : V}, Pl p → Ow w p S (pv p)
  | .int _, _ => by unfold Ow; rfl
  | .bool _, _ => by unfold Ow; rfl
  | .bs _, h => h.elim
  | .is _, h => h.elim
  | .st _ _, h => h.elim
/-- The plain cells ahead of the rest. -/
theorem OwL.pre {w : World} {g : Nat} {T : Fp} : ∀ (ps : List V) (o : Nat) (rest : List V), (∀ p ∈ ps, Pl p) → (∀ k, k < ps.length → w.cell? ⟨g, o + k, none⟩ = (ps.map pv)[k]? ∧ w.frozen? ⟨g, o + k, none⟩ = false) →
    OwL w rest T g (o + ps.length) → (∀ k, k < ps.length → ¬ T g (o + k)) → OwL w (ps ++ rest) (fun a b => (a = g ∧ o ≤ b ∧ b < o + ps.length) ∨ T a b) g o
  | [], o, rest, _, _, h, _ => by
    rw [List.nil_append]
    exact OwL.sub _ (fun a b z => .inr z) (by simpa using h)
  | p :: ps, o, rest, hp, hc, h, hT => by
    have ih := OwL.pre ps (o + 1) rest (fun y hy => hp y (by simp [hy])) (fun k hk => by
      have := hc (k + 1) (by simp; omega)
      rw [show o + (k + 1) = o + 1 + k by omega] at this
      simpa using this) (by rw [List.length_cons] at h; rwa [show o + 1 + ps.length = o + (ps.length + 1) by omega]) (fun k hk => by
      have := hT (k + 1) (by simp; omega)
      rwa [show o + (k + 1) = o + 1 + k by omega] at this)
    have c0 := hc 0 (by simp)
    rw [List.cons_append]
    unfold OwL
    refine ⟨pv p, fun _ _ => False, _, by simpa using c0.1, by simpa using c0.2, .inl ⟨rfl, Nat.le_refl _, by simp⟩, Ow.pv (hp p (by simp)), ih, fun _ _ z => z.elim, ?_, fun z => z.elim, ?_, fun _ _ z => z.elim⟩
    · rintro a b (⟨z1, z2, z3⟩ | z)
      · exact .inl ⟨z1, by omega, by simp; omega⟩
      · exact .inr z
    · rintro (⟨_, z2, _⟩ | z)
      · omega
      · exact hT 0 (by simp) (by simpa using z)
def RowFp (W g o : Nat) (q : List RowE) : Fp := fun a b => (a = g ∧ o ≤ b ∧ b < o + q.length * W) ∨ ∃ x ∈ q, x.lo ≤ a ∧ a < x.hi
theorem OwL.rows {w : World} {g W : Nat} : ∀ (q : List RowE) (o : Nat), (∀ x ∈ q, REok W x) → (∀ x ∈ q, Ow w (.bs x.bytes) (Wn x.lo x.hi) x.val ∧ (g < x.lo ∨ x.hi ≤ g)) → q.Pairwise (fun x y => x.hi ≤ y.lo ∨ y.hi ≤ x.lo) →
    (∀ k, k < q.length * W → w.cell? ⟨g, o + k, none⟩ = (flatR q)[k]? ∧ w.frozen? ⟨g, o + k, none⟩ = false) → OwL w (q.flatMap RowE.vs) (RowFp W g o q) g o
  | [], o, _, _, _, _ => by simp only [List.flatMap_nil]; unfold OwL; trivial
  | x :: q, o, hk, h, hp, hc => by
    rw [List.pairwise_cons] at hp
    have hx := h x (by simp)
    have kx := hk x (by simp)
    have hcl := kx.cs
    have hW : x.pre.length + 1 = W := kx.1
    have hmul : (x :: q).length * W = q.length * W + W := by rw [List.length_cons, Nat.add_mul]; omega
    have ih := OwL.rows q (o + W) (fun y hy => hk y (by simp [hy])) (fun y hy => h y (by simp [hy])) hp.2 (fun k hk' => by
      have := hc (k + W) (by omega)
      rw [show o + (k + W) = o + W + k by omega] at this
      refine ⟨this.1.trans ?_, this.2⟩
      rw [flatR_cons, List.getElem?_append_right (by omega), hcl, show k + W - W = k by omega])
    have cl := hc x.pre.length (by omega)
    have e1 : (flatR (x :: q))[x.pre.length]? = some x.val := by
      rw [flatR_cons, List.getElem?_append_left (by omega), RowE.cs, List.getElem?_append_right (by simp)]
      simp
    have e : (x :: q).flatMap RowE.vs = x.pre ++ (.bs x.bytes :: q.flatMap RowE.vs) := by simp [RowE.vs]
    rw [e]
    refine OwL.sub _ ?_ (OwL.pre (T := fun a b => (a = g ∧ o + x.pre.length ≤ b ∧ b < o + (q.length * W + W)) ∨ ∃ y ∈ x :: q, y.lo ≤ a ∧ a < y.hi) x.pre o _ kx.2 (fun k hk' => ?_) ?_ ?_)
    · rintro a b (⟨z1, z2, z3⟩ | ⟨z1, z2, z3⟩ | z)
      · exact .inl ⟨z1, z2, by omega⟩
      · exact .inl ⟨z1, by omega, by omega⟩
      · exact .inr z
    · have := hc k (by omega)
      refine ⟨this.1.trans ?_, this.2⟩
      rw [flatR_cons, List.getElem?_append_left (by omega), RowE.cs, List.getElem?_append_left (by simpa using hk')]
    · unfold OwL
      refine ⟨x.val, Wn x.lo x.hi, RowFp W g (o + W) q, cl.1.trans e1, cl.2, .inl ⟨rfl, by omega, by omega⟩, hx.1, by rw [show o + x.pre.length + 1 = o + W by omega]; exact ih, fun a b z => .inr ⟨x, by simp, z.1, z.2⟩, fun a b z => ?_, fun z => ?_, fun z => ?_, fun a b y z => ?_⟩
      · rcases z with ⟨z1, z2, z3⟩ | ⟨y, hy, z⟩
        · exact .inl ⟨z1, by omega, by omega⟩
        · exact .inr ⟨y, by simp [hy], z⟩
      · have := z.1; have := z.2; rcases hx.2 with q | q <;> omega
      · rcases z with ⟨z1, z2, z3⟩ | ⟨y, hy, z⟩
        · omega
        · rcases (h y (by simp [hy])).2 with q | q <;> omega
      · have y1 := y.1
        have y2 := y.2
        rcases z with ⟨z1, z2, z3⟩ | ⟨y, hy, z⟩
        · rcases hx.2 with q | q <;> omega
        · rcases hp.1 y hy with q | q <;> omega
    · rintro k hk' (⟨_, z2, _⟩ | ⟨y, hy, z⟩)
      · omega
      · rcases (h y hy).2 with q | q <;> omega
/-- A row of structs, its block told apart from the bytes' windows. -/
theorem own_rows {w : World} {B0 B n W : Nat} {t : TypeId} {v : Value} {q : List RowE} (h : w.ownsRow B t W v n (flatR q)) (hn : q.length = n) (hk : ∀ x ∈ q, REok W x) (h00 : B0 ≤ B) (hq : ∀ x ∈ q, OwV x.lo x.hi w (.bs x.bytes) x.val ∧ B0 ≤ x.lo)
    (hg : ∀ g cs, B ≤ g → w.heap[g]? = some (.cells cs t (0, 0)) → ∀ x ∈ q, g < x.lo ∨ x.hi ≤ g) (hp : q.Pairwise (fun x y => x.hi ≤ y.lo ∨ y.hi ≤ x.lo)) :
    OwV B0 w.heap.size w (.st n (q.flatMap RowE.vs)) v := by
  refine ⟨Nat.le_refl _, ?_⟩
  obtain ⟨h1, ⟨rfl, h0⟩ | ⟨g, cap, cur, rfl, hB, hc, hnc, hm, hs, ht⟩⟩ := h
  · unfold Ow
    have : q = [] := List.eq_nil_of_length_eq_zero (by omega)
    subst this
    exact ⟨none, 0, by rw [h0], ⟨by omega, by simp⟩, .inl ⟨h0, rfl⟩⟩
  · have K : Blk w g t cur := hc
    unfold Ow
    unfold maxLen at hm
    refine ⟨_, cap, rfl, ⟨hnc, by omega⟩, .inr ⟨g, 0, rfl, K.lt, OwL.sub _ ?_ (OwL.rows q 0 hk (fun x hx => ⟨(hq x hx).1.2, hg g cur hB hc x hx⟩) hp (fun k hk' => ⟨?_, K.frozen _⟩))⟩⟩
    · rintro a b (⟨z1, _, _⟩ | ⟨x, hx, z1, z2⟩)
      · exact ⟨by omega, by have := K.lt; omega⟩
      · exact ⟨by have := (hq x hx).2; omega, by have := (hq x hx).1.1; omega⟩
    · rw [Nat.zero_add, K.cell, ← Array.getElem?_toList, ← ht, List.getElem?_take_of_lt (by rw [← hn]; omega)]

/-! Bytes' blocks told apart by their type. -/
def B8 (w w' : World) : Prop := ∀ (g : Nat) (cs : Array Value), w.heap[g]? = some (.cells cs 5 (0, 0)) → w'.heap[g]? = some (.cells cs 5 (0, 0))
theorem B8.refl (w : World) : B8 w w := fun _ _ h => h
theorem B8.trans {a b c : World} (h : B8 a b) (k : B8 b c) : B8 a c := fun g cs e => k g cs (h g cs e)
theorem B8.of_below {w w' : World} (hb : Below w.heap.size w w') : B8 w w' := fun g _ e => (hb.block g (Array.getElem?_eq_some_iff.1 e).1).trans e
theorem B8.of_grown {w w' : World} {B s n : Nat} {t : TypeId} {v : Value} {xs : List Value} (hg : w.grownBy w' v.ownBlock) (h2 : w.ownsRow B t s v n xs) (ht : t ≠ 5) : B8 w w' := fun g cs e => by
  refine (hg.block g (Array.getElem?_eq_some_iff.1 e).1 (fun q => ?_)).trans e
  obtain ⟨_, ⟨rfl, _⟩ | ⟨g2, cap2, cur2, rfl, _, k5, _⟩⟩ := h2
  · simp [Value.ownBlock] at q
  · simp [Value.ownBlock] at q
    subst q
    rw [e] at k5
    injection k5 with k5
    injection k5 with _ k5 _
    exact absurd k5.symm ht
theorem B8.of_win {w w' : World} {g : Nat} {t : TypeId} {cs : Array Value} (hw : Win g (g + 1) w w') (hb : Blk w g t cs) (ht : t ≠ 5) : B8 w w' := fun k ks e => by
  have hne : k ≠ g := fun q => by
    have hb' : w.heap[g]? = some (.cells cs t (0, 0)) := hb
    rw [← q, e] at hb'
    injection hb' with hb'
    injection hb' with _ hb' _
    exact ht hb'.symm
  exact (hw.block k (Array.getElem?_eq_some_iff.1 e).1 (by omega)).trans e
def RT (w : World) (x : RowE) : Prop := OwV x.lo x.hi w (.bs x.bytes) x.val ∧ (x.hi ≤ x.lo ∨ (x.hi = x.lo + 1 ∧ ∃ cs, w.heap[x.lo]? = some (.cells cs 5 (0, 0))))
theorem RT.turn {w w' : World} {x : RowE} (h : RT w x) (hs : w.heap.size ≤ w'.heap.size) (hu : B8 w w') : RT w' x := by
  obtain ⟨h1, h2⟩ := h
  have hk : Kept (Wn x.lo x.hi) w w' := by
    rcases h2 with h2 | ⟨h2, cs, h3⟩
    · exact ⟨hs, fun g o _ z => by have := z.1; have := z.2; omega, fun g o _ z => by have := z.1; have := z.2; omega⟩
    · have e : w'.heap[x.lo]? = w.heap[x.lo]? := (hu _ _ h3).trans h3.symm
      refine ⟨hs, fun g o _ z => ?_, fun g o _ z => ?_⟩
      · obtain rfl : x.lo = g := by have := z.1; have := z.2; omega
        exact World.cell?_of_block (a := ⟨x.lo, o, none⟩) e
      · obtain rfl : x.lo = g := by have := z.1; have := z.2; omega
        exact World.frozen?_of_block (a := ⟨x.lo, o, none⟩) e
  refine ⟨⟨Nat.le_trans h1.1 hs, Ow.kept _ hk h1.2⟩, ?_⟩
  rcases h2 with h2 | ⟨h2, cs, h3⟩
  · exact .inl h2
  · exact .inr ⟨h2, cs, hu _ _ h3⟩
theorem RT.of_row {w : World} {B c : Nat} {A : Option Addr} {l : List Int} (h : w.ownsRow B 5 1 (.slice A l.length c) l.length (l.map (Value.int .u8))) (hB : B ≤ w.heap.size) (ps : List V) :
    ∃ lo hi, B ≤ lo ∧ RT w ⟨ps, .slice A l.length c, l, lo, hi⟩ := by
  obtain ⟨A', cp, e, ob, k1, k2⟩ := own_ob h
  injection e with e1 _ e3
  subst e1 e3
  by_cases hl : l = []
  · exact ⟨B, B, Nat.le_refl _, ⟨hB, by unfold Ow; exact ⟨A, c, rfl, ⟨k1, k2⟩, .inl hl⟩⟩, .inl (Nat.le_refl _)⟩
  · have h0 : 0 < l.length := List.length_pos_iff.2 hl
    obtain ⟨_, ⟨_, h9⟩ | ⟨g, cap, cur, h3, h4, h5, _⟩⟩ := h
    · omega
    · injection h3 with h3 _ _
      rcases ob with q | ⟨b, off, q1, q2, q3, q4, q5⟩
      · exact absurd q hl
      · rw [h3] at q1
        have e1 : g = b := by simpa using congrArg (fun z => z.map Addr.block) q1
        have e2 : (0 : Nat) = off := by simpa using congrArg (fun z => z.map Addr.off) q1
        subst e1 e2
        have hg := (Array.getElem?_eq_some_iff.1 h5).1
        exact ⟨g, g + 1, h4, Ob.owv (.inr ⟨g, 0, h3, Nat.le_refl _, Nat.lt_succ_self _, hg, q5⟩) hg ⟨k1, k2⟩, .inr ⟨rfl, cur, h5⟩⟩
theorem RT.far {w : World} {x : RowE} (h : RT w x) {t : TypeId} (ht : t ≠ 5) {g : Nat} {cs : Array Value} (hg : w.heap[g]? = some (.cells cs t (0, 0))) : g < x.lo ∨ x.hi ≤ g := by
  rcases h.2 with h2 | ⟨h2, cs2, h3⟩
  · omega
  · have : g ≠ x.lo := fun e => by
      rw [e, h3] at hg
      injection hg with hg
      injection hg with _ hg _
      exact ht hg.symm
    omega
/-- Owned entries, each in a window of its own. -/
def RTs (B : Nat) (w : World) (q : List RowE) : Prop := (∀ x ∈ q, RT w x ∧ B ≤ x.lo) ∧ q.Pairwise (fun x y => x.hi ≤ y.lo ∨ y.hi ≤ x.lo)
theorem RTs.nil (B : Nat) (w : World) : RTs B w [] := ⟨fun _ h => by simp at h, List.Pairwise.nil⟩
theorem RTs.turn {B : Nat} {w w' : World} {q : List RowE} (h : RTs B w q) (hs : w.heap.size ≤ w'.heap.size) (hu : B8 w w') : RTs B w' q := ⟨fun x hx => ⟨(h.1 x hx).1.turn hs hu, (h.1 x hx).2⟩, h.2⟩
theorem RTs.snoc {B : Nat} {w : World} {q : List RowE} {x : RowE} (h : RTs B w q) (hx : RT w x) (hB : B ≤ x.lo) (hl : ∀ y ∈ q, y.hi ≤ x.lo) : RTs B w (q ++ [x]) :=
  ⟨fun y hy => by
    rcases List.mem_append.1 hy with hy | hy
    · exact h.1 y hy
    · simp at hy; subst hy; exact ⟨hx, hB⟩, List.pairwise_append.2 ⟨h.2, by simp, fun y hy z hz => by simp at hz; subst hz; exact .inl (hl y hy)⟩⟩
theorem RTs.top {B : Nat} {w : World} {q : List RowE} (h : RTs B w q) : ∀ x ∈ q, x.hi ≤ w.heap.size := fun x hx => (h.1 x hx).1.1.1
theorem RTs.own {w : World} {B0 B n W : Nat} {t : TypeId} {v : Value} {q : List RowE} (h : w.ownsRow B t W v n (flatR q)) (hn : q.length = n) (hk : ∀ x ∈ q, REok W x) (ht : t ≠ 5) (h00 : B0 ≤ B) (hq : RTs B0 w q) : OwV B0 w.heap.size w (.st n (q.flatMap RowE.vs)) v :=
  own_rows h hn hk h00 (fun x hx => ⟨(hq.1 x hx).1.1, (hq.1 x hx).2⟩) (fun _ _ _ hh x hx => (hq.1 x hx).1.far ht hh) hq.2

/-! Rows of other types; a row's own block. -/
theorem own_otherT {w w' : World} {B B2 s s2 n n2 : Nat} {e e2 : TypeId} {v v2 : Value} {xs xs2 : List Value} (h : w.ownsRow B e s v n xs) (hg : w.grownBy w' v2.ownBlock) (h2 : w.ownsRow B2 e2 s2 v2 n2 xs2) (ht : e ≠ e2) : w'.ownsRow B e s v n xs := by
  obtain ⟨h1, h3 | ⟨g, cap, cur, h3, h4, h5, h6⟩⟩ := h
  · exact ⟨h1, .inl h3⟩
  · refine ⟨h1, .inr ⟨g, cap, cur, h3, h4, (hg.block g (Array.getElem?_eq_some_iff.1 h5).1 (fun q => ?_)).trans h5, h6⟩⟩
    obtain ⟨_, ⟨rfl, _⟩ | ⟨g2, cap2, cur2, rfl, _, k5, _⟩⟩ := h2
    · simp [Value.ownBlock] at q
    · simp [Value.ownBlock] at q
      subst q
      rw [h5] at k5
      injection k5 with k5
      injection k5 with _ k5 _
      exact ht k5
theorem own_farT {w : World} {B s n g : Nat} {e t : TypeId} {v : Value} {xs : List Value} {cs : Array Value} (h : w.ownsRow B e s v n xs) (k : Blk w g t cs) (ht : t ≠ e) (i : Nat) (u : Value) : (w.setCell ⟨g, i, none⟩ u).ownsRow B e s v n xs := by
  obtain ⟨h1, h2 | ⟨g', cap, cur, h3, h4, h5, h6⟩⟩ := h
  · exact ⟨h1, .inl h2⟩
  · refine ⟨h1, .inr ⟨g', cap, cur, h3, h4, (Below.heap_setCell _ _ _ _ (show g' ≠ g from fun q => ?_)).trans h5, h6⟩⟩
    subst q
    have k' : w.heap[g']? = some (.cells cs t (0, 0)) := k
    rw [h5] at k'
    injection k' with k'
    injection k' with _ k' _
    exact ht k'.symm
theorem own_keptT {w w' : World} {B g s n : Nat} {e : TypeId} {v : Value} {xs : List Value} (h : w.ownsRow B e s v n xs) (hw : Win g (g + 1) w w') (hg : g < B) : w'.ownsRow B e s v n xs := by
  obtain ⟨h1, h2 | ⟨g', cap, cur, h3, h4, h5, h6⟩⟩ := h
  · exact ⟨h1, .inl h2⟩
  · exact ⟨h1, .inr ⟨g', cap, cur, h3, h4, (hw.block g' (Array.getElem?_eq_some_iff.1 h5).1 (.inr (by omega))).trans h5, h6⟩⟩
theorem own_lenT {w : World} {B s n : Nat} {e : TypeId} {v : Value} {xs : List Value} (h : w.ownsRow B e s v n xs) : ∃ (A : Option Addr) (c : Nat), v = .slice A n c := by
  obtain ⟨_, ⟨h2, h3⟩ | ⟨g, cap, cur, h3, _⟩⟩ := h
  · exact ⟨none, 0, by rw [h2, h3]⟩
  · exact ⟨_, _, h3⟩
theorem own_monoT {w : World} {B B' s n : Nat} {e : TypeId} {v : Value} {xs : List Value} (h : w.ownsRow B e s v n xs) (hB : B' ≤ B) : w.ownsRow B' e s v n xs := by
  obtain ⟨h1, h2 | ⟨g, cap, cur, h3, h4, h5⟩⟩ := h
  · exact ⟨h1, .inl h2⟩
  · exact ⟨h1, .inr ⟨g, cap, cur, h3, Nat.le_trans hB h4, h5⟩⟩
theorem own_cellsT {w : World} {B s n : Nat} {e : TypeId} {v : Value} {xs : List Value} (h : w.ownsRow B e s v n xs) : ∃ (A : Option Addr) (c : Nat), v = .slice A n c ∧ ∀ j, j < n * s → ∃ g, A = some ⟨g, 0, none⟩ ∧ B ≤ g ∧ g < w.heap.size ∧ ∀ t, t < n * s → w.cell? ⟨g, t, none⟩ = xs[t]? := by
  have h' := h
  obtain ⟨h1, ⟨rfl, h0⟩ | ⟨g, cap, cur, rfl, h4, h5, h6⟩⟩ := h
  · exact ⟨none, 0, by rw [h0], fun j hj => by rw [h0] at hj; omega⟩
  · exact ⟨_, _, rfl, fun j hj => ⟨g, rfl, h4, (Array.getElem?_eq_some_iff.1 h5).1, fun t ht => h'.cellAt t ht⟩⟩
/-- A row of any struct type: one struct appended, out of a new block. -/
theorem wpList_append_row {w : World} {ops : Array Oper} {rest : List Oper} {o : Oper} {a : Act} {Q : Exit → Act → World → Prop} (hgd : o.guard = none) (s x : Operand) {T e : TypeId} {W by_ : Nat} {z : Value}
    (hT : Tryz.prog.underlying T = some (.slice e)) (hinfo : (Tryz.prog.info? e).map (fun i => (i.zero, i.size, i.bytes)) = some (some z, W, by_)) (hz : z.cells.size = W) (hW : 0 < W) (hby : by_ ≤ 1000)
    (ho : o.op = .call { callee := .builtin .append, args := #[s, x], argTypes := #[T, T] })
    (base : Nat) (v : Value) (n : Nat) (xs : List Value) (hs : a.eval s = v) (hown : w.ownsRow base e W v n xs)
    (q m c : Nat) (news : List Value) (hx : a.eval x = .slice (some ⟨q, 0, none⟩) m c) (hl : news.length = m * W) (hq : ∀ j u, news[j]? = some u → w.cell? ⟨q, j, none⟩ = some u) (h1c : ∀ u ∈ news, u.oneCell' = true) (hm : n + m ≤ 100000) (hbase : base ≤ w.heap.size)
    (h : ∀ v' w', w'.ownsRow base e W v' (n + m) (xs ++ news) → w.grownBy w' v.ownBlock → (v'.ownBlock = v.ownBlock ∨ v'.ownBlock = some w.heap.size) → wpList Tryz.prog ops Q rest (a.put o.dst v') w') : wpList Tryz.prog ops Q (o :: rest) a w := by
  obtain ⟨i0, hi, hzz⟩ := Option.map_eq_some_iff.1 hinfo
  simp only [Prod.mk.injEq] at hzz
  obtain ⟨hz0, hz1, hz2⟩ := hzz
  refine wpList_append_own_at w hgd s x T ho base e i0 z W by_ hT hi hz0 hz1 hz2 hz hW v n xs hs hown ⟨q, 0, none⟩ m c news hx hl
    (fun j u hu => ?_) h1c (by unfold maxLen; omega) (by have := Nat.mul_le_mul hm hby; omega) hbase (fun v' w' h1 h2 _ h4 => h v' w' h1 h2 h4)
  have e : (⟨q, 0, none⟩ : Addr).add j = ⟨q, j, none⟩ := by rw [show (⟨q, 0, none⟩ : Addr).add j = ⟨q, 0 + j, none⟩ by unfold Addr.add; split <;> simp_all, Nat.zero_add]
  rw [e]
  exact hq j u hu
/-- A row of structs appended to a row of structs. -/
theorem wpList_append_rows {w : World} {ops : Array Oper} {rest : List Oper} {o : Oper} {a : Act} {Q : Exit → Act → World → Prop} (hgd : o.guard = none) (s x : Operand) {T e : TypeId} {W by_ : Nat} {z : Value}
    (hT : Tryz.prog.underlying T = some (.slice e)) (hinfo : (Tryz.prog.info? e).map (fun i => (i.zero, i.size, i.bytes)) = some (some z, W, by_)) (hz : z.cells.size = W) (hW : 0 < W) (hby : by_ ≤ 1000)
    (ho : o.op = .call { callee := .builtin .append, args := #[s, x], argTypes := #[T, T] })
    (base : Nat) (v : Value) (n : Nat) (xs : List Value) (hs : a.eval s = v) (hown : w.ownsRow base e W v n xs)
    (base2 m : Nat) (v2 : Value) (ys : List Value) (hx : a.eval x = v2) (hown2 : w.ownsRow base2 e W v2 m ys) (h1c : ∀ u ∈ ys, u.oneCell' = true) (hm : n + m ≤ 100000) (hbase : base ≤ w.heap.size)
    (h : ∀ v' w', w'.ownsRow base e W v' (n + m) (xs ++ ys) → w.grownBy w' v.ownBlock → (v'.ownBlock = v.ownBlock ∨ v'.ownBlock = some w.heap.size) → wpList Tryz.prog ops Q rest (a.put o.dst v') w') : wpList Tryz.prog ops Q (o :: rest) a w := by
  have h' := hown2
  obtain ⟨hl2, ⟨rfl, h0⟩ | ⟨g, cap, cur, rfl, h4, h5, h6⟩⟩ := hown2
  · obtain ⟨i0, hi, hzz⟩ := Option.map_eq_some_iff.1 hinfo
    simp only [Prod.mk.injEq] at hzz
    have hy : ys = [] := List.eq_nil_of_length_eq_zero (by rw [hl2, h0]; omega)
    subst h0 hy
    refine wpList_plain hgd fun K hK => ?_
    have hrun := run_append_of_nil (P := Tryz.prog) w base T o.type e i0 W hT hi v n xs hown 0
    unfold Oper.wp
    simp [execOp, ho, resolve, invoke, builtin, hs, hx, hrun, Result.andThen]
    exact hK _ _ (h v w (by simpa using hown) (World.grownBy.refl w _) (.inl rfl))
  · exact wpList_append_row hgd s x hT hinfo hz hW hby ho base v n xs hs hown g m cap ys hx hl2 (fun j u hu => (h'.cellAt j (by rw [← hl2]; exact (List.getElem?_eq_some_iff.1 hu).1)).trans hu) h1c hm hbase h
theorem flatR_one {W : Nat} : ∀ {q : List RowE}, (∀ x ∈ q, REok W x) → (∀ x ∈ q, ∃ A n c, x.val = .slice A n c) → ∀ u ∈ flatR q, u.oneCell' = true
  | [], _, _, u, hu => by simp [flatR] at hu
  | x :: q, h, k, u, hu => by
    rw [flatR_cons] at hu
    rcases List.mem_append.1 hu with hu | hu
    · rcases List.mem_append.1 hu with hu | hu
      · obtain ⟨p, hp, rfl⟩ := List.mem_map.1 hu
        have := (h x (by simp)).2 p hp
        cases p <;> first | rfl | exact this.elim
      · simp only [List.mem_cons, List.not_mem_nil, or_false] at hu
        obtain ⟨A, n, c, e⟩ := k x (by simp)
        rw [hu, e]; rfl
    · exact flatR_one (fun y hy => h y (by simp [hy])) (fun y hy => k y (by simp [hy])) u hu
theorem RT.val {w : World} {x : RowE} (h : RT w x) : ∃ A n c, x.val = .slice A n c := by
  obtain ⟨A, c, e⟩ := h.1.rd.bs_sh
  exact ⟨A, _, c, e⟩
/-- A row is kept where another block is written. -/
theorem own_set {w : World} {B s n : Nat} {e : TypeId} {v : Value} {xs : List Value} (h : w.ownsRow B e s v n xs) {g : Nat} (hg : ∀ k, v.ownBlock = some k → k ≠ g) (i : Nat) (u : Value) : (w.setCell ⟨g, i, none⟩ u).ownsRow B e s v n xs := by
  obtain ⟨h1, h2 | ⟨g', cap, cur, rfl, h4, h5, h6⟩⟩ := h
  · exact ⟨h1, .inl h2⟩
  · exact ⟨h1, .inr ⟨g', cap, cur, rfl, h4, (Below.heap_setCell _ _ _ _ (show g' ≠ g from hg g' (by simp [Value.ownBlock]))).trans h5, h6⟩⟩
end Go.Proofs.YtacdnednkglobaaGreatDoor
