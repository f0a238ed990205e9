/- The region of the program's VectorOf that draws its order. -/
import Derived.Test.YtjjileefdjjijaaS6JI
import Derived.Test.YtjjileefdjjijaaRegInv
import Derived.Test.YtjjileefdjjijaaTyInit
namespace Go.Proofs.Ytjjileefdjjijaa
open Go.RowKit Go.Deep

set_option maxRecDepth 100000 in
set_option maxHeartbeats 1000000 in
theorem regV2 {Q : Exit → Act → World → Prop} (x0 x2 x3 x5 x6 x7 x8 x9 x10 x11 x12 x13 x14 x15 x16 x17 x18 x19 : Value) (g G R : Nat) (A2 : Option Addr) (c2 : Nat) (l X0 : List Int) (ww : World) (hX : Hid (X0.length = 20)) (hrl : Hid (l.length = 16)) (hG : ww.heap.size ≤ G) (hRl : R < G) (hgl : g < ww.heap.size) (hP0 : Bs ww A2 l) (hI0 : ww.cell? ⟨g, 2, none⟩ = some (.slice A2 16 c2)) {ops : Array Oper}
    (hops : (ops.map fun o => (o.op, o.dst, o.guard)) = #[(Op.move (Operand.tmp 4), some 20, none), (Op.slice 29 (Operand.tmp 20) (some ((Operand.const (Value.int .i64 4)))) none none, some 21, none), (Op.fieldAddr 37 (Operand.tmp 1) 2, some 22, none), (Op.load 29 (Operand.tmp 22), some 23, none), (Op.call { callee := Callee.builtin Builtin.copy, args := #[(Operand.tmp 21), (Operand.tmp 23)], argTypes := #[29, 29] }, some 24, none)])
    (hdeps : ((List.range 5).all fun i => ((fun i => [[], [0], [], [2], [1, 3]].getD i []) i).all fun j => ((ops[i]?).map fun o => o.after.any fun e => Region.binds .any e && e.on == j).getD false) = true)
    (hback : ((List.range 5).all fun i => ((ops[i]?).map fun o => o.after.all fun e => decide (e.on < i)).getD false) = true)
    {a0 : Act} {w0 : World} (ha : a0 = { tmps := #[x0, .pointer (some ⟨g, 0, none⟩), x2, x3, .slice (some ⟨G, 0, none⟩) 20 20, x5, x6, x7, x8, x9, x10, x11, x12, x13, x14, x15, x16, x17, x18, x19, undef, undef, undef, undef, undef, undef, undef], defers := [] }) (hM0 : false = false → Brow w0 G X0) (hM1 : false = true → Brow w0 G (X0.take 4 ++ l ++ X0.drop 20)) (hO : Below ww.heap.size ww w0) (hP : Bs w0 A2 l) (hI : w0.cell? ⟨g, 2, none⟩ = some (.slice A2 16 c2)) (hR : Blk w0 R 35 #[.int .i64 0, .slice none 0 0])
    (fin : ∀ t20 t21 t22 t23 (W : World), (Brow W G (X0.take 4 ++ l ++ X0.drop 20)) → (Below ww.heap.size ww W) → (Blk W R 35 #[.int .i64 0, .slice none 0 0]) → Q .normal { tmps := #[x0, .pointer (some ⟨g, 0, none⟩), x2, x3, .slice (some ⟨G, 0, none⟩) 20 20, x5, x6, x7, x8, x9, x10, x11, x12, x13, x14, x15, x16, x17, x18, x19, t20, t21, t22, t23, .int .i64 16, undef, undef], defers := [] } W) :
    wpAny Try.prog .any ops Q ops.size (Array.replicate ops.size false) a0 w0 := by
  have hn : ops.size = 5 := by have := congrArg Array.size hops; simpa using this
  obtain ⟨J, HJ⟩ : ∃ J : (Nat → Bool) → Act → World → Prop, ∀ dn ac W, J dn ac W ↔ (fun dn ac W => ∃ t20 t21 t22 t23 t24, ac = { tmps := #[x0, .pointer (some ⟨g, 0, none⟩), x2, x3, .slice (some ⟨G, 0, none⟩) 20 20, x5, x6, x7, x8, x9, x10, x11, x12, x13, x14, x15, x16, x17, x18, x19, t20, t21, t22, t23, t24, undef, undef], defers := [] } ∧ (dn 4 = false → Brow W G X0) ∧ (dn 4 = true → Brow W G (X0.take 4 ++ l ++ X0.drop 20)) ∧ (Below ww.heap.size ww W) ∧ (Bs W A2 l) ∧ (W.cell? ⟨g, 2, none⟩ = some (.slice A2 16 c2)) ∧ (Blk W R 35 #[.int .i64 0, .slice none 0 0]) ∧ (dn 0 = true → t20 = .slice (some ⟨G, 0, none⟩) 20 20) ∧ (dn 1 = true → t21 = .slice (some ⟨G, 4, none⟩) 16 16) ∧ (dn 2 = true → t22 = .pointer (some ⟨g, 2, none⟩)) ∧ (dn 3 = true → t23 = .slice A2 16 c2) ∧ (dn 4 = true → t24 = .int .i64 16)) dn ac W := ⟨_, fun _ _ _ => Iff.rfl⟩
  replace HJ := hidH HJ
  refine region_inv 5 (fun i => [[], [0], [], [2], [1, 3]].getD i []) J hn hdeps hback ?start ?step ?fin
  case start => exact (HJ.out _ _ _).2 ⟨undef, undef, undef, undef, undef, ha, hM0, hM1, hO, hP, hI, hR, fun h => by simp at h, fun h => by simp at h, fun h => by simp at h, fun h => by simp at h, fun h => by simp at h⟩
  all_goals clear ha hM0 hM1 hO hP hI hR
  case step =>
    clear fin hdeps hback
    intro i hi dn ac W hJ hdn hdep
    obtain ⟨t20, t21, t22, t23, t24, rfl, hM0, hM1, hO, hP, hI, hR, h0, h1, h2, h3, h4⟩ := (HJ.out _ _ _).1 hJ
    clear hJ
    match i, hi with
    | 0, _ =>
      obtain ⟨ty, ps, af, ho⟩ := op_lit hops (i := 0) (op := Op.move (Operand.tmp 4)) (dst := some 20) (g := none) rfl
      refine wpOp_lit ho (fun j b h => by cases h) ?_
      clear hops hdep ho
      replace h1 := hidH h1
      replace h2 := hidH h2
      replace h3 := hidH h3
      replace h4 := hidH h4
      go_wp2
      exact (HJ.out _ _ _).2 ⟨_, _, _, _, _, rfl, hM0, hM1, hO, hP, hI, hR, fun _ => rfl, h1.out, h2.out, h3.out, h4.out⟩
    | 1, _ =>
      obtain ⟨ty, ps, af, ho⟩ := op_lit hops (i := 1) (op := Op.slice 29 (Operand.tmp 20) (some ((Operand.const (Value.int .i64 4)))) none none) (dst := some 21) (g := none) rfl
      obtain rfl := h0 (hdep 0 (by simp))
      refine wpOp_lit ho (fun j b h => by cases h) ?_
      clear hops hdep ho
      replace h0 := hidH h0
      replace h2 := hidH h2
      replace h3 := hidH h3
      replace h4 := hidH h4
      go_wp2
      exact (HJ.out _ _ _).2 ⟨_, _, _, _, _, rfl, hM0, hM1, hO, hP, hI, hR, fun _ => rfl, fun _ => rfl, h2.out, h3.out, h4.out⟩
    | 2, _ =>
      obtain ⟨ty, ps, af, ho⟩ := op_lit hops (i := 2) (op := Op.fieldAddr 37 (Operand.tmp 1) 2) (dst := some 22) (g := none) rfl
      refine wpOp_lit ho (fun j b h => by cases h) ?_
      clear hops hdep ho
      replace h0 := hidH h0
      replace h1 := hidH h1
      replace h3 := hidH h3
      replace h4 := hidH h4
      go_wp2
      exact (HJ.out _ _ _).2 ⟨_, _, _, _, _, rfl, hM0, hM1, hO, hP, hI, hR, h0.out, h1.out, fun _ => rfl, h3.out, h4.out⟩
    | 3, _ =>
      obtain ⟨ty, ps, af, ho⟩ := op_lit hops (i := 3) (op := Op.load 29 (Operand.tmp 22)) (dst := some 23) (g := none) rfl
      obtain rfl := h2 (hdep 2 (by simp))
      refine wpOp_lit ho (fun j b h => by cases h) ?_
      clear hops hdep ho
      replace h0 := hidH h0
      replace h1 := hidH h1
      replace h2 := hidH h2
      replace h4 := hidH h4
      go_wp2
      exact (HJ.out _ _ _).2 ⟨_, _, _, _, _, rfl, hM0, hM1, hO, hP, hI, hR, h0.out, h1.out, fun _ => rfl, fun _ => rfl, h4.out⟩
    | 4, _ =>
      obtain ⟨ty, ps, af, ho⟩ := op_lit hops (i := 4) (op := Op.call { callee := Callee.builtin Builtin.copy, args := #[(Operand.tmp 21), (Operand.tmp 23)], argTypes := #[29, 29] }) (dst := some 24) (g := none) rfl
      obtain rfl := h1 (hdep 1 (by simp))
      obtain rfl := h3 (hdep 3 (by simp))
      refine wpOp_lit ho (fun j b h => by cases h) ?_
      clear hops hdep ho
      replace h0 := hidH h0
      replace h1 := hidH h1
      replace h2 := hidH h2
      replace h3 := hidH h3
      obtain ⟨w9, hr, h9, b9⟩ := run_copy_at (T := ty) (c := c2) (o := 4) (M := 16) (hM0 hdn) (by have := hX.out; omega) (by have := hrl.out; omega) hP 16
      rw [hrl.out] at hr h9
      have M9 := hidH h9
      replace b9 := hidH b9
      go_wp2
      exact (HJ.out _ _ _).2 ⟨_, _, _, _, _, rfl, (fun h => by simp at h), fun _ => M9.out, hO.trans (b9.out.mono hG), bs_below hP0 (hO.trans (b9.out.mono hG)), (hO.trans (b9.out.mono hG)).cell (p := ⟨g, 2, none⟩) hgl |>.trans hI0, (b9.out.block R hRl).trans hR, h0.out, fun _ => rfl, h2.out, fun _ => rfl, fun _ => rfl⟩
    | n + 5, h => omega
  case fin =>
    clear hops hdeps hback
    rintro dn ac W hJ hall
    obtain ⟨t20, t21, t22, t23, t24, rfl, hM0, hM1, hO, hP, hI, hR, h0, h1, h2, h3, h4⟩ := (HJ.out _ _ _).1 hJ
    obtain rfl := h4 (hall 4 (by omega))
    exact fin _ _ _ _ W (hM1 (hall 4 (by omega))) hO hR
end Go.Proofs.Ytjjileefdjjijaa
