/- The region of l6Vector that draws its order. -/
import Derived.Test.YtjjileefdjjijaaS5QR
import Derived.Test.YtjjileefdjjijaaM6
namespace Go.Proofs.Ytjjileefdjjijaa
open Go.RowKit Go.Deep

set_option maxRecDepth 100000 in
set_option maxHeartbeats 1000000 in
theorem regV1 {Q : Exit → Act → World → Prop} (x1 u_2 : Value) (g o : Nat) (y : InitM) (A2 : Option Addr) (c2 : Nat) (ww wq : World) (ht0 : 0 ≤ y.Tag) (ht1 : y.Tag ≤ 4294967295) (hrl : y.Random.length ≤ 1000) (q0 : ww.cell? ⟨g, o, none⟩ = some (.int .i64 y.Tag)) (q2 : ww.cell? ⟨g, o + 2, none⟩ = some (.slice A2 y.Random.length c2)) (hP : Bs ww A2 y.Random) (hgl : g < ww.heap.size) (hB : ww.heap.size ≤ wq.heap.size) {ops : Array Oper}
    (hops : (ops.map fun o => (o.op, o.dst, o.guard)) = #[(Op.move (Operand.tmp 0), some 3, none), (Op.nilCheck (Operand.tmp 3), some 4, none), (Op.fieldAddr 37 (Operand.tmp 4) 0, some 5, none), (Op.load 2 (Operand.tmp 5), some 6, none), (Op.call { callee := Callee.value (Operand.func 69), args := #[(Operand.tmp 6)], argTypes := #[2] }, some 7, none), (Op.move (Operand.tmp 0), some 8, none), (Op.nilCheck (Operand.tmp 8), some 9, none), (Op.fieldAddr 37 (Operand.tmp 9) 2, some 10, none), (Op.load 29 (Operand.tmp 10), some 11, none), (Op.call { callee := Callee.builtin Builtin.append, args := #[(Operand.tmp 7), (Operand.tmp 11)], argTypes := #[29, 29] }, some 12, none), (Op.assign (Operand.tmp 12), some 2, none)])
    (hdeps : ((List.range 11).all fun i => ((fun i => [[], [0], [1], [2], [3], [], [5], [6], [7], [4, 8], [9]].getD i []) i).all fun j => ((ops[i]?).map fun o => o.after.any fun e => Region.binds .any e && e.on == j).getD false) = true)
    (hback : ((List.range 11).all fun i => ((ops[i]?).map fun o => o.after.all fun e => decide (e.on < i)).getD false) = true)
    {a0 : Act} (ha : a0 = { tmps := #[.pointer (some ⟨g, o, none⟩), x1, u_2, undef, undef, undef, undef, undef, undef, undef, undef, undef, undef], defers := [] }) (hE_4_9 : false = true → false = true) (hE_4_10 : false = true → false = true) (hE_9_10 : false = true → false = true) (hO : Below ww.heap.size ww wq) (hS : wq.heap.size ≤ wq.heap.size)
    (fin : ∀ t3 t4 t5 t6 t7 t8 t9 t10 t11 t12 t2 (W : World), (Below ww.heap.size ww W) → (wq.heap.size ≤ W.heap.size) → (W.ownsRow wq.heap.size 5 1 t2 (4 + y.Random.length) ((pk y.Tag ++ y.Random).map (Value.int .u8))) → Q .normal { tmps := #[.pointer (some ⟨g, o, none⟩), x1, t2, t3, t4, t5, t6, t7, t8, t9, t10, t11, t12], defers := [] } W) :
    wpAny Try.prog .any ops Q ops.size (Array.replicate ops.size false) a0 wq := by
  have hn : ops.size = 11 := by have := congrArg Array.size hops; simpa using this
  obtain ⟨J, HJ⟩ : ∃ J : (Nat → Bool) → Act → World → Prop, ∀ dn ac W, J dn ac W ↔ (fun dn ac W => ∃ t3 t4 t5 t6 t7 t8 t9 t10 t11 t12 t2, ac = { tmps := #[.pointer (some ⟨g, o, none⟩), x1, t2, t3, t4, t5, t6, t7, t8, t9, t10, t11, t12], defers := [] } ∧ (dn 9 = true → dn 4 = true) ∧ (dn 10 = true → dn 4 = true) ∧ (dn 10 = true → dn 9 = true) ∧ (Below ww.heap.size ww W) ∧ (wq.heap.size ≤ W.heap.size) ∧ (dn 0 = true → t3 = .pointer (some ⟨g, o, none⟩)) ∧ (dn 1 = true → t4 = .pointer (some ⟨g, o, none⟩)) ∧ (dn 2 = true → t5 = .pointer (some ⟨g, o, none⟩)) ∧ (dn 3 = true → t6 = .int .i64 y.Tag) ∧ (dn 4 = true → dn 9 = false → W.ownsRow wq.heap.size 5 1 t7 4 ((pk y.Tag).map (Value.int .u8))) ∧ (dn 5 = true → t8 = .pointer (some ⟨g, o, none⟩)) ∧ (dn 6 = true → t9 = .pointer (some ⟨g, o, none⟩)) ∧ (dn 7 = true → t10 = .pointer (some ⟨g, o + 2, none⟩)) ∧ (dn 8 = true → t11 = .slice A2 y.Random.length c2) ∧ (dn 9 = true → dn 10 = false → W.ownsRow wq.heap.size 5 1 t12 (4 + y.Random.length) ((pk y.Tag ++ y.Random).map (Value.int .u8))) ∧ (dn 10 = true → W.ownsRow wq.heap.size 5 1 t2 (4 + y.Random.length) ((pk y.Tag ++ y.Random).map (Value.int .u8)))) dn ac W := ⟨_, fun _ _ _ => Iff.rfl⟩
  replace HJ := hidH HJ
  refine region_inv 11 (fun i => [[], [0], [1], [2], [3], [], [5], [6], [7], [4, 8], [9]].getD i []) J hn hdeps hback ?start ?step ?fin
  case start => exact (HJ.out _ _ _).2 ⟨undef, undef, undef, undef, undef, undef, undef, undef, undef, undef, u_2, ha, hE_4_9, hE_4_10, hE_9_10, hO, hS, fun h => by simp at h, fun h => by simp at h, fun h => by simp at h, fun h => by simp at h, fun h => by simp at h, fun h => by simp at h, fun h => by simp at h, fun h => by simp at h, fun h => by simp at h, fun h => by simp at h, fun h => by simp at h⟩
  all_goals clear ha hE_4_9 hE_4_10 hE_9_10 hO hS
  case step =>
    clear fin hdeps hback
    intro i hi dn ac W hJ hdn hdep
    obtain ⟨t3, t4, t5, t6, t7, t8, t9, t10, t11, t12, t2, rfl, hE_4_9, hE_4_10, hE_9_10, hO, hS, h0, h1, h2, h3, h4, h5, h6, h7, h8, h9, h10⟩ := (HJ.out _ _ _).1 hJ
    clear hJ
    match i, hi with
    | 0, _ =>
      obtain ⟨ty, ps, af, ho⟩ := op_lit hops (i := 0) (op := Op.move (Operand.tmp 0)) (dst := some 3) (g := none) rfl
      refine wpOp_lit ho (fun j b h => by cases h) ?_
      clear hops hdep ho
      replace h1 := hidH h1
      replace h2 := hidH h2
      replace h3 := hidH h3
      replace h4 := hidH h4
      replace h5 := hidH h5
      replace h6 := hidH h6
      replace h7 := hidH h7
      replace h8 := hidH h8
      replace h9 := hidH h9
      replace h10 := hidH h10
      go_wp2
      exact (HJ.out _ _ _).2 ⟨_, _, _, _, _, _, _, _, _, _, _, rfl, hE_4_9, hE_4_10, hE_9_10, hO, hS, fun _ => rfl, h1.out, h2.out, h3.out, h4.out, h5.out, h6.out, h7.out, h8.out, h9.out, h10.out⟩
    | 1, _ =>
      obtain ⟨ty, ps, af, ho⟩ := op_lit hops (i := 1) (op := Op.nilCheck (Operand.tmp 3)) (dst := some 4) (g := none) rfl
      obtain rfl := h0 (hdep 0 (by simp))
      refine wpOp_lit ho (fun j b h => by cases h) ?_
      clear hops hdep ho
      replace h0 := hidH h0
      replace h2 := hidH h2
      replace h3 := hidH h3
      replace h4 := hidH h4
      replace h5 := hidH h5
      replace h6 := hidH h6
      replace h7 := hidH h7
      replace h8 := hidH h8
      replace h9 := hidH h9
      replace h10 := hidH h10
      go_wp2
      exact (HJ.out _ _ _).2 ⟨_, _, _, _, _, _, _, _, _, _, _, rfl, hE_4_9, hE_4_10, hE_9_10, hO, hS, fun _ => rfl, fun _ => rfl, h2.out, h3.out, h4.out, h5.out, h6.out, h7.out, h8.out, h9.out, h10.out⟩
    | 2, _ =>
      obtain ⟨ty, ps, af, ho⟩ := op_lit hops (i := 2) (op := Op.fieldAddr 37 (Operand.tmp 4) 0) (dst := some 5) (g := none) rfl
      obtain rfl := h1 (hdep 1 (by simp))
      refine wpOp_lit ho (fun j b h => by cases h) ?_
      clear hops hdep ho
      replace h0 := hidH h0
      replace h1 := hidH h1
      replace h3 := hidH h3
      replace h4 := hidH h4
      replace h5 := hidH h5
      replace h6 := hidH h6
      replace h7 := hidH h7
      replace h8 := hidH h8
      replace h9 := hidH h9
      replace h10 := hidH h10
      go_wp2
      exact (HJ.out _ _ _).2 ⟨_, _, _, _, _, _, _, _, _, _, _, rfl, hE_4_9, hE_4_10, hE_9_10, hO, hS, h0.out, fun _ => rfl, fun _ => rfl, h3.out, h4.out, h5.out, h6.out, h7.out, h8.out, h9.out, h10.out⟩
    | 3, _ =>
      obtain ⟨ty, ps, af, ho⟩ := op_lit hops (i := 3) (op := Op.load 2 (Operand.tmp 5)) (dst := some 6) (g := none) rfl
      obtain rfl := h2 (hdep 2 (by simp))
      refine wpOp_lit ho (fun j b h => by cases h) ?_
      clear hops hdep ho
      replace h0 := hidH h0
      replace h1 := hidH h1
      replace h2 := hidH h2
      replace h4 := hidH h4
      replace h5 := hidH h5
      replace h6 := hidH h6
      replace h7 := hidH h7
      replace h8 := hidH h8
      replace h9 := hidH h9
      replace h10 := hidH h10
      have q := (hO.cell (p := ⟨g, o, none⟩) hgl).trans q0
      go_wp2
      exact (HJ.out _ _ _).2 ⟨_, _, _, _, _, _, _, _, _, _, _, rfl, hE_4_9, hE_4_10, hE_9_10, hO, hS, h0.out, h1.out, fun _ => rfl, fun _ => rfl, h4.out, h5.out, h6.out, h7.out, h8.out, h9.out, h10.out⟩
    | 4, _ =>
      obtain ⟨ty, ps, af, ho⟩ := op_lit hops (i := 4) (op := Op.call { callee := Callee.value (Operand.func 69), args := #[(Operand.tmp 6)], argTypes := #[2] }) (dst := some 7) (g := none) rfl
      obtain rfl := h3 (hdep 3 (by simp))
      refine wpOp_lit ho (fun j b h => by cases h) ?_
      clear hops hdep ho
      replace h0 := hidH h0
      replace h1 := hidH h1
      replace h2 := hidH h2
      replace h3 := hidH h3
      replace h5 := hidH h5
      replace h6 := hidH h6
      replace h7 := hidH h7
      replace h8 := hidH h8
      replace h9 := hidH h9
      replace h10 := hidH h10
      go_wp2_with fail
      refine (l1Pack_any _ _ ht0 ht1).mono ?_
      rintro e w1 ⟨rfl, rfl⟩
      have hb := bal (Below.refl W.heap.size W) (.cells #[.int .u8 (y.Tag / 16777216), .int .u8 (y.Tag / 65536 % 256), .int .u8 (y.Tag / 256 % 256), .int .u8 (y.Tag % 256)] 5)
      go_wp2
      exact (HJ.out _ _ _).2 ⟨_, _, _, _, _, _, _, _, _, _, _, rfl, fun _ => rfl, fun _ => rfl, hE_9_10, btr hO hb, Nat.le_trans hS hb.size, h0.out, h1.out, h2.out, fun _ => rfl, fun _ => fun _ => World.ownsRow_lit _ #[.int .u8 (y.Tag / 16777216), .int .u8 (y.Tag / 65536 % 256), .int .u8 (y.Tag / 256 % 256), .int .u8 (y.Tag % 256)] 4 hS (by unfold maxLen; omega) rfl, h5.out, h6.out, h7.out, h8.out, (fun h => by have h3 : dn 4 = true := hE_4_9 h; rw [hdn] at h3; cases h3), (fun h => by have h3 : dn 4 = true := hE_4_10 h; rw [hdn] at h3; cases h3)⟩
    | 5, _ =>
      obtain ⟨ty, ps, af, ho⟩ := op_lit hops (i := 5) (op := Op.move (Operand.tmp 0)) (dst := some 8) (g := none) rfl
      refine wpOp_lit ho (fun j b h => by cases h) ?_
      clear hops hdep ho
      replace h0 := hidH h0
      replace h1 := hidH h1
      replace h2 := hidH h2
      replace h3 := hidH h3
      replace h4 := hidH h4
      replace h6 := hidH h6
      replace h7 := hidH h7
      replace h8 := hidH h8
      replace h9 := hidH h9
      replace h10 := hidH h10
      go_wp2
      exact (HJ.out _ _ _).2 ⟨_, _, _, _, _, _, _, _, _, _, _, rfl, hE_4_9, hE_4_10, hE_9_10, hO, hS, h0.out, h1.out, h2.out, h3.out, h4.out, fun _ => rfl, h6.out, h7.out, h8.out, h9.out, h10.out⟩
    | 6, _ =>
      obtain ⟨ty, ps, af, ho⟩ := op_lit hops (i := 6) (op := Op.nilCheck (Operand.tmp 8)) (dst := some 9) (g := none) rfl
      obtain rfl := h5 (hdep 5 (by simp))
      refine wpOp_lit ho (fun j b h => by cases h) ?_
      clear hops hdep ho
      replace h0 := hidH h0
      replace h1 := hidH h1
      replace h2 := hidH h2
      replace h3 := hidH h3
      replace h4 := hidH h4
      replace h5 := hidH h5
      replace h7 := hidH h7
      replace h8 := hidH h8
      replace h9 := hidH h9
      replace h10 := hidH h10
      go_wp2
      exact (HJ.out _ _ _).2 ⟨_, _, _, _, _, _, _, _, _, _, _, rfl, hE_4_9, hE_4_10, hE_9_10, hO, hS, h0.out, h1.out, h2.out, h3.out, h4.out, fun _ => rfl, fun _ => rfl, h7.out, h8.out, h9.out, h10.out⟩
    | 7, _ =>
      obtain ⟨ty, ps, af, ho⟩ := op_lit hops (i := 7) (op := Op.fieldAddr 37 (Operand.tmp 9) 2) (dst := some 10) (g := none) rfl
      obtain rfl := h6 (hdep 6 (by simp))
      refine wpOp_lit ho (fun j b h => by cases h) ?_
      clear hops hdep ho
      replace h0 := hidH h0
      replace h1 := hidH h1
      replace h2 := hidH h2
      replace h3 := hidH h3
      replace h4 := hidH h4
      replace h5 := hidH h5
      replace h6 := hidH h6
      replace h8 := hidH h8
      replace h9 := hidH h9
      replace h10 := hidH h10
      go_wp2
      exact (HJ.out _ _ _).2 ⟨_, _, _, _, _, _, _, _, _, _, _, rfl, hE_4_9, hE_4_10, hE_9_10, hO, hS, h0.out, h1.out, h2.out, h3.out, h4.out, h5.out, fun _ => rfl, fun _ => rfl, h8.out, h9.out, h10.out⟩
    | 8, _ =>
      obtain ⟨ty, ps, af, ho⟩ := op_lit hops (i := 8) (op := Op.load 29 (Operand.tmp 10)) (dst := some 11) (g := none) rfl
      obtain rfl := h7 (hdep 7 (by simp))
      refine wpOp_lit ho (fun j b h => by cases h) ?_
      clear hops hdep ho
      replace h0 := hidH h0
      replace h1 := hidH h1
      replace h2 := hidH h2
      replace h3 := hidH h3
      replace h4 := hidH h4
      replace h5 := hidH h5
      replace h6 := hidH h6
      replace h7 := hidH h7
      replace h9 := hidH h9
      replace h10 := hidH h10
      have q := (hO.cell (p := ⟨g, o + 2, none⟩) hgl).trans q2
      go_wp2
      exact (HJ.out _ _ _).2 ⟨_, _, _, _, _, _, _, _, _, _, _, rfl, hE_4_9, hE_4_10, hE_9_10, hO, hS, h0.out, h1.out, h2.out, h3.out, h4.out, h5.out, h6.out, fun _ => rfl, fun _ => rfl, h9.out, h10.out⟩
    | 9, _ =>
      obtain ⟨ty, ps, af, ho⟩ := op_lit hops (i := 9) (op := Op.call { callee := Callee.builtin Builtin.append, args := #[(Operand.tmp 7), (Operand.tmp 11)], argTypes := #[29, 29] }) (dst := some 12) (g := none) rfl
      have hd4 := hidH (hdep 4 (by simp))
      have o4 := hidH (h4 hd4.out hdn)
      obtain rfl := h8 (hdep 8 (by simp))
      refine wpOp_lit ho (fun j b h => by cases h) ?_
      clear hops hdep ho
      replace h0 := hidH h0
      replace h1 := hidH h1
      replace h2 := hidH h2
      replace h3 := hidH h3
      replace h4 := hidH h4
      replace h5 := hidH h5
      replace h6 := hidH h6
      replace h7 := hidH h7
      replace h8 := hidH h8
      replace h10 := hidH h10
      have s2 : Bs W A2 y.Random := bs_below hP hO
      have hsz := hS
      have HL := hidH hrl
      go_wp2_with (at_builtin; refine wpList_append_bs rfl _ _ rfl wq.heap.size _ _ _ rfl o4.out A2 y.Random c2 rfl s2 (by have := HL.out; omega) hsz ?_)
      intro v2 w2 o2 hg
      have BB := hidH ((Below.refl wq.heap.size W).grown hg hsz (fun x hx => (o4.out.lt x hx).1))
      have O8 := hidH (show w2.ownsRow wq.heap.size 5 1 v2 (4 + y.Random.length) ((pk y.Tag ++ y.Random).map (Value.int .u8)) by simpa [pk] using o2)
      clear o2 hg
      go_wp2
      exact (HJ.out _ _ _).2 ⟨_, _, _, _, _, _, _, _, _, _, _, rfl, fun _ => hd4.out, hE_4_10, fun _ => rfl, hO.trans (BB.out.mono hB), Nat.le_trans hS BB.out.size, h0.out, h1.out, h2.out, h3.out, (fun _ h2 => by simp at h2), h5.out, h6.out, h7.out, fun _ => rfl, fun _ => fun _ => O8.out, (fun h => by have h3 : dn 9 = true := hE_9_10 h; rw [hdn] at h3; cases h3)⟩
    | 10, _ =>
      obtain ⟨ty, ps, af, ho⟩ := op_lit hops (i := 10) (op := Op.assign (Operand.tmp 12)) (dst := some 2) (g := none) rfl
      have hd9 := hidH (hdep 9 (by simp))
      have hd4 := hidH (hE_4_9 hd9.out)
      have o9 := hidH (h9 hd9.out hdn)
      refine wpOp_lit ho (fun j b h => by cases h) ?_
      clear hops hdep ho
      replace h0 := hidH h0
      replace h1 := hidH h1
      replace h2 := hidH h2
      replace h3 := hidH h3
      replace h4 := hidH h4
      replace h5 := hidH h5
      replace h6 := hidH h6
      replace h7 := hidH h7
      replace h8 := hidH h8
      replace h9 := hidH h9
      have hb := Below.refl W.heap.size W
      go_wp2
      exact (HJ.out _ _ _).2 ⟨_, _, _, _, _, _, _, _, _, _, _, rfl, hE_4_9, fun _ => hd4.out, fun _ => hd9.out, btr hO hb, Nat.le_trans hS hb.size, h0.out, h1.out, h2.out, h3.out, (fun _ h2 => by have h3 : dn 9 = false := h2; rw [hd9.out] at h3; cases h3), h5.out, h6.out, h7.out, h8.out, (fun _ h2 => by simp at h2), fun _ => o9.out⟩
    | n + 11, h => omega
  case fin =>
    clear hops hdeps hback
    rintro dn ac W hJ hall
    obtain ⟨t3, t4, t5, t6, t7, t8, t9, t10, t11, t12, t2, rfl, hE_4_9, hE_4_10, hE_9_10, hO, hS, h0, h1, h2, h3, h4, h5, h6, h7, h8, h9, h10⟩ := (HJ.out _ _ _).1 hJ
    exact fin _ _ _ _ _ _ _ _ _ _ _ W hO hS (h10 (hall 10 (by omega)))
end Go.Proofs.Ytjjileefdjjijaa
