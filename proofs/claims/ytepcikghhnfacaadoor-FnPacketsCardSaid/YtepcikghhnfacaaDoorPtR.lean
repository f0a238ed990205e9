/- The region of (*byteReader).packet that draws its order. -/
import Derived.Test.YtepcikghhnfacaaDoorRdC
import Derived.Test.YtepcikghhnfacaaDoorJa2
namespace Go.Proofs.YtepcikghhnfacaaDoor
open Go.RowKit Go.Deep

theorem RE.lowB {B : Nat} {w w' : World} {r : Nat} {ty : TypeId} {pv : Value} {l : List Int} (h : RE w r ty pv l) (hb : Below B w w') (hr : r < B) : RE w' r ty pv l := by
  obtain ⟨⟨A, c, h1, h2, h3, h4, h5⟩, he, h0, hby⟩ := h
  refine ⟨⟨A, c, (hb.block r hr).trans h1, ?_, h3, h4, h5⟩, (hb.cell (p := ⟨0, 0, none⟩) (by show 0 < _; omega)).trans he, h0, hby⟩
  rcases h2 with h2 | ⟨b, off, e, s1, s2⟩
  · exact .inl h2
  · have hbr := h5 _ e
    exact .inr ⟨b, off, e, Nat.lt_of_lt_of_le s1 hb.size, fun j hj => (hb.cell (p := ⟨b, off + j, none⟩) (by show b < _; simp at hbr; omega)).trans (s2 j hj)⟩
set_option maxRecDepth 100000 in
set_option maxHeartbeats 1000000 in
theorem regPt {Q : Exit → Act → World → Prop} (x1 x2 x4 x5 x6 x7 x8 x9 x10 x11 x12 x13 x14 u_15 u_16 u_17 u_18 u_19 u_20 u_21 : Value) (ws : World) (r g B T : Nat) (k0 f0 tag : Int) (v : Value) (cs : List Chk) (body l l2 : List Int) (ty : TypeId) (pv : Value)
    (hrg : r < g) (hgB : g < B) (hwB : ws.heap.size ≤ B) (hgw : ws.heap.size ≤ g) (hBT : B ≤ T) (hcn : cs.length ≤ 100000)
    (CH : ∀ u : World, RE u r ty pv l → Calls Tryd.prog 77 #[.pointer (some ⟨r, 0, none⟩)] u fun e w' => ∃ A c b, e = .returned (.agg #[.int .i64 k0, .int .i64 f0, .slice A body.length c]) ∧ Tb w' b A body ∧ (body = [] ∨ u.heap.size ≤ b ∧ b < w'.heap.size) ∧ RE w' r ty pv l2 ∧ Win r (r + 1) u w' ∧ u.heap.size < w'.heap.size) {ops : Array Oper}
    (hops : (ops.map fun o => (o.op, o.dst, o.guard)) = #[(Op.fieldAddr 26 (Operand.tmp 3) 1, some 15, none), (Op.load 24 (Operand.tmp 15), some 16, none), (Op.move (Operand.tmp 0), some 17, none), (Op.call { callee := Callee.value (Operand.func 77), args := #[(Operand.tmp 17)], argTypes := #[95] }, some 18, none), (Op.buildSlice 24 1 #[(0, (Operand.tmp 18))], some 19, none), (Op.call { callee := Callee.builtin Builtin.append, args := #[(Operand.tmp 16), (Operand.tmp 19)], argTypes := #[24, 24] }, some 20, none), (Op.fieldAddr 26 (Operand.tmp 3) 1, some 21, none), (Op.store 24 (Operand.tmp 21) (Operand.tmp 20), none, none)])
    (hdeps : ((List.range 8).all fun i => ((fun i => [[], [0], [], [2], [3], [1, 4], [], [5, 6]].getD i []) i).all fun j => ((ops[i]?).map fun o => o.after.any fun e => Region.binds .any e && e.on == j).getD false) = true)
    (hback : ((List.range 8).all fun i => ((ops[i]?).map fun o => o.after.all fun e => decide (e.on < i)).getD false) = true)
    {a0 : Act} {w0 : World} (ha : a0 = { tmps := #[.pointer (some ⟨r, 0, none⟩), x1, x2, .pointer (some ⟨g, 0, none⟩), x4, x5, x6, x7, x8, x9, x10, x11, x12, x13, x14, u_15, u_16, u_17, u_18, u_19, u_20, u_21, undef], defers := [] }) (hE : (false = true → false = true) ∧ (false = true → false = true) ∧ (false = true → false = true) ∧ (false = true → false = true)) (hP : false = false → Blk w0 g 26 #[.int .i64 tag, v]) (hG : false = false → Gr B T w0 v cs) (hRE : (false = false → RE w0 r ty pv l) ∧ (false = true → RE w0 r ty pv l2)) (hW : Win r (r + 1) ws w0) (hT : w0.heap.size ≤ w0.heap.size) (hGT : T ≤ w0.heap.size)
    (fin : ∀ t15 t16 t17 t18 t19 t20 t21 (W : World), (RE W r ty pv l2) → (Win r (r + 1) ws W) → (∃ v2 T2, Blk W g 26 #[.int .i64 tag, v2] ∧ Gr B T2 W v2 (cs ++ [⟨k0, f0, body⟩]) ∧ w0.heap.size ≤ T2) → Q .normal { tmps := #[.pointer (some ⟨r, 0, none⟩), x1, x2, .pointer (some ⟨g, 0, none⟩), x4, x5, x6, x7, x8, x9, x10, x11, x12, x13, x14, t15, t16, t17, t18, t19, t20, t21, undef], defers := [] } W) :
    wpAny Tryd.prog .any ops Q ops.size (Array.replicate ops.size false) a0 w0 := by
  have hn : ops.size = 8 := by have := congrArg Array.size hops; simpa using this
  obtain ⟨J, HJ⟩ : ∃ J : (Nat → Bool) → Act → World → Prop, ∀ dn ac W, J dn ac W ↔ (fun dn ac W => ∃ t15 t16 t17 t18 t19 t20 t21, ac = { tmps := #[.pointer (some ⟨r, 0, none⟩), x1, x2, .pointer (some ⟨g, 0, none⟩), x4, x5, x6, x7, x8, x9, x10, x11, x12, x13, x14, t15, t16, t17, t18, t19, t20, t21, undef], defers := [] } ∧ ((dn 7 = true → dn 5 = true) ∧ (dn 5 = true → dn 4 = true) ∧ (dn 4 = true → dn 3 = true) ∧ (dn 5 = true → dn 1 = true)) ∧ (dn 7 = false → Blk W g 26 #[.int .i64 tag, v]) ∧ (dn 5 = false → Gr B T W v cs) ∧ ((dn 3 = false → RE W r ty pv l) ∧ (dn 3 = true → RE W r ty pv l2)) ∧ (Win r (r + 1) ws W) ∧ (w0.heap.size ≤ W.heap.size) ∧ (T ≤ w0.heap.size) ∧ (dn 0 = true → t15 = .pointer (some ⟨g, 1, none⟩)) ∧ (dn 1 = true → t16 = v) ∧ (dn 2 = true → t17 = .pointer (some ⟨r, 0, none⟩)) ∧ (dn 3 = true → dn 5 = false → ∃ (A2 : Option Addr) (c2 b2 : Nat), t18 = .agg #[.int .i64 k0, .int .i64 f0, .slice A2 body.length c2] ∧ Tb W b2 A2 body ∧ (body = [] ∨ w0.heap.size ≤ b2 ∧ b2 < W.heap.size)) ∧ (dn 4 = true → dn 5 = false → ∃ (A2 : Option Addr) (c2 b2 q : Nat), t19 = .slice (some ⟨q, 0, none⟩) 1 1 ∧ Blk W q 49 #[.int .i64 k0, .int .i64 f0, .slice A2 body.length c2] ∧ Tb W b2 A2 body ∧ w0.heap.size ≤ b2 ∧ b2 < W.heap.size) ∧ (dn 5 = true → dn 7 = false → ∃ T2, Gr B T2 W t20 (cs ++ [⟨k0, f0, body⟩]) ∧ w0.heap.size ≤ T2) ∧ (dn 6 = true → t21 = .pointer (some ⟨g, 1, none⟩)) ∧ (dn 7 = true → ∃ v2 T2, Blk W g 26 #[.int .i64 tag, v2] ∧ Gr B T2 W v2 (cs ++ [⟨k0, f0, body⟩]) ∧ w0.heap.size ≤ T2)) dn ac W := ⟨_, fun _ _ _ => Iff.rfl⟩
  replace HJ := hidH HJ
  refine region_inv 8 (fun i => [[], [0], [], [2], [3], [1, 4], [], [5, 6]].getD i []) J hn hdeps hback ?start ?step ?fin
  case start => exact (HJ.out _ _ _).2 ⟨u_15, u_16, u_17, u_18, u_19, u_20, u_21, ha, hE, hP, hG, hRE, hW, hT, hGT, fun h => by simp at h, fun h => by simp at h, fun h => by simp at h, fun h => by simp at h, fun h => by simp at h, fun h => by simp at h, fun h => by simp at h, fun h => by simp at h⟩
  all_goals clear ha hE hP hG hRE hW hT hGT
  case step =>
    clear fin hdeps hback
    intro i hi dn ac W hJ hdn hdep
    obtain ⟨t15, t16, t17, t18, t19, t20, t21, rfl, hE, hP, hG, hRE, hW, hT, hGT, h0, h1, h2, h3, h4, h5, h6, h7⟩ := (HJ.out _ _ _).1 hJ
    clear hJ
    match i, hi with
    | 0, _ =>
      obtain ⟨ty, ps, af, ho⟩ := op_lit hops (i := 0) (op := Op.fieldAddr 26 (Operand.tmp 3) 1) (dst := some 15) (g := none) rfl
      refine wpOp_lit ho (fun j b h => by cases h) ?_
      clear hops hdep ho
      replace h1 := hidH h1
      replace h2 := hidH h2
      replace h3 := hidH h3
      replace h4 := hidH h4
      replace h5 := hidH h5
      replace h6 := hidH h6
      replace h7 := hidH h7
      go_wp2
      exact (HJ.out _ _ _).2 ⟨_, _, _, _, _, _, _, rfl, hE, hP, hG, hRE, hW, hT, hGT, fun _ => rfl, h1.out, h2.out, h3.out, h4.out, h5.out, h6.out, h7.out⟩
    | 1, _ =>
      obtain ⟨ty, ps, af, ho⟩ := op_lit hops (i := 1) (op := Op.load 24 (Operand.tmp 15)) (dst := some 16) (g := none) rfl
      have hk7 : dn 7 = false := by
        rcases hq : dn 7 with _ | _
        · rfl
        · have h3 : dn 1 = true := hE.2.2.2 (hE.1 hq)
          rw [hdn] at h3; cases h3
      obtain rfl := h0 (hdep 0 (by simp))
      refine wpOp_lit ho (fun j b h => by cases h) ?_
      clear hops hdep ho
      replace h0 := hidH h0
      replace h2 := hidH h2
      replace h3 := hidH h3
      replace h4 := hidH h4
      replace h5 := hidH h5
      replace h6 := hidH h6
      replace h7 := hidH h7
      have hb := Below.refl W.heap.size W
      have kp := hP hk7
      have q1 := kp.cell 1
      simp only [List.getElem?_toArray, List.getElem?_cons_succ, List.getElem?_cons_zero] at q1
      have hlt := kp.lt
      go_wp2
      exact (HJ.out _ _ _).2 ⟨_, _, _, _, _, _, _, rfl, ⟨hE.1, hE.2.1, hE.2.2.1, (fun _ => rfl)⟩, fun h => (hP h).below hb, fun h => (hG h).below hb, ⟨(fun h => (hRE.1 h).below hb), (fun h => (hRE.2 h).below hb)⟩, hW.andBelow (hb.mono hW.size), Nat.le_trans hT hb.size, hGT, fun _ => rfl, fun _ => rfl, h2.out, fun h h2 => by obtain ⟨A2, c2, b2, q1, q2, q3⟩ := h3.out h h2; exact ⟨A2, c2, b2, q1, q2.below hb, q3.imp id (fun q => ⟨q.1, Nat.lt_of_lt_of_le q.2 hb.size⟩)⟩, fun h h2 => by obtain ⟨A2, c2, b2, q, q1, qb, q2, q3, q4⟩ := h4.out h h2; exact ⟨A2, c2, b2, q, q1, qb.below hb, q2.below hb, q3, Nat.lt_of_lt_of_le q4 hb.size⟩, fun h h2 => by obtain ⟨T2, q, qt⟩ := h5.out h h2; exact ⟨T2, q.below hb, qt⟩, h6.out, (fun h => by have h3 : dn 1 = true := hE.2.2.2 (hE.1 h); rw [hdn] at h3; cases h3)⟩
    | 2, _ =>
      obtain ⟨ty, ps, af, ho⟩ := op_lit hops (i := 2) (op := Op.move (Operand.tmp 0)) (dst := some 17) (g := none) rfl
      refine wpOp_lit ho (fun j b h => by cases h) ?_
      clear hops hdep ho
      replace h0 := hidH h0
      replace h1 := hidH h1
      replace h3 := hidH h3
      replace h4 := hidH h4
      replace h5 := hidH h5
      replace h6 := hidH h6
      replace h7 := hidH h7
      go_wp2
      exact (HJ.out _ _ _).2 ⟨_, _, _, _, _, _, _, rfl, hE, hP, hG, hRE, hW, hT, hGT, h0.out, h1.out, fun _ => rfl, h3.out, h4.out, h5.out, h6.out, h7.out⟩
    | 3, _ =>
      obtain ⟨ty, ps, af, ho⟩ := op_lit hops (i := 3) (op := Op.call { callee := Callee.value (Operand.func 77), args := #[(Operand.tmp 17)], argTypes := #[95] }) (dst := some 18) (g := none) rfl
      obtain rfl := h2 (hdep 2 (by simp))
      refine wpOp_lit ho (fun j b h => by cases h) ?_
      clear hops hdep ho
      replace h0 := hidH h0
      replace h1 := hidH h1
      replace h2 := hidH h2
      replace h4 := hidH h4
      replace h5 := hidH h5
      replace h6 := hidH h6
      replace h7 := hidH h7
      go_wp2_with fail
      refine (CH _ (hRE.1 hdn)).mono ?_
      rintro e w1 ⟨A2, c2, b2, rfl, r1, r2, r3, hw, r4⟩
      have S2 := hidH (And.intro r1 (r2.imp id (fun q => And.intro (Nat.le_trans hT q.1) q.2)))
      have R3 := hidH r3
      clear r1 r2 r3 r4
      go_wp2
      exact (HJ.out _ _ _).2 ⟨_, _, _, _, _, _, _, rfl, ⟨hE.1, hE.2.1, (fun _ => rfl), hE.2.2.2⟩, (fun h => hw.blk (hP h) (.inr hrg)), (fun h => (hG h).win hw (by omega)), ⟨(fun h => by simp at h), (fun _ => R3.out)⟩, hW.trans hw, Nat.le_trans hT hw.size, hGT, h0.out, h1.out, fun _ => rfl, fun _ => fun _ => ⟨A2, c2, b2, rfl, S2.out⟩, (fun h => by have h3 : dn 3 = true := hE.2.2.1 h; rw [hdn] at h3; cases h3), (fun h => by have h3 : dn 3 = true := hE.2.2.1 (hE.2.1 h); rw [hdn] at h3; cases h3), h6.out, (fun h => by have h3 : dn 3 = true := hE.2.2.1 (hE.2.1 (hE.1 h)); rw [hdn] at h3; cases h3)⟩
    | 4, _ =>
      obtain ⟨ty, ps, af, ho⟩ := op_lit hops (i := 4) (op := Op.buildSlice 24 1 #[(0, (Operand.tmp 18))]) (dst := some 19) (g := none) rfl
      have hk5 : dn 5 = false := by
        rcases hq : dn 5 with _ | _
        · rfl
        · have h3 : dn 4 = true := hE.2.1 hq
          rw [hdn] at h3; cases h3
      have hd3 := hidH (hdep 3 (by simp))
      obtain ⟨A2, c2, b2, rfl, r1, r2⟩ := h3 (hdep 3 (by simp)) hk5
      refine wpOp_lit ho (fun j b h => by cases h) ?_
      clear hops hdep ho
      replace h0 := hidH h0
      replace h1 := hidH h1
      replace h2 := hidH h2
      replace h3 := hidH h3
      replace h5 := hidH h5
      replace h6 := hidH h6
      replace h7 := hidH h7
      have hb := bal (Below.refl W.heap.size W) (.cells #[.int .i64 k0, .int .i64 f0, .slice A2 body.length c2] 49)
      have KQ := Blk.new W 49 #[.int .i64 k0, .int .i64 f0, .slice A2 body.length c2]
      obtain ⟨b3, s1, s2, s3⟩ := tb_pick (r1.below hb) (B := w0.heap.size) (q := W.heap.size) hT KQ.lt (r2.imp id (fun q => ⟨q.1, Nat.lt_of_lt_of_le q.2 hb.size⟩))
      have S3 := hidH (And.intro KQ (And.intro s1 (And.intro s2 s3)))
      clear KQ s1 s2 s3 r1 r2
      go_wp2
      exact (HJ.out _ _ _).2 ⟨_, _, _, _, _, _, _, rfl, ⟨hE.1, (fun _ => rfl), (fun _ => hd3.out), hE.2.2.2⟩, fun h => (hP h).below hb, fun h => (hG h).below hb, ⟨(fun h => (hRE.1 h).below hb), (fun h => (hRE.2 h).below hb)⟩, hW.andBelow (hb.mono hW.size), Nat.le_trans hT hb.size, hGT, h0.out, h1.out, h2.out, fun h h2 => by obtain ⟨A2, c2, b2, q1, q2, q3⟩ := h3.out h h2; exact ⟨A2, c2, b2, q1, q2.below hb, q3.imp id (fun q => ⟨q.1, Nat.lt_of_lt_of_le q.2 hb.size⟩)⟩, fun _ => fun _ => ⟨A2, c2, b3, _, rfl, S3.out⟩, (fun h => by have h3 : dn 4 = true := hE.2.1 h; rw [hdn] at h3; cases h3), h6.out, (fun h => by have h3 : dn 4 = true := hE.2.1 (hE.1 h); rw [hdn] at h3; cases h3)⟩
    | 5, _ =>
      obtain ⟨ty, ps, af, ho⟩ := op_lit hops (i := 5) (op := Op.call { callee := Callee.builtin Builtin.append, args := #[(Operand.tmp 16), (Operand.tmp 19)], argTypes := #[24, 24] }) (dst := some 20) (g := none) rfl
      have hd4 := hidH (hdep 4 (by simp))
      have hd1 := hidH (hdep 1 (by simp))
      obtain ⟨A2, c2, b2, q, rfl, kq, r1, r2, r3⟩ := h4 (hdep 4 (by simp)) hdn
      obtain rfl := h1 (hdep 1 (by simp))
      refine wpOp_lit ho (fun j b h => by cases h) ?_
      clear hops hdep ho
      replace h0 := hidH h0
      replace h1 := hidH h1
      replace h2 := hidH h2
      replace h3 := hidH h3
      replace h4 := hidH h4
      replace h6 := hidH h6
      replace h7 := hidH h7
      have gk := hG hdn
      have gk2 := gk.mono hGT hT
      go_wp2_with (at_builtin; go_loud (refine wpList_append_gr rfl _ _ rfl B w0.heap.size _ cs rfl gk2 q ⟨k0, f0, body⟩ A2 c2 b2 _ rfl kq r1 r2 r3 (Nat.le_trans hBT hGT) hcn ?_))
      intro v6 w6 g6 hb
      have G6 := hidH g6
      clear g6
      go_wp2
      exact (HJ.out _ _ _).2 ⟨_, _, _, _, _, _, _, rfl, ⟨(fun _ => rfl), (fun _ => hd4.out), hE.2.2.1, (fun _ => hd1.out)⟩, (fun h => (hb.block g hgB).trans (hP h)), (fun h2 => by simp at h2), ⟨(fun h => (hRE.1 h).lowB hb (by omega)), (fun h => (hRE.2 h).lowB hb (by omega))⟩, hW.andBelow (hb.mono hwB), Nat.le_trans hT hb.size, hGT, h0.out, fun _ => rfl, h2.out, (fun _ h2 => by simp at h2), (fun _ h2 => by simp at h2), fun _ => fun _ => ⟨_, G6.out, hT⟩, h6.out, (fun h => by have h3 : dn 5 = true := hE.1 h; rw [hdn] at h3; cases h3)⟩
    | 6, _ =>
      obtain ⟨ty, ps, af, ho⟩ := op_lit hops (i := 6) (op := Op.fieldAddr 26 (Operand.tmp 3) 1) (dst := some 21) (g := none) rfl
      refine wpOp_lit ho (fun j b h => by cases h) ?_
      clear hops hdep ho
      replace h0 := hidH h0
      replace h1 := hidH h1
      replace h2 := hidH h2
      replace h3 := hidH h3
      replace h4 := hidH h4
      replace h5 := hidH h5
      replace h7 := hidH h7
      go_wp2
      exact (HJ.out _ _ _).2 ⟨_, _, _, _, _, _, _, rfl, hE, hP, hG, hRE, hW, hT, hGT, h0.out, h1.out, h2.out, h3.out, h4.out, h5.out, fun _ => rfl, h7.out⟩
    | 7, _ =>
      obtain ⟨ty, ps, af, ho⟩ := op_lit hops (i := 7) (op := Op.store 24 (Operand.tmp 21) (Operand.tmp 20)) (dst := none) (g := none) rfl
      have hd5 := hidH (hdep 5 (by simp))
      obtain ⟨T2, g5, g5t⟩ := h5 (hdep 5 (by simp)) hdn
      obtain ⟨P6, n6, c6, rfl⟩ := g5.sliceN
      replace h5 := hidH h5
      obtain rfl := h6 (hdep 6 (by simp))
      refine wpOp_lit ho (fun j b h => by cases h) ?_
      clear hops hdep ho
      replace h0 := hidH h0
      replace h1 := hidH h1
      replace h2 := hidH h2
      replace h3 := hidH h3
      replace h4 := hidH h4
      replace h5 := hidH h5
      replace h6 := hidH h6
      have kp := hP hdn
      have x1 := kp.cell 1
      simp only [List.getElem?_toArray, List.getElem?_cons_succ, List.getElem?_cons_zero] at x1
      have f1 := kp.frozen 1
      have hlt := kp.lt
      have KS := hidH (blk_put2 kp (.slice P6 n6 c6))
      have G7 := hidH (g5.win (win_set W g 1 (.slice P6 n6 c6)) hgB)
      clear g5
      go_wp2
      exact (HJ.out _ _ _).2 ⟨_, _, _, _, _, _, _, rfl, ⟨(fun _ => hd5.out), hE.2⟩, (fun h2 => by simp at h2), (fun h2 => by have h3 : dn 5 = false := h2; rw [hd5.out] at h3; cases h3), ⟨(fun h => (hRE.1 h).far (win_set W g 1 _) hrg), (fun h => (hRE.2 h).far (win_set W g 1 _) hrg)⟩, hW.andBelow ((Below.refl ws.heap.size W).setCell (p := ⟨g, 1, none⟩) hgw _), (by simpa [World.setCell] using hT), hGT, h0.out, h1.out, h2.out, (fun _ h2 => by have h3 : dn 5 = false := h2; rw [hd5.out] at h3; cases h3), (fun _ h2 => by have h3 : dn 5 = false := h2; rw [hd5.out] at h3; cases h3), (fun _ h2 => by simp at h2), fun _ => rfl, fun _ => ⟨_, T2, KS.out, G7.out, g5t⟩⟩
    | n + 8, h => omega
  case fin =>
    clear hops hdeps hback
    rintro dn ac W hJ hall
    obtain ⟨t15, t16, t17, t18, t19, t20, t21, rfl, hE, hP, hG, hRE, hW, hT, hGT, h0, h1, h2, h3, h4, h5, h6, h7⟩ := (HJ.out _ _ _).1 hJ
    exact fin _ _ _ _ _ _ _ W (hRE.2 (hall 3 (by omega))) hW (h7 (hall 7 (by omega)))
set_option maxRecDepth 100000 in
set_option maxHeartbeats 1000000 in
theorem regPtX {Q : Exit → Act → World → Prop} (x1 x2 x4 x5 x6 x7 x8 x9 x10 x11 x12 x13 x14 u_15 u_16 u_17 u_18 u_19 u_20 u_21 : Value) (ws : World) (r g : Nat) (tag : Int) (v : Value) (l : List Int) (ty : TypeId) (pv : Value)
    (CH : ∀ u : World, RE u r ty pv l → Calls Tryd.prog 77 #[.pointer (some ⟨r, 0, none⟩)] u fun e w' => e = .panicked [{ v := .iface ty pv, recovered := false }] ∧ Win r (r + 1) u w')
    (PAN : ∀ (ac : Act) (W : World), Win r (r + 1) ws W → ac.defers = [] → Q (Exit.panic [{ v := .iface ty pv, recovered := false }]) ac W) {ops : Array Oper}
    (hops : (ops.map fun o => (o.op, o.dst, o.guard)) = #[(Op.fieldAddr 26 (Operand.tmp 3) 1, some 15, none), (Op.load 24 (Operand.tmp 15), some 16, none), (Op.move (Operand.tmp 0), some 17, none), (Op.call { callee := Callee.value (Operand.func 77), args := #[(Operand.tmp 17)], argTypes := #[95] }, some 18, none), (Op.buildSlice 24 1 #[(0, (Operand.tmp 18))], some 19, none), (Op.call { callee := Callee.builtin Builtin.append, args := #[(Operand.tmp 16), (Operand.tmp 19)], argTypes := #[24, 24] }, some 20, none), (Op.fieldAddr 26 (Operand.tmp 3) 1, some 21, none), (Op.store 24 (Operand.tmp 21) (Operand.tmp 20), none, none)])
    (hdeps : ((List.range 8).all fun i => ((fun i => [[], [0], [], [2], [3], [1, 4], [], [5, 6]].getD i []) i).all fun j => ((ops[i]?).map fun o => o.after.any fun e => Region.binds .any e && e.on == j).getD false) = true)
    (hback : ((List.range 8).all fun i => ((ops[i]?).map fun o => o.after.all fun e => decide (e.on < i)).getD false) = true)
    {a0 : Act} {w0 : World} (ha : a0 = { tmps := #[.pointer (some ⟨r, 0, none⟩), x1, x2, .pointer (some ⟨g, 0, none⟩), x4, x5, x6, x7, x8, x9, x10, x11, x12, x13, x14, u_15, u_16, u_17, u_18, u_19, u_20, u_21, undef], defers := [] }) (hP : Blk w0 g 26 #[.int .i64 tag, v]) (hRE : RE w0 r ty pv l) (hW : Win r (r + 1) ws w0) :
    wpAny Tryd.prog .any ops Q ops.size (Array.replicate ops.size false) a0 w0 := by
  have hn : ops.size = 8 := by have := congrArg Array.size hops; simpa using this
  obtain ⟨J, HJ⟩ : ∃ J : (Nat → Bool) → Act → World → Prop, ∀ dn ac W, J dn ac W ↔ (fun dn ac W => ∃ t15 t16 t17 t18 t19 t20 t21, ac = { tmps := #[.pointer (some ⟨r, 0, none⟩), x1, x2, .pointer (some ⟨g, 0, none⟩), x4, x5, x6, x7, x8, x9, x10, x11, x12, x13, x14, t15, t16, t17, t18, t19, t20, t21, undef], defers := [] } ∧ (Blk W g 26 #[.int .i64 tag, v]) ∧ (RE W r ty pv l) ∧ (Win r (r + 1) ws W) ∧ (dn 0 = true → t15 = .pointer (some ⟨g, 1, none⟩)) ∧ (dn 1 = true → t16 = v) ∧ (dn 2 = true → t17 = .pointer (some ⟨r, 0, none⟩)) ∧ (dn 3 = true → False) ∧ (dn 4 = true → False) ∧ (dn 5 = true → False) ∧ (dn 6 = true → t21 = .pointer (some ⟨g, 1, none⟩)) ∧ (dn 7 = true → False)) dn ac W := ⟨_, fun _ _ _ => Iff.rfl⟩
  replace HJ := hidH HJ
  refine region_inv 8 (fun i => [[], [0], [], [2], [3], [1, 4], [], [5, 6]].getD i []) J hn hdeps hback ?start ?step ?fin
  case start => exact (HJ.out _ _ _).2 ⟨u_15, u_16, u_17, u_18, u_19, u_20, u_21, ha, hP, hRE, hW, fun h => by simp at h, fun h => by simp at h, fun h => by simp at h, fun h => by simp at h, fun h => by simp at h, fun h => by simp at h, fun h => by simp at h, fun h => by simp at h⟩
  all_goals clear ha hP hRE hW
  case step =>
    clear hdeps hback
    intro i hi dn ac W hJ hdn hdep
    obtain ⟨t15, t16, t17, t18, t19, t20, t21, rfl, hP, hRE, hW, h0, h1, h2, h3, h4, h5, h6, h7⟩ := (HJ.out _ _ _).1 hJ
    clear hJ
    match i, hi with
    | 0, _ =>
      obtain ⟨ty, ps, af, ho⟩ := op_lit hops (i := 0) (op := Op.fieldAddr 26 (Operand.tmp 3) 1) (dst := some 15) (g := none) rfl
      refine wpOp_lit ho (fun j b h => by cases h) ?_
      clear hops hdep ho
      replace h1 := hidH h1
      replace h2 := hidH h2
      replace h3 := hidH h3
      replace h4 := hidH h4
      replace h5 := hidH h5
      replace h6 := hidH h6
      replace h7 := hidH h7
      go_wp2
      exact (HJ.out _ _ _).2 ⟨_, _, _, _, _, _, _, rfl, hP, hRE, hW, fun _ => rfl, h1.out, h2.out, h3.out, h4.out, h5.out, h6.out, h7.out⟩
    | 1, _ =>
      obtain ⟨ty, ps, af, ho⟩ := op_lit hops (i := 1) (op := Op.load 24 (Operand.tmp 15)) (dst := some 16) (g := none) rfl
      obtain rfl := h0 (hdep 0 (by simp))
      refine wpOp_lit ho (fun j b h => by cases h) ?_
      clear hops hdep ho
      replace h0 := hidH h0
      replace h2 := hidH h2
      replace h3 := hidH h3
      replace h4 := hidH h4
      replace h5 := hidH h5
      replace h6 := hidH h6
      replace h7 := hidH h7
      have q1 := hP.cell 1
      simp only [List.getElem?_toArray, List.getElem?_cons_succ, List.getElem?_cons_zero] at q1
      have hlt := hP.lt
      go_wp2
      exact (HJ.out _ _ _).2 ⟨_, _, _, _, _, _, _, rfl, hP, hRE, hW, fun _ => rfl, fun _ => rfl, h2.out, h3.out, h4.out, h5.out, h6.out, h7.out⟩
    | 2, _ =>
      obtain ⟨ty, ps, af, ho⟩ := op_lit hops (i := 2) (op := Op.move (Operand.tmp 0)) (dst := some 17) (g := none) rfl
      refine wpOp_lit ho (fun j b h => by cases h) ?_
      clear hops hdep ho
      replace h0 := hidH h0
      replace h1 := hidH h1
      replace h3 := hidH h3
      replace h4 := hidH h4
      replace h5 := hidH h5
      replace h6 := hidH h6
      replace h7 := hidH h7
      go_wp2
      exact (HJ.out _ _ _).2 ⟨_, _, _, _, _, _, _, rfl, hP, hRE, hW, h0.out, h1.out, fun _ => rfl, h3.out, h4.out, h5.out, h6.out, h7.out⟩
    | 3, _ =>
      obtain ⟨ty, ps, af, ho⟩ := op_lit hops (i := 3) (op := Op.call { callee := Callee.value (Operand.func 77), args := #[(Operand.tmp 17)], argTypes := #[95] }) (dst := some 18) (g := none) rfl
      obtain rfl := h2 (hdep 2 (by simp))
      refine wpOp_lit ho (fun j b h => by cases h) ?_
      clear hops hdep ho
      replace h0 := hidH h0
      replace h1 := hidH h1
      replace h2 := hidH h2
      replace h4 := hidH h4
      replace h5 := hidH h5
      replace h6 := hidH h6
      replace h7 := hidH h7
      go_wp2_with fail
      refine (CH _ hRE).mono ?_
      rintro e w1 ⟨rfl, hw⟩
      go_wp2
      exact PAN _ _ (hW.trans hw) rfl
    | 4, _ =>
      obtain ⟨ty, ps, af, ho⟩ := op_lit hops (i := 4) (op := Op.buildSlice 24 1 #[(0, (Operand.tmp 18))]) (dst := some 19) (g := none) rfl
      exact (h3 (hdep 3 (by simp))).elim
    | 5, _ =>
      obtain ⟨ty, ps, af, ho⟩ := op_lit hops (i := 5) (op := Op.call { callee := Callee.builtin Builtin.append, args := #[(Operand.tmp 16), (Operand.tmp 19)], argTypes := #[24, 24] }) (dst := some 20) (g := none) rfl
      exact (h4 (hdep 4 (by simp))).elim
    | 6, _ =>
      obtain ⟨ty, ps, af, ho⟩ := op_lit hops (i := 6) (op := Op.fieldAddr 26 (Operand.tmp 3) 1) (dst := some 21) (g := none) rfl
      refine wpOp_lit ho (fun j b h => by cases h) ?_
      clear hops hdep ho
      replace h0 := hidH h0
      replace h1 := hidH h1
      replace h2 := hidH h2
      replace h3 := hidH h3
      replace h4 := hidH h4
      replace h5 := hidH h5
      replace h7 := hidH h7
      go_wp2
      exact (HJ.out _ _ _).2 ⟨_, _, _, _, _, _, _, rfl, hP, hRE, hW, h0.out, h1.out, h2.out, h3.out, h4.out, h5.out, fun _ => rfl, h7.out⟩
    | 7, _ =>
      obtain ⟨ty, ps, af, ho⟩ := op_lit hops (i := 7) (op := Op.store 24 (Operand.tmp 21) (Operand.tmp 20)) (dst := none) (g := none) rfl
      exact (h5 (hdep 5 (by simp))).elim
    | n + 8, h => omega
  case fin =>
    clear hops hdeps hback
    rintro dn ac W hJ hall
    obtain ⟨t15, t16, t17, t18, t19, t20, t21, rfl, hP, hRE, hW, h0, h1, h2, h3, h4, h5, h6, h7⟩ := (HJ.out _ _ _).1 hJ
    exact (h3 (hall 3 (by omega))).elim
end Go.Proofs.YtepcikghhnfacaaDoor
