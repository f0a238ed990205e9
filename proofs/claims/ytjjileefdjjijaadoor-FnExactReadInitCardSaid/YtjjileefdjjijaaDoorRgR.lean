/- The regions of the program's readers of rows of two numbers that draw their order. -/
import Derived.Test.YtjjileefdjjijaaDoorMa9
import Derived.Test.YtjjileefdjjijaaDoorRegInv
namespace Go.Proofs.YtjjileefdjjijaaDoor
open Go.RowKit Go.Deep

theorem own_sliceE {w : World} {B s n : Nat} {e : TypeId} {v : Value} {xs : List Value} (h : w.ownsRow B e s v n xs) : ∃ (A : Option Addr) (m c : Nat), v = .slice A m c := by
  obtain ⟨_, ⟨h2, _⟩ | ⟨g, cap, cur, h3, _⟩⟩ := h
  · exact ⟨_, _, _, h2⟩
  · exact ⟨_, _, _, h3⟩
theorem own_farE {w : World} {B s n : Nat} {e : TypeId} {v : Value} {xs : List Value} (h : w.ownsRow B e s v n xs) {R : Nat} (hR : R < B) (i : Nat) (u : Value) : (w.setCell ⟨R, i, none⟩ u).ownsRow B e s v n xs := by
  obtain ⟨h1, h2 | ⟨g, cap, cur, h3, h4, h5, h6⟩⟩ := h
  · exact ⟨h1, .inl h2⟩
  · exact ⟨h1, .inr ⟨g, cap, cur, h3, h4, (Below.heap_setCell _ _ _ _ (show g ≠ R by omega)).trans h5, h6⟩⟩
theorem own_keptE {w w' : World} {B r s n : Nat} {e : TypeId} {v : Value} {xs : List Value} (h : w.ownsRow B e s v n xs) (hw : Win r (r + 1) w w') (hr : r < B) : w'.ownsRow B e s v n xs := by
  obtain ⟨h1, h2 | ⟨g, cap, cur, h3, h4, h5, h6⟩⟩ := h
  · exact ⟨h1, .inl h2⟩
  · exact ⟨h1, .inr ⟨g, cap, cur, h3, h4, (hw.block g (Array.getElem?_eq_some_iff.1 h5).1 (.inr (by omega))).trans h5, h6⟩⟩
theorem RE.farE {w : World} {r : Nat} {ty : TypeId} {pv : Value} {l : List Int} (h : RE w r ty pv l) {g : Nat} (hg : r + 1 ≤ g) (i : Nat) (u : Value) : RE (w.setCell ⟨g, i, none⟩ u) r ty pv l :=
  h.belowB (B := g) (bsc (Below.refl g w) (Nat.le_refl _) u) hg
theorem infoGap : (Tryd.prog.info? 52).map (fun i => (i.zero, i.size, i.bytes)) = some (some (.agg #[.int .i64 0, .int .i64 0]), 2, 16) := by kernel_rfl
theorem wpList_append_Gap {w : World} {ops : Array Oper} {rest : List Oper} {o : Oper} {a : Act} {Q : Exit → Act → World → Prop} (hgd : o.guard = none) (s x : Operand)
    (ho : o.op = .call { callee := .builtin .append, args := #[s, x], argTypes := #[32, 32] })
    (base : Nat) (v : Value) (n : Nat) (xs : List Value) (hs : a.eval s = v) (hown : w.ownsRow base 52 2 v n xs)
    (q t : Nat) (y z : Int) (hx : a.eval x = .slice (some ⟨q, 0, none⟩) 1 1) (hq : Blk w q t #[.int .i64 y, .int .i64 z]) (hm : n ≤ 100000) (hbase : base ≤ w.heap.size)
    (h : ∀ v' w', w'.ownsRow base 52 2 v' (n + 1) (xs ++ [.int .i64 y, .int .i64 z]) → w.grownBy w' v.ownBlock → wpList Tryd.prog ops Q rest (a.put o.dst v') w') : wpList Tryd.prog ops Q (o :: rest) a w := by
  obtain ⟨i0, hi, hzz⟩ := Option.map_eq_some_iff.1 infoGap
  simp only [Prod.mk.injEq] at hzz
  obtain ⟨hz0, hz1, hz2⟩ := hzz
  refine wpList_append_own w hgd s x 32 ho base 52 i0 _ 2 16 Tryd.underlying32 hi hz0 hz1 hz2 rfl (by decide) v n xs hs hown ⟨q, 0, none⟩ 1 1 [.int .i64 y, .int .i64 z] hx rfl
    (fun j u hu => ?_) (fun u hu => ?_) (by unfold maxLen; omega) (by omega) hbase (fun v' w' h1 h2 _ => h v' w' h1 h2)
  · have e : (⟨q, 0, none⟩ : Addr).add j = ⟨q, j, none⟩ := by rw [add_off, Nat.zero_add]
    rw [e, hq.cell, ← hu]
    simp
  · simp only [List.mem_cons, List.not_mem_nil, or_false] at hu
    rcases hu with rfl | rfl <;> rfl
theorem infoOp : (Tryd.prog.info? 70).map (fun i => (i.zero, i.size, i.bytes)) = some (some (.agg #[.int .i64 0, .int .i64 0]), 2, 16) := by kernel_rfl
theorem wpList_append_Op {w : World} {ops : Array Oper} {rest : List Oper} {o : Oper} {a : Act} {Q : Exit → Act → World → Prop} (hgd : o.guard = none) (s x : Operand)
    (ho : o.op = .call { callee := .builtin .append, args := #[s, x], argTypes := #[57, 57] })
    (base : Nat) (v : Value) (n : Nat) (xs : List Value) (hs : a.eval s = v) (hown : w.ownsRow base 70 2 v n xs)
    (q t : Nat) (y z : Int) (hx : a.eval x = .slice (some ⟨q, 0, none⟩) 1 1) (hq : Blk w q t #[.int .i64 y, .int .i64 z]) (hm : n ≤ 100000) (hbase : base ≤ w.heap.size)
    (h : ∀ v' w', w'.ownsRow base 70 2 v' (n + 1) (xs ++ [.int .i64 y, .int .i64 z]) → w.grownBy w' v.ownBlock → wpList Tryd.prog ops Q rest (a.put o.dst v') w') : wpList Tryd.prog ops Q (o :: rest) a w := by
  obtain ⟨i0, hi, hzz⟩ := Option.map_eq_some_iff.1 infoOp
  simp only [Prod.mk.injEq] at hzz
  obtain ⟨hz0, hz1, hz2⟩ := hzz
  refine wpList_append_own w hgd s x 57 ho base 70 i0 _ 2 16 Tryd.underlying57 hi hz0 hz1 hz2 rfl (by decide) v n xs hs hown ⟨q, 0, none⟩ 1 1 [.int .i64 y, .int .i64 z] hx rfl
    (fun j u hu => ?_) (fun u hu => ?_) (by unfold maxLen; omega) (by omega) hbase (fun v' w' h1 h2 _ => h v' w' h1 h2)
  · have e : (⟨q, 0, none⟩ : Addr).add j = ⟨q, j, none⟩ := by rw [add_off, Nat.zero_add]
    rw [e, hq.cell, ← hu]
    simp
  · simp only [List.mem_cons, List.not_mem_nil, or_false] at hu
    rcases hu with rfl | rfl <;> rfl
set_option maxRecDepth 100000 in
set_option maxHeartbeats 1000000 in
theorem regRgGap {Q : Exit → Act → World → Prop} (x1 x2 x4 x5 x6 x7 x8 x9 x10 u_11 u_12 u_13 u_14 u_15 u_16 u_17 u_18 u_19 u_20 u_21 u_22 : Value) (ws : World) (r g B n : Nat) (z0 z1 tag : Int) (v : Value) (xs0 : List Value) (l l1 l2 : List Int) (ty : TypeId) (pv : Value)
    (hrg : r + 1 ≤ g) (hgB : g < B) (hwB : ws.heap.size ≤ B) (hgw : ws.heap.size ≤ g) (hnn : n ≤ 100000)
    (CH1 : ∀ u : World, RE u r ty pv l → Calls Tryd.prog 136 #[.pointer (some ⟨r, 0, none⟩)] u fun e w' => e = .returned (.int .i64 z0) ∧ RE w' r ty pv l1 ∧ Win r (r + 1) u w' ∧ w'.heap.size = u.heap.size)
    (CH2 : ∀ u : World, RE u r ty pv l1 → Calls Tryd.prog 136 #[.pointer (some ⟨r, 0, none⟩)] u fun e w' => e = .returned (.int .i64 z1) ∧ RE w' r ty pv l2 ∧ Win r (r + 1) u w' ∧ w'.heap.size = u.heap.size) {ops : Array Oper}
    (hops : (ops.map fun o => (o.op, o.dst, o.guard)) = #[(Op.fieldAddr 34 (Operand.tmp 3) 1, some 11, none), (Op.load 32 (Operand.tmp 11), some 12, none), (Op.move (Operand.tmp 0), some 13, none), (Op.call { callee := Callee.value (Operand.func 136), args := #[(Operand.tmp 13)], argTypes := #[168] }, some 14, none), (Op.move (Operand.tmp 0), some 15, none), (Op.call { callee := Callee.value (Operand.func 136), args := #[(Operand.tmp 15)], argTypes := #[168] }, some 16, none), (Op.build 52 #[(0, (Operand.tmp 14)), (1, (Operand.tmp 16))], some 17, none), (Op.buildSlice 32 1 #[(0, (Operand.tmp 17))], some 18, none), (Op.call { callee := Callee.builtin Builtin.append, args := #[(Operand.tmp 12), (Operand.tmp 18)], argTypes := #[32, 32] }, some 19, none), (Op.fieldAddr 34 (Operand.tmp 3) 1, some 20, none), (Op.store 32 (Operand.tmp 20) (Operand.tmp 19), none, none)])
    (hdeps : ((List.range 11).all fun i => ((fun i => [[], [0], [], [2], [], [3, 4], [3, 5], [6], [1, 7], [], [8, 9]].getD i []) i).all fun j => ((ops[i]?).map fun o => o.after.any fun e => Region.binds .any e && e.on == j).getD false) = true)
    (hback : ((List.range 11).all fun i => ((ops[i]?).map fun o => o.after.all fun e => decide (e.on < i)).getD false) = true)
    {a0 : Act} {w0 : World} (ha : a0 = { tmps := #[.pointer (some ⟨r, 0, none⟩), x1, x2, .pointer (some ⟨g, 0, none⟩), x4, x5, x6, x7, x8, x9, x10, u_11, u_12, u_13, u_14, u_15, u_16, u_17, u_18, u_19, u_20, u_21, u_22], defers := [] }) (hE6 : false = true → false = true) (hE : (false = true → false = true) ∧ (false = true → false = true) ∧ (false = true → false = true) ∧ (false = true → false = true) ∧ (false = true → false = true)) (hP : false = false → Blk w0 g 34 #[.int .i64 tag, v]) (hG : false = false → w0.ownsRow B 52 2 v n xs0) (hRE : (false = false → RE w0 r ty pv l) ∧ (false = true → false = false → RE w0 r ty pv l1) ∧ (false = true → RE w0 r ty pv l2)) (hW : Win r (r + 1) ws w0) (hBW : B ≤ w0.heap.size)
    (fin : ∀ t11 t12 t13 t14 t15 t16 t17 t18 t19 t20 (W : World), (RE W r ty pv l2) → (Win r (r + 1) ws W) → (B ≤ W.heap.size) → (∃ v2, Blk W g 34 #[.int .i64 tag, v2] ∧ W.ownsRow B 52 2 v2 (n + 1) (xs0 ++ [.int .i64 z0, .int .i64 z1])) → Q .normal { tmps := #[.pointer (some ⟨r, 0, none⟩), x1, x2, .pointer (some ⟨g, 0, none⟩), x4, x5, x6, x7, x8, x9, x10, t11, t12, t13, t14, t15, t16, t17, t18, t19, t20, u_21, u_22], defers := [] } W) :
    wpAny Tryd.prog .any ops Q ops.size (Array.replicate ops.size false) a0 w0 := by
  have hn : ops.size = 11 := by have := congrArg Array.size hops; simpa using this
  obtain ⟨J, HJ⟩ : ∃ J : (Nat → Bool) → Act → World → Prop, ∀ dn ac W, J dn ac W ↔ (fun dn ac W => ∃ t11 t12 t13 t14 t15 t16 t17 t18 t19 t20, ac = { tmps := #[.pointer (some ⟨r, 0, none⟩), x1, x2, .pointer (some ⟨g, 0, none⟩), x4, x5, x6, x7, x8, x9, x10, t11, t12, t13, t14, t15, t16, t17, t18, t19, t20, u_21, u_22], defers := [] } ∧ (dn 6 = true → dn 5 = true) ∧ ((dn 10 = true → dn 8 = true) ∧ (dn 8 = true → dn 7 = true) ∧ (dn 7 = true → dn 5 = true) ∧ (dn 5 = true → dn 3 = true) ∧ (dn 8 = true → dn 1 = true)) ∧ (dn 10 = false → Blk W g 34 #[.int .i64 tag, v]) ∧ (dn 8 = false → W.ownsRow B 52 2 v n xs0) ∧ ((dn 3 = false → RE W r ty pv l) ∧ (dn 3 = true → dn 5 = false → RE W r ty pv l1) ∧ (dn 5 = true → RE W r ty pv l2)) ∧ (Win r (r + 1) ws W) ∧ (B ≤ W.heap.size) ∧ (dn 0 = true → t11 = .pointer (some ⟨g, 1, none⟩)) ∧ (dn 1 = true → t12 = v) ∧ (dn 2 = true → t13 = .pointer (some ⟨r, 0, none⟩)) ∧ (dn 3 = true → t14 = .int .i64 z0) ∧ (dn 4 = true → t15 = .pointer (some ⟨r, 0, none⟩)) ∧ (dn 5 = true → t16 = .int .i64 z1) ∧ (dn 6 = true → t17 = .agg #[.int .i64 z0, .int .i64 z1]) ∧ (dn 7 = true → dn 8 = false → ∃ q : Nat, t18 = .slice (some ⟨q, 0, none⟩) 1 1 ∧ Blk W q 52 #[.int .i64 z0, .int .i64 z1]) ∧ (dn 8 = true → dn 10 = false → W.ownsRow B 52 2 t19 (n + 1) (xs0 ++ [.int .i64 z0, .int .i64 z1])) ∧ (dn 9 = true → t20 = .pointer (some ⟨g, 1, none⟩)) ∧ (dn 10 = true → ∃ v2, Blk W g 34 #[.int .i64 tag, v2] ∧ W.ownsRow B 52 2 v2 (n + 1) (xs0 ++ [.int .i64 z0, .int .i64 z1]))) dn ac W := ⟨_, fun _ _ _ => Iff.rfl⟩
  replace HJ := hidH HJ
  refine region_inv 11 (fun i => [[], [0], [], [2], [], [3, 4], [3, 5], [6], [1, 7], [], [8, 9]].getD i []) J hn hdeps hback ?start ?step ?fin
  case start => exact (HJ.out _ _ _).2 ⟨u_11, u_12, u_13, u_14, u_15, u_16, u_17, u_18, u_19, u_20, ha, hE6, hE, hP, hG, hRE, hW, hBW, fun h => by simp at h, fun h => by simp at h, fun h => by simp at h, fun h => by simp at h, fun h => by simp at h, fun h => by simp at h, fun h => by simp at h, fun h => by simp at h, fun h => by simp at h, fun h => by simp at h, fun h => by simp at h⟩
  all_goals clear ha hE6 hE hP hG hRE hW hBW
  case step =>
    clear fin hdeps hback
    intro i hi dn ac W hJ hdn hdep
    obtain ⟨t11, t12, t13, t14, t15, t16, t17, t18, t19, t20, rfl, hE6, hE, hP, hG, hRE, hW, hBW, h0, h1, h2, h3, h4, h5, h6, h7, h8, h9, h10⟩ := (HJ.out _ _ _).1 hJ
    clear hJ
    match i, hi with
    | 0, _ =>
      obtain ⟨ty, ps, af, ho⟩ := op_lit hops (i := 0) (op := Op.fieldAddr 34 (Operand.tmp 3) 1) (dst := some 11) (g := none) rfl
      refine wpOp_lit ho (fun j b h => by cases h) ?_
      clear hops hdep ho
      replace h1 := hidH h1
      replace h2 := hidH h2
      replace h3 := hidH h3
      replace h4 := hidH h4
      replace h5 := hidH h5
      replace h6 := hidH h6
      replace h7 := hidH h7
      replace h8 := hidH h8
      replace h9 := hidH h9
      replace h10 := hidH h10
      go_wp2
      exact (HJ.out _ _ _).2 ⟨_, _, _, _, _, _, _, _, _, _, rfl, hE6, hE, hP, hG, hRE, hW, hBW, fun _ => rfl, h1.out, h2.out, h3.out, h4.out, h5.out, h6.out, h7.out, h8.out, h9.out, h10.out⟩
    | 1, _ =>
      obtain ⟨ty, ps, af, ho⟩ := op_lit hops (i := 1) (op := Op.load 32 (Operand.tmp 11)) (dst := some 12) (g := none) rfl
      have hk10 : dn 10 = false := by
        rcases hq : dn 10 with _ | _
        · rfl
        · have h3 : dn 1 = true := hE.2.2.2.2 (hE.1 hq)
          rw [hdn] at h3; cases h3
      obtain rfl := h0 (hdep 0 (by simp))
      refine wpOp_lit ho (fun j b h => by cases h) ?_
      clear hops hdep ho
      replace h0 := hidH h0
      replace h2 := hidH h2
      replace h3 := hidH h3
      replace h4 := hidH h4
      replace h5 := hidH h5
      replace h6 := hidH h6
      replace h7 := hidH h7
      replace h8 := hidH h8
      replace h9 := hidH h9
      replace h10 := hidH h10
      have hb := Below.refl W.heap.size W
      have kp := hP hk10
      have q1 := kp.cell 1
      simp only [List.getElem?_toArray, List.getElem?_cons_succ, List.getElem?_cons_zero] at q1
      have hlt := kp.lt
      go_wp2
      exact (HJ.out _ _ _).2 ⟨_, _, _, _, _, _, _, _, _, _, rfl, hE6, ⟨hE.1, hE.2.1, hE.2.2.1, hE.2.2.2.1, (fun _ => rfl)⟩, fun h => (hP h).below hb, fun h => own_below0 (hG h) hb, ⟨(fun h => (hRE.1 h).below hb), (fun h h2 => (hRE.2.1 h h2).below hb), (fun h => (hRE.2.2 h).below hb)⟩, hW.andBelow5 (hb.mono hW.size), Nat.le_trans hBW hb.size, fun _ => rfl, fun _ => rfl, h2.out, h3.out, h4.out, h5.out, h6.out, fun h h2 => by obtain ⟨q, q1, q2⟩ := h7.out h h2; exact ⟨q, q1, q2.below hb⟩, fun h h2 => own_below0 (h8.out h h2) hb, h9.out, (fun h => by have h3 : dn 1 = true := hE.2.2.2.2 (hE.1 h); rw [hdn] at h3; cases h3)⟩
    | 2, _ =>
      obtain ⟨ty, ps, af, ho⟩ := op_lit hops (i := 2) (op := Op.move (Operand.tmp 0)) (dst := some 13) (g := none) rfl
      refine wpOp_lit ho (fun j b h => by cases h) ?_
      clear hops hdep ho
      replace h0 := hidH h0
      replace h1 := hidH h1
      replace h3 := hidH h3
      replace h4 := hidH h4
      replace h5 := hidH h5
      replace h6 := hidH h6
      replace h7 := hidH h7
      replace h8 := hidH h8
      replace h9 := hidH h9
      replace h10 := hidH h10
      go_wp2
      exact (HJ.out _ _ _).2 ⟨_, _, _, _, _, _, _, _, _, _, rfl, hE6, hE, hP, hG, hRE, hW, hBW, h0.out, h1.out, fun _ => rfl, h3.out, h4.out, h5.out, h6.out, h7.out, h8.out, h9.out, h10.out⟩
    | 3, _ =>
      obtain ⟨ty, ps, af, ho⟩ := op_lit hops (i := 3) (op := Op.call { callee := Callee.value (Operand.func 136), args := #[(Operand.tmp 13)], argTypes := #[168] }) (dst := some 14) (g := none) rfl
      obtain rfl := h2 (hdep 2 (by simp))
      refine wpOp_lit ho (fun j b h => by cases h) ?_
      clear hops hdep ho
      replace h0 := hidH h0
      replace h1 := hidH h1
      replace h2 := hidH h2
      replace h4 := hidH h4
      replace h5 := hidH h5
      replace h6 := hidH h6
      replace h7 := hidH h7
      replace h8 := hidH h8
      replace h9 := hidH h9
      replace h10 := hidH h10
      go_wp2_with fail
      refine (CH1 _ (hRE.1 hdn)).mono ?_
      rintro e w1 ⟨rfl, r3, hw, _⟩
      have R3 := hidH r3
      clear r3
      go_wp2
      exact (HJ.out _ _ _).2 ⟨_, _, _, _, _, _, _, _, _, _, rfl, hE6, ⟨hE.1, hE.2.1, hE.2.2.1, (fun _ => rfl), hE.2.2.2.2⟩, (fun h => hw.blk (hP h) (.inr hrg)), (fun h => own_keptE (hG h) hw (by omega)), ⟨(fun h => by simp at h), (fun _ _ => R3.out), (fun h => by have h3 : dn 3 = true := hE.2.2.2.1 h; rw [hdn] at h3; cases h3)⟩, hW.trans hw, Nat.le_trans hBW hw.size, h0.out, h1.out, fun _ => rfl, fun _ => rfl, h4.out, h5.out, h6.out, (fun h => by have h3 : dn 3 = true := hE.2.2.2.1 (hE.2.2.1 h); rw [hdn] at h3; cases h3), (fun h => by have h3 : dn 3 = true := hE.2.2.2.1 (hE.2.2.1 (hE.2.1 h)); rw [hdn] at h3; cases h3), h9.out, (fun h => by have h3 : dn 3 = true := hE.2.2.2.1 (hE.2.2.1 (hE.2.1 (hE.1 h))); rw [hdn] at h3; cases h3)⟩
    | 4, _ =>
      obtain ⟨ty, ps, af, ho⟩ := op_lit hops (i := 4) (op := Op.move (Operand.tmp 0)) (dst := some 15) (g := none) rfl
      refine wpOp_lit ho (fun j b h => by cases h) ?_
      clear hops hdep ho
      replace h0 := hidH h0
      replace h1 := hidH h1
      replace h2 := hidH h2
      replace h3 := hidH h3
      replace h5 := hidH h5
      replace h6 := hidH h6
      replace h7 := hidH h7
      replace h8 := hidH h8
      replace h9 := hidH h9
      replace h10 := hidH h10
      go_wp2
      exact (HJ.out _ _ _).2 ⟨_, _, _, _, _, _, _, _, _, _, rfl, hE6, hE, hP, hG, hRE, hW, hBW, h0.out, h1.out, h2.out, h3.out, fun _ => rfl, h5.out, h6.out, h7.out, h8.out, h9.out, h10.out⟩
    | 5, _ =>
      obtain ⟨ty, ps, af, ho⟩ := op_lit hops (i := 5) (op := Op.call { callee := Callee.value (Operand.func 136), args := #[(Operand.tmp 15)], argTypes := #[168] }) (dst := some 16) (g := none) rfl
      have hd3 := hidH (hdep 3 (by simp))
      obtain rfl := h4 (hdep 4 (by simp))
      refine wpOp_lit ho (fun j b h => by cases h) ?_
      clear hops hdep ho
      replace h0 := hidH h0
      replace h1 := hidH h1
      replace h2 := hidH h2
      replace h3 := hidH h3
      replace h4 := hidH h4
      replace h6 := hidH h6
      replace h7 := hidH h7
      replace h8 := hidH h8
      replace h9 := hidH h9
      replace h10 := hidH h10
      go_wp2_with fail
      refine (CH2 _ (hRE.2.1 hd3.out hdn)).mono ?_
      rintro e w1 ⟨rfl, r3, hw, _⟩
      have R3 := hidH r3
      clear r3
      go_wp2
      exact (HJ.out _ _ _).2 ⟨_, _, _, _, _, _, _, _, _, _, rfl, fun _ => rfl, ⟨hE.1, hE.2.1, (fun _ => rfl), (fun _ => hd3.out), hE.2.2.2.2⟩, (fun h => hw.blk (hP h) (.inr hrg)), (fun h => own_keptE (hG h) hw (by omega)), ⟨(fun h => by have h3 : dn 3 = false := h; rw [hd3.out] at h3; cases h3), (fun _ h2 => by simp at h2), (fun _ => R3.out)⟩, hW.trans hw, Nat.le_trans hBW hw.size, h0.out, h1.out, h2.out, h3.out, fun _ => rfl, fun _ => rfl, h6.out, (fun h => by have h3 : dn 5 = true := hE.2.2.1 h; rw [hdn] at h3; cases h3), (fun h => by have h3 : dn 5 = true := hE.2.2.1 (hE.2.1 h); rw [hdn] at h3; cases h3), h9.out, (fun h => by have h3 : dn 5 = true := hE.2.2.1 (hE.2.1 (hE.1 h)); rw [hdn] at h3; cases h3)⟩
    | 6, _ =>
      obtain ⟨ty, ps, af, ho⟩ := op_lit hops (i := 6) (op := Op.build 52 #[(0, (Operand.tmp 14)), (1, (Operand.tmp 16))]) (dst := some 17) (g := none) rfl
      have hd5 := hidH (hdep 5 (by simp))
      obtain rfl := h3 (hdep 3 (by simp))
      obtain rfl := h5 (hdep 5 (by simp))
      refine wpOp_lit ho (fun j b h => by cases h) ?_
      clear hops hdep ho
      replace h0 := hidH h0
      replace h1 := hidH h1
      replace h2 := hidH h2
      replace h3 := hidH h3
      replace h4 := hidH h4
      replace h5 := hidH h5
      replace h7 := hidH h7
      replace h8 := hidH h8
      replace h9 := hidH h9
      replace h10 := hidH h10
      have hb := Below.refl W.heap.size W
      go_wp2
      exact (HJ.out _ _ _).2 ⟨_, _, _, _, _, _, _, _, _, _, rfl, fun _ => hd5.out, hE, fun h => (hP h).below hb, fun h => own_below0 (hG h) hb, ⟨(fun h => (hRE.1 h).below hb), (fun h h2 => (hRE.2.1 h h2).below hb), (fun h => (hRE.2.2 h).below hb)⟩, hW.andBelow5 (hb.mono hW.size), Nat.le_trans hBW hb.size, h0.out, h1.out, h2.out, fun _ => rfl, h4.out, fun _ => rfl, fun _ => rfl, fun h h2 => by obtain ⟨q, q1, q2⟩ := h7.out h h2; exact ⟨q, q1, q2.below hb⟩, fun h h2 => own_below0 (h8.out h h2) hb, h9.out, (fun h => by obtain ⟨v2, q1, q2⟩ := h10.out h; exact ⟨v2, q1.below hb, own_below0 q2 hb⟩)⟩
    | 7, _ =>
      obtain ⟨ty, ps, af, ho⟩ := op_lit hops (i := 7) (op := Op.buildSlice 32 1 #[(0, (Operand.tmp 17))]) (dst := some 18) (g := none) rfl
      have hd5 := hidH (hE6 (hdep 6 (by simp)))
      obtain rfl := h6 (hdep 6 (by simp))
      refine wpOp_lit ho (fun j b h => by cases h) ?_
      clear hops hdep ho
      replace h0 := hidH h0
      replace h1 := hidH h1
      replace h2 := hidH h2
      replace h3 := hidH h3
      replace h4 := hidH h4
      replace h5 := hidH h5
      replace h6 := hidH h6
      replace h8 := hidH h8
      replace h9 := hidH h9
      replace h10 := hidH h10
      have hb := bal (Below.refl W.heap.size W) (.cells #[.int .i64 z0, .int .i64 z1] 52)
      have KQ := hidH (Blk.new W 52 #[.int .i64 z0, .int .i64 z1])
      go_wp2
      exact (HJ.out _ _ _).2 ⟨_, _, _, _, _, _, _, _, _, _, rfl, hE6, ⟨hE.1, (fun _ => rfl), (fun _ => hd5.out), hE.2.2.2⟩, fun h => (hP h).below hb, fun h => own_below0 (hG h) hb, ⟨(fun h => (hRE.1 h).below hb), (fun h h2 => (hRE.2.1 h h2).below hb), (fun h => (hRE.2.2 h).below hb)⟩, hW.andBelow5 (hb.mono hW.size), Nat.le_trans hBW hb.size, h0.out, h1.out, h2.out, h3.out, h4.out, h5.out, fun _ => rfl, fun _ => fun _ => ⟨_, rfl, KQ.out⟩, (fun h => by have h3 : dn 7 = true := hE.2.1 h; rw [hdn] at h3; cases h3), h9.out, (fun h => by have h3 : dn 7 = true := hE.2.1 (hE.1 h); rw [hdn] at h3; cases h3)⟩
    | 8, _ =>
      obtain ⟨ty, ps, af, ho⟩ := op_lit hops (i := 8) (op := Op.call { callee := Callee.builtin Builtin.append, args := #[(Operand.tmp 12), (Operand.tmp 18)], argTypes := #[32, 32] }) (dst := some 19) (g := none) rfl
      have hd7 := hidH (hdep 7 (by simp))
      have hd1 := hidH (hdep 1 (by simp))
      obtain ⟨q, rfl, kq⟩ := h7 (hdep 7 (by simp)) hdn
      obtain rfl := h1 (hdep 1 (by simp))
      refine wpOp_lit ho (fun j b h => by cases h) ?_
      clear hops hdep ho
      replace h0 := hidH h0
      replace h1 := hidH h1
      replace h2 := hidH h2
      replace h3 := hidH h3
      replace h4 := hidH h4
      replace h5 := hidH h5
      replace h6 := hidH h6
      replace h7 := hidH h7
      replace h9 := hidH h9
      replace h10 := hidH h10
      have gk := hidH (hG hdn)
      have hBW2 := hBW
      go_wp2_with (at_builtin; go_loud (refine wpList_append_Gap rfl _ _ rfl B _ n xs0 rfl gk.out q _ z0 z1 rfl kq hnn hBW2 ?_))
      intro v6 w6 o6 hg
      have hb := (Below.refl B W).grown hg hBW2 (fun x hx => (gk.out.lt x hx).1)
      have O6 := hidH o6
      clear o6 hg
      go_wp2
      exact (HJ.out _ _ _).2 ⟨_, _, _, _, _, _, _, _, _, _, rfl, hE6, ⟨(fun _ => rfl), (fun _ => hd7.out), hE.2.2.1, hE.2.2.2.1, (fun _ => hd1.out)⟩, (fun h => (hb.block g hgB).trans (hP h)), (fun h2 => by simp at h2), ⟨(fun h => (hRE.1 h).belowB hb (by omega)), (fun h h2 => (hRE.2.1 h h2).belowB hb (by omega)), (fun h => (hRE.2.2 h).belowB hb (by omega))⟩, hW.andBelow5 (hb.mono hwB), Nat.le_trans hBW hb.size, h0.out, fun _ => rfl, h2.out, h3.out, h4.out, h5.out, h6.out, (fun _ h2 => by simp at h2), fun _ => fun _ => O6.out, h9.out, (fun h => by have h3 : dn 8 = true := hE.1 h; rw [hdn] at h3; cases h3)⟩
    | 9, _ =>
      obtain ⟨ty, ps, af, ho⟩ := op_lit hops (i := 9) (op := Op.fieldAddr 34 (Operand.tmp 3) 1) (dst := some 20) (g := none) rfl
      refine wpOp_lit ho (fun j b h => by cases h) ?_
      clear hops hdep ho
      replace h0 := hidH h0
      replace h1 := hidH h1
      replace h2 := hidH h2
      replace h3 := hidH h3
      replace h4 := hidH h4
      replace h5 := hidH h5
      replace h6 := hidH h6
      replace h7 := hidH h7
      replace h8 := hidH h8
      replace h10 := hidH h10
      go_wp2
      exact (HJ.out _ _ _).2 ⟨_, _, _, _, _, _, _, _, _, _, rfl, hE6, hE, hP, hG, hRE, hW, hBW, h0.out, h1.out, h2.out, h3.out, h4.out, h5.out, h6.out, h7.out, h8.out, fun _ => rfl, h10.out⟩
    | 10, _ =>
      obtain ⟨ty, ps, af, ho⟩ := op_lit hops (i := 10) (op := Op.store 32 (Operand.tmp 20) (Operand.tmp 19)) (dst := none) (g := none) rfl
      have hd8 := hidH (hdep 8 (by simp))
      have o8 := h8 (hdep 8 (by simp)) hdn
      obtain ⟨A6, n6, c6, rfl⟩ := own_sliceE o8
      replace h8 := hidH h8
      obtain rfl := h9 (hdep 9 (by simp))
      refine wpOp_lit ho (fun j b h => by cases h) ?_
      clear hops hdep ho
      replace h0 := hidH h0
      replace h1 := hidH h1
      replace h2 := hidH h2
      replace h3 := hidH h3
      replace h4 := hidH h4
      replace h5 := hidH h5
      replace h6 := hidH h6
      replace h7 := hidH h7
      replace h8 := hidH h8
      replace h9 := hidH h9
      have kp := hP hdn
      have x1 := kp.cell 1
      simp only [List.getElem?_toArray, List.getElem?_cons_succ, List.getElem?_cons_zero] at x1
      have f1 := kp.frozen 1
      have hlt := kp.lt
      have KS := hidH (show Blk (W.setCell ⟨g, 1, none⟩ (.slice A6 n6 c6)) g 34 #[.int .i64 tag, .slice A6 n6 c6] from kp.put 1 _)
      have O7 := hidH (own_farE o8 hgB 1 (.slice A6 n6 c6))
      clear o8
      go_wp2
      exact (HJ.out _ _ _).2 ⟨_, _, _, _, _, _, _, _, _, _, rfl, hE6, ⟨(fun _ => hd8.out), hE.2⟩, (fun h2 => by simp at h2), (fun h2 => by have h3 : dn 8 = false := h2; rw [hd8.out] at h3; cases h3), ⟨(fun h => RE.farE (hRE.1 h) hrg 1 _), (fun h h2 => RE.farE (hRE.2.1 h h2) hrg 1 _), (fun h => RE.farE (hRE.2.2 h) hrg 1 _)⟩, hW.andBelow5 (bsc (Below.refl ws.heap.size W) hgw _), (by simpa [World.setCell] using hBW), h0.out, h1.out, h2.out, h3.out, h4.out, h5.out, h6.out, (fun _ h2 => by have h3 : dn 8 = false := h2; rw [hd8.out] at h3; cases h3), (fun _ h2 => by simp at h2), fun _ => rfl, fun _ => ⟨_, KS.out, O7.out⟩⟩
    | n + 11, h => omega
  case fin =>
    clear hops hdeps hback
    rintro dn ac W hJ hall
    obtain ⟨t11, t12, t13, t14, t15, t16, t17, t18, t19, t20, rfl, hE6, hE, hP, hG, hRE, hW, hBW, h0, h1, h2, h3, h4, h5, h6, h7, h8, h9, h10⟩ := (HJ.out _ _ _).1 hJ
    exact fin _ _ _ _ _ _ _ _ _ _ W (hRE.2.2 (hall 5 (by omega))) hW hBW (h10 (hall 10 (by omega)))
set_option maxRecDepth 100000 in
set_option maxHeartbeats 1000000 in
theorem regRgXGap {Q : Exit → Act → World → Prop} (x1 x2 x4 x5 x6 x7 x8 x9 x10 u_11 u_12 u_13 u_14 u_15 u_16 u_17 u_18 u_19 u_20 u_21 u_22 : Value) (ws : World) (r g : Nat) (tag : Int) (v : Value) (l : List Int) (ty : TypeId) (pv : Value)
    (CH : ∀ u : World, RE u r ty pv l → Calls Tryd.prog 136 #[.pointer (some ⟨r, 0, none⟩)] u fun e w' => e = .panicked [{ v := .iface ty pv, recovered := false }] ∧ Win r (r + 1) u w')
    (PAN : ∀ (ac : Act) (W : World), Win r (r + 1) ws W → ac.defers = [] → Q (Exit.panic [{ v := .iface ty pv, recovered := false }]) ac W) {ops : Array Oper}
    (hops : (ops.map fun o => (o.op, o.dst, o.guard)) = #[(Op.fieldAddr 34 (Operand.tmp 3) 1, some 11, none), (Op.load 32 (Operand.tmp 11), some 12, none), (Op.move (Operand.tmp 0), some 13, none), (Op.call { callee := Callee.value (Operand.func 136), args := #[(Operand.tmp 13)], argTypes := #[168] }, some 14, none), (Op.move (Operand.tmp 0), some 15, none), (Op.call { callee := Callee.value (Operand.func 136), args := #[(Operand.tmp 15)], argTypes := #[168] }, some 16, none), (Op.build 52 #[(0, (Operand.tmp 14)), (1, (Operand.tmp 16))], some 17, none), (Op.buildSlice 32 1 #[(0, (Operand.tmp 17))], some 18, none), (Op.call { callee := Callee.builtin Builtin.append, args := #[(Operand.tmp 12), (Operand.tmp 18)], argTypes := #[32, 32] }, some 19, none), (Op.fieldAddr 34 (Operand.tmp 3) 1, some 20, none), (Op.store 32 (Operand.tmp 20) (Operand.tmp 19), none, none)])
    (hdeps : ((List.range 11).all fun i => ((fun i => [[], [0], [], [2], [], [3, 4], [3, 5], [6], [1, 7], [], [8, 9]].getD i []) i).all fun j => ((ops[i]?).map fun o => o.after.any fun e => Region.binds .any e && e.on == j).getD false) = true)
    (hback : ((List.range 11).all fun i => ((ops[i]?).map fun o => o.after.all fun e => decide (e.on < i)).getD false) = true)
    {a0 : Act} {w0 : World} (ha : a0 = { tmps := #[.pointer (some ⟨r, 0, none⟩), x1, x2, .pointer (some ⟨g, 0, none⟩), x4, x5, x6, x7, x8, x9, x10, u_11, u_12, u_13, u_14, u_15, u_16, u_17, u_18, u_19, u_20, u_21, u_22], defers := [] }) (hP : Blk w0 g 34 #[.int .i64 tag, v]) (hRE : RE w0 r ty pv l) (hW : Win r (r + 1) ws w0) :
    wpAny Tryd.prog .any ops Q ops.size (Array.replicate ops.size false) a0 w0 := by
  have hn : ops.size = 11 := by have := congrArg Array.size hops; simpa using this
  obtain ⟨J, HJ⟩ : ∃ J : (Nat → Bool) → Act → World → Prop, ∀ dn ac W, J dn ac W ↔ (fun dn ac W => ∃ t11 t12 t13 t14 t15 t16 t17 t18 t19 t20, ac = { tmps := #[.pointer (some ⟨r, 0, none⟩), x1, x2, .pointer (some ⟨g, 0, none⟩), x4, x5, x6, x7, x8, x9, x10, t11, t12, t13, t14, t15, t16, t17, t18, t19, t20, u_21, u_22], defers := [] } ∧ (Blk W g 34 #[.int .i64 tag, v]) ∧ (RE W r ty pv l) ∧ (Win r (r + 1) ws W) ∧ (dn 0 = true → t11 = .pointer (some ⟨g, 1, none⟩)) ∧ (dn 1 = true → t12 = v) ∧ (dn 2 = true → t13 = .pointer (some ⟨r, 0, none⟩)) ∧ (dn 3 = true → False) ∧ (dn 4 = true → t15 = .pointer (some ⟨r, 0, none⟩)) ∧ (dn 5 = true → False) ∧ (dn 6 = true → False) ∧ (dn 7 = true → False) ∧ (dn 8 = true → False) ∧ (dn 9 = true → t20 = .pointer (some ⟨g, 1, none⟩)) ∧ (dn 10 = true → False)) dn ac W := ⟨_, fun _ _ _ => Iff.rfl⟩
  replace HJ := hidH HJ
  refine region_inv 11 (fun i => [[], [0], [], [2], [], [3, 4], [3, 5], [6], [1, 7], [], [8, 9]].getD i []) J hn hdeps hback ?start ?step ?fin
  case start => exact (HJ.out _ _ _).2 ⟨u_11, u_12, u_13, u_14, u_15, u_16, u_17, u_18, u_19, u_20, ha, hP, hRE, hW, fun h => by simp at h, fun h => by simp at h, fun h => by simp at h, fun h => by simp at h, fun h => by simp at h, fun h => by simp at h, fun h => by simp at h, fun h => by simp at h, fun h => by simp at h, fun h => by simp at h, fun h => by simp at h⟩
  all_goals clear ha hP hRE hW
  case step =>
    clear hdeps hback
    intro i hi dn ac W hJ hdn hdep
    obtain ⟨t11, t12, t13, t14, t15, t16, t17, t18, t19, t20, rfl, hP, hRE, hW, h0, h1, h2, h3, h4, h5, h6, h7, h8, h9, h10⟩ := (HJ.out _ _ _).1 hJ
    clear hJ
    match i, hi with
    | 0, _ =>
      obtain ⟨ty, ps, af, ho⟩ := op_lit hops (i := 0) (op := Op.fieldAddr 34 (Operand.tmp 3) 1) (dst := some 11) (g := none) rfl
      refine wpOp_lit ho (fun j b h => by cases h) ?_
      clear hops hdep ho
      replace h1 := hidH h1
      replace h2 := hidH h2
      replace h3 := hidH h3
      replace h4 := hidH h4
      replace h5 := hidH h5
      replace h6 := hidH h6
      replace h7 := hidH h7
      replace h8 := hidH h8
      replace h9 := hidH h9
      replace h10 := hidH h10
      go_wp2
      exact (HJ.out _ _ _).2 ⟨_, _, _, _, _, _, _, _, _, _, rfl, hP, hRE, hW, fun _ => rfl, h1.out, h2.out, h3.out, h4.out, h5.out, h6.out, h7.out, h8.out, h9.out, h10.out⟩
    | 1, _ =>
      obtain ⟨ty, ps, af, ho⟩ := op_lit hops (i := 1) (op := Op.load 32 (Operand.tmp 11)) (dst := some 12) (g := none) rfl
      obtain rfl := h0 (hdep 0 (by simp))
      refine wpOp_lit ho (fun j b h => by cases h) ?_
      clear hops hdep ho
      replace h0 := hidH h0
      replace h2 := hidH h2
      replace h3 := hidH h3
      replace h4 := hidH h4
      replace h5 := hidH h5
      replace h6 := hidH h6
      replace h7 := hidH h7
      replace h8 := hidH h8
      replace h9 := hidH h9
      replace h10 := hidH h10
      have q1 := hP.cell 1
      simp only [List.getElem?_toArray, List.getElem?_cons_succ, List.getElem?_cons_zero] at q1
      have hlt := hP.lt
      go_wp2
      exact (HJ.out _ _ _).2 ⟨_, _, _, _, _, _, _, _, _, _, rfl, hP, hRE, hW, fun _ => rfl, fun _ => rfl, h2.out, h3.out, h4.out, h5.out, h6.out, h7.out, h8.out, h9.out, h10.out⟩
    | 2, _ =>
      obtain ⟨ty, ps, af, ho⟩ := op_lit hops (i := 2) (op := Op.move (Operand.tmp 0)) (dst := some 13) (g := none) rfl
      refine wpOp_lit ho (fun j b h => by cases h) ?_
      clear hops hdep ho
      replace h0 := hidH h0
      replace h1 := hidH h1
      replace h3 := hidH h3
      replace h4 := hidH h4
      replace h5 := hidH h5
      replace h6 := hidH h6
      replace h7 := hidH h7
      replace h8 := hidH h8
      replace h9 := hidH h9
      replace h10 := hidH h10
      go_wp2
      exact (HJ.out _ _ _).2 ⟨_, _, _, _, _, _, _, _, _, _, rfl, hP, hRE, hW, h0.out, h1.out, fun _ => rfl, h3.out, h4.out, h5.out, h6.out, h7.out, h8.out, h9.out, h10.out⟩
    | 3, _ =>
      obtain ⟨ty, ps, af, ho⟩ := op_lit hops (i := 3) (op := Op.call { callee := Callee.value (Operand.func 136), args := #[(Operand.tmp 13)], argTypes := #[168] }) (dst := some 14) (g := none) rfl
      obtain rfl := h2 (hdep 2 (by simp))
      refine wpOp_lit ho (fun j b h => by cases h) ?_
      clear hops hdep ho
      replace h0 := hidH h0
      replace h1 := hidH h1
      replace h2 := hidH h2
      replace h4 := hidH h4
      replace h5 := hidH h5
      replace h6 := hidH h6
      replace h7 := hidH h7
      replace h8 := hidH h8
      replace h9 := hidH h9
      replace h10 := hidH h10
      go_wp2_with fail
      refine (CH _ hRE).mono ?_
      rintro e w1 ⟨rfl, hw⟩
      go_wp2
      exact PAN _ _ (hW.trans hw) rfl
    | 4, _ =>
      obtain ⟨ty, ps, af, ho⟩ := op_lit hops (i := 4) (op := Op.move (Operand.tmp 0)) (dst := some 15) (g := none) rfl
      refine wpOp_lit ho (fun j b h => by cases h) ?_
      clear hops hdep ho
      replace h0 := hidH h0
      replace h1 := hidH h1
      replace h2 := hidH h2
      replace h3 := hidH h3
      replace h5 := hidH h5
      replace h6 := hidH h6
      replace h7 := hidH h7
      replace h8 := hidH h8
      replace h9 := hidH h9
      replace h10 := hidH h10
      go_wp2
      exact (HJ.out _ _ _).2 ⟨_, _, _, _, _, _, _, _, _, _, rfl, hP, hRE, hW, h0.out, h1.out, h2.out, h3.out, fun _ => rfl, h5.out, h6.out, h7.out, h8.out, h9.out, h10.out⟩
    | 5, _ =>
      obtain ⟨ty, ps, af, ho⟩ := op_lit hops (i := 5) (op := Op.call { callee := Callee.value (Operand.func 136), args := #[(Operand.tmp 15)], argTypes := #[168] }) (dst := some 16) (g := none) rfl
      exact (h3 (hdep 3 (by simp))).elim
    | 6, _ =>
      obtain ⟨ty, ps, af, ho⟩ := op_lit hops (i := 6) (op := Op.build 52 #[(0, (Operand.tmp 14)), (1, (Operand.tmp 16))]) (dst := some 17) (g := none) rfl
      exact (h3 (hdep 3 (by simp))).elim
    | 7, _ =>
      obtain ⟨ty, ps, af, ho⟩ := op_lit hops (i := 7) (op := Op.buildSlice 32 1 #[(0, (Operand.tmp 17))]) (dst := some 18) (g := none) rfl
      exact (h6 (hdep 6 (by simp))).elim
    | 8, _ =>
      obtain ⟨ty, ps, af, ho⟩ := op_lit hops (i := 8) (op := Op.call { callee := Callee.builtin Builtin.append, args := #[(Operand.tmp 12), (Operand.tmp 18)], argTypes := #[32, 32] }) (dst := some 19) (g := none) rfl
      exact (h7 (hdep 7 (by simp))).elim
    | 9, _ =>
      obtain ⟨ty, ps, af, ho⟩ := op_lit hops (i := 9) (op := Op.fieldAddr 34 (Operand.tmp 3) 1) (dst := some 20) (g := none) rfl
      refine wpOp_lit ho (fun j b h => by cases h) ?_
      clear hops hdep ho
      replace h0 := hidH h0
      replace h1 := hidH h1
      replace h2 := hidH h2
      replace h3 := hidH h3
      replace h4 := hidH h4
      replace h5 := hidH h5
      replace h6 := hidH h6
      replace h7 := hidH h7
      replace h8 := hidH h8
      replace h10 := hidH h10
      go_wp2
      exact (HJ.out _ _ _).2 ⟨_, _, _, _, _, _, _, _, _, _, rfl, hP, hRE, hW, h0.out, h1.out, h2.out, h3.out, h4.out, h5.out, h6.out, h7.out, h8.out, fun _ => rfl, h10.out⟩
    | 10, _ =>
      obtain ⟨ty, ps, af, ho⟩ := op_lit hops (i := 10) (op := Op.store 32 (Operand.tmp 20) (Operand.tmp 19)) (dst := none) (g := none) rfl
      exact (h8 (hdep 8 (by simp))).elim
    | n + 11, h => omega
  case fin =>
    clear hops hdeps hback
    rintro dn ac W hJ hall
    obtain ⟨t11, t12, t13, t14, t15, t16, t17, t18, t19, t20, rfl, hP, hRE, hW, h0, h1, h2, h3, h4, h5, h6, h7, h8, h9, h10⟩ := (HJ.out _ _ _).1 hJ
    exact (h3 (hall 3 (by omega))).elim
set_option maxRecDepth 100000 in
set_option maxHeartbeats 1000000 in
theorem regRgYGap {Q : Exit → Act → World → Prop} (x1 x2 x4 x5 x6 x7 x8 x9 x10 u_11 u_12 u_13 u_14 u_15 u_16 u_17 u_18 u_19 u_20 u_21 u_22 : Value) (ws : World) (r g : Nat) (z0 tag : Int) (v : Value) (l l1 : List Int) (ty : TypeId) (pv : Value) (hrg : r + 1 ≤ g)
    (CH1 : ∀ u : World, RE u r ty pv l → Calls Tryd.prog 136 #[.pointer (some ⟨r, 0, none⟩)] u fun e w' => e = .returned (.int .i64 z0) ∧ RE w' r ty pv l1 ∧ Win r (r + 1) u w' ∧ w'.heap.size = u.heap.size)
    (CH2 : ∀ u : World, RE u r ty pv l1 → Calls Tryd.prog 136 #[.pointer (some ⟨r, 0, none⟩)] u fun e w' => e = .panicked [{ v := .iface ty pv, recovered := false }] ∧ Win r (r + 1) u w')
    (PAN : ∀ (ac : Act) (W : World), Win r (r + 1) ws W → ac.defers = [] → Q (Exit.panic [{ v := .iface ty pv, recovered := false }]) ac W) {ops : Array Oper}
    (hops : (ops.map fun o => (o.op, o.dst, o.guard)) = #[(Op.fieldAddr 34 (Operand.tmp 3) 1, some 11, none), (Op.load 32 (Operand.tmp 11), some 12, none), (Op.move (Operand.tmp 0), some 13, none), (Op.call { callee := Callee.value (Operand.func 136), args := #[(Operand.tmp 13)], argTypes := #[168] }, some 14, none), (Op.move (Operand.tmp 0), some 15, none), (Op.call { callee := Callee.value (Operand.func 136), args := #[(Operand.tmp 15)], argTypes := #[168] }, some 16, none), (Op.build 52 #[(0, (Operand.tmp 14)), (1, (Operand.tmp 16))], some 17, none), (Op.buildSlice 32 1 #[(0, (Operand.tmp 17))], some 18, none), (Op.call { callee := Callee.builtin Builtin.append, args := #[(Operand.tmp 12), (Operand.tmp 18)], argTypes := #[32, 32] }, some 19, none), (Op.fieldAddr 34 (Operand.tmp 3) 1, some 20, none), (Op.store 32 (Operand.tmp 20) (Operand.tmp 19), none, none)])
    (hdeps : ((List.range 11).all fun i => ((fun i => [[], [0], [], [2], [], [3, 4], [3, 5], [6], [1, 7], [], [8, 9]].getD i []) i).all fun j => ((ops[i]?).map fun o => o.after.any fun e => Region.binds .any e && e.on == j).getD false) = true)
    (hback : ((List.range 11).all fun i => ((ops[i]?).map fun o => o.after.all fun e => decide (e.on < i)).getD false) = true)
    {a0 : Act} {w0 : World} (ha : a0 = { tmps := #[.pointer (some ⟨r, 0, none⟩), x1, x2, .pointer (some ⟨g, 0, none⟩), x4, x5, x6, x7, x8, x9, x10, u_11, u_12, u_13, u_14, u_15, u_16, u_17, u_18, u_19, u_20, u_21, u_22], defers := [] }) (hP : Blk w0 g 34 #[.int .i64 tag, v]) (hRE : (false = false → RE w0 r ty pv l) ∧ (false = true → RE w0 r ty pv l1)) (hW : Win r (r + 1) ws w0) :
    wpAny Tryd.prog .any ops Q ops.size (Array.replicate ops.size false) a0 w0 := by
  have hn : ops.size = 11 := by have := congrArg Array.size hops; simpa using this
  obtain ⟨J, HJ⟩ : ∃ J : (Nat → Bool) → Act → World → Prop, ∀ dn ac W, J dn ac W ↔ (fun dn ac W => ∃ t11 t12 t13 t14 t15 t16 t17 t18 t19 t20, ac = { tmps := #[.pointer (some ⟨r, 0, none⟩), x1, x2, .pointer (some ⟨g, 0, none⟩), x4, x5, x6, x7, x8, x9, x10, t11, t12, t13, t14, t15, t16, t17, t18, t19, t20, u_21, u_22], defers := [] } ∧ (Blk W g 34 #[.int .i64 tag, v]) ∧ ((dn 3 = false → RE W r ty pv l) ∧ (dn 3 = true → RE W r ty pv l1)) ∧ (Win r (r + 1) ws W) ∧ (dn 0 = true → t11 = .pointer (some ⟨g, 1, none⟩)) ∧ (dn 1 = true → t12 = v) ∧ (dn 2 = true → t13 = .pointer (some ⟨r, 0, none⟩)) ∧ (dn 3 = true → t14 = .int .i64 z0) ∧ (dn 4 = true → t15 = .pointer (some ⟨r, 0, none⟩)) ∧ (dn 5 = true → False) ∧ (dn 6 = true → False) ∧ (dn 7 = true → False) ∧ (dn 8 = true → False) ∧ (dn 9 = true → t20 = .pointer (some ⟨g, 1, none⟩)) ∧ (dn 10 = true → False)) dn ac W := ⟨_, fun _ _ _ => Iff.rfl⟩
  replace HJ := hidH HJ
  refine region_inv 11 (fun i => [[], [0], [], [2], [], [3, 4], [3, 5], [6], [1, 7], [], [8, 9]].getD i []) J hn hdeps hback ?start ?step ?fin
  case start => exact (HJ.out _ _ _).2 ⟨u_11, u_12, u_13, u_14, u_15, u_16, u_17, u_18, u_19, u_20, ha, hP, hRE, hW, fun h => by simp at h, fun h => by simp at h, fun h => by simp at h, fun h => by simp at h, fun h => by simp at h, fun h => by simp at h, fun h => by simp at h, fun h => by simp at h, fun h => by simp at h, fun h => by simp at h, fun h => by simp at h⟩
  all_goals clear ha hP hRE hW
  case step =>
    clear hdeps hback
    intro i hi dn ac W hJ hdn hdep
    obtain ⟨t11, t12, t13, t14, t15, t16, t17, t18, t19, t20, rfl, hP, hRE, hW, h0, h1, h2, h3, h4, h5, h6, h7, h8, h9, h10⟩ := (HJ.out _ _ _).1 hJ
    clear hJ
    match i, hi with
    | 0, _ =>
      obtain ⟨ty, ps, af, ho⟩ := op_lit hops (i := 0) (op := Op.fieldAddr 34 (Operand.tmp 3) 1) (dst := some 11) (g := none) rfl
      refine wpOp_lit ho (fun j b h => by cases h) ?_
      clear hops hdep ho
      replace h1 := hidH h1
      replace h2 := hidH h2
      replace h3 := hidH h3
      replace h4 := hidH h4
      replace h5 := hidH h5
      replace h6 := hidH h6
      replace h7 := hidH h7
      replace h8 := hidH h8
      replace h9 := hidH h9
      replace h10 := hidH h10
      go_wp2
      exact (HJ.out _ _ _).2 ⟨_, _, _, _, _, _, _, _, _, _, rfl, hP, hRE, hW, fun _ => rfl, h1.out, h2.out, h3.out, h4.out, h5.out, h6.out, h7.out, h8.out, h9.out, h10.out⟩
    | 1, _ =>
      obtain ⟨ty, ps, af, ho⟩ := op_lit hops (i := 1) (op := Op.load 32 (Operand.tmp 11)) (dst := some 12) (g := none) rfl
      obtain rfl := h0 (hdep 0 (by simp))
      refine wpOp_lit ho (fun j b h => by cases h) ?_
      clear hops hdep ho
      replace h0 := hidH h0
      replace h2 := hidH h2
      replace h3 := hidH h3
      replace h4 := hidH h4
      replace h5 := hidH h5
      replace h6 := hidH h6
      replace h7 := hidH h7
      replace h8 := hidH h8
      replace h9 := hidH h9
      replace h10 := hidH h10
      have q1 := hP.cell 1
      simp only [List.getElem?_toArray, List.getElem?_cons_succ, List.getElem?_cons_zero] at q1
      have hlt := hP.lt
      go_wp2
      exact (HJ.out _ _ _).2 ⟨_, _, _, _, _, _, _, _, _, _, rfl, hP, hRE, hW, fun _ => rfl, fun _ => rfl, h2.out, h3.out, h4.out, h5.out, h6.out, h7.out, h8.out, h9.out, h10.out⟩
    | 2, _ =>
      obtain ⟨ty, ps, af, ho⟩ := op_lit hops (i := 2) (op := Op.move (Operand.tmp 0)) (dst := some 13) (g := none) rfl
      refine wpOp_lit ho (fun j b h => by cases h) ?_
      clear hops hdep ho
      replace h0 := hidH h0
      replace h1 := hidH h1
      replace h3 := hidH h3
      replace h4 := hidH h4
      replace h5 := hidH h5
      replace h6 := hidH h6
      replace h7 := hidH h7
      replace h8 := hidH h8
      replace h9 := hidH h9
      replace h10 := hidH h10
      go_wp2
      exact (HJ.out _ _ _).2 ⟨_, _, _, _, _, _, _, _, _, _, rfl, hP, hRE, hW, h0.out, h1.out, fun _ => rfl, h3.out, h4.out, h5.out, h6.out, h7.out, h8.out, h9.out, h10.out⟩
    | 3, _ =>
      obtain ⟨ty, ps, af, ho⟩ := op_lit hops (i := 3) (op := Op.call { callee := Callee.value (Operand.func 136), args := #[(Operand.tmp 13)], argTypes := #[168] }) (dst := some 14) (g := none) rfl
      obtain rfl := h2 (hdep 2 (by simp))
      refine wpOp_lit ho (fun j b h => by cases h) ?_
      clear hops hdep ho
      replace h0 := hidH h0
      replace h1 := hidH h1
      replace h2 := hidH h2
      replace h4 := hidH h4
      replace h5 := hidH h5
      replace h6 := hidH h6
      replace h7 := hidH h7
      replace h8 := hidH h8
      replace h9 := hidH h9
      replace h10 := hidH h10
      go_wp2_with fail
      refine (CH1 _ (hRE.1 hdn)).mono ?_
      rintro e w1 ⟨rfl, r3, hw, _⟩
      have R3 := hidH r3
      clear r3
      go_wp2
      exact (HJ.out _ _ _).2 ⟨_, _, _, _, _, _, _, _, _, _, rfl, hw.blk hP (.inr hrg), ⟨(fun h => by simp at h), (fun _ => R3.out)⟩, hW.trans hw, h0.out, h1.out, fun _ => rfl, fun _ => rfl, h4.out, fun h => h5.out h, fun h => h6.out h, fun h => h7.out h, fun h => h8.out h, h9.out, fun h => h10.out h⟩
    | 4, _ =>
      obtain ⟨ty, ps, af, ho⟩ := op_lit hops (i := 4) (op := Op.move (Operand.tmp 0)) (dst := some 15) (g := none) rfl
      refine wpOp_lit ho (fun j b h => by cases h) ?_
      clear hops hdep ho
      replace h0 := hidH h0
      replace h1 := hidH h1
      replace h2 := hidH h2
      replace h3 := hidH h3
      replace h5 := hidH h5
      replace h6 := hidH h6
      replace h7 := hidH h7
      replace h8 := hidH h8
      replace h9 := hidH h9
      replace h10 := hidH h10
      go_wp2
      exact (HJ.out _ _ _).2 ⟨_, _, _, _, _, _, _, _, _, _, rfl, hP, hRE, hW, h0.out, h1.out, h2.out, h3.out, fun _ => rfl, h5.out, h6.out, h7.out, h8.out, h9.out, h10.out⟩
    | 5, _ =>
      obtain ⟨ty, ps, af, ho⟩ := op_lit hops (i := 5) (op := Op.call { callee := Callee.value (Operand.func 136), args := #[(Operand.tmp 15)], argTypes := #[168] }) (dst := some 16) (g := none) rfl
      have hd3 := hidH (hdep 3 (by simp))
      obtain rfl := h4 (hdep 4 (by simp))
      refine wpOp_lit ho (fun j b h => by cases h) ?_
      clear hops hdep ho
      replace h0 := hidH h0
      replace h1 := hidH h1
      replace h2 := hidH h2
      replace h3 := hidH h3
      replace h4 := hidH h4
      replace h6 := hidH h6
      replace h7 := hidH h7
      replace h8 := hidH h8
      replace h9 := hidH h9
      replace h10 := hidH h10
      go_wp2_with fail
      refine (CH2 _ (hRE.2 hd3.out)).mono ?_
      rintro e w1 ⟨rfl, hw⟩
      go_wp2
      exact PAN _ _ (hW.trans hw) rfl
    | 6, _ =>
      obtain ⟨ty, ps, af, ho⟩ := op_lit hops (i := 6) (op := Op.build 52 #[(0, (Operand.tmp 14)), (1, (Operand.tmp 16))]) (dst := some 17) (g := none) rfl
      exact (h5 (hdep 5 (by simp))).elim
    | 7, _ =>
      obtain ⟨ty, ps, af, ho⟩ := op_lit hops (i := 7) (op := Op.buildSlice 32 1 #[(0, (Operand.tmp 17))]) (dst := some 18) (g := none) rfl
      exact (h6 (hdep 6 (by simp))).elim
    | 8, _ =>
      obtain ⟨ty, ps, af, ho⟩ := op_lit hops (i := 8) (op := Op.call { callee := Callee.builtin Builtin.append, args := #[(Operand.tmp 12), (Operand.tmp 18)], argTypes := #[32, 32] }) (dst := some 19) (g := none) rfl
      exact (h7 (hdep 7 (by simp))).elim
    | 9, _ =>
      obtain ⟨ty, ps, af, ho⟩ := op_lit hops (i := 9) (op := Op.fieldAddr 34 (Operand.tmp 3) 1) (dst := some 20) (g := none) rfl
      refine wpOp_lit ho (fun j b h => by cases h) ?_
      clear hops hdep ho
      replace h0 := hidH h0
      replace h1 := hidH h1
      replace h2 := hidH h2
      replace h3 := hidH h3
      replace h4 := hidH h4
      replace h5 := hidH h5
      replace h6 := hidH h6
      replace h7 := hidH h7
      replace h8 := hidH h8
      replace h10 := hidH h10
      go_wp2
      exact (HJ.out _ _ _).2 ⟨_, _, _, _, _, _, _, _, _, _, rfl, hP, hRE, hW, h0.out, h1.out, h2.out, h3.out, h4.out, h5.out, h6.out, h7.out, h8.out, fun _ => rfl, h10.out⟩
    | 10, _ =>
      obtain ⟨ty, ps, af, ho⟩ := op_lit hops (i := 10) (op := Op.store 32 (Operand.tmp 20) (Operand.tmp 19)) (dst := none) (g := none) rfl
      exact (h8 (hdep 8 (by simp))).elim
    | n + 11, h => omega
  case fin =>
    clear hops hdeps hback
    rintro dn ac W hJ hall
    obtain ⟨t11, t12, t13, t14, t15, t16, t17, t18, t19, t20, rfl, hP, hRE, hW, h0, h1, h2, h3, h4, h5, h6, h7, h8, h9, h10⟩ := (HJ.out _ _ _).1 hJ
    exact (h5 (hall 5 (by omega))).elim
set_option maxRecDepth 100000 in
set_option maxHeartbeats 1000000 in
theorem regRgOp {Q : Exit → Act → World → Prop} (x1 x2 x4 x5 x6 x7 x8 x9 x10 u_11 u_12 u_13 u_14 u_15 u_16 u_17 u_18 u_19 u_20 u_21 u_22 : Value) (ws : World) (r g B n : Nat) (z0 z1 tag : Int) (v : Value) (xs0 : List Value) (l l1 l2 : List Int) (ty : TypeId) (pv : Value)
    (hrg : r + 1 ≤ g) (hgB : g < B) (hwB : ws.heap.size ≤ B) (hgw : ws.heap.size ≤ g) (hnn : n ≤ 100000)
    (CH1 : ∀ u : World, RE u r ty pv l → Calls Tryd.prog 138 #[.pointer (some ⟨r, 0, none⟩)] u fun e w' => e = .returned (.int .i64 z0) ∧ RE w' r ty pv l1 ∧ Win r (r + 1) u w' ∧ w'.heap.size = u.heap.size)
    (CH2 : ∀ u : World, RE u r ty pv l1 → Calls Tryd.prog 138 #[.pointer (some ⟨r, 0, none⟩)] u fun e w' => e = .returned (.int .i64 z1) ∧ RE w' r ty pv l2 ∧ Win r (r + 1) u w' ∧ w'.heap.size = u.heap.size) {ops : Array Oper}
    (hops : (ops.map fun o => (o.op, o.dst, o.guard)) = #[(Op.fieldAddr 59 (Operand.tmp 3) 1, some 11, none), (Op.load 57 (Operand.tmp 11), some 12, none), (Op.move (Operand.tmp 0), some 13, none), (Op.call { callee := Callee.value (Operand.func 138), args := #[(Operand.tmp 13)], argTypes := #[168] }, some 14, none), (Op.move (Operand.tmp 0), some 15, none), (Op.call { callee := Callee.value (Operand.func 138), args := #[(Operand.tmp 15)], argTypes := #[168] }, some 16, none), (Op.build 70 #[(0, (Operand.tmp 14)), (1, (Operand.tmp 16))], some 17, none), (Op.buildSlice 57 1 #[(0, (Operand.tmp 17))], some 18, none), (Op.call { callee := Callee.builtin Builtin.append, args := #[(Operand.tmp 12), (Operand.tmp 18)], argTypes := #[57, 57] }, some 19, none), (Op.fieldAddr 59 (Operand.tmp 3) 1, some 20, none), (Op.store 57 (Operand.tmp 20) (Operand.tmp 19), none, none)])
    (hdeps : ((List.range 11).all fun i => ((fun i => [[], [0], [], [2], [], [3, 4], [3, 5], [6], [1, 7], [], [8, 9]].getD i []) i).all fun j => ((ops[i]?).map fun o => o.after.any fun e => Region.binds .any e && e.on == j).getD false) = true)
    (hback : ((List.range 11).all fun i => ((ops[i]?).map fun o => o.after.all fun e => decide (e.on < i)).getD false) = true)
    {a0 : Act} {w0 : World} (ha : a0 = { tmps := #[.pointer (some ⟨r, 0, none⟩), x1, x2, .pointer (some ⟨g, 0, none⟩), x4, x5, x6, x7, x8, x9, x10, u_11, u_12, u_13, u_14, u_15, u_16, u_17, u_18, u_19, u_20, u_21, u_22], defers := [] }) (hE6 : false = true → false = true) (hE : (false = true → false = true) ∧ (false = true → false = true) ∧ (false = true → false = true) ∧ (false = true → false = true) ∧ (false = true → false = true)) (hP : false = false → Blk w0 g 59 #[.int .i64 tag, v]) (hG : false = false → w0.ownsRow B 70 2 v n xs0) (hRE : (false = false → RE w0 r ty pv l) ∧ (false = true → false = false → RE w0 r ty pv l1) ∧ (false = true → RE w0 r ty pv l2)) (hW : Win r (r + 1) ws w0) (hBW : B ≤ w0.heap.size)
    (fin : ∀ t11 t12 t13 t14 t15 t16 t17 t18 t19 t20 (W : World), (RE W r ty pv l2) → (Win r (r + 1) ws W) → (B ≤ W.heap.size) → (∃ v2, Blk W g 59 #[.int .i64 tag, v2] ∧ W.ownsRow B 70 2 v2 (n + 1) (xs0 ++ [.int .i64 z0, .int .i64 z1])) → Q .normal { tmps := #[.pointer (some ⟨r, 0, none⟩), x1, x2, .pointer (some ⟨g, 0, none⟩), x4, x5, x6, x7, x8, x9, x10, t11, t12, t13, t14, t15, t16, t17, t18, t19, t20, u_21, u_22], defers := [] } W) :
    wpAny Tryd.prog .any ops Q ops.size (Array.replicate ops.size false) a0 w0 := by
  have hn : ops.size = 11 := by have := congrArg Array.size hops; simpa using this
  obtain ⟨J, HJ⟩ : ∃ J : (Nat → Bool) → Act → World → Prop, ∀ dn ac W, J dn ac W ↔ (fun dn ac W => ∃ t11 t12 t13 t14 t15 t16 t17 t18 t19 t20, ac = { tmps := #[.pointer (some ⟨r, 0, none⟩), x1, x2, .pointer (some ⟨g, 0, none⟩), x4, x5, x6, x7, x8, x9, x10, t11, t12, t13, t14, t15, t16, t17, t18, t19, t20, u_21, u_22], defers := [] } ∧ (dn 6 = true → dn 5 = true) ∧ ((dn 10 = true → dn 8 = true) ∧ (dn 8 = true → dn 7 = true) ∧ (dn 7 = true → dn 5 = true) ∧ (dn 5 = true → dn 3 = true) ∧ (dn 8 = true → dn 1 = true)) ∧ (dn 10 = false → Blk W g 59 #[.int .i64 tag, v]) ∧ (dn 8 = false → W.ownsRow B 70 2 v n xs0) ∧ ((dn 3 = false → RE W r ty pv l) ∧ (dn 3 = true → dn 5 = false → RE W r ty pv l1) ∧ (dn 5 = true → RE W r ty pv l2)) ∧ (Win r (r + 1) ws W) ∧ (B ≤ W.heap.size) ∧ (dn 0 = true → t11 = .pointer (some ⟨g, 1, none⟩)) ∧ (dn 1 = true → t12 = v) ∧ (dn 2 = true → t13 = .pointer (some ⟨r, 0, none⟩)) ∧ (dn 3 = true → t14 = .int .i64 z0) ∧ (dn 4 = true → t15 = .pointer (some ⟨r, 0, none⟩)) ∧ (dn 5 = true → t16 = .int .i64 z1) ∧ (dn 6 = true → t17 = .agg #[.int .i64 z0, .int .i64 z1]) ∧ (dn 7 = true → dn 8 = false → ∃ q : Nat, t18 = .slice (some ⟨q, 0, none⟩) 1 1 ∧ Blk W q 70 #[.int .i64 z0, .int .i64 z1]) ∧ (dn 8 = true → dn 10 = false → W.ownsRow B 70 2 t19 (n + 1) (xs0 ++ [.int .i64 z0, .int .i64 z1])) ∧ (dn 9 = true → t20 = .pointer (some ⟨g, 1, none⟩)) ∧ (dn 10 = true → ∃ v2, Blk W g 59 #[.int .i64 tag, v2] ∧ W.ownsRow B 70 2 v2 (n + 1) (xs0 ++ [.int .i64 z0, .int .i64 z1]))) dn ac W := ⟨_, fun _ _ _ => Iff.rfl⟩
  replace HJ := hidH HJ
  refine region_inv 11 (fun i => [[], [0], [], [2], [], [3, 4], [3, 5], [6], [1, 7], [], [8, 9]].getD i []) J hn hdeps hback ?start ?step ?fin
  case start => exact (HJ.out _ _ _).2 ⟨u_11, u_12, u_13, u_14, u_15, u_16, u_17, u_18, u_19, u_20, ha, hE6, hE, hP, hG, hRE, hW, hBW, fun h => by simp at h, fun h => by simp at h, fun h => by simp at h, fun h => by simp at h, fun h => by simp at h, fun h => by simp at h, fun h => by simp at h, fun h => by simp at h, fun h => by simp at h, fun h => by simp at h, fun h => by simp at h⟩
  all_goals clear ha hE6 hE hP hG hRE hW hBW
  case step =>
    clear fin hdeps hback
    intro i hi dn ac W hJ hdn hdep
    obtain ⟨t11, t12, t13, t14, t15, t16, t17, t18, t19, t20, rfl, hE6, hE, hP, hG, hRE, hW, hBW, h0, h1, h2, h3, h4, h5, h6, h7, h8, h9, h10⟩ := (HJ.out _ _ _).1 hJ
    clear hJ
    match i, hi with
    | 0, _ =>
      obtain ⟨ty, ps, af, ho⟩ := op_lit hops (i := 0) (op := Op.fieldAddr 59 (Operand.tmp 3) 1) (dst := some 11) (g := none) rfl
      refine wpOp_lit ho (fun j b h => by cases h) ?_
      clear hops hdep ho
      replace h1 := hidH h1
      replace h2 := hidH h2
      replace h3 := hidH h3
      replace h4 := hidH h4
      replace h5 := hidH h5
      replace h6 := hidH h6
      replace h7 := hidH h7
      replace h8 := hidH h8
      replace h9 := hidH h9
      replace h10 := hidH h10
      go_wp2
      exact (HJ.out _ _ _).2 ⟨_, _, _, _, _, _, _, _, _, _, rfl, hE6, hE, hP, hG, hRE, hW, hBW, fun _ => rfl, h1.out, h2.out, h3.out, h4.out, h5.out, h6.out, h7.out, h8.out, h9.out, h10.out⟩
    | 1, _ =>
      obtain ⟨ty, ps, af, ho⟩ := op_lit hops (i := 1) (op := Op.load 57 (Operand.tmp 11)) (dst := some 12) (g := none) rfl
      have hk10 : dn 10 = false := by
        rcases hq : dn 10 with _ | _
        · rfl
        · have h3 : dn 1 = true := hE.2.2.2.2 (hE.1 hq)
          rw [hdn] at h3; cases h3
      obtain rfl := h0 (hdep 0 (by simp))
      refine wpOp_lit ho (fun j b h => by cases h) ?_
      clear hops hdep ho
      replace h0 := hidH h0
      replace h2 := hidH h2
      replace h3 := hidH h3
      replace h4 := hidH h4
      replace h5 := hidH h5
      replace h6 := hidH h6
      replace h7 := hidH h7
      replace h8 := hidH h8
      replace h9 := hidH h9
      replace h10 := hidH h10
      have hb := Below.refl W.heap.size W
      have kp := hP hk10
      have q1 := kp.cell 1
      simp only [List.getElem?_toArray, List.getElem?_cons_succ, List.getElem?_cons_zero] at q1
      have hlt := kp.lt
      go_wp2
      exact (HJ.out _ _ _).2 ⟨_, _, _, _, _, _, _, _, _, _, rfl, hE6, ⟨hE.1, hE.2.1, hE.2.2.1, hE.2.2.2.1, (fun _ => rfl)⟩, fun h => (hP h).below hb, fun h => own_below0 (hG h) hb, ⟨(fun h => (hRE.1 h).below hb), (fun h h2 => (hRE.2.1 h h2).below hb), (fun h => (hRE.2.2 h).below hb)⟩, hW.andBelow5 (hb.mono hW.size), Nat.le_trans hBW hb.size, fun _ => rfl, fun _ => rfl, h2.out, h3.out, h4.out, h5.out, h6.out, fun h h2 => by obtain ⟨q, q1, q2⟩ := h7.out h h2; exact ⟨q, q1, q2.below hb⟩, fun h h2 => own_below0 (h8.out h h2) hb, h9.out, (fun h => by have h3 : dn 1 = true := hE.2.2.2.2 (hE.1 h); rw [hdn] at h3; cases h3)⟩
    | 2, _ =>
      obtain ⟨ty, ps, af, ho⟩ := op_lit hops (i := 2) (op := Op.move (Operand.tmp 0)) (dst := some 13) (g := none) rfl
      refine wpOp_lit ho (fun j b h => by cases h) ?_
      clear hops hdep ho
      replace h0 := hidH h0
      replace h1 := hidH h1
      replace h3 := hidH h3
      replace h4 := hidH h4
      replace h5 := hidH h5
      replace h6 := hidH h6
      replace h7 := hidH h7
      replace h8 := hidH h8
      replace h9 := hidH h9
      replace h10 := hidH h10
      go_wp2
      exact (HJ.out _ _ _).2 ⟨_, _, _, _, _, _, _, _, _, _, rfl, hE6, hE, hP, hG, hRE, hW, hBW, h0.out, h1.out, fun _ => rfl, h3.out, h4.out, h5.out, h6.out, h7.out, h8.out, h9.out, h10.out⟩
    | 3, _ =>
      obtain ⟨ty, ps, af, ho⟩ := op_lit hops (i := 3) (op := Op.call { callee := Callee.value (Operand.func 138), args := #[(Operand.tmp 13)], argTypes := #[168] }) (dst := some 14) (g := none) rfl
      obtain rfl := h2 (hdep 2 (by simp))
      refine wpOp_lit ho (fun j b h => by cases h) ?_
      clear hops hdep ho
      replace h0 := hidH h0
      replace h1 := hidH h1
      replace h2 := hidH h2
      replace h4 := hidH h4
      replace h5 := hidH h5
      replace h6 := hidH h6
      replace h7 := hidH h7
      replace h8 := hidH h8
      replace h9 := hidH h9
      replace h10 := hidH h10
      go_wp2_with fail
      refine (CH1 _ (hRE.1 hdn)).mono ?_
      rintro e w1 ⟨rfl, r3, hw, _⟩
      have R3 := hidH r3
      clear r3
      go_wp2
      exact (HJ.out _ _ _).2 ⟨_, _, _, _, _, _, _, _, _, _, rfl, hE6, ⟨hE.1, hE.2.1, hE.2.2.1, (fun _ => rfl), hE.2.2.2.2⟩, (fun h => hw.blk (hP h) (.inr hrg)), (fun h => own_keptE (hG h) hw (by omega)), ⟨(fun h => by simp at h), (fun _ _ => R3.out), (fun h => by have h3 : dn 3 = true := hE.2.2.2.1 h; rw [hdn] at h3; cases h3)⟩, hW.trans hw, Nat.le_trans hBW hw.size, h0.out, h1.out, fun _ => rfl, fun _ => rfl, h4.out, h5.out, h6.out, (fun h => by have h3 : dn 3 = true := hE.2.2.2.1 (hE.2.2.1 h); rw [hdn] at h3; cases h3), (fun h => by have h3 : dn 3 = true := hE.2.2.2.1 (hE.2.2.1 (hE.2.1 h)); rw [hdn] at h3; cases h3), h9.out, (fun h => by have h3 : dn 3 = true := hE.2.2.2.1 (hE.2.2.1 (hE.2.1 (hE.1 h))); rw [hdn] at h3; cases h3)⟩
    | 4, _ =>
      obtain ⟨ty, ps, af, ho⟩ := op_lit hops (i := 4) (op := Op.move (Operand.tmp 0)) (dst := some 15) (g := none) rfl
      refine wpOp_lit ho (fun j b h => by cases h) ?_
      clear hops hdep ho
      replace h0 := hidH h0
      replace h1 := hidH h1
      replace h2 := hidH h2
      replace h3 := hidH h3
      replace h5 := hidH h5
      replace h6 := hidH h6
      replace h7 := hidH h7
      replace h8 := hidH h8
      replace h9 := hidH h9
      replace h10 := hidH h10
      go_wp2
      exact (HJ.out _ _ _).2 ⟨_, _, _, _, _, _, _, _, _, _, rfl, hE6, hE, hP, hG, hRE, hW, hBW, h0.out, h1.out, h2.out, h3.out, fun _ => rfl, h5.out, h6.out, h7.out, h8.out, h9.out, h10.out⟩
    | 5, _ =>
      obtain ⟨ty, ps, af, ho⟩ := op_lit hops (i := 5) (op := Op.call { callee := Callee.value (Operand.func 138), args := #[(Operand.tmp 15)], argTypes := #[168] }) (dst := some 16) (g := none) rfl
      have hd3 := hidH (hdep 3 (by simp))
      obtain rfl := h4 (hdep 4 (by simp))
      refine wpOp_lit ho (fun j b h => by cases h) ?_
      clear hops hdep ho
      replace h0 := hidH h0
      replace h1 := hidH h1
      replace h2 := hidH h2
      replace h3 := hidH h3
      replace h4 := hidH h4
      replace h6 := hidH h6
      replace h7 := hidH h7
      replace h8 := hidH h8
      replace h9 := hidH h9
      replace h10 := hidH h10
      go_wp2_with fail
      refine (CH2 _ (hRE.2.1 hd3.out hdn)).mono ?_
      rintro e w1 ⟨rfl, r3, hw, _⟩
      have R3 := hidH r3
      clear r3
      go_wp2
      exact (HJ.out _ _ _).2 ⟨_, _, _, _, _, _, _, _, _, _, rfl, fun _ => rfl, ⟨hE.1, hE.2.1, (fun _ => rfl), (fun _ => hd3.out), hE.2.2.2.2⟩, (fun h => hw.blk (hP h) (.inr hrg)), (fun h => own_keptE (hG h) hw (by omega)), ⟨(fun h => by have h3 : dn 3 = false := h; rw [hd3.out] at h3; cases h3), (fun _ h2 => by simp at h2), (fun _ => R3.out)⟩, hW.trans hw, Nat.le_trans hBW hw.size, h0.out, h1.out, h2.out, h3.out, fun _ => rfl, fun _ => rfl, h6.out, (fun h => by have h3 : dn 5 = true := hE.2.2.1 h; rw [hdn] at h3; cases h3), (fun h => by have h3 : dn 5 = true := hE.2.2.1 (hE.2.1 h); rw [hdn] at h3; cases h3), h9.out, (fun h => by have h3 : dn 5 = true := hE.2.2.1 (hE.2.1 (hE.1 h)); rw [hdn] at h3; cases h3)⟩
    | 6, _ =>
      obtain ⟨ty, ps, af, ho⟩ := op_lit hops (i := 6) (op := Op.build 70 #[(0, (Operand.tmp 14)), (1, (Operand.tmp 16))]) (dst := some 17) (g := none) rfl
      have hd5 := hidH (hdep 5 (by simp))
      obtain rfl := h3 (hdep 3 (by simp))
      obtain rfl := h5 (hdep 5 (by simp))
      refine wpOp_lit ho (fun j b h => by cases h) ?_
      clear hops hdep ho
      replace h0 := hidH h0
      replace h1 := hidH h1
      replace h2 := hidH h2
      replace h3 := hidH h3
      replace h4 := hidH h4
      replace h5 := hidH h5
      replace h7 := hidH h7
      replace h8 := hidH h8
      replace h9 := hidH h9
      replace h10 := hidH h10
      have hb := Below.refl W.heap.size W
      go_wp2
      exact (HJ.out _ _ _).2 ⟨_, _, _, _, _, _, _, _, _, _, rfl, fun _ => hd5.out, hE, fun h => (hP h).below hb, fun h => own_below0 (hG h) hb, ⟨(fun h => (hRE.1 h).below hb), (fun h h2 => (hRE.2.1 h h2).below hb), (fun h => (hRE.2.2 h).below hb)⟩, hW.andBelow5 (hb.mono hW.size), Nat.le_trans hBW hb.size, h0.out, h1.out, h2.out, fun _ => rfl, h4.out, fun _ => rfl, fun _ => rfl, fun h h2 => by obtain ⟨q, q1, q2⟩ := h7.out h h2; exact ⟨q, q1, q2.below hb⟩, fun h h2 => own_below0 (h8.out h h2) hb, h9.out, (fun h => by obtain ⟨v2, q1, q2⟩ := h10.out h; exact ⟨v2, q1.below hb, own_below0 q2 hb⟩)⟩
    | 7, _ =>
      obtain ⟨ty, ps, af, ho⟩ := op_lit hops (i := 7) (op := Op.buildSlice 57 1 #[(0, (Operand.tmp 17))]) (dst := some 18) (g := none) rfl
      have hd5 := hidH (hE6 (hdep 6 (by simp)))
      obtain rfl := h6 (hdep 6 (by simp))
      refine wpOp_lit ho (fun j b h => by cases h) ?_
      clear hops hdep ho
      replace h0 := hidH h0
      replace h1 := hidH h1
      replace h2 := hidH h2
      replace h3 := hidH h3
      replace h4 := hidH h4
      replace h5 := hidH h5
      replace h6 := hidH h6
      replace h8 := hidH h8
      replace h9 := hidH h9
      replace h10 := hidH h10
      have hb := bal (Below.refl W.heap.size W) (.cells #[.int .i64 z0, .int .i64 z1] 70)
      have KQ := hidH (Blk.new W 70 #[.int .i64 z0, .int .i64 z1])
      go_wp2
      exact (HJ.out _ _ _).2 ⟨_, _, _, _, _, _, _, _, _, _, rfl, hE6, ⟨hE.1, (fun _ => rfl), (fun _ => hd5.out), hE.2.2.2⟩, fun h => (hP h).below hb, fun h => own_below0 (hG h) hb, ⟨(fun h => (hRE.1 h).below hb), (fun h h2 => (hRE.2.1 h h2).below hb), (fun h => (hRE.2.2 h).below hb)⟩, hW.andBelow5 (hb.mono hW.size), Nat.le_trans hBW hb.size, h0.out, h1.out, h2.out, h3.out, h4.out, h5.out, fun _ => rfl, fun _ => fun _ => ⟨_, rfl, KQ.out⟩, (fun h => by have h3 : dn 7 = true := hE.2.1 h; rw [hdn] at h3; cases h3), h9.out, (fun h => by have h3 : dn 7 = true := hE.2.1 (hE.1 h); rw [hdn] at h3; cases h3)⟩
    | 8, _ =>
      obtain ⟨ty, ps, af, ho⟩ := op_lit hops (i := 8) (op := Op.call { callee := Callee.builtin Builtin.append, args := #[(Operand.tmp 12), (Operand.tmp 18)], argTypes := #[57, 57] }) (dst := some 19) (g := none) rfl
      have hd7 := hidH (hdep 7 (by simp))
      have hd1 := hidH (hdep 1 (by simp))
      obtain ⟨q, rfl, kq⟩ := h7 (hdep 7 (by simp)) hdn
      obtain rfl := h1 (hdep 1 (by simp))
      refine wpOp_lit ho (fun j b h => by cases h) ?_
      clear hops hdep ho
      replace h0 := hidH h0
      replace h1 := hidH h1
      replace h2 := hidH h2
      replace h3 := hidH h3
      replace h4 := hidH h4
      replace h5 := hidH h5
      replace h6 := hidH h6
      replace h7 := hidH h7
      replace h9 := hidH h9
      replace h10 := hidH h10
      have gk := hidH (hG hdn)
      have hBW2 := hBW
      go_wp2_with (at_builtin; go_loud (refine wpList_append_Op rfl _ _ rfl B _ n xs0 rfl gk.out q _ z0 z1 rfl kq hnn hBW2 ?_))
      intro v6 w6 o6 hg
      have hb := (Below.refl B W).grown hg hBW2 (fun x hx => (gk.out.lt x hx).1)
      have O6 := hidH o6
      clear o6 hg
      go_wp2
      exact (HJ.out _ _ _).2 ⟨_, _, _, _, _, _, _, _, _, _, rfl, hE6, ⟨(fun _ => rfl), (fun _ => hd7.out), hE.2.2.1, hE.2.2.2.1, (fun _ => hd1.out)⟩, (fun h => (hb.block g hgB).trans (hP h)), (fun h2 => by simp at h2), ⟨(fun h => (hRE.1 h).belowB hb (by omega)), (fun h h2 => (hRE.2.1 h h2).belowB hb (by omega)), (fun h => (hRE.2.2 h).belowB hb (by omega))⟩, hW.andBelow5 (hb.mono hwB), Nat.le_trans hBW hb.size, h0.out, fun _ => rfl, h2.out, h3.out, h4.out, h5.out, h6.out, (fun _ h2 => by simp at h2), fun _ => fun _ => O6.out, h9.out, (fun h => by have h3 : dn 8 = true := hE.1 h; rw [hdn] at h3; cases h3)⟩
    | 9, _ =>
      obtain ⟨ty, ps, af, ho⟩ := op_lit hops (i := 9) (op := Op.fieldAddr 59 (Operand.tmp 3) 1) (dst := some 20) (g := none) rfl
      refine wpOp_lit ho (fun j b h => by cases h) ?_
      clear hops hdep ho
      replace h0 := hidH h0
      replace h1 := hidH h1
      replace h2 := hidH h2
      replace h3 := hidH h3
      replace h4 := hidH h4
      replace h5 := hidH h5
      replace h6 := hidH h6
      replace h7 := hidH h7
      replace h8 := hidH h8
      replace h10 := hidH h10
      go_wp2
      exact (HJ.out _ _ _).2 ⟨_, _, _, _, _, _, _, _, _, _, rfl, hE6, hE, hP, hG, hRE, hW, hBW, h0.out, h1.out, h2.out, h3.out, h4.out, h5.out, h6.out, h7.out, h8.out, fun _ => rfl, h10.out⟩
    | 10, _ =>
      obtain ⟨ty, ps, af, ho⟩ := op_lit hops (i := 10) (op := Op.store 57 (Operand.tmp 20) (Operand.tmp 19)) (dst := none) (g := none) rfl
      have hd8 := hidH (hdep 8 (by simp))
      have o8 := h8 (hdep 8 (by simp)) hdn
      obtain ⟨A6, n6, c6, rfl⟩ := own_sliceE o8
      replace h8 := hidH h8
      obtain rfl := h9 (hdep 9 (by simp))
      refine wpOp_lit ho (fun j b h => by cases h) ?_
      clear hops hdep ho
      replace h0 := hidH h0
      replace h1 := hidH h1
      replace h2 := hidH h2
      replace h3 := hidH h3
      replace h4 := hidH h4
      replace h5 := hidH h5
      replace h6 := hidH h6
      replace h7 := hidH h7
      replace h8 := hidH h8
      replace h9 := hidH h9
      have kp := hP hdn
      have x1 := kp.cell 1
      simp only [List.getElem?_toArray, List.getElem?_cons_succ, List.getElem?_cons_zero] at x1
      have f1 := kp.frozen 1
      have hlt := kp.lt
      have KS := hidH (show Blk (W.setCell ⟨g, 1, none⟩ (.slice A6 n6 c6)) g 59 #[.int .i64 tag, .slice A6 n6 c6] from kp.put 1 _)
      have O7 := hidH (own_farE o8 hgB 1 (.slice A6 n6 c6))
      clear o8
      go_wp2
      exact (HJ.out _ _ _).2 ⟨_, _, _, _, _, _, _, _, _, _, rfl, hE6, ⟨(fun _ => hd8.out), hE.2⟩, (fun h2 => by simp at h2), (fun h2 => by have h3 : dn 8 = false := h2; rw [hd8.out] at h3; cases h3), ⟨(fun h => RE.farE (hRE.1 h) hrg 1 _), (fun h h2 => RE.farE (hRE.2.1 h h2) hrg 1 _), (fun h => RE.farE (hRE.2.2 h) hrg 1 _)⟩, hW.andBelow5 (bsc (Below.refl ws.heap.size W) hgw _), (by simpa [World.setCell] using hBW), h0.out, h1.out, h2.out, h3.out, h4.out, h5.out, h6.out, (fun _ h2 => by have h3 : dn 8 = false := h2; rw [hd8.out] at h3; cases h3), (fun _ h2 => by simp at h2), fun _ => rfl, fun _ => ⟨_, KS.out, O7.out⟩⟩
    | n + 11, h => omega
  case fin =>
    clear hops hdeps hback
    rintro dn ac W hJ hall
    obtain ⟨t11, t12, t13, t14, t15, t16, t17, t18, t19, t20, rfl, hE6, hE, hP, hG, hRE, hW, hBW, h0, h1, h2, h3, h4, h5, h6, h7, h8, h9, h10⟩ := (HJ.out _ _ _).1 hJ
    exact fin _ _ _ _ _ _ _ _ _ _ W (hRE.2.2 (hall 5 (by omega))) hW hBW (h10 (hall 10 (by omega)))
set_option maxRecDepth 100000 in
set_option maxHeartbeats 1000000 in
theorem regRgXOp {Q : Exit → Act → World → Prop} (x1 x2 x4 x5 x6 x7 x8 x9 x10 u_11 u_12 u_13 u_14 u_15 u_16 u_17 u_18 u_19 u_20 u_21 u_22 : Value) (ws : World) (r g : Nat) (tag : Int) (v : Value) (l : List Int) (ty : TypeId) (pv : Value)
    (CH : ∀ u : World, RE u r ty pv l → Calls Tryd.prog 138 #[.pointer (some ⟨r, 0, none⟩)] u fun e w' => e = .panicked [{ v := .iface ty pv, recovered := false }] ∧ Win r (r + 1) u w')
    (PAN : ∀ (ac : Act) (W : World), Win r (r + 1) ws W → ac.defers = [] → Q (Exit.panic [{ v := .iface ty pv, recovered := false }]) ac W) {ops : Array Oper}
    (hops : (ops.map fun o => (o.op, o.dst, o.guard)) = #[(Op.fieldAddr 59 (Operand.tmp 3) 1, some 11, none), (Op.load 57 (Operand.tmp 11), some 12, none), (Op.move (Operand.tmp 0), some 13, none), (Op.call { callee := Callee.value (Operand.func 138), args := #[(Operand.tmp 13)], argTypes := #[168] }, some 14, none), (Op.move (Operand.tmp 0), some 15, none), (Op.call { callee := Callee.value (Operand.func 138), args := #[(Operand.tmp 15)], argTypes := #[168] }, some 16, none), (Op.build 70 #[(0, (Operand.tmp 14)), (1, (Operand.tmp 16))], some 17, none), (Op.buildSlice 57 1 #[(0, (Operand.tmp 17))], some 18, none), (Op.call { callee := Callee.builtin Builtin.append, args := #[(Operand.tmp 12), (Operand.tmp 18)], argTypes := #[57, 57] }, some 19, none), (Op.fieldAddr 59 (Operand.tmp 3) 1, some 20, none), (Op.store 57 (Operand.tmp 20) (Operand.tmp 19), none, none)])
    (hdeps : ((List.range 11).all fun i => ((fun i => [[], [0], [], [2], [], [3, 4], [3, 5], [6], [1, 7], [], [8, 9]].getD i []) i).all fun j => ((ops[i]?).map fun o => o.after.any fun e => Region.binds .any e && e.on == j).getD false) = true)
    (hback : ((List.range 11).all fun i => ((ops[i]?).map fun o => o.after.all fun e => decide (e.on < i)).getD false) = true)
    {a0 : Act} {w0 : World} (ha : a0 = { tmps := #[.pointer (some ⟨r, 0, none⟩), x1, x2, .pointer (some ⟨g, 0, none⟩), x4, x5, x6, x7, x8, x9, x10, u_11, u_12, u_13, u_14, u_15, u_16, u_17, u_18, u_19, u_20, u_21, u_22], defers := [] }) (hP : Blk w0 g 59 #[.int .i64 tag, v]) (hRE : RE w0 r ty pv l) (hW : Win r (r + 1) ws w0) :
    wpAny Tryd.prog .any ops Q ops.size (Array.replicate ops.size false) a0 w0 := by
  have hn : ops.size = 11 := by have := congrArg Array.size hops; simpa using this
  obtain ⟨J, HJ⟩ : ∃ J : (Nat → Bool) → Act → World → Prop, ∀ dn ac W, J dn ac W ↔ (fun dn ac W => ∃ t11 t12 t13 t14 t15 t16 t17 t18 t19 t20, ac = { tmps := #[.pointer (some ⟨r, 0, none⟩), x1, x2, .pointer (some ⟨g, 0, none⟩), x4, x5, x6, x7, x8, x9, x10, t11, t12, t13, t14, t15, t16, t17, t18, t19, t20, u_21, u_22], defers := [] } ∧ (Blk W g 59 #[.int .i64 tag, v]) ∧ (RE W r ty pv l) ∧ (Win r (r + 1) ws W) ∧ (dn 0 = true → t11 = .pointer (some ⟨g, 1, none⟩)) ∧ (dn 1 = true → t12 = v) ∧ (dn 2 = true → t13 = .pointer (some ⟨r, 0, none⟩)) ∧ (dn 3 = true → False) ∧ (dn 4 = true → t15 = .pointer (some ⟨r, 0, none⟩)) ∧ (dn 5 = true → False) ∧ (dn 6 = true → False) ∧ (dn 7 = true → False) ∧ (dn 8 = true → False) ∧ (dn 9 = true → t20 = .pointer (some ⟨g, 1, none⟩)) ∧ (dn 10 = true → False)) dn ac W := ⟨_, fun _ _ _ => Iff.rfl⟩
  replace HJ := hidH HJ
  refine region_inv 11 (fun i => [[], [0], [], [2], [], [3, 4], [3, 5], [6], [1, 7], [], [8, 9]].getD i []) J hn hdeps hback ?start ?step ?fin
  case start => exact (HJ.out _ _ _).2 ⟨u_11, u_12, u_13, u_14, u_15, u_16, u_17, u_18, u_19, u_20, ha, hP, hRE, hW, fun h => by simp at h, fun h => by simp at h, fun h => by simp at h, fun h => by simp at h, fun h => by simp at h, fun h => by simp at h, fun h => by simp at h, fun h => by simp at h, fun h => by simp at h, fun h => by simp at h, fun h => by simp at h⟩
  all_goals clear ha hP hRE hW
  case step =>
    clear hdeps hback
    intro i hi dn ac W hJ hdn hdep
    obtain ⟨t11, t12, t13, t14, t15, t16, t17, t18, t19, t20, rfl, hP, hRE, hW, h0, h1, h2, h3, h4, h5, h6, h7, h8, h9, h10⟩ := (HJ.out _ _ _).1 hJ
    clear hJ
    match i, hi with
    | 0, _ =>
      obtain ⟨ty, ps, af, ho⟩ := op_lit hops (i := 0) (op := Op.fieldAddr 59 (Operand.tmp 3) 1) (dst := some 11) (g := none) rfl
      refine wpOp_lit ho (fun j b h => by cases h) ?_
      clear hops hdep ho
      replace h1 := hidH h1
      replace h2 := hidH h2
      replace h3 := hidH h3
      replace h4 := hidH h4
      replace h5 := hidH h5
      replace h6 := hidH h6
      replace h7 := hidH h7
      replace h8 := hidH h8
      replace h9 := hidH h9
      replace h10 := hidH h10
      go_wp2
      exact (HJ.out _ _ _).2 ⟨_, _, _, _, _, _, _, _, _, _, rfl, hP, hRE, hW, fun _ => rfl, h1.out, h2.out, h3.out, h4.out, h5.out, h6.out, h7.out, h8.out, h9.out, h10.out⟩
    | 1, _ =>
      obtain ⟨ty, ps, af, ho⟩ := op_lit hops (i := 1) (op := Op.load 57 (Operand.tmp 11)) (dst := some 12) (g := none) rfl
      obtain rfl := h0 (hdep 0 (by simp))
      refine wpOp_lit ho (fun j b h => by cases h) ?_
      clear hops hdep ho
      replace h0 := hidH h0
      replace h2 := hidH h2
      replace h3 := hidH h3
      replace h4 := hidH h4
      replace h5 := hidH h5
      replace h6 := hidH h6
      replace h7 := hidH h7
      replace h8 := hidH h8
      replace h9 := hidH h9
      replace h10 := hidH h10
      have q1 := hP.cell 1
      simp only [List.getElem?_toArray, List.getElem?_cons_succ, List.getElem?_cons_zero] at q1
      have hlt := hP.lt
      go_wp2
      exact (HJ.out _ _ _).2 ⟨_, _, _, _, _, _, _, _, _, _, rfl, hP, hRE, hW, fun _ => rfl, fun _ => rfl, h2.out, h3.out, h4.out, h5.out, h6.out, h7.out, h8.out, h9.out, h10.out⟩
    | 2, _ =>
      obtain ⟨ty, ps, af, ho⟩ := op_lit hops (i := 2) (op := Op.move (Operand.tmp 0)) (dst := some 13) (g := none) rfl
      refine wpOp_lit ho (fun j b h => by cases h) ?_
      clear hops hdep ho
      replace h0 := hidH h0
      replace h1 := hidH h1
      replace h3 := hidH h3
      replace h4 := hidH h4
      replace h5 := hidH h5
      replace h6 := hidH h6
      replace h7 := hidH h7
      replace h8 := hidH h8
      replace h9 := hidH h9
      replace h10 := hidH h10
      go_wp2
      exact (HJ.out _ _ _).2 ⟨_, _, _, _, _, _, _, _, _, _, rfl, hP, hRE, hW, h0.out, h1.out, fun _ => rfl, h3.out, h4.out, h5.out, h6.out, h7.out, h8.out, h9.out, h10.out⟩
    | 3, _ =>
      obtain ⟨ty, ps, af, ho⟩ := op_lit hops (i := 3) (op := Op.call { callee := Callee.value (Operand.func 138), args := #[(Operand.tmp 13)], argTypes := #[168] }) (dst := some 14) (g := none) rfl
      obtain rfl := h2 (hdep 2 (by simp))
      refine wpOp_lit ho (fun j b h => by cases h) ?_
      clear hops hdep ho
      replace h0 := hidH h0
      replace h1 := hidH h1
      replace h2 := hidH h2
      replace h4 := hidH h4
      replace h5 := hidH h5
      replace h6 := hidH h6
      replace h7 := hidH h7
      replace h8 := hidH h8
      replace h9 := hidH h9
      replace h10 := hidH h10
      go_wp2_with fail
      refine (CH _ hRE).mono ?_
      rintro e w1 ⟨rfl, hw⟩
      go_wp2
      exact PAN _ _ (hW.trans hw) rfl
    | 4, _ =>
      obtain ⟨ty, ps, af, ho⟩ := op_lit hops (i := 4) (op := Op.move (Operand.tmp 0)) (dst := some 15) (g := none) rfl
      refine wpOp_lit ho (fun j b h => by cases h) ?_
      clear hops hdep ho
      replace h0 := hidH h0
      replace h1 := hidH h1
      replace h2 := hidH h2
      replace h3 := hidH h3
      replace h5 := hidH h5
      replace h6 := hidH h6
      replace h7 := hidH h7
      replace h8 := hidH h8
      replace h9 := hidH h9
      replace h10 := hidH h10
      go_wp2
      exact (HJ.out _ _ _).2 ⟨_, _, _, _, _, _, _, _, _, _, rfl, hP, hRE, hW, h0.out, h1.out, h2.out, h3.out, fun _ => rfl, h5.out, h6.out, h7.out, h8.out, h9.out, h10.out⟩
    | 5, _ =>
      obtain ⟨ty, ps, af, ho⟩ := op_lit hops (i := 5) (op := Op.call { callee := Callee.value (Operand.func 138), args := #[(Operand.tmp 15)], argTypes := #[168] }) (dst := some 16) (g := none) rfl
      exact (h3 (hdep 3 (by simp))).elim
    | 6, _ =>
      obtain ⟨ty, ps, af, ho⟩ := op_lit hops (i := 6) (op := Op.build 70 #[(0, (Operand.tmp 14)), (1, (Operand.tmp 16))]) (dst := some 17) (g := none) rfl
      exact (h3 (hdep 3 (by simp))).elim
    | 7, _ =>
      obtain ⟨ty, ps, af, ho⟩ := op_lit hops (i := 7) (op := Op.buildSlice 57 1 #[(0, (Operand.tmp 17))]) (dst := some 18) (g := none) rfl
      exact (h6 (hdep 6 (by simp))).elim
    | 8, _ =>
      obtain ⟨ty, ps, af, ho⟩ := op_lit hops (i := 8) (op := Op.call { callee := Callee.builtin Builtin.append, args := #[(Operand.tmp 12), (Operand.tmp 18)], argTypes := #[57, 57] }) (dst := some 19) (g := none) rfl
      exact (h7 (hdep 7 (by simp))).elim
    | 9, _ =>
      obtain ⟨ty, ps, af, ho⟩ := op_lit hops (i := 9) (op := Op.fieldAddr 59 (Operand.tmp 3) 1) (dst := some 20) (g := none) rfl
      refine wpOp_lit ho (fun j b h => by cases h) ?_
      clear hops hdep ho
      replace h0 := hidH h0
      replace h1 := hidH h1
      replace h2 := hidH h2
      replace h3 := hidH h3
      replace h4 := hidH h4
      replace h5 := hidH h5
      replace h6 := hidH h6
      replace h7 := hidH h7
      replace h8 := hidH h8
      replace h10 := hidH h10
      go_wp2
      exact (HJ.out _ _ _).2 ⟨_, _, _, _, _, _, _, _, _, _, rfl, hP, hRE, hW, h0.out, h1.out, h2.out, h3.out, h4.out, h5.out, h6.out, h7.out, h8.out, fun _ => rfl, h10.out⟩
    | 10, _ =>
      obtain ⟨ty, ps, af, ho⟩ := op_lit hops (i := 10) (op := Op.store 57 (Operand.tmp 20) (Operand.tmp 19)) (dst := none) (g := none) rfl
      exact (h8 (hdep 8 (by simp))).elim
    | n + 11, h => omega
  case fin =>
    clear hops hdeps hback
    rintro dn ac W hJ hall
    obtain ⟨t11, t12, t13, t14, t15, t16, t17, t18, t19, t20, rfl, hP, hRE, hW, h0, h1, h2, h3, h4, h5, h6, h7, h8, h9, h10⟩ := (HJ.out _ _ _).1 hJ
    exact (h3 (hall 3 (by omega))).elim
set_option maxRecDepth 100000 in
set_option maxHeartbeats 1000000 in
theorem regRgYOp {Q : Exit → Act → World → Prop} (x1 x2 x4 x5 x6 x7 x8 x9 x10 u_11 u_12 u_13 u_14 u_15 u_16 u_17 u_18 u_19 u_20 u_21 u_22 : Value) (ws : World) (r g : Nat) (z0 tag : Int) (v : Value) (l l1 : List Int) (ty : TypeId) (pv : Value) (hrg : r + 1 ≤ g)
    (CH1 : ∀ u : World, RE u r ty pv l → Calls Tryd.prog 138 #[.pointer (some ⟨r, 0, none⟩)] u fun e w' => e = .returned (.int .i64 z0) ∧ RE w' r ty pv l1 ∧ Win r (r + 1) u w' ∧ w'.heap.size = u.heap.size)
    (CH2 : ∀ u : World, RE u r ty pv l1 → Calls Tryd.prog 138 #[.pointer (some ⟨r, 0, none⟩)] u fun e w' => e = .panicked [{ v := .iface ty pv, recovered := false }] ∧ Win r (r + 1) u w')
    (PAN : ∀ (ac : Act) (W : World), Win r (r + 1) ws W → ac.defers = [] → Q (Exit.panic [{ v := .iface ty pv, recovered := false }]) ac W) {ops : Array Oper}
    (hops : (ops.map fun o => (o.op, o.dst, o.guard)) = #[(Op.fieldAddr 59 (Operand.tmp 3) 1, some 11, none), (Op.load 57 (Operand.tmp 11), some 12, none), (Op.move (Operand.tmp 0), some 13, none), (Op.call { callee := Callee.value (Operand.func 138), args := #[(Operand.tmp 13)], argTypes := #[168] }, some 14, none), (Op.move (Operand.tmp 0), some 15, none), (Op.call { callee := Callee.value (Operand.func 138), args := #[(Operand.tmp 15)], argTypes := #[168] }, some 16, none), (Op.build 70 #[(0, (Operand.tmp 14)), (1, (Operand.tmp 16))], some 17, none), (Op.buildSlice 57 1 #[(0, (Operand.tmp 17))], some 18, none), (Op.call { callee := Callee.builtin Builtin.append, args := #[(Operand.tmp 12), (Operand.tmp 18)], argTypes := #[57, 57] }, some 19, none), (Op.fieldAddr 59 (Operand.tmp 3) 1, some 20, none), (Op.store 57 (Operand.tmp 20) (Operand.tmp 19), none, none)])
    (hdeps : ((List.range 11).all fun i => ((fun i => [[], [0], [], [2], [], [3, 4], [3, 5], [6], [1, 7], [], [8, 9]].getD i []) i).all fun j => ((ops[i]?).map fun o => o.after.any fun e => Region.binds .any e && e.on == j).getD false) = true)
    (hback : ((List.range 11).all fun i => ((ops[i]?).map fun o => o.after.all fun e => decide (e.on < i)).getD false) = true)
    {a0 : Act} {w0 : World} (ha : a0 = { tmps := #[.pointer (some ⟨r, 0, none⟩), x1, x2, .pointer (some ⟨g, 0, none⟩), x4, x5, x6, x7, x8, x9, x10, u_11, u_12, u_13, u_14, u_15, u_16, u_17, u_18, u_19, u_20, u_21, u_22], defers := [] }) (hP : Blk w0 g 59 #[.int .i64 tag, v]) (hRE : (false = false → RE w0 r ty pv l) ∧ (false = true → RE w0 r ty pv l1)) (hW : Win r (r + 1) ws w0) :
    wpAny Tryd.prog .any ops Q ops.size (Array.replicate ops.size false) a0 w0 := by
  have hn : ops.size = 11 := by have := congrArg Array.size hops; simpa using this
  obtain ⟨J, HJ⟩ : ∃ J : (Nat → Bool) → Act → World → Prop, ∀ dn ac W, J dn ac W ↔ (fun dn ac W => ∃ t11 t12 t13 t14 t15 t16 t17 t18 t19 t20, ac = { tmps := #[.pointer (some ⟨r, 0, none⟩), x1, x2, .pointer (some ⟨g, 0, none⟩), x4, x5, x6, x7, x8, x9, x10, t11, t12, t13, t14, t15, t16, t17, t18, t19, t20, u_21, u_22], defers := [] } ∧ (Blk W g 59 #[.int .i64 tag, v]) ∧ ((dn 3 = false → RE W r ty pv l) ∧ (dn 3 = true → RE W r ty pv l1)) ∧ (Win r (r + 1) ws W) ∧ (dn 0 = true → t11 = .pointer (some ⟨g, 1, none⟩)) ∧ (dn 1 = true → t12 = v) ∧ (dn 2 = true → t13 = .pointer (some ⟨r, 0, none⟩)) ∧ (dn 3 = true → t14 = .int .i64 z0) ∧ (dn 4 = true → t15 = .pointer (some ⟨r, 0, none⟩)) ∧ (dn 5 = true → False) ∧ (dn 6 = true → False) ∧ (dn 7 = true → False) ∧ (dn 8 = true → False) ∧ (dn 9 = true → t20 = .pointer (some ⟨g, 1, none⟩)) ∧ (dn 10 = true → False)) dn ac W := ⟨_, fun _ _ _ => Iff.rfl⟩
  replace HJ := hidH HJ
  refine region_inv 11 (fun i => [[], [0], [], [2], [], [3, 4], [3, 5], [6], [1, 7], [], [8, 9]].getD i []) J hn hdeps hback ?start ?step ?fin
  case start => exact (HJ.out _ _ _).2 ⟨u_11, u_12, u_13, u_14, u_15, u_16, u_17, u_18, u_19, u_20, ha, hP, hRE, hW, fun h => by simp at h, fun h => by simp at h, fun h => by simp at h, fun h => by simp at h, fun h => by simp at h, fun h => by simp at h, fun h => by simp at h, fun h => by simp at h, fun h => by simp at h, fun h => by simp at h, fun h => by simp at h⟩
  all_goals clear ha hP hRE hW
  case step =>
    clear hdeps hback
    intro i hi dn ac W hJ hdn hdep
    obtain ⟨t11, t12, t13, t14, t15, t16, t17, t18, t19, t20, rfl, hP, hRE, hW, h0, h1, h2, h3, h4, h5, h6, h7, h8, h9, h10⟩ := (HJ.out _ _ _).1 hJ
    clear hJ
    match i, hi with
    | 0, _ =>
      obtain ⟨ty, ps, af, ho⟩ := op_lit hops (i := 0) (op := Op.fieldAddr 59 (Operand.tmp 3) 1) (dst := some 11) (g := none) rfl
      refine wpOp_lit ho (fun j b h => by cases h) ?_
      clear hops hdep ho
      replace h1 := hidH h1
      replace h2 := hidH h2
      replace h3 := hidH h3
      replace h4 := hidH h4
      replace h5 := hidH h5
      replace h6 := hidH h6
      replace h7 := hidH h7
      replace h8 := hidH h8
      replace h9 := hidH h9
      replace h10 := hidH h10
      go_wp2
      exact (HJ.out _ _ _).2 ⟨_, _, _, _, _, _, _, _, _, _, rfl, hP, hRE, hW, fun _ => rfl, h1.out, h2.out, h3.out, h4.out, h5.out, h6.out, h7.out, h8.out, h9.out, h10.out⟩
    | 1, _ =>
      obtain ⟨ty, ps, af, ho⟩ := op_lit hops (i := 1) (op := Op.load 57 (Operand.tmp 11)) (dst := some 12) (g := none) rfl
      obtain rfl := h0 (hdep 0 (by simp))
      refine wpOp_lit ho (fun j b h => by cases h) ?_
      clear hops hdep ho
      replace h0 := hidH h0
      replace h2 := hidH h2
      replace h3 := hidH h3
      replace h4 := hidH h4
      replace h5 := hidH h5
      replace h6 := hidH h6
      replace h7 := hidH h7
      replace h8 := hidH h8
      replace h9 := hidH h9
      replace h10 := hidH h10
      have q1 := hP.cell 1
      simp only [List.getElem?_toArray, List.getElem?_cons_succ, List.getElem?_cons_zero] at q1
      have hlt := hP.lt
      go_wp2
      exact (HJ.out _ _ _).2 ⟨_, _, _, _, _, _, _, _, _, _, rfl, hP, hRE, hW, fun _ => rfl, fun _ => rfl, h2.out, h3.out, h4.out, h5.out, h6.out, h7.out, h8.out, h9.out, h10.out⟩
    | 2, _ =>
      obtain ⟨ty, ps, af, ho⟩ := op_lit hops (i := 2) (op := Op.move (Operand.tmp 0)) (dst := some 13) (g := none) rfl
      refine wpOp_lit ho (fun j b h => by cases h) ?_
      clear hops hdep ho
      replace h0 := hidH h0
      replace h1 := hidH h1
      replace h3 := hidH h3
      replace h4 := hidH h4
      replace h5 := hidH h5
      replace h6 := hidH h6
      replace h7 := hidH h7
      replace h8 := hidH h8
      replace h9 := hidH h9
      replace h10 := hidH h10
      go_wp2
      exact (HJ.out _ _ _).2 ⟨_, _, _, _, _, _, _, _, _, _, rfl, hP, hRE, hW, h0.out, h1.out, fun _ => rfl, h3.out, h4.out, h5.out, h6.out, h7.out, h8.out, h9.out, h10.out⟩
    | 3, _ =>
      obtain ⟨ty, ps, af, ho⟩ := op_lit hops (i := 3) (op := Op.call { callee := Callee.value (Operand.func 138), args := #[(Operand.tmp 13)], argTypes := #[168] }) (dst := some 14) (g := none) rfl
      obtain rfl := h2 (hdep 2 (by simp))
      refine wpOp_lit ho (fun j b h => by cases h) ?_
      clear hops hdep ho
      replace h0 := hidH h0
      replace h1 := hidH h1
      replace h2 := hidH h2
      replace h4 := hidH h4
      replace h5 := hidH h5
      replace h6 := hidH h6
      replace h7 := hidH h7
      replace h8 := hidH h8
      replace h9 := hidH h9
      replace h10 := hidH h10
      go_wp2_with fail
      refine (CH1 _ (hRE.1 hdn)).mono ?_
      rintro e w1 ⟨rfl, r3, hw, _⟩
      have R3 := hidH r3
      clear r3
      go_wp2
      exact (HJ.out _ _ _).2 ⟨_, _, _, _, _, _, _, _, _, _, rfl, hw.blk hP (.inr hrg), ⟨(fun h => by simp at h), (fun _ => R3.out)⟩, hW.trans hw, h0.out, h1.out, fun _ => rfl, fun _ => rfl, h4.out, fun h => h5.out h, fun h => h6.out h, fun h => h7.out h, fun h => h8.out h, h9.out, fun h => h10.out h⟩
    | 4, _ =>
      obtain ⟨ty, ps, af, ho⟩ := op_lit hops (i := 4) (op := Op.move (Operand.tmp 0)) (dst := some 15) (g := none) rfl
      refine wpOp_lit ho (fun j b h => by cases h) ?_
      clear hops hdep ho
      replace h0 := hidH h0
      replace h1 := hidH h1
      replace h2 := hidH h2
      replace h3 := hidH h3
      replace h5 := hidH h5
      replace h6 := hidH h6
      replace h7 := hidH h7
      replace h8 := hidH h8
      replace h9 := hidH h9
      replace h10 := hidH h10
      go_wp2
      exact (HJ.out _ _ _).2 ⟨_, _, _, _, _, _, _, _, _, _, rfl, hP, hRE, hW, h0.out, h1.out, h2.out, h3.out, fun _ => rfl, h5.out, h6.out, h7.out, h8.out, h9.out, h10.out⟩
    | 5, _ =>
      obtain ⟨ty, ps, af, ho⟩ := op_lit hops (i := 5) (op := Op.call { callee := Callee.value (Operand.func 138), args := #[(Operand.tmp 15)], argTypes := #[168] }) (dst := some 16) (g := none) rfl
      have hd3 := hidH (hdep 3 (by simp))
      obtain rfl := h4 (hdep 4 (by simp))
      refine wpOp_lit ho (fun j b h => by cases h) ?_
      clear hops hdep ho
      replace h0 := hidH h0
      replace h1 := hidH h1
      replace h2 := hidH h2
      replace h3 := hidH h3
      replace h4 := hidH h4
      replace h6 := hidH h6
      replace h7 := hidH h7
      replace h8 := hidH h8
      replace h9 := hidH h9
      replace h10 := hidH h10
      go_wp2_with fail
      refine (CH2 _ (hRE.2 hd3.out)).mono ?_
      rintro e w1 ⟨rfl, hw⟩
      go_wp2
      exact PAN _ _ (hW.trans hw) rfl
    | 6, _ =>
      obtain ⟨ty, ps, af, ho⟩ := op_lit hops (i := 6) (op := Op.build 70 #[(0, (Operand.tmp 14)), (1, (Operand.tmp 16))]) (dst := some 17) (g := none) rfl
      exact (h5 (hdep 5 (by simp))).elim
    | 7, _ =>
      obtain ⟨ty, ps, af, ho⟩ := op_lit hops (i := 7) (op := Op.buildSlice 57 1 #[(0, (Operand.tmp 17))]) (dst := some 18) (g := none) rfl
      exact (h6 (hdep 6 (by simp))).elim
    | 8, _ =>
      obtain ⟨ty, ps, af, ho⟩ := op_lit hops (i := 8) (op := Op.call { callee := Callee.builtin Builtin.append, args := #[(Operand.tmp 12), (Operand.tmp 18)], argTypes := #[57, 57] }) (dst := some 19) (g := none) rfl
      exact (h7 (hdep 7 (by simp))).elim
    | 9, _ =>
      obtain ⟨ty, ps, af, ho⟩ := op_lit hops (i := 9) (op := Op.fieldAddr 59 (Operand.tmp 3) 1) (dst := some 20) (g := none) rfl
      refine wpOp_lit ho (fun j b h => by cases h) ?_
      clear hops hdep ho
      replace h0 := hidH h0
      replace h1 := hidH h1
      replace h2 := hidH h2
      replace h3 := hidH h3
      replace h4 := hidH h4
      replace h5 := hidH h5
      replace h6 := hidH h6
      replace h7 := hidH h7
      replace h8 := hidH h8
      replace h10 := hidH h10
      go_wp2
      exact (HJ.out _ _ _).2 ⟨_, _, _, _, _, _, _, _, _, _, rfl, hP, hRE, hW, h0.out, h1.out, h2.out, h3.out, h4.out, h5.out, h6.out, h7.out, h8.out, fun _ => rfl, h10.out⟩
    | 10, _ =>
      obtain ⟨ty, ps, af, ho⟩ := op_lit hops (i := 10) (op := Op.store 57 (Operand.tmp 20) (Operand.tmp 19)) (dst := none) (g := none) rfl
      exact (h8 (hdep 8 (by simp))).elim
    | n + 11, h => omega
  case fin =>
    clear hops hdeps hback
    rintro dn ac W hJ hall
    obtain ⟨t11, t12, t13, t14, t15, t16, t17, t18, t19, t20, rfl, hP, hRE, hW, h0, h1, h2, h3, h4, h5, h6, h7, h8, h9, h10⟩ := (HJ.out _ _ _).1 hJ
    exact (h5 (hall 5 (by omega))).elim
end Go.Proofs.YtjjileefdjjijaaDoor
