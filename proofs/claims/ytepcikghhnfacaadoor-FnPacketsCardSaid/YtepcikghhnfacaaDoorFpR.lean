/- The regions of the law FnPackets that draw their order. -/
import Derived.Test.YtepcikghhnfacaaDoorJa3
import Derived.Test.YtepcikghhnfacaaDoorJa5
import Derived.Test.YtepcikghhnfacaaDoorJa6
import Derived.Test.YtepcikghhnfacaaDoorJa2
namespace Go.Proofs.YtepcikghhnfacaaDoor
open Go.RowKit Go.Deep

theorem blk3_put {w : World} {g : Nat} {t : TypeId} {a b c : Value} (h : Blk w g t #[a, b, c]) (x y z : Value) : Blk (((w.setCell ⟨g, 0, none⟩ x).setCell ⟨g, 1, none⟩ y).setCell ⟨g, 2, none⟩ z) g t #[x, y, z] := by
  have h1 : Blk (w.setCell ⟨g, 0, none⟩ x) g t #[x, b, c] := by
    have q := heap_setCell_same w g 0 _ _ x h
    unfold Blk
    rw [q]
    rfl
  have h2 : Blk ((w.setCell ⟨g, 0, none⟩ x).setCell ⟨g, 1, none⟩ y) g t #[x, y, c] := by
    have q := heap_setCell_same _ g 1 _ _ y h1
    unfold Blk
    rw [q]
    rfl
  have q := heap_setCell_same _ g 2 _ _ z h2
  unfold Blk
  rw [q]
  rfl
theorem fldPR0 (c t : Int) (P : Option Addr) (n k : Nat) (w : World) : (Instr.field 33 (.agg #[.int .i64 c, .int .i64 t, .slice P n k]) 0).run Tryd.prog w = .ok (.int .i64 c) w := by kernel_rfl
theorem fldBR1 (c : Int) (P : Option Addr) (n k : Nat) (w : World) : (Instr.field 29 (.agg #[.int .i64 c, .slice P n k]) 1).run Tryd.prog w = .ok (.slice P n k) w := by kernel_rfl
theorem lwB_sameB2 (A B : Option Addr) (l : List Int) (c d : Nat) (w : World) (hA : Bs w A l) (hB : Bs w B l) :
    Calls Tryd.prog 13 #[.slice A l.length c, .slice B l.length d] w fun e w' => e = .returned (.bool true) ∧ Below w.heap.size w w' :=
  (lwB_same A B l c d w hA hB).mono fun _ _ ⟨h, hk⟩ => ⟨h, hk ▸ Below.refl _ _⟩
/-- What FnPackets keeps: the packet, its bytes, the drawn bytes, what was read from them. -/
structure FpM (w0 : World) (q3 q4 q6 : Nat) (tag : Int) (P : Option Addr) (cs : List Chk) (cp : Nat) (C : Int) (A4 : Option Addr) (M : List Int) (c4 : Nat) (X : Option Addr) (D : List Int) (C6 T6 : Int) (P6 : Option Addr) (S6 : List Chk) (c6 : Nat) (cA : Option Addr) (l : List Int) (ty : TypeId) (pv : Value) (W : World) : Prop where
  pk : Blk W q3 26 #[.int .i64 tag, .slice P cs.length cp]
  pcs : Cs W P cs
  rs : Blk W q4 29 #[.int .i64 C, .slice A4 M.length c4]
  bm : Bs W A4 M
  bd : Bs W X D
  rp : Blk W q6 33 #[.int .i64 C6, .int .i64 T6, .slice P6 S6.length c6]
  rcs : Cs W P6 S6
  code : Bs W cA l
  err : W.cell? ⟨0, 0, none⟩ = some (.iface ty pv)
  old : Below w0.heap.size w0 W
theorem FpM.below {w0 : World} {q3 q4 q6 : Nat} {tag : Int} {P : Option Addr} {cs : List Chk} {cp : Nat} {C : Int} {A4 : Option Addr} {M : List Int} {c4 : Nat} {X : Option Addr} {D : List Int} {C6 T6 : Int} {P6 : Option Addr} {S6 : List Chk} {c6 : Nat} {cA : Option Addr} {l : List Int} {ty : TypeId} {pv : Value} {u v : World} (h : FpM w0 q3 q4 q6 tag P cs cp C A4 M c4 X D C6 T6 P6 S6 c6 cA l ty pv u) (hb : Below u.heap.size u v) : FpM w0 q3 q4 q6 tag P cs cp C A4 M c4 X D C6 T6 P6 S6 c6 cA l ty pv v :=
  ⟨h.pk.below hb, h.pcs.below hb, h.rs.below hb, bs_below h.bm hb, bs_below h.bd hb, h.rp.below hb, h.rcs.below hb, bs_below h.code hb, (hb.cell (p := ⟨0, 0, none⟩) (World.block_lt_of_cell? _ _ h.err)).trans h.err, btr h.old hb⟩
set_option maxRecDepth 100000 in
set_option maxHeartbeats 1000000 in
theorem regFp7 {Q : Exit → Act → World → Prop} (x0 x1 x2 x7 x8 x9 x10 x11 x12 x13 x14 x15 x16 x17 x18 : Value) (ws : World) (q3 q4 q6 : Nat) (tag : Int) (P : Option Addr) (cs : List Chk) (cp : Nat) (C : Int) (A4 : Option Addr) (M : List Int) (c4 : Nat) (X : Option Addr) (D : List Int) (cx : Nat) (C6 T6 : Int) (P6 : Option Addr) (S6 : List Chk) (c6 : Nat) (cA : Option Addr) (l : List Int) (ty : TypeId) (pv : Value)
    (F1 : ∀ u : World, FpM ws q3 q4 q6 tag P cs cp C A4 M c4 X D C6 T6 P6 S6 c6 cA l ty pv u → Calls Tryd.prog 10 #[.agg #[.int .i64 tag, .slice P cs.length cp]] u fun e w' => e = .returned (.int .i64 C) ∧ Below u.heap.size u w')
    (F2 : ∀ u : World, FpM ws q3 q4 q6 tag P cs cp C A4 M c4 X D C6 T6 P6 S6 c6 cA l ty pv u → Calls Tryd.prog 11 #[.agg #[.int .i64 tag, .slice P cs.length cp]] u fun e w' => e = .returned (.int .i64 C) ∧ Below u.heap.size u w')
    (F3 : ∀ u : World, FpM ws q3 q4 q6 tag P cs cp C A4 M c4 X D C6 T6 P6 S6 c6 cA l ty pv u → Calls Tryd.prog 12 #[.slice X D.length cx] u fun e w' => ∃ T1 P1 n1 c1, e = .returned (.agg #[.int .i64 C6, .int .i64 T1, .slice P1 n1 c1]) ∧ Below u.heap.size u w') {ops : Array Oper}
    (hops : (ops.map fun o => (o.op, o.dst, o.guard)) = #[(Op.fieldAddr 29 (Operand.tmp 4) 0, some 19, none), (Op.load 2 (Operand.tmp 19), some 20, none), (Op.load 26 (Operand.tmp 3), some 21, none), (Op.call { callee := Callee.value (Operand.func 10), args := #[(Operand.tmp 21)], argTypes := #[26] }, some 22, none), (Op.binOp BinOp.neq 2 (Operand.tmp 20) (Operand.tmp 22) 2, some 23, none), (Op.move (Operand.tmp 23), some 24, none), (Op.load 26 (Operand.tmp 3), some 25, some (5, false)), (Op.call { callee := Callee.value (Operand.func 11), args := #[(Operand.tmp 25)], argTypes := #[26] }, some 26, some (5, false)), (Op.fieldAddr 29 (Operand.tmp 4) 0, some 27, some (5, false)), (Op.load 2 (Operand.tmp 27), some 28, some (5, false)), (Op.binOp BinOp.neq 2 (Operand.tmp 26) (Operand.tmp 28) 2, some 29, some (5, false)), (Op.pick (Operand.tmp 24) (Operand.const (Value.bool true)) (Operand.tmp 29), some 30, none), (Op.move (Operand.tmp 30), some 31, none), (Op.fieldAddr 33 (Operand.tmp 6) 0, some 32, some (12, false)), (Op.load 2 (Operand.tmp 32), some 33, some (12, false)), (Op.move (Operand.tmp 5), some 34, some (12, false)), (Op.call { callee := Callee.value (Operand.func 12), args := #[(Operand.tmp 34)], argTypes := #[22] }, some 35, some (12, false)), (Op.field 33 (Operand.tmp 35) 0, some 36, some (12, false)), (Op.binOp BinOp.neq 2 (Operand.tmp 33) (Operand.tmp 36) 2, some 37, some (12, false)), (Op.pick (Operand.tmp 31) (Operand.const (Value.bool true)) (Operand.tmp 37), some 38, none)])
    (hdeps : ((List.range 20).all fun i => ((fun i => [[], [0], [], [2], [1, 3], [4], [5], [5, 6], [5], [5, 8], [5, 7, 9], [5, 10], [11], [12], [12, 13], [12], [12, 15], [12, 16], [12, 14, 17], [12, 18]].getD i []) i).all fun j => ((ops[i]?).map fun o => o.after.any fun e => Region.binds .any e && e.on == j).getD false) = true)
    (hback : ((List.range 20).all fun i => ((ops[i]?).map fun o => o.after.all fun e => decide (e.on < i)).getD false) = true)
    {a0 : Act} {w0 : World} (ha : a0 = { tmps := #[x0, x1, x2, .pointer (some ⟨q3, 0, none⟩), .pointer (some ⟨q4, 0, none⟩), .slice X D.length cx, .pointer (some ⟨q6, 0, none⟩), x7, x8, x9, x10, x11, x12, x13, x14, x15, x16, x17, x18, undef, undef, undef, undef, undef, undef, undef, undef, undef, undef, undef, undef, undef, undef, undef, undef, undef, undef, undef, undef, undef, undef, undef, undef, undef, undef, undef, undef, undef, undef, undef, undef, undef, undef, undef, undef, undef, undef, undef, undef, undef, undef, undef, undef, undef, undef, undef, undef, undef, undef, undef, undef, undef, undef, undef, undef, undef, undef, undef, undef, undef, undef, undef, undef, undef, undef, undef, undef, undef, undef, undef, undef, undef, undef, undef, undef, undef, undef, undef, undef, undef, undef, undef], defers := [] }) (hM : FpM ws q3 q4 q6 tag P cs cp C A4 M c4 X D C6 T6 P6 S6 c6 cA l ty pv w0)
    (fin : ∀ t19 t20 t21 t22 t23 t24 t25 t26 t27 t28 t29 t30 t31 t32 t33 t34 t35 t36 t37 (W : World), (FpM ws q3 q4 q6 tag P cs cp C A4 M c4 X D C6 T6 P6 S6 c6 cA l ty pv W) → Q .normal { tmps := #[x0, x1, x2, .pointer (some ⟨q3, 0, none⟩), .pointer (some ⟨q4, 0, none⟩), .slice X D.length cx, .pointer (some ⟨q6, 0, none⟩), x7, x8, x9, x10, x11, x12, x13, x14, x15, x16, x17, x18, t19, t20, t21, t22, t23, t24, t25, t26, t27, t28, t29, t30, t31, t32, t33, t34, t35, t36, t37, .bool false, undef, undef, undef, undef, undef, undef, undef, undef, undef, undef, undef, undef, undef, undef, undef, undef, undef, undef, undef, undef, undef, undef, undef, undef, undef, undef, undef, undef, undef, undef, undef, undef, undef, undef, undef, undef, undef, undef, undef, undef, undef, undef, undef, undef, undef, undef, undef, undef, undef, undef, undef, undef, undef, undef, undef, undef, undef, undef, undef, undef, undef, undef, undef], defers := [] } W) :
    wpAny Tryd.prog .any ops Q ops.size (Array.replicate ops.size false) a0 w0 := by
  have hn : ops.size = 20 := by have := congrArg Array.size hops; simpa using this
  obtain ⟨J, HJ⟩ : ∃ J : (Nat → Bool) → Act → World → Prop, ∀ dn ac W, J dn ac W ↔ (fun dn ac W => ∃ t19 t20 t21 t22 t23 t24 t25 t26 t27 t28 t29 t30 t31 t32 t33 t34 t35 t36 t37 t38, ac = { tmps := #[x0, x1, x2, .pointer (some ⟨q3, 0, none⟩), .pointer (some ⟨q4, 0, none⟩), .slice X D.length cx, .pointer (some ⟨q6, 0, none⟩), x7, x8, x9, x10, x11, x12, x13, x14, x15, x16, x17, x18, t19, t20, t21, t22, t23, t24, t25, t26, t27, t28, t29, t30, t31, t32, t33, t34, t35, t36, t37, t38, undef, undef, undef, undef, undef, undef, undef, undef, undef, undef, undef, undef, undef, undef, undef, undef, undef, undef, undef, undef, undef, undef, undef, undef, undef, undef, undef, undef, undef, undef, undef, undef, undef, undef, undef, undef, undef, undef, undef, undef, undef, undef, undef, undef, undef, undef, undef, undef, undef, undef, undef, undef, undef, undef, undef, undef, undef, undef, undef, undef, undef, undef, undef], defers := [] } ∧ (FpM ws q3 q4 q6 tag P cs cp C A4 M c4 X D C6 T6 P6 S6 c6 cA l ty pv W) ∧ (dn 0 = true → t19 = .pointer (some ⟨q4, 0, none⟩)) ∧ (dn 1 = true → t20 = .int .i64 C) ∧ (dn 2 = true → t21 = .agg #[.int .i64 tag, .slice P cs.length cp]) ∧ (dn 3 = true → t22 = .int .i64 C) ∧ (dn 4 = true → t23 = .bool false) ∧ (dn 5 = true → t24 = .bool false) ∧ (dn 6 = true → t25 = .agg #[.int .i64 tag, .slice P cs.length cp]) ∧ (dn 7 = true → t26 = .int .i64 C) ∧ (dn 8 = true → t27 = .pointer (some ⟨q4, 0, none⟩)) ∧ (dn 9 = true → t28 = .int .i64 C) ∧ (dn 10 = true → t29 = .bool false) ∧ (dn 11 = true → t30 = .bool false) ∧ (dn 12 = true → t31 = .bool false) ∧ (dn 13 = true → t32 = .pointer (some ⟨q6, 0, none⟩)) ∧ (dn 14 = true → t33 = .int .i64 C6) ∧ (dn 15 = true → t34 = .slice X D.length cx) ∧ (dn 16 = true → ∃ (T1 : Int) (P1 : Option Addr) (n1 c1 : Nat), t35 = .agg #[.int .i64 C6, .int .i64 T1, .slice P1 n1 c1]) ∧ (dn 17 = true → t36 = .int .i64 C6) ∧ (dn 18 = true → t37 = .bool false) ∧ (dn 19 = true → t38 = .bool false)) dn ac W := ⟨_, fun _ _ _ => Iff.rfl⟩
  replace HJ := hidH HJ
  refine region_inv 20 (fun i => [[], [0], [], [2], [1, 3], [4], [5], [5, 6], [5], [5, 8], [5, 7, 9], [5, 10], [11], [12], [12, 13], [12], [12, 15], [12, 16], [12, 14, 17], [12, 18]].getD i []) J hn hdeps hback ?start ?step ?fin
  case start => exact (HJ.out _ _ _).2 ⟨undef, undef, undef, undef, undef, undef, undef, undef, undef, undef, undef, undef, undef, undef, undef, undef, undef, undef, undef, undef, ha, hM, fun h => by simp at h, fun h => by simp at h, fun h => by simp at h, fun h => by simp at h, fun h => by simp at h, fun h => by simp at h, fun h => by simp at h, fun h => by simp at h, fun h => by simp at h, fun h => by simp at h, fun h => by simp at h, fun h => by simp at h, fun h => by simp at h, fun h => by simp at h, fun h => by simp at h, fun h => by simp at h, fun h => by simp at h, fun h => by simp at h, fun h => by simp at h, fun h => by simp at h⟩
  all_goals clear ha hM
  case step =>
    clear fin hdeps hback
    intro i hi dn ac W hJ hdn hdep
    obtain ⟨t19, t20, t21, t22, t23, t24, t25, t26, t27, t28, t29, t30, t31, t32, t33, t34, t35, t36, t37, t38, rfl, hM, h0, h1, h2, h3, h4, h5, h6, h7, h8, h9, h10, h11, h12, h13, h14, h15, h16, h17, h18, h19⟩ := (HJ.out _ _ _).1 hJ
    clear hJ
    match i, hi with
    | 0, _ =>
      obtain ⟨ty, ps, af, ho⟩ := op_lit hops (i := 0) (op := Op.fieldAddr 29 (Operand.tmp 4) 0) (dst := some 19) (g := none) rfl
      refine wpOp_lit ho (fun j b h => by cases h) ?_
      clear hops hdep ho
      replace h1 := hidH h1
      replace h2 := hidH h2
      replace h3 := hidH h3
      replace h4 := hidH h4
      replace h5 := hidH h5
      replace h6 := hidH h6
      replace h7 := hidH h7
      replace h8 := hidH h8
      replace h9 := hidH h9
      replace h10 := hidH h10
      replace h11 := hidH h11
      replace h12 := hidH h12
      replace h13 := hidH h13
      replace h14 := hidH h14
      replace h15 := hidH h15
      replace h16 := hidH h16
      replace h17 := hidH h17
      replace h18 := hidH h18
      replace h19 := hidH h19
      go_wp2
      exact (HJ.out _ _ _).2 ⟨_, _, _, _, _, _, _, _, _, _, _, _, _, _, _, _, _, _, _, _, rfl, hM, fun _ => rfl, h1.out, h2.out, h3.out, h4.out, h5.out, h6.out, h7.out, h8.out, h9.out, h10.out, h11.out, h12.out, h13.out, h14.out, h15.out, h16.out, h17.out, h18.out, h19.out⟩
    | 1, _ =>
      obtain ⟨ty, ps, af, ho⟩ := op_lit hops (i := 1) (op := Op.load 2 (Operand.tmp 19)) (dst := some 20) (g := none) rfl
      obtain rfl := h0 (hdep 0 (by simp))
      refine wpOp_lit ho (fun j b h => by cases h) ?_
      clear hops hdep ho
      replace h0 := hidH h0
      replace h2 := hidH h2
      replace h3 := hidH h3
      replace h4 := hidH h4
      replace h5 := hidH h5
      replace h6 := hidH h6
      replace h7 := hidH h7
      replace h8 := hidH h8
      replace h9 := hidH h9
      replace h10 := hidH h10
      replace h11 := hidH h11
      replace h12 := hidH h12
      replace h13 := hidH h13
      replace h14 := hidH h14
      replace h15 := hidH h15
      replace h16 := hidH h16
      replace h17 := hidH h17
      replace h18 := hidH h18
      replace h19 := hidH h19
      have q0 := hM.rs.cell 0
      simp only [List.getElem?_toArray, List.getElem?_cons_zero] at q0
      go_wp2
      exact (HJ.out _ _ _).2 ⟨_, _, _, _, _, _, _, _, _, _, _, _, _, _, _, _, _, _, _, _, rfl, hM, fun _ => rfl, fun _ => rfl, h2.out, h3.out, h4.out, h5.out, h6.out, h7.out, h8.out, h9.out, h10.out, h11.out, h12.out, h13.out, h14.out, h15.out, h16.out, h17.out, h18.out, h19.out⟩
    | 2, _ =>
      obtain ⟨ty, ps, af, ho⟩ := op_lit hops (i := 2) (op := Op.load 26 (Operand.tmp 3)) (dst := some 21) (g := none) rfl
      refine wpOp_lit ho (fun j b h => by cases h) ?_
      clear hops hdep ho
      replace h0 := hidH h0
      replace h1 := hidH h1
      replace h3 := hidH h3
      replace h4 := hidH h4
      replace h5 := hidH h5
      replace h6 := hidH h6
      replace h7 := hidH h7
      replace h8 := hidH h8
      replace h9 := hidH h9
      replace h10 := hidH h10
      replace h11 := hidH h11
      replace h12 := hidH h12
      replace h13 := hidH h13
      replace h14 := hidH h14
      replace h15 := hidH h15
      replace h16 := hidH h16
      replace h17 := hidH h17
      replace h18 := hidH h18
      replace h19 := hidH h19
      have q0 := hM.pk.cell 0
      have q1 := hM.pk.cell 1
      simp only [List.getElem?_toArray, List.getElem?_cons_succ, List.getElem?_cons_zero] at q0 q1
      go_wp2
      exact (HJ.out _ _ _).2 ⟨_, _, _, _, _, _, _, _, _, _, _, _, _, _, _, _, _, _, _, _, rfl, hM, h0.out, h1.out, fun _ => rfl, h3.out, h4.out, h5.out, h6.out, h7.out, h8.out, h9.out, h10.out, h11.out, h12.out, h13.out, h14.out, h15.out, h16.out, h17.out, h18.out, h19.out⟩
    | 3, _ =>
      obtain ⟨ty, ps, af, ho⟩ := op_lit hops (i := 3) (op := Op.call { callee := Callee.value (Operand.func 10), args := #[(Operand.tmp 21)], argTypes := #[26] }) (dst := some 22) (g := none) rfl
      obtain rfl := h2 (hdep 2 (by simp))
      refine wpOp_lit ho (fun j b h => by cases h) ?_
      clear hops hdep ho
      replace h0 := hidH h0
      replace h1 := hidH h1
      replace h2 := hidH h2
      replace h4 := hidH h4
      replace h5 := hidH h5
      replace h6 := hidH h6
      replace h7 := hidH h7
      replace h8 := hidH h8
      replace h9 := hidH h9
      replace h10 := hidH h10
      replace h11 := hidH h11
      replace h12 := hidH h12
      replace h13 := hidH h13
      replace h14 := hidH h14
      replace h15 := hidH h15
      replace h16 := hidH h16
      replace h17 := hidH h17
      replace h18 := hidH h18
      replace h19 := hidH h19
      go_wp2_with fail
      refine (F1 _ hM).mono ?_
      rintro e w1 ⟨rfl, hb⟩
      go_wp2
      exact (HJ.out _ _ _).2 ⟨_, _, _, _, _, _, _, _, _, _, _, _, _, _, _, _, _, _, _, _, rfl, hM.below hb, h0.out, h1.out, fun _ => rfl, fun _ => rfl, h4.out, h5.out, h6.out, h7.out, h8.out, h9.out, h10.out, h11.out, h12.out, h13.out, h14.out, h15.out, h16.out, h17.out, h18.out, h19.out⟩
    | 4, _ =>
      obtain ⟨ty, ps, af, ho⟩ := op_lit hops (i := 4) (op := Op.binOp BinOp.neq 2 (Operand.tmp 20) (Operand.tmp 22) 2) (dst := some 23) (g := none) rfl
      obtain rfl := h1 (hdep 1 (by simp))
      obtain rfl := h3 (hdep 3 (by simp))
      refine wpOp_lit ho (fun j b h => by cases h) ?_
      clear hops hdep ho
      replace h0 := hidH h0
      replace h1 := hidH h1
      replace h2 := hidH h2
      replace h3 := hidH h3
      replace h5 := hidH h5
      replace h6 := hidH h6
      replace h7 := hidH h7
      replace h8 := hidH h8
      replace h9 := hidH h9
      replace h10 := hidH h10
      replace h11 := hidH h11
      replace h12 := hidH h12
      replace h13 := hidH h13
      replace h14 := hidH h14
      replace h15 := hidH h15
      replace h16 := hidH h16
      replace h17 := hidH h17
      replace h18 := hidH h18
      replace h19 := hidH h19
      go_wp2
      exact (HJ.out _ _ _).2 ⟨_, _, _, _, _, _, _, _, _, _, _, _, _, _, _, _, _, _, _, _, rfl, hM, h0.out, fun _ => rfl, h2.out, fun _ => rfl, fun _ => rfl, h5.out, h6.out, h7.out, h8.out, h9.out, h10.out, h11.out, h12.out, h13.out, h14.out, h15.out, h16.out, h17.out, h18.out, h19.out⟩
    | 5, _ =>
      obtain ⟨ty, ps, af, ho⟩ := op_lit hops (i := 5) (op := Op.move (Operand.tmp 23)) (dst := some 24) (g := none) rfl
      obtain rfl := h4 (hdep 4 (by simp))
      refine wpOp_lit ho (fun j b h => by cases h) ?_
      clear hops hdep ho
      replace h0 := hidH h0
      replace h1 := hidH h1
      replace h2 := hidH h2
      replace h3 := hidH h3
      replace h4 := hidH h4
      replace h6 := hidH h6
      replace h7 := hidH h7
      replace h8 := hidH h8
      replace h9 := hidH h9
      replace h10 := hidH h10
      replace h11 := hidH h11
      replace h12 := hidH h12
      replace h13 := hidH h13
      replace h14 := hidH h14
      replace h15 := hidH h15
      replace h16 := hidH h16
      replace h17 := hidH h17
      replace h18 := hidH h18
      replace h19 := hidH h19
      go_wp2
      exact (HJ.out _ _ _).2 ⟨_, _, _, _, _, _, _, _, _, _, _, _, _, _, _, _, _, _, _, _, rfl, hM, h0.out, h1.out, h2.out, h3.out, fun _ => rfl, fun _ => rfl, h6.out, h7.out, h8.out, h9.out, h10.out, h11.out, h12.out, h13.out, h14.out, h15.out, h16.out, h17.out, h18.out, h19.out⟩
    | 6, _ =>
      obtain ⟨ty, ps, af, ho⟩ := op_lit hops (i := 6) (op := Op.load 26 (Operand.tmp 3)) (dst := some 25) (g := some (5, false)) rfl
      obtain rfl := h5 (hdep 5 (by simp))
      have hy := fun tmps ht => yielded_lit hops (i := 5) (op := Op.move (Operand.tmp 23)) (t := 24) (g := none) rfl tmps false ht
      refine wpOp_lit ho (fun j b h => by cases h; exact hy _ rfl) ?_
      clear hops hdep ho hy
      replace h0 := hidH h0
      replace h1 := hidH h1
      replace h2 := hidH h2
      replace h3 := hidH h3
      replace h4 := hidH h4
      replace h5 := hidH h5
      replace h7 := hidH h7
      replace h8 := hidH h8
      replace h9 := hidH h9
      replace h10 := hidH h10
      replace h11 := hidH h11
      replace h12 := hidH h12
      replace h13 := hidH h13
      replace h14 := hidH h14
      replace h15 := hidH h15
      replace h16 := hidH h16
      replace h17 := hidH h17
      replace h18 := hidH h18
      replace h19 := hidH h19
      have q0 := hM.pk.cell 0
      have q1 := hM.pk.cell 1
      simp only [List.getElem?_toArray, List.getElem?_cons_succ, List.getElem?_cons_zero] at q0 q1
      go_wp2
      exact (HJ.out _ _ _).2 ⟨_, _, _, _, _, _, _, _, _, _, _, _, _, _, _, _, _, _, _, _, rfl, hM, h0.out, h1.out, h2.out, h3.out, h4.out, fun _ => rfl, fun _ => rfl, h7.out, h8.out, h9.out, h10.out, h11.out, h12.out, h13.out, h14.out, h15.out, h16.out, h17.out, h18.out, h19.out⟩
    | 7, _ =>
      obtain ⟨ty, ps, af, ho⟩ := op_lit hops (i := 7) (op := Op.call { callee := Callee.value (Operand.func 11), args := #[(Operand.tmp 25)], argTypes := #[26] }) (dst := some 26) (g := some (5, false)) rfl
      obtain rfl := h5 (hdep 5 (by simp))
      have hy := fun tmps ht => yielded_lit hops (i := 5) (op := Op.move (Operand.tmp 23)) (t := 24) (g := none) rfl tmps false ht
      obtain rfl := h6 (hdep 6 (by simp))
      refine wpOp_lit ho (fun j b h => by cases h; exact hy _ rfl) ?_
      clear hops hdep ho hy
      replace h0 := hidH h0
      replace h1 := hidH h1
      replace h2 := hidH h2
      replace h3 := hidH h3
      replace h4 := hidH h4
      replace h5 := hidH h5
      replace h6 := hidH h6
      replace h8 := hidH h8
      replace h9 := hidH h9
      replace h10 := hidH h10
      replace h11 := hidH h11
      replace h12 := hidH h12
      replace h13 := hidH h13
      replace h14 := hidH h14
      replace h15 := hidH h15
      replace h16 := hidH h16
      replace h17 := hidH h17
      replace h18 := hidH h18
      replace h19 := hidH h19
      go_wp2_with fail
      refine (F2 _ hM).mono ?_
      rintro e w1 ⟨rfl, hb⟩
      go_wp2
      exact (HJ.out _ _ _).2 ⟨_, _, _, _, _, _, _, _, _, _, _, _, _, _, _, _, _, _, _, _, rfl, hM.below hb, h0.out, h1.out, h2.out, h3.out, h4.out, fun _ => rfl, fun _ => rfl, fun _ => rfl, h8.out, h9.out, h10.out, h11.out, h12.out, h13.out, h14.out, h15.out, h16.out, h17.out, h18.out, h19.out⟩
    | 8, _ =>
      obtain ⟨ty, ps, af, ho⟩ := op_lit hops (i := 8) (op := Op.fieldAddr 29 (Operand.tmp 4) 0) (dst := some 27) (g := some (5, false)) rfl
      obtain rfl := h5 (hdep 5 (by simp))
      have hy := fun tmps ht => yielded_lit hops (i := 5) (op := Op.move (Operand.tmp 23)) (t := 24) (g := none) rfl tmps false ht
      refine wpOp_lit ho (fun j b h => by cases h; exact hy _ rfl) ?_
      clear hops hdep ho hy
      replace h0 := hidH h0
      replace h1 := hidH h1
      replace h2 := hidH h2
      replace h3 := hidH h3
      replace h4 := hidH h4
      replace h5 := hidH h5
      replace h6 := hidH h6
      replace h7 := hidH h7
      replace h9 := hidH h9
      replace h10 := hidH h10
      replace h11 := hidH h11
      replace h12 := hidH h12
      replace h13 := hidH h13
      replace h14 := hidH h14
      replace h15 := hidH h15
      replace h16 := hidH h16
      replace h17 := hidH h17
      replace h18 := hidH h18
      replace h19 := hidH h19
      go_wp2
      exact (HJ.out _ _ _).2 ⟨_, _, _, _, _, _, _, _, _, _, _, _, _, _, _, _, _, _, _, _, rfl, hM, h0.out, h1.out, h2.out, h3.out, h4.out, fun _ => rfl, h6.out, h7.out, fun _ => rfl, h9.out, h10.out, h11.out, h12.out, h13.out, h14.out, h15.out, h16.out, h17.out, h18.out, h19.out⟩
    | 9, _ =>
      obtain ⟨ty, ps, af, ho⟩ := op_lit hops (i := 9) (op := Op.load 2 (Operand.tmp 27)) (dst := some 28) (g := some (5, false)) rfl
      obtain rfl := h5 (hdep 5 (by simp))
      have hy := fun tmps ht => yielded_lit hops (i := 5) (op := Op.move (Operand.tmp 23)) (t := 24) (g := none) rfl tmps false ht
      obtain rfl := h8 (hdep 8 (by simp))
      refine wpOp_lit ho (fun j b h => by cases h; exact hy _ rfl) ?_
      clear hops hdep ho hy
      replace h0 := hidH h0
      replace h1 := hidH h1
      replace h2 := hidH h2
      replace h3 := hidH h3
      replace h4 := hidH h4
      replace h5 := hidH h5
      replace h6 := hidH h6
      replace h7 := hidH h7
      replace h8 := hidH h8
      replace h10 := hidH h10
      replace h11 := hidH h11
      replace h12 := hidH h12
      replace h13 := hidH h13
      replace h14 := hidH h14
      replace h15 := hidH h15
      replace h16 := hidH h16
      replace h17 := hidH h17
      replace h18 := hidH h18
      replace h19 := hidH h19
      have q0 := hM.rs.cell 0
      simp only [List.getElem?_toArray, List.getElem?_cons_zero] at q0
      go_wp2
      exact (HJ.out _ _ _).2 ⟨_, _, _, _, _, _, _, _, _, _, _, _, _, _, _, _, _, _, _, _, rfl, hM, h0.out, h1.out, h2.out, h3.out, h4.out, fun _ => rfl, h6.out, h7.out, fun _ => rfl, fun _ => rfl, h10.out, h11.out, h12.out, h13.out, h14.out, h15.out, h16.out, h17.out, h18.out, h19.out⟩
    | 10, _ =>
      obtain ⟨ty, ps, af, ho⟩ := op_lit hops (i := 10) (op := Op.binOp BinOp.neq 2 (Operand.tmp 26) (Operand.tmp 28) 2) (dst := some 29) (g := some (5, false)) rfl
      obtain rfl := h5 (hdep 5 (by simp))
      have hy := fun tmps ht => yielded_lit hops (i := 5) (op := Op.move (Operand.tmp 23)) (t := 24) (g := none) rfl tmps false ht
      obtain rfl := h7 (hdep 7 (by simp))
      obtain rfl := h9 (hdep 9 (by simp))
      refine wpOp_lit ho (fun j b h => by cases h; exact hy _ rfl) ?_
      clear hops hdep ho hy
      replace h0 := hidH h0
      replace h1 := hidH h1
      replace h2 := hidH h2
      replace h3 := hidH h3
      replace h4 := hidH h4
      replace h5 := hidH h5
      replace h6 := hidH h6
      replace h7 := hidH h7
      replace h8 := hidH h8
      replace h9 := hidH h9
      replace h11 := hidH h11
      replace h12 := hidH h12
      replace h13 := hidH h13
      replace h14 := hidH h14
      replace h15 := hidH h15
      replace h16 := hidH h16
      replace h17 := hidH h17
      replace h18 := hidH h18
      replace h19 := hidH h19
      go_wp2
      exact (HJ.out _ _ _).2 ⟨_, _, _, _, _, _, _, _, _, _, _, _, _, _, _, _, _, _, _, _, rfl, hM, h0.out, h1.out, h2.out, h3.out, h4.out, fun _ => rfl, h6.out, fun _ => rfl, h8.out, fun _ => rfl, fun _ => rfl, h11.out, h12.out, h13.out, h14.out, h15.out, h16.out, h17.out, h18.out, h19.out⟩
    | 11, _ =>
      obtain ⟨ty, ps, af, ho⟩ := op_lit hops (i := 11) (op := Op.pick (Operand.tmp 24) (Operand.const (Value.bool true)) (Operand.tmp 29)) (dst := some 30) (g := none) rfl
      obtain rfl := h5 (hdep 5 (by simp))
      obtain rfl := h10 (hdep 10 (by simp))
      refine wpOp_lit ho (fun j b h => by cases h) ?_
      clear hops hdep ho
      replace h0 := hidH h0
      replace h1 := hidH h1
      replace h2 := hidH h2
      replace h3 := hidH h3
      replace h4 := hidH h4
      replace h5 := hidH h5
      replace h6 := hidH h6
      replace h7 := hidH h7
      replace h8 := hidH h8
      replace h9 := hidH h9
      replace h10 := hidH h10
      replace h12 := hidH h12
      replace h13 := hidH h13
      replace h14 := hidH h14
      replace h15 := hidH h15
      replace h16 := hidH h16
      replace h17 := hidH h17
      replace h18 := hidH h18
      replace h19 := hidH h19
      go_wp2
      exact (HJ.out _ _ _).2 ⟨_, _, _, _, _, _, _, _, _, _, _, _, _, _, _, _, _, _, _, _, rfl, hM, h0.out, h1.out, h2.out, h3.out, h4.out, fun _ => rfl, h6.out, h7.out, h8.out, h9.out, fun _ => rfl, fun _ => rfl, h12.out, h13.out, h14.out, h15.out, h16.out, h17.out, h18.out, h19.out⟩
    | 12, _ =>
      obtain ⟨ty, ps, af, ho⟩ := op_lit hops (i := 12) (op := Op.move (Operand.tmp 30)) (dst := some 31) (g := none) rfl
      obtain rfl := h11 (hdep 11 (by simp))
      refine wpOp_lit ho (fun j b h => by cases h) ?_
      clear hops hdep ho
      replace h0 := hidH h0
      replace h1 := hidH h1
      replace h2 := hidH h2
      replace h3 := hidH h3
      replace h4 := hidH h4
      replace h5 := hidH h5
      replace h6 := hidH h6
      replace h7 := hidH h7
      replace h8 := hidH h8
      replace h9 := hidH h9
      replace h10 := hidH h10
      replace h11 := hidH h11
      replace h13 := hidH h13
      replace h14 := hidH h14
      replace h15 := hidH h15
      replace h16 := hidH h16
      replace h17 := hidH h17
      replace h18 := hidH h18
      replace h19 := hidH h19
      go_wp2
      exact (HJ.out _ _ _).2 ⟨_, _, _, _, _, _, _, _, _, _, _, _, _, _, _, _, _, _, _, _, rfl, hM, h0.out, h1.out, h2.out, h3.out, h4.out, h5.out, h6.out, h7.out, h8.out, h9.out, h10.out, fun _ => rfl, fun _ => rfl, h13.out, h14.out, h15.out, h16.out, h17.out, h18.out, h19.out⟩
    | 13, _ =>
      obtain ⟨ty, ps, af, ho⟩ := op_lit hops (i := 13) (op := Op.fieldAddr 33 (Operand.tmp 6) 0) (dst := some 32) (g := some (12, false)) rfl
      obtain rfl := h12 (hdep 12 (by simp))
      have hy := fun tmps ht => yielded_lit hops (i := 12) (op := Op.move (Operand.tmp 30)) (t := 31) (g := none) rfl tmps false ht
      refine wpOp_lit ho (fun j b h => by cases h; exact hy _ rfl) ?_
      clear hops hdep ho hy
      replace h0 := hidH h0
      replace h1 := hidH h1
      replace h2 := hidH h2
      replace h3 := hidH h3
      replace h4 := hidH h4
      replace h5 := hidH h5
      replace h6 := hidH h6
      replace h7 := hidH h7
      replace h8 := hidH h8
      replace h9 := hidH h9
      replace h10 := hidH h10
      replace h11 := hidH h11
      replace h12 := hidH h12
      replace h14 := hidH h14
      replace h15 := hidH h15
      replace h16 := hidH h16
      replace h17 := hidH h17
      replace h18 := hidH h18
      replace h19 := hidH h19
      go_wp2
      exact (HJ.out _ _ _).2 ⟨_, _, _, _, _, _, _, _, _, _, _, _, _, _, _, _, _, _, _, _, rfl, hM, h0.out, h1.out, h2.out, h3.out, h4.out, h5.out, h6.out, h7.out, h8.out, h9.out, h10.out, h11.out, fun _ => rfl, fun _ => rfl, h14.out, h15.out, h16.out, h17.out, h18.out, h19.out⟩
    | 14, _ =>
      obtain ⟨ty, ps, af, ho⟩ := op_lit hops (i := 14) (op := Op.load 2 (Operand.tmp 32)) (dst := some 33) (g := some (12, false)) rfl
      obtain rfl := h12 (hdep 12 (by simp))
      have hy := fun tmps ht => yielded_lit hops (i := 12) (op := Op.move (Operand.tmp 30)) (t := 31) (g := none) rfl tmps false ht
      obtain rfl := h13 (hdep 13 (by simp))
      refine wpOp_lit ho (fun j b h => by cases h; exact hy _ rfl) ?_
      clear hops hdep ho hy
      replace h0 := hidH h0
      replace h1 := hidH h1
      replace h2 := hidH h2
      replace h3 := hidH h3
      replace h4 := hidH h4
      replace h5 := hidH h5
      replace h6 := hidH h6
      replace h7 := hidH h7
      replace h8 := hidH h8
      replace h9 := hidH h9
      replace h10 := hidH h10
      replace h11 := hidH h11
      replace h12 := hidH h12
      replace h13 := hidH h13
      replace h15 := hidH h15
      replace h16 := hidH h16
      replace h17 := hidH h17
      replace h18 := hidH h18
      replace h19 := hidH h19
      have q0 := hM.rp.cell 0
      simp only [List.getElem?_toArray, List.getElem?_cons_zero] at q0
      go_wp2
      exact (HJ.out _ _ _).2 ⟨_, _, _, _, _, _, _, _, _, _, _, _, _, _, _, _, _, _, _, _, rfl, hM, h0.out, h1.out, h2.out, h3.out, h4.out, h5.out, h6.out, h7.out, h8.out, h9.out, h10.out, h11.out, fun _ => rfl, fun _ => rfl, fun _ => rfl, h15.out, h16.out, h17.out, h18.out, h19.out⟩
    | 15, _ =>
      obtain ⟨ty, ps, af, ho⟩ := op_lit hops (i := 15) (op := Op.move (Operand.tmp 5)) (dst := some 34) (g := some (12, false)) rfl
      obtain rfl := h12 (hdep 12 (by simp))
      have hy := fun tmps ht => yielded_lit hops (i := 12) (op := Op.move (Operand.tmp 30)) (t := 31) (g := none) rfl tmps false ht
      refine wpOp_lit ho (fun j b h => by cases h; exact hy _ rfl) ?_
      clear hops hdep ho hy
      replace h0 := hidH h0
      replace h1 := hidH h1
      replace h2 := hidH h2
      replace h3 := hidH h3
      replace h4 := hidH h4
      replace h5 := hidH h5
      replace h6 := hidH h6
      replace h7 := hidH h7
      replace h8 := hidH h8
      replace h9 := hidH h9
      replace h10 := hidH h10
      replace h11 := hidH h11
      replace h12 := hidH h12
      replace h13 := hidH h13
      replace h14 := hidH h14
      replace h16 := hidH h16
      replace h17 := hidH h17
      replace h18 := hidH h18
      replace h19 := hidH h19
      go_wp2
      exact (HJ.out _ _ _).2 ⟨_, _, _, _, _, _, _, _, _, _, _, _, _, _, _, _, _, _, _, _, rfl, hM, h0.out, h1.out, h2.out, h3.out, h4.out, h5.out, h6.out, h7.out, h8.out, h9.out, h10.out, h11.out, fun _ => rfl, h13.out, h14.out, fun _ => rfl, h16.out, h17.out, h18.out, h19.out⟩
    | 16, _ =>
      obtain ⟨ty, ps, af, ho⟩ := op_lit hops (i := 16) (op := Op.call { callee := Callee.value (Operand.func 12), args := #[(Operand.tmp 34)], argTypes := #[22] }) (dst := some 35) (g := some (12, false)) rfl
      obtain rfl := h12 (hdep 12 (by simp))
      have hy := fun tmps ht => yielded_lit hops (i := 12) (op := Op.move (Operand.tmp 30)) (t := 31) (g := none) rfl tmps false ht
      obtain rfl := h15 (hdep 15 (by simp))
      refine wpOp_lit ho (fun j b h => by cases h; exact hy _ rfl) ?_
      clear hops hdep ho hy
      replace h0 := hidH h0
      replace h1 := hidH h1
      replace h2 := hidH h2
      replace h3 := hidH h3
      replace h4 := hidH h4
      replace h5 := hidH h5
      replace h6 := hidH h6
      replace h7 := hidH h7
      replace h8 := hidH h8
      replace h9 := hidH h9
      replace h10 := hidH h10
      replace h11 := hidH h11
      replace h12 := hidH h12
      replace h13 := hidH h13
      replace h14 := hidH h14
      replace h15 := hidH h15
      replace h17 := hidH h17
      replace h18 := hidH h18
      replace h19 := hidH h19
      go_wp2_with fail
      refine (F3 _ hM).mono ?_
      rintro e w1 ⟨T1, P1, n1, c1, rfl, hb⟩
      go_wp2
      exact (HJ.out _ _ _).2 ⟨_, _, _, _, _, _, _, _, _, _, _, _, _, _, _, _, _, _, _, _, rfl, hM.below hb, h0.out, h1.out, h2.out, h3.out, h4.out, h5.out, h6.out, h7.out, h8.out, h9.out, h10.out, h11.out, fun _ => rfl, h13.out, h14.out, fun _ => rfl, fun _ => ⟨T1, P1, n1, c1, rfl⟩, h17.out, h18.out, h19.out⟩
    | 17, _ =>
      obtain ⟨ty, ps, af, ho⟩ := op_lit hops (i := 17) (op := Op.field 33 (Operand.tmp 35) 0) (dst := some 36) (g := some (12, false)) rfl
      obtain rfl := h12 (hdep 12 (by simp))
      have hy := fun tmps ht => yielded_lit hops (i := 12) (op := Op.move (Operand.tmp 30)) (t := 31) (g := none) rfl tmps false ht
      obtain ⟨T1, P1, n1, c1, rfl⟩ := h16 (hdep 16 (by simp))
      refine wpOp_lit ho (fun j b h => by cases h; exact hy _ rfl) ?_
      clear hops hdep ho hy
      replace h0 := hidH h0
      replace h1 := hidH h1
      replace h2 := hidH h2
      replace h3 := hidH h3
      replace h4 := hidH h4
      replace h5 := hidH h5
      replace h6 := hidH h6
      replace h7 := hidH h7
      replace h8 := hidH h8
      replace h9 := hidH h9
      replace h10 := hidH h10
      replace h11 := hidH h11
      replace h12 := hidH h12
      replace h13 := hidH h13
      replace h14 := hidH h14
      replace h15 := hidH h15
      replace h16 := hidH h16
      replace h18 := hidH h18
      replace h19 := hidH h19
      have f0 := fldPR0
      go_wp2
      exact (HJ.out _ _ _).2 ⟨_, _, _, _, _, _, _, _, _, _, _, _, _, _, _, _, _, _, _, _, rfl, hM, h0.out, h1.out, h2.out, h3.out, h4.out, h5.out, h6.out, h7.out, h8.out, h9.out, h10.out, h11.out, fun _ => rfl, h13.out, h14.out, h15.out, fun _ => ⟨T1, P1, n1, c1, rfl⟩, fun _ => rfl, h18.out, h19.out⟩
    | 18, _ =>
      obtain ⟨ty, ps, af, ho⟩ := op_lit hops (i := 18) (op := Op.binOp BinOp.neq 2 (Operand.tmp 33) (Operand.tmp 36) 2) (dst := some 37) (g := some (12, false)) rfl
      obtain rfl := h12 (hdep 12 (by simp))
      have hy := fun tmps ht => yielded_lit hops (i := 12) (op := Op.move (Operand.tmp 30)) (t := 31) (g := none) rfl tmps false ht
      obtain rfl := h14 (hdep 14 (by simp))
      obtain rfl := h17 (hdep 17 (by simp))
      refine wpOp_lit ho (fun j b h => by cases h; exact hy _ rfl) ?_
      clear hops hdep ho hy
      replace h0 := hidH h0
      replace h1 := hidH h1
      replace h2 := hidH h2
      replace h3 := hidH h3
      replace h4 := hidH h4
      replace h5 := hidH h5
      replace h6 := hidH h6
      replace h7 := hidH h7
      replace h8 := hidH h8
      replace h9 := hidH h9
      replace h10 := hidH h10
      replace h11 := hidH h11
      replace h12 := hidH h12
      replace h13 := hidH h13
      replace h14 := hidH h14
      replace h15 := hidH h15
      replace h16 := hidH h16
      replace h17 := hidH h17
      replace h19 := hidH h19
      go_wp2
      exact (HJ.out _ _ _).2 ⟨_, _, _, _, _, _, _, _, _, _, _, _, _, _, _, _, _, _, _, _, rfl, hM, h0.out, h1.out, h2.out, h3.out, h4.out, h5.out, h6.out, h7.out, h8.out, h9.out, h10.out, h11.out, fun _ => rfl, h13.out, fun _ => rfl, h15.out, h16.out, fun _ => rfl, fun _ => rfl, h19.out⟩
    | 19, _ =>
      obtain ⟨ty, ps, af, ho⟩ := op_lit hops (i := 19) (op := Op.pick (Operand.tmp 31) (Operand.const (Value.bool true)) (Operand.tmp 37)) (dst := some 38) (g := none) rfl
      obtain rfl := h12 (hdep 12 (by simp))
      obtain rfl := h18 (hdep 18 (by simp))
      refine wpOp_lit ho (fun j b h => by cases h) ?_
      clear hops hdep ho
      replace h0 := hidH h0
      replace h1 := hidH h1
      replace h2 := hidH h2
      replace h3 := hidH h3
      replace h4 := hidH h4
      replace h5 := hidH h5
      replace h6 := hidH h6
      replace h7 := hidH h7
      replace h8 := hidH h8
      replace h9 := hidH h9
      replace h10 := hidH h10
      replace h11 := hidH h11
      replace h12 := hidH h12
      replace h13 := hidH h13
      replace h14 := hidH h14
      replace h15 := hidH h15
      replace h16 := hidH h16
      replace h17 := hidH h17
      replace h18 := hidH h18
      go_wp2
      exact (HJ.out _ _ _).2 ⟨_, _, _, _, _, _, _, _, _, _, _, _, _, _, _, _, _, _, _, _, rfl, hM, h0.out, h1.out, h2.out, h3.out, h4.out, h5.out, h6.out, h7.out, h8.out, h9.out, h10.out, h11.out, fun _ => rfl, h13.out, h14.out, h15.out, h16.out, h17.out, fun _ => rfl, fun _ => rfl⟩
    | n + 20, h => omega
  case fin =>
    clear hops hdeps hback
    rintro dn ac W hJ hall
    obtain ⟨t19, t20, t21, t22, t23, t24, t25, t26, t27, t28, t29, t30, t31, t32, t33, t34, t35, t36, t37, t38, rfl, hM, h0, h1, h2, h3, h4, h5, h6, h7, h8, h9, h10, h11, h12, h13, h14, h15, h16, h17, h18, h19⟩ := (HJ.out _ _ _).1 hJ
    obtain rfl := h19 (hall 19 (by omega))
    exact fin _ _ _ _ _ _ _ _ _ _ _ _ _ _ _ _ _ _ _ W hM
set_option maxRecDepth 100000 in
set_option maxHeartbeats 1000000 in
theorem regFp9 {Q : Exit → Act → World → Prop} (x0 x1 x2 x7 x8 x9 x10 x11 x12 x13 x14 x15 x16 x17 x18 x19 x20 x21 x22 x23 x24 x25 x26 x27 x28 x29 x30 x31 x32 x33 x34 x35 x36 x37 x38 : Value) (ws : World) (q3 q4 q6 : Nat) (tag : Int) (P : Option Addr) (cs : List Chk) (cp : Nat) (C : Int) (A4 : Option Addr) (M : List Int) (c4 : Nat) (X : Option Addr) (D : List Int) (cx : Nat) (T6 : Int) (P6 : Option Addr) (S6 : List Chk) (c6 : Nat) (cA : Option Addr) (l : List Int) (ty : TypeId) (pv : Value)
    (G1 : ∀ u : World, FpM ws q3 q4 q6 tag P cs cp C A4 M c4 X D 0 T6 P6 S6 c6 cA l ty pv u → Calls Tryd.prog 7 #[.agg #[.int .i64 T6, .slice P6 S6.length c6]] u fun e w' => ∃ A1 c1, e = .returned (.agg #[.int .i64 0, .slice A1 D.length c1]) ∧ Bs w' A1 D ∧ Below u.heap.size u w') {ops : Array Oper}
    (hops : (ops.map fun o => (o.op, o.dst, o.guard)) = #[(Op.fieldAddr 33 (Operand.tmp 6) 0, some 39, none), (Op.load 2 (Operand.tmp 39), some 40, none), (Op.binOp BinOp.eql 2 (Operand.tmp 40) ((Operand.const (Value.int .i64 0))) 2, some 41, none), (Op.move (Operand.tmp 41), some 42, none), (Op.fieldAddr 33 (Operand.tmp 6) 1, some 43, some (3, true)), (Op.load 26 (Operand.tmp 43), some 44, some (3, true)), (Op.call { callee := Callee.value (Operand.func 7), args := #[(Operand.tmp 44)], argTypes := #[26] }, some 45, some (3, true)), (Op.field 29 (Operand.tmp 45) 1, some 46, some (3, true)), (Op.move (Operand.tmp 5), some 47, some (3, true)), (Op.call { callee := Callee.value (Operand.func 13), args := #[(Operand.tmp 46), (Operand.tmp 47)], argTypes := #[22, 22] }, some 48, some (3, true)), (Op.unOp UnOp.not 4 (Operand.tmp 48), some 49, some (3, true)), (Op.pick (Operand.tmp 42) (Operand.tmp 49) (Operand.const (Value.bool false)), some 50, none)])
    (hdeps : ((List.range 12).all fun i => ((fun i => [[], [0], [1], [2], [3], [3, 4], [3, 5], [3, 6], [3], [3, 7, 8], [3, 9], [3, 10]].getD i []) i).all fun j => ((ops[i]?).map fun o => o.after.any fun e => Region.binds .any e && e.on == j).getD false) = true)
    (hback : ((List.range 12).all fun i => ((ops[i]?).map fun o => o.after.all fun e => decide (e.on < i)).getD false) = true)
    {a0 : Act} {w0 : World} (ha : a0 = { tmps := #[x0, x1, x2, .pointer (some ⟨q3, 0, none⟩), .pointer (some ⟨q4, 0, none⟩), .slice X D.length cx, .pointer (some ⟨q6, 0, none⟩), x7, x8, x9, x10, x11, x12, x13, x14, x15, x16, x17, x18, x19, x20, x21, x22, x23, x24, x25, x26, x27, x28, x29, x30, x31, x32, x33, x34, x35, x36, x37, x38, undef, undef, undef, undef, undef, undef, undef, undef, undef, undef, undef, undef, undef, undef, undef, undef, undef, undef, undef, undef, undef, undef, undef, undef, undef, undef, undef, undef, undef, undef, undef, undef, undef, undef, undef, undef, undef, undef, undef, undef, undef, undef, undef, undef, undef, undef, undef, undef, undef, undef, undef, undef, undef, undef, undef, undef, undef, undef, undef, undef, undef, undef, undef], defers := [] }) (hM : FpM ws q3 q4 q6 tag P cs cp C A4 M c4 X D 0 T6 P6 S6 c6 cA l ty pv w0)
    (fin : ∀ t39 t40 t41 t42 t43 t44 t45 t46 t47 t48 t49 (W : World), (FpM ws q3 q4 q6 tag P cs cp C A4 M c4 X D 0 T6 P6 S6 c6 cA l ty pv W) → Q .normal { tmps := #[x0, x1, x2, .pointer (some ⟨q3, 0, none⟩), .pointer (some ⟨q4, 0, none⟩), .slice X D.length cx, .pointer (some ⟨q6, 0, none⟩), x7, x8, x9, x10, x11, x12, x13, x14, x15, x16, x17, x18, x19, x20, x21, x22, x23, x24, x25, x26, x27, x28, x29, x30, x31, x32, x33, x34, x35, x36, x37, x38, t39, t40, t41, t42, t43, t44, t45, t46, t47, t48, t49, .bool false, undef, undef, undef, undef, undef, undef, undef, undef, undef, undef, undef, undef, undef, undef, undef, undef, undef, undef, undef, undef, undef, undef, undef, undef, undef, undef, undef, undef, undef, undef, undef, undef, undef, undef, undef, undef, undef, undef, undef, undef, undef, undef, undef, undef, undef, undef, undef, undef, undef, undef, undef], defers := [] } W) :
    wpAny Tryd.prog .any ops Q ops.size (Array.replicate ops.size false) a0 w0 := by
  have hn : ops.size = 12 := by have := congrArg Array.size hops; simpa using this
  obtain ⟨J, HJ⟩ : ∃ J : (Nat → Bool) → Act → World → Prop, ∀ dn ac W, J dn ac W ↔ (fun dn ac W => ∃ t39 t40 t41 t42 t43 t44 t45 t46 t47 t48 t49 t50, ac = { tmps := #[x0, x1, x2, .pointer (some ⟨q3, 0, none⟩), .pointer (some ⟨q4, 0, none⟩), .slice X D.length cx, .pointer (some ⟨q6, 0, none⟩), x7, x8, x9, x10, x11, x12, x13, x14, x15, x16, x17, x18, x19, x20, x21, x22, x23, x24, x25, x26, x27, x28, x29, x30, x31, x32, x33, x34, x35, x36, x37, x38, t39, t40, t41, t42, t43, t44, t45, t46, t47, t48, t49, t50, undef, undef, undef, undef, undef, undef, undef, undef, undef, undef, undef, undef, undef, undef, undef, undef, undef, undef, undef, undef, undef, undef, undef, undef, undef, undef, undef, undef, undef, undef, undef, undef, undef, undef, undef, undef, undef, undef, undef, undef, undef, undef, undef, undef, undef, undef, undef, undef, undef, undef, undef], defers := [] } ∧ (FpM ws q3 q4 q6 tag P cs cp C A4 M c4 X D 0 T6 P6 S6 c6 cA l ty pv W) ∧ (dn 0 = true → t39 = .pointer (some ⟨q6, 0, none⟩)) ∧ (dn 1 = true → t40 = .int .i64 0) ∧ (dn 2 = true → t41 = .bool true) ∧ (dn 3 = true → t42 = .bool true) ∧ (dn 4 = true → t43 = .pointer (some ⟨q6, 1, none⟩)) ∧ (dn 5 = true → t44 = .agg #[.int .i64 T6, .slice P6 S6.length c6]) ∧ (dn 6 = true → ∃ (A1 : Option Addr) (c1 : Nat), t45 = .agg #[.int .i64 0, .slice A1 D.length c1] ∧ Bs W A1 D) ∧ (dn 7 = true → ∃ (A1 : Option Addr) (c1 : Nat), t46 = .slice A1 D.length c1 ∧ Bs W A1 D) ∧ (dn 8 = true → t47 = .slice X D.length cx) ∧ (dn 9 = true → t48 = .bool true) ∧ (dn 10 = true → t49 = .bool false) ∧ (dn 11 = true → t50 = .bool false)) dn ac W := ⟨_, fun _ _ _ => Iff.rfl⟩
  replace HJ := hidH HJ
  refine region_inv 12 (fun i => [[], [0], [1], [2], [3], [3, 4], [3, 5], [3, 6], [3], [3, 7, 8], [3, 9], [3, 10]].getD i []) J hn hdeps hback ?start ?step ?fin
  case start => exact (HJ.out _ _ _).2 ⟨undef, undef, undef, undef, undef, undef, undef, undef, undef, undef, undef, undef, ha, hM, fun h => by simp at h, fun h => by simp at h, fun h => by simp at h, fun h => by simp at h, fun h => by simp at h, fun h => by simp at h, fun h => by simp at h, fun h => by simp at h, fun h => by simp at h, fun h => by simp at h, fun h => by simp at h, fun h => by simp at h⟩
  all_goals clear ha hM
  case step =>
    clear fin hdeps hback
    intro i hi dn ac W hJ hdn hdep
    obtain ⟨t39, t40, t41, t42, t43, t44, t45, t46, t47, t48, t49, t50, rfl, hM, h0, h1, h2, h3, h4, h5, h6, h7, h8, h9, h10, h11⟩ := (HJ.out _ _ _).1 hJ
    clear hJ
    match i, hi with
    | 0, _ =>
      obtain ⟨ty, ps, af, ho⟩ := op_lit hops (i := 0) (op := Op.fieldAddr 33 (Operand.tmp 6) 0) (dst := some 39) (g := none) rfl
      refine wpOp_lit ho (fun j b h => by cases h) ?_
      clear hops hdep ho
      replace h1 := hidH h1
      replace h2 := hidH h2
      replace h3 := hidH h3
      replace h4 := hidH h4
      replace h5 := hidH h5
      replace h6 := hidH h6
      replace h7 := hidH h7
      replace h8 := hidH h8
      replace h9 := hidH h9
      replace h10 := hidH h10
      replace h11 := hidH h11
      go_wp2
      exact (HJ.out _ _ _).2 ⟨_, _, _, _, _, _, _, _, _, _, _, _, rfl, hM, fun _ => rfl, h1.out, h2.out, h3.out, h4.out, h5.out, h6.out, h7.out, h8.out, h9.out, h10.out, h11.out⟩
    | 1, _ =>
      obtain ⟨ty, ps, af, ho⟩ := op_lit hops (i := 1) (op := Op.load 2 (Operand.tmp 39)) (dst := some 40) (g := none) rfl
      obtain rfl := h0 (hdep 0 (by simp))
      refine wpOp_lit ho (fun j b h => by cases h) ?_
      clear hops hdep ho
      replace h0 := hidH h0
      replace h2 := hidH h2
      replace h3 := hidH h3
      replace h4 := hidH h4
      replace h5 := hidH h5
      replace h6 := hidH h6
      replace h7 := hidH h7
      replace h8 := hidH h8
      replace h9 := hidH h9
      replace h10 := hidH h10
      replace h11 := hidH h11
      have q0 := hM.rp.cell 0
      simp only [List.getElem?_toArray, List.getElem?_cons_zero] at q0
      go_wp2
      exact (HJ.out _ _ _).2 ⟨_, _, _, _, _, _, _, _, _, _, _, _, rfl, hM, fun _ => rfl, fun _ => rfl, h2.out, h3.out, h4.out, h5.out, h6.out, h7.out, h8.out, h9.out, h10.out, h11.out⟩
    | 2, _ =>
      obtain ⟨ty, ps, af, ho⟩ := op_lit hops (i := 2) (op := Op.binOp BinOp.eql 2 (Operand.tmp 40) ((Operand.const (Value.int .i64 0))) 2) (dst := some 41) (g := none) rfl
      obtain rfl := h1 (hdep 1 (by simp))
      refine wpOp_lit ho (fun j b h => by cases h) ?_
      clear hops hdep ho
      replace h0 := hidH h0
      replace h1 := hidH h1
      replace h3 := hidH h3
      replace h4 := hidH h4
      replace h5 := hidH h5
      replace h6 := hidH h6
      replace h7 := hidH h7
      replace h8 := hidH h8
      replace h9 := hidH h9
      replace h10 := hidH h10
      replace h11 := hidH h11
      go_wp2
      exact (HJ.out _ _ _).2 ⟨_, _, _, _, _, _, _, _, _, _, _, _, rfl, hM, h0.out, fun _ => rfl, fun _ => rfl, h3.out, h4.out, h5.out, h6.out, h7.out, h8.out, h9.out, h10.out, h11.out⟩
    | 3, _ =>
      obtain ⟨ty, ps, af, ho⟩ := op_lit hops (i := 3) (op := Op.move (Operand.tmp 41)) (dst := some 42) (g := none) rfl
      obtain rfl := h2 (hdep 2 (by simp))
      refine wpOp_lit ho (fun j b h => by cases h) ?_
      clear hops hdep ho
      replace h0 := hidH h0
      replace h1 := hidH h1
      replace h2 := hidH h2
      replace h4 := hidH h4
      replace h5 := hidH h5
      replace h6 := hidH h6
      replace h7 := hidH h7
      replace h8 := hidH h8
      replace h9 := hidH h9
      replace h10 := hidH h10
      replace h11 := hidH h11
      go_wp2
      exact (HJ.out _ _ _).2 ⟨_, _, _, _, _, _, _, _, _, _, _, _, rfl, hM, h0.out, h1.out, fun _ => rfl, fun _ => rfl, h4.out, h5.out, h6.out, h7.out, h8.out, h9.out, h10.out, h11.out⟩
    | 4, _ =>
      obtain ⟨ty, ps, af, ho⟩ := op_lit hops (i := 4) (op := Op.fieldAddr 33 (Operand.tmp 6) 1) (dst := some 43) (g := some (3, true)) rfl
      obtain rfl := h3 (hdep 3 (by simp))
      have hy := fun tmps ht => yielded_lit hops (i := 3) (op := Op.move (Operand.tmp 41)) (t := 42) (g := none) rfl tmps true ht
      refine wpOp_lit ho (fun j b h => by cases h; exact hy _ rfl) ?_
      clear hops hdep ho hy
      replace h0 := hidH h0
      replace h1 := hidH h1
      replace h2 := hidH h2
      replace h3 := hidH h3
      replace h5 := hidH h5
      replace h6 := hidH h6
      replace h7 := hidH h7
      replace h8 := hidH h8
      replace h9 := hidH h9
      replace h10 := hidH h10
      replace h11 := hidH h11
      go_wp2
      exact (HJ.out _ _ _).2 ⟨_, _, _, _, _, _, _, _, _, _, _, _, rfl, hM, h0.out, h1.out, h2.out, fun _ => rfl, fun _ => rfl, h5.out, h6.out, h7.out, h8.out, h9.out, h10.out, h11.out⟩
    | 5, _ =>
      obtain ⟨ty, ps, af, ho⟩ := op_lit hops (i := 5) (op := Op.load 26 (Operand.tmp 43)) (dst := some 44) (g := some (3, true)) rfl
      obtain rfl := h3 (hdep 3 (by simp))
      have hy := fun tmps ht => yielded_lit hops (i := 3) (op := Op.move (Operand.tmp 41)) (t := 42) (g := none) rfl tmps true ht
      obtain rfl := h4 (hdep 4 (by simp))
      refine wpOp_lit ho (fun j b h => by cases h; exact hy _ rfl) ?_
      clear hops hdep ho hy
      replace h0 := hidH h0
      replace h1 := hidH h1
      replace h2 := hidH h2
      replace h3 := hidH h3
      replace h4 := hidH h4
      replace h6 := hidH h6
      replace h7 := hidH h7
      replace h8 := hidH h8
      replace h9 := hidH h9
      replace h10 := hidH h10
      replace h11 := hidH h11
      have q1 := hM.rp.cell 1
      have q2 := hM.rp.cell 2
      simp only [List.getElem?_toArray, List.getElem?_cons_succ, List.getElem?_cons_zero] at q1 q2
      go_wp2
      exact (HJ.out _ _ _).2 ⟨_, _, _, _, _, _, _, _, _, _, _, _, rfl, hM, h0.out, h1.out, h2.out, fun _ => rfl, fun _ => rfl, fun _ => rfl, h6.out, h7.out, h8.out, h9.out, h10.out, h11.out⟩
    | 6, _ =>
      obtain ⟨ty, ps, af, ho⟩ := op_lit hops (i := 6) (op := Op.call { callee := Callee.value (Operand.func 7), args := #[(Operand.tmp 44)], argTypes := #[26] }) (dst := some 45) (g := some (3, true)) rfl
      obtain rfl := h3 (hdep 3 (by simp))
      have hy := fun tmps ht => yielded_lit hops (i := 3) (op := Op.move (Operand.tmp 41)) (t := 42) (g := none) rfl tmps true ht
      obtain rfl := h5 (hdep 5 (by simp))
      refine wpOp_lit ho (fun j b h => by cases h; exact hy _ rfl) ?_
      clear hops hdep ho hy
      replace h0 := hidH h0
      replace h1 := hidH h1
      replace h2 := hidH h2
      replace h3 := hidH h3
      replace h4 := hidH h4
      replace h5 := hidH h5
      replace h7 := hidH h7
      replace h8 := hidH h8
      replace h9 := hidH h9
      replace h10 := hidH h10
      replace h11 := hidH h11
      go_wp2_with fail
      refine (G1 _ hM).mono ?_
      rintro e w1 ⟨A1, c1, rfl, hT, hb⟩
      go_wp2
      exact (HJ.out _ _ _).2 ⟨_, _, _, _, _, _, _, _, _, _, _, _, rfl, hM.below hb, h0.out, h1.out, h2.out, fun _ => rfl, h4.out, fun _ => rfl, fun _ => ⟨A1, c1, rfl, hT⟩, fun h => by obtain ⟨A1, c1, q1, q2⟩ := h7.out h; exact ⟨A1, c1, q1, bs_below q2 hb⟩, h8.out, h9.out, h10.out, h11.out⟩
    | 7, _ =>
      obtain ⟨ty, ps, af, ho⟩ := op_lit hops (i := 7) (op := Op.field 29 (Operand.tmp 45) 1) (dst := some 46) (g := some (3, true)) rfl
      obtain rfl := h3 (hdep 3 (by simp))
      have hy := fun tmps ht => yielded_lit hops (i := 3) (op := Op.move (Operand.tmp 41)) (t := 42) (g := none) rfl tmps true ht
      obtain ⟨A1, c1, rfl, hT⟩ := h6 (hdep 6 (by simp))
      refine wpOp_lit ho (fun j b h => by cases h; exact hy _ rfl) ?_
      clear hops hdep ho hy
      replace h0 := hidH h0
      replace h1 := hidH h1
      replace h2 := hidH h2
      replace h3 := hidH h3
      replace h4 := hidH h4
      replace h5 := hidH h5
      replace h6 := hidH h6
      replace h8 := hidH h8
      replace h9 := hidH h9
      replace h10 := hidH h10
      replace h11 := hidH h11
      have f1 := fldBR1
      go_wp2
      exact (HJ.out _ _ _).2 ⟨_, _, _, _, _, _, _, _, _, _, _, _, rfl, hM, h0.out, h1.out, h2.out, fun _ => rfl, h4.out, h5.out, fun _ => ⟨A1, c1, rfl, hT⟩, fun _ => ⟨A1, c1, rfl, hT⟩, h8.out, h9.out, h10.out, h11.out⟩
    | 8, _ =>
      obtain ⟨ty, ps, af, ho⟩ := op_lit hops (i := 8) (op := Op.move (Operand.tmp 5)) (dst := some 47) (g := some (3, true)) rfl
      obtain rfl := h3 (hdep 3 (by simp))
      have hy := fun tmps ht => yielded_lit hops (i := 3) (op := Op.move (Operand.tmp 41)) (t := 42) (g := none) rfl tmps true ht
      refine wpOp_lit ho (fun j b h => by cases h; exact hy _ rfl) ?_
      clear hops hdep ho hy
      replace h0 := hidH h0
      replace h1 := hidH h1
      replace h2 := hidH h2
      replace h3 := hidH h3
      replace h4 := hidH h4
      replace h5 := hidH h5
      replace h6 := hidH h6
      replace h7 := hidH h7
      replace h9 := hidH h9
      replace h10 := hidH h10
      replace h11 := hidH h11
      go_wp2
      exact (HJ.out _ _ _).2 ⟨_, _, _, _, _, _, _, _, _, _, _, _, rfl, hM, h0.out, h1.out, h2.out, fun _ => rfl, h4.out, h5.out, h6.out, h7.out, fun _ => rfl, h9.out, h10.out, h11.out⟩
    | 9, _ =>
      obtain ⟨ty, ps, af, ho⟩ := op_lit hops (i := 9) (op := Op.call { callee := Callee.value (Operand.func 13), args := #[(Operand.tmp 46), (Operand.tmp 47)], argTypes := #[22, 22] }) (dst := some 48) (g := some (3, true)) rfl
      obtain rfl := h3 (hdep 3 (by simp))
      have hy := fun tmps ht => yielded_lit hops (i := 3) (op := Op.move (Operand.tmp 41)) (t := 42) (g := none) rfl tmps true ht
      obtain ⟨A1, c1, rfl, hT⟩ := h7 (hdep 7 (by simp))
      obtain rfl := h8 (hdep 8 (by simp))
      refine wpOp_lit ho (fun j b h => by cases h; exact hy _ rfl) ?_
      clear hops hdep ho hy
      replace h0 := hidH h0
      replace h1 := hidH h1
      replace h2 := hidH h2
      replace h3 := hidH h3
      replace h4 := hidH h4
      replace h5 := hidH h5
      replace h6 := hidH h6
      replace h7 := hidH h7
      replace h8 := hidH h8
      replace h10 := hidH h10
      replace h11 := hidH h11
      have hbd := hM.bd
      go_wp2_with fail
      refine (lwB_sameB2 _ _ D _ _ _ hT hbd).mono ?_
      rintro e w1 ⟨rfl, hb⟩
      go_wp2
      exact (HJ.out _ _ _).2 ⟨_, _, _, _, _, _, _, _, _, _, _, _, rfl, hM.below hb, h0.out, h1.out, h2.out, fun _ => rfl, h4.out, h5.out, fun h => by obtain ⟨A1, c1, q1, q2⟩ := h6.out h; exact ⟨A1, c1, q1, bs_below q2 hb⟩, fun _ => ⟨A1, c1, rfl, bs_below hT hb⟩, fun _ => rfl, fun _ => rfl, h10.out, h11.out⟩
    | 10, _ =>
      obtain ⟨ty, ps, af, ho⟩ := op_lit hops (i := 10) (op := Op.unOp UnOp.not 4 (Operand.tmp 48)) (dst := some 49) (g := some (3, true)) rfl
      obtain rfl := h3 (hdep 3 (by simp))
      have hy := fun tmps ht => yielded_lit hops (i := 3) (op := Op.move (Operand.tmp 41)) (t := 42) (g := none) rfl tmps true ht
      obtain rfl := h9 (hdep 9 (by simp))
      refine wpOp_lit ho (fun j b h => by cases h; exact hy _ rfl) ?_
      clear hops hdep ho hy
      replace h0 := hidH h0
      replace h1 := hidH h1
      replace h2 := hidH h2
      replace h3 := hidH h3
      replace h4 := hidH h4
      replace h5 := hidH h5
      replace h6 := hidH h6
      replace h7 := hidH h7
      replace h8 := hidH h8
      replace h9 := hidH h9
      replace h11 := hidH h11
      go_wp2
      exact (HJ.out _ _ _).2 ⟨_, _, _, _, _, _, _, _, _, _, _, _, rfl, hM, h0.out, h1.out, h2.out, fun _ => rfl, h4.out, h5.out, h6.out, h7.out, h8.out, fun _ => rfl, fun _ => rfl, h11.out⟩
    | 11, _ =>
      obtain ⟨ty, ps, af, ho⟩ := op_lit hops (i := 11) (op := Op.pick (Operand.tmp 42) (Operand.tmp 49) (Operand.const (Value.bool false))) (dst := some 50) (g := none) rfl
      obtain rfl := h3 (hdep 3 (by simp))
      obtain rfl := h10 (hdep 10 (by simp))
      refine wpOp_lit ho (fun j b h => by cases h) ?_
      clear hops hdep ho
      replace h0 := hidH h0
      replace h1 := hidH h1
      replace h2 := hidH h2
      replace h3 := hidH h3
      replace h4 := hidH h4
      replace h5 := hidH h5
      replace h6 := hidH h6
      replace h7 := hidH h7
      replace h8 := hidH h8
      replace h9 := hidH h9
      replace h10 := hidH h10
      go_wp2
      exact (HJ.out _ _ _).2 ⟨_, _, _, _, _, _, _, _, _, _, _, _, rfl, hM, h0.out, h1.out, h2.out, fun _ => rfl, h4.out, h5.out, h6.out, h7.out, h8.out, h9.out, fun _ => rfl, fun _ => rfl⟩
    | n + 12, h => omega
  case fin =>
    clear hops hdeps hback
    rintro dn ac W hJ hall
    obtain ⟨t39, t40, t41, t42, t43, t44, t45, t46, t47, t48, t49, t50, rfl, hM, h0, h1, h2, h3, h4, h5, h6, h7, h8, h9, h10, h11⟩ := (HJ.out _ _ _).1 hJ
    obtain rfl := h11 (hall 11 (by omega))
    exact fin _ _ _ _ _ _ _ _ _ _ _ W hM
set_option maxRecDepth 100000 in
set_option maxHeartbeats 1000000 in
theorem regFp9n {Q : Exit → Act → World → Prop} (x0 x1 x2 x7 x8 x9 x10 x11 x12 x13 x14 x15 x16 x17 x18 x19 x20 x21 x22 x23 x24 x25 x26 x27 x28 x29 x30 x31 x32 x33 x34 x35 x36 x37 x38 : Value) (ws : World) (q3 q4 q6 : Nat) (tag : Int) (P : Option Addr) (cs : List Chk) (cp : Nat) (C : Int) (A4 : Option Addr) (M : List Int) (c4 : Nat) (X : Option Addr) (D : List Int) (cx : Nat) (C6 T6 : Int) (P6 : Option Addr) (S6 : List Chk) (c6 : Nat) (cA : Option Addr) (l : List Int) (ty : TypeId) (pv : Value) (hc6 : (C6 == 0) = false) {ops : Array Oper}
    (hops : (ops.map fun o => (o.op, o.dst, o.guard)) = #[(Op.fieldAddr 33 (Operand.tmp 6) 0, some 39, none), (Op.load 2 (Operand.tmp 39), some 40, none), (Op.binOp BinOp.eql 2 (Operand.tmp 40) ((Operand.const (Value.int .i64 0))) 2, some 41, none), (Op.move (Operand.tmp 41), some 42, none), (Op.fieldAddr 33 (Operand.tmp 6) 1, some 43, some (3, true)), (Op.load 26 (Operand.tmp 43), some 44, some (3, true)), (Op.call { callee := Callee.value (Operand.func 7), args := #[(Operand.tmp 44)], argTypes := #[26] }, some 45, some (3, true)), (Op.field 29 (Operand.tmp 45) 1, some 46, some (3, true)), (Op.move (Operand.tmp 5), some 47, some (3, true)), (Op.call { callee := Callee.value (Operand.func 13), args := #[(Operand.tmp 46), (Operand.tmp 47)], argTypes := #[22, 22] }, some 48, some (3, true)), (Op.unOp UnOp.not 4 (Operand.tmp 48), some 49, some (3, true)), (Op.pick (Operand.tmp 42) (Operand.tmp 49) (Operand.const (Value.bool false)), some 50, none)])
    (hdeps : ((List.range 12).all fun i => ((fun i => [[], [0], [1], [2], [3], [3, 4], [3, 5], [3, 6], [3], [3, 7, 8], [3, 9], [3, 10]].getD i []) i).all fun j => ((ops[i]?).map fun o => o.after.any fun e => Region.binds .any e && e.on == j).getD false) = true)
    (hback : ((List.range 12).all fun i => ((ops[i]?).map fun o => o.after.all fun e => decide (e.on < i)).getD false) = true)
    {a0 : Act} {w0 : World} (ha : a0 = { tmps := #[x0, x1, x2, .pointer (some ⟨q3, 0, none⟩), .pointer (some ⟨q4, 0, none⟩), .slice X D.length cx, .pointer (some ⟨q6, 0, none⟩), x7, x8, x9, x10, x11, x12, x13, x14, x15, x16, x17, x18, x19, x20, x21, x22, x23, x24, x25, x26, x27, x28, x29, x30, x31, x32, x33, x34, x35, x36, x37, x38, undef, undef, undef, undef, undef, undef, undef, undef, undef, undef, undef, undef, undef, undef, undef, undef, undef, undef, undef, undef, undef, undef, undef, undef, undef, undef, undef, undef, undef, undef, undef, undef, undef, undef, undef, undef, undef, undef, undef, undef, undef, undef, undef, undef, undef, undef, undef, undef, undef, undef, undef, undef, undef, undef, undef, undef, undef, undef, undef, undef, undef, undef, undef], defers := [] }) (hM : FpM ws q3 q4 q6 tag P cs cp C A4 M c4 X D C6 T6 P6 S6 c6 cA l ty pv w0)
    (fin : ∀ t39 t40 t41 t42 t43 t44 t45 t46 t47 t48 t49 (W : World), (FpM ws q3 q4 q6 tag P cs cp C A4 M c4 X D C6 T6 P6 S6 c6 cA l ty pv W) → Q .normal { tmps := #[x0, x1, x2, .pointer (some ⟨q3, 0, none⟩), .pointer (some ⟨q4, 0, none⟩), .slice X D.length cx, .pointer (some ⟨q6, 0, none⟩), x7, x8, x9, x10, x11, x12, x13, x14, x15, x16, x17, x18, x19, x20, x21, x22, x23, x24, x25, x26, x27, x28, x29, x30, x31, x32, x33, x34, x35, x36, x37, x38, t39, t40, t41, t42, t43, t44, t45, t46, t47, t48, t49, .bool false, undef, undef, undef, undef, undef, undef, undef, undef, undef, undef, undef, undef, undef, undef, undef, undef, undef, undef, undef, undef, undef, undef, undef, undef, undef, undef, undef, undef, undef, undef, undef, undef, undef, undef, undef, undef, undef, undef, undef, undef, undef, undef, undef, undef, undef, undef, undef, undef, undef, undef, undef], defers := [] } W) :
    wpAny Tryd.prog .any ops Q ops.size (Array.replicate ops.size false) a0 w0 := by
  have hn : ops.size = 12 := by have := congrArg Array.size hops; simpa using this
  obtain ⟨J, HJ⟩ : ∃ J : (Nat → Bool) → Act → World → Prop, ∀ dn ac W, J dn ac W ↔ (fun dn ac W => ∃ t39 t40 t41 t42 t43 t44 t45 t46 t47 t48 t49 t50, ac = { tmps := #[x0, x1, x2, .pointer (some ⟨q3, 0, none⟩), .pointer (some ⟨q4, 0, none⟩), .slice X D.length cx, .pointer (some ⟨q6, 0, none⟩), x7, x8, x9, x10, x11, x12, x13, x14, x15, x16, x17, x18, x19, x20, x21, x22, x23, x24, x25, x26, x27, x28, x29, x30, x31, x32, x33, x34, x35, x36, x37, x38, t39, t40, t41, t42, t43, t44, t45, t46, t47, t48, t49, t50, undef, undef, undef, undef, undef, undef, undef, undef, undef, undef, undef, undef, undef, undef, undef, undef, undef, undef, undef, undef, undef, undef, undef, undef, undef, undef, undef, undef, undef, undef, undef, undef, undef, undef, undef, undef, undef, undef, undef, undef, undef, undef, undef, undef, undef, undef, undef, undef, undef, undef, undef], defers := [] } ∧ (FpM ws q3 q4 q6 tag P cs cp C A4 M c4 X D C6 T6 P6 S6 c6 cA l ty pv W) ∧ (dn 0 = true → t39 = .pointer (some ⟨q6, 0, none⟩)) ∧ (dn 1 = true → t40 = .int .i64 C6) ∧ (dn 2 = true → t41 = .bool false) ∧ (dn 3 = true → t42 = .bool false) ∧ (dn 4 = true → t43 = undef) ∧ (dn 5 = true → t44 = undef) ∧ (dn 6 = true → t45 = undef) ∧ (dn 7 = true → t46 = undef) ∧ (dn 8 = true → t47 = undef) ∧ (dn 9 = true → t48 = undef) ∧ (dn 10 = true → t49 = undef) ∧ (dn 11 = true → t50 = .bool false)) dn ac W := ⟨_, fun _ _ _ => Iff.rfl⟩
  replace HJ := hidH HJ
  refine region_inv 12 (fun i => [[], [0], [1], [2], [3], [3, 4], [3, 5], [3, 6], [3], [3, 7, 8], [3, 9], [3, 10]].getD i []) J hn hdeps hback ?start ?step ?fin
  case start => exact (HJ.out _ _ _).2 ⟨undef, undef, undef, undef, undef, undef, undef, undef, undef, undef, undef, undef, ha, hM, fun h => by simp at h, fun h => by simp at h, fun h => by simp at h, fun h => by simp at h, fun h => by simp at h, fun h => by simp at h, fun h => by simp at h, fun h => by simp at h, fun h => by simp at h, fun h => by simp at h, fun h => by simp at h, fun h => by simp at h⟩
  all_goals clear ha hM
  case step =>
    clear fin hdeps hback
    intro i hi dn ac W hJ hdn hdep
    obtain ⟨t39, t40, t41, t42, t43, t44, t45, t46, t47, t48, t49, t50, rfl, hM, h0, h1, h2, h3, h4, h5, h6, h7, h8, h9, h10, h11⟩ := (HJ.out _ _ _).1 hJ
    clear hJ
    match i, hi with
    | 0, _ =>
      obtain ⟨ty, ps, af, ho⟩ := op_lit hops (i := 0) (op := Op.fieldAddr 33 (Operand.tmp 6) 0) (dst := some 39) (g := none) rfl
      refine wpOp_lit ho (fun j b h => by cases h) ?_
      clear hops hdep ho
      replace h1 := hidH h1
      replace h2 := hidH h2
      replace h3 := hidH h3
      replace h4 := hidH h4
      replace h5 := hidH h5
      replace h6 := hidH h6
      replace h7 := hidH h7
      replace h8 := hidH h8
      replace h9 := hidH h9
      replace h10 := hidH h10
      replace h11 := hidH h11
      go_wp2
      exact (HJ.out _ _ _).2 ⟨_, _, _, _, _, _, _, _, _, _, _, _, rfl, hM, fun _ => rfl, h1.out, h2.out, h3.out, h4.out, h5.out, h6.out, h7.out, h8.out, h9.out, h10.out, h11.out⟩
    | 1, _ =>
      obtain ⟨ty, ps, af, ho⟩ := op_lit hops (i := 1) (op := Op.load 2 (Operand.tmp 39)) (dst := some 40) (g := none) rfl
      obtain rfl := h0 (hdep 0 (by simp))
      refine wpOp_lit ho (fun j b h => by cases h) ?_
      clear hops hdep ho
      replace h0 := hidH h0
      replace h2 := hidH h2
      replace h3 := hidH h3
      replace h4 := hidH h4
      replace h5 := hidH h5
      replace h6 := hidH h6
      replace h7 := hidH h7
      replace h8 := hidH h8
      replace h9 := hidH h9
      replace h10 := hidH h10
      replace h11 := hidH h11
      have q0 := hM.rp.cell 0
      simp only [List.getElem?_toArray, List.getElem?_cons_zero] at q0
      go_wp2
      exact (HJ.out _ _ _).2 ⟨_, _, _, _, _, _, _, _, _, _, _, _, rfl, hM, fun _ => rfl, fun _ => rfl, h2.out, h3.out, h4.out, h5.out, h6.out, h7.out, h8.out, h9.out, h10.out, h11.out⟩
    | 2, _ =>
      obtain ⟨ty, ps, af, ho⟩ := op_lit hops (i := 2) (op := Op.binOp BinOp.eql 2 (Operand.tmp 40) ((Operand.const (Value.int .i64 0))) 2) (dst := some 41) (g := none) rfl
      obtain rfl := h1 (hdep 1 (by simp))
      refine wpOp_lit ho (fun j b h => by cases h) ?_
      clear hops hdep ho
      replace h0 := hidH h0
      replace h1 := hidH h1
      replace h3 := hidH h3
      replace h4 := hidH h4
      replace h5 := hidH h5
      replace h6 := hidH h6
      replace h7 := hidH h7
      replace h8 := hidH h8
      replace h9 := hidH h9
      replace h10 := hidH h10
      replace h11 := hidH h11
      go_wp2
      exact (HJ.out _ _ _).2 ⟨_, _, _, _, _, _, _, _, _, _, _, _, rfl, hM, h0.out, fun _ => rfl, fun _ => rfl, h3.out, h4.out, h5.out, h6.out, h7.out, h8.out, h9.out, h10.out, h11.out⟩
    | 3, _ =>
      obtain ⟨ty, ps, af, ho⟩ := op_lit hops (i := 3) (op := Op.move (Operand.tmp 41)) (dst := some 42) (g := none) rfl
      obtain rfl := h2 (hdep 2 (by simp))
      refine wpOp_lit ho (fun j b h => by cases h) ?_
      clear hops hdep ho
      replace h0 := hidH h0
      replace h1 := hidH h1
      replace h2 := hidH h2
      replace h4 := hidH h4
      replace h5 := hidH h5
      replace h6 := hidH h6
      replace h7 := hidH h7
      replace h8 := hidH h8
      replace h9 := hidH h9
      replace h10 := hidH h10
      replace h11 := hidH h11
      go_wp2
      exact (HJ.out _ _ _).2 ⟨_, _, _, _, _, _, _, _, _, _, _, _, rfl, hM, h0.out, h1.out, fun _ => rfl, fun _ => rfl, h4.out, h5.out, h6.out, h7.out, h8.out, h9.out, h10.out, h11.out⟩
    | 4, _ =>
      obtain ⟨ty, ps, af, ho⟩ := op_lit hops (i := 4) (op := Op.fieldAddr 33 (Operand.tmp 6) 1) (dst := some 43) (g := some (3, true)) rfl
      obtain rfl := h3 (hdep 3 (by simp))
      have hy := fun tmps ht => yielded_lit hops (i := 3) (op := Op.move (Operand.tmp 41)) (t := 42) (g := none) rfl tmps false ht
      refine wpOp_off ho (hy _ rfl) (by decide) ?_
      clear hops hdep
      replace h0 := hidH h0
      replace h1 := hidH h1
      replace h2 := hidH h2
      replace h3 := hidH h3
      replace h5 := hidH h5
      replace h6 := hidH h6
      replace h7 := hidH h7
      replace h8 := hidH h8
      replace h9 := hidH h9
      replace h10 := hidH h10
      replace h11 := hidH h11
      exact (HJ.out _ _ _).2 ⟨_, _, _, _, _, _, _, _, _, _, _, _, rfl, hM, h0.out, h1.out, h2.out, fun _ => rfl, fun _ => rfl, h5.out, h6.out, h7.out, h8.out, h9.out, h10.out, h11.out⟩
    | 5, _ =>
      obtain ⟨ty, ps, af, ho⟩ := op_lit hops (i := 5) (op := Op.load 26 (Operand.tmp 43)) (dst := some 44) (g := some (3, true)) rfl
      obtain rfl := h3 (hdep 3 (by simp))
      have hy := fun tmps ht => yielded_lit hops (i := 3) (op := Op.move (Operand.tmp 41)) (t := 42) (g := none) rfl tmps false ht
      refine wpOp_off ho (hy _ rfl) (by decide) ?_
      clear hops hdep
      replace h0 := hidH h0
      replace h1 := hidH h1
      replace h2 := hidH h2
      replace h3 := hidH h3
      replace h4 := hidH h4
      replace h6 := hidH h6
      replace h7 := hidH h7
      replace h8 := hidH h8
      replace h9 := hidH h9
      replace h10 := hidH h10
      replace h11 := hidH h11
      exact (HJ.out _ _ _).2 ⟨_, _, _, _, _, _, _, _, _, _, _, _, rfl, hM, h0.out, h1.out, h2.out, fun _ => rfl, h4.out, fun _ => rfl, h6.out, h7.out, h8.out, h9.out, h10.out, h11.out⟩
    | 6, _ =>
      obtain ⟨ty, ps, af, ho⟩ := op_lit hops (i := 6) (op := Op.call { callee := Callee.value (Operand.func 7), args := #[(Operand.tmp 44)], argTypes := #[26] }) (dst := some 45) (g := some (3, true)) rfl
      obtain rfl := h3 (hdep 3 (by simp))
      have hy := fun tmps ht => yielded_lit hops (i := 3) (op := Op.move (Operand.tmp 41)) (t := 42) (g := none) rfl tmps false ht
      refine wpOp_off ho (hy _ rfl) (by decide) ?_
      clear hops hdep
      replace h0 := hidH h0
      replace h1 := hidH h1
      replace h2 := hidH h2
      replace h3 := hidH h3
      replace h4 := hidH h4
      replace h5 := hidH h5
      replace h7 := hidH h7
      replace h8 := hidH h8
      replace h9 := hidH h9
      replace h10 := hidH h10
      replace h11 := hidH h11
      exact (HJ.out _ _ _).2 ⟨_, _, _, _, _, _, _, _, _, _, _, _, rfl, hM, h0.out, h1.out, h2.out, fun _ => rfl, h4.out, h5.out, fun _ => rfl, h7.out, h8.out, h9.out, h10.out, h11.out⟩
    | 7, _ =>
      obtain ⟨ty, ps, af, ho⟩ := op_lit hops (i := 7) (op := Op.field 29 (Operand.tmp 45) 1) (dst := some 46) (g := some (3, true)) rfl
      obtain rfl := h3 (hdep 3 (by simp))
      have hy := fun tmps ht => yielded_lit hops (i := 3) (op := Op.move (Operand.tmp 41)) (t := 42) (g := none) rfl tmps false ht
      refine wpOp_off ho (hy _ rfl) (by decide) ?_
      clear hops hdep
      replace h0 := hidH h0
      replace h1 := hidH h1
      replace h2 := hidH h2
      replace h3 := hidH h3
      replace h4 := hidH h4
      replace h5 := hidH h5
      replace h6 := hidH h6
      replace h8 := hidH h8
      replace h9 := hidH h9
      replace h10 := hidH h10
      replace h11 := hidH h11
      exact (HJ.out _ _ _).2 ⟨_, _, _, _, _, _, _, _, _, _, _, _, rfl, hM, h0.out, h1.out, h2.out, fun _ => rfl, h4.out, h5.out, h6.out, fun _ => rfl, h8.out, h9.out, h10.out, h11.out⟩
    | 8, _ =>
      obtain ⟨ty, ps, af, ho⟩ := op_lit hops (i := 8) (op := Op.move (Operand.tmp 5)) (dst := some 47) (g := some (3, true)) rfl
      obtain rfl := h3 (hdep 3 (by simp))
      have hy := fun tmps ht => yielded_lit hops (i := 3) (op := Op.move (Operand.tmp 41)) (t := 42) (g := none) rfl tmps false ht
      refine wpOp_off ho (hy _ rfl) (by decide) ?_
      clear hops hdep
      replace h0 := hidH h0
      replace h1 := hidH h1
      replace h2 := hidH h2
      replace h3 := hidH h3
      replace h4 := hidH h4
      replace h5 := hidH h5
      replace h6 := hidH h6
      replace h7 := hidH h7
      replace h9 := hidH h9
      replace h10 := hidH h10
      replace h11 := hidH h11
      exact (HJ.out _ _ _).2 ⟨_, _, _, _, _, _, _, _, _, _, _, _, rfl, hM, h0.out, h1.out, h2.out, fun _ => rfl, h4.out, h5.out, h6.out, h7.out, fun _ => rfl, h9.out, h10.out, h11.out⟩
    | 9, _ =>
      obtain ⟨ty, ps, af, ho⟩ := op_lit hops (i := 9) (op := Op.call { callee := Callee.value (Operand.func 13), args := #[(Operand.tmp 46), (Operand.tmp 47)], argTypes := #[22, 22] }) (dst := some 48) (g := some (3, true)) rfl
      obtain rfl := h3 (hdep 3 (by simp))
      have hy := fun tmps ht => yielded_lit hops (i := 3) (op := Op.move (Operand.tmp 41)) (t := 42) (g := none) rfl tmps false ht
      refine wpOp_off ho (hy _ rfl) (by decide) ?_
      clear hops hdep
      replace h0 := hidH h0
      replace h1 := hidH h1
      replace h2 := hidH h2
      replace h3 := hidH h3
      replace h4 := hidH h4
      replace h5 := hidH h5
      replace h6 := hidH h6
      replace h7 := hidH h7
      replace h8 := hidH h8
      replace h10 := hidH h10
      replace h11 := hidH h11
      exact (HJ.out _ _ _).2 ⟨_, _, _, _, _, _, _, _, _, _, _, _, rfl, hM, h0.out, h1.out, h2.out, fun _ => rfl, h4.out, h5.out, h6.out, h7.out, h8.out, fun _ => rfl, h10.out, h11.out⟩
    | 10, _ =>
      obtain ⟨ty, ps, af, ho⟩ := op_lit hops (i := 10) (op := Op.unOp UnOp.not 4 (Operand.tmp 48)) (dst := some 49) (g := some (3, true)) rfl
      obtain rfl := h3 (hdep 3 (by simp))
      have hy := fun tmps ht => yielded_lit hops (i := 3) (op := Op.move (Operand.tmp 41)) (t := 42) (g := none) rfl tmps false ht
      refine wpOp_off ho (hy _ rfl) (by decide) ?_
      clear hops hdep
      replace h0 := hidH h0
      replace h1 := hidH h1
      replace h2 := hidH h2
      replace h3 := hidH h3
      replace h4 := hidH h4
      replace h5 := hidH h5
      replace h6 := hidH h6
      replace h7 := hidH h7
      replace h8 := hidH h8
      replace h9 := hidH h9
      replace h11 := hidH h11
      exact (HJ.out _ _ _).2 ⟨_, _, _, _, _, _, _, _, _, _, _, _, rfl, hM, h0.out, h1.out, h2.out, fun _ => rfl, h4.out, h5.out, h6.out, h7.out, h8.out, h9.out, fun _ => rfl, h11.out⟩
    | 11, _ =>
      obtain ⟨ty, ps, af, ho⟩ := op_lit hops (i := 11) (op := Op.pick (Operand.tmp 42) (Operand.tmp 49) (Operand.const (Value.bool false))) (dst := some 50) (g := none) rfl
      obtain rfl := h3 (hdep 3 (by simp))
      obtain rfl := h10 (hdep 10 (by simp))
      refine wpOp_lit ho (fun j b h => by cases h) ?_
      clear hops hdep ho
      replace h0 := hidH h0
      replace h1 := hidH h1
      replace h2 := hidH h2
      replace h3 := hidH h3
      replace h4 := hidH h4
      replace h5 := hidH h5
      replace h6 := hidH h6
      replace h7 := hidH h7
      replace h8 := hidH h8
      replace h9 := hidH h9
      replace h10 := hidH h10
      go_wp2
      exact (HJ.out _ _ _).2 ⟨_, _, _, _, _, _, _, _, _, _, _, _, rfl, hM, h0.out, h1.out, h2.out, fun _ => rfl, h4.out, h5.out, h6.out, h7.out, h8.out, h9.out, fun _ => rfl, fun _ => rfl⟩
    | n + 12, h => omega
  case fin =>
    clear hops hdeps hback
    rintro dn ac W hJ hall
    obtain ⟨t39, t40, t41, t42, t43, t44, t45, t46, t47, t48, t49, t50, rfl, hM, h0, h1, h2, h3, h4, h5, h6, h7, h8, h9, h10, h11⟩ := (HJ.out _ _ _).1 hJ
    obtain rfl := h11 (hall 11 (by omega))
    exact fin _ _ _ _ _ _ _ _ _ _ _ W hM
end Go.Proofs.YtepcikghhnfacaaDoor
