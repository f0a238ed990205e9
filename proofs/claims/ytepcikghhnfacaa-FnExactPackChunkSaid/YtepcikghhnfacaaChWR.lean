/- The region of FnExactChunkFault that compares the argument. -/
import Derived.Test.YtepcikghhnfacaaChW
import Derived.Test.YtepcikghhnfacaaRegInv
namespace Go.Proofs.Ytepcikghhnfacaa
open Go.RowKit Go.Deep

set_option maxRecDepth 100000 in
set_option maxHeartbeats 1000000 in
theorem regEqCh {Q : Exit → Act → World → Prop} (x0 x2 x3 x4 x6 x7 x8 x9 x10 x11 x12 x13 x14 x15 x16 x17 x18 x19 x20 x21 : Value) (ws : World) (g x : Nat) (k f : Int) (A : Option Addr) (l : List Int) (c : Nat) (X : Option Addr)
    (TO : ∀ u : World, Bs u A l → Calls Try.prog 20 #[.agg #[.int .i64 k, .int .i64 f, .slice A l.length c]] u fun e w' => ∃ A', e = .returned (.agg #[.int .i64 k, .int .i64 f, .slice A' l.length l.length]) ∧ Ob u.heap.size w'.heap.size w' A' l ∧ Below u.heap.size u w')
    (EQ : ∀ (u : World) (A1 B1 : Option Addr), Bs u A1 l → Bs u B1 l → Calls Try.prog 21 #[.agg #[.int .i64 k, .int .i64 f, .slice A1 l.length l.length], .agg #[.int .i64 k, .int .i64 f, .slice B1 l.length l.length]] u fun e w' => e = .returned (.bool true) ∧ Below u.heap.size u w') {ops : Array Oper}
    (hops : (ops.map fun o => (o.op, o.dst, o.guard)) = #[(Op.load 25 (Operand.tmp 5), some 22, none), (Op.load 36 (Operand.tmp 1), some 23, none), (Op.call { callee := Callee.value (Operand.func 20), args := #[(Operand.tmp 23)], argTypes := #[36] }, some 24, none), (Op.call { callee := Callee.value (Operand.func 21), args := #[(Operand.tmp 22), (Operand.tmp 24)], argTypes := #[25, 25] }, some 25, none), (Op.unOp UnOp.not 4 (Operand.tmp 25), some 26, none)])
    (hdeps : ((List.range 5).all fun i => ((fun i => [[], [], [1], [0, 2], [3]].getD i []) i).all fun j => ((ops[i]?).map fun o => o.after.any fun e => Region.binds .any e && e.on == j).getD false) = true)
    (hback : ((List.range 5).all fun i => ((ops[i]?).map fun o => o.after.all fun e => decide (e.on < i)).getD false) = true)
    {a0 : Act} {w0 : World} (ha : a0 = { tmps := #[x0, .pointer (some ⟨g, 0, none⟩), x2, x3, x4, .pointer (some ⟨x, 0, none⟩), x6, x7, x8, x9, x10, x11, x12, x13, x14, x15, x16, x17, x18, x19, x20, x21, undef, undef, undef, undef, undef], defers := [] }) (hM : EC ws g x k f A l c X w0)
    (fin : ∀ t22 t23 t24 t25 (W : World), (EC ws g x k f A l c X W) → Q .normal { tmps := #[x0, .pointer (some ⟨g, 0, none⟩), x2, x3, x4, .pointer (some ⟨x, 0, none⟩), x6, x7, x8, x9, x10, x11, x12, x13, x14, x15, x16, x17, x18, x19, x20, x21, t22, t23, t24, t25, .bool false], defers := [] } W) :
    wpAny Try.prog .any ops Q ops.size (Array.replicate ops.size false) a0 w0 := by
  have hn : ops.size = 5 := by have := congrArg Array.size hops; simpa using this
  obtain ⟨J, HJ⟩ : ∃ J : (Nat → Bool) → Act → World → Prop, ∀ dn ac W, J dn ac W ↔ (fun dn ac W => ∃ t22 t23 t24 t25 t26, ac = { tmps := #[x0, .pointer (some ⟨g, 0, none⟩), x2, x3, x4, .pointer (some ⟨x, 0, none⟩), x6, x7, x8, x9, x10, x11, x12, x13, x14, x15, x16, x17, x18, x19, x20, x21, t22, t23, t24, t25, t26], defers := [] } ∧ (EC ws g x k f A l c X W) ∧ (dn 0 = true → t22 = .agg #[.int .i64 k, .int .i64 f, .slice X l.length l.length]) ∧ (dn 1 = true → t23 = .agg #[.int .i64 k, .int .i64 f, .slice A l.length c]) ∧ (dn 2 = true → ∃ E : Option Addr, t24 = .agg #[.int .i64 k, .int .i64 f, .slice E l.length l.length] ∧ Bs W E l) ∧ (dn 3 = true → t25 = .bool true) ∧ (dn 4 = true → t26 = .bool false)) dn ac W := ⟨_, fun _ _ _ => Iff.rfl⟩
  replace HJ := hidH HJ
  refine region_inv 5 (fun i => [[], [], [1], [0, 2], [3]].getD i []) J hn hdeps hback ?start ?step ?fin
  case start => exact (HJ.out _ _ _).2 ⟨undef, undef, undef, undef, undef, ha, hM, fun h => by simp at h, fun h => by simp at h, fun h => by simp at h, fun h => by simp at h, fun h => by simp at h⟩
  all_goals clear ha hM
  case step =>
    clear fin hdeps hback
    intro i hi dn ac W hJ hdn hdep
    obtain ⟨t22, t23, t24, t25, t26, rfl, hM, h0, h1, h2, h3, h4⟩ := (HJ.out _ _ _).1 hJ
    clear hJ
    match i, hi with
    | 0, _ =>
      obtain ⟨ty, ps, af, ho⟩ := op_lit hops (i := 0) (op := Op.load 25 (Operand.tmp 5)) (dst := some 22) (g := none) rfl
      refine wpOp_lit ho (fun j b h => by cases h) ?_
      clear hops hdep ho
      replace h1 := hidH h1
      replace h2 := hidH h2
      replace h3 := hidH h3
      replace h4 := hidH h4
      have q0 := hM.cpy.cell 0
      have q1 := hM.cpy.cell 1
      have q2 := hM.cpy.cell 2
      simp only [List.getElem?_toArray, List.getElem?_cons_succ, List.getElem?_cons_zero] at q0 q1 q2
      go_wp2
      exact (HJ.out _ _ _).2 ⟨_, _, _, _, _, rfl, hM, fun _ => rfl, h1.out, h2.out, h3.out, h4.out⟩
    | 1, _ =>
      obtain ⟨ty, ps, af, ho⟩ := op_lit hops (i := 1) (op := Op.load 36 (Operand.tmp 1)) (dst := some 23) (g := none) rfl
      refine wpOp_lit ho (fun j b h => by cases h) ?_
      clear hops hdep ho
      replace h0 := hidH h0
      replace h2 := hidH h2
      replace h3 := hidH h3
      replace h4 := hidH h4
      have q0 := hM.arg.cell 0
      have q1 := hM.arg.cell 1
      have q2 := hM.arg.cell 2
      simp only [List.getElem?_toArray, List.getElem?_cons_succ, List.getElem?_cons_zero] at q0 q1 q2
      go_wp2
      exact (HJ.out _ _ _).2 ⟨_, _, _, _, _, rfl, hM, h0.out, fun _ => rfl, h2.out, h3.out, h4.out⟩
    | 2, _ =>
      obtain ⟨ty, ps, af, ho⟩ := op_lit hops (i := 2) (op := Op.call { callee := Callee.value (Operand.func 20), args := #[(Operand.tmp 23)], argTypes := #[36] }) (dst := some 24) (g := none) rfl
      obtain rfl := h1 (hdep 1 (by simp))
      refine wpOp_lit ho (fun j b h => by cases h) ?_
      clear hops hdep ho
      replace h0 := hidH h0
      replace h1 := hidH h1
      replace h3 := hidH h3
      replace h4 := hidH h4
      go_wp2_with fail
      refine (TO _ hM.ba).mono ?_
      rintro e w1 ⟨E, rfl, hO, hb⟩
      have hE := hO.bs
      go_wp2
      exact (HJ.out _ _ _).2 ⟨_, _, _, _, _, rfl, hM.below hb, h0.out, fun _ => rfl, fun _ => ⟨E, rfl, hE⟩, h3.out, h4.out⟩
    | 3, _ =>
      obtain ⟨ty, ps, af, ho⟩ := op_lit hops (i := 3) (op := Op.call { callee := Callee.value (Operand.func 21), args := #[(Operand.tmp 22), (Operand.tmp 24)], argTypes := #[25, 25] }) (dst := some 25) (g := none) rfl
      obtain rfl := h0 (hdep 0 (by simp))
      obtain ⟨E, rfl, hE⟩ := h2 (hdep 2 (by simp))
      refine wpOp_lit ho (fun j b h => by cases h) ?_
      clear hops hdep ho
      replace h0 := hidH h0
      replace h1 := hidH h1
      replace h2 := hidH h2
      replace h4 := hidH h4
      have hbx := hM.bx
      go_wp2_with fail
      refine (EQ _ X E hbx hE).mono ?_
      rintro e w1 ⟨rfl, hb⟩
      go_wp2
      exact (HJ.out _ _ _).2 ⟨_, _, _, _, _, rfl, hM.below hb, fun _ => rfl, h1.out, fun _ => ⟨E, rfl, bs_below hE hb⟩, fun _ => rfl, h4.out⟩
    | 4, _ =>
      obtain ⟨ty, ps, af, ho⟩ := op_lit hops (i := 4) (op := Op.unOp UnOp.not 4 (Operand.tmp 25)) (dst := some 26) (g := none) rfl
      obtain rfl := h3 (hdep 3 (by simp))
      refine wpOp_lit ho (fun j b h => by cases h) ?_
      clear hops hdep ho
      replace h0 := hidH h0
      replace h1 := hidH h1
      replace h2 := hidH h2
      replace h3 := hidH h3
      go_wp2
      exact (HJ.out _ _ _).2 ⟨_, _, _, _, _, rfl, hM, h0.out, h1.out, h2.out, fun _ => rfl, fun _ => rfl⟩
    | n + 5, h => omega
  case fin =>
    clear hops hdeps hback
    rintro dn ac W hJ hall
    obtain ⟨t22, t23, t24, t25, t26, rfl, hM, h0, h1, h2, h3, h4⟩ := (HJ.out _ _ _).1 hJ
    obtain rfl := h4 (hall 4 (by omega))
    exact fin _ _ _ _ W hM
set_option maxRecDepth 100000 in
set_option maxHeartbeats 1000000 in
theorem regEqChP {Q : Exit → Act → World → Prop} (x0 x2 x3 x4 x6 x7 x8 x9 x10 x11 x12 x13 x14 x15 x16 x17 x18 x19 x20 x21 x22 x23 x24 x25 x26 : Value) (ws : World) (g x : Nat) (k f : Int) (A : Option Addr) (l : List Int) (c : Nat) (X : Option Addr)
    (TO : ∀ u : World, Bs u A l → Calls Try.prog 20 #[.agg #[.int .i64 k, .int .i64 f, .slice A l.length c]] u fun e w' => ∃ A', e = .returned (.agg #[.int .i64 k, .int .i64 f, .slice A' l.length l.length]) ∧ Ob u.heap.size w'.heap.size w' A' l ∧ Below u.heap.size u w')
    (EQ : ∀ (u : World) (A1 B1 : Option Addr), Bs u A1 l → Bs u B1 l → Calls Try.prog 21 #[.agg #[.int .i64 k, .int .i64 f, .slice A1 l.length l.length], .agg #[.int .i64 k, .int .i64 f, .slice B1 l.length l.length]] u fun e w' => e = .returned (.bool true) ∧ Below u.heap.size u w') {ops : Array Oper}
    (hops : (ops.map fun o => (o.op, o.dst, o.guard)) = #[(Op.load 25 (Operand.tmp 5), some 27, none), (Op.load 36 (Operand.tmp 1), some 28, none), (Op.call { callee := Callee.value (Operand.func 20), args := #[(Operand.tmp 28)], argTypes := #[36] }, some 29, none), (Op.call { callee := Callee.value (Operand.func 21), args := #[(Operand.tmp 27), (Operand.tmp 29)], argTypes := #[25, 25] }, some 30, none), (Op.unOp UnOp.not 4 (Operand.tmp 30), some 31, none)])
    (hdeps : ((List.range 5).all fun i => ((fun i => [[], [], [1], [0, 2], [3]].getD i []) i).all fun j => ((ops[i]?).map fun o => o.after.any fun e => Region.binds .any e && e.on == j).getD false) = true)
    (hback : ((List.range 5).all fun i => ((ops[i]?).map fun o => o.after.all fun e => decide (e.on < i)).getD false) = true)
    {a0 : Act} {w0 : World} (ha : a0 = { tmps := #[x0, .pointer (some ⟨g, 0, none⟩), x2, x3, x4, .pointer (some ⟨x, 0, none⟩), x6, x7, x8, x9, x10, x11, x12, x13, x14, x15, x16, x17, x18, x19, x20, x21, x22, x23, x24, x25, x26, undef, undef, undef, undef, undef, undef, undef, undef, undef, undef, undef, undef, undef, undef, undef, undef, undef, undef, undef, undef, undef, undef, undef, undef, undef, undef, undef, undef, undef, undef, undef, undef, undef, undef, undef, undef, undef, undef, undef, undef, undef, undef], defers := [] }) (hM : EC ws g x k f A l c X w0) (hW0 : Below w0.heap.size w0 w0)
    (fin : ∀ t27 t28 t29 t30 (W : World), (EC ws g x k f A l c X W) → (Below w0.heap.size w0 W) → Q .normal { tmps := #[x0, .pointer (some ⟨g, 0, none⟩), x2, x3, x4, .pointer (some ⟨x, 0, none⟩), x6, x7, x8, x9, x10, x11, x12, x13, x14, x15, x16, x17, x18, x19, x20, x21, x22, x23, x24, x25, x26, t27, t28, t29, t30, .bool false, undef, undef, undef, undef, undef, undef, undef, undef, undef, undef, undef, undef, undef, undef, undef, undef, undef, undef, undef, undef, undef, undef, undef, undef, undef, undef, undef, undef, undef, undef, undef, undef, undef, undef, undef, undef, undef], defers := [] } W) :
    wpAny Try.prog .any ops Q ops.size (Array.replicate ops.size false) a0 w0 := by
  have hn : ops.size = 5 := by have := congrArg Array.size hops; simpa using this
  obtain ⟨J, HJ⟩ : ∃ J : (Nat → Bool) → Act → World → Prop, ∀ dn ac W, J dn ac W ↔ (fun dn ac W => ∃ t27 t28 t29 t30 t31, ac = { tmps := #[x0, .pointer (some ⟨g, 0, none⟩), x2, x3, x4, .pointer (some ⟨x, 0, none⟩), x6, x7, x8, x9, x10, x11, x12, x13, x14, x15, x16, x17, x18, x19, x20, x21, x22, x23, x24, x25, x26, t27, t28, t29, t30, t31, undef, undef, undef, undef, undef, undef, undef, undef, undef, undef, undef, undef, undef, undef, undef, undef, undef, undef, undef, undef, undef, undef, undef, undef, undef, undef, undef, undef, undef, undef, undef, undef, undef, undef, undef, undef, undef], defers := [] } ∧ (EC ws g x k f A l c X W) ∧ (Below w0.heap.size w0 W) ∧ (dn 0 = true → t27 = .agg #[.int .i64 k, .int .i64 f, .slice X l.length l.length]) ∧ (dn 1 = true → t28 = .agg #[.int .i64 k, .int .i64 f, .slice A l.length c]) ∧ (dn 2 = true → ∃ E : Option Addr, t29 = .agg #[.int .i64 k, .int .i64 f, .slice E l.length l.length] ∧ Bs W E l) ∧ (dn 3 = true → t30 = .bool true) ∧ (dn 4 = true → t31 = .bool false)) dn ac W := ⟨_, fun _ _ _ => Iff.rfl⟩
  replace HJ := hidH HJ
  refine region_inv 5 (fun i => [[], [], [1], [0, 2], [3]].getD i []) J hn hdeps hback ?start ?step ?fin
  case start => exact (HJ.out _ _ _).2 ⟨undef, undef, undef, undef, undef, ha, hM, hW0, fun h => by simp at h, fun h => by simp at h, fun h => by simp at h, fun h => by simp at h, fun h => by simp at h⟩
  all_goals clear ha hM hW0
  case step =>
    clear fin hdeps hback
    intro i hi dn ac W hJ hdn hdep
    obtain ⟨t27, t28, t29, t30, t31, rfl, hM, hW0, h0, h1, h2, h3, h4⟩ := (HJ.out _ _ _).1 hJ
    clear hJ
    match i, hi with
    | 0, _ =>
      obtain ⟨ty, ps, af, ho⟩ := op_lit hops (i := 0) (op := Op.load 25 (Operand.tmp 5)) (dst := some 27) (g := none) rfl
      refine wpOp_lit ho (fun j b h => by cases h) ?_
      clear hops hdep ho
      replace h1 := hidH h1
      replace h2 := hidH h2
      replace h3 := hidH h3
      replace h4 := hidH h4
      have q0 := hM.cpy.cell 0
      have q1 := hM.cpy.cell 1
      have q2 := hM.cpy.cell 2
      simp only [List.getElem?_toArray, List.getElem?_cons_succ, List.getElem?_cons_zero] at q0 q1 q2
      go_wp2
      exact (HJ.out _ _ _).2 ⟨_, _, _, _, _, rfl, hM, hW0, fun _ => rfl, h1.out, h2.out, h3.out, h4.out⟩
    | 1, _ =>
      obtain ⟨ty, ps, af, ho⟩ := op_lit hops (i := 1) (op := Op.load 36 (Operand.tmp 1)) (dst := some 28) (g := none) rfl
      refine wpOp_lit ho (fun j b h => by cases h) ?_
      clear hops hdep ho
      replace h0 := hidH h0
      replace h2 := hidH h2
      replace h3 := hidH h3
      replace h4 := hidH h4
      have q0 := hM.arg.cell 0
      have q1 := hM.arg.cell 1
      have q2 := hM.arg.cell 2
      simp only [List.getElem?_toArray, List.getElem?_cons_succ, List.getElem?_cons_zero] at q0 q1 q2
      go_wp2
      exact (HJ.out _ _ _).2 ⟨_, _, _, _, _, rfl, hM, hW0, h0.out, fun _ => rfl, h2.out, h3.out, h4.out⟩
    | 2, _ =>
      obtain ⟨ty, ps, af, ho⟩ := op_lit hops (i := 2) (op := Op.call { callee := Callee.value (Operand.func 20), args := #[(Operand.tmp 28)], argTypes := #[36] }) (dst := some 29) (g := none) rfl
      obtain rfl := h1 (hdep 1 (by simp))
      refine wpOp_lit ho (fun j b h => by cases h) ?_
      clear hops hdep ho
      replace h0 := hidH h0
      replace h1 := hidH h1
      replace h3 := hidH h3
      replace h4 := hidH h4
      go_wp2_with fail
      refine (TO _ hM.ba).mono ?_
      rintro e w1 ⟨E, rfl, hO, hb⟩
      have hE := hO.bs
      go_wp2
      exact (HJ.out _ _ _).2 ⟨_, _, _, _, _, rfl, hM.below hb, btr hW0 hb, h0.out, fun _ => rfl, fun _ => ⟨E, rfl, hE⟩, h3.out, h4.out⟩
    | 3, _ =>
      obtain ⟨ty, ps, af, ho⟩ := op_lit hops (i := 3) (op := Op.call { callee := Callee.value (Operand.func 21), args := #[(Operand.tmp 27), (Operand.tmp 29)], argTypes := #[25, 25] }) (dst := some 30) (g := none) rfl
      obtain rfl := h0 (hdep 0 (by simp))
      obtain ⟨E, rfl, hE⟩ := h2 (hdep 2 (by simp))
      refine wpOp_lit ho (fun j b h => by cases h) ?_
      clear hops hdep ho
      replace h0 := hidH h0
      replace h1 := hidH h1
      replace h2 := hidH h2
      replace h4 := hidH h4
      have hbx := hM.bx
      go_wp2_with fail
      refine (EQ _ X E hbx hE).mono ?_
      rintro e w1 ⟨rfl, hb⟩
      go_wp2
      exact (HJ.out _ _ _).2 ⟨_, _, _, _, _, rfl, hM.below hb, btr hW0 hb, fun _ => rfl, h1.out, fun _ => ⟨E, rfl, bs_below hE hb⟩, fun _ => rfl, h4.out⟩
    | 4, _ =>
      obtain ⟨ty, ps, af, ho⟩ := op_lit hops (i := 4) (op := Op.unOp UnOp.not 4 (Operand.tmp 30)) (dst := some 31) (g := none) rfl
      obtain rfl := h3 (hdep 3 (by simp))
      refine wpOp_lit ho (fun j b h => by cases h) ?_
      clear hops hdep ho
      replace h0 := hidH h0
      replace h1 := hidH h1
      replace h2 := hidH h2
      replace h3 := hidH h3
      go_wp2
      exact (HJ.out _ _ _).2 ⟨_, _, _, _, _, rfl, hM, hW0, h0.out, h1.out, h2.out, fun _ => rfl, fun _ => rfl⟩
    | n + 5, h => omega
  case fin =>
    clear hops hdeps hback
    rintro dn ac W hJ hall
    obtain ⟨t27, t28, t29, t30, t31, rfl, hM, hW0, h0, h1, h2, h3, h4⟩ := (HJ.out _ _ _).1 hJ
    obtain rfl := h4 (hall 4 (by omega))
    exact fin _ _ _ _ W hM hW0
end Go.Proofs.Ytepcikghhnfacaa
