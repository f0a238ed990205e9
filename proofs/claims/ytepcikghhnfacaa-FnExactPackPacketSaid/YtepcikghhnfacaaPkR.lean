/- The regions of the exact laws over packets that compare an argument with its copy. -/
import Derived.Test.YtepcikghhnfacaaPkT
import Derived.Test.YtepcikghhnfacaaRegInv
namespace Go.Proofs.Ytepcikghhnfacaa
open Go.RowKit Go.Deep

/-- What an exact law over a packet keeps while it compares: the argument in its block, the copy in its, both lists. -/
structure EP (w0 : World) (g x : Nat) (t : Int) (P : Option Addr) (cs : List Chk) (c : Nat) (X : Option Addr) (W : World) : Prop where
  arg : Blk W g 46 #[.int .i64 t, .slice P cs.length c]
  cpy : Blk W x 51 #[.int .i64 t, .slice X cs.length cs.length]
  ba : Cs W P cs
  bx : Cs W X cs
  old : Below w0.heap.size w0 W
theorem EP.below {w0 : World} {g x : Nat} {t : Int} {P : Option Addr} {cs : List Chk} {c : Nat} {X : Option Addr} {u v : World} (h : EP w0 g x t P cs c X u) (hb : Below u.heap.size u v) : EP w0 g x t P cs c X v :=
  ⟨h.arg.below hb, h.cpy.below hb, h.ba.below hb, h.bx.below hb, btr h.old hb⟩
set_option maxRecDepth 100000 in
set_option maxHeartbeats 1000000 in
theorem regEqPF {Q : Exit → Act → World → Prop} (x0 x2 x3 x4 x6 x7 x8 x9 x10 x11 x12 x13 x14 x15 x16 x17 x18 x19 x20 x21 : Value) (ws : World) (g x : Nat) (t : Int) (P : Option Addr) (cs : List Chk) (c : Nat) (X : Option Addr)
    (TO : ∀ u : World, Cs u P cs → Calls Try.prog 29 #[.agg #[.int .i64 t, .slice P cs.length c]] u fun e w' => ∃ A', e = .returned (.agg #[.int .i64 t, .slice A' cs.length cs.length]) ∧ OCs u.heap.size w'.heap.size w' A' cs ∧ Below u.heap.size u w')
    (EQ : ∀ (u : World) (A1 B1 : Option Addr), Cs u A1 cs → Cs u B1 cs → Calls Try.prog 31 #[.agg #[.int .i64 t, .slice A1 cs.length cs.length], .agg #[.int .i64 t, .slice B1 cs.length cs.length]] u fun e w' => e = .returned (.bool true) ∧ Below u.heap.size u w') {ops : Array Oper}
    (hops : (ops.map fun o => (o.op, o.dst, o.guard)) = #[(Op.load 51 (Operand.tmp 5), some 22, none), (Op.load 46 (Operand.tmp 1), some 23, none), (Op.call { callee := Callee.value (Operand.func 29), args := #[(Operand.tmp 23)], argTypes := #[46] }, some 24, none), (Op.call { callee := Callee.value (Operand.func 31), args := #[(Operand.tmp 22), (Operand.tmp 24)], argTypes := #[51, 51] }, some 25, none), (Op.unOp UnOp.not 4 (Operand.tmp 25), some 26, none)])
    (hdeps : ((List.range 5).all fun i => ((fun i => [[], [], [1], [0, 2], [3]].getD i []) i).all fun j => ((ops[i]?).map fun o => o.after.any fun e => Region.binds .any e && e.on == j).getD false) = true)
    (hback : ((List.range 5).all fun i => ((ops[i]?).map fun o => o.after.all fun e => decide (e.on < i)).getD false) = true)
    {a0 : Act} {w0 : World} (ha : a0 = { tmps := #[x0, .pointer (some ⟨g, 0, none⟩), x2, x3, x4, .pointer (some ⟨x, 0, none⟩), x6, x7, x8, x9, x10, x11, x12, x13, x14, x15, x16, x17, x18, x19, x20, x21, undef, undef, undef, undef, undef], defers := [] }) (hM : EP ws g x t P cs c X w0) (hW0 : Below w0.heap.size w0 w0)
    (fin : ∀ t22 t23 t24 t25 (W : World), (EP ws g x t P cs c X W) → (Below w0.heap.size w0 W) → Q .normal { tmps := #[x0, .pointer (some ⟨g, 0, none⟩), x2, x3, x4, .pointer (some ⟨x, 0, none⟩), x6, x7, x8, x9, x10, x11, x12, x13, x14, x15, x16, x17, x18, x19, x20, x21, t22, t23, t24, t25, .bool false], defers := [] } W) :
    wpAny Try.prog .any ops Q ops.size (Array.replicate ops.size false) a0 w0 := by
  have hn : ops.size = 5 := by have := congrArg Array.size hops; simpa using this
  obtain ⟨J, HJ⟩ : ∃ J : (Nat → Bool) → Act → World → Prop, ∀ dn ac W, J dn ac W ↔ (fun dn ac W => ∃ t22 t23 t24 t25 t26, ac = { tmps := #[x0, .pointer (some ⟨g, 0, none⟩), x2, x3, x4, .pointer (some ⟨x, 0, none⟩), x6, x7, x8, x9, x10, x11, x12, x13, x14, x15, x16, x17, x18, x19, x20, x21, t22, t23, t24, t25, t26], defers := [] } ∧ (EP ws g x t P cs c X W) ∧ (Below w0.heap.size w0 W) ∧ (dn 0 = true → t22 = .agg #[.int .i64 t, .slice X cs.length cs.length]) ∧ (dn 1 = true → t23 = .agg #[.int .i64 t, .slice P cs.length c]) ∧ (dn 2 = true → ∃ E : Option Addr, t24 = .agg #[.int .i64 t, .slice E cs.length cs.length] ∧ Cs W E cs) ∧ (dn 3 = true → t25 = .bool true) ∧ (dn 4 = true → t26 = .bool false)) dn ac W := ⟨_, fun _ _ _ => Iff.rfl⟩
  replace HJ := hidH HJ
  refine region_inv 5 (fun i => [[], [], [1], [0, 2], [3]].getD i []) J hn hdeps hback ?start ?step ?fin
  case start => exact (HJ.out _ _ _).2 ⟨undef, undef, undef, undef, undef, ha, hM, hW0, fun h => by simp at h, fun h => by simp at h, fun h => by simp at h, fun h => by simp at h, fun h => by simp at h⟩
  all_goals clear ha hM hW0
  case step =>
    clear fin hdeps hback
    intro i hi dn ac W hJ hdn hdep
    obtain ⟨t22, t23, t24, t25, t26, rfl, hM, hW0, h0, h1, h2, h3, h4⟩ := (HJ.out _ _ _).1 hJ
    clear hJ
    match i, hi with
    | 0, _ =>
      obtain ⟨ty, ps, af, ho⟩ := op_lit hops (i := 0) (op := Op.load 51 (Operand.tmp 5)) (dst := some 22) (g := none) rfl
      refine wpOp_lit ho (fun j b h => by cases h) ?_
      clear hops hdep ho
      replace h1 := hidH h1
      replace h2 := hidH h2
      replace h3 := hidH h3
      replace h4 := hidH h4
      have q0 := hM.cpy.cell 0
      have q1 := hM.cpy.cell 1
      simp only [List.getElem?_toArray, List.getElem?_cons_succ, List.getElem?_cons_zero] at q0 q1
      go_wp2
      exact (HJ.out _ _ _).2 ⟨_, _, _, _, _, rfl, hM, hW0, fun _ => rfl, h1.out, h2.out, h3.out, h4.out⟩
    | 1, _ =>
      obtain ⟨ty, ps, af, ho⟩ := op_lit hops (i := 1) (op := Op.load 46 (Operand.tmp 1)) (dst := some 23) (g := none) rfl
      refine wpOp_lit ho (fun j b h => by cases h) ?_
      clear hops hdep ho
      replace h0 := hidH h0
      replace h2 := hidH h2
      replace h3 := hidH h3
      replace h4 := hidH h4
      have q0 := hM.arg.cell 0
      have q1 := hM.arg.cell 1
      simp only [List.getElem?_toArray, List.getElem?_cons_succ, List.getElem?_cons_zero] at q0 q1
      go_wp2
      exact (HJ.out _ _ _).2 ⟨_, _, _, _, _, rfl, hM, hW0, h0.out, fun _ => rfl, h2.out, h3.out, h4.out⟩
    | 2, _ =>
      obtain ⟨ty, ps, af, ho⟩ := op_lit hops (i := 2) (op := Op.call { callee := Callee.value (Operand.func 29), args := #[(Operand.tmp 23)], argTypes := #[46] }) (dst := some 24) (g := none) rfl
      obtain rfl := h1 (hdep 1 (by simp))
      refine wpOp_lit ho (fun j b h => by cases h) ?_
      clear hops hdep ho
      replace h0 := hidH h0
      replace h1 := hidH h1
      replace h3 := hidH h3
      replace h4 := hidH h4
      go_wp2_with fail
      refine (TO _ hM.ba).mono ?_
      rintro e w1 ⟨E, rfl, hO, hb⟩
      have hE := hO.cs
      go_wp2
      exact (HJ.out _ _ _).2 ⟨_, _, _, _, _, rfl, hM.below hb, btr hW0 hb, h0.out, fun _ => rfl, fun _ => ⟨E, rfl, hE⟩, h3.out, h4.out⟩
    | 3, _ =>
      obtain ⟨ty, ps, af, ho⟩ := op_lit hops (i := 3) (op := Op.call { callee := Callee.value (Operand.func 31), args := #[(Operand.tmp 22), (Operand.tmp 24)], argTypes := #[51, 51] }) (dst := some 25) (g := none) rfl
      obtain rfl := h0 (hdep 0 (by simp))
      obtain ⟨E, rfl, hE⟩ := h2 (hdep 2 (by simp))
      refine wpOp_lit ho (fun j b h => by cases h) ?_
      clear hops hdep ho
      replace h0 := hidH h0
      replace h1 := hidH h1
      replace h2 := hidH h2
      replace h4 := hidH h4
      have hbx := hM.bx
      go_wp2_with fail
      refine (EQ _ X E hbx hE).mono ?_
      rintro e w1 ⟨rfl, hb⟩
      go_wp2
      exact (HJ.out _ _ _).2 ⟨_, _, _, _, _, rfl, hM.below hb, btr hW0 hb, fun _ => rfl, h1.out, fun _ => ⟨E, rfl, hE.below hb⟩, fun _ => rfl, h4.out⟩
    | 4, _ =>
      obtain ⟨ty, ps, af, ho⟩ := op_lit hops (i := 4) (op := Op.unOp UnOp.not 4 (Operand.tmp 25)) (dst := some 26) (g := none) rfl
      obtain rfl := h3 (hdep 3 (by simp))
      refine wpOp_lit ho (fun j b h => by cases h) ?_
      clear hops hdep ho
      replace h0 := hidH h0
      replace h1 := hidH h1
      replace h2 := hidH h2
      replace h3 := hidH h3
      go_wp2
      exact (HJ.out _ _ _).2 ⟨_, _, _, _, _, rfl, hM, hW0, h0.out, h1.out, h2.out, fun _ => rfl, fun _ => rfl⟩
    | n + 5, h => omega
  case fin =>
    clear hops hdeps hback
    rintro dn ac W hJ hall
    obtain ⟨t22, t23, t24, t25, t26, rfl, hM, hW0, h0, h1, h2, h3, h4⟩ := (HJ.out _ _ _).1 hJ
    obtain rfl := h4 (hall 4 (by omega))
    exact fin _ _ _ _ W hM hW0
set_option maxRecDepth 100000 in
set_option maxHeartbeats 1000000 in
theorem regEqPP {Q : Exit → Act → World → Prop} (x0 x2 x3 x4 x6 x7 x8 x9 x10 x11 x12 x13 x14 x15 x16 x17 x18 x19 x20 x21 x22 x23 x24 x25 x26 : Value) (ws : World) (g x : Nat) (t : Int) (P : Option Addr) (cs : List Chk) (c : Nat) (X : Option Addr)
    (TO : ∀ u : World, Cs u P cs → Calls Try.prog 29 #[.agg #[.int .i64 t, .slice P cs.length c]] u fun e w' => ∃ A', e = .returned (.agg #[.int .i64 t, .slice A' cs.length cs.length]) ∧ OCs u.heap.size w'.heap.size w' A' cs ∧ Below u.heap.size u w')
    (EQ : ∀ (u : World) (A1 B1 : Option Addr), Cs u A1 cs → Cs u B1 cs → Calls Try.prog 31 #[.agg #[.int .i64 t, .slice A1 cs.length cs.length], .agg #[.int .i64 t, .slice B1 cs.length cs.length]] u fun e w' => e = .returned (.bool true) ∧ Below u.heap.size u w') {ops : Array Oper}
    (hops : (ops.map fun o => (o.op, o.dst, o.guard)) = #[(Op.load 51 (Operand.tmp 5), some 27, none), (Op.load 46 (Operand.tmp 1), some 28, none), (Op.call { callee := Callee.value (Operand.func 29), args := #[(Operand.tmp 28)], argTypes := #[46] }, some 29, none), (Op.call { callee := Callee.value (Operand.func 31), args := #[(Operand.tmp 27), (Operand.tmp 29)], argTypes := #[51, 51] }, some 30, none), (Op.unOp UnOp.not 4 (Operand.tmp 30), some 31, none)])
    (hdeps : ((List.range 5).all fun i => ((fun i => [[], [], [1], [0, 2], [3]].getD i []) i).all fun j => ((ops[i]?).map fun o => o.after.any fun e => Region.binds .any e && e.on == j).getD false) = true)
    (hback : ((List.range 5).all fun i => ((ops[i]?).map fun o => o.after.all fun e => decide (e.on < i)).getD false) = true)
    {a0 : Act} {w0 : World} (ha : a0 = { tmps := #[x0, .pointer (some ⟨g, 0, none⟩), x2, x3, x4, .pointer (some ⟨x, 0, none⟩), x6, x7, x8, x9, x10, x11, x12, x13, x14, x15, x16, x17, x18, x19, x20, x21, x22, x23, x24, x25, x26, undef, undef, undef, undef, undef, undef, undef, undef, undef, undef, undef, undef, undef, undef, undef, undef, undef, undef, undef, undef, undef, undef, undef, undef, undef, undef, undef, undef, undef, undef, undef, undef, undef, undef, undef, undef, undef, undef, undef, undef, undef, undef], defers := [] }) (hM : EP ws g x t P cs c X w0) (hW0 : Below w0.heap.size w0 w0)
    (fin : ∀ t27 t28 t29 t30 (W : World), (EP ws g x t P cs c X W) → (Below w0.heap.size w0 W) → Q .normal { tmps := #[x0, .pointer (some ⟨g, 0, none⟩), x2, x3, x4, .pointer (some ⟨x, 0, none⟩), x6, x7, x8, x9, x10, x11, x12, x13, x14, x15, x16, x17, x18, x19, x20, x21, x22, x23, x24, x25, x26, t27, t28, t29, t30, .bool false, undef, undef, undef, undef, undef, undef, undef, undef, undef, undef, undef, undef, undef, undef, undef, undef, undef, undef, undef, undef, undef, undef, undef, undef, undef, undef, undef, undef, undef, undef, undef, undef, undef, undef, undef, undef, undef], defers := [] } W) :
    wpAny Try.prog .any ops Q ops.size (Array.replicate ops.size false) a0 w0 := by
  have hn : ops.size = 5 := by have := congrArg Array.size hops; simpa using this
  obtain ⟨J, HJ⟩ : ∃ J : (Nat → Bool) → Act → World → Prop, ∀ dn ac W, J dn ac W ↔ (fun dn ac W => ∃ t27 t28 t29 t30 t31, ac = { tmps := #[x0, .pointer (some ⟨g, 0, none⟩), x2, x3, x4, .pointer (some ⟨x, 0, none⟩), x6, x7, x8, x9, x10, x11, x12, x13, x14, x15, x16, x17, x18, x19, x20, x21, x22, x23, x24, x25, x26, t27, t28, t29, t30, t31, undef, undef, undef, undef, undef, undef, undef, undef, undef, undef, undef, undef, undef, undef, undef, undef, undef, undef, undef, undef, undef, undef, undef, undef, undef, undef, undef, undef, undef, undef, undef, undef, undef, undef, undef, undef, undef], defers := [] } ∧ (EP ws g x t P cs c X W) ∧ (Below w0.heap.size w0 W) ∧ (dn 0 = true → t27 = .agg #[.int .i64 t, .slice X cs.length cs.length]) ∧ (dn 1 = true → t28 = .agg #[.int .i64 t, .slice P cs.length c]) ∧ (dn 2 = true → ∃ E : Option Addr, t29 = .agg #[.int .i64 t, .slice E cs.length cs.length] ∧ Cs W E cs) ∧ (dn 3 = true → t30 = .bool true) ∧ (dn 4 = true → t31 = .bool false)) dn ac W := ⟨_, fun _ _ _ => Iff.rfl⟩
  replace HJ := hidH HJ
  refine region_inv 5 (fun i => [[], [], [1], [0, 2], [3]].getD i []) J hn hdeps hback ?start ?step ?fin
  case start => exact (HJ.out _ _ _).2 ⟨undef, undef, undef, undef, undef, ha, hM, hW0, fun h => by simp at h, fun h => by simp at h, fun h => by simp at h, fun h => by simp at h, fun h => by simp at h⟩
  all_goals clear ha hM hW0
  case step =>
    clear fin hdeps hback
    intro i hi dn ac W hJ hdn hdep
    obtain ⟨t27, t28, t29, t30, t31, rfl, hM, hW0, h0, h1, h2, h3, h4⟩ := (HJ.out _ _ _).1 hJ
    clear hJ
    match i, hi with
    | 0, _ =>
      obtain ⟨ty, ps, af, ho⟩ := op_lit hops (i := 0) (op := Op.load 51 (Operand.tmp 5)) (dst := some 27) (g := none) rfl
      refine wpOp_lit ho (fun j b h => by cases h) ?_
      clear hops hdep ho
      replace h1 := hidH h1
      replace h2 := hidH h2
      replace h3 := hidH h3
      replace h4 := hidH h4
      have q0 := hM.cpy.cell 0
      have q1 := hM.cpy.cell 1
      simp only [List.getElem?_toArray, List.getElem?_cons_succ, List.getElem?_cons_zero] at q0 q1
      go_wp2
      exact (HJ.out _ _ _).2 ⟨_, _, _, _, _, rfl, hM, hW0, fun _ => rfl, h1.out, h2.out, h3.out, h4.out⟩
    | 1, _ =>
      obtain ⟨ty, ps, af, ho⟩ := op_lit hops (i := 1) (op := Op.load 46 (Operand.tmp 1)) (dst := some 28) (g := none) rfl
      refine wpOp_lit ho (fun j b h => by cases h) ?_
      clear hops hdep ho
      replace h0 := hidH h0
      replace h2 := hidH h2
      replace h3 := hidH h3
      replace h4 := hidH h4
      have q0 := hM.arg.cell 0
      have q1 := hM.arg.cell 1
      simp only [List.getElem?_toArray, List.getElem?_cons_succ, List.getElem?_cons_zero] at q0 q1
      go_wp2
      exact (HJ.out _ _ _).2 ⟨_, _, _, _, _, rfl, hM, hW0, h0.out, fun _ => rfl, h2.out, h3.out, h4.out⟩
    | 2, _ =>
      obtain ⟨ty, ps, af, ho⟩ := op_lit hops (i := 2) (op := Op.call { callee := Callee.value (Operand.func 29), args := #[(Operand.tmp 28)], argTypes := #[46] }) (dst := some 29) (g := none) rfl
      obtain rfl := h1 (hdep 1 (by simp))
      refine wpOp_lit ho (fun j b h => by cases h) ?_
      clear hops hdep ho
      replace h0 := hidH h0
      replace h1 := hidH h1
      replace h3 := hidH h3
      replace h4 := hidH h4
      go_wp2_with fail
      refine (TO _ hM.ba).mono ?_
      rintro e w1 ⟨E, rfl, hO, hb⟩
      have hE := hO.cs
      go_wp2
      exact (HJ.out _ _ _).2 ⟨_, _, _, _, _, rfl, hM.below hb, btr hW0 hb, h0.out, fun _ => rfl, fun _ => ⟨E, rfl, hE⟩, h3.out, h4.out⟩
    | 3, _ =>
      obtain ⟨ty, ps, af, ho⟩ := op_lit hops (i := 3) (op := Op.call { callee := Callee.value (Operand.func 31), args := #[(Operand.tmp 27), (Operand.tmp 29)], argTypes := #[51, 51] }) (dst := some 30) (g := none) rfl
      obtain rfl := h0 (hdep 0 (by simp))
      obtain ⟨E, rfl, hE⟩ := h2 (hdep 2 (by simp))
      refine wpOp_lit ho (fun j b h => by cases h) ?_
      clear hops hdep ho
      replace h0 := hidH h0
      replace h1 := hidH h1
      replace h2 := hidH h2
      replace h4 := hidH h4
      have hbx := hM.bx
      go_wp2_with fail
      refine (EQ _ X E hbx hE).mono ?_
      rintro e w1 ⟨rfl, hb⟩
      go_wp2
      exact (HJ.out _ _ _).2 ⟨_, _, _, _, _, rfl, hM.below hb, btr hW0 hb, fun _ => rfl, h1.out, fun _ => ⟨E, rfl, hE.below hb⟩, fun _ => rfl, h4.out⟩
    | 4, _ =>
      obtain ⟨ty, ps, af, ho⟩ := op_lit hops (i := 4) (op := Op.unOp UnOp.not 4 (Operand.tmp 30)) (dst := some 31) (g := none) rfl
      obtain rfl := h3 (hdep 3 (by simp))
      refine wpOp_lit ho (fun j b h => by cases h) ?_
      clear hops hdep ho
      replace h0 := hidH h0
      replace h1 := hidH h1
      replace h2 := hidH h2
      replace h3 := hidH h3
      go_wp2
      exact (HJ.out _ _ _).2 ⟨_, _, _, _, _, rfl, hM, hW0, h0.out, h1.out, h2.out, fun _ => rfl, fun _ => rfl⟩
    | n + 5, h => omega
  case fin =>
    clear hops hdeps hback
    rintro dn ac W hJ hall
    obtain ⟨t27, t28, t29, t30, t31, rfl, hM, hW0, h0, h1, h2, h3, h4⟩ := (HJ.out _ _ _).1 hJ
    obtain rfl := h4 (hall 4 (by omega))
    exact fin _ _ _ _ W hM hW0
set_option maxRecDepth 100000 in
set_option maxHeartbeats 1000000 in
theorem regEqS1 {Q : Exit → Act → World → Prop} (x0 x1 x3 x4 x5 x6 x8 x9 x10 x11 x12 x13 x14 x15 x16 x17 x18 x19 x20 x21 x22 x23 x24 x25 x26 x27 x28 x29 x30 x31 x32 x33 x34 : Value) (ws : World) (g x : Nat) (t : Int) (P : Option Addr) (cs : List Chk) (c : Nat) (X : Option Addr)
    (TO : ∀ u : World, Cs u P cs → Calls Try.prog 29 #[.agg #[.int .i64 t, .slice P cs.length c]] u fun e w' => ∃ A', e = .returned (.agg #[.int .i64 t, .slice A' cs.length cs.length]) ∧ OCs u.heap.size w'.heap.size w' A' cs ∧ Below u.heap.size u w')
    (EQ : ∀ (u : World) (A1 B1 : Option Addr), Cs u A1 cs → Cs u B1 cs → Calls Try.prog 31 #[.agg #[.int .i64 t, .slice A1 cs.length cs.length], .agg #[.int .i64 t, .slice B1 cs.length cs.length]] u fun e w' => e = .returned (.bool true) ∧ Below u.heap.size u w') (g9 y9 : Nat) (s9 : Int) (P9 : Option Addr) (ds : List Chk) (c9 : Nat) (X9 : Option Addr) {ops : Array Oper}
    (hops : (ops.map fun o => (o.op, o.dst, o.guard)) = #[(Op.load 51 (Operand.tmp 7), some 35, none), (Op.load 46 (Operand.tmp 2), some 36, none), (Op.call { callee := Callee.value (Operand.func 29), args := #[(Operand.tmp 36)], argTypes := #[46] }, some 37, none), (Op.call { callee := Callee.value (Operand.func 31), args := #[(Operand.tmp 35), (Operand.tmp 37)], argTypes := #[51, 51] }, some 38, none), (Op.unOp UnOp.not 4 (Operand.tmp 38), some 39, none)])
    (hdeps : ((List.range 5).all fun i => ((fun i => [[], [], [1], [0, 2], [3]].getD i []) i).all fun j => ((ops[i]?).map fun o => o.after.any fun e => Region.binds .any e && e.on == j).getD false) = true)
    (hback : ((List.range 5).all fun i => ((ops[i]?).map fun o => o.after.all fun e => decide (e.on < i)).getD false) = true)
    {a0 : Act} {w0 : World} (ha : a0 = { tmps := #[x0, x1, .pointer (some ⟨g, 0, none⟩), x3, x4, x5, x6, .pointer (some ⟨x, 0, none⟩), x8, x9, x10, x11, x12, x13, x14, x15, x16, x17, x18, x19, x20, x21, x22, x23, x24, x25, x26, x27, x28, x29, x30, x31, x32, x33, x34, undef, undef, undef, undef, undef, undef, undef, undef, undef, undef], defers := [] }) (hM : EP ws g x t P cs c X w0) (hN : EP ws g9 y9 s9 P9 ds c9 X9 w0) (hW0 : Below w0.heap.size w0 w0)
    (fin : ∀ t35 t36 t37 t38 (W : World), (EP ws g x t P cs c X W) → (EP ws g9 y9 s9 P9 ds c9 X9 W) → (Below w0.heap.size w0 W) → Q .normal { tmps := #[x0, x1, .pointer (some ⟨g, 0, none⟩), x3, x4, x5, x6, .pointer (some ⟨x, 0, none⟩), x8, x9, x10, x11, x12, x13, x14, x15, x16, x17, x18, x19, x20, x21, x22, x23, x24, x25, x26, x27, x28, x29, x30, x31, x32, x33, x34, t35, t36, t37, t38, .bool false, undef, undef, undef, undef, undef], defers := [] } W) :
    wpAny Try.prog .any ops Q ops.size (Array.replicate ops.size false) a0 w0 := by
  have hn : ops.size = 5 := by have := congrArg Array.size hops; simpa using this
  obtain ⟨J, HJ⟩ : ∃ J : (Nat → Bool) → Act → World → Prop, ∀ dn ac W, J dn ac W ↔ (fun dn ac W => ∃ t35 t36 t37 t38 t39, ac = { tmps := #[x0, x1, .pointer (some ⟨g, 0, none⟩), x3, x4, x5, x6, .pointer (some ⟨x, 0, none⟩), x8, x9, x10, x11, x12, x13, x14, x15, x16, x17, x18, x19, x20, x21, x22, x23, x24, x25, x26, x27, x28, x29, x30, x31, x32, x33, x34, t35, t36, t37, t38, t39, undef, undef, undef, undef, undef], defers := [] } ∧ (EP ws g x t P cs c X W) ∧ (EP ws g9 y9 s9 P9 ds c9 X9 W) ∧ (Below w0.heap.size w0 W) ∧ (dn 0 = true → t35 = .agg #[.int .i64 t, .slice X cs.length cs.length]) ∧ (dn 1 = true → t36 = .agg #[.int .i64 t, .slice P cs.length c]) ∧ (dn 2 = true → ∃ E : Option Addr, t37 = .agg #[.int .i64 t, .slice E cs.length cs.length] ∧ Cs W E cs) ∧ (dn 3 = true → t38 = .bool true) ∧ (dn 4 = true → t39 = .bool false)) dn ac W := ⟨_, fun _ _ _ => Iff.rfl⟩
  replace HJ := hidH HJ
  refine region_inv 5 (fun i => [[], [], [1], [0, 2], [3]].getD i []) J hn hdeps hback ?start ?step ?fin
  case start => exact (HJ.out _ _ _).2 ⟨undef, undef, undef, undef, undef, ha, hM, hN, hW0, fun h => by simp at h, fun h => by simp at h, fun h => by simp at h, fun h => by simp at h, fun h => by simp at h⟩
  all_goals clear ha hM hN hW0
  case step =>
    clear fin hdeps hback
    intro i hi dn ac W hJ hdn hdep
    obtain ⟨t35, t36, t37, t38, t39, rfl, hM, hN, hW0, h0, h1, h2, h3, h4⟩ := (HJ.out _ _ _).1 hJ
    clear hJ
    match i, hi with
    | 0, _ =>
      obtain ⟨ty, ps, af, ho⟩ := op_lit hops (i := 0) (op := Op.load 51 (Operand.tmp 7)) (dst := some 35) (g := none) rfl
      refine wpOp_lit ho (fun j b h => by cases h) ?_
      clear hops hdep ho
      replace h1 := hidH h1
      replace h2 := hidH h2
      replace h3 := hidH h3
      replace h4 := hidH h4
      have q0 := hM.cpy.cell 0
      have q1 := hM.cpy.cell 1
      simp only [List.getElem?_toArray, List.getElem?_cons_succ, List.getElem?_cons_zero] at q0 q1
      go_wp2
      exact (HJ.out _ _ _).2 ⟨_, _, _, _, _, rfl, hM, hN, hW0, fun _ => rfl, h1.out, h2.out, h3.out, h4.out⟩
    | 1, _ =>
      obtain ⟨ty, ps, af, ho⟩ := op_lit hops (i := 1) (op := Op.load 46 (Operand.tmp 2)) (dst := some 36) (g := none) rfl
      refine wpOp_lit ho (fun j b h => by cases h) ?_
      clear hops hdep ho
      replace h0 := hidH h0
      replace h2 := hidH h2
      replace h3 := hidH h3
      replace h4 := hidH h4
      have q0 := hM.arg.cell 0
      have q1 := hM.arg.cell 1
      simp only [List.getElem?_toArray, List.getElem?_cons_succ, List.getElem?_cons_zero] at q0 q1
      go_wp2
      exact (HJ.out _ _ _).2 ⟨_, _, _, _, _, rfl, hM, hN, hW0, h0.out, fun _ => rfl, h2.out, h3.out, h4.out⟩
    | 2, _ =>
      obtain ⟨ty, ps, af, ho⟩ := op_lit hops (i := 2) (op := Op.call { callee := Callee.value (Operand.func 29), args := #[(Operand.tmp 36)], argTypes := #[46] }) (dst := some 37) (g := none) rfl
      obtain rfl := h1 (hdep 1 (by simp))
      refine wpOp_lit ho (fun j b h => by cases h) ?_
      clear hops hdep ho
      replace h0 := hidH h0
      replace h1 := hidH h1
      replace h3 := hidH h3
      replace h4 := hidH h4
      go_wp2_with fail
      refine (TO _ hM.ba).mono ?_
      rintro e w1 ⟨E, rfl, hO, hb⟩
      have hE := hO.cs
      go_wp2
      exact (HJ.out _ _ _).2 ⟨_, _, _, _, _, rfl, hM.below hb, hN.below hb, btr hW0 hb, h0.out, fun _ => rfl, fun _ => ⟨E, rfl, hE⟩, h3.out, h4.out⟩
    | 3, _ =>
      obtain ⟨ty, ps, af, ho⟩ := op_lit hops (i := 3) (op := Op.call { callee := Callee.value (Operand.func 31), args := #[(Operand.tmp 35), (Operand.tmp 37)], argTypes := #[51, 51] }) (dst := some 38) (g := none) rfl
      obtain rfl := h0 (hdep 0 (by simp))
      obtain ⟨E, rfl, hE⟩ := h2 (hdep 2 (by simp))
      refine wpOp_lit ho (fun j b h => by cases h) ?_
      clear hops hdep ho
      replace h0 := hidH h0
      replace h1 := hidH h1
      replace h2 := hidH h2
      replace h4 := hidH h4
      have hbx := hM.bx
      go_wp2_with fail
      refine (EQ _ X E hbx hE).mono ?_
      rintro e w1 ⟨rfl, hb⟩
      go_wp2
      exact (HJ.out _ _ _).2 ⟨_, _, _, _, _, rfl, hM.below hb, hN.below hb, btr hW0 hb, fun _ => rfl, h1.out, fun _ => ⟨E, rfl, hE.below hb⟩, fun _ => rfl, h4.out⟩
    | 4, _ =>
      obtain ⟨ty, ps, af, ho⟩ := op_lit hops (i := 4) (op := Op.unOp UnOp.not 4 (Operand.tmp 38)) (dst := some 39) (g := none) rfl
      obtain rfl := h3 (hdep 3 (by simp))
      refine wpOp_lit ho (fun j b h => by cases h) ?_
      clear hops hdep ho
      replace h0 := hidH h0
      replace h1 := hidH h1
      replace h2 := hidH h2
      replace h3 := hidH h3
      go_wp2
      exact (HJ.out _ _ _).2 ⟨_, _, _, _, _, rfl, hM, hN, hW0, h0.out, h1.out, h2.out, fun _ => rfl, fun _ => rfl⟩
    | n + 5, h => omega
  case fin =>
    clear hops hdeps hback
    rintro dn ac W hJ hall
    obtain ⟨t35, t36, t37, t38, t39, rfl, hM, hN, hW0, h0, h1, h2, h3, h4⟩ := (HJ.out _ _ _).1 hJ
    obtain rfl := h4 (hall 4 (by omega))
    exact fin _ _ _ _ W hM hN hW0
set_option maxRecDepth 100000 in
set_option maxHeartbeats 1000000 in
theorem regEqS2 {Q : Exit → Act → World → Prop} (x0 x1 x2 x4 x5 x6 x7 x9 x10 x11 x12 x13 x14 x15 x16 x17 x18 x19 x20 x21 x22 x23 x24 x25 x26 x27 x28 x29 x30 x31 x32 x33 x34 x35 x36 x37 x38 x39 : Value) (ws : World) (g x : Nat) (t : Int) (P : Option Addr) (cs : List Chk) (c : Nat) (X : Option Addr)
    (TO : ∀ u : World, Cs u P cs → Calls Try.prog 29 #[.agg #[.int .i64 t, .slice P cs.length c]] u fun e w' => ∃ A', e = .returned (.agg #[.int .i64 t, .slice A' cs.length cs.length]) ∧ OCs u.heap.size w'.heap.size w' A' cs ∧ Below u.heap.size u w')
    (EQ : ∀ (u : World) (A1 B1 : Option Addr), Cs u A1 cs → Cs u B1 cs → Calls Try.prog 31 #[.agg #[.int .i64 t, .slice A1 cs.length cs.length], .agg #[.int .i64 t, .slice B1 cs.length cs.length]] u fun e w' => e = .returned (.bool true) ∧ Below u.heap.size u w') (g9 y9 : Nat) (s9 : Int) (P9 : Option Addr) (ds : List Chk) (c9 : Nat) (X9 : Option Addr) {ops : Array Oper}
    (hops : (ops.map fun o => (o.op, o.dst, o.guard)) = #[(Op.load 51 (Operand.tmp 8), some 40, none), (Op.load 46 (Operand.tmp 3), some 41, none), (Op.call { callee := Callee.value (Operand.func 29), args := #[(Operand.tmp 41)], argTypes := #[46] }, some 42, none), (Op.call { callee := Callee.value (Operand.func 31), args := #[(Operand.tmp 40), (Operand.tmp 42)], argTypes := #[51, 51] }, some 43, none), (Op.unOp UnOp.not 4 (Operand.tmp 43), some 44, none)])
    (hdeps : ((List.range 5).all fun i => ((fun i => [[], [], [1], [0, 2], [3]].getD i []) i).all fun j => ((ops[i]?).map fun o => o.after.any fun e => Region.binds .any e && e.on == j).getD false) = true)
    (hback : ((List.range 5).all fun i => ((ops[i]?).map fun o => o.after.all fun e => decide (e.on < i)).getD false) = true)
    {a0 : Act} {w0 : World} (ha : a0 = { tmps := #[x0, x1, x2, .pointer (some ⟨g, 0, none⟩), x4, x5, x6, x7, .pointer (some ⟨x, 0, none⟩), x9, x10, x11, x12, x13, x14, x15, x16, x17, x18, x19, x20, x21, x22, x23, x24, x25, x26, x27, x28, x29, x30, x31, x32, x33, x34, x35, x36, x37, x38, x39, undef, undef, undef, undef, undef], defers := [] }) (hM : EP ws g x t P cs c X w0) (hN : EP ws g9 y9 s9 P9 ds c9 X9 w0) (hW0 : Below w0.heap.size w0 w0)
    (fin : ∀ t40 t41 t42 t43 (W : World), (EP ws g x t P cs c X W) → (EP ws g9 y9 s9 P9 ds c9 X9 W) → (Below w0.heap.size w0 W) → Q .normal { tmps := #[x0, x1, x2, .pointer (some ⟨g, 0, none⟩), x4, x5, x6, x7, .pointer (some ⟨x, 0, none⟩), x9, x10, x11, x12, x13, x14, x15, x16, x17, x18, x19, x20, x21, x22, x23, x24, x25, x26, x27, x28, x29, x30, x31, x32, x33, x34, x35, x36, x37, x38, x39, t40, t41, t42, t43, .bool false], defers := [] } W) :
    wpAny Try.prog .any ops Q ops.size (Array.replicate ops.size false) a0 w0 := by
  have hn : ops.size = 5 := by have := congrArg Array.size hops; simpa using this
  obtain ⟨J, HJ⟩ : ∃ J : (Nat → Bool) → Act → World → Prop, ∀ dn ac W, J dn ac W ↔ (fun dn ac W => ∃ t40 t41 t42 t43 t44, ac = { tmps := #[x0, x1, x2, .pointer (some ⟨g, 0, none⟩), x4, x5, x6, x7, .pointer (some ⟨x, 0, none⟩), x9, x10, x11, x12, x13, x14, x15, x16, x17, x18, x19, x20, x21, x22, x23, x24, x25, x26, x27, x28, x29, x30, x31, x32, x33, x34, x35, x36, x37, x38, x39, t40, t41, t42, t43, t44], defers := [] } ∧ (EP ws g x t P cs c X W) ∧ (EP ws g9 y9 s9 P9 ds c9 X9 W) ∧ (Below w0.heap.size w0 W) ∧ (dn 0 = true → t40 = .agg #[.int .i64 t, .slice X cs.length cs.length]) ∧ (dn 1 = true → t41 = .agg #[.int .i64 t, .slice P cs.length c]) ∧ (dn 2 = true → ∃ E : Option Addr, t42 = .agg #[.int .i64 t, .slice E cs.length cs.length] ∧ Cs W E cs) ∧ (dn 3 = true → t43 = .bool true) ∧ (dn 4 = true → t44 = .bool false)) dn ac W := ⟨_, fun _ _ _ => Iff.rfl⟩
  replace HJ := hidH HJ
  refine region_inv 5 (fun i => [[], [], [1], [0, 2], [3]].getD i []) J hn hdeps hback ?start ?step ?fin
  case start => exact (HJ.out _ _ _).2 ⟨undef, undef, undef, undef, undef, ha, hM, hN, hW0, fun h => by simp at h, fun h => by simp at h, fun h => by simp at h, fun h => by simp at h, fun h => by simp at h⟩
  all_goals clear ha hM hN hW0
  case step =>
    clear fin hdeps hback
    intro i hi dn ac W hJ hdn hdep
    obtain ⟨t40, t41, t42, t43, t44, rfl, hM, hN, hW0, h0, h1, h2, h3, h4⟩ := (HJ.out _ _ _).1 hJ
    clear hJ
    match i, hi with
    | 0, _ =>
      obtain ⟨ty, ps, af, ho⟩ := op_lit hops (i := 0) (op := Op.load 51 (Operand.tmp 8)) (dst := some 40) (g := none) rfl
      refine wpOp_lit ho (fun j b h => by cases h) ?_
      clear hops hdep ho
      replace h1 := hidH h1
      replace h2 := hidH h2
      replace h3 := hidH h3
      replace h4 := hidH h4
      have q0 := hM.cpy.cell 0
      have q1 := hM.cpy.cell 1
      simp only [List.getElem?_toArray, List.getElem?_cons_succ, List.getElem?_cons_zero] at q0 q1
      go_wp2
      exact (HJ.out _ _ _).2 ⟨_, _, _, _, _, rfl, hM, hN, hW0, fun _ => rfl, h1.out, h2.out, h3.out, h4.out⟩
    | 1, _ =>
      obtain ⟨ty, ps, af, ho⟩ := op_lit hops (i := 1) (op := Op.load 46 (Operand.tmp 3)) (dst := some 41) (g := none) rfl
      refine wpOp_lit ho (fun j b h => by cases h) ?_
      clear hops hdep ho
      replace h0 := hidH h0
      replace h2 := hidH h2
      replace h3 := hidH h3
      replace h4 := hidH h4
      have q0 := hM.arg.cell 0
      have q1 := hM.arg.cell 1
      simp only [List.getElem?_toArray, List.getElem?_cons_succ, List.getElem?_cons_zero] at q0 q1
      go_wp2
      exact (HJ.out _ _ _).2 ⟨_, _, _, _, _, rfl, hM, hN, hW0, h0.out, fun _ => rfl, h2.out, h3.out, h4.out⟩
    | 2, _ =>
      obtain ⟨ty, ps, af, ho⟩ := op_lit hops (i := 2) (op := Op.call { callee := Callee.value (Operand.func 29), args := #[(Operand.tmp 41)], argTypes := #[46] }) (dst := some 42) (g := none) rfl
      obtain rfl := h1 (hdep 1 (by simp))
      refine wpOp_lit ho (fun j b h => by cases h) ?_
      clear hops hdep ho
      replace h0 := hidH h0
      replace h1 := hidH h1
      replace h3 := hidH h3
      replace h4 := hidH h4
      go_wp2_with fail
      refine (TO _ hM.ba).mono ?_
      rintro e w1 ⟨E, rfl, hO, hb⟩
      have hE := hO.cs
      go_wp2
      exact (HJ.out _ _ _).2 ⟨_, _, _, _, _, rfl, hM.below hb, hN.below hb, btr hW0 hb, h0.out, fun _ => rfl, fun _ => ⟨E, rfl, hE⟩, h3.out, h4.out⟩
    | 3, _ =>
      obtain ⟨ty, ps, af, ho⟩ := op_lit hops (i := 3) (op := Op.call { callee := Callee.value (Operand.func 31), args := #[(Operand.tmp 40), (Operand.tmp 42)], argTypes := #[51, 51] }) (dst := some 43) (g := none) rfl
      obtain rfl := h0 (hdep 0 (by simp))
      obtain ⟨E, rfl, hE⟩ := h2 (hdep 2 (by simp))
      refine wpOp_lit ho (fun j b h => by cases h) ?_
      clear hops hdep ho
      replace h0 := hidH h0
      replace h1 := hidH h1
      replace h2 := hidH h2
      replace h4 := hidH h4
      have hbx := hM.bx
      go_wp2_with fail
      refine (EQ _ X E hbx hE).mono ?_
      rintro e w1 ⟨rfl, hb⟩
      go_wp2
      exact (HJ.out _ _ _).2 ⟨_, _, _, _, _, rfl, hM.below hb, hN.below hb, btr hW0 hb, fun _ => rfl, h1.out, fun _ => ⟨E, rfl, hE.below hb⟩, fun _ => rfl, h4.out⟩
    | 4, _ =>
      obtain ⟨ty, ps, af, ho⟩ := op_lit hops (i := 4) (op := Op.unOp UnOp.not 4 (Operand.tmp 43)) (dst := some 44) (g := none) rfl
      obtain rfl := h3 (hdep 3 (by simp))
      refine wpOp_lit ho (fun j b h => by cases h) ?_
      clear hops hdep ho
      replace h0 := hidH h0
      replace h1 := hidH h1
      replace h2 := hidH h2
      replace h3 := hidH h3
      go_wp2
      exact (HJ.out _ _ _).2 ⟨_, _, _, _, _, rfl, hM, hN, hW0, h0.out, h1.out, h2.out, fun _ => rfl, fun _ => rfl⟩
    | n + 5, h => omega
  case fin =>
    clear hops hdeps hback
    rintro dn ac W hJ hall
    obtain ⟨t40, t41, t42, t43, t44, rfl, hM, hN, hW0, h0, h1, h2, h3, h4⟩ := (HJ.out _ _ _).1 hJ
    obtain rfl := h4 (hall 4 (by omega))
    exact fin _ _ _ _ W hM hN hW0
set_option maxRecDepth 100000 in
set_option maxHeartbeats 1000000 in
theorem regS0 {Q : Exit → Act → World → Prop} (x0 x1 x4 x5 x6 x7 x8 x9 x10 x11 x12 x13 x14 x15 x16 x17 x18 x19 : Value) (ws : World) (g h : Nat) (ta tb : Int) (P R : Option Addr) (a b : List Chk) (c d : Nat)
    (TA : ∀ u : World, Cs u P a → Calls Try.prog 29 #[.agg #[.int .i64 ta, .slice P a.length c]] u fun e w' => ∃ A', e = .returned (.agg #[.int .i64 ta, .slice A' a.length a.length]) ∧ OCs u.heap.size w'.heap.size w' A' a ∧ Below u.heap.size u w')
    (TB : ∀ u : World, Cs u R b → Calls Try.prog 29 #[.agg #[.int .i64 tb, .slice R b.length d]] u fun e w' => ∃ A', e = .returned (.agg #[.int .i64 tb, .slice A' b.length b.length]) ∧ OCs u.heap.size w'.heap.size w' A' b ∧ Below u.heap.size u w')
    (SP : ∀ (u : World) (A1 B1 : Option Addr), Cs u A1 a → Cs u B1 b → Calls Try.prog 36 #[.agg #[.int .i64 ta, .slice A1 a.length a.length], .agg #[.int .i64 tb, .slice B1 b.length b.length]] u fun e w' => ∃ r : Bool, e = .returned (.bool r) ∧ (r = true ↔ ta = tb ∧ a = b) ∧ Below u.heap.size u w') {ops : Array Oper}
    (hops : (ops.map fun o => (o.op, o.dst, o.guard)) = #[(Op.load 46 (Operand.tmp 2), some 20, none), (Op.call { callee := Callee.value (Operand.func 29), args := #[(Operand.tmp 20)], argTypes := #[46] }, some 21, none), (Op.load 46 (Operand.tmp 3), some 22, none), (Op.call { callee := Callee.value (Operand.func 29), args := #[(Operand.tmp 22)], argTypes := #[46] }, some 23, none), (Op.call { callee := Callee.value (Operand.func 36), args := #[(Operand.tmp 21), (Operand.tmp 23)], argTypes := #[51, 51] }, some 24, none), (Op.assign (Operand.tmp 24), some 6, none)])
    (hdeps : ((List.range 6).all fun i => ((fun i => [[], [0], [], [2], [1, 3], [4]].getD i []) i).all fun j => ((ops[i]?).map fun o => o.after.any fun e => Region.binds .any e && e.on == j).getD false) = true)
    (hback : ((List.range 6).all fun i => ((ops[i]?).map fun o => o.after.all fun e => decide (e.on < i)).getD false) = true)
    {a0 : Act} {w0 : World} (ha : a0 = { tmps := #[x0, x1, .pointer (some ⟨g, 0, none⟩), .pointer (some ⟨h, 0, none⟩), x4, x5, x6, x7, x8, x9, x10, x11, x12, x13, x14, x15, x16, x17, x18, x19, undef, undef, undef, undef, undef, undef, undef, undef, undef, undef, undef, undef, undef, undef, undef, undef, undef, undef, undef, undef, undef, undef, undef, undef, undef], defers := [] }) (hK1 : Blk w0 g 46 #[.int .i64 ta, .slice P a.length c]) (hK2 : Blk w0 h 46 #[.int .i64 tb, .slice R b.length d]) (hC1 : Cs w0 P a) (hC2 : Cs w0 R b) (hO : Below ws.heap.size ws w0)
    (fin : ∀ t20 t21 t22 t23 t24 t6 (W : World), (Blk W g 46 #[.int .i64 ta, .slice P a.length c]) → (Blk W h 46 #[.int .i64 tb, .slice R b.length d]) → (Cs W P a) → (Cs W R b) → (Below ws.heap.size ws W) → (∃ r : Bool, t6 = .bool r ∧ (r = true ↔ ta = tb ∧ a = b)) → Q .normal { tmps := #[x0, x1, .pointer (some ⟨g, 0, none⟩), .pointer (some ⟨h, 0, none⟩), x4, x5, t6, x7, x8, x9, x10, x11, x12, x13, x14, x15, x16, x17, x18, x19, t20, t21, t22, t23, t24, undef, undef, undef, undef, undef, undef, undef, undef, undef, undef, undef, undef, undef, undef, undef, undef, undef, undef, undef, undef], defers := [] } W) :
    wpAny Try.prog .any ops Q ops.size (Array.replicate ops.size false) a0 w0 := by
  have hn : ops.size = 6 := by have := congrArg Array.size hops; simpa using this
  obtain ⟨J, HJ⟩ : ∃ J : (Nat → Bool) → Act → World → Prop, ∀ dn ac W, J dn ac W ↔ (fun dn ac W => ∃ t20 t21 t22 t23 t24 t6, ac = { tmps := #[x0, x1, .pointer (some ⟨g, 0, none⟩), .pointer (some ⟨h, 0, none⟩), x4, x5, t6, x7, x8, x9, x10, x11, x12, x13, x14, x15, x16, x17, x18, x19, t20, t21, t22, t23, t24, undef, undef, undef, undef, undef, undef, undef, undef, undef, undef, undef, undef, undef, undef, undef, undef, undef, undef, undef, undef], defers := [] } ∧ (Blk W g 46 #[.int .i64 ta, .slice P a.length c]) ∧ (Blk W h 46 #[.int .i64 tb, .slice R b.length d]) ∧ (Cs W P a) ∧ (Cs W R b) ∧ (Below ws.heap.size ws W) ∧ (dn 5 = false → t6 = x6) ∧ (dn 0 = true → t20 = .agg #[.int .i64 ta, .slice P a.length c]) ∧ (dn 1 = true → ∃ E : Option Addr, t21 = .agg #[.int .i64 ta, .slice E a.length a.length] ∧ Cs W E a) ∧ (dn 2 = true → t22 = .agg #[.int .i64 tb, .slice R b.length d]) ∧ (dn 3 = true → ∃ F : Option Addr, t23 = .agg #[.int .i64 tb, .slice F b.length b.length] ∧ Cs W F b) ∧ (dn 4 = true → ∃ r : Bool, t24 = .bool r ∧ (r = true ↔ ta = tb ∧ a = b)) ∧ (dn 5 = true → ∃ r : Bool, t6 = .bool r ∧ (r = true ↔ ta = tb ∧ a = b))) dn ac W := ⟨_, fun _ _ _ => Iff.rfl⟩
  replace HJ := hidH HJ
  refine region_inv 6 (fun i => [[], [0], [], [2], [1, 3], [4]].getD i []) J hn hdeps hback ?start ?step ?fin
  case start => exact (HJ.out _ _ _).2 ⟨undef, undef, undef, undef, undef, x6, ha, hK1, hK2, hC1, hC2, hO, fun _ => rfl, fun h => by simp at h, fun h => by simp at h, fun h => by simp at h, fun h => by simp at h, fun h => by simp at h, fun h => by simp at h⟩
  all_goals clear ha hK1 hK2 hC1 hC2 hO
  case step =>
    clear fin hdeps hback
    intro i hi dn ac W hJ hdn hdep
    obtain ⟨t20, t21, t22, t23, t24, t6, rfl, hK1, hK2, hC1, hC2, hO, o5, h0, h1, h2, h3, h4, h5⟩ := (HJ.out _ _ _).1 hJ
    clear hJ
    match i, hi with
    | 0, _ =>
      obtain ⟨ty, ps, af, ho⟩ := op_lit hops (i := 0) (op := Op.load 46 (Operand.tmp 2)) (dst := some 20) (g := none) rfl
      refine wpOp_lit ho (fun j b h => by cases h) ?_
      clear hops hdep ho
      replace h1 := hidH h1
      replace h2 := hidH h2
      replace h3 := hidH h3
      replace h4 := hidH h4
      replace h5 := hidH h5
      replace o5 := hidH o5
      have q0 := hK1.cell 0
      have q1 := hK1.cell 1
      simp only [List.getElem?_toArray, List.getElem?_cons_succ, List.getElem?_cons_zero] at q0 q1
      go_wp2
      exact (HJ.out _ _ _).2 ⟨_, _, _, _, _, _, rfl, hK1, hK2, hC1, hC2, hO, o5.out, fun _ => rfl, h1.out, h2.out, h3.out, h4.out, h5.out⟩
    | 1, _ =>
      obtain ⟨ty, ps, af, ho⟩ := op_lit hops (i := 1) (op := Op.call { callee := Callee.value (Operand.func 29), args := #[(Operand.tmp 20)], argTypes := #[46] }) (dst := some 21) (g := none) rfl
      obtain rfl := h0 (hdep 0 (by simp))
      refine wpOp_lit ho (fun j b h => by cases h) ?_
      clear hops hdep ho
      replace h0 := hidH h0
      replace h2 := hidH h2
      replace h3 := hidH h3
      replace h4 := hidH h4
      replace h5 := hidH h5
      replace o5 := hidH o5
      go_wp2_with fail
      refine (TA _ hC1).mono ?_
      rintro e w1 ⟨E, rfl, hO1, hb⟩
      have hE := hO1.cs
      go_wp2
      exact (HJ.out _ _ _).2 ⟨_, _, _, _, _, _, rfl, hK1.below hb, hK2.below hb, hC1.below hb, hC2.below hb, btr hO hb, o5.out, fun _ => rfl, fun _ => ⟨E, rfl, hE⟩, h2.out, fun h => by obtain ⟨E, q1, q2⟩ := h3.out h; exact ⟨E, q1, q2.below hb⟩, h4.out, h5.out⟩
    | 2, _ =>
      obtain ⟨ty, ps, af, ho⟩ := op_lit hops (i := 2) (op := Op.load 46 (Operand.tmp 3)) (dst := some 22) (g := none) rfl
      refine wpOp_lit ho (fun j b h => by cases h) ?_
      clear hops hdep ho
      replace h0 := hidH h0
      replace h1 := hidH h1
      replace h3 := hidH h3
      replace h4 := hidH h4
      replace h5 := hidH h5
      replace o5 := hidH o5
      have q0 := hK2.cell 0
      have q1 := hK2.cell 1
      simp only [List.getElem?_toArray, List.getElem?_cons_succ, List.getElem?_cons_zero] at q0 q1
      go_wp2
      exact (HJ.out _ _ _).2 ⟨_, _, _, _, _, _, rfl, hK1, hK2, hC1, hC2, hO, o5.out, h0.out, h1.out, fun _ => rfl, h3.out, h4.out, h5.out⟩
    | 3, _ =>
      obtain ⟨ty, ps, af, ho⟩ := op_lit hops (i := 3) (op := Op.call { callee := Callee.value (Operand.func 29), args := #[(Operand.tmp 22)], argTypes := #[46] }) (dst := some 23) (g := none) rfl
      obtain rfl := h2 (hdep 2 (by simp))
      refine wpOp_lit ho (fun j b h => by cases h) ?_
      clear hops hdep ho
      replace h0 := hidH h0
      replace h1 := hidH h1
      replace h2 := hidH h2
      replace h4 := hidH h4
      replace h5 := hidH h5
      replace o5 := hidH o5
      go_wp2_with fail
      refine (TB _ hC2).mono ?_
      rintro e w1 ⟨F, rfl, hO2, hb⟩
      have hF := hO2.cs
      go_wp2
      exact (HJ.out _ _ _).2 ⟨_, _, _, _, _, _, rfl, hK1.below hb, hK2.below hb, hC1.below hb, hC2.below hb, btr hO hb, o5.out, h0.out, fun h => by obtain ⟨E, q1, q2⟩ := h1.out h; exact ⟨E, q1, q2.below hb⟩, fun _ => rfl, fun _ => ⟨F, rfl, hF⟩, h4.out, h5.out⟩
    | 4, _ =>
      obtain ⟨ty, ps, af, ho⟩ := op_lit hops (i := 4) (op := Op.call { callee := Callee.value (Operand.func 36), args := #[(Operand.tmp 21), (Operand.tmp 23)], argTypes := #[51, 51] }) (dst := some 24) (g := none) rfl
      obtain ⟨E, rfl, hE⟩ := h1 (hdep 1 (by simp))
      obtain ⟨F, rfl, hF⟩ := h3 (hdep 3 (by simp))
      refine wpOp_lit ho (fun j b h => by cases h) ?_
      clear hops hdep ho
      replace h0 := hidH h0
      replace h1 := hidH h1
      replace h2 := hidH h2
      replace h3 := hidH h3
      replace h5 := hidH h5
      replace o5 := hidH o5
      go_wp2_with fail
      refine (SP _ E F hE hF).mono ?_
      rintro e w1 ⟨r, rfl, hr, hb⟩
      go_wp2
      exact (HJ.out _ _ _).2 ⟨_, _, _, _, _, _, rfl, hK1.below hb, hK2.below hb, hC1.below hb, hC2.below hb, btr hO hb, o5.out, h0.out, fun _ => ⟨E, rfl, hE.below hb⟩, h2.out, fun _ => ⟨F, rfl, hF.below hb⟩, fun _ => ⟨r, rfl, hr⟩, h5.out⟩
    | 5, _ =>
      obtain ⟨ty, ps, af, ho⟩ := op_lit hops (i := 5) (op := Op.assign (Operand.tmp 24)) (dst := some 6) (g := none) rfl
      obtain ⟨r, rfl, hr⟩ := h4 (hdep 4 (by simp))
      obtain rfl := o5 hdn
      refine wpOp_lit ho (fun j b h => by cases h) ?_
      clear hops hdep ho
      replace h0 := hidH h0
      replace h1 := hidH h1
      replace h2 := hidH h2
      replace h3 := hidH h3
      replace h4 := hidH h4
      go_wp2
      exact (HJ.out _ _ _).2 ⟨_, _, _, _, _, _, rfl, hK1, hK2, hC1, hC2, hO, (fun h => by simp at h), h0.out, h1.out, h2.out, h3.out, fun _ => ⟨r, rfl, hr⟩, fun _ => ⟨r, rfl, hr⟩⟩
    | n + 6, h => omega
  case fin =>
    clear hops hdeps hback
    rintro dn ac W hJ hall
    obtain ⟨t20, t21, t22, t23, t24, t6, rfl, hK1, hK2, hC1, hC2, hO, o5, h0, h1, h2, h3, h4, h5⟩ := (HJ.out _ _ _).1 hJ
    exact fin _ _ _ _ _ _ W hK1 hK2 hC1 hC2 hO (h5 (hall 5 (by omega)))
end Go.Proofs.Ytepcikghhnfacaa
