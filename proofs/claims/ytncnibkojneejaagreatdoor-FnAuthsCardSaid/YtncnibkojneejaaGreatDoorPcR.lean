/- The region of PackChunk that draws its order. -/
import Derived.Test.YtncnibkojneejaaGreatDoorJb3
import Derived.Test.YtncnibkojneejaaGreatDoorJa7
namespace Go.Proofs.YtncnibkojneejaaGreatDoor
open Go.RowKit Go.Deep

theorem zeros_bs {w : World} {B g n : Nat} (h : w.ownsRow B 5 1 (.slice (some ⟨g, 0, none⟩) n n) n (madeCells #[Value.int IntKind.u8 0] n).toList) : Bs w (some ⟨g, 0, none⟩) (List.replicate n 0) := by
  rw [toList_madeCells_one] at h
  obtain ⟨A, cp, hv, ob, _⟩ := own_ob (d := List.replicate n 0) (by simpa using h)
  simp only [Value.slice.injEq] at hv
  rw [hv.1]
  exact ob.bs
theorem parts3 {w : World} {q : Nat} {t : TypeId} {A1 A2 A3 : Option Addr} {n1 n2 n3 c1 c2 c3 : Nat} (h : Blk w q t #[.slice A1 n1 c1, .slice A2 n2 c2, .slice A3 n3 c3]) {l1 l2 l3 : List Int} (e1 : n1 = l1.length) (e2 : n2 = l2.length) (e3 : n3 = l3.length)
    (h1 : Bs w A1 l1) (h2 : Bs w A2 l2) (h3 : Bs w A3 l3) : Parts w q [l1, l2, l3] := by
  subst e1 e2 e3
  refine ⟨h.lt, fun i hi => ?_⟩
  match i, hi with
  | 0, _ => exact ⟨A1, c1, h.cell 0, h1⟩
  | 1, _ => exact ⟨A2, c2, h.cell 1, h2⟩
  | 2, _ => exact ⟨A3, c3, h.cell 2, h3⟩
theorem parts2 {w : World} {q : Nat} {t : TypeId} {A1 A2 : Option Addr} {n1 n2 c1 c2 : Nat} (h : Blk w q t #[.slice A1 n1 c1, .slice A2 n2 c2]) {l1 l2 : List Int} (e1 : n1 = l1.length) (e2 : n2 = l2.length)
    (h1 : Bs w A1 l1) (h2 : Bs w A2 l2) : Parts w q [l1, l2] := by
  subst e1 e2
  refine ⟨h.lt, fun i hi => ?_⟩
  match i, hi with
  | 0, _ => exact ⟨A1, c1, h.cell 0, h1⟩
  | 1, _ => exact ⟨A2, c2, h.cell 1, h2⟩
theorem blk_set2 {w : World} {g : Nat} {t : TypeId} {a b : Value} (h : Blk w g t #[a, b]) (u v : Value) : Blk ((w.setCell ⟨g, 0, none⟩ u).setCell ⟨g, 1, none⟩ v) g t #[u, v] := by
  have h1 := heap_setCell_same w g 0 _ _ u h
  have h2 := heap_setCell_same _ g 1 _ _ v h1
  unfold Blk
  rw [h2]
  rfl
/-- What PackChunk's last region reads: the chunk in its block, the head in its. -/
structure PcM (g h : Nat) (k f : Int) (A : Option Addr) (b : List Int) (c : Nat) (W : World) : Prop where
  ck : Blk W g 37 #[.int .i64 k, .int .i64 f, .slice A b.length c]
  hh : Blk W h 5 #[.int .u8 k, .int .u8 f, .int .u8 ((4 + (b.length : Int)) / 256), .int .u8 (4 + (b.length : Int))]
theorem PcM.below {g h : Nat} {k f : Int} {A : Option Addr} {b : List Int} {c : Nat} {u v : World} (x : PcM g h k f A b c u) (hb : Below u.heap.size u v) : PcM g h k f A b c v := ⟨x.ck.below hb, x.hh.below hb⟩
theorem PcM.set {g h : Nat} {k f : Int} {A : Option Addr} {b : List Int} {c : Nat} {u : World} (x : PcM g h k f A b c u) (r o : Nat) (hg : g ≠ r) (hh : h ≠ r) (v : Value) : PcM g h k f A b c (u.setCell ⟨r, o, none⟩ v) :=
  ⟨(win_set u r o v).blk x.ck (by omega), (win_set u r o v).blk x.hh (by omega)⟩
theorem PcM.hd {g h : Nat} {k f : Int} {A : Option Addr} {b : List Int} {c : Nat} {u : World} (x : PcM g h k f A b c u) : Bs u (some ⟨h, 0, none⟩) [k, f, (4 + (b.length : Int)) / 256, 4 + (b.length : Int)] :=
  .inr ⟨h, 0, rfl, x.hh.lt, fun j hj => by
    rw [Nat.zero_add, x.hh.cell]
    match j, hj with
    | 0, _ => rfl
    | 1, _ => rfl
    | 2, _ => rfl
    | 3, _ => rfl⟩
set_option maxRecDepth 100000 in
set_option maxHeartbeats 1000000 in
theorem regPc {Q : Exit → Act → World → Prop} (x0 x3 x4 x6 x7 x8 x9 x10 x11 x12 x13 x14 x15 x16 x17 x18 x19 x20 x21 x22 x23 x24 x25 x26 x27 : Value) (ws : World) (g r h : Nat) (k f : Int) (A : Option Addr) (b : List Int) (c : Nat) (L : List Int) (p : Nat) (hp : Hid (p = chPad b.length)) (hb0 : (b.length : Int) ≤ 160) (HB : Hid (Bs ws A b)) (hgr : g ≠ r) (hhr : h ≠ r) (hr0 : ws.heap.size ≤ r)
    (CON : ∀ (u : World) (q : Nat), Parts u q [[k, f, (4 + (b.length : Int)) / 256, 4 + (b.length : Int)], b, List.replicate p 0] → Calls Tryz.prog 75 #[.slice (some ⟨q, 0, none⟩) 3 3] u (OwnB u L)) {ops : Array Oper}
    (hops : (ops.map fun o => (o.op, o.dst, o.guard)) = #[(Op.move (Operand.tmp 5), some 28, none), (Op.fieldAddr 37 (Operand.tmp 1) 2, some 29, none), (Op.load 22 (Operand.tmp 29), some 30, none), (Op.fieldAddr 37 (Operand.tmp 1) 2, some 31, none), (Op.load 22 (Operand.tmp 31), some 32, none), (Op.call { callee := Callee.value (Operand.func 76), args := #[(Operand.tmp 32)], argTypes := #[22] }, some 33, none), (Op.makeSlice 22 (Operand.tmp 33) (Operand.tmp 33), some 34, none), (Op.buildSlice 147 3 #[(0, (Operand.tmp 28)), (1, (Operand.tmp 30)), (2, (Operand.tmp 34))], some 35, none), (Op.call { callee := Callee.value (Operand.func 75), args := #[(Operand.tmp 35)], argTypes := #[147] }, some 36, none), (Op.build 48 #[(1, (Operand.tmp 36))], some 37, none), (Op.store 48 (Operand.tmp 2) (Operand.tmp 37), none, none)])
    (hdeps : ((List.range 11).all fun i => ((fun i => [[], [], [1], [], [3], [4], [5], [0, 2, 6], [7], [8], [0, 1, 2, 3, 4, 5, 6, 7, 8, 9]].getD i []) i).all fun j => ((ops[i]?).map fun o => o.after.any fun e => Region.binds .any e && e.on == j).getD false) = true)
    (hback : ((List.range 11).all fun i => ((ops[i]?).map fun o => o.after.all fun e => decide (e.on < i)).getD false) = true)
    {a0 : Act} {w0 : World} (ha : a0 = { tmps := #[x0, .pointer (some ⟨g, 0, none⟩), .pointer (some ⟨r, 0, none⟩), x3, x4, .slice (some ⟨h, 0, none⟩) 4 4, x6, x7, x8, x9, x10, x11, x12, x13, x14, x15, x16, x17, x18, x19, x20, x21, x22, x23, x24, x25, x26, x27, undef, undef, undef, undef, undef, undef, undef, undef, undef, undef], defers := [] }) (hE : (false = true → false = true) ∧ (false = true → false = true) ∧ (false = true → false = true) ∧ (false = true → false = true)) (hM : PcM g h k f A b c w0) (hR : false = false → Blk w0 r 48 #[.int .i64 0, .slice none 0 0]) (hW : Below ws.heap.size ws w0) (hS : w0.heap.size ≤ w0.heap.size) (hr1 : r < w0.heap.size)
    (fin : ∀ t28 t29 t30 t31 t32 t33 t34 t35 t36 t37 (W : World), (Below ws.heap.size ws W) → (∃ (A8 : Option Addr) (c8 : Nat), Blk W r 48 #[.int .i64 0, (.slice A8 L.length c8)] ∧ W.ownsRow w0.heap.size 5 1 (.slice A8 L.length c8) L.length (L.map (Value.int .u8)) ∧ L.length ≤ c8 ∧ (c8 : Int) ≤ 9223372036854775807) → Q .normal { tmps := #[x0, .pointer (some ⟨g, 0, none⟩), .pointer (some ⟨r, 0, none⟩), x3, x4, .slice (some ⟨h, 0, none⟩) 4 4, x6, x7, x8, x9, x10, x11, x12, x13, x14, x15, x16, x17, x18, x19, x20, x21, x22, x23, x24, x25, x26, x27, t28, t29, t30, t31, t32, t33, t34, t35, t36, t37], defers := [] } W) :
    wpAny Tryz.prog .any ops Q ops.size (Array.replicate ops.size false) a0 w0 := by
  have hn : ops.size = 11 := by have := congrArg Array.size hops; simpa using this
  obtain ⟨J, HJ⟩ : ∃ J : (Nat → Bool) → Act → World → Prop, ∀ dn ac W, J dn ac W ↔ (fun dn ac W => ∃ t28 t29 t30 t31 t32 t33 t34 t35 t36 t37, ac = { tmps := #[x0, .pointer (some ⟨g, 0, none⟩), .pointer (some ⟨r, 0, none⟩), x3, x4, .slice (some ⟨h, 0, none⟩) 4 4, x6, x7, x8, x9, x10, x11, x12, x13, x14, x15, x16, x17, x18, x19, x20, x21, x22, x23, x24, x25, x26, x27, t28, t29, t30, t31, t32, t33, t34, t35, t36, t37], defers := [] } ∧ ((dn 10 = true → dn 9 = true) ∧ (dn 9 = true → dn 8 = true) ∧ (dn 8 = true → dn 7 = true) ∧ (dn 7 = true → dn 6 = true)) ∧ (PcM g h k f A b c W) ∧ (dn 10 = false → Blk W r 48 #[.int .i64 0, .slice none 0 0]) ∧ (Below ws.heap.size ws W) ∧ (w0.heap.size ≤ W.heap.size) ∧ (r < w0.heap.size) ∧ (dn 0 = true → t28 = .slice (some ⟨h, 0, none⟩) 4 4) ∧ (dn 1 = true → t29 = .pointer (some ⟨g, 2, none⟩)) ∧ (dn 2 = true → t30 = .slice A b.length c) ∧ (dn 3 = true → t31 = .pointer (some ⟨g, 2, none⟩)) ∧ (dn 4 = true → t32 = .slice A b.length c) ∧ (dn 5 = true → t33 = .int .i64 ((p : Nat) : Int)) ∧ (dn 6 = true → dn 7 = false → ∃ (z : Nat), t34 = .slice (some ⟨z, 0, none⟩) p p ∧ Bs W (some ⟨z, 0, none⟩) (List.replicate p 0)) ∧ (dn 7 = true → dn 8 = false → ∃ (q : Nat), t35 = .slice (some ⟨q, 0, none⟩) 3 3 ∧ Parts W q [[k, f, (4 + (b.length : Int)) / 256, 4 + (b.length : Int)], b, List.replicate p 0]) ∧ (dn 8 = true → dn 9 = false → ∃ (A8 : Option Addr) (c8 : Nat), t36 = (.slice A8 L.length c8) ∧ W.ownsRow w0.heap.size 5 1 (.slice A8 L.length c8) L.length (L.map (Value.int .u8)) ∧ L.length ≤ c8 ∧ (c8 : Int) ≤ 9223372036854775807) ∧ (dn 9 = true → dn 10 = false → ∃ (A8 : Option Addr) (c8 : Nat), t37 = .agg #[.int .i64 0, (.slice A8 L.length c8)] ∧ W.ownsRow w0.heap.size 5 1 (.slice A8 L.length c8) L.length (L.map (Value.int .u8)) ∧ L.length ≤ c8 ∧ (c8 : Int) ≤ 9223372036854775807) ∧ (dn 10 = true → ∃ (A8 : Option Addr) (c8 : Nat), Blk W r 48 #[.int .i64 0, (.slice A8 L.length c8)] ∧ W.ownsRow w0.heap.size 5 1 (.slice A8 L.length c8) L.length (L.map (Value.int .u8)) ∧ L.length ≤ c8 ∧ (c8 : Int) ≤ 9223372036854775807)) dn ac W := ⟨_, fun _ _ _ => Iff.rfl⟩
  replace HJ := hidH HJ
  refine region_inv 11 (fun i => [[], [], [1], [], [3], [4], [5], [0, 2, 6], [7], [8], [0, 1, 2, 3, 4, 5, 6, 7, 8, 9]].getD i []) J hn hdeps hback ?start ?step ?fin
  case start => exact (HJ.out _ _ _).2 ⟨undef, undef, undef, undef, undef, undef, undef, undef, undef, undef, ha, hE, hM, hR, hW, hS, hr1, fun h => by simp at h, fun h => by simp at h, fun h => by simp at h, fun h => by simp at h, fun h => by simp at h, fun h => by simp at h, fun h => by simp at h, fun h => by simp at h, fun h => by simp at h, fun h => by simp at h, fun h => by simp at h⟩
  all_goals clear ha hE hM hR hW hS hr1
  case step =>
    clear fin hdeps hback
    intro i hi dn ac W hJ hdn hdep
    obtain ⟨t28, t29, t30, t31, t32, t33, t34, t35, t36, t37, rfl, hE, hM, hR, hW, hS, hr1, h0, h1, h2, h3, h4, h5, h6, h7, h8, h9, h10⟩ := (HJ.out _ _ _).1 hJ
    clear hJ
    match i, hi with
    | 0, _ =>
      obtain ⟨ty, ps, af, ho⟩ := op_lit hops (i := 0) (op := Op.move (Operand.tmp 5)) (dst := some 28) (g := none) rfl
      refine wpOp_lit ho (fun j b h => by cases h) ?_
      clear hops hdep ho
      replace h1 := hidH h1
      replace h2 := hidH h2
      replace h3 := hidH h3
      replace h4 := hidH h4
      replace h5 := hidH h5
      replace h6 := hidH h6
      replace h7 := hidH h7
      replace h8 := hidH h8
      replace h9 := hidH h9
      replace h10 := hidH h10
      go_wp2
      exact (HJ.out _ _ _).2 ⟨_, _, _, _, _, _, _, _, _, _, rfl, hE, hM, hR, hW, hS, hr1, fun _ => rfl, h1.out, h2.out, h3.out, h4.out, h5.out, h6.out, h7.out, h8.out, h9.out, h10.out⟩
    | 1, _ =>
      obtain ⟨ty, ps, af, ho⟩ := op_lit hops (i := 1) (op := Op.fieldAddr 37 (Operand.tmp 1) 2) (dst := some 29) (g := none) rfl
      refine wpOp_lit ho (fun j b h => by cases h) ?_
      clear hops hdep ho
      replace h0 := hidH h0
      replace h2 := hidH h2
      replace h3 := hidH h3
      replace h4 := hidH h4
      replace h5 := hidH h5
      replace h6 := hidH h6
      replace h7 := hidH h7
      replace h8 := hidH h8
      replace h9 := hidH h9
      replace h10 := hidH h10
      go_wp2
      exact (HJ.out _ _ _).2 ⟨_, _, _, _, _, _, _, _, _, _, rfl, hE, hM, hR, hW, hS, hr1, h0.out, fun _ => rfl, h2.out, h3.out, h4.out, h5.out, h6.out, h7.out, h8.out, h9.out, h10.out⟩
    | 2, _ =>
      obtain ⟨ty, ps, af, ho⟩ := op_lit hops (i := 2) (op := Op.load 22 (Operand.tmp 29)) (dst := some 30) (g := none) rfl
      obtain rfl := h1 (hdep 1 (by simp))
      refine wpOp_lit ho (fun j b h => by cases h) ?_
      clear hops hdep ho
      replace h0 := hidH h0
      replace h1 := hidH h1
      replace h3 := hidH h3
      replace h4 := hidH h4
      replace h5 := hidH h5
      replace h6 := hidH h6
      replace h7 := hidH h7
      replace h8 := hidH h8
      replace h9 := hidH h9
      replace h10 := hidH h10
      have q2 := hM.ck.cell 2
      simp only [List.getElem?_toArray, List.getElem?_cons_succ, List.getElem?_cons_zero] at q2
      go_wp2
      exact (HJ.out _ _ _).2 ⟨_, _, _, _, _, _, _, _, _, _, rfl, hE, hM, hR, hW, hS, hr1, h0.out, fun _ => rfl, fun _ => rfl, h3.out, h4.out, h5.out, h6.out, h7.out, h8.out, h9.out, h10.out⟩
    | 3, _ =>
      obtain ⟨ty, ps, af, ho⟩ := op_lit hops (i := 3) (op := Op.fieldAddr 37 (Operand.tmp 1) 2) (dst := some 31) (g := none) rfl
      refine wpOp_lit ho (fun j b h => by cases h) ?_
      clear hops hdep ho
      replace h0 := hidH h0
      replace h1 := hidH h1
      replace h2 := hidH h2
      replace h4 := hidH h4
      replace h5 := hidH h5
      replace h6 := hidH h6
      replace h7 := hidH h7
      replace h8 := hidH h8
      replace h9 := hidH h9
      replace h10 := hidH h10
      go_wp2
      exact (HJ.out _ _ _).2 ⟨_, _, _, _, _, _, _, _, _, _, rfl, hE, hM, hR, hW, hS, hr1, h0.out, h1.out, h2.out, fun _ => rfl, h4.out, h5.out, h6.out, h7.out, h8.out, h9.out, h10.out⟩
    | 4, _ =>
      obtain ⟨ty, ps, af, ho⟩ := op_lit hops (i := 4) (op := Op.load 22 (Operand.tmp 31)) (dst := some 32) (g := none) rfl
      obtain rfl := h3 (hdep 3 (by simp))
      refine wpOp_lit ho (fun j b h => by cases h) ?_
      clear hops hdep ho
      replace h0 := hidH h0
      replace h1 := hidH h1
      replace h2 := hidH h2
      replace h3 := hidH h3
      replace h5 := hidH h5
      replace h6 := hidH h6
      replace h7 := hidH h7
      replace h8 := hidH h8
      replace h9 := hidH h9
      replace h10 := hidH h10
      have q2 := hM.ck.cell 2
      simp only [List.getElem?_toArray, List.getElem?_cons_succ, List.getElem?_cons_zero] at q2
      go_wp2
      exact (HJ.out _ _ _).2 ⟨_, _, _, _, _, _, _, _, _, _, rfl, hE, hM, hR, hW, hS, hr1, h0.out, h1.out, h2.out, fun _ => rfl, fun _ => rfl, h5.out, h6.out, h7.out, h8.out, h9.out, h10.out⟩
    | 5, _ =>
      obtain ⟨ty, ps, af, ho⟩ := op_lit hops (i := 5) (op := Op.call { callee := Callee.value (Operand.func 76), args := #[(Operand.tmp 32)], argTypes := #[22] }) (dst := some 33) (g := none) rfl
      obtain rfl := h4 (hdep 4 (by simp))
      refine wpOp_lit ho (fun j b h => by cases h) ?_
      clear hops hdep ho
      replace h0 := hidH h0
      replace h1 := hidH h1
      replace h2 := hidH h2
      replace h3 := hidH h3
      replace h4 := hidH h4
      replace h6 := hidH h6
      replace h7 := hidH h7
      replace h8 := hidH h8
      replace h9 := hidH h9
      replace h10 := hidH h10
      go_wp2_with fail
      refine (padz_any A b.length c _ (by omega)).mono ?_
      rintro e w1 ⟨rfl, rfl⟩
      rw [← hp.out]
      go_wp2
      exact (HJ.out _ _ _).2 ⟨_, _, _, _, _, _, _, _, _, _, rfl, hE, hM, hR, hW, hS, hr1, h0.out, h1.out, h2.out, h3.out, fun _ => rfl, fun _ => rfl, h6.out, h7.out, h8.out, h9.out, h10.out⟩
    | 6, _ =>
      obtain ⟨ty, ps, af, ho⟩ := op_lit hops (i := 6) (op := Op.makeSlice 22 (Operand.tmp 33) (Operand.tmp 33)) (dst := some 34) (g := none) rfl
      obtain rfl := h5 (hdep 5 (by simp))
      refine wpOp_lit ho (fun j b h => by cases h) ?_
      clear hops hdep ho
      replace h0 := hidH h0
      replace h1 := hidH h1
      replace h2 := hidH h2
      replace h3 := hidH h3
      replace h4 := hidH h4
      replace h5 := hidH h5
      replace h7 := hidH h7
      replace h8 := hidH h8
      replace h9 := hidH h9
      replace h10 := hidH h10
      obtain ⟨i0, hi, hz0, hz1, hz2⟩ := info_parts infoU8
      have HI := hidH (And.intro hi (And.intro hz0 (And.intro hz1 hz2)))
      clear hi hz0 hz1 hz2
      have hp4 : p < 4 := by rw [hp.out]; unfold chPad; omega
      go_wp2_with (refine wpList_make_full _ rfl _ _ _ rfl W.heap.size 5 i0 _ 1 Tryz.underlying22 HI.out.1 HI.out.2.1 HI.out.2.2.1 .i64 .i64 _ _ p rfl rfl rfl rfl (by rw [HI.out.2.2.2]; omega) (by unfold maxLen; omega) (Nat.le_refl _) ?_)
      intro w2 o2 g2
      have hb := (Below.refl W.heap.size W).grown g2 (Nat.le_refl _) (fun k hk => by cases hk)
      have S6 := hidH (zeros_bs o2)
      clear o2 g2
      go_wp2
      exact (HJ.out _ _ _).2 ⟨_, _, _, _, _, _, _, _, _, _, rfl, ⟨hE.1, hE.2.1, hE.2.2.1, fun _ => rfl⟩, hM.below hb, fun h => (hR h).below hb, btr hW hb, Nat.le_trans hS hb.size, hr1, h0.out, h1.out, h2.out, h3.out, h4.out, fun _ => rfl, fun _ => fun _ => ⟨_, rfl, S6.out⟩, fun h h2 => by obtain ⟨q, q1, q2⟩ := h7.out h h2; exact ⟨q, q1, q2.below hb⟩, fun h h2 => by obtain ⟨A8, c8, q1, q2, q3⟩ := h8.out h h2; exact ⟨A8, c8, q1, own_below0 q2 hb, q3⟩, fun h h2 => by obtain ⟨A8, c8, q1, q2, q3⟩ := h9.out h h2; exact ⟨A8, c8, q1, own_below0 q2 hb, q3⟩, (fun h => by have h3 : dn 6 = true := hE.2.2.2 (hE.2.2.1 (hE.2.1 (hE.1 h))); rw [hdn] at h3; cases h3)⟩
    | 7, _ =>
      obtain ⟨ty, ps, af, ho⟩ := op_lit hops (i := 7) (op := Op.buildSlice 147 3 #[(0, (Operand.tmp 28)), (1, (Operand.tmp 30)), (2, (Operand.tmp 34))]) (dst := some 35) (g := none) rfl
      have hd6 := hidH (hdep 6 (by simp))
      obtain ⟨z, rfl, q2⟩ := h6 (hdep 6 (by simp)) hdn
      obtain rfl := h0 (hdep 0 (by simp))
      obtain rfl := h2 (hdep 2 (by simp))
      refine wpOp_lit ho (fun j b h => by cases h) ?_
      clear hops hdep ho
      replace h0 := hidH h0
      replace h1 := hidH h1
      replace h2 := hidH h2
      replace h3 := hidH h3
      replace h4 := hidH h4
      replace h5 := hidH h5
      replace h6 := hidH h6
      replace h8 := hidH h8
      replace h9 := hidH h9
      replace h10 := hidH h10
      go_wp2
      have hb := bal (Below.refl W.heap.size W) (.cells #[.slice (some ⟨h, 0, none⟩) 4 4, .slice A b.length c, .slice (some ⟨z, 0, none⟩) p p] 22)
      have hbd := bs_below HB.out hW
      have S7 := hidH (parts3 (Blk.new W 22 #[.slice (some ⟨h, 0, none⟩) 4 4, .slice A b.length c, .slice (some ⟨z, 0, none⟩) p p]) (l1 := [k, f, (4 + (b.length : Int)) / 256, 4 + (b.length : Int)]) (l2 := b) (l3 := List.replicate p 0) rfl rfl List.length_replicate.symm (bs_below hM.hd hb) (bs_below hbd hb) (bs_below q2 hb))
      exact (HJ.out _ _ _).2 ⟨_, _, _, _, _, _, _, _, _, _, rfl, ⟨hE.1, hE.2.1, fun _ => rfl, fun _ => hd6.out⟩, hM.below hb, fun h => (hR h).below hb, btr hW hb, Nat.le_trans hS hb.size, hr1, fun _ => rfl, h1.out, fun _ => rfl, h3.out, h4.out, h5.out, (fun _ h2 => by simp at h2), fun _ => fun _ => ⟨_, rfl, S7.out⟩, fun h h2 => by obtain ⟨A8, c8, q1, q2, q3⟩ := h8.out h h2; exact ⟨A8, c8, q1, own_below0 q2 hb, q3⟩, fun h h2 => by obtain ⟨A8, c8, q1, q2, q3⟩ := h9.out h h2; exact ⟨A8, c8, q1, own_below0 q2 hb, q3⟩, (fun h => by have h3 : dn 7 = true := hE.2.2.1 (hE.2.1 (hE.1 h)); rw [hdn] at h3; cases h3)⟩
    | 8, _ =>
      obtain ⟨ty, ps, af, ho⟩ := op_lit hops (i := 8) (op := Op.call { callee := Callee.value (Operand.func 75), args := #[(Operand.tmp 35)], argTypes := #[147] }) (dst := some 36) (g := none) rfl
      have hd7 := hidH (hdep 7 (by simp))
      obtain ⟨q, rfl, q2⟩ := h7 (hdep 7 (by simp)) hdn
      refine wpOp_lit ho (fun j b h => by cases h) ?_
      clear hops hdep ho
      replace h0 := hidH h0
      replace h1 := hidH h1
      replace h2 := hidH h2
      replace h3 := hidH h3
      replace h4 := hidH h4
      replace h5 := hidH h5
      replace h6 := hidH h6
      replace h7 := hidH h7
      replace h9 := hidH h9
      replace h10 := hidH h10
      go_wp2_with fail
      refine (CON _ q q2).mono ?_
      rintro e w1 ⟨v, rfl, ow, hb⟩
      obtain ⟨A8, c8, rfl, _, h81, h82⟩ := own_ob ow
      have o8 := hidH (own_mono ow hS)
      have hc8 := hidH (And.intro h81 h82)
      clear ow h81 h82
      go_wp2
      exact (HJ.out _ _ _).2 ⟨_, _, _, _, _, _, _, _, _, _, rfl, ⟨hE.1, fun _ => rfl, fun _ => hd7.out, hE.2.2.2⟩, hM.below hb, fun h => (hR h).below hb, btr hW hb, Nat.le_trans hS hb.size, hr1, h0.out, h1.out, h2.out, h3.out, h4.out, h5.out, fun h h2 => by obtain ⟨z, q1, q2⟩ := h6.out h h2; exact ⟨z, q1, bs_below q2 hb⟩, (fun _ h2 => by simp at h2), fun _ => fun _ => ⟨A8, c8, rfl, o8.out, hc8.out⟩, fun h h2 => by obtain ⟨A8, c8, q1, q2, q3⟩ := h9.out h h2; exact ⟨A8, c8, q1, own_below0 q2 hb, q3⟩, (fun h => by have h3 : dn 8 = true := hE.2.1 (hE.1 h); rw [hdn] at h3; cases h3)⟩
    | 9, _ =>
      obtain ⟨ty, ps, af, ho⟩ := op_lit hops (i := 9) (op := Op.build 48 #[(1, (Operand.tmp 36))]) (dst := some 37) (g := none) rfl
      have hd8 := hidH (hdep 8 (by simp))
      obtain ⟨A8, c8, rfl, q2, q3⟩ := h8 (hdep 8 (by simp)) hdn
      refine wpOp_lit ho (fun j b h => by cases h) ?_
      clear hops hdep ho
      replace h0 := hidH h0
      replace h1 := hidH h1
      replace h2 := hidH h2
      replace h3 := hidH h3
      replace h4 := hidH h4
      replace h5 := hidH h5
      replace h6 := hidH h6
      replace h7 := hidH h7
      replace h8 := hidH h8
      replace h10 := hidH h10
      have hb := Below.refl W.heap.size W
      go_wp2
      exact (HJ.out _ _ _).2 ⟨_, _, _, _, _, _, _, _, _, _, rfl, ⟨fun _ => rfl, fun _ => hd8.out, hE.2.2⟩, hM.below hb, fun h => (hR h).below hb, btr hW hb, Nat.le_trans hS hb.size, hr1, h0.out, h1.out, h2.out, h3.out, h4.out, h5.out, fun h h2 => by obtain ⟨z, q1, q2⟩ := h6.out h h2; exact ⟨z, q1, bs_below q2 hb⟩, fun h h2 => by obtain ⟨q, q1, q2⟩ := h7.out h h2; exact ⟨q, q1, q2.below hb⟩, (fun _ h2 => by simp at h2), fun _ => fun _ => ⟨A8, c8, rfl, q2, q3⟩, (fun h => by have h3 : dn 9 = true := hE.1 h; rw [hdn] at h3; cases h3)⟩
    | 10, _ =>
      obtain ⟨ty, ps, af, ho⟩ := op_lit hops (i := 10) (op := Op.store 48 (Operand.tmp 2) (Operand.tmp 37)) (dst := none) (g := none) rfl
      obtain ⟨A8, c8, rfl, q2, q3⟩ := h9 (hdep 9 (by simp)) hdn
      have hd7 := hidH (hdep 7 (by simp))
      have hd8 := hidH (hdep 8 (by simp))
      have hd9 := hidH (hdep 9 (by simp))
      refine wpOp_lit ho (fun j b h => by cases h) ?_
      clear hops hdep ho
      replace h0 := hidH h0
      replace h1 := hidH h1
      replace h2 := hidH h2
      replace h3 := hidH h3
      replace h4 := hidH h4
      replace h5 := hidH h5
      replace h6 := hidH h6
      replace h7 := hidH h7
      replace h8 := hidH h8
      replace h9 := hidH h9
      have RR := hR hdn
      obtain ⟨x0, x1, xz⟩ := RR.two
      have f0 := RR.frozen 0
      have f1 := RR.frozen 1
      have RS := hidH (blk_set2 RR (.int .i64 0) (.slice A8 L.length c8))
      go_wp2
      exact (HJ.out _ _ _).2 ⟨_, _, _, _, _, _, _, _, _, _, rfl, ⟨fun _ => hd9.out, hE.2⟩, (hM.set r 0 hgr hhr _).set r 1 hgr hhr _, (fun h => by simp at h), bst (bst hW hr0 _) hr0 _, (by simpa [World.setCell] using hS), hr1, h0.out, h1.out, h2.out, h3.out, h4.out, h5.out, (fun _ h2 => by have h3 : dn 7 = false := h2; rw [hd7.out] at h3; cases h3), (fun _ h2 => by have h3 : dn 8 = false := h2; rw [hd8.out] at h3; cases h3), (fun _ h2 => by have h3 : dn 9 = false := h2; rw [hd9.out] at h3; cases h3), (fun _ h2 => by simp at h2), fun _ => ⟨A8, c8, RS.out, own_kept (own_kept q2 (win_set _ _ _ _) (by omega)) (win_set _ _ _ _) (by omega), q3⟩⟩
    | n + 11, h => omega
  case fin =>
    clear hops hdeps hback
    rintro dn ac W hJ hall
    obtain ⟨t28, t29, t30, t31, t32, t33, t34, t35, t36, t37, rfl, hE, hM, hR, hW, hS, hr1, h0, h1, h2, h3, h4, h5, h6, h7, h8, h9, h10⟩ := (HJ.out _ _ _).1 hJ
    exact fin _ _ _ _ _ _ _ _ _ _ W hW (h10 (hall 10 (by omega)))
end Go.Proofs.YtncnibkojneejaaGreatDoor
