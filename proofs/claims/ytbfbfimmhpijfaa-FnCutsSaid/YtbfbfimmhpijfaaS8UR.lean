/- The region of DrawCutMessage that draws its order. -/
import Derived.Test.YtbfbfimmhpijfaaNa4
import Derived.Test.YtbfbfimmhpijfaaRegInv2
namespace Go.Proofs.Ytbfbfimmhpijfaa
open Go.RowKit Go.Deep

theorem src_put {w : World} {g r : Nat} {A : Option Addr} {l : List Int} {c a : Nat} (h : Src w g A l c a) (hr : r < g) (hA : ∀ a, A = some a → l = [] ∨ a.block < r) (i : Nat) (u : Value) : Src (w.setCell ⟨r, i, none⟩ u) g A l c a :=
  ⟨h.blk.far (p := ⟨r, i, none⟩) (by show r ≠ g; omega) u, h.bytes, by
    rcases h.row with h1 | ⟨b, off, e, h2, h3⟩
    · exact .inl h1
    · rcases hA _ e with h4 | h4
      · exact .inl h4
      · exact .inr ⟨b, off, e, h2, fun j hj => (World.cell?_setCell_other _ _ _ _ (fun e2 => by injection e2 with e3 _; have : b < r := h4; omega)).trans (h3 j hj)⟩, h.len⟩
theorem src_put3 {w : World} {g r : Nat} {A : Option Addr} {l : List Int} {c a : Nat} (h : Src w g A l c a) (hr : r < g) (hA : ∀ a, A = some a → l = [] ∨ a.block < r) (u0 u1 u2 : Value) : Src (((w.setCell ⟨r, 0, none⟩ u0).setCell ⟨r, 1, none⟩ u1).setCell ⟨r, 2, none⟩ u2) g A l c a :=
  src_put (src_put (src_put h hr hA 0 u0) hr hA 1 u1) hr hA 2 u2
set_option maxRecDepth 100000 in
set_option maxHeartbeats 1000000 in
theorem regU6 {Q : Exit → Act → World → Prop} (x0 x1 x9 x10 x11 x12 x13 x14 x15 x16 x17 x18 x19 x20 x21 x22 : Value) (ww : World) (gR g gm lo hi k0 xn xc c : Nat) (st sq : Int) (ub : Bool) (X A : Option Addr) (l xl : List Int)
    (hRg : gR < g) (hgm : g < gm) (hlo : g + 1 ≤ lo) (hk0 : (k0 : Int) ≤ 1000) (hAR : ∀ a, A = some a → l = [] ∨ a.block < gR) {ops : Array Oper}
    (hops : (ops.map fun o => (o.op, o.dst, o.guard)) = #[(Op.load 25 (Operand.tmp 7), some 23, none), (Op.move (Operand.tmp 6), some 24, none), (Op.buildSlice 98 8 #[(0, (Operand.const (Value.int .i64 4))), (1, (Operand.const (Value.int .i64 5))), (2, (Operand.const (Value.int .i64 8))), (3, (Operand.const (Value.int .i64 100))), (4, (Operand.const (Value.int .i64 100))), (5, (Operand.const (Value.int .i64 3))), (6, (Operand.const (Value.int .i64 101))), (7, (Operand.const (Value.int .i64 10)))], some 25, none), (Op.call { callee := Callee.value (Operand.func 41), args := #[(Operand.tmp 24), (Operand.tmp 25)], argTypes := #[63, 98] }, some 26, none), (Op.move (Operand.tmp 6), some 27, none), (Op.call { callee := Callee.value (Operand.func 43), args := #[(Operand.tmp 27)], argTypes := #[63] }, some 28, none), (Op.move (Operand.tmp 8), some 29, none), (Op.store 25 (Operand.tmp 2) (Operand.tmp 23), none, none), (Op.assign (Operand.tmp 26), some 3, none), (Op.assign (Operand.tmp 28), some 4, none), (Op.assign (Operand.tmp 29), some 5, none)])
    (hdeps : ((List.range 11).all fun i => ((fun i => [[], [], [], [1, 2], [], [3, 4], [], [0], [3], [5], [6]].getD i []) i).all fun j => ((ops[i]?).map fun o => o.after.any fun e => Region.binds .any e && e.on == j).getD false) = true)
    (hback : ((List.range 11).all fun i => ((ops[i]?).map fun o => o.after.all fun e => !(Region.binds .any e) || decide (e.on < i)).getD false) = true)
    {a0 : Act} {w0 : World} (ha : a0 = { tmps := #[x0, x1, .pointer (some ⟨gR, 0, none⟩), .int .i64 0, .int .i64 0, .int .i64 0, .pointer (some ⟨g, 0, none⟩), .pointer (some ⟨gm, 0, none⟩), .int .i64 sq, x9, x10, x11, x12, x13, x14, x15, x16, x17, x18, x19, x20, x21, x22, undef, undef, undef, undef, undef, undef, undef], defers := [] }) (hM : Blk w0 gm 25 #[.int .i64 st, .bool ub, .slice X xn xc]) (hR0 : false = false → Blk w0 gR 25 #[.int .i64 0, .bool false, .slice none 0 0]) (hR1 : false = true → Blk w0 gR 25 #[.int .i64 st, .bool ub, .slice X xn xc]) (hO : Below gR ww w0) (hg : g < w0.heap.size) (hX : OwV lo hi w0 (.bs xl) (.slice X xn xc)) (hS : (false = false → Src w0 g A l c k0) ∧ (false = true → false = false → ∃ a1 : Nat, (a1 : Int) ≤ 100000 ∧ Src w0 g A l c a1))
    (fin : ∀ t23 t24 t25 t26 t27 t28 t29 t3 t4 (W : World), (Blk W gm 25 #[.int .i64 st, .bool ub, .slice X xn xc]) → (Blk W gR 25 #[.int .i64 st, .bool ub, .slice X xn xc]) → (Below gR ww W) → (OwV lo hi W (.bs xl) (.slice X xn xc)) → (∃ sz : Int, t3 = .int .i64 sz ∧ (3 ≤ sz ∧ sz ≤ 101)) → (∃ tn : Int, t4 = .int .i64 tn ∧ (-1 ≤ tn ∧ tn ≤ 4294967296)) → Q .normal { tmps := #[x0, x1, .pointer (some ⟨gR, 0, none⟩), t3, t4, .int .i64 sq, .pointer (some ⟨g, 0, none⟩), .pointer (some ⟨gm, 0, none⟩), .int .i64 sq, x9, x10, x11, x12, x13, x14, x15, x16, x17, x18, x19, x20, x21, x22, t23, t24, t25, t26, t27, t28, t29], defers := [] } W) :
    wpAny Try.prog .any ops Q ops.size (Array.replicate ops.size false) a0 w0 := by
  have hn : ops.size = 11 := by have := congrArg Array.size hops; simpa using this
  obtain ⟨J, HJ⟩ : ∃ J : (Nat → Bool) → Act → World → Prop, ∀ dn ac W, J dn ac W ↔ (fun dn ac W => ∃ t23 t24 t25 t26 t27 t28 t29 t3 t4 t5, ac = { tmps := #[x0, x1, .pointer (some ⟨gR, 0, none⟩), t3, t4, t5, .pointer (some ⟨g, 0, none⟩), .pointer (some ⟨gm, 0, none⟩), .int .i64 sq, x9, x10, x11, x12, x13, x14, x15, x16, x17, x18, x19, x20, x21, x22, t23, t24, t25, t26, t27, t28, t29], defers := [] } ∧ (Blk W gm 25 #[.int .i64 st, .bool ub, .slice X xn xc]) ∧ (dn 7 = false → Blk W gR 25 #[.int .i64 0, .bool false, .slice none 0 0]) ∧ (dn 7 = true → Blk W gR 25 #[.int .i64 st, .bool ub, .slice X xn xc]) ∧ (Below gR ww W) ∧ (g < W.heap.size) ∧ (OwV lo hi W (.bs xl) (.slice X xn xc)) ∧ ((dn 3 = false → Src W g A l c k0) ∧ (dn 3 = true → dn 5 = false → ∃ a1 : Nat, (a1 : Int) ≤ 100000 ∧ Src W g A l c a1)) ∧ (dn 8 = false → t3 = .int .i64 0) ∧ (dn 9 = false → t4 = .int .i64 0) ∧ (dn 10 = false → t5 = .int .i64 0) ∧ (dn 0 = true → t23 = .agg #[.int .i64 st, .bool ub, .slice X xn xc]) ∧ (dn 1 = true → t24 = .pointer (some ⟨g, 0, none⟩)) ∧ (dn 2 = true → dn 3 = false → ∃ B : Nat, t25 = .slice (some ⟨B, 0, none⟩) 8 8 ∧ Blk W B 2 #[.int .i64 4, .int .i64 5, .int .i64 8, .int .i64 100, .int .i64 100, .int .i64 3, .int .i64 101, .int .i64 10] ∧ g < B) ∧ (dn 3 = true → ∃ sz : Int, t26 = .int .i64 sz ∧ (3 ≤ sz ∧ sz ≤ 101)) ∧ (dn 4 = true → t27 = .pointer (some ⟨g, 0, none⟩)) ∧ (dn 5 = true → ∃ tn : Int, t28 = .int .i64 tn ∧ (-1 ≤ tn ∧ tn ≤ 4294967296)) ∧ (dn 6 = true → t29 = .int .i64 sq) ∧ (dn 8 = true → ∃ sz : Int, t3 = .int .i64 sz ∧ (3 ≤ sz ∧ sz ≤ 101)) ∧ (dn 9 = true → ∃ tn : Int, t4 = .int .i64 tn ∧ (-1 ≤ tn ∧ tn ≤ 4294967296)) ∧ (dn 10 = true → t5 = .int .i64 sq)) dn ac W := ⟨_, fun _ _ _ => Iff.rfl⟩
  replace HJ := hidH HJ
  refine region_inv2 11 (fun i => [[], [], [], [1, 2], [], [3, 4], [], [0], [3], [5], [6]].getD i []) J hn hdeps hback ?start ?step ?fin
  case start => exact (HJ.out _ _ _).2 ⟨undef, undef, undef, undef, undef, undef, undef, .int .i64 0, .int .i64 0, .int .i64 0, ha, hM, hR0, hR1, hO, hg, hX, hS, fun _ => rfl, fun _ => rfl, fun _ => rfl, fun h => by simp at h, fun h => by simp at h, fun h => by simp at h, fun h => by simp at h, fun h => by simp at h, fun h => by simp at h, fun h => by simp at h, fun h => by simp at h, fun h => by simp at h, fun h => by simp at h⟩
  all_goals clear ha hM hR0 hR1 hO hg hX hS
  case step =>
    clear fin hdeps hback
    intro i hi dn ac W hJ hdn hdep
    obtain ⟨t23, t24, t25, t26, t27, t28, t29, t3, t4, t5, rfl, hM, hR0, hR1, hO, hg, hX, hS, o8, o9, o10, h0, h1, h2, h3, h4, h5, h6, h8, h9, h10⟩ := (HJ.out _ _ _).1 hJ
    clear hJ
    match i, hi with
    | 0, _ =>
      obtain ⟨ty, ps, af, ho⟩ := op_lit hops (i := 0) (op := Op.load 25 (Operand.tmp 7)) (dst := some 23) (g := none) rfl
      refine wpOp_lit ho (fun j b h => by cases h) ?_
      clear hops hdep ho
      replace h1 := hidH h1
      replace h2 := hidH h2
      replace h3 := hidH h3
      replace h4 := hidH h4
      replace h5 := hidH h5
      replace h6 := hidH h6
      replace h8 := hidH h8
      replace h9 := hidH h9
      replace h10 := hidH h10
      replace o8 := hidH o8
      replace o9 := hidH o9
      replace o10 := hidH o10
      have q0 := hM.cell 0
      have q1 := hM.cell 1
      have q2 := hM.cell 2
      simp only [List.getElem?_toArray, List.getElem?_cons_succ, List.getElem?_cons_zero] at q0 q1 q2
      go_wp2
      exact (HJ.out _ _ _).2 ⟨_, _, _, _, _, _, _, _, _, _, rfl, hM, hR0, hR1, hO, hg, hX, hS, o8.out, o9.out, o10.out, fun _ => rfl, h1.out, h2.out, h3.out, h4.out, h5.out, h6.out, h8.out, h9.out, h10.out⟩
    | 1, _ =>
      obtain ⟨ty, ps, af, ho⟩ := op_lit hops (i := 1) (op := Op.move (Operand.tmp 6)) (dst := some 24) (g := none) rfl
      refine wpOp_lit ho (fun j b h => by cases h) ?_
      clear hops hdep ho
      replace h0 := hidH h0
      replace h2 := hidH h2
      replace h3 := hidH h3
      replace h4 := hidH h4
      replace h5 := hidH h5
      replace h6 := hidH h6
      replace h8 := hidH h8
      replace h9 := hidH h9
      replace h10 := hidH h10
      replace o8 := hidH o8
      replace o9 := hidH o9
      replace o10 := hidH o10
      go_wp2
      exact (HJ.out _ _ _).2 ⟨_, _, _, _, _, _, _, _, _, _, rfl, hM, hR0, hR1, hO, hg, hX, hS, o8.out, o9.out, o10.out, h0.out, fun _ => rfl, h2.out, h3.out, h4.out, h5.out, h6.out, h8.out, h9.out, h10.out⟩
    | 2, _ =>
      obtain ⟨ty, ps, af, ho⟩ := op_lit hops (i := 2) (op := Op.buildSlice 98 8 #[(0, (Operand.const (Value.int .i64 4))), (1, (Operand.const (Value.int .i64 5))), (2, (Operand.const (Value.int .i64 8))), (3, (Operand.const (Value.int .i64 100))), (4, (Operand.const (Value.int .i64 100))), (5, (Operand.const (Value.int .i64 3))), (6, (Operand.const (Value.int .i64 101))), (7, (Operand.const (Value.int .i64 10)))]) (dst := some 25) (g := none) rfl
      refine wpOp_lit ho (fun j b h => by cases h) ?_
      clear hops hdep ho
      replace h0 := hidH h0
      replace h1 := hidH h1
      replace h3 := hidH h3
      replace h4 := hidH h4
      replace h5 := hidH h5
      replace h6 := hidH h6
      replace h8 := hidH h8
      replace h9 := hidH h9
      replace h10 := hidH h10
      replace o8 := hidH o8
      replace o9 := hidH o9
      replace o10 := hidH o10
      have hb := bal (Below.refl W.heap.size W) (.cells #[.int .i64 4, .int .i64 5, .int .i64 8, .int .i64 100, .int .i64 100, .int .i64 3, .int .i64 101, .int .i64 10] 2)
      have KB := hidH (Blk.new W 2 #[.int .i64 4, .int .i64 5, .int .i64 8, .int .i64 100, .int .i64 100, .int .i64 3, .int .i64 101, .int .i64 10])
      have hgW := hidH hg
      go_wp2
      exact (HJ.out _ _ _).2 ⟨_, _, _, _, _, _, _, _, _, _, rfl, hM.below hb, fun h => (hR0 h).below hb, fun h => (hR1 h).below hb, hO.trans (hb.mono (Nat.le_of_lt (Nat.lt_trans hRg hg))), Nat.lt_of_lt_of_le hg hb.size, hX.below hb, ⟨(fun h => (hS.1 h).below hb), (fun h h2 => by obtain ⟨a1, q1, q2⟩ := hS.2 h h2; exact ⟨a1, q1, q2.below hb⟩)⟩, o8.out, o9.out, o10.out, h0.out, h1.out, fun _ => fun _ => ⟨_, rfl, KB.out, hgW.out⟩, h3.out, h4.out, h5.out, h6.out, h8.out, h9.out, h10.out⟩
    | 3, _ =>
      obtain ⟨ty, ps, af, ho⟩ := op_lit hops (i := 3) (op := Op.call { callee := Callee.value (Operand.func 41), args := #[(Operand.tmp 24), (Operand.tmp 25)], argTypes := #[63, 98] }) (dst := some 26) (g := none) rfl
      obtain ⟨B, rfl, kb, hBg⟩ := h2 (hdep 2 (by simp)) hdn
      replace h2 := hidH h2
      obtain rfl := h1 (hdep 1 (by simp))
      refine wpOp_lit ho (fun j b h => by cases h) ?_
      clear hops hdep ho
      replace h0 := hidH h0
      replace h1 := hidH h1
      replace h2 := hidH h2
      replace h4 := hidH h4
      replace h5 := hidH h5
      replace h6 := hidH h6
      replace h8 := hidH h8
      replace h9 := hidH h9
      replace h10 := hidH h10
      replace o8 := hidH o8
      replace o9 := hidH o9
      replace o10 := hidH o10
      have hs3 := hS.1 hdn
      have HP := hidH (pick_any g A l c k0 B [4, 5, 8, 100, 100, 3, 101, 10] W hs3 (by omega) (Ns.of_blk (t := 2) kb) (by simp) (by simp) (by omega))
      go_wp2_with fail
      refine HP.out.mono ?_
      rintro e w9 ⟨sz, a1, rfl, hv, ha1, s9, V9⟩
      have hsz : 3 ≤ sz ∧ sz ≤ 101 := by simp at hv; omega
      have HS9 := hidH s9
      have HA1 := hidH ha1
      have HV := hidH V9
      clear s9 hv V9
      go_wp2
      exact (HJ.out _ _ _).2 ⟨_, _, _, _, _, _, _, _, _, _, rfl, HV.out.blk hM (.inr (by omega)), (fun h => HV.out.blk (hR0 h) (.inl (by omega))), (fun h => HV.out.blk (hR1 h) (.inl (by omega))), hO.trans (HV.out.below (by omega) |>.mono (by omega)), Nat.lt_of_lt_of_le hg HV.out.size, hX.win HV.out (.inr (by omega)), ⟨(fun h => by simp at h), (fun _ _ => ⟨a1, by have := HA1.out; omega, HS9.out⟩)⟩, o8.out, o9.out, o10.out, h0.out, fun _ => rfl, (fun _ h2 => by simp at h2), fun _ => ⟨sz, rfl, hsz⟩, h4.out, h5.out, h6.out, h8.out, h9.out, h10.out⟩
    | 4, _ =>
      obtain ⟨ty, ps, af, ho⟩ := op_lit hops (i := 4) (op := Op.move (Operand.tmp 6)) (dst := some 27) (g := none) rfl
      refine wpOp_lit ho (fun j b h => by cases h) ?_
      clear hops hdep ho
      replace h0 := hidH h0
      replace h1 := hidH h1
      replace h2 := hidH h2
      replace h3 := hidH h3
      replace h5 := hidH h5
      replace h6 := hidH h6
      replace h8 := hidH h8
      replace h9 := hidH h9
      replace h10 := hidH h10
      replace o8 := hidH o8
      replace o9 := hidH o9
      replace o10 := hidH o10
      go_wp2
      exact (HJ.out _ _ _).2 ⟨_, _, _, _, _, _, _, _, _, _, rfl, hM, hR0, hR1, hO, hg, hX, hS, o8.out, o9.out, o10.out, h0.out, h1.out, h2.out, h3.out, fun _ => rfl, h5.out, h6.out, h8.out, h9.out, h10.out⟩
    | 5, _ =>
      obtain ⟨ty, ps, af, ho⟩ := op_lit hops (i := 5) (op := Op.call { callee := Callee.value (Operand.func 43), args := #[(Operand.tmp 27)], argTypes := #[63] }) (dst := some 28) (g := none) rfl
      have hd3 := hidH (hdep 3 (by simp))
      obtain rfl := h4 (hdep 4 (by simp))
      refine wpOp_lit ho (fun j b h => by cases h) ?_
      clear hops hdep ho
      replace h0 := hidH h0
      replace h1 := hidH h1
      replace h2 := hidH h2
      replace h3 := hidH h3
      replace h4 := hidH h4
      replace h6 := hidH h6
      replace h8 := hidH h8
      replace h9 := hidH h9
      replace h10 := hidH h10
      replace o8 := hidH o8
      replace o9 := hidH o9
      replace o10 := hidH o10
      obtain ⟨a1, ha1, hs5⟩ := hS.2 hd3.out hdn
      have HP := hidH (bent_any g A l c a1 W hs5 (by omega))
      go_wp2_with fail
      refine HP.out.mono ?_
      rintro e w9 ⟨tn, a2, rfl, htn, ha2, s9, V9⟩
      have HV := hidH V9
      clear s9 V9
      go_wp2
      exact (HJ.out _ _ _).2 ⟨_, _, _, _, _, _, _, _, _, _, rfl, HV.out.blk hM (.inr (by omega)), (fun h => HV.out.blk (hR0 h) (.inl (by omega))), (fun h => HV.out.blk (hR1 h) (.inl (by omega))), hO.trans (HV.out.below (by omega) |>.mono (by omega)), Nat.lt_of_lt_of_le hg HV.out.size, hX.win HV.out (.inr (by omega)), ⟨(fun h => by have h3 : dn 3 = false := h; rw [hd3.out] at h3; cases h3), (fun _ h2 => by simp at h2)⟩, o8.out, o9.out, o10.out, h0.out, h1.out, (fun _ z2 => by have h3 : dn 3 = false := z2; rw [hd3.out] at h3; cases h3), h3.out, fun _ => rfl, fun _ => ⟨tn, rfl, htn⟩, h6.out, h8.out, h9.out, h10.out⟩
    | 6, _ =>
      obtain ⟨ty, ps, af, ho⟩ := op_lit hops (i := 6) (op := Op.move (Operand.tmp 8)) (dst := some 29) (g := none) rfl
      refine wpOp_lit ho (fun j b h => by cases h) ?_
      clear hops hdep ho
      replace h0 := hidH h0
      replace h1 := hidH h1
      replace h2 := hidH h2
      replace h3 := hidH h3
      replace h4 := hidH h4
      replace h5 := hidH h5
      replace h8 := hidH h8
      replace h9 := hidH h9
      replace h10 := hidH h10
      replace o8 := hidH o8
      replace o9 := hidH o9
      replace o10 := hidH o10
      go_wp2
      exact (HJ.out _ _ _).2 ⟨_, _, _, _, _, _, _, _, _, _, rfl, hM, hR0, hR1, hO, hg, hX, hS, o8.out, o9.out, o10.out, h0.out, h1.out, h2.out, h3.out, h4.out, h5.out, fun _ => rfl, h8.out, h9.out, h10.out⟩
    | 7, _ =>
      obtain ⟨ty, ps, af, ho⟩ := op_lit hops (i := 7) (op := Op.store 25 (Operand.tmp 2) (Operand.tmp 23)) (dst := none) (g := none) rfl
      have hR := hR0 hdn
      obtain rfl := h0 (hdep 0 (by simp))
      refine wpOp_lit ho (fun j b h => by cases h) ?_
      clear hops hdep ho
      replace h0 := hidH h0
      replace h1 := hidH h1
      replace h2 := hidH h2
      replace h3 := hidH h3
      replace h4 := hidH h4
      replace h5 := hidH h5
      replace h6 := hidH h6
      replace h8 := hidH h8
      replace h9 := hidH h9
      replace h10 := hidH h10
      replace o8 := hidH o8
      replace o9 := hidH o9
      replace o10 := hidH o10
      have y0 := hR.cell 0
      have y1 := hR.cell 1
      have y2 := hR.cell 2
      have v0 := hR.frozen 0
      have v1 := hR.frozen 1
      have v2 := hR.frozen 2
      simp only [List.getElem?_toArray, List.getElem?_cons_succ, List.getElem?_cons_zero] at y0 y1 y2
      have hlt := hR.lt
      have KR := hidH (show Blk (((W.setCell ⟨gR, 0, none⟩ (.int .i64 st)).setCell ⟨gR, 1, none⟩ (.bool ub)).setCell ⟨gR, 2, none⟩ (.slice X xn xc)) gR 25 #[.int .i64 st, .bool ub, .slice X xn xc] from ((hR.put 0 _).put 1 _).put 2 _)
      go_wp2
      exact (HJ.out _ _ _).2 ⟨_, _, _, _, _, _, _, _, _, _, rfl, ((hM.far (p := ⟨gR, 0, none⟩) (by show gR ≠ _; omega) _).far (p := ⟨gR, 1, none⟩) (by show gR ≠ _; omega) _).far (p := ⟨gR, 2, none⟩) (by show gR ≠ _; omega) _, (fun h2 => by simp at h2), (fun _ => KR.out), ((hO.setCell (p := ⟨gR, 0, none⟩) (Nat.le_refl gR) _).setCell (p := ⟨gR, 1, none⟩) (Nat.le_refl gR) _).setCell (p := ⟨gR, 2, none⟩) (Nat.le_refl gR) _, (by simpa [World.setCell] using hg), ((hX.win (set_win _ gR 0 _) (.inr (by omega))).win (set_win _ gR 1 _) (.inr (by omega))).win (set_win _ gR 2 _) (.inr (by omega)), ⟨(fun h => src_put3 (hS.1 h) hRg hAR _ _ _), (fun h h2 => by obtain ⟨a1, q1, q2⟩ := hS.2 h h2; exact ⟨a1, q1, src_put3 q2 hRg hAR _ _ _⟩)⟩, o8.out, o9.out, o10.out, fun _ => rfl, h1.out, (fun h z2 => by obtain ⟨B, q1, q2, q3⟩ := h2.out h z2; exact ⟨B, q1, q2.far (p := ⟨gR, _, none⟩) (by show gR ≠ B; omega) _ |>.far (p := ⟨gR, _, none⟩) (by show gR ≠ B; omega) _ |>.far (p := ⟨gR, _, none⟩) (by show gR ≠ B; omega) _, q3⟩), h3.out, h4.out, h5.out, h6.out, h8.out, h9.out, h10.out⟩
    | 8, _ =>
      obtain ⟨ty, ps, af, ho⟩ := op_lit hops (i := 8) (op := Op.assign (Operand.tmp 26)) (dst := some 3) (g := none) rfl
      obtain ⟨sz, rfl, hsz⟩ := h3 (hdep 3 (by simp))
      obtain rfl := o8 hdn
      refine wpOp_lit ho (fun j b h => by cases h) ?_
      clear hops hdep ho
      replace h0 := hidH h0
      replace h1 := hidH h1
      replace h2 := hidH h2
      replace h3 := hidH h3
      replace h4 := hidH h4
      replace h5 := hidH h5
      replace h6 := hidH h6
      replace h9 := hidH h9
      replace h10 := hidH h10
      replace o9 := hidH o9
      replace o10 := hidH o10
      go_wp2
      exact (HJ.out _ _ _).2 ⟨_, _, _, _, _, _, _, _, _, _, rfl, hM, hR0, hR1, hO, hg, hX, hS, (fun h => by simp at h), o9.out, o10.out, h0.out, h1.out, h2.out, fun _ => ⟨sz, rfl, hsz⟩, h4.out, h5.out, h6.out, fun _ => ⟨sz, rfl, hsz⟩, h9.out, h10.out⟩
    | 9, _ =>
      obtain ⟨ty, ps, af, ho⟩ := op_lit hops (i := 9) (op := Op.assign (Operand.tmp 28)) (dst := some 4) (g := none) rfl
      obtain ⟨tn, rfl, htn⟩ := h5 (hdep 5 (by simp))
      obtain rfl := o9 hdn
      refine wpOp_lit ho (fun j b h => by cases h) ?_
      clear hops hdep ho
      replace h0 := hidH h0
      replace h1 := hidH h1
      replace h2 := hidH h2
      replace h3 := hidH h3
      replace h4 := hidH h4
      replace h5 := hidH h5
      replace h6 := hidH h6
      replace h8 := hidH h8
      replace h10 := hidH h10
      replace o8 := hidH o8
      replace o10 := hidH o10
      go_wp2
      exact (HJ.out _ _ _).2 ⟨_, _, _, _, _, _, _, _, _, _, rfl, hM, hR0, hR1, hO, hg, hX, hS, o8.out, (fun h => by simp at h), o10.out, h0.out, h1.out, h2.out, h3.out, h4.out, fun _ => ⟨tn, rfl, htn⟩, h6.out, h8.out, fun _ => ⟨tn, rfl, htn⟩, h10.out⟩
    | 10, _ =>
      obtain ⟨ty, ps, af, ho⟩ := op_lit hops (i := 10) (op := Op.assign (Operand.tmp 29)) (dst := some 5) (g := none) rfl
      obtain rfl := h6 (hdep 6 (by simp))
      obtain rfl := o10 hdn
      refine wpOp_lit ho (fun j b h => by cases h) ?_
      clear hops hdep ho
      replace h0 := hidH h0
      replace h1 := hidH h1
      replace h2 := hidH h2
      replace h3 := hidH h3
      replace h4 := hidH h4
      replace h5 := hidH h5
      replace h6 := hidH h6
      replace h8 := hidH h8
      replace h9 := hidH h9
      replace o8 := hidH o8
      replace o9 := hidH o9
      go_wp2
      exact (HJ.out _ _ _).2 ⟨_, _, _, _, _, _, _, _, _, _, rfl, hM, hR0, hR1, hO, hg, hX, hS, o8.out, o9.out, (fun h => by simp at h), h0.out, h1.out, h2.out, h3.out, h4.out, h5.out, fun _ => rfl, h8.out, h9.out, fun _ => rfl⟩
    | n + 11, h => omega
  case fin =>
    clear hops hdeps hback
    rintro dn ac W hJ hall
    obtain ⟨t23, t24, t25, t26, t27, t28, t29, t3, t4, t5, rfl, hM, hR0, hR1, hO, hg, hX, hS, o8, o9, o10, h0, h1, h2, h3, h4, h5, h6, h8, h9, h10⟩ := (HJ.out _ _ _).1 hJ
    obtain rfl := h10 (hall 10 (by omega))
    exact fin _ _ _ _ _ _ _ _ _ W hM (hR1 (hall 7 (by omega))) hO hX (h8 (hall 8 (by omega))) (h9 (hall 9 (by omega)))
end Go.Proofs.Ytbfbfimmhpijfaa
