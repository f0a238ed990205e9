/- The regions of the model's CheckAuth and of the program's verify that draw their order. -/
import Derived.Test.YtncnibkojneejaaGreatDoorJa7
namespace Go.Proofs.YtncnibkojneejaaGreatDoor
open Go.RowKit Go.Deep

/-- Bytes are kept where a result's two cells are written. -/
theorem bs_put2 {w : World} {A : Option Addr} {l : List Int} {g : Nat} {t : TypeId} {x : Int} {P : Option Addr} {n c : Nat} (h : Bs w A l) (k : Blk w g t #[.int .i64 x, .slice P n c]) (u0 u1 : Value) : Bs ((w.setCell ⟨g, 0, none⟩ u0).setCell ⟨g, 1, none⟩ u1) A l := by
  rcases h with h | ⟨b, off, rfl, h2, h3⟩
  · exact .inl h
  · by_cases hl : l = []
    · exact .inl hl
    · have hne : b ≠ g := fun e => by
        have h4 := h3 0 (List.length_pos_iff.2 hl)
        rw [e, k.cell] at h4
        have h5 := Array.mem_of_getElem? h4
        simp at h5
      refine .inr ⟨b, off, rfl, by simpa [World.setCell] using h2, fun j hj => ?_⟩
      rw [World.cell?_setCell_other _ _ _ _ (fun e => by injection e with e1 _; exact hne e1.symm), World.cell?_setCell_other _ _ _ _ (fun e => by injection e with e1 _; exact hne e1.symm)]
      exact h3 j hj
set_option maxRecDepth 100000 in
set_option maxHeartbeats 1000000 in
theorem regCA6 {Q : Exit → Act → World → Prop} (x0 x2 x3 x4 x7 x8 x9 x10 x11 x12 x13 x14 x15 x16 : Value) (ww : World) (k pn pc pi : Nat) (id cd : Int) (AR : Option Addr) (l : List Int)
    (hkl : k < ww.heap.size) (hk1 : ww.cell? ⟨k, 1, none⟩ = some (.int .i64 id)) (hk2 : ww.cell? ⟨k, 2, none⟩ = some (.int .i64 (pi : Int))) (hin : pi ≤ pn)
    (CALL : ∀ u : World, Below ww.heap.size ww u → Calls Tryz.prog 33 #[.int .i64 id, .slice (cutC AR pi pc) (pn - pi) (pc - pi)] u (fun e w' => ∃ (A9 : Option Addr) (c9 : Nat), e = .returned (.agg #[.int .i64 cd, .slice A9 l.length c9]) ∧ Bs w' A9 l ∧ Below u.heap.size u w')) {ops : Array Oper}
    (hops : (ops.map fun o => (o.op, o.dst, o.guard)) = #[(Op.fieldAddr 33 (Operand.tmp 5) 1, some 17, none), (Op.load 2 (Operand.tmp 17), some 18, none), (Op.move (Operand.tmp 1), some 19, none), (Op.fieldAddr 33 (Operand.tmp 5) 2, some 20, none), (Op.load 2 (Operand.tmp 20), some 21, none), (Op.slice 24 (Operand.tmp 19) (some (Operand.tmp 21)) none none, some 22, none), (Op.call { callee := Callee.value (Operand.func 33), args := #[(Operand.tmp 18), (Operand.tmp 22)], argTypes := #[2, 24] }, some 23, none), (Op.alloc 48, some 6, none), (Op.store 48 (Operand.tmp 6) (Operand.tmp 23), none, none)])
    (hdeps : ((List.range 9).all fun i => ((fun i => [[], [0], [], [], [3], [2, 4], [1, 5], [], [6, 7]].getD i []) i).all fun j => ((ops[i]?).map fun o => o.after.any fun e => Region.binds .any e && e.on == j).getD false) = true)
    (hback : ((List.range 9).all fun i => ((ops[i]?).map fun o => o.after.all fun e => decide (e.on < i)).getD false) = true)
    {a0 : Act} {w0 : World} (ha : a0 = { tmps := #[x0, .slice AR pn pc, x2, x3, x4, .pointer (some ⟨k, 0, none⟩), undef, x7, x8, x9, x10, x11, x12, x13, x14, x15, x16, undef, undef, undef, undef, undef, undef, undef, undef, undef, undef, undef, undef, undef, undef, undef, undef, undef, undef, undef, undef, undef, undef, undef, undef, undef, undef, undef, undef, undef], defers := [] }) (hE : false = true → false = true) (hO : Below ww.heap.size ww w0)
    (fin : ∀ t17 t18 t19 t20 t21 t22 t23 t6 (W : World), (Below ww.heap.size ww W) → (∃ (g : Nat) (A9 : Option Addr) (c9 : Nat), t6 = .pointer (some ⟨g, 0, none⟩) ∧ Blk W g 48 #[.int .i64 cd, .slice A9 l.length c9] ∧ Bs W A9 l ∧ ww.heap.size ≤ g) → Q .normal { tmps := #[x0, .slice AR pn pc, x2, x3, x4, .pointer (some ⟨k, 0, none⟩), t6, x7, x8, x9, x10, x11, x12, x13, x14, x15, x16, t17, t18, t19, t20, t21, t22, t23, undef, undef, undef, undef, undef, undef, undef, undef, undef, undef, undef, undef, undef, undef, undef, undef, undef, undef, undef, undef, undef, undef], defers := [] } W) :
    wpAny Tryz.prog .any ops Q ops.size (Array.replicate ops.size false) a0 w0 := by
  have hn : ops.size = 9 := by have := congrArg Array.size hops; simpa using this
  obtain ⟨J, HJ⟩ : ∃ J : (Nat → Bool) → Act → World → Prop, ∀ dn ac W, J dn ac W ↔ (fun dn ac W => ∃ t17 t18 t19 t20 t21 t22 t23 t6, ac = { tmps := #[x0, .slice AR pn pc, x2, x3, x4, .pointer (some ⟨k, 0, none⟩), t6, x7, x8, x9, x10, x11, x12, x13, x14, x15, x16, t17, t18, t19, t20, t21, t22, t23, undef, undef, undef, undef, undef, undef, undef, undef, undef, undef, undef, undef, undef, undef, undef, undef, undef, undef, undef, undef, undef, undef], defers := [] } ∧ (dn 8 = true → dn 7 = true) ∧ (Below ww.heap.size ww W) ∧ (dn 0 = true → t17 = .pointer (some ⟨k, 1, none⟩)) ∧ (dn 1 = true → t18 = .int .i64 id) ∧ (dn 2 = true → t19 = .slice AR pn pc) ∧ (dn 3 = true → t20 = .pointer (some ⟨k, 2, none⟩)) ∧ (dn 4 = true → t21 = .int .i64 (pi : Int)) ∧ (dn 5 = true → t22 = .slice (cutC AR pi pc) (pn - pi) (pc - pi)) ∧ (dn 6 = true → ∃ (A9 : Option Addr) (c9 : Nat), t23 = .agg #[.int .i64 cd, .slice A9 l.length c9] ∧ Bs W A9 l) ∧ (dn 7 = true → dn 8 = false → ∃ g : Nat, t6 = .pointer (some ⟨g, 0, none⟩) ∧ Blk W g 48 #[.int .i64 0, .slice none 0 0] ∧ ww.heap.size ≤ g) ∧ (dn 8 = true → ∃ (g : Nat) (A9 : Option Addr) (c9 : Nat), t6 = .pointer (some ⟨g, 0, none⟩) ∧ Blk W g 48 #[.int .i64 cd, .slice A9 l.length c9] ∧ Bs W A9 l ∧ ww.heap.size ≤ g)) dn ac W := ⟨_, fun _ _ _ => Iff.rfl⟩
  replace HJ := hidH HJ
  refine region_inv 9 (fun i => [[], [0], [], [], [3], [2, 4], [1, 5], [], [6, 7]].getD i []) J hn hdeps hback ?start ?step ?fin
  case start => exact (HJ.out _ _ _).2 ⟨undef, undef, undef, undef, undef, undef, undef, undef, ha, hE, hO, fun h => by simp at h, fun h => by simp at h, fun h => by simp at h, fun h => by simp at h, fun h => by simp at h, fun h => by simp at h, fun h => by simp at h, fun h => by simp at h, fun h => by simp at h⟩
  all_goals clear ha hE hO
  case step =>
    clear fin hdeps hback
    intro i hi dn ac W hJ hdn hdep
    obtain ⟨t17, t18, t19, t20, t21, t22, t23, t6, rfl, hE, hO, h0, h1, h2, h3, h4, h5, h6, h7, h8⟩ := (HJ.out _ _ _).1 hJ
    clear hJ
    match i, hi with
    | 0, _ =>
      obtain ⟨ty, ps, af, ho⟩ := op_lit hops (i := 0) (op := Op.fieldAddr 33 (Operand.tmp 5) 1) (dst := some 17) (g := none) rfl
      refine wpOp_lit ho (fun j b h => by cases h) ?_
      clear hops hdep ho
      replace h1 := hidH h1
      replace h2 := hidH h2
      replace h3 := hidH h3
      replace h4 := hidH h4
      replace h5 := hidH h5
      replace h6 := hidH h6
      replace h7 := hidH h7
      replace h8 := hidH h8
      go_wp2
      exact (HJ.out _ _ _).2 ⟨_, _, _, _, _, _, _, _, rfl, hE, hO, fun _ => rfl, h1.out, h2.out, h3.out, h4.out, h5.out, h6.out, h7.out, h8.out⟩
    | 1, _ =>
      obtain ⟨ty, ps, af, ho⟩ := op_lit hops (i := 1) (op := Op.load 2 (Operand.tmp 17)) (dst := some 18) (g := none) rfl
      obtain rfl := h0 (hdep 0 (by simp))
      refine wpOp_lit ho (fun j b h => by cases h) ?_
      clear hops hdep ho
      replace h0 := hidH h0
      replace h2 := hidH h2
      replace h3 := hidH h3
      replace h4 := hidH h4
      replace h5 := hidH h5
      replace h6 := hidH h6
      replace h7 := hidH h7
      replace h8 := hidH h8
      have hb := Below.refl W.heap.size W
      have q := (hO.cell (p := ⟨k, 1, none⟩) hkl).trans hk1
      go_wp2
      exact (HJ.out _ _ _).2 ⟨_, _, _, _, _, _, _, _, rfl, hE, btr hO hb, fun _ => rfl, fun _ => rfl, h2.out, h3.out, h4.out, h5.out, fun h => by obtain ⟨A9, c9, q1, q2⟩ := h6.out h; exact ⟨A9, c9, q1, bs_below q2 hb⟩, (fun h h2 => by obtain ⟨g, q1, q2, q3⟩ := h7.out h h2; exact ⟨g, q1, q2.below hb, q3⟩), fun h => by obtain ⟨g, A9, c9, q1, q2, q3, q4⟩ := h8.out h; exact ⟨g, A9, c9, q1, q2.below hb, bs_below q3 hb, q4⟩⟩
    | 2, _ =>
      obtain ⟨ty, ps, af, ho⟩ := op_lit hops (i := 2) (op := Op.move (Operand.tmp 1)) (dst := some 19) (g := none) rfl
      refine wpOp_lit ho (fun j b h => by cases h) ?_
      clear hops hdep ho
      replace h0 := hidH h0
      replace h1 := hidH h1
      replace h3 := hidH h3
      replace h4 := hidH h4
      replace h5 := hidH h5
      replace h6 := hidH h6
      replace h7 := hidH h7
      replace h8 := hidH h8
      go_wp2
      exact (HJ.out _ _ _).2 ⟨_, _, _, _, _, _, _, _, rfl, hE, hO, h0.out, h1.out, fun _ => rfl, h3.out, h4.out, h5.out, h6.out, h7.out, h8.out⟩
    | 3, _ =>
      obtain ⟨ty, ps, af, ho⟩ := op_lit hops (i := 3) (op := Op.fieldAddr 33 (Operand.tmp 5) 2) (dst := some 20) (g := none) rfl
      refine wpOp_lit ho (fun j b h => by cases h) ?_
      clear hops hdep ho
      replace h0 := hidH h0
      replace h1 := hidH h1
      replace h2 := hidH h2
      replace h4 := hidH h4
      replace h5 := hidH h5
      replace h6 := hidH h6
      replace h7 := hidH h7
      replace h8 := hidH h8
      go_wp2
      exact (HJ.out _ _ _).2 ⟨_, _, _, _, _, _, _, _, rfl, hE, hO, h0.out, h1.out, h2.out, fun _ => rfl, h4.out, h5.out, h6.out, h7.out, h8.out⟩
    | 4, _ =>
      obtain ⟨ty, ps, af, ho⟩ := op_lit hops (i := 4) (op := Op.load 2 (Operand.tmp 20)) (dst := some 21) (g := none) rfl
      obtain rfl := h3 (hdep 3 (by simp))
      refine wpOp_lit ho (fun j b h => by cases h) ?_
      clear hops hdep ho
      replace h0 := hidH h0
      replace h1 := hidH h1
      replace h2 := hidH h2
      replace h3 := hidH h3
      replace h5 := hidH h5
      replace h6 := hidH h6
      replace h7 := hidH h7
      replace h8 := hidH h8
      have hb := Below.refl W.heap.size W
      have q := (hO.cell (p := ⟨k, 2, none⟩) hkl).trans hk2
      go_wp2
      exact (HJ.out _ _ _).2 ⟨_, _, _, _, _, _, _, _, rfl, hE, btr hO hb, h0.out, h1.out, h2.out, fun _ => rfl, fun _ => rfl, h5.out, fun h => by obtain ⟨A9, c9, q1, q2⟩ := h6.out h; exact ⟨A9, c9, q1, bs_below q2 hb⟩, (fun h h2 => by obtain ⟨g, q1, q2, q3⟩ := h7.out h h2; exact ⟨g, q1, q2.below hb, q3⟩), fun h => by obtain ⟨g, A9, c9, q1, q2, q3, q4⟩ := h8.out h; exact ⟨g, A9, c9, q1, q2.below hb, bs_below q3 hb, q4⟩⟩
    | 5, _ =>
      obtain ⟨ty, ps, af, ho⟩ := op_lit hops (i := 5) (op := Op.slice 24 (Operand.tmp 19) (some (Operand.tmp 21)) none none) (dst := some 22) (g := none) rfl
      obtain rfl := h2 (hdep 2 (by simp))
      obtain rfl := h4 (hdep 4 (by simp))
      refine wpOp_lit ho (fun j b h => by cases h) ?_
      clear hops hdep ho
      replace h0 := hidH h0
      replace h1 := hidH h1
      replace h2 := hidH h2
      replace h3 := hidH h3
      replace h4 := hidH h4
      replace h6 := hidH h6
      replace h7 := hidH h7
      replace h8 := hidH h8
      have hs := cutC_l AR pn pc pi (pi : Int) rfl hin W
      go_wp2
      exact (HJ.out _ _ _).2 ⟨_, _, _, _, _, _, _, _, rfl, hE, hO, h0.out, h1.out, fun _ => rfl, h3.out, fun _ => rfl, fun _ => rfl, h6.out, h7.out, h8.out⟩
    | 6, _ =>
      obtain ⟨ty, ps, af, ho⟩ := op_lit hops (i := 6) (op := Op.call { callee := Callee.value (Operand.func 33), args := #[(Operand.tmp 18), (Operand.tmp 22)], argTypes := #[2, 24] }) (dst := some 23) (g := none) rfl
      obtain rfl := h1 (hdep 1 (by simp))
      obtain rfl := h5 (hdep 5 (by simp))
      refine wpOp_lit ho (fun j b h => by cases h) ?_
      clear hops hdep ho
      replace h0 := hidH h0
      replace h1 := hidH h1
      replace h2 := hidH h2
      replace h3 := hidH h3
      replace h4 := hidH h4
      replace h5 := hidH h5
      replace h7 := hidH h7
      replace h8 := hidH h8
      have HC := hidH (CALL W hO)
      go_wp2_with fail
      refine HC.out.mono ?_
      rintro e w9 ⟨A9, c9, rfl, s9, hb⟩
      have S9 := hidH s9
      clear s9
      go_wp2
      exact (HJ.out _ _ _).2 ⟨_, _, _, _, _, _, _, _, rfl, hE, btr hO hb, h0.out, fun _ => rfl, h2.out, h3.out, h4.out, fun _ => rfl, fun _ => ⟨A9, c9, rfl, S9.out⟩, (fun h h2 => by obtain ⟨g, q1, q2, q3⟩ := h7.out h h2; exact ⟨g, q1, q2.below hb, q3⟩), fun h => by obtain ⟨g, A9, c9, q1, q2, q3, q4⟩ := h8.out h; exact ⟨g, A9, c9, q1, q2.below hb, bs_below q3 hb, q4⟩⟩
    | 7, _ =>
      obtain ⟨ty, ps, af, ho⟩ := op_lit hops (i := 7) (op := Op.alloc 48) (dst := some 6) (g := none) rfl
      refine wpOp_lit ho (fun j b h => by cases h) ?_
      clear hops hdep ho
      replace h0 := hidH h0
      replace h1 := hidH h1
      replace h2 := hidH h2
      replace h3 := hidH h3
      replace h4 := hidH h4
      replace h5 := hidH h5
      replace h6 := hidH h6
      replace h8 := hidH h8
      have hb := bal (Below.refl W.heap.size W) (.cells #[.int .i64 0, .slice none 0 0] 48)
      have KG := hidH (Blk.new W 48 #[.int .i64 0, .slice none 0 0])
      have hG0 := hO.size
      go_wp2
      exact (HJ.out _ _ _).2 ⟨_, _, _, _, _, _, _, _, rfl, fun _ => rfl, btr hO hb, h0.out, h1.out, h2.out, h3.out, h4.out, h5.out, fun h => by obtain ⟨A9, c9, q1, q2⟩ := h6.out h; exact ⟨A9, c9, q1, bs_below q2 hb⟩, fun _ => fun _ => ⟨_, rfl, KG.out, hG0⟩, (fun h => by have h3 : dn 7 = true := hE h; rw [hdn] at h3; cases h3)⟩
    | 8, _ =>
      obtain ⟨ty, ps, af, ho⟩ := op_lit hops (i := 8) (op := Op.store 48 (Operand.tmp 6) (Operand.tmp 23)) (dst := none) (g := none) rfl
      have hd7 := hidH (hdep 7 (by simp))
      obtain ⟨g, rfl, kg, hgw⟩ := h7 (hdep 7 (by simp)) hdn
      obtain ⟨B9, d9, rfl, p9⟩ := h6 (hdep 6 (by simp))
      refine wpOp_lit ho (fun j b h => by cases h) ?_
      clear hops hdep ho
      replace h0 := hidH h0
      replace h1 := hidH h1
      replace h2 := hidH h2
      replace h3 := hidH h3
      replace h4 := hidH h4
      replace h5 := hidH h5
      replace h6 := hidH h6
      replace h7 := hidH h7
      have y0 := kg.cell 0
      have y1 := kg.cell 1
      have v0 := kg.frozen 0
      have v1 := kg.frozen 1
      simp only [List.getElem?_toArray, List.getElem?_cons_succ, List.getElem?_cons_zero] at y0 y1
      have hlt := kg.lt
      have FAR := hidH (fun (A0 : Option Addr) (h : Bs W A0 l) => bs_put2 h kg (.int .i64 cd) (.slice B9 l.length d9))
      have KS := hidH (show Blk ((W.setCell ⟨g, 0, none⟩ (.int .i64 cd)).setCell ⟨g, 1, none⟩ (.slice B9 l.length d9)) g 48 #[.int .i64 cd, .slice B9 l.length d9] from (kg.put 0 _).put 1 _)
      clear kg
      go_wp2
      exact (HJ.out _ _ _).2 ⟨_, _, _, _, _, _, _, _, rfl, fun _ => hd7.out, (bst (bst hO hgw _) hgw _), h0.out, h1.out, h2.out, h3.out, h4.out, h5.out, fun _ => ⟨B9, d9, rfl, FAR.out _ p9⟩, (fun _ h2 => by simp at h2), fun _ => ⟨g, B9, d9, rfl, KS.out, FAR.out _ p9, hgw⟩⟩
    | n + 9, h => omega
  case fin =>
    clear hops hdeps hback
    rintro dn ac W hJ hall
    obtain ⟨t17, t18, t19, t20, t21, t22, t23, t6, rfl, hE, hO, h0, h1, h2, h3, h4, h5, h6, h7, h8⟩ := (HJ.out _ _ _).1 hJ
    exact fin _ _ _ _ _ _ _ _ W hO (h8 (hall 8 (by omega)))
set_option maxRecDepth 100000 in
set_option maxHeartbeats 1000000 in
theorem regVe1 {Q : Exit → Act → World → Prop} (x0 x4 x5 x6 vk : Value) (ww : World) (k pn pc pi : Nat) (id cd : Int) (AR : Option Addr) (l : List Int)
    (hkl : k < ww.heap.size) (hk1 : ww.cell? ⟨k, 0, none⟩ = some (.int .i64 id)) (hk2 : ww.cell? ⟨k, 2, none⟩ = some (.int .i64 (pi : Int))) (hin : pi ≤ pn)
    (CALL : ∀ u : World, Below ww.heap.size ww u → Calls Tryz.prog 20 #[.int .i64 id, vk, .slice (cutC AR pi pc) (pn - pi) (pc - pi)] u (fun e w' => ∃ (A9 : Option Addr) (c9 : Nat), e = .returned (.agg #[.int .i64 cd, .slice A9 l.length c9]) ∧ Bs w' A9 l ∧ Below u.heap.size u w')) {ops : Array Oper}
    (hops : (ops.map fun o => (o.op, o.dst, o.guard)) = #[(Op.fieldAddr 60 (Operand.tmp 3) 0, some 8, none), (Op.load 2 (Operand.tmp 8), some 9, none), (Op.move (Operand.tmp 1), some 10, none), (Op.move (Operand.tmp 2), some 11, none), (Op.fieldAddr 60 (Operand.tmp 3) 2, some 12, none), (Op.load 3 (Operand.tmp 12), some 13, none), (Op.slice 24 (Operand.tmp 11) (some (Operand.tmp 13)) none none, some 14, none), (Op.call { callee := Callee.value (Operand.func 20), args := #[(Operand.tmp 9), (Operand.tmp 10), (Operand.tmp 14)], argTypes := #[2, 22, 24] }, some 15, none), (Op.alloc 48, some 7, none), (Op.store 48 (Operand.tmp 7) (Operand.tmp 15), none, none)])
    (hdeps : ((List.range 10).all fun i => ((fun i => [[], [0], [], [], [], [4], [3, 5], [1, 2, 6], [], [7, 8]].getD i []) i).all fun j => ((ops[i]?).map fun o => o.after.any fun e => Region.binds .any e && e.on == j).getD false) = true)
    (hback : ((List.range 10).all fun i => ((ops[i]?).map fun o => o.after.all fun e => decide (e.on < i)).getD false) = true)
    {a0 : Act} {w0 : World} (ha : a0 = { tmps := #[x0, vk, .slice AR pn pc, .pointer (some ⟨k, 0, none⟩), x4, x5, x6, undef, undef, undef, undef, undef, undef, undef, undef, undef, undef, undef, undef, undef, undef, undef, undef, undef, undef, undef, undef, undef, undef, undef, undef], defers := [] }) (hE : false = true → false = true) (hO : Below ww.heap.size ww w0)
    (fin : ∀ t8 t9 t10 t11 t12 t13 t14 t15 t7 (W : World), (Below ww.heap.size ww W) → (∃ (g : Nat) (A9 : Option Addr) (c9 : Nat), t7 = .pointer (some ⟨g, 0, none⟩) ∧ Blk W g 48 #[.int .i64 cd, .slice A9 l.length c9] ∧ Bs W A9 l ∧ ww.heap.size ≤ g) → Q .normal { tmps := #[x0, vk, .slice AR pn pc, .pointer (some ⟨k, 0, none⟩), x4, x5, x6, t7, t8, t9, t10, t11, t12, t13, t14, t15, undef, undef, undef, undef, undef, undef, undef, undef, undef, undef, undef, undef, undef, undef, undef], defers := [] } W) :
    wpAny Tryz.prog .any ops Q ops.size (Array.replicate ops.size false) a0 w0 := by
  have hn : ops.size = 10 := by have := congrArg Array.size hops; simpa using this
  obtain ⟨J, HJ⟩ : ∃ J : (Nat → Bool) → Act → World → Prop, ∀ dn ac W, J dn ac W ↔ (fun dn ac W => ∃ t8 t9 t10 t11 t12 t13 t14 t15 t7, ac = { tmps := #[x0, vk, .slice AR pn pc, .pointer (some ⟨k, 0, none⟩), x4, x5, x6, t7, t8, t9, t10, t11, t12, t13, t14, t15, undef, undef, undef, undef, undef, undef, undef, undef, undef, undef, undef, undef, undef, undef, undef], defers := [] } ∧ (dn 9 = true → dn 8 = true) ∧ (Below ww.heap.size ww W) ∧ (dn 0 = true → t8 = .pointer (some ⟨k, 0, none⟩)) ∧ (dn 1 = true → t9 = .int .i64 id) ∧ (dn 2 = true → t10 = vk) ∧ (dn 3 = true → t11 = .slice AR pn pc) ∧ (dn 4 = true → t12 = .pointer (some ⟨k, 2, none⟩)) ∧ (dn 5 = true → t13 = .int .i64 (pi : Int)) ∧ (dn 6 = true → t14 = .slice (cutC AR pi pc) (pn - pi) (pc - pi)) ∧ (dn 7 = true → ∃ (A9 : Option Addr) (c9 : Nat), t15 = .agg #[.int .i64 cd, .slice A9 l.length c9] ∧ Bs W A9 l) ∧ (dn 8 = true → dn 9 = false → ∃ g : Nat, t7 = .pointer (some ⟨g, 0, none⟩) ∧ Blk W g 48 #[.int .i64 0, .slice none 0 0] ∧ ww.heap.size ≤ g) ∧ (dn 9 = true → ∃ (g : Nat) (A9 : Option Addr) (c9 : Nat), t7 = .pointer (some ⟨g, 0, none⟩) ∧ Blk W g 48 #[.int .i64 cd, .slice A9 l.length c9] ∧ Bs W A9 l ∧ ww.heap.size ≤ g)) dn ac W := ⟨_, fun _ _ _ => Iff.rfl⟩
  replace HJ := hidH HJ
  refine region_inv 10 (fun i => [[], [0], [], [], [], [4], [3, 5], [1, 2, 6], [], [7, 8]].getD i []) J hn hdeps hback ?start ?step ?fin
  case start => exact (HJ.out _ _ _).2 ⟨undef, undef, undef, undef, undef, undef, undef, undef, undef, ha, hE, hO, fun h => by simp at h, fun h => by simp at h, fun h => by simp at h, fun h => by simp at h, fun h => by simp at h, fun h => by simp at h, fun h => by simp at h, fun h => by simp at h, fun h => by simp at h, fun h => by simp at h⟩
  all_goals clear ha hE hO
  case step =>
    clear fin hdeps hback
    intro i hi dn ac W hJ hdn hdep
    obtain ⟨t8, t9, t10, t11, t12, t13, t14, t15, t7, rfl, hE, hO, h0, h1, h2, h3, h4, h5, h6, h7, h8, h9⟩ := (HJ.out _ _ _).1 hJ
    clear hJ
    match i, hi with
    | 0, _ =>
      obtain ⟨ty, ps, af, ho⟩ := op_lit hops (i := 0) (op := Op.fieldAddr 60 (Operand.tmp 3) 0) (dst := some 8) (g := none) rfl
      refine wpOp_lit ho (fun j b h => by cases h) ?_
      clear hops hdep ho
      replace h1 := hidH h1
      replace h2 := hidH h2
      replace h3 := hidH h3
      replace h4 := hidH h4
      replace h5 := hidH h5
      replace h6 := hidH h6
      replace h7 := hidH h7
      replace h8 := hidH h8
      replace h9 := hidH h9
      go_wp2
      exact (HJ.out _ _ _).2 ⟨_, _, _, _, _, _, _, _, _, rfl, hE, hO, fun _ => rfl, h1.out, h2.out, h3.out, h4.out, h5.out, h6.out, h7.out, h8.out, h9.out⟩
    | 1, _ =>
      obtain ⟨ty, ps, af, ho⟩ := op_lit hops (i := 1) (op := Op.load 2 (Operand.tmp 8)) (dst := some 9) (g := none) rfl
      obtain rfl := h0 (hdep 0 (by simp))
      refine wpOp_lit ho (fun j b h => by cases h) ?_
      clear hops hdep ho
      replace h0 := hidH h0
      replace h2 := hidH h2
      replace h3 := hidH h3
      replace h4 := hidH h4
      replace h5 := hidH h5
      replace h6 := hidH h6
      replace h7 := hidH h7
      replace h8 := hidH h8
      replace h9 := hidH h9
      have hb := Below.refl W.heap.size W
      have q := (hO.cell (p := ⟨k, 0, none⟩) hkl).trans hk1
      go_wp2
      exact (HJ.out _ _ _).2 ⟨_, _, _, _, _, _, _, _, _, rfl, hE, btr hO hb, fun _ => rfl, fun _ => rfl, h2.out, h3.out, h4.out, h5.out, h6.out, fun h => by obtain ⟨A9, c9, q1, q2⟩ := h7.out h; exact ⟨A9, c9, q1, bs_below q2 hb⟩, (fun h h2 => by obtain ⟨g, q1, q2, q3⟩ := h8.out h h2; exact ⟨g, q1, q2.below hb, q3⟩), fun h => by obtain ⟨g, A9, c9, q1, q2, q3, q4⟩ := h9.out h; exact ⟨g, A9, c9, q1, q2.below hb, bs_below q3 hb, q4⟩⟩
    | 2, _ =>
      obtain ⟨ty, ps, af, ho⟩ := op_lit hops (i := 2) (op := Op.move (Operand.tmp 1)) (dst := some 10) (g := none) rfl
      refine wpOp_lit ho (fun j b h => by cases h) ?_
      clear hops hdep ho
      replace h0 := hidH h0
      replace h1 := hidH h1
      replace h3 := hidH h3
      replace h4 := hidH h4
      replace h5 := hidH h5
      replace h6 := hidH h6
      replace h7 := hidH h7
      replace h8 := hidH h8
      replace h9 := hidH h9
      go_wp2
      exact (HJ.out _ _ _).2 ⟨_, _, _, _, _, _, _, _, _, rfl, hE, hO, h0.out, h1.out, fun _ => rfl, h3.out, h4.out, h5.out, h6.out, h7.out, h8.out, h9.out⟩
    | 3, _ =>
      obtain ⟨ty, ps, af, ho⟩ := op_lit hops (i := 3) (op := Op.move (Operand.tmp 2)) (dst := some 11) (g := none) rfl
      refine wpOp_lit ho (fun j b h => by cases h) ?_
      clear hops hdep ho
      replace h0 := hidH h0
      replace h1 := hidH h1
      replace h2 := hidH h2
      replace h4 := hidH h4
      replace h5 := hidH h5
      replace h6 := hidH h6
      replace h7 := hidH h7
      replace h8 := hidH h8
      replace h9 := hidH h9
      go_wp2
      exact (HJ.out _ _ _).2 ⟨_, _, _, _, _, _, _, _, _, rfl, hE, hO, h0.out, h1.out, h2.out, fun _ => rfl, h4.out, h5.out, h6.out, h7.out, h8.out, h9.out⟩
    | 4, _ =>
      obtain ⟨ty, ps, af, ho⟩ := op_lit hops (i := 4) (op := Op.fieldAddr 60 (Operand.tmp 3) 2) (dst := some 12) (g := none) rfl
      refine wpOp_lit ho (fun j b h => by cases h) ?_
      clear hops hdep ho
      replace h0 := hidH h0
      replace h1 := hidH h1
      replace h2 := hidH h2
      replace h3 := hidH h3
      replace h5 := hidH h5
      replace h6 := hidH h6
      replace h7 := hidH h7
      replace h8 := hidH h8
      replace h9 := hidH h9
      go_wp2
      exact (HJ.out _ _ _).2 ⟨_, _, _, _, _, _, _, _, _, rfl, hE, hO, h0.out, h1.out, h2.out, h3.out, fun _ => rfl, h5.out, h6.out, h7.out, h8.out, h9.out⟩
    | 5, _ =>
      obtain ⟨ty, ps, af, ho⟩ := op_lit hops (i := 5) (op := Op.load 3 (Operand.tmp 12)) (dst := some 13) (g := none) rfl
      obtain rfl := h4 (hdep 4 (by simp))
      refine wpOp_lit ho (fun j b h => by cases h) ?_
      clear hops hdep ho
      replace h0 := hidH h0
      replace h1 := hidH h1
      replace h2 := hidH h2
      replace h3 := hidH h3
      replace h4 := hidH h4
      replace h6 := hidH h6
      replace h7 := hidH h7
      replace h8 := hidH h8
      replace h9 := hidH h9
      have hb := Below.refl W.heap.size W
      have q := (hO.cell (p := ⟨k, 2, none⟩) hkl).trans hk2
      go_wp2
      exact (HJ.out _ _ _).2 ⟨_, _, _, _, _, _, _, _, _, rfl, hE, btr hO hb, h0.out, h1.out, h2.out, h3.out, fun _ => rfl, fun _ => rfl, h6.out, fun h => by obtain ⟨A9, c9, q1, q2⟩ := h7.out h; exact ⟨A9, c9, q1, bs_below q2 hb⟩, (fun h h2 => by obtain ⟨g, q1, q2, q3⟩ := h8.out h h2; exact ⟨g, q1, q2.below hb, q3⟩), fun h => by obtain ⟨g, A9, c9, q1, q2, q3, q4⟩ := h9.out h; exact ⟨g, A9, c9, q1, q2.below hb, bs_below q3 hb, q4⟩⟩
    | 6, _ =>
      obtain ⟨ty, ps, af, ho⟩ := op_lit hops (i := 6) (op := Op.slice 24 (Operand.tmp 11) (some (Operand.tmp 13)) none none) (dst := some 14) (g := none) rfl
      obtain rfl := h3 (hdep 3 (by simp))
      obtain rfl := h5 (hdep 5 (by simp))
      refine wpOp_lit ho (fun j b h => by cases h) ?_
      clear hops hdep ho
      replace h0 := hidH h0
      replace h1 := hidH h1
      replace h2 := hidH h2
      replace h3 := hidH h3
      replace h4 := hidH h4
      replace h5 := hidH h5
      replace h7 := hidH h7
      replace h8 := hidH h8
      replace h9 := hidH h9
      have hs := cutC_l AR pn pc pi (pi : Int) rfl hin W
      go_wp2
      exact (HJ.out _ _ _).2 ⟨_, _, _, _, _, _, _, _, _, rfl, hE, hO, h0.out, h1.out, h2.out, fun _ => rfl, h4.out, fun _ => rfl, fun _ => rfl, h7.out, h8.out, h9.out⟩
    | 7, _ =>
      obtain ⟨ty, ps, af, ho⟩ := op_lit hops (i := 7) (op := Op.call { callee := Callee.value (Operand.func 20), args := #[(Operand.tmp 9), (Operand.tmp 10), (Operand.tmp 14)], argTypes := #[2, 22, 24] }) (dst := some 15) (g := none) rfl
      obtain rfl := h1 (hdep 1 (by simp))
      obtain rfl := h2 (hdep 2 (by simp))
      obtain rfl := h6 (hdep 6 (by simp))
      refine wpOp_lit ho (fun j b h => by cases h) ?_
      clear hops hdep ho
      replace h0 := hidH h0
      replace h1 := hidH h1
      replace h2 := hidH h2
      replace h3 := hidH h3
      replace h4 := hidH h4
      replace h5 := hidH h5
      replace h6 := hidH h6
      replace h8 := hidH h8
      replace h9 := hidH h9
      have HC := hidH (CALL W hO)
      go_wp2_with fail
      refine HC.out.mono ?_
      rintro e w9 ⟨A9, c9, rfl, s9, hb⟩
      have S9 := hidH s9
      clear s9
      go_wp2
      exact (HJ.out _ _ _).2 ⟨_, _, _, _, _, _, _, _, _, rfl, hE, btr hO hb, h0.out, fun _ => rfl, fun _ => rfl, h3.out, h4.out, h5.out, fun _ => rfl, fun _ => ⟨A9, c9, rfl, S9.out⟩, (fun h h2 => by obtain ⟨g, q1, q2, q3⟩ := h8.out h h2; exact ⟨g, q1, q2.below hb, q3⟩), fun h => by obtain ⟨g, A9, c9, q1, q2, q3, q4⟩ := h9.out h; exact ⟨g, A9, c9, q1, q2.below hb, bs_below q3 hb, q4⟩⟩
    | 8, _ =>
      obtain ⟨ty, ps, af, ho⟩ := op_lit hops (i := 8) (op := Op.alloc 48) (dst := some 7) (g := none) rfl
      refine wpOp_lit ho (fun j b h => by cases h) ?_
      clear hops hdep ho
      replace h0 := hidH h0
      replace h1 := hidH h1
      replace h2 := hidH h2
      replace h3 := hidH h3
      replace h4 := hidH h4
      replace h5 := hidH h5
      replace h6 := hidH h6
      replace h7 := hidH h7
      replace h9 := hidH h9
      have hb := bal (Below.refl W.heap.size W) (.cells #[.int .i64 0, .slice none 0 0] 48)
      have KG := hidH (Blk.new W 48 #[.int .i64 0, .slice none 0 0])
      have hG0 := hO.size
      go_wp2
      exact (HJ.out _ _ _).2 ⟨_, _, _, _, _, _, _, _, _, rfl, fun _ => rfl, btr hO hb, h0.out, h1.out, h2.out, h3.out, h4.out, h5.out, h6.out, fun h => by obtain ⟨A9, c9, q1, q2⟩ := h7.out h; exact ⟨A9, c9, q1, bs_below q2 hb⟩, fun _ => fun _ => ⟨_, rfl, KG.out, hG0⟩, (fun h => by have h3 : dn 8 = true := hE h; rw [hdn] at h3; cases h3)⟩
    | 9, _ =>
      obtain ⟨ty, ps, af, ho⟩ := op_lit hops (i := 9) (op := Op.store 48 (Operand.tmp 7) (Operand.tmp 15)) (dst := none) (g := none) rfl
      have hd8 := hidH (hdep 8 (by simp))
      obtain ⟨g, rfl, kg, hgw⟩ := h8 (hdep 8 (by simp)) hdn
      obtain ⟨B9, d9, rfl, p9⟩ := h7 (hdep 7 (by simp))
      refine wpOp_lit ho (fun j b h => by cases h) ?_
      clear hops hdep ho
      replace h0 := hidH h0
      replace h1 := hidH h1
      replace h2 := hidH h2
      replace h3 := hidH h3
      replace h4 := hidH h4
      replace h5 := hidH h5
      replace h6 := hidH h6
      replace h7 := hidH h7
      replace h8 := hidH h8
      have y0 := kg.cell 0
      have y1 := kg.cell 1
      have v0 := kg.frozen 0
      have v1 := kg.frozen 1
      simp only [List.getElem?_toArray, List.getElem?_cons_succ, List.getElem?_cons_zero] at y0 y1
      have hlt := kg.lt
      have FAR := hidH (fun (A0 : Option Addr) (h : Bs W A0 l) => bs_put2 h kg (.int .i64 cd) (.slice B9 l.length d9))
      have KS := hidH (show Blk ((W.setCell ⟨g, 0, none⟩ (.int .i64 cd)).setCell ⟨g, 1, none⟩ (.slice B9 l.length d9)) g 48 #[.int .i64 cd, .slice B9 l.length d9] from (kg.put 0 _).put 1 _)
      clear kg
      go_wp2
      exact (HJ.out _ _ _).2 ⟨_, _, _, _, _, _, _, _, _, rfl, fun _ => hd8.out, (bst (bst hO hgw _) hgw _), h0.out, h1.out, h2.out, h3.out, h4.out, h5.out, h6.out, fun _ => ⟨B9, d9, rfl, FAR.out _ p9⟩, (fun _ h2 => by simp at h2), fun _ => ⟨g, B9, d9, rfl, KS.out, FAR.out _ p9, hgw⟩⟩
    | n + 10, h => omega
  case fin =>
    clear hops hdeps hback
    rintro dn ac W hJ hall
    obtain ⟨t8, t9, t10, t11, t12, t13, t14, t15, t7, rfl, hE, hO, h0, h1, h2, h3, h4, h5, h6, h7, h8, h9⟩ := (HJ.out _ _ _).1 hJ
    exact fin _ _ _ _ _ _ _ _ _ W hO (h9 (hall 9 (by omega)))
set_option maxRecDepth 100000 in
set_option maxHeartbeats 1000000 in
theorem regCA9 {Q : Exit → Act → World → Prop} (x2 x3 x4 x7 x8 x9 x10 x11 x12 x13 x14 x15 x16 x17 x18 x19 x20 x21 x22 x23 x24 x25 x26 x27 x28 x29 vk : Value) (ww : World) (k g ab ao pn pc j z cB d : Nat) (A B : Option Addr) (l D : List Int) (b : Bool)
    (hkl : k < ww.heap.size) (hgl : g < ww.heap.size) (hab : ab < ww.heap.size) (hk2 : ww.cell? ⟨k, 2, none⟩ = some (.int .i64 ((j : Int) + 1))) (hg1 : ww.cell? ⟨g, 1, none⟩ = some (.slice A l.length d)) (r2 : ww.cell? ⟨ab, ao + j * 3 + 2, none⟩ = some (.slice B z cB)) (hz : 2 ≤ z) (hj0 : (0 : Int) ≤ (j : Int)) (hj : (j : Int) < (pn : Int)) (hjm : (j : Int) ≤ 1000)
    (HMAC : ∀ u : World, Below ww.heap.size ww u → Calls Tryz.prog 35 #[vk, .slice A l.length d] u (fun e w' => ∃ (A9 : Option Addr) (c9 : Nat), e = .returned (.slice A9 D.length c9) ∧ Bs w' A9 D ∧ Below u.heap.size u w'))
    (SAME : ∀ (u : World) (A9 : Option Addr) (c9 : Nat), Below ww.heap.size ww u → Bs u A9 D → Calls Tryz.prog 34 #[.slice (cutA B 2 cB) (z - 2) (cB - 2), .slice A9 D.length c9] u (fun e w' => e = .returned (.bool b) ∧ Below u.heap.size u w')) {ops : Array Oper}
    (hops : (ops.map fun o => (o.op, o.dst, o.guard)) = #[(Op.move (Operand.tmp 1), some 30, none), (Op.fieldAddr 33 (Operand.tmp 5) 2, some 31, none), (Op.load 2 (Operand.tmp 31), some 32, none), (Op.binOp BinOp.sub 2 (Operand.tmp 32) ((Operand.const (Value.int .i64 1))) 2, some 33, none), (Op.indexAddr 24 (Operand.tmp 30) (Operand.tmp 33), some 34, none), (Op.fieldAddr 37 (Operand.tmp 34) 2, some 35, none), (Op.load 22 (Operand.tmp 35), some 36, none), (Op.slice 22 (Operand.tmp 36) (some ((Operand.const (Value.int .i64 2)))) none none, some 37, none), (Op.move (Operand.tmp 0), some 38, none), (Op.fieldAddr 48 (Operand.tmp 6) 1, some 39, none), (Op.load 22 (Operand.tmp 39), some 40, none), (Op.call { callee := Callee.value (Operand.func 35), args := #[(Operand.tmp 38), (Operand.tmp 40)], argTypes := #[22, 22] }, some 41, none), (Op.call { callee := Callee.value (Operand.func 34), args := #[(Operand.tmp 37), (Operand.tmp 41)], argTypes := #[22, 22] }, some 42, none), (Op.unOp UnOp.not 4 (Operand.tmp 42), some 43, none)])
    (hdeps : ((List.range 14).all fun i => ((fun i => [[], [], [1], [2], [0, 3], [4], [5], [6], [], [], [9], [8, 10], [7, 11], [12]].getD i []) i).all fun j => ((ops[i]?).map fun o => o.after.any fun e => Region.binds .any e && e.on == j).getD false) = true)
    (hback : ((List.range 14).all fun i => ((ops[i]?).map fun o => o.after.all fun e => decide (e.on < i)).getD false) = true)
    {a0 : Act} {w0 : World} (ha : a0 = { tmps := #[vk, .slice (some ⟨ab, ao, none⟩) pn pc, x2, x3, x4, .pointer (some ⟨k, 0, none⟩), .pointer (some ⟨g, 0, none⟩), x7, x8, x9, x10, x11, x12, x13, x14, x15, x16, x17, x18, x19, x20, x21, x22, x23, x24, x25, x26, x27, x28, x29, undef, undef, undef, undef, undef, undef, undef, undef, undef, undef, undef, undef, undef, undef, undef, undef], defers := [] }) (hO : Below ww.heap.size ww w0)
    (fin : ∀ t30 t31 t32 t33 t34 t35 t36 t37 t38 t39 t40 t41 t42 (W : World), (Below ww.heap.size ww W) → Q .normal { tmps := #[vk, .slice (some ⟨ab, ao, none⟩) pn pc, x2, x3, x4, .pointer (some ⟨k, 0, none⟩), .pointer (some ⟨g, 0, none⟩), x7, x8, x9, x10, x11, x12, x13, x14, x15, x16, x17, x18, x19, x20, x21, x22, x23, x24, x25, x26, x27, x28, x29, t30, t31, t32, t33, t34, t35, t36, t37, t38, t39, t40, t41, t42, .bool (!b), undef, undef], defers := [] } W) :
    wpAny Tryz.prog .any ops Q ops.size (Array.replicate ops.size false) a0 w0 := by
  have hn : ops.size = 14 := by have := congrArg Array.size hops; simpa using this
  obtain ⟨J, HJ⟩ : ∃ J : (Nat → Bool) → Act → World → Prop, ∀ dn ac W, J dn ac W ↔ (fun dn ac W => ∃ t30 t31 t32 t33 t34 t35 t36 t37 t38 t39 t40 t41 t42 t43, ac = { tmps := #[vk, .slice (some ⟨ab, ao, none⟩) pn pc, x2, x3, x4, .pointer (some ⟨k, 0, none⟩), .pointer (some ⟨g, 0, none⟩), x7, x8, x9, x10, x11, x12, x13, x14, x15, x16, x17, x18, x19, x20, x21, x22, x23, x24, x25, x26, x27, x28, x29, t30, t31, t32, t33, t34, t35, t36, t37, t38, t39, t40, t41, t42, t43, undef, undef], defers := [] } ∧ (Below ww.heap.size ww W) ∧ (dn 0 = true → t30 = .slice (some ⟨ab, ao, none⟩) pn pc) ∧ (dn 1 = true → t31 = .pointer (some ⟨k, 2, none⟩)) ∧ (dn 2 = true → t32 = .int .i64 ((j : Int) + 1)) ∧ (dn 3 = true → t33 = .int .i64 (j : Int)) ∧ (dn 4 = true → t34 = .pointer (some ⟨ab, ao + j * 3, none⟩)) ∧ (dn 5 = true → t35 = .pointer (some ⟨ab, ao + j * 3 + 2, none⟩)) ∧ (dn 6 = true → t36 = .slice B z cB) ∧ (dn 7 = true → t37 = .slice (cutA B 2 cB) (z - 2) (cB - 2)) ∧ (dn 8 = true → t38 = vk) ∧ (dn 9 = true → t39 = .pointer (some ⟨g, 1, none⟩)) ∧ (dn 10 = true → t40 = .slice A l.length d) ∧ (dn 11 = true → ∃ (A9 : Option Addr) (c9 : Nat), t41 = .slice A9 D.length c9 ∧ Bs W A9 D) ∧ (dn 12 = true → t42 = .bool b) ∧ (dn 13 = true → t43 = .bool (!b))) dn ac W := ⟨_, fun _ _ _ => Iff.rfl⟩
  replace HJ := hidH HJ
  refine region_inv 14 (fun i => [[], [], [1], [2], [0, 3], [4], [5], [6], [], [], [9], [8, 10], [7, 11], [12]].getD i []) J hn hdeps hback ?start ?step ?fin
  case start => exact (HJ.out _ _ _).2 ⟨undef, undef, undef, undef, undef, undef, undef, undef, undef, undef, undef, undef, undef, undef, ha, hO, fun h => by simp at h, fun h => by simp at h, fun h => by simp at h, fun h => by simp at h, fun h => by simp at h, fun h => by simp at h, fun h => by simp at h, fun h => by simp at h, fun h => by simp at h, fun h => by simp at h, fun h => by simp at h, fun h => by simp at h, fun h => by simp at h, fun h => by simp at h⟩
  all_goals clear ha hO
  case step =>
    clear fin hdeps hback
    intro i hi dn ac W hJ hdn hdep
    obtain ⟨t30, t31, t32, t33, t34, t35, t36, t37, t38, t39, t40, t41, t42, t43, rfl, hO, h0, h1, h2, h3, h4, h5, h6, h7, h8, h9, h10, h11, h12, h13⟩ := (HJ.out _ _ _).1 hJ
    clear hJ
    match i, hi with
    | 0, _ =>
      obtain ⟨ty, ps, af, ho⟩ := op_lit hops (i := 0) (op := Op.move (Operand.tmp 1)) (dst := some 30) (g := none) rfl
      refine wpOp_lit ho (fun j b h => by cases h) ?_
      clear hops hdep ho
      replace h1 := hidH h1
      replace h2 := hidH h2
      replace h3 := hidH h3
      replace h4 := hidH h4
      replace h5 := hidH h5
      replace h6 := hidH h6
      replace h7 := hidH h7
      replace h8 := hidH h8
      replace h9 := hidH h9
      replace h10 := hidH h10
      replace h11 := hidH h11
      replace h12 := hidH h12
      replace h13 := hidH h13
      go_wp2
      exact (HJ.out _ _ _).2 ⟨_, _, _, _, _, _, _, _, _, _, _, _, _, _, rfl, hO, fun _ => rfl, h1.out, h2.out, h3.out, h4.out, h5.out, h6.out, h7.out, h8.out, h9.out, h10.out, h11.out, h12.out, h13.out⟩
    | 1, _ =>
      obtain ⟨ty, ps, af, ho⟩ := op_lit hops (i := 1) (op := Op.fieldAddr 33 (Operand.tmp 5) 2) (dst := some 31) (g := none) rfl
      refine wpOp_lit ho (fun j b h => by cases h) ?_
      clear hops hdep ho
      replace h0 := hidH h0
      replace h2 := hidH h2
      replace h3 := hidH h3
      replace h4 := hidH h4
      replace h5 := hidH h5
      replace h6 := hidH h6
      replace h7 := hidH h7
      replace h8 := hidH h8
      replace h9 := hidH h9
      replace h10 := hidH h10
      replace h11 := hidH h11
      replace h12 := hidH h12
      replace h13 := hidH h13
      go_wp2
      exact (HJ.out _ _ _).2 ⟨_, _, _, _, _, _, _, _, _, _, _, _, _, _, rfl, hO, h0.out, fun _ => rfl, h2.out, h3.out, h4.out, h5.out, h6.out, h7.out, h8.out, h9.out, h10.out, h11.out, h12.out, h13.out⟩
    | 2, _ =>
      obtain ⟨ty, ps, af, ho⟩ := op_lit hops (i := 2) (op := Op.load 2 (Operand.tmp 31)) (dst := some 32) (g := none) rfl
      obtain rfl := h1 (hdep 1 (by simp))
      refine wpOp_lit ho (fun j b h => by cases h) ?_
      clear hops hdep ho
      replace h0 := hidH h0
      replace h1 := hidH h1
      replace h3 := hidH h3
      replace h4 := hidH h4
      replace h5 := hidH h5
      replace h6 := hidH h6
      replace h7 := hidH h7
      replace h8 := hidH h8
      replace h9 := hidH h9
      replace h10 := hidH h10
      replace h11 := hidH h11
      replace h12 := hidH h12
      replace h13 := hidH h13
      have hb := Below.refl W.heap.size W
      have q := (hO.cell (p := ⟨k, 2, none⟩) hkl).trans hk2
      go_wp2
      exact (HJ.out _ _ _).2 ⟨_, _, _, _, _, _, _, _, _, _, _, _, _, _, rfl, btr hO hb, h0.out, fun _ => rfl, fun _ => rfl, h3.out, h4.out, h5.out, h6.out, h7.out, h8.out, h9.out, h10.out, fun h => by obtain ⟨A9, c9, q1, q2⟩ := h11.out h; exact ⟨A9, c9, q1, bs_below q2 hb⟩, h12.out, h13.out⟩
    | 3, _ =>
      obtain ⟨ty, ps, af, ho⟩ := op_lit hops (i := 3) (op := Op.binOp BinOp.sub 2 (Operand.tmp 32) ((Operand.const (Value.int .i64 1))) 2) (dst := some 33) (g := none) rfl
      obtain rfl := h2 (hdep 2 (by simp))
      refine wpOp_lit ho (fun j b h => by cases h) ?_
      clear hops hdep ho
      replace h0 := hidH h0
      replace h1 := hidH h1
      replace h2 := hidH h2
      replace h4 := hidH h4
      replace h5 := hidH h5
      replace h6 := hidH h6
      replace h7 := hidH h7
      replace h8 := hidH h8
      replace h9 := hidH h9
      replace h10 := hidH h10
      replace h11 := hidH h11
      replace h12 := hidH h12
      replace h13 := hidH h13
      go_wp2
      exact (HJ.out _ _ _).2 ⟨_, _, _, _, _, _, _, _, _, _, _, _, _, _, rfl, hO, h0.out, h1.out, fun _ => rfl, fun _ => rfl, h4.out, h5.out, h6.out, h7.out, h8.out, h9.out, h10.out, h11.out, h12.out, h13.out⟩
    | 4, _ =>
      obtain ⟨ty, ps, af, ho⟩ := op_lit hops (i := 4) (op := Op.indexAddr 24 (Operand.tmp 30) (Operand.tmp 33)) (dst := some 34) (g := none) rfl
      obtain rfl := h0 (hdep 0 (by simp))
      obtain rfl := h3 (hdep 3 (by simp))
      refine wpOp_lit ho (fun j b h => by cases h) ?_
      clear hops hdep ho
      replace h0 := hidH h0
      replace h1 := hidH h1
      replace h2 := hidH h2
      replace h3 := hidH h3
      replace h5 := hidH h5
      replace h6 := hidH h6
      replace h7 := hidH h7
      replace h8 := hidH h8
      replace h9 := hidH h9
      replace h10 := hidH h10
      replace h11 := hidH h11
      replace h12 := hidH h12
      replace h13 := hidH h13
      go_wp2
      exact (HJ.out _ _ _).2 ⟨_, _, _, _, _, _, _, _, _, _, _, _, _, _, rfl, hO, fun _ => rfl, h1.out, h2.out, fun _ => rfl, fun _ => rfl, h5.out, h6.out, h7.out, h8.out, h9.out, h10.out, h11.out, h12.out, h13.out⟩
    | 5, _ =>
      obtain ⟨ty, ps, af, ho⟩ := op_lit hops (i := 5) (op := Op.fieldAddr 37 (Operand.tmp 34) 2) (dst := some 35) (g := none) rfl
      obtain rfl := h4 (hdep 4 (by simp))
      refine wpOp_lit ho (fun j b h => by cases h) ?_
      clear hops hdep ho
      replace h0 := hidH h0
      replace h1 := hidH h1
      replace h2 := hidH h2
      replace h3 := hidH h3
      replace h4 := hidH h4
      replace h6 := hidH h6
      replace h7 := hidH h7
      replace h8 := hidH h8
      replace h9 := hidH h9
      replace h10 := hidH h10
      replace h11 := hidH h11
      replace h12 := hidH h12
      replace h13 := hidH h13
      go_wp2
      exact (HJ.out _ _ _).2 ⟨_, _, _, _, _, _, _, _, _, _, _, _, _, _, rfl, hO, h0.out, h1.out, h2.out, h3.out, fun _ => rfl, fun _ => rfl, h6.out, h7.out, h8.out, h9.out, h10.out, h11.out, h12.out, h13.out⟩
    | 6, _ =>
      obtain ⟨ty, ps, af, ho⟩ := op_lit hops (i := 6) (op := Op.load 22 (Operand.tmp 35)) (dst := some 36) (g := none) rfl
      obtain rfl := h5 (hdep 5 (by simp))
      refine wpOp_lit ho (fun j b h => by cases h) ?_
      clear hops hdep ho
      replace h0 := hidH h0
      replace h1 := hidH h1
      replace h2 := hidH h2
      replace h3 := hidH h3
      replace h4 := hidH h4
      replace h5 := hidH h5
      replace h7 := hidH h7
      replace h8 := hidH h8
      replace h9 := hidH h9
      replace h10 := hidH h10
      replace h11 := hidH h11
      replace h12 := hidH h12
      replace h13 := hidH h13
      have hb := Below.refl W.heap.size W
      have q := (hO.cell (p := ⟨ab, ao + j * 3 + 2, none⟩) hab).trans r2
      go_wp2
      exact (HJ.out _ _ _).2 ⟨_, _, _, _, _, _, _, _, _, _, _, _, _, _, rfl, btr hO hb, h0.out, h1.out, h2.out, h3.out, h4.out, fun _ => rfl, fun _ => rfl, h7.out, h8.out, h9.out, h10.out, fun h => by obtain ⟨A9, c9, q1, q2⟩ := h11.out h; exact ⟨A9, c9, q1, bs_below q2 hb⟩, h12.out, h13.out⟩
    | 7, _ =>
      obtain ⟨ty, ps, af, ho⟩ := op_lit hops (i := 7) (op := Op.slice 22 (Operand.tmp 36) (some ((Operand.const (Value.int .i64 2)))) none none) (dst := some 37) (g := none) rfl
      obtain rfl := h6 (hdep 6 (by simp))
      refine wpOp_lit ho (fun j b h => by cases h) ?_
      clear hops hdep ho
      replace h0 := hidH h0
      replace h1 := hidH h1
      replace h2 := hidH h2
      replace h3 := hidH h3
      replace h4 := hidH h4
      replace h5 := hidH h5
      replace h6 := hidH h6
      replace h8 := hidH h8
      replace h9 := hidH h9
      replace h10 := hidH h10
      replace h11 := hidH h11
      replace h12 := hidH h12
      replace h13 := hidH h13
      have hs := cut_l B z cB 2 2 rfl hz W
      go_wp2
      exact (HJ.out _ _ _).2 ⟨_, _, _, _, _, _, _, _, _, _, _, _, _, _, rfl, hO, h0.out, h1.out, h2.out, h3.out, h4.out, h5.out, fun _ => rfl, fun _ => rfl, h8.out, h9.out, h10.out, h11.out, h12.out, h13.out⟩
    | 8, _ =>
      obtain ⟨ty, ps, af, ho⟩ := op_lit hops (i := 8) (op := Op.move (Operand.tmp 0)) (dst := some 38) (g := none) rfl
      refine wpOp_lit ho (fun j b h => by cases h) ?_
      clear hops hdep ho
      replace h0 := hidH h0
      replace h1 := hidH h1
      replace h2 := hidH h2
      replace h3 := hidH h3
      replace h4 := hidH h4
      replace h5 := hidH h5
      replace h6 := hidH h6
      replace h7 := hidH h7
      replace h9 := hidH h9
      replace h10 := hidH h10
      replace h11 := hidH h11
      replace h12 := hidH h12
      replace h13 := hidH h13
      go_wp2
      exact (HJ.out _ _ _).2 ⟨_, _, _, _, _, _, _, _, _, _, _, _, _, _, rfl, hO, h0.out, h1.out, h2.out, h3.out, h4.out, h5.out, h6.out, h7.out, fun _ => rfl, h9.out, h10.out, h11.out, h12.out, h13.out⟩
    | 9, _ =>
      obtain ⟨ty, ps, af, ho⟩ := op_lit hops (i := 9) (op := Op.fieldAddr 48 (Operand.tmp 6) 1) (dst := some 39) (g := none) rfl
      refine wpOp_lit ho (fun j b h => by cases h) ?_
      clear hops hdep ho
      replace h0 := hidH h0
      replace h1 := hidH h1
      replace h2 := hidH h2
      replace h3 := hidH h3
      replace h4 := hidH h4
      replace h5 := hidH h5
      replace h6 := hidH h6
      replace h7 := hidH h7
      replace h8 := hidH h8
      replace h10 := hidH h10
      replace h11 := hidH h11
      replace h12 := hidH h12
      replace h13 := hidH h13
      go_wp2
      exact (HJ.out _ _ _).2 ⟨_, _, _, _, _, _, _, _, _, _, _, _, _, _, rfl, hO, h0.out, h1.out, h2.out, h3.out, h4.out, h5.out, h6.out, h7.out, h8.out, fun _ => rfl, h10.out, h11.out, h12.out, h13.out⟩
    | 10, _ =>
      obtain ⟨ty, ps, af, ho⟩ := op_lit hops (i := 10) (op := Op.load 22 (Operand.tmp 39)) (dst := some 40) (g := none) rfl
      obtain rfl := h9 (hdep 9 (by simp))
      refine wpOp_lit ho (fun j b h => by cases h) ?_
      clear hops hdep ho
      replace h0 := hidH h0
      replace h1 := hidH h1
      replace h2 := hidH h2
      replace h3 := hidH h3
      replace h4 := hidH h4
      replace h5 := hidH h5
      replace h6 := hidH h6
      replace h7 := hidH h7
      replace h8 := hidH h8
      replace h9 := hidH h9
      replace h11 := hidH h11
      replace h12 := hidH h12
      replace h13 := hidH h13
      have hb := Below.refl W.heap.size W
      have q := (hO.cell (p := ⟨g, 1, none⟩) hgl).trans hg1
      go_wp2
      exact (HJ.out _ _ _).2 ⟨_, _, _, _, _, _, _, _, _, _, _, _, _, _, rfl, btr hO hb, h0.out, h1.out, h2.out, h3.out, h4.out, h5.out, h6.out, h7.out, h8.out, fun _ => rfl, fun _ => rfl, fun h => by obtain ⟨A9, c9, q1, q2⟩ := h11.out h; exact ⟨A9, c9, q1, bs_below q2 hb⟩, h12.out, h13.out⟩
    | 11, _ =>
      obtain ⟨ty, ps, af, ho⟩ := op_lit hops (i := 11) (op := Op.call { callee := Callee.value (Operand.func 35), args := #[(Operand.tmp 38), (Operand.tmp 40)], argTypes := #[22, 22] }) (dst := some 41) (g := none) rfl
      obtain rfl := h8 (hdep 8 (by simp))
      obtain rfl := h10 (hdep 10 (by simp))
      refine wpOp_lit ho (fun j b h => by cases h) ?_
      clear hops hdep ho
      replace h0 := hidH h0
      replace h1 := hidH h1
      replace h2 := hidH h2
      replace h3 := hidH h3
      replace h4 := hidH h4
      replace h5 := hidH h5
      replace h6 := hidH h6
      replace h7 := hidH h7
      replace h8 := hidH h8
      replace h9 := hidH h9
      replace h10 := hidH h10
      replace h12 := hidH h12
      replace h13 := hidH h13
      have HC := hidH (HMAC W hO)
      go_wp2_with fail
      refine HC.out.mono ?_
      rintro e w9 ⟨A9, c9, rfl, s9, hb⟩
      have S9 := hidH s9
      clear s9
      go_wp2
      exact (HJ.out _ _ _).2 ⟨_, _, _, _, _, _, _, _, _, _, _, _, _, _, rfl, btr hO hb, h0.out, h1.out, h2.out, h3.out, h4.out, h5.out, h6.out, h7.out, fun _ => rfl, h9.out, fun _ => rfl, fun _ => ⟨A9, c9, rfl, S9.out⟩, h12.out, h13.out⟩
    | 12, _ =>
      obtain ⟨ty, ps, af, ho⟩ := op_lit hops (i := 12) (op := Op.call { callee := Callee.value (Operand.func 34), args := #[(Operand.tmp 37), (Operand.tmp 41)], argTypes := #[22, 22] }) (dst := some 42) (g := none) rfl
      obtain rfl := h7 (hdep 7 (by simp))
      obtain ⟨A9, c9, rfl, s9⟩ := h11 (hdep 11 (by simp))
      refine wpOp_lit ho (fun j b h => by cases h) ?_
      clear hops hdep ho
      replace h0 := hidH h0
      replace h1 := hidH h1
      replace h2 := hidH h2
      replace h3 := hidH h3
      replace h4 := hidH h4
      replace h5 := hidH h5
      replace h6 := hidH h6
      replace h7 := hidH h7
      replace h8 := hidH h8
      replace h9 := hidH h9
      replace h10 := hidH h10
      replace h11 := hidH h11
      replace h13 := hidH h13
      have HC := hidH (SAME W A9 c9 hO s9)
      go_wp2_with fail
      refine HC.out.mono ?_
      rintro e w9 ⟨rfl, hb⟩
      go_wp2
      exact (HJ.out _ _ _).2 ⟨_, _, _, _, _, _, _, _, _, _, _, _, _, _, rfl, btr hO hb, h0.out, h1.out, h2.out, h3.out, h4.out, h5.out, h6.out, fun _ => rfl, h8.out, h9.out, h10.out, fun _ => ⟨A9, c9, rfl, bs_below s9 hb⟩, fun _ => rfl, h13.out⟩
    | 13, _ =>
      obtain ⟨ty, ps, af, ho⟩ := op_lit hops (i := 13) (op := Op.unOp UnOp.not 4 (Operand.tmp 42)) (dst := some 43) (g := none) rfl
      obtain rfl := h12 (hdep 12 (by simp))
      refine wpOp_lit ho (fun j b h => by cases h) ?_
      clear hops hdep ho
      replace h0 := hidH h0
      replace h1 := hidH h1
      replace h2 := hidH h2
      replace h3 := hidH h3
      replace h4 := hidH h4
      replace h5 := hidH h5
      replace h6 := hidH h6
      replace h7 := hidH h7
      replace h8 := hidH h8
      replace h9 := hidH h9
      replace h10 := hidH h10
      replace h11 := hidH h11
      replace h12 := hidH h12
      go_wp2
      exact (HJ.out _ _ _).2 ⟨_, _, _, _, _, _, _, _, _, _, _, _, _, _, rfl, hO, h0.out, h1.out, h2.out, h3.out, h4.out, h5.out, h6.out, h7.out, h8.out, h9.out, h10.out, h11.out, fun _ => rfl, fun _ => rfl⟩
    | n + 14, h => omega
  case fin =>
    clear hops hdeps hback
    rintro dn ac W hJ hall
    obtain ⟨t30, t31, t32, t33, t34, t35, t36, t37, t38, t39, t40, t41, t42, t43, rfl, hO, h0, h1, h2, h3, h4, h5, h6, h7, h8, h9, h10, h11, h12, h13⟩ := (HJ.out _ _ _).1 hJ
    obtain rfl := h13 (hall 13 (by omega))
    exact fin _ _ _ _ _ _ _ _ _ _ _ _ _ W hO
end Go.Proofs.YtncnibkojneejaaGreatDoor
