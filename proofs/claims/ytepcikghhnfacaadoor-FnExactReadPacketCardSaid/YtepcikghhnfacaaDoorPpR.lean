/- The region of the program's PackPacket that draws its order. -/
import Derived.Test.YtepcikghhnfacaaDoorPsI
import Derived.Test.YtepcikghhnfacaaDoorRegInv
import Derived.Laws.CopyOwn
namespace Go.Proofs.YtepcikghhnfacaaDoor
open Go.RowKit Go.Deep

theorem fldB7 (c : Int) (A : Option Addr) (n cp : Nat) (w : World) : (Instr.field 29 (.agg #[.int .i64 c, .slice A n cp]) 1).run Tryd.prog w = .ok (.slice A n cp) w := by kernel_rfl
theorem bs_head {w : World} {A : Option Addr} {l : List Int} (h : Bs w A l) (hp : 0 < l.length) : ∃ ad, A = some ad ∧ ∀ (j : Nat) v, (l.map (Value.int .u8))[j]? = some v → w.cell? (ad.add j) = some v := by
  rcases h with rfl | ⟨b, off, rfl, hb, hc⟩
  · simp at hp
  · refine ⟨_, rfl, fun j v hv => ?_⟩
    have hj : j < l.length := by
      rcases Nat.lt_or_ge j l.length with h | h
      · exact h
      · rw [List.getElem?_eq_none (by simpa using h)] at hv; cases hv
    rw [add_off, hc j hj, ← hv]
    simp [hj]
/-- Four bytes written over the checksum's place of a row. -/
theorem copy_at4 {w : World} {g n cap c : Nat} {cur : Array Value} {A : Option Addr} {l R : List Int} (h : Blk w g 5 cur) (hs : cur.size = cap) (ht : cur.toList.take n = R.map (Value.int .u8)) (hn : 8 ≤ n) (hc : n ≤ cap) (hA : Bs w A l) (hl : l.length = 4 := by rfl) :
    ∃ cur2 : Array Value, (∀ T, (Builtin.copy_ #[22, 22] T #[.slice (some ⟨g, 4, none⟩) (n - 4) (cap - 4), .slice A 4 c]).run Tryd.prog w = .ok (goInt 4) (w.setRow g cur2)) ∧
    (Blk (w.setRow g cur2) g 5 cur2 ∧ cur2.size = cap ∧ cur2.toList.take n = (R.take 4 ++ l ++ R.drop 8).map (Value.int .u8)) ∧ Below g w (w.setRow g cur2) := by
  obtain ⟨ad, rfl, hsrc⟩ := bs_head hA (by omega)
  have hsz : cur.toList.length = cap := by simpa using hs
  have hRl : R.length = n := by have := congrArg List.length ht; simp at this; omega
  refine ⟨(cur.toList.take 4 ++ l.map (Value.int .u8) ++ cur.toList.drop 8).toArray, fun T => ?_, ⟨?_, ?_, ?_⟩, below_setRow (Below.refl _ _) (Nat.le_refl _) _⟩
  · have hm : Nat.min 4 (n - 4) = 4 := Nat.min_eq_left (by omega)
    have := run_copy_row (P := Tryd.prog) w 22 22 T 5 g 4 (n - 4) (cap - 4) ad 4 c cur _ (l.map (Value.int .u8)) (by kernel_rfl) (by kernel_rfl) h (by simp [hm, hl]) hsrc (by simp [hl]; omega) (by intro v hv; simp at hv; obtain ⟨x, _, rfl⟩ := hv; rfl)
    simpa [hl] using this
  · unfold Blk
    rw [setRow_heap w g _ _ _ _ h]
  · simp only [List.size_toArray, List.length_append, List.length_take, List.length_map, List.length_drop]
    omega
  · have e : cur.toList = R.map (Value.int .u8) ++ cur.toList.drop n := by rw [← ht, List.take_append_drop]
    have e4 : cur.toList.take 4 = (R.take 4).map (Value.int .u8) := by
      rw [e, List.take_append_of_le_length (by simp; omega), List.map_take]
    have e8 : cur.toList.drop 8 = (R.drop 8).map (Value.int .u8) ++ cur.toList.drop n := by
      have e' := congrArg (List.drop 8) e
      rw [List.drop_append_of_le_length (by simp; omega), ← List.map_drop] at e'
      exact e'
    have el : cur.toList.take 4 ++ l.map (Value.int .u8) ++ cur.toList.drop 8 = (R.take 4 ++ l ++ R.drop 8).map (Value.int .u8) ++ cur.toList.drop n := by
      rw [e4, e8]; simp
    rw [el]
    exact List.take_left' (by simp; omega)
theorem raw_turned (tag S : Int) (cs : List Chk) : (rawL tag 0 cs).take 4 ++ pk S ++ (rawL tag 0 cs).drop 8 = rawL tag S cs := by
  rw [rawL_drop, rawL_eq, rawL_eq]
  simp [pk]
set_option maxRecDepth 100000 in
set_option maxHeartbeats 1000000 in
theorem regPp {Q : Exit → Act → World → Prop} (x0 x1 x3 x5 x6 x7 x8 x9 x10 x11 x12 x13 x14 x15 x16 x17 x18 x19 x20 x21 x22 x23 x24 x25 x26 x27 x28 x29 x30 x31 x32 x33 : Value) (ws : World) (g r n cap : Nat) (cur : Array Value) (R : List Int) (S : Int) (hs : cur.size = cap) (ht : cur.toList.take n = R.map (Value.int .u8)) (hn8 : 8 ≤ n) (hnc : n ≤ cap) (hrg : r < g) (hgs : ws.heap.size ≤ g)
    (PS : ∀ u : World, Blk u g 5 cur → Calls Tryd.prog 29 #[.slice (some ⟨g, 0, none⟩) n cap] u fun e w' => e = .returned (.int .i64 S) ∧ Below u.heap.size u w')
    (PW : ∀ u : World, Calls Tryd.prog 27 #[.int .i64 S] u (BRes u 0 (pk S))) {ops : Array Oper}
    (hops : (ops.map fun o => (o.op, o.dst, o.guard)) = #[(Op.move (Operand.tmp 4), some 34, none), (Op.slice 22 (Operand.tmp 34) (some ((Operand.const (Value.int .i64 4)))) none none, some 35, none), (Op.move (Operand.tmp 4), some 36, none), (Op.call { callee := Callee.value (Operand.func 29), args := #[(Operand.tmp 36)], argTypes := #[22] }, some 37, none), (Op.call { callee := Callee.value (Operand.func 27), args := #[(Operand.tmp 37)], argTypes := #[2] }, some 38, none), (Op.field 29 (Operand.tmp 38) 1, some 39, none), (Op.call { callee := Callee.builtin Builtin.copy, args := #[(Operand.tmp 35), (Operand.tmp 39)], argTypes := #[22, 22] }, some 40, none)])
    (hdeps : ((List.range 7).all fun i => ((fun i => [[], [0], [], [2], [3], [4], [1, 5]].getD i []) i).all fun j => ((ops[i]?).map fun o => o.after.any fun e => Region.binds .any e && e.on == j).getD false) = true)
    (hback : ((List.range 7).all fun i => ((ops[i]?).map fun o => o.after.all fun e => decide (e.on < i)).getD false) = true)
    {a0 : Act} {w0 : World} (ha : a0 = { tmps := #[x0, x1, .pointer (some ⟨r, 0, none⟩), x3, .slice (some ⟨g, 0, none⟩) n cap, x5, x6, x7, x8, x9, x10, x11, x12, x13, x14, x15, x16, x17, x18, x19, x20, x21, x22, x23, x24, x25, x26, x27, x28, x29, x30, x31, x32, x33, undef, undef, undef, undef, undef, undef, undef, undef, undef], defers := [] }) (hE : (false = true → false = true) ∧ (false = true → false = true) ∧ (false = true → false = true)) (hK : false = false → Blk w0 g 5 cur) (hR : Blk w0 r 29 #[.int .i64 0, .slice none 0 0]) (hW : Below ws.heap.size ws w0)
    (fin : ∀ t34 t35 t36 t37 t38 t39 t40 (W : World), (Blk W r 29 #[.int .i64 0, .slice none 0 0]) → (Below ws.heap.size ws W) → (∃ cur2 : Array Value, Blk W g 5 cur2 ∧ cur2.size = cap ∧ cur2.toList.take n = ((R.take 4 ++ pk S ++ R.drop 8).map (Value.int .u8))) → Q .normal { tmps := #[x0, x1, .pointer (some ⟨r, 0, none⟩), x3, .slice (some ⟨g, 0, none⟩) n cap, x5, x6, x7, x8, x9, x10, x11, x12, x13, x14, x15, x16, x17, x18, x19, x20, x21, x22, x23, x24, x25, x26, x27, x28, x29, x30, x31, x32, x33, t34, t35, t36, t37, t38, t39, t40, undef, undef], defers := [] } W) :
    wpAny Tryd.prog .any ops Q ops.size (Array.replicate ops.size false) a0 w0 := by
  have hn : ops.size = 7 := by have := congrArg Array.size hops; simpa using this
  obtain ⟨J, HJ⟩ : ∃ J : (Nat → Bool) → Act → World → Prop, ∀ dn ac W, J dn ac W ↔ (fun dn ac W => ∃ t34 t35 t36 t37 t38 t39 t40, ac = { tmps := #[x0, x1, .pointer (some ⟨r, 0, none⟩), x3, .slice (some ⟨g, 0, none⟩) n cap, x5, x6, x7, x8, x9, x10, x11, x12, x13, x14, x15, x16, x17, x18, x19, x20, x21, x22, x23, x24, x25, x26, x27, x28, x29, x30, x31, x32, x33, t34, t35, t36, t37, t38, t39, t40, undef, undef], defers := [] } ∧ ((dn 6 = true → dn 5 = true) ∧ (dn 5 = true → dn 4 = true) ∧ (dn 4 = true → dn 3 = true)) ∧ (dn 6 = false → Blk W g 5 cur) ∧ (Blk W r 29 #[.int .i64 0, .slice none 0 0]) ∧ (Below ws.heap.size ws W) ∧ (dn 0 = true → t34 = .slice (some ⟨g, 0, none⟩) n cap) ∧ (dn 1 = true → t35 = .slice (some ⟨g, 4, none⟩) (n - 4) (cap - 4)) ∧ (dn 2 = true → t36 = .slice (some ⟨g, 0, none⟩) n cap) ∧ (dn 3 = true → t37 = .int .i64 S) ∧ (dn 4 = true → dn 5 = false → ∃ (A : Option Addr) (c : Nat), t38 = .agg #[.int .i64 0, .slice A 4 c] ∧ Bs W A (pk S)) ∧ (dn 5 = true → dn 6 = false → ∃ (A : Option Addr) (c : Nat), t39 = .slice A 4 c ∧ Bs W A (pk S)) ∧ (dn 6 = true → ∃ cur2 : Array Value, Blk W g 5 cur2 ∧ cur2.size = cap ∧ cur2.toList.take n = ((R.take 4 ++ pk S ++ R.drop 8).map (Value.int .u8)))) dn ac W := ⟨_, fun _ _ _ => Iff.rfl⟩
  replace HJ := hidH HJ
  refine region_inv 7 (fun i => [[], [0], [], [2], [3], [4], [1, 5]].getD i []) J hn hdeps hback ?start ?step ?fin
  case start => exact (HJ.out _ _ _).2 ⟨undef, undef, undef, undef, undef, undef, undef, ha, hE, hK, hR, hW, fun h => by simp at h, fun h => by simp at h, fun h => by simp at h, fun h => by simp at h, fun h => by simp at h, fun h => by simp at h, fun h => by simp at h⟩
  all_goals clear ha hE hK hR hW
  case step =>
    clear fin hdeps hback
    intro i hi dn ac W hJ hdn hdep
    obtain ⟨t34, t35, t36, t37, t38, t39, t40, rfl, hE, hK, hR, hW, h0, h1, h2, h3, h4, h5, h6⟩ := (HJ.out _ _ _).1 hJ
    clear hJ
    match i, hi with
    | 0, _ =>
      obtain ⟨ty, ps, af, ho⟩ := op_lit hops (i := 0) (op := Op.move (Operand.tmp 4)) (dst := some 34) (g := none) rfl
      refine wpOp_lit ho (fun j b h => by cases h) ?_
      clear hops hdep ho
      replace h1 := hidH h1
      replace h2 := hidH h2
      replace h3 := hidH h3
      replace h4 := hidH h4
      replace h5 := hidH h5
      replace h6 := hidH h6
      go_wp2
      exact (HJ.out _ _ _).2 ⟨_, _, _, _, _, _, _, rfl, hE, hK, hR, hW, fun _ => rfl, h1.out, h2.out, h3.out, h4.out, h5.out, h6.out⟩
    | 1, _ =>
      obtain ⟨ty, ps, af, ho⟩ := op_lit hops (i := 1) (op := Op.slice 22 (Operand.tmp 34) (some ((Operand.const (Value.int .i64 4)))) none none) (dst := some 35) (g := none) rfl
      obtain rfl := h0 (hdep 0 (by simp))
      refine wpOp_lit ho (fun j b h => by cases h) ?_
      clear hops hdep ho
      replace h0 := hidH h0
      replace h2 := hidH h2
      replace h3 := hidH h3
      replace h4 := hidH h4
      replace h5 := hidH h5
      replace h6 := hidH h6
      go_wp2
      exact (HJ.out _ _ _).2 ⟨_, _, _, _, _, _, _, rfl, hE, hK, hR, hW, fun _ => rfl, fun _ => rfl, h2.out, h3.out, h4.out, h5.out, h6.out⟩
    | 2, _ =>
      obtain ⟨ty, ps, af, ho⟩ := op_lit hops (i := 2) (op := Op.move (Operand.tmp 4)) (dst := some 36) (g := none) rfl
      refine wpOp_lit ho (fun j b h => by cases h) ?_
      clear hops hdep ho
      replace h0 := hidH h0
      replace h1 := hidH h1
      replace h3 := hidH h3
      replace h4 := hidH h4
      replace h5 := hidH h5
      replace h6 := hidH h6
      go_wp2
      exact (HJ.out _ _ _).2 ⟨_, _, _, _, _, _, _, rfl, hE, hK, hR, hW, h0.out, h1.out, fun _ => rfl, h3.out, h4.out, h5.out, h6.out⟩
    | 3, _ =>
      obtain ⟨ty, ps, af, ho⟩ := op_lit hops (i := 3) (op := Op.call { callee := Callee.value (Operand.func 29), args := #[(Operand.tmp 36)], argTypes := #[22] }) (dst := some 37) (g := none) rfl
      have hk6 : dn 6 = false := by
        rcases hq : dn 6 with _ | _
        · rfl
        · have h3 : dn 3 = true := hE.2.2 (hE.2.1 (hE.1 hq))
          rw [hdn] at h3; cases h3
      obtain rfl := h2 (hdep 2 (by simp))
      refine wpOp_lit ho (fun j b h => by cases h) ?_
      clear hops hdep ho
      replace h0 := hidH h0
      replace h1 := hidH h1
      replace h2 := hidH h2
      replace h4 := hidH h4
      replace h5 := hidH h5
      replace h6 := hidH h6
      have kb := hK hk6
      go_wp2_with fail
      refine (PS _ kb).mono ?_
      rintro e w1 ⟨rfl, hb⟩
      go_wp2
      exact (HJ.out _ _ _).2 ⟨_, _, _, _, _, _, _, rfl, ⟨hE.1, hE.2.1, fun _ => rfl⟩, fun h => (hK h).below hb, hR.below hb, btr hW hb, h0.out, h1.out, fun _ => rfl, fun _ => rfl, fun h h2 => by obtain ⟨A, c, q1, q2⟩ := h4.out h h2; exact ⟨A, c, q1, bs_below q2 hb⟩, fun h h2 => by obtain ⟨A, c, q1, q2⟩ := h5.out h h2; exact ⟨A, c, q1, bs_below q2 hb⟩, (fun h => by have h3 : dn 3 = true := hE.2.2 (hE.2.1 (hE.1 h)); rw [hdn] at h3; cases h3)⟩
    | 4, _ =>
      obtain ⟨ty, ps, af, ho⟩ := op_lit hops (i := 4) (op := Op.call { callee := Callee.value (Operand.func 27), args := #[(Operand.tmp 37)], argTypes := #[2] }) (dst := some 38) (g := none) rfl
      have hd3 := hidH (hdep 3 (by simp))
      obtain rfl := h3 (hdep 3 (by simp))
      refine wpOp_lit ho (fun j b h => by cases h) ?_
      clear hops hdep ho
      replace h0 := hidH h0
      replace h1 := hidH h1
      replace h2 := hidH h2
      replace h3 := hidH h3
      replace h5 := hidH h5
      replace h6 := hidH h6
      go_wp2_with fail
      refine (PW _).mono ?_
      rintro e w1 ⟨A, c, rfl, hO, hb, _, _⟩
      rw [show (pk S).length = 4 from rfl]
      have hA := hO.bs
      clear hO
      go_wp2
      exact (HJ.out _ _ _).2 ⟨_, _, _, _, _, _, _, rfl, ⟨hE.1, fun _ => rfl, fun _ => hd3.out⟩, fun h => (hK h).below hb, hR.below hb, btr hW hb, h0.out, h1.out, h2.out, fun _ => rfl, fun _ => fun _ => ⟨A, c, rfl, hA⟩, fun h h2 => by obtain ⟨A, c, q1, q2⟩ := h5.out h h2; exact ⟨A, c, q1, bs_below q2 hb⟩, (fun h => by have h3 : dn 4 = true := hE.2.1 (hE.1 h); rw [hdn] at h3; cases h3)⟩
    | 5, _ =>
      obtain ⟨ty, ps, af, ho⟩ := op_lit hops (i := 5) (op := Op.field 29 (Operand.tmp 38) 1) (dst := some 39) (g := none) rfl
      have hd4 := hidH (hdep 4 (by simp))
      obtain ⟨A, c, rfl, hA⟩ := h4 (hdep 4 (by simp)) hdn
      refine wpOp_lit ho (fun j b h => by cases h) ?_
      clear hops hdep ho
      replace h0 := hidH h0
      replace h1 := hidH h1
      replace h2 := hidH h2
      replace h3 := hidH h3
      replace h4 := hidH h4
      replace h6 := hidH h6
      have hb := Below.refl W.heap.size W
      have f1 := fldB7
      go_wp2
      exact (HJ.out _ _ _).2 ⟨_, _, _, _, _, _, _, rfl, ⟨fun _ => rfl, fun _ => hd4.out, hE.2.2⟩, fun h => hK h, hR.below hb, btr hW hb, h0.out, h1.out, h2.out, h3.out, (fun _ h2 => by simp at h2), fun _ => fun _ => ⟨A, c, rfl, hA⟩, (fun h => by have h3 : dn 5 = true := hE.1 h; rw [hdn] at h3; cases h3)⟩
    | 6, _ =>
      obtain ⟨ty, ps, af, ho⟩ := op_lit hops (i := 6) (op := Op.call { callee := Callee.builtin Builtin.copy, args := #[(Operand.tmp 35), (Operand.tmp 39)], argTypes := #[22, 22] }) (dst := some 40) (g := none) rfl
      have hd5 := hidH (hdep 5 (by simp))
      obtain ⟨A, c, rfl, hA⟩ := h5 (hdep 5 (by simp)) hdn
      obtain rfl := h1 (hdep 1 (by simp))
      refine wpOp_lit ho (fun j b h => by cases h) ?_
      clear hops hdep ho
      replace h0 := hidH h0
      replace h1 := hidH h1
      replace h2 := hidH h2
      replace h3 := hidH h3
      replace h4 := hidH h4
      replace h5 := hidH h5
      have kb := hK hdn
      obtain ⟨cur2, hr6, K6, hb6⟩ := copy_at4 (c := c) kb hs ht hn8 hnc hA
      have K6 := hidH K6
      have hb6 := hidH hb6
      have hg6 := hb6.out.size
      go_wp2
      exact (HJ.out _ _ _).2 ⟨_, _, _, _, _, _, _, rfl, ⟨fun _ => hd5.out, hE.2⟩, (fun h => by simp at h), (hb6.out.block r hrg).trans hR, hW.trans (hb6.out.mono hgs), h0.out, fun _ => rfl, h2.out, h3.out, (fun _ h2 => by have h3 : dn 5 = false := h2; rw [hd5.out] at h3; cases h3), (fun _ h2 => by simp at h2), fun _ => ⟨_, K6.out⟩⟩
    | n + 7, h => omega
  case fin =>
    clear hops hdeps hback
    rintro dn ac W hJ hall
    obtain ⟨t34, t35, t36, t37, t38, t39, t40, rfl, hE, hK, hR, hW, h0, h1, h2, h3, h4, h5, h6⟩ := (HJ.out _ _ _).1 hJ
    exact fin _ _ _ _ _ _ _ W hR hW (h6 (hall 6 (by omega)))
end Go.Proofs.YtepcikghhnfacaaDoor
