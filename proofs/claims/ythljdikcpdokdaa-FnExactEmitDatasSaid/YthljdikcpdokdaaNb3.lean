import Derived.Test.YthljdikcpdokdaaNb2
import Derived.Test.YthljdikcpdokdaaNa6
import Derived.Test.YthljdikcpdokdaaNb1
import Derived.Deep.Cut

/- The region of the queue's add. -/
namespace Go.Proofs.Ythljdikcpdokdaa
open Go.RowKit Go.Deep

/-- Everything else is kept: all but the block b and the row's own one. -/
structure Kp (b : Nat) (o : Option Nat) (w w' : World) : Prop where
  os : w'.os = w.os
  tape : w'.tape = w.tape
  output : w'.output = w.output
  size : w.heap.size ≤ w'.heap.size
  block : ∀ k, k < w.heap.size → k ≠ b → o ≠ some k → w'.heap[k]? = w.heap[k]?
theorem Kp.refl (b : Nat) (o : Option Nat) (w : World) : Kp b o w w := ⟨rfl, rfl, rfl, Nat.le_refl _, fun _ _ _ _ => rfl⟩
theorem Kp.turn {b : Nat} {o : Option Nat} {a w w' : World} (h : Kp b o a w) (hb : Below w.heap.size w w') : Kp b o a w' :=
  ⟨hb.os.trans h.os, hb.tape.trans h.tape, hb.output.trans h.output, Nat.le_trans h.size hb.size, fun k hk h1 h2 => (hb.block k (Nat.lt_of_lt_of_le hk h.size)).trans (h.block k hk h1 h2)⟩
theorem Kp.append {b : Nat} {o : Option Nat} {a w w' : World} (h : Kp b o a w) (hg : w.grownBy w' o) : Kp b o a w' :=
  ⟨hg.os.trans h.os, hg.tape.trans h.tape, hg.output.trans h.output, Nat.le_trans h.size hg.size, fun k hk h1 ho => (hg.block k (Nat.lt_of_lt_of_le hk h.size) (fun e => ho e.symm)).trans (h.block k hk h1 ho)⟩
theorem Kp.put {b : Nat} {o : Option Nat} {a w : World} (h : Kp b o a w) (u : Value) : Kp b o a (w.setCell ⟨b, 0, none⟩ u) :=
  have hw := set_win w b 0 u
  ⟨hw.os.trans h.os, hw.tape.trans h.tape, hw.output.trans h.output, Nat.le_trans h.size hw.size, fun k hk hb ho => (hw.block k (Nat.lt_of_lt_of_le hk h.size) (by omega)).trans (h.block k hk hb ho)⟩
theorem Kp.below {b B : Nat} {o : Option Nat} {w w' : World} (h : Kp b o w w') (hb : B ≤ b) (ho : ∀ k, o = some k → B ≤ k) (hB : B ≤ w.heap.size) : Below B w w' :=
  ⟨h.os, h.tape, h.output, h.size, fun k hk => h.block k (by omega) (by omega) (fun e => by have := ho k e; omega)⟩
theorem Kp.blk {b g : Nat} {o : Option Nat} {w w' : World} {t : TypeId} {cs : Array Value} (h : Kp b o w w') (k : Blk w g t cs) (hb : g ≠ b) (ho : o ≠ some g) : Blk w' g t cs := (h.block g k.lt hb ho).trans k
theorem Kp.row {b B s n : Nat} {o : Option Nat} {w w' : World} {e : TypeId} {v : Value} {xs : List Value} (h : Kp b o w w') (k : w.ownsRow B e s v n xs) (hb : ∀ g, v.ownBlock = some g → g ≠ b ∧ o ≠ some g) : w'.ownsRow B e s v n xs := by
  obtain ⟨h1, h2 | ⟨g, cap, cur, rfl, h4, h5, h6⟩⟩ := k
  · exact ⟨h1, .inl h2⟩
  · have hh := hb g (by simp [Value.ownBlock])
    exact ⟨h1, .inr ⟨g, cap, cur, rfl, h4, (h.block g (Array.getElem?_eq_some_iff.1 h5).1 hh.1 hh.2).trans h5, h6⟩⟩
set_option maxRecDepth 100000 in
set_option maxHeartbeats 1000000 in
theorem regQA {Q : Exit → Act → World → Prop} (x1 : Value) (ww : World) (b bx base n cR n9 c9 : Nat) (AR A9 : Option Addr) (xs : List Value) (x : SendItemM) (hn : n ≤ 90000) (HX0 : Blk ww bx 121 #[.int .i64 x.Data_Tsn, .int .i64 x.Data_Stream, .int .i64 x.Data_Seq, .bool x.Data_First, .bool x.Data_Last, .bool x.Data_Unordered, .slice A9 n9 c9, .int .i64 x.Sent, .int .i64 x.Due]) (hbx : bx ≠ b) (hobx : (Value.slice AR n cR).ownBlock ≠ some bx) {ops : Array Oper}
    (hops : (ops.map fun o => (o.op, o.dst, o.guard)) = #[(Op.move (Operand.tmp 0), some 4, none), (Op.move (Operand.tmp 0), some 5, none), (Op.nilCheck (Operand.tmp 5), some 6, none), (Op.load 118 (Operand.tmp 6), some 7, none), (Op.load 121 (Operand.tmp 3), some 8, none), (Op.buildSlice 118 1 #[(0, (Operand.tmp 8))], some 9, none), (Op.call { callee := Callee.builtin Builtin.append, args := #[(Operand.tmp 7), (Operand.tmp 9)], argTypes := #[118, 118] }, some 10, none), (Op.nilCheck (Operand.tmp 4), some 11, none), (Op.store 118 (Operand.tmp 11) (Operand.tmp 10), none, none)])
    (hdeps : ((List.range 9).all fun i => ((fun i => [[], [], [1], [2], [], [4], [3, 5], [0], [6, 7]].getD i []) i).all fun j => ((ops[i]?).map fun o => o.after.any fun e => Region.binds .any e && e.on == j).getD false) = true)
    (hback : ((List.range 9).all fun i => ((ops[i]?).map fun o => o.after.all fun e => decide (e.on < i)).getD false) = true)
    {a0 : Act} {w0 : World} (ha : a0 = { tmps := #[.pointer (some ⟨b, 0, none⟩), x1, undef, .pointer (some ⟨bx, 0, none⟩), undef, undef, undef, undef, undef, undef, undef, undef], defers := [] }) (hE86 : false = true → false = true) (hE63 : false = true → false = true) (hK : Kp b (Value.slice AR n cR).ownBlock ww w0) (hS : base ≤ w0.heap.size) (hB : false = false → Blk w0 b 118 #[.slice AR n cR]) (hR : false = false → w0.ownsRow base 121 9 (.slice AR n cR) n xs)
    (fin : ∀ t4 t5 t6 t7 t8 t9 t10 t11 (W : World), (Kp b (Value.slice AR n cR).ownBlock ww W) → (∃ (A8 : Option Addr) (c8 : Nat), Blk W b 118 #[.slice A8 (n + 1) c8] ∧ W.ownsRow base 121 9 (.slice A8 (n + 1) c8) (n + 1) (xs ++ scs x (.slice A9 n9 c9)) ∧ ((Value.slice A8 (n + 1) c8).ownBlock = (Value.slice AR n cR).ownBlock ∨ ∃ k, (Value.slice A8 (n + 1) c8).ownBlock = some k ∧ ww.heap.size ≤ k)) → Q .normal { tmps := #[.pointer (some ⟨b, 0, none⟩), x1, undef, .pointer (some ⟨bx, 0, none⟩), t4, t5, t6, t7, t8, t9, t10, t11], defers := [] } W) :
    wpAny Try.prog .any ops Q ops.size (Array.replicate ops.size false) a0 w0 := by
  have hn : ops.size = 9 := by have := congrArg Array.size hops; simpa using this
  obtain ⟨J, HJ⟩ : ∃ J : (Nat → Bool) → Act → World → Prop, ∀ dn ac W, J dn ac W ↔ (fun dn ac W => ∃ t4 t5 t6 t7 t8 t9 t10 t11, ac = { tmps := #[.pointer (some ⟨b, 0, none⟩), x1, undef, .pointer (some ⟨bx, 0, none⟩), t4, t5, t6, t7, t8, t9, t10, t11], defers := [] } ∧ (dn 8 = true → dn 6 = true) ∧ (dn 6 = true → dn 3 = true) ∧ (Kp b (Value.slice AR n cR).ownBlock ww W) ∧ (base ≤ W.heap.size) ∧ (dn 8 = false → Blk W b 118 #[.slice AR n cR]) ∧ (dn 6 = false → W.ownsRow base 121 9 (.slice AR n cR) n xs) ∧ (dn 0 = true → t4 = .pointer (some ⟨b, 0, none⟩)) ∧ (dn 1 = true → t5 = .pointer (some ⟨b, 0, none⟩)) ∧ (dn 2 = true → t6 = .pointer (some ⟨b, 0, none⟩)) ∧ (dn 3 = true → t7 = .slice AR n cR) ∧ (dn 4 = true → t8 = .agg #[.int .i64 x.Data_Tsn, .int .i64 x.Data_Stream, .int .i64 x.Data_Seq, .bool x.Data_First, .bool x.Data_Last, .bool x.Data_Unordered, .slice A9 n9 c9, .int .i64 x.Sent, .int .i64 x.Due]) ∧ (dn 5 = true → dn 6 = false → ∃ q : Nat, t9 = .slice (some ⟨q, 0, none⟩) 1 1 ∧ Blk W q 121 #[.int .i64 x.Data_Tsn, .int .i64 x.Data_Stream, .int .i64 x.Data_Seq, .bool x.Data_First, .bool x.Data_Last, .bool x.Data_Unordered, .slice A9 n9 c9, .int .i64 x.Sent, .int .i64 x.Due]) ∧ (dn 6 = true → ∃ (A8 : Option Addr) (c8 : Nat), t10 = .slice A8 (n + 1) c8 ∧ W.ownsRow base 121 9 (.slice A8 (n + 1) c8) (n + 1) (xs ++ scs x (.slice A9 n9 c9)) ∧ ((Value.slice A8 (n + 1) c8).ownBlock = (Value.slice AR n cR).ownBlock ∨ ∃ k, (Value.slice A8 (n + 1) c8).ownBlock = some k ∧ ww.heap.size ≤ k)) ∧ (dn 7 = true → t11 = .pointer (some ⟨b, 0, none⟩)) ∧ (dn 8 = true → ∃ (A8 : Option Addr) (c8 : Nat), Blk W b 118 #[.slice A8 (n + 1) c8] ∧ W.ownsRow base 121 9 (.slice A8 (n + 1) c8) (n + 1) (xs ++ scs x (.slice A9 n9 c9)) ∧ ((Value.slice A8 (n + 1) c8).ownBlock = (Value.slice AR n cR).ownBlock ∨ ∃ k, (Value.slice A8 (n + 1) c8).ownBlock = some k ∧ ww.heap.size ≤ k))) dn ac W := ⟨_, fun _ _ _ => Iff.rfl⟩
  replace HJ := hidH HJ
  refine region_inv 9 (fun i => [[], [], [1], [2], [], [4], [3, 5], [0], [6, 7]].getD i []) J hn hdeps hback ?start ?step ?fin
  case start => exact (HJ.out _ _ _).2 ⟨undef, undef, undef, undef, undef, undef, undef, undef, ha, hE86, hE63, hK, hS, hB, hR, fun h => by simp at h, fun h => by simp at h, fun h => by simp at h, fun h => by simp at h, fun h => by simp at h, fun h => by simp at h, fun h => by simp at h, fun h => by simp at h, fun h => by simp at h⟩
  all_goals clear ha hE86 hE63 hK hS hB hR
  case step =>
    clear fin hdeps hback
    intro i hi dn ac W hJ hdn hdep
    obtain ⟨t4, t5, t6, t7, t8, t9, t10, t11, rfl, hE86, hE63, hK, hS, hB, hR, h0, h1, h2, h3, h4, h5, h6, h7, h8⟩ := (HJ.out _ _ _).1 hJ
    clear hJ
    match i, hi with
    | 0, _ =>
      obtain ⟨ty, ps, af, ho⟩ := op_lit hops (i := 0) (op := Op.move (Operand.tmp 0)) (dst := some 4) (g := none) rfl
      refine wpOp_lit ho (fun j b h => by cases h) ?_
      clear hops hdep ho
      replace h1 := hidH h1
      replace h2 := hidH h2
      replace h3 := hidH h3
      replace h4 := hidH h4
      replace h5 := hidH h5
      replace h6 := hidH h6
      replace h7 := hidH h7
      replace h8 := hidH h8
      go_wp2
      exact (HJ.out _ _ _).2 ⟨_, _, _, _, _, _, _, _, rfl, hE86, hE63, hK, hS, hB, hR, fun _ => rfl, h1.out, h2.out, h3.out, h4.out, h5.out, h6.out, h7.out, h8.out⟩
    | 1, _ =>
      obtain ⟨ty, ps, af, ho⟩ := op_lit hops (i := 1) (op := Op.move (Operand.tmp 0)) (dst := some 5) (g := none) rfl
      refine wpOp_lit ho (fun j b h => by cases h) ?_
      clear hops hdep ho
      replace h0 := hidH h0
      replace h2 := hidH h2
      replace h3 := hidH h3
      replace h4 := hidH h4
      replace h5 := hidH h5
      replace h6 := hidH h6
      replace h7 := hidH h7
      replace h8 := hidH h8
      go_wp2
      exact (HJ.out _ _ _).2 ⟨_, _, _, _, _, _, _, _, rfl, hE86, hE63, hK, hS, hB, hR, h0.out, fun _ => rfl, h2.out, h3.out, h4.out, h5.out, h6.out, h7.out, h8.out⟩
    | 2, _ =>
      obtain ⟨ty, ps, af, ho⟩ := op_lit hops (i := 2) (op := Op.nilCheck (Operand.tmp 5)) (dst := some 6) (g := none) rfl
      obtain rfl := h1 (hdep 1 (by simp))
      refine wpOp_lit ho (fun j b h => by cases h) ?_
      clear hops hdep ho
      replace h0 := hidH h0
      replace h1 := hidH h1
      replace h3 := hidH h3
      replace h4 := hidH h4
      replace h5 := hidH h5
      replace h6 := hidH h6
      replace h7 := hidH h7
      replace h8 := hidH h8
      go_wp2
      exact (HJ.out _ _ _).2 ⟨_, _, _, _, _, _, _, _, rfl, hE86, hE63, hK, hS, hB, hR, h0.out, fun _ => rfl, fun _ => rfl, h3.out, h4.out, h5.out, h6.out, h7.out, h8.out⟩
    | 3, _ =>
      obtain ⟨ty, ps, af, ho⟩ := op_lit hops (i := 3) (op := Op.load 118 (Operand.tmp 6)) (dst := some 7) (g := none) rfl
      have z8 : dn 8 = false := by
              cases h : dn 8 with
              | false => rfl
              | true => have h3 : dn 6 = true := hE86 h; have h4 : dn 3 = true := hE63 h3; rw [hdn] at h4; cases h4
      obtain rfl := h2 (hdep 2 (by simp))
      refine wpOp_lit ho (fun j b h => by cases h) ?_
      clear hops hdep ho
      replace h0 := hidH h0
      replace h1 := hidH h1
      replace h2 := hidH h2
      replace h4 := hidH h4
      replace h5 := hidH h5
      replace h6 := hidH h6
      replace h7 := hidH h7
      replace h8 := hidH h8
      have hb := Below.refl W.heap.size W
      have kb := hB z8
      have q0 := kb.cell 0
      simp only [List.getElem?_toArray, List.getElem?_cons_zero] at q0
      have ql := kb.lt
      go_wp2
      exact (HJ.out _ _ _).2 ⟨_, _, _, _, _, _, _, _, rfl, hE86, fun _ => rfl, hK.turn hb, Nat.le_trans hS hb.size, fun h => (hB h).below hb, fun h => own_below0 (hR h) hb, h0.out, h1.out, fun _ => rfl, fun _ => rfl, h4.out, (fun h h2 => by obtain ⟨q, q1, q2⟩ := h5.out h h2; exact ⟨q, q1, q2.below hb⟩), fun h => by obtain ⟨A8, c8, q1, q2, q3⟩ := h6.out h; exact ⟨A8, c8, q1, own_below0 q2 hb, q3⟩, h7.out, fun h => by obtain ⟨A8, c8, q1, q2, q3⟩ := h8.out h; exact ⟨A8, c8, q1.below hb, own_below0 q2 hb, q3⟩⟩
    | 4, _ =>
      obtain ⟨ty, ps, af, ho⟩ := op_lit hops (i := 4) (op := Op.load 121 (Operand.tmp 3)) (dst := some 8) (g := none) rfl
      refine wpOp_lit ho (fun j b h => by cases h) ?_
      clear hops hdep ho
      replace h0 := hidH h0
      replace h1 := hidH h1
      replace h2 := hidH h2
      replace h3 := hidH h3
      replace h5 := hidH h5
      replace h6 := hidH h6
      replace h7 := hidH h7
      replace h8 := hidH h8
      have hb := Below.refl W.heap.size W
      have kx := hK.blk HX0 hbx hobx
      have q0 := kx.cell 0
      have q1 := kx.cell 1
      have q2 := kx.cell 2
      have q3 := kx.cell 3
      have q4 := kx.cell 4
      have q5 := kx.cell 5
      have q6 := kx.cell 6
      have q7 := kx.cell 7
      have q8 := kx.cell 8
      simp only [List.getElem?_toArray, List.getElem?_cons_succ, List.getElem?_cons_zero] at q0 q1 q2 q3 q4 q5 q6 q7 q8
      have ql := kx.lt
      go_wp2
      exact (HJ.out _ _ _).2 ⟨_, _, _, _, _, _, _, _, rfl, hE86, hE63, hK.turn hb, Nat.le_trans hS hb.size, fun h => (hB h).below hb, fun h => own_below0 (hR h) hb, h0.out, h1.out, h2.out, h3.out, fun _ => rfl, (fun h h2 => by obtain ⟨q, q1, q2⟩ := h5.out h h2; exact ⟨q, q1, q2.below hb⟩), fun h => by obtain ⟨A8, c8, q1, q2, q3⟩ := h6.out h; exact ⟨A8, c8, q1, own_below0 q2 hb, q3⟩, h7.out, fun h => by obtain ⟨A8, c8, q1, q2, q3⟩ := h8.out h; exact ⟨A8, c8, q1.below hb, own_below0 q2 hb, q3⟩⟩
    | 5, _ =>
      obtain ⟨ty, ps, af, ho⟩ := op_lit hops (i := 5) (op := Op.buildSlice 118 1 #[(0, (Operand.tmp 8))]) (dst := some 9) (g := none) rfl
      obtain rfl := h4 (hdep 4 (by simp))
      refine wpOp_lit ho (fun j b h => by cases h) ?_
      clear hops hdep ho
      replace h0 := hidH h0
      replace h1 := hidH h1
      replace h2 := hidH h2
      replace h3 := hidH h3
      replace h4 := hidH h4
      replace h6 := hidH h6
      replace h7 := hidH h7
      replace h8 := hidH h8
      have hb := bal (Below.refl W.heap.size W) (.cells #[.int .i64 x.Data_Tsn, .int .i64 x.Data_Stream, .int .i64 x.Data_Seq, .bool x.Data_First, .bool x.Data_Last, .bool x.Data_Unordered, .slice A9 n9 c9, .int .i64 x.Sent, .int .i64 x.Due] 121)
      have KQ := hidH (Blk.new W 121 #[.int .i64 x.Data_Tsn, .int .i64 x.Data_Stream, .int .i64 x.Data_Seq, .bool x.Data_First, .bool x.Data_Last, .bool x.Data_Unordered, .slice A9 n9 c9, .int .i64 x.Sent, .int .i64 x.Due])
      go_wp2
      exact (HJ.out _ _ _).2 ⟨_, _, _, _, _, _, _, _, rfl, hE86, hE63, hK.turn hb, Nat.le_trans hS hb.size, fun h => (hB h).below hb, fun h => own_below0 (hR h) hb, h0.out, h1.out, h2.out, h3.out, fun _ => rfl, fun _ => fun _ => ⟨_, rfl, KQ.out⟩, fun h => by obtain ⟨A8, c8, q1, q2, q3⟩ := h6.out h; exact ⟨A8, c8, q1, own_below0 q2 hb, q3⟩, h7.out, fun h => by obtain ⟨A8, c8, q1, q2, q3⟩ := h8.out h; exact ⟨A8, c8, q1.below hb, own_below0 q2 hb, q3⟩⟩
    | 6, _ =>
      obtain ⟨ty, ps, af, ho⟩ := op_lit hops (i := 6) (op := Op.call { callee := Callee.builtin Builtin.append, args := #[(Operand.tmp 7), (Operand.tmp 9)], argTypes := #[118, 118] }) (dst := some 10) (g := none) rfl
      have z8 : dn 8 = false := by
              cases h : dn 8 with
              | false => rfl
              | true => have h3 : dn 6 = true := hE86 h; rw [hdn] at h3; cases h3
      have hd3 := hidH (hdep 3 (by simp))
      obtain ⟨q, rfl, kq⟩ := h5 (hdep 5 (by simp)) hdn
      have ow := hR hdn
      obtain rfl := h3 (hdep 3 (by simp))
      refine wpOp_lit ho (fun j b h => by cases h) ?_
      clear hops hdep ho
      replace h0 := hidH h0
      replace h1 := hidH h1
      replace h2 := hidH h2
      replace h3 := hidH h3
      replace h4 := hidH h4
      replace h5 := hidH h5
      replace h7 := hidH h7
      replace h8 := hidH h8
      have hsz := hS
      have hk := hK
      have OW := hidH ow
      have kb := hidH (hB z8)
      go_wp2_with (at_builtin; go_loud (refine wpList_append_Si rfl _ _ Try.underlying118 rfl base _ n xs rfl OW.out q _ x (.slice A9 n9 c9) rfl rfl kq (by omega) hsz ?_))
      intro v2 w2 o2 hg hat
      obtain ⟨A8, c8, rfl⟩ := own_lenT o2
      have KG := hidH (hk.append hg)
      have GB := hidH (kb.out.grownT hg OW.out (by decide))
      have OB8 := hidH (show ((Value.slice A8 (n + 1) c8).ownBlock = (Value.slice AR n cR).ownBlock ∨ ∃ k, (Value.slice A8 (n + 1) c8).ownBlock = some k ∧ ww.heap.size ≤ k) from hat.imp id (fun e => ⟨_, e, hk.size⟩))
      have O8 := hidH o2
      have HSZ := hidH (Nat.le_trans hsz hg.size)
      clear o2 hg hat
      go_wp2
      exact (HJ.out _ _ _).2 ⟨_, _, _, _, _, _, _, _, rfl, fun _ => rfl, fun _ => hd3.out, KG.out, HSZ.out, fun _ => GB.out, (fun h => by simp at h), h0.out, h1.out, h2.out, fun _ => rfl, h4.out, (fun _ h2 => by simp at h2), fun _ => ⟨A8, c8, rfl, O8.out, OB8.out⟩, h7.out, (fun h => by have h3 : dn 6 = true := hE86 h; rw [hdn] at h3; cases h3)⟩
    | 7, _ =>
      obtain ⟨ty, ps, af, ho⟩ := op_lit hops (i := 7) (op := Op.nilCheck (Operand.tmp 4)) (dst := some 11) (g := none) rfl
      obtain rfl := h0 (hdep 0 (by simp))
      refine wpOp_lit ho (fun j b h => by cases h) ?_
      clear hops hdep ho
      replace h0 := hidH h0
      replace h1 := hidH h1
      replace h2 := hidH h2
      replace h3 := hidH h3
      replace h4 := hidH h4
      replace h5 := hidH h5
      replace h6 := hidH h6
      replace h8 := hidH h8
      go_wp2
      exact (HJ.out _ _ _).2 ⟨_, _, _, _, _, _, _, _, rfl, hE86, hE63, hK, hS, hB, hR, fun _ => rfl, h1.out, h2.out, h3.out, h4.out, h5.out, h6.out, fun _ => rfl, h8.out⟩
    | 8, _ =>
      obtain ⟨ty, ps, af, ho⟩ := op_lit hops (i := 8) (op := Op.store 118 (Operand.tmp 11) (Operand.tmp 10)) (dst := none) (g := none) rfl
      have hd6 := hidH (hdep 6 (by simp))
      obtain ⟨A8, c8, rfl, o8, ob8⟩ := h6 (hdep 6 (by simp))
      obtain rfl := h7 (hdep 7 (by simp))
      refine wpOp_lit ho (fun j b h => by cases h) ?_
      clear hops hdep ho
      replace h0 := hidH h0
      replace h1 := hidH h1
      replace h2 := hidH h2
      replace h3 := hidH h3
      replace h4 := hidH h4
      replace h5 := hidH h5
      replace h6 := hidH h6
      replace h7 := hidH h7
      have kb := hB hdn
      have q0 := kb.cell 0
      have z0 := kb.frozen 0
      simp only [List.getElem?_toArray, List.getElem?_cons_zero] at q0
      have ql := kb.lt
      have FAR := hidH (fun (v0 : Value) (h : W.ownsRow base 121 9 v0 (n + 1) (xs ++ scs x (.slice A9 n9 c9))) => own_farT h kb (by decide) 0 (.slice A8 (n + 1) c8))
      have FAR9 := hidH (own_farT o8 kb (by decide) 0 (.slice A8 (n + 1) c8))
      have KS := hidH (hK.put (.slice A8 (n + 1) c8))
      have TB := hidH (show Blk (W.setCell ⟨b, 0, none⟩ (.slice A8 (n + 1) c8)) b 118 #[.slice A8 (n + 1) c8] from kb.put 0 _)
      have HSZ := hidH (show base ≤ (W.setCell ⟨b, 0, none⟩ (.slice A8 (n + 1) c8)).heap.size by simpa [World.setCell] using hS)
      clear kb
      go_wp2
      exact (HJ.out _ _ _).2 ⟨_, _, _, _, _, _, _, _, rfl, fun _ => hd6.out, hE63, KS.out, HSZ.out, (fun h => by simp at h), (fun h => by have h3 : dn 6 = false := h; rw [hd6.out] at h3; cases h3), h0.out, h1.out, h2.out, h3.out, h4.out, (fun _ h2 => by have h3 : dn 6 = false := h2; rw [hd6.out] at h3; cases h3), fun _ => ⟨A8, c8, rfl, FAR9.out, ob8⟩, fun _ => rfl, fun _ => ⟨A8, c8, TB.out, FAR9.out, ob8⟩⟩
    | n + 9, h => omega
  case fin =>
    clear hops hdeps hback
    rintro dn ac W hJ hall
    obtain ⟨t4, t5, t6, t7, t8, t9, t10, t11, rfl, hE86, hE63, hK, hS, hB, hR, h0, h1, h2, h3, h4, h5, h6, h7, h8⟩ := (HJ.out _ _ _).1 hJ
    exact fin _ _ _ _ _ _ _ _ W hK (h8 (hall 8 (by omega)))
end Go.Proofs.Ythljdikcpdokdaa

/- The program's Sack: fault. -/
namespace Go.Proofs.Ythljdikcpdokdaa
open Go.RowKit Go.Deep

set_option maxRecDepth 100000 in
set_option maxHeartbeats 8000000 in
theorem ksF_impl (y : SackM) (vs : List Value) (w : World) (h : RdA w y.vs vs) :
    Calls Try.prog 70 #[.agg vs.toArray] w fun e w' => e = .returned (.int .i64 (ksF y)) ∧ Below w.heap.size w w' := by
  obtain ⟨A, c, rfl⟩ := shape_Sack h
  have h' : RdA w [.int y.Cum, st_Gap y.Gaps] _ := h
  have hA := h'.tl.hd
  have hm : (y.Gaps.length : Int) ≤ 9223372036854775807 := Rd.st_len hA
  have K1 := Blk.new w 31 #[.int .i64 y.Cum, .slice A y.Gaps.length c]
  have B1 := bal (Below.refl w.heap.size w) (.cells #[.int .i64 y.Cum, .slice A y.Gaps.length c] 31)
  obtain ⟨w1, hw1⟩ : ∃ w1, w.alloc (.cells #[.int .i64 y.Cum, .slice A y.Gaps.length c] 31) = w1 := ⟨_, rfl⟩
  rw [hw1] at K1 B1
  have k0 := K1.cell 0
  have k1 := K1.cell 1
  simp only [List.getElem?_toArray, List.getElem?_cons_succ, List.getElem?_cons_zero] at k0 k1
  have hk := K1.lt
  have HI := hidH hA
  have HB := hidH B1
  clear h h' hA K1 B1
  by_cases h1 : wB y.Cum = true
  · by_cases h5 : 20 < y.Gaps.length
    · have e : ksF y = 2 := by simp only [ksF, h1, if_true]; rw [if_neg (by omega)]
      have h5' : (20 : Int) < (y.Gaps.length : Int) := by omega
      rw [e]
      clear e h5
      go_enter Try.func70, Try.ntmps70
      go_wp2_with (first | (go_at_call 61; refine (isWord_any _ _).mono ?_; rintro e w' ⟨rfl, rfl⟩))
      go_ret
      exact ⟨rfl, HB.out⟩
    · have h5' : ¬ (20 : Int) < (y.Gaps.length : Int) := by omega
      have e0 : ksF y = if okGaps 0 y.Gaps then 0 else 1 := by simp only [ksF, h1, if_true]; rw [if_pos (by omega)]
      have HE := hidH e0
      clear e0 h5
      go_enter Try.func70, Try.ntmps70
      go_wp2_with (first | (go_at_call 61; refine (isWord_any _ _).mono ?_; rintro e w' ⟨rfl, rfl⟩))
      go_loopw [3, 17] (fun t i wr => ∃ (j : Nat) (a : Int), j ≤ y.Gaps.length ∧ t = .int .i64 a ∧ i = .int .i64 j ∧ Below w.heap.size w wr ∧ 0 ≤ a ∧ a ≤ 65535 ∧ okGaps a (y.Gaps.drop j) = okGaps 0 y.Gaps) (fun _ i _ => y.Gaps.length - (intOf i).toNat)
      case atStart => exact ⟨0, 0, by omega, rfl, rfl, HB.out, by omega, by omega, by simp⟩
      case round =>
        obtain ⟨j, a, hj, rfl, rfl, hB, ha0, ha1, hk2⟩ := hrel
        by_cases hlt : j < y.Gaps.length
        · have hj0 : (0 : Int) ≤ (j : Int) := by omega
          have hj1 : (j : Int) < (y.Gaps.length : Int) := by omega
          obtain ⟨gb, ob, cb, eb, hgb, RB⟩ := Rd.row (f := GapM.vs) (W := 2) (fun _ => rfl) (Rd.below hB _ HI.out) hlt
          injection eb with eb1 eb2 eb3
          subst eb1 eb3
          obtain ⟨u0, p0, t0⟩ := RB 0 (.int y.Gaps[j].From) rfl
          obtain ⟨u1, p1, t1⟩ := RB 1 (.int y.Gaps[j].To) rfl
          have e0 := t0.int_out
          have e1 := t1.int_out
          subst e0 e1
          rw [Nat.add_zero] at p0
          obtain ⟨fr, hfr⟩ : ∃ k, y.Gaps[j].From = k := ⟨_, rfl⟩
          obtain ⟨tt, htt⟩ : ∃ k, y.Gaps[j].To = k := ⟨_, rfl⟩
          have HD := hidH (show okGaps 0 y.Gaps = (inB fr 2 tt && inB tt 2 65535 && decide (a + 1 < fr) && okGaps tt (y.Gaps.drop (j + 1))) by rw [← hk2, List.drop_eq_getElem_cons hlt, okGaps_cons, hfr, htt])
          rw [hfr] at p0
          rw [htt] at p1
          have HBW := hidH (bal hB (.cells #[.int .i64 fr, .int .i64 tt] 36))
          clear RB t0 t1 hk2 hfr htt hB
          by_cases c4 : fr ≤ a + 1
          · have HNO := hidH (show ksF y = 1 by rw [HE.out, HD.out, decide_eq_false (show ¬ a + 1 < fr by omega), Bool.and_false]; rfl)
            go_wp2
            go_ret
            exact ⟨ret_int HNO.out.symm, HBW.out⟩
          · by_cases c2 : tt < fr
            · have HNO := hidH (show ksF y = 1 by rw [HE.out, HD.out, inB_hi c2]; rfl)
              go_wp2
              go_ret
              exact ⟨ret_int HNO.out.symm, HBW.out⟩
            · by_cases c3 : 65535 < tt
              · have HNO := hidH (show ksF y = 1 by rw [HE.out, HD.out, inB_hi c3, Bool.and_false]; rfl)
                go_wp2
                go_ret
                exact ⟨ret_int HNO.out.symm, HBW.out⟩
              · have HY := hidH (show okGaps tt (y.Gaps.drop (j + 1)) = okGaps 0 y.Gaps by rw [HD.out, inB_yes (by omega) (by omega), inB_yes (by omega) (by omega), decide_eq_true (show a + 1 < fr by omega)]; rfl)
                go_wp2
                go_roundw
                case rel => exact ⟨j + 1, tt, by omega, rfl, by go_num, HBW.out, by omega, by omega, HY.out⟩
                case measure => simp [intOf]; omega
        · obtain rfl : j = y.Gaps.length := by omega
          rw [List.drop_length] at hk2
          have HY := hidH (show ksF y = 0 by rw [HE.out, ← hk2]; rfl)
          have HW := hidH hB
          clear hk2 hlt hj hB
          go_wp2
          go_ret
          exact ⟨ret_int HY.out.symm, HW.out⟩
  · have h1 : wB y.Cum = false := by simpa using h1
    have e : ksF y = 3 := by simp [ksF, h1]
    rw [e]
    clear e
    go_enter Try.func70, Try.ntmps70
    go_wp2_with (first | (go_at_call 61; refine (isWord_any _ _).mono ?_; rintro e w' ⟨rfl, rfl⟩))
    go_ret
    exact ⟨rfl, HB.out⟩
end Go.Proofs.Ythljdikcpdokdaa

/- Chapter 10: the program's reach, reports, queue's add. (WRITTEN BY tools/sack10p.py) -/
namespace Go.Proofs.Ythljdikcpdokdaa
open Go.RowKit Go.Deep

theorem ret_boo10 {a b : Bool} (h : a = b) : Ending.returned (.bool a) = .returned (.bool b) := by rw [h]
set_option maxRecDepth 100000 in
set_option maxHeartbeats 1000000 in
theorem reach_impl (n a cu : Int) (A2 A3 A : Option Addr) (n2 n3 c2 c3 c : Nat) (gs : List GapM) (w : World) (hG : Rd w (st_Gap gs) (.slice A gs.length c)) (hn : gs.length ≤ 20) (hto : ∀ x ∈ gs, 0 ≤ x.To ∧ x.To ≤ 65535) :
    Calls Try.prog 73 #[.agg #[.int .i64 n, .int .i64 a, .slice A2 n2 c2, .slice A3 n3 c3], .agg #[.int .i64 cu, .slice A gs.length c]] w (IntR (gapV a cu + lastTo gs) w) := by
  have KS := (Blk.new w 47 #[.int .i64 n, .int .i64 a, .slice A2 n2 c2, .slice A3 n3 c3]).alloc (.cells #[.int .i64 cu, .slice A gs.length c] 31)
  have KK := Blk.new (w.alloc (.cells #[.int .i64 n, .int .i64 a, .slice A2 n2 c2, .slice A3 n3 c3] 47)) 31 #[.int .i64 cu, .slice A gs.length c]
  have B1 := bal (bal (Below.refl w.heap.size w) (.cells #[.int .i64 n, .int .i64 a, .slice A2 n2 c2, .slice A3 n3 c3] 47)) (.cells #[.int .i64 cu, .slice A gs.length c] 31)
  rw [World.size_alloc] at KK
  have HD := hidH (fun (W : World) => dist10_impl n a A2 A3 n2 n3 c2 c3 cu W)
  have HGP := hidH (fun (W : World) (hW : Below w.heap.size w W) => Rd.below hW _ hG)
  obtain ⟨w1, hw1⟩ : ∃ W, (w.alloc (.cells #[.int .i64 n, .int .i64 a, .slice A2 n2 c2, .slice A3 n3 c3] 47)).alloc (.cells #[.int .i64 cu, .slice A gs.length c] 31) = W := ⟨_, rfl⟩
  rw [hw1] at KS KK B1
  have H1 := hidH hw1
  have HS := hidH KS
  have HK := hidH KK
  have HB := hidH B1
  have hr := gapV_rng a cu
  have HLT := hidH (fun (m : Nat) (h : m + 1 = gs.length) => lastTo_at h)
  obtain ⟨d, hd⟩ : ∃ d, gapV a cu = d := ⟨_, rfl⟩
  rw [hd] at HD hr ⊢
  clear hG hw1 KS KK B1 hd
  rcases Nat.eq_zero_or_pos gs.length with hz | hz
  · have e0 : lastTo gs = 0 := by rw [List.length_eq_zero_iff.1 hz]; rfl
    rw [e0]
    have hz2 : ¬ (0 : Int) ≤ (gs.length : Int) - 1 := by omega
    have hz3 : (gs.length : Int) ≤ 20 := by omega
    clear hz HLT hto
    go_enter Try.func73, Try.ntmps73
    go_wp2_with fail
    rw [H1.out]
    refine (HD.out _).mono ?_
    rintro e w2 ⟨rfl, b2⟩
    have K2 := HK.out.below b2
    have k1 := K2.cell 1
    simp only [List.getElem?_toArray, List.getElem?_cons_succ, List.getElem?_cons_zero] at k1
    have kl := K2.lt
    have HB2 := hidH (btr HB.out b2)
    clear b2 K2
    go_wp2
    go_ret
    exact ⟨ret_int (by omega), HB2.out⟩
  · obtain ⟨m, hm⟩ : ∃ m, m + 1 = gs.length := ⟨gs.length - 1, by omega⟩
    have hl := HLT.out m hm
    have ht := hto _ (List.getElem_mem (show m < gs.length by omega))
    obtain ⟨g, o, cc, eG, hg, g0, g1⟩ := el_Gap (HGP.out w (Below.refl _ _)) (show m < gs.length by omega)
    injection eG with eG _ eC
    subst eG eC
    obtain ⟨zt, hzt⟩ : ∃ z, (gs[m]'(by omega)).To = z := ⟨_, rfl⟩
    rw [hzt] at hl ht g1
    rw [hl]
    have hm0 : (0 : Int) ≤ (m : Int) := by omega
    have hm1 : (m : Int) < (gs.length : Int) := by omega
    have hm2 : ((gs.length : Int) - 1) = (m : Int) := by omega
    clear hz hl hzt g0 HLT hm hto
    go_enter Try.func73, Try.ntmps73
    go_wp2_with fail
    rw [H1.out]
    refine (HD.out _).mono ?_
    rintro e w2 ⟨rfl, b2⟩
    have K2 := HK.out.below b2
    have k1 := K2.cell 1
    simp only [List.getElem?_toArray, List.getElem?_cons_succ, List.getElem?_cons_zero] at k1
    have kl := K2.lt
    have HB2 := hidH (btr HB.out b2)
    replace g1 := (HB2.out.cell (p := ⟨g, o + m * 2 + 1, none⟩) hg).trans g1
    replace hg := Nat.lt_of_lt_of_le hg HB2.out.size
    clear b2 K2
    go_wp2
    go_ret
    exact ⟨rfl, HB2.out⟩
set_option maxHeartbeats 1000000 in
theorem rep1_any (f t d : Int) (b : Nat) (w : World) (hb : w.cell? ⟨b, 0, none⟩ = some (.int .i64 d)) (hl : b < w.heap.size) : Calls Try.prog 146 #[.agg #[.int .i64 f, .int .i64 t], .pointer (some ⟨b, 0, none⟩)] w (BolR (inB d f t) w) := by
  have B1 := hidH (bal (Below.refl w.heap.size w) (.cells #[.int .i64 f, .int .i64 t] 36))
  by_cases h0 : f ≤ d
  · by_cases h1 : d ≤ t
    · rw [inB_yes h0 h1]
      go_enter Try.func146, Try.ntmps146
      go_wp2
      go_ret
      exact ⟨rfl, B1.out⟩
    · rw [inB_hi (by omega)]
      go_enter Try.func146, Try.ntmps146
      go_wp2
      go_ret
      exact ⟨rfl, B1.out⟩
  · rw [inB_lo (by omega)]
    go_enter Try.func146, Try.ntmps146
    go_wp2
    go_ret
    exact ⟨rfl, B1.out⟩
set_option maxRecDepth 100000 in
set_option maxHeartbeats 2000000 in
theorem idxG_any (gs : List GapM) (A : Option Addr) (c b : Nat) (d : Int) (w : World) (hG : Rd w (st_Gap gs) (.slice A gs.length c)) (hn : gs.length ≤ 20) (hb : w.cell? ⟨b, 0, none⟩ = some (.int .i64 d)) (hl : b < w.heap.size) :
    Calls Try.prog 177 #[.slice A gs.length c, .func (.func 146) #[] #[.pointer (some ⟨b, 0, none⟩)]] w fun e w' => ∃ n : Int, e = .returned (.int .i64 n) ∧ decide (0 ≤ n) = gs.any (fun g => inB d g.From g.To) ∧ Below w.heap.size w w' := by
  have HGP := hidH (fun (W : World) (hW : Below w.heap.size w W) => Rd.below hW _ hG)
  have HC := hidH (fun (W : World) (hW : Below w.heap.size w W) => And.intro ((hW.cell (p := ⟨b, 0, none⟩) hl).trans hb) (Nat.lt_of_lt_of_le hl hW.size))
  have hnI : (gs.length : Int) ≤ 20 := by omega
  clear hG hn hb hl
  go_enter Try.func177, Try.ntmps177
  go_wp2
  go_loopw [8] (fun i wr => ∃ j : Nat, j ≤ gs.length ∧ i = .int .i64 j ∧ (gs.take j).any (fun g => inB d g.From g.To) = false ∧ Below w.heap.size w wr) (fun i _ => gs.length - (intOf i).toNat)
  case atStart => exact ⟨0, by omega, rfl, by simp, Below.refl _ _⟩
  case round =>
    obtain ⟨j, hj, rfl, hk, hB⟩ := hrel
    by_cases hlt : j < gs.length
    · have hj0 : (0 : Int) ≤ (j : Int) := by omega
      have hj1 : (j : Int) < (gs.length : Int) := by omega
      obtain ⟨g, o, c', e, hg, g0, g1⟩ := el_Gap (HGP.out _ hB) hlt
      injection e with e1 e2 e3
      subst e1 e3
      have hst := any_take (d := d) hlt
      have hmem : gs[j] ∈ gs := List.getElem_mem hlt
      obtain ⟨z, hz⟩ : ∃ z, gs[j] = z := ⟨_, rfl⟩
      rw [hz] at g0 g1 hst hmem
      have HF := hidH (rep1_any z.From z.To d b wr (HC.out wr hB).1 (HC.out wr hB).2)
      obtain ⟨q, hq⟩ : ∃ q, inB d z.From z.To = q := ⟨_, rfl⟩
      rw [hq] at HF hst
      have HST := hidH hst
      have HM := hidH (And.intro hmem hq)
      have HK := hidH hk
      have HBW := hidH hB
      clear hst hmem hk hB hz hq
      go_wp2_with fail
      refine HF.out.mono ?_
      rintro e w3 ⟨rfl, b3⟩
      have HB3 := hidH (btr HBW.out b3)
      clear HF b3 g0 g1
      cases q
      · go_wp2
        go_roundw
        case rel => exact ⟨j + 1, by omega, by go_num, by rw [HST.out, HK.out]; rfl, HB3.out⟩
        case measure => simp [intOf]; omega
      · go_wp2
        go_ret
        refine ⟨_, rfl, ?_, HB3.out⟩
        rw [show gs.any (fun g => inB d g.From g.To) = true from List.any_eq_true.2 ⟨z, HM.out.1, HM.out.2⟩]
        exact decide_eq_true hj0
    · obtain rfl : j = gs.length := by omega
      rw [List.take_length] at hk
      have HK := hidH hk
      have HBW := hidH hB
      clear hk hB hlt hj
      go_wp2
      go_ret
      exact ⟨_, rfl, by rw [HK.out]; rfl, HBW.out⟩
set_option maxHeartbeats 1000000 in
theorem conG_any (gs : List GapM) (A : Option Addr) (c b : Nat) (d : Int) (w : World) (hG : Rd w (st_Gap gs) (.slice A gs.length c)) (hn : gs.length ≤ 20) (hb : w.cell? ⟨b, 0, none⟩ = some (.int .i64 d)) (hl : b < w.heap.size) :
    Calls Try.prog 145 #[.slice A gs.length c, .func (.func 146) #[] #[.pointer (some ⟨b, 0, none⟩)]] w (BolR (gs.any (fun g => inB d g.From g.To)) w) := by
  have HI := hidH (idxG_any gs A c b d w hG hn hb hl)
  clear hG hn hb hl
  go_enter Try.func145, Try.ntmps145
  go_wp2_with fail
  refine HI.out.mono ?_
  rintro e w2 ⟨n, rfl, hn, b2⟩
  have HN := hidH hn
  have HB := hidH b2
  clear hn b2 HI
  go_wp2
  go_ret
  exact ⟨ret_boo10 HN.out, HB.out⟩
set_option maxRecDepth 100000 in
set_option maxHeartbeats 1000000 in
theorem reports_impl (cu d : Int) (A : Option Addr) (c : Nat) (gs : List GapM) (w : World) (hG : Rd w (st_Gap gs) (.slice A gs.length c)) (hn : gs.length ≤ 20) : Calls Try.prog 76 #[.agg #[.int .i64 cu, .slice A gs.length c], .int .i64 d] w (BolR (camB gs d) w) := by
  have KK := (Blk.new w 31 #[.int .i64 cu, .slice A gs.length c]).alloc (.cells #[.int .i64 d] 2)
  have KD := Blk.new (w.alloc (.cells #[.int .i64 cu, .slice A gs.length c] 31)) 2 #[.int .i64 d]
  have B1 := bal (bal (Below.refl w.heap.size w) (.cells #[.int .i64 cu, .slice A gs.length c] 31)) (.cells #[.int .i64 d] 2)
  rw [World.size_alloc] at KD
  obtain ⟨w1, hw1⟩ : ∃ W, (w.alloc (.cells #[.int .i64 cu, .slice A gs.length c] 31)).alloc (.cells #[.int .i64 d] 2) = W := ⟨_, rfl⟩
  rw [hw1] at KK KD B1
  have HC := hidH (conG_any gs A c (w.heap.size + 1) d w1 (Rd.below B1 _ hG) hn (by simpa using KD.cell 0) KD.lt)
  have HCM := hidH (show camB gs d = (decide (d < 1) || gs.any (fun g => inB d g.From g.To)) from rfl)
  have H1 := hidH hw1
  have HK := hidH KK
  have HB := hidH B1
  clear hG hn hw1 KK KD B1
  by_cases h0 : d ≤ 0
  · have HE := hidH (show camB gs d = true by rw [HCM.out, decide_eq_true (by omega)]; rfl)
    clear HC HCM
    go_enter Try.func76, Try.ntmps76
    go_wp2
    go_ret
    exact ⟨ret_boo10 HE.out.symm, by rw [H1.out]; exact HB.out⟩
  · have HE := hidH (show camB gs d = gs.any (fun g => inB d g.From g.To) by rw [HCM.out, decide_eq_false (by omega)]; rfl)
    clear HCM
    go_enter Try.func76, Try.ntmps76
    go_wp2_with fail
    rw [H1.out]
    refine HC.out.mono ?_
    rintro e w2 ⟨rfl, b2⟩
    have HB2 := hidH (btr HB.out b2)
    clear b2 HC
    go_wp2
    go_ret
    exact ⟨ret_boo10 HE.out.symm, HB2.out⟩
def QaR (b : Nat) (v : Value) (base n : Nat) (xs ys : List Value) (w : World) (e : Ending) (w' : World) : Prop :=
  e = .returned (.tuple #[]) ∧ ∃ v' : Value, Blk w' b 118 #[v'] ∧ w'.ownsRow base 121 9 v' (n + 1) (xs ++ ys) ∧ Kp b v.ownBlock w w' ∧ (v'.ownBlock = v.ownBlock ∨ ∃ k, v'.ownBlock = some k ∧ w.heap.size ≤ k)
set_option maxRecDepth 100000 in
set_option maxHeartbeats 2000000 in
theorem qadd_any (b : Nat) (v : Value) (base n : Nat) (xs : List Value) (x : SendItemM) (A9 : Option Addr) (n9 c9 : Nat) (w : World) (hb : Blk w b 118 #[v]) (hr : w.ownsRow base 121 9 v n xs) (hn : n ≤ 90000) (hB : base ≤ w.heap.size) :
    Calls Try.prog 144 #[.pointer (some ⟨b, 0, none⟩), .agg #[.int .i64 x.Data_Tsn, .int .i64 x.Data_Stream, .int .i64 x.Data_Seq, .bool x.Data_First, .bool x.Data_Last, .bool x.Data_Unordered, .slice A9 n9 c9, .int .i64 x.Sent, .int .i64 x.Due]] w (QaR b v base n xs (scs x (.slice A9 n9 c9)) w) := by
  obtain ⟨AR, cR, rfl⟩ := own_lenT hr
  have KX := Blk.new w 121 #[.int .i64 x.Data_Tsn, .int .i64 x.Data_Stream, .int .i64 x.Data_Seq, .bool x.Data_First, .bool x.Data_Last, .bool x.Data_Unordered, .slice A9 n9 c9, .int .i64 x.Sent, .int .i64 x.Due]
  have B1 := bal (Below.refl w.heap.size w) (.cells #[.int .i64 x.Data_Tsn, .int .i64 x.Data_Stream, .int .i64 x.Data_Seq, .bool x.Data_First, .bool x.Data_Last, .bool x.Data_Unordered, .slice A9 n9 c9, .int .i64 x.Sent, .int .i64 x.Due] 121)
  have hob : (Value.slice AR n cR).ownBlock ≠ some w.heap.size := fun e => by have := own_block hr e; omega
  have bl := hb.lt
  have hbx : w.heap.size ≠ b := by omega
  have hbw := hb.alloc (.cells #[.int .i64 x.Data_Tsn, .int .i64 x.Data_Stream, .int .i64 x.Data_Seq, .bool x.Data_First, .bool x.Data_Last, .bool x.Data_Unordered, .slice A9 n9 c9, .int .i64 x.Sent, .int .i64 x.Due] 121)
  have hrw := own_below0 hr B1
  obtain ⟨w1, hw1⟩ : ∃ W, w.alloc (.cells #[.int .i64 x.Data_Tsn, .int .i64 x.Data_Stream, .int .i64 x.Data_Seq, .bool x.Data_First, .bool x.Data_Last, .bool x.Data_Unordered, .slice A9 n9 c9, .int .i64 x.Sent, .int .i64 x.Due] 121) = W := ⟨_, rfl⟩
  rw [hw1] at KX B1 hbw hrw
  have HW1 := hidH hw1
  clear hb hr hw1
  go_enter Try.func144, Try.ntmps144
  go_wp2_with fail
  rw [HW1.out]
  refine wp_region_any (by kernel_rfl) ?_
  refine regQA _ w1 b w.heap.size base n cR n9 c9 AR A9 xs x hn KX hbx hob (by kernel_rfl) (by kernel_rfl) (by kernel_rfl) rfl (fun h => by cases h) (fun h => by cases h) ((Kp.refl _ _ w1).turn (Below.refl _ _).drew) (Nat.le_trans hB B1.size) (fun _ => hbw.below (Below.refl _ _).drew) (fun _ => own_below0 hrw (Below.refl _ _).drew) ?_
  intros
  rename_i W hK hX
  obtain ⟨A8, c8, q1, q2, q3⟩ := hX
  have hs1 := B1.size
  have K2 : Kp b (Value.slice AR n cR).ownBlock w W := ⟨hK.os.trans B1.os, hK.tape.trans B1.tape, hK.output.trans B1.output, Nat.le_trans hs1 hK.size, fun k hk h1 h2 => (hK.block k (by omega) h1 h2).trans (B1.block k hk)⟩
  have q4 : (Value.slice A8 (n + 1) c8).ownBlock = (Value.slice AR n cR).ownBlock ∨ ∃ k, (Value.slice A8 (n + 1) c8).ownBlock = some k ∧ w.heap.size ≤ k := by
    rcases q3 with e | ⟨k, e1, e2⟩
    · exact .inl e
    · exact .inr ⟨k, e1, by omega⟩
  have HF := hidH (And.intro q1 (And.intro q2 (And.intro K2 q4)))
  clear q1 q2 q3 q4 K2 hK hs1 KX B1 hbw hrw
  go_wp2
  exact bodyPost_ret (v := .tuple #[]) (by simp [results, Try.results144, go_sem]) rfl ⟨rfl, _, HF.out.1, HF.out.2.1, HF.out.2.2.1, HF.out.2.2.2⟩
end Go.Proofs.Ythljdikcpdokdaa
