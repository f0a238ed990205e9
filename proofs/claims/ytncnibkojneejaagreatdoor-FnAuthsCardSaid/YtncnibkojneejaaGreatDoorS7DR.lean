/- The region of DrawCheckAuth that turns one byte of the first chunk's body. -/
import Derived.Test.YtncnibkojneejaaGreatDoorJb1
import Derived.Test.YtncnibkojneejaaGreatDoorJa7
namespace Go.Proofs.YtncnibkojneejaaGreatDoor
open Go.RowKit Go.Deep

theorem OwV.bs_ob {lo hi xb xo cx N : Nat} {W : World} {b : List Int} (h : OwV lo hi W (.bs b) (.slice (some ⟨xb, xo, none⟩) N cx)) (hN : b.length = N) (h0 : 0 < N) :
    lo ≤ xb ∧ xb < hi ∧ hi ≤ W.heap.size ∧ Caps b.length cx ∧ ∀ j, j < b.length → W.cell? ⟨xb, xo + j, none⟩ = some (.int .u8 (b.getD j 0)) ∧ W.frozen? ⟨xb, xo + j, none⟩ = false := by
  obtain ⟨h1, h2⟩ := h
  unfold Ow at h2
  obtain ⟨A, c, e, hc, h2⟩ := h2
  injection e with e1 e2 e3
  subst e1 e3
  rcases h2 with rfl | ⟨g, o, e, hg, h2⟩
  · simp at hN; omega
  · injection e with e
    injection e with e3 e4
    subst e3 e4
    have h3 := h2 0 (by omega)
    exact ⟨h3.1.1, h3.1.2, h1, hc, fun j hj => (h2 j hj).2⟩
theorem OwV.bs_cell {lo hi xb xo cx N k : Nat} {W : World} {b : List Int} (h : OwV lo hi W (.bs b) (.slice (some ⟨xb, xo, none⟩) N cx)) (hN : b.length = N) (hk : k < N) :
    W.cell? ⟨xb, xo + k, none⟩ = some (.int .u8 (b.getD k 0)) ∧ W.frozen? ⟨xb, xo + k, none⟩ = false ∧ xb < W.heap.size := by
  obtain ⟨h1, h2, h3, _, h4⟩ := h.bs_ob hN (by omega)
  have := h4 k (by omega)
  exact ⟨this.1, this.2, by omega⟩
theorem OwV.bs_set {lo hi xb xo cx N : Nat} {W : World} {b : List Int} (h : OwV lo hi W (.bs b) (.slice (some ⟨xb, xo, none⟩) N cx)) (hN : b.length = N) (k : Nat) (hk : k < N) (u : Int) :
    OwV lo hi (W.setCell ⟨xb, xo + k, none⟩ (.int .u8 u)) (.bs (b.set k u)) (.slice (some ⟨xb, xo, none⟩) N cx) := by
  obtain ⟨h1, h2, h3, hc, h4⟩ := h.bs_ob hN (by omega)
  have h5 := ob_set (off := xo) u h1 h2 h3 (show k < b.length by omega) h4
  have h6 := h5.owv (c := cx) (by simpa [World.setCell] using h3) (by rw [List.length_set]; exact hc)
  rw [List.length_set, hN] at h6
  exact h6
theorem RTs.setFar {B xb : Nat} {W : World} {q : List RowE} (h : RTs B W q) (hap : ∀ x ∈ q, x.hi ≤ xb ∨ xb < x.lo) (i : Nat) (u : Value) : RTs B (W.setCell ⟨xb, i, none⟩ u) q := by
  refine ⟨fun x hx => ⟨⟨(h.1 x hx).1.1.win (set_win W xb i u) ((hap x hx).elim (fun h => .inl h) (fun h => .inr (by omega))), ?_⟩, (h.1 x hx).2⟩, h.2⟩
  rcases (h.1 x hx).1.2 with h2 | ⟨h2, cs, h3⟩
  · exact .inl h2
  · refine .inr ⟨h2, cs, (Below.heap_setCell _ _ _ _ (show x.lo ≠ xb from ?_)).trans h3⟩
    rcases hap x hx with h4 | h4 <;> omega
set_option maxRecDepth 100000 in
set_option maxHeartbeats 1000000 in
theorem regD7 {Q : Exit → Act → World → Prop} (x0 x1 x2 x3 x5 x7 x8 x9 x10 x11 x12 x13 x14 x15 x16 x17 x18 x19 x20 x21 x22 x23 x24 x25 x26 x27 x28 x29 : Value) (ws : World) (gs go n co xb xo cx lo hi B : Nat) (cA : Option Addr) (l : List Int) (c : Nat) (ys : List Value) (q1 : List RowE) (kl kh : Nat) (kb : List Int) (kv : Value) (hgs : ws.heap.size ≤ gs) (hgB : gs < B) (hgl : gs + 1 ≤ lo) (hgx : gs < xb) (hkl : gs + 1 ≤ kl) (hkh : kh ≤ xb) (hxb : ws.heap.size ≤ xb) (hn1 : 1 ≤ n) (hx2 : ys[2]? = some (.slice (some ⟨xb, xo, none⟩) 34 cx)) (hap : ∀ x ∈ q1, x.hi ≤ xb ∨ xb < x.lo) (x44 x45 x46 x47 x48 x49 x50 x51 x52 x53 x54 x55 x56 x57 x58 x59 : Value) {ops : Array Oper}
    (hops : (ops.map fun o => (o.op, o.dst, o.guard)) = #[(Op.move (Operand.tmp 6), some 30, none), (Op.indexAddr 24 (Operand.tmp 30) ((Operand.const (Value.int .i64 0))), some 31, none), (Op.fieldAddr 37 (Operand.tmp 31) 2, some 32, none), (Op.load 22 (Operand.tmp 32), some 33, none), (Op.move (Operand.tmp 4), some 34, none), (Op.call { callee := Callee.value (Operand.func 28), args := #[(Operand.tmp 34), (Operand.const (Value.int .i64 34))], argTypes := #[43, 2] }, some 35, none), (Op.indexAddr 22 (Operand.tmp 33) (Operand.tmp 35), some 36, none), (Op.load 5 (Operand.tmp 36), some 37, none), (Op.move (Operand.tmp 4), some 38, none), (Op.call { callee := Callee.value (Operand.func 28), args := #[(Operand.tmp 38), (Operand.const (Value.int .i64 255))], argTypes := #[43, 2] }, some 39, none), (Op.binOp BinOp.add 2 ((Operand.const (Value.int .i64 1))) (Operand.tmp 39) 2, some 40, none), (Op.convert 2 5 (Operand.tmp 40), some 41, none), (Op.binOp BinOp.xor 5 (Operand.tmp 37) (Operand.tmp 41) 5, some 42, none), (Op.indexAddr 22 (Operand.tmp 33) (Operand.tmp 35), some 43, none), (Op.store 5 (Operand.tmp 43) (Operand.tmp 42), none, none)])
    (hdeps : ((List.range 15).all fun i => ((fun i => [[], [0], [1], [2], [], [4], [3, 5], [6], [], [5, 8], [9], [10], [7, 11], [3, 5], [0, 1, 2, 3, 4, 5, 6, 7, 8, 9, 10, 11, 12, 13]].getD i []) i).all fun j => ((ops[i]?).map fun o => o.after.any fun e => Region.binds .any e && e.on == j).getD false) = true)
    (hback : ((List.range 15).all fun i => ((ops[i]?).map fun o => o.after.all fun e => decide (e.on < i)).getD false) = true)
    {a0 : Act} {w0 : World} (ha : a0 = { tmps := #[x0, x1, x2, x3, .pointer (some ⟨gs, 0, none⟩), x5, .slice (some ⟨go, 0, none⟩) n co, x7, x8, x9, x10, x11, x12, x13, x14, x15, x16, x17, x18, x19, x20, x21, x22, x23, x24, x25, x26, x27, x28, x29, undef, undef, undef, undef, undef, undef, undef, undef, undef, undef, undef, undef, undef, undef, x44, x45, x46, x47, x48, x49, x50, x51, x52, x53, x54, x55, x56, x57, x58, x59], defers := [] }) (hD : false = true → false = true) (hS : (false = false → ∃ q : Nat, q + cnt (false) ≤ 100001 ∧ Src w0 gs cA l c q) ∧ (false = true → false = false → ∃ q : Nat, q ≤ 100002 ∧ Src w0 gs cA l c q)) (hB : ∃ b : List Int, b.length = 34 ∧ Bytes b ∧ OwV lo hi w0 (.bs b) (.slice (some ⟨xb, xo, none⟩) 34 cx)) (hX : ∃ cs, Blk w0 xb 5 cs) (hR : w0.ownsRow B 37 3 (.slice (some ⟨go, 0, none⟩) n co) n ys) (hT : RTs B w0 q1) (hKy : OwV kl kh w0 (.bs kb) kv) (hO : Below ws.heap.size ws w0)
    (fin : ∀ t30 t31 t32 t33 t34 t35 t36 t37 t38 t39 t40 t41 t42 t43 (W : World), (∃ b : List Int, b.length = 34 ∧ Bytes b ∧ OwV lo hi W (.bs b) (.slice (some ⟨xb, xo, none⟩) 34 cx)) → (∃ cs, Blk W xb 5 cs) → (W.ownsRow B 37 3 (.slice (some ⟨go, 0, none⟩) n co) n ys) → (RTs B W q1) → (OwV kl kh W (.bs kb) kv) → (Below ws.heap.size ws W) → Q .normal { tmps := #[x0, x1, x2, x3, .pointer (some ⟨gs, 0, none⟩), x5, .slice (some ⟨go, 0, none⟩) n co, x7, x8, x9, x10, x11, x12, x13, x14, x15, x16, x17, x18, x19, x20, x21, x22, x23, x24, x25, x26, x27, x28, x29, t30, t31, t32, t33, t34, t35, t36, t37, t38, t39, t40, t41, t42, t43, x44, x45, x46, x47, x48, x49, x50, x51, x52, x53, x54, x55, x56, x57, x58, x59], defers := [] } W) :
    wpAny Tryz.prog .any ops Q ops.size (Array.replicate ops.size false) a0 w0 := by
  have hn : ops.size = 15 := by have := congrArg Array.size hops; simpa using this
  obtain ⟨J, HJ⟩ : ∃ J : (Nat → Bool) → Act → World → Prop, ∀ dn ac W, J dn ac W ↔ (fun dn ac W => ∃ t30 t31 t32 t33 t34 t35 t36 t37 t38 t39 t40 t41 t42 t43, ac = { tmps := #[x0, x1, x2, x3, .pointer (some ⟨gs, 0, none⟩), x5, .slice (some ⟨go, 0, none⟩) n co, x7, x8, x9, x10, x11, x12, x13, x14, x15, x16, x17, x18, x19, x20, x21, x22, x23, x24, x25, x26, x27, x28, x29, t30, t31, t32, t33, t34, t35, t36, t37, t38, t39, t40, t41, t42, t43, x44, x45, x46, x47, x48, x49, x50, x51, x52, x53, x54, x55, x56, x57, x58, x59], defers := [] } ∧ (dn 9 = true → dn 5 = true) ∧ ((dn 9 = false → ∃ q : Nat, q + cnt (dn 5) ≤ 100001 ∧ Src W gs cA l c q) ∧ (dn 9 = true → dn 14 = false → ∃ q : Nat, q ≤ 100002 ∧ Src W gs cA l c q)) ∧ (∃ b : List Int, b.length = 34 ∧ Bytes b ∧ OwV lo hi W (.bs b) (.slice (some ⟨xb, xo, none⟩) 34 cx)) ∧ (∃ cs, Blk W xb 5 cs) ∧ (W.ownsRow B 37 3 (.slice (some ⟨go, 0, none⟩) n co) n ys) ∧ (RTs B W q1) ∧ (OwV kl kh W (.bs kb) kv) ∧ (Below ws.heap.size ws W) ∧ (dn 0 = true → t30 = .slice (some ⟨go, 0, none⟩) n co) ∧ (dn 1 = true → t31 = .pointer (some ⟨go, 0, none⟩)) ∧ (dn 2 = true → t32 = .pointer (some ⟨go, 2, none⟩)) ∧ (dn 3 = true → t33 = .slice (some ⟨xb, xo, none⟩) 34 cx) ∧ (dn 4 = true → t34 = .pointer (some ⟨gs, 0, none⟩)) ∧ (dn 5 = true → ∃ k : Nat, t35 = .int .i64 (k : Int) ∧ (k : Int) < 34) ∧ (dn 6 = true → ∃ k : Nat, t36 = .pointer (some ⟨xb, xo + k, none⟩) ∧ (k : Int) < 34) ∧ (dn 7 = true → ∃ x : Int, t37 = .int .u8 x ∧ 0 ≤ x ∧ x ≤ 255) ∧ (dn 8 = true → t38 = .pointer (some ⟨gs, 0, none⟩)) ∧ (dn 9 = true → ∃ m : Nat, t39 = .int .i64 (m : Int) ∧ (m : Int) < 255) ∧ (dn 10 = true → ∃ m : Nat, t40 = .int .i64 (m : Int) ∧ (m : Int) < 256) ∧ (dn 11 = true → ∃ m : Nat, t41 = .int .u8 (m : Int) ∧ (m : Int) < 256) ∧ (dn 12 = true → ∃ x : Int, t42 = .int .u8 x ∧ 0 ≤ x ∧ x ≤ 255) ∧ (dn 13 = true → ∃ k : Nat, t43 = .pointer (some ⟨xb, xo + k, none⟩) ∧ (k : Int) < 34)) dn ac W := ⟨_, fun _ _ _ => Iff.rfl⟩
  replace HJ := hidH HJ
  refine region_inv 15 (fun i => [[], [0], [1], [2], [], [4], [3, 5], [6], [], [5, 8], [9], [10], [7, 11], [3, 5], [0, 1, 2, 3, 4, 5, 6, 7, 8, 9, 10, 11, 12, 13]].getD i []) J hn hdeps hback ?start ?step ?fin
  case start => exact (HJ.out _ _ _).2 ⟨undef, undef, undef, undef, undef, undef, undef, undef, undef, undef, undef, undef, undef, undef, ha, hD, hS, hB, hX, hR, hT, hKy, hO, fun h => by simp at h, fun h => by simp at h, fun h => by simp at h, fun h => by simp at h, fun h => by simp at h, fun h => by simp at h, fun h => by simp at h, fun h => by simp at h, fun h => by simp at h, fun h => by simp at h, fun h => by simp at h, fun h => by simp at h, fun h => by simp at h, fun h => by simp at h⟩
  all_goals clear ha hD hS hB hX hR hT hKy hO
  case step =>
    clear fin hdeps hback
    intro i hi dn ac W hJ hdn hdep
    obtain ⟨t30, t31, t32, t33, t34, t35, t36, t37, t38, t39, t40, t41, t42, t43, rfl, hD, hS, hB, hX, hR, hT, hKy, hO, h0, h1, h2, h3, h4, h5, h6, h7, h8, h9, h10, h11, h12, h13⟩ := (HJ.out _ _ _).1 hJ
    clear hJ
    match i, hi with
    | 0, _ =>
      obtain ⟨ty, ps, af, ho⟩ := op_lit hops (i := 0) (op := Op.move (Operand.tmp 6)) (dst := some 30) (g := none) rfl
      refine wpOp_lit ho (fun j b h => by cases h) ?_
      clear hops hdep ho
      replace h1 := hidH h1
      replace h2 := hidH h2
      replace h3 := hidH h3
      replace h4 := hidH h4
      replace h5 := hidH h5
      replace h6 := hidH h6
      replace h7 := hidH h7
      replace h8 := hidH h8
      replace h9 := hidH h9
      replace h10 := hidH h10
      replace h11 := hidH h11
      replace h12 := hidH h12
      replace h13 := hidH h13
      go_wp2
      exact (HJ.out _ _ _).2 ⟨_, _, _, _, _, _, _, _, _, _, _, _, _, _, rfl, hD, hS, hB, hX, hR, hT, hKy, hO, fun _ => rfl, h1.out, h2.out, h3.out, h4.out, h5.out, h6.out, h7.out, h8.out, h9.out, h10.out, h11.out, h12.out, h13.out⟩
    | 1, _ =>
      obtain ⟨ty, ps, af, ho⟩ := op_lit hops (i := 1) (op := Op.indexAddr 24 (Operand.tmp 30) ((Operand.const (Value.int .i64 0)))) (dst := some 31) (g := none) rfl
      obtain rfl := h0 (hdep 0 (by simp))
      refine wpOp_lit ho (fun j b h => by cases h) ?_
      clear hops hdep ho
      replace h0 := hidH h0
      replace h2 := hidH h2
      replace h3 := hidH h3
      replace h4 := hidH h4
      replace h5 := hidH h5
      replace h6 := hidH h6
      replace h7 := hidH h7
      replace h8 := hidH h8
      replace h9 := hidH h9
      replace h10 := hidH h10
      replace h11 := hidH h11
      replace h12 := hidH h12
      replace h13 := hidH h13
      go_wp2
      exact (HJ.out _ _ _).2 ⟨_, _, _, _, _, _, _, _, _, _, _, _, _, _, rfl, hD, hS, hB, hX, hR, hT, hKy, hO, fun _ => rfl, fun _ => rfl, h2.out, h3.out, h4.out, h5.out, h6.out, h7.out, h8.out, h9.out, h10.out, h11.out, h12.out, h13.out⟩
    | 2, _ =>
      obtain ⟨ty, ps, af, ho⟩ := op_lit hops (i := 2) (op := Op.fieldAddr 37 (Operand.tmp 31) 2) (dst := some 32) (g := none) rfl
      obtain rfl := h1 (hdep 1 (by simp))
      refine wpOp_lit ho (fun j b h => by cases h) ?_
      clear hops hdep ho
      replace h0 := hidH h0
      replace h1 := hidH h1
      replace h3 := hidH h3
      replace h4 := hidH h4
      replace h5 := hidH h5
      replace h6 := hidH h6
      replace h7 := hidH h7
      replace h8 := hidH h8
      replace h9 := hidH h9
      replace h10 := hidH h10
      replace h11 := hidH h11
      replace h12 := hidH h12
      replace h13 := hidH h13
      go_wp2
      exact (HJ.out _ _ _).2 ⟨_, _, _, _, _, _, _, _, _, _, _, _, _, _, rfl, hD, hS, hB, hX, hR, hT, hKy, hO, h0.out, fun _ => rfl, fun _ => rfl, h3.out, h4.out, h5.out, h6.out, h7.out, h8.out, h9.out, h10.out, h11.out, h12.out, h13.out⟩
    | 3, _ =>
      obtain ⟨ty, ps, af, ho⟩ := op_lit hops (i := 3) (op := Op.load 22 (Operand.tmp 32)) (dst := some 33) (g := none) rfl
      obtain rfl := h2 (hdep 2 (by simp))
      refine wpOp_lit ho (fun j b h => by cases h) ?_
      clear hops hdep ho
      replace h0 := hidH h0
      replace h1 := hidH h1
      replace h2 := hidH h2
      replace h4 := hidH h4
      replace h5 := hidH h5
      replace h6 := hidH h6
      replace h7 := hidH h7
      replace h8 := hidH h8
      replace h9 := hidH h9
      replace h10 := hidH h10
      replace h11 := hidH h11
      replace h12 := hidH h12
      replace h13 := hidH h13
      have q2 := (hR.cellAt 2 (by omega)).trans hx2
      go_wp2
      exact (HJ.out _ _ _).2 ⟨_, _, _, _, _, _, _, _, _, _, _, _, _, _, rfl, hD, hS, hB, hX, hR, hT, hKy, hO, h0.out, h1.out, fun _ => rfl, fun _ => rfl, h4.out, h5.out, h6.out, h7.out, h8.out, h9.out, h10.out, h11.out, h12.out, h13.out⟩
    | 4, _ =>
      obtain ⟨ty, ps, af, ho⟩ := op_lit hops (i := 4) (op := Op.move (Operand.tmp 4)) (dst := some 34) (g := none) rfl
      refine wpOp_lit ho (fun j b h => by cases h) ?_
      clear hops hdep ho
      replace h0 := hidH h0
      replace h1 := hidH h1
      replace h2 := hidH h2
      replace h3 := hidH h3
      replace h5 := hidH h5
      replace h6 := hidH h6
      replace h7 := hidH h7
      replace h8 := hidH h8
      replace h9 := hidH h9
      replace h10 := hidH h10
      replace h11 := hidH h11
      replace h12 := hidH h12
      replace h13 := hidH h13
      go_wp2
      exact (HJ.out _ _ _).2 ⟨_, _, _, _, _, _, _, _, _, _, _, _, _, _, rfl, hD, hS, hB, hX, hR, hT, hKy, hO, h0.out, h1.out, h2.out, h3.out, fun _ => rfl, h5.out, h6.out, h7.out, h8.out, h9.out, h10.out, h11.out, h12.out, h13.out⟩
    | 5, _ =>
      obtain ⟨ty, ps, af, ho⟩ := op_lit hops (i := 5) (op := Op.call { callee := Callee.value (Operand.func 28), args := #[(Operand.tmp 34), (Operand.const (Value.int .i64 34))], argTypes := #[43, 2] }) (dst := some 35) (g := none) rfl
      obtain rfl := h4 (hdep 4 (by simp))
      refine wpOp_lit ho (fun j b h => by cases h) ?_
      clear hops hdep ho
      replace h0 := hidH h0
      replace h1 := hidH h1
      replace h2 := hidH h2
      replace h3 := hidH h3
      replace h4 := hidH h4
      replace h6 := hidH h6
      replace h7 := hidH h7
      replace h8 := hidH h8
      replace h9 := hidH h9
      replace h10 := hidH h10
      replace h11 := hidH h11
      replace h12 := hidH h12
      replace h13 := hidH h13
      obtain ⟨q, hq, S⟩ := hS.1 (by cases h : dn 9 with | false => rfl | true => have := hD h; rw [hdn] at this; cases this)
      have HQ := hidH hq
      clear hq
      go_wp2_with fail
      refine (next_any gs cA l c q 34 _ S (by have := HQ.out; omega)).mono ?_
      rintro e w1 ⟨v, rfl, v0, v1, S1, W1, z1⟩
      obtain ⟨k, rfl⟩ : ∃ k : Nat, v = k := ⟨v.toNat, by omega⟩
      have hk : (k : Int) < 34 := by omega
      have hq := HQ.out
      have U1 := hidH (B8.of_win W1 S.blk (by decide))
      clear v0 v1 z1
      go_wp2
      exact (HJ.out _ _ _).2 ⟨_, _, _, _, _, _, _, _, _, _, _, _, _, _, rfl, fun _ => rfl, ⟨(fun _ => ⟨q + 1, by rw [hdn] at hq; simp [cnt] at hq ⊢; omega, S1⟩), fun h => by have h3 : dn 9 = true := h; have h2 := hD h3; rw [hdn] at h2; cases h2⟩, by obtain ⟨b, p, q, r⟩ := hB; exact ⟨b, p, q, r.win W1 (.inr (by omega))⟩, by obtain ⟨cs, h⟩ := hX; exact ⟨cs, W1.blk h (.inr (by omega))⟩, own_keptT hR W1 hgB, hT.turn W1.size U1.out, hKy.win W1 (.inr (by omega)), hO.trans ((W1.below (by have := S.lt; omega)).mono hgs), h0.out, h1.out, h2.out, h3.out, fun _ => rfl, fun _ => ⟨k, rfl, hk⟩, h6.out, h7.out, h8.out, h9.out, h10.out, h11.out, h12.out, h13.out⟩
    | 6, _ =>
      obtain ⟨ty, ps, af, ho⟩ := op_lit hops (i := 6) (op := Op.indexAddr 22 (Operand.tmp 33) (Operand.tmp 35)) (dst := some 36) (g := none) rfl
      obtain rfl := h3 (hdep 3 (by simp))
      obtain ⟨k, rfl, hk⟩ := h5 (hdep 5 (by simp))
      refine wpOp_lit ho (fun j b h => by cases h) ?_
      clear hops hdep ho
      replace h0 := hidH h0
      replace h1 := hidH h1
      replace h2 := hidH h2
      replace h3 := hidH h3
      replace h4 := hidH h4
      replace h5 := hidH h5
      replace h7 := hidH h7
      replace h8 := hidH h8
      replace h9 := hidH h9
      replace h10 := hidH h10
      replace h11 := hidH h11
      replace h12 := hidH h12
      replace h13 := hidH h13
      have hk0 : (0 : Int) ≤ (k : Int) := by omega
      go_wp2
      exact (HJ.out _ _ _).2 ⟨_, _, _, _, _, _, _, _, _, _, _, _, _, _, rfl, hD, hS, hB, hX, hR, hT, hKy, hO, h0.out, h1.out, h2.out, fun _ => rfl, h4.out, fun _ => ⟨k, rfl, hk⟩, fun _ => ⟨k, rfl, hk⟩, h7.out, h8.out, h9.out, h10.out, h11.out, h12.out, h13.out⟩
    | 7, _ =>
      obtain ⟨ty, ps, af, ho⟩ := op_lit hops (i := 7) (op := Op.load 5 (Operand.tmp 36)) (dst := some 37) (g := none) rfl
      obtain ⟨k, rfl, hk⟩ := h6 (hdep 6 (by simp))
      refine wpOp_lit ho (fun j b h => by cases h) ?_
      clear hops hdep ho
      replace h0 := hidH h0
      replace h1 := hidH h1
      replace h2 := hidH h2
      replace h3 := hidH h3
      replace h4 := hidH h4
      replace h5 := hidH h5
      replace h6 := hidH h6
      replace h8 := hidH h8
      replace h9 := hidH h9
      replace h10 := hidH h10
      replace h11 := hidH h11
      replace h12 := hidH h12
      replace h13 := hidH h13
      have hB2 := hB
      obtain ⟨b, bl, by_, oB⟩ := hB2
      have cc := oB.bs_cell bl (k := k) (by omega)
      have pp := by_.get k
      obtain ⟨x, hx⟩ : ∃ x, b.getD k 0 = x := ⟨_, rfl⟩
      rw [hx] at cc pp
      obtain ⟨p0, p1⟩ := pp
      clear oB by_ bl hx
      replace cc := cc.1
      go_wp2
      exact (HJ.out _ _ _).2 ⟨_, _, _, _, _, _, _, _, _, _, _, _, _, _, rfl, hD, hS, hB, hX, hR, hT, hKy, hO, h0.out, h1.out, h2.out, h3.out, h4.out, h5.out, fun _ => ⟨k, rfl, hk⟩, fun _ => ⟨x, rfl, p0, p1⟩, h8.out, h9.out, h10.out, h11.out, h12.out, h13.out⟩
    | 8, _ =>
      obtain ⟨ty, ps, af, ho⟩ := op_lit hops (i := 8) (op := Op.move (Operand.tmp 4)) (dst := some 38) (g := none) rfl
      refine wpOp_lit ho (fun j b h => by cases h) ?_
      clear hops hdep ho
      replace h0 := hidH h0
      replace h1 := hidH h1
      replace h2 := hidH h2
      replace h3 := hidH h3
      replace h4 := hidH h4
      replace h5 := hidH h5
      replace h6 := hidH h6
      replace h7 := hidH h7
      replace h9 := hidH h9
      replace h10 := hidH h10
      replace h11 := hidH h11
      replace h12 := hidH h12
      replace h13 := hidH h13
      go_wp2
      exact (HJ.out _ _ _).2 ⟨_, _, _, _, _, _, _, _, _, _, _, _, _, _, rfl, hD, hS, hB, hX, hR, hT, hKy, hO, h0.out, h1.out, h2.out, h3.out, h4.out, h5.out, h6.out, h7.out, fun _ => rfl, h9.out, h10.out, h11.out, h12.out, h13.out⟩
    | 9, _ =>
      obtain ⟨ty, ps, af, ho⟩ := op_lit hops (i := 9) (op := Op.call { callee := Callee.value (Operand.func 28), args := #[(Operand.tmp 38), (Operand.const (Value.int .i64 255))], argTypes := #[43, 2] }) (dst := some 39) (g := none) rfl
      have hd5h := hidH (hdep 5 (by simp))
      obtain rfl := h8 (hdep 8 (by simp))
      refine wpOp_lit ho (fun j b h => by cases h) ?_
      clear hops hdep ho
      replace h0 := hidH h0
      replace h1 := hidH h1
      replace h2 := hidH h2
      replace h3 := hidH h3
      replace h4 := hidH h4
      replace h5 := hidH h5
      replace h6 := hidH h6
      replace h7 := hidH h7
      replace h8 := hidH h8
      replace h10 := hidH h10
      replace h11 := hidH h11
      replace h12 := hidH h12
      replace h13 := hidH h13
      have hd5 := hd5h.out
      obtain ⟨q, hq, S⟩ := hS.1 hdn
      have HQ := hidH hq
      clear hq
      go_wp2_with fail
      refine (next_any gs cA l c q 255 _ S (by have := HQ.out; omega)).mono ?_
      rintro e w1 ⟨v, rfl, v0, v1, S1, W1, z1⟩
      obtain ⟨k, rfl⟩ : ∃ k : Nat, v = k := ⟨v.toNat, by omega⟩
      obtain ⟨m, hmk⟩ : ∃ m : Nat, m = k := ⟨_, rfl⟩
      subst hmk
      have hm : (m : Int) < 255 := by omega
      have hq := HQ.out
      have U1 := hidH (B8.of_win W1 S.blk (by decide))
      clear v0 v1 z1
      go_wp2
      exact (HJ.out _ _ _).2 ⟨_, _, _, _, _, _, _, _, _, _, _, _, _, _, rfl, fun _ => hd5, ⟨(fun h => by simp at h), fun _ _ => ⟨q + 1, by have := hq; omega, S1⟩⟩, by obtain ⟨b, p, q, r⟩ := hB; exact ⟨b, p, q, r.win W1 (.inr (by omega))⟩, by obtain ⟨cs, h⟩ := hX; exact ⟨cs, W1.blk h (.inr (by omega))⟩, own_keptT hR W1 hgB, hT.turn W1.size U1.out, hKy.win W1 (.inr (by omega)), hO.trans ((W1.below (by have := S.lt; omega)).mono hgs), h0.out, h1.out, h2.out, h3.out, h4.out, h5.out, h6.out, h7.out, fun _ => rfl, fun _ => ⟨m, rfl, hm⟩, h10.out, h11.out, h12.out, h13.out⟩
    | 10, _ =>
      obtain ⟨ty, ps, af, ho⟩ := op_lit hops (i := 10) (op := Op.binOp BinOp.add 2 ((Operand.const (Value.int .i64 1))) (Operand.tmp 39) 2) (dst := some 40) (g := none) rfl
      obtain ⟨m, rfl, hm⟩ := h9 (hdep 9 (by simp))
      refine wpOp_lit ho (fun j b h => by cases h) ?_
      clear hops hdep ho
      replace h0 := hidH h0
      replace h1 := hidH h1
      replace h2 := hidH h2
      replace h3 := hidH h3
      replace h4 := hidH h4
      replace h5 := hidH h5
      replace h6 := hidH h6
      replace h7 := hidH h7
      replace h8 := hidH h8
      replace h9 := hidH h9
      replace h11 := hidH h11
      replace h12 := hidH h12
      replace h13 := hidH h13
      go_wp2
      have hm2 : ((1 + m : Nat) : Int) < 256 := by omega
      have hm3 : (1 : Int) + (m : Int) = ((1 + m : Nat) : Int) := by omega
      exact (HJ.out _ _ _).2 ⟨_, _, _, _, _, _, _, _, _, _, _, _, _, _, rfl, hD, hS, hB, hX, hR, hT, hKy, hO, h0.out, h1.out, h2.out, h3.out, h4.out, h5.out, h6.out, h7.out, h8.out, fun _ => ⟨m, rfl, hm⟩, fun _ => ⟨1 + m, congrArg (Value.int .i64) hm3, hm2⟩, h11.out, h12.out, h13.out⟩
    | 11, _ =>
      obtain ⟨ty, ps, af, ho⟩ := op_lit hops (i := 11) (op := Op.convert 2 5 (Operand.tmp 40)) (dst := some 41) (g := none) rfl
      obtain ⟨m, rfl, hm⟩ := h10 (hdep 10 (by simp))
      refine wpOp_lit ho (fun j b h => by cases h) ?_
      clear hops hdep ho
      replace h0 := hidH h0
      replace h1 := hidH h1
      replace h2 := hidH h2
      replace h3 := hidH h3
      replace h4 := hidH h4
      replace h5 := hidH h5
      replace h6 := hidH h6
      replace h7 := hidH h7
      replace h8 := hidH h8
      replace h9 := hidH h9
      replace h10 := hidH h10
      replace h12 := hidH h12
      replace h13 := hidH h13
      have hm0 : (0 : Int) ≤ (m : Int) := by omega
      go_wp2
      exact (HJ.out _ _ _).2 ⟨_, _, _, _, _, _, _, _, _, _, _, _, _, _, rfl, hD, hS, hB, hX, hR, hT, hKy, hO, h0.out, h1.out, h2.out, h3.out, h4.out, h5.out, h6.out, h7.out, h8.out, h9.out, fun _ => ⟨m, rfl, hm⟩, fun _ => ⟨m, rfl, hm⟩, h12.out, h13.out⟩
    | 12, _ =>
      obtain ⟨ty, ps, af, ho⟩ := op_lit hops (i := 12) (op := Op.binOp BinOp.xor 5 (Operand.tmp 37) (Operand.tmp 41) 5) (dst := some 42) (g := none) rfl
      obtain ⟨x, rfl, p0, p1⟩ := h7 (hdep 7 (by simp))
      obtain ⟨m, rfl, hm⟩ := h11 (hdep 11 (by simp))
      refine wpOp_lit ho (fun j b h => by cases h) ?_
      clear hops hdep ho
      replace h0 := hidH h0
      replace h1 := hidH h1
      replace h2 := hidH h2
      replace h3 := hidH h3
      replace h4 := hidH h4
      replace h5 := hidH h5
      replace h6 := hidH h6
      replace h7 := hidH h7
      replace h8 := hidH h8
      replace h9 := hidH h9
      replace h10 := hidH h10
      replace h11 := hidH h11
      replace h13 := hidH h13
      have hxx := u8_xor x (m : Int) p0 p1 (by omega) (by omega)
      have hyy := byteX_byte (m := ((m : Int).toNat)) (by omega) p0 p1
      rw [← hxx] at hyy
      obtain ⟨p2, p3⟩ := hyy
      clear hxx
      go_wp2
      exact (HJ.out _ _ _).2 ⟨_, _, _, _, _, _, _, _, _, _, _, _, _, _, rfl, hD, hS, hB, hX, hR, hT, hKy, hO, h0.out, h1.out, h2.out, h3.out, h4.out, h5.out, h6.out, fun _ => ⟨x, rfl, p0, p1⟩, h8.out, h9.out, h10.out, fun _ => ⟨m, rfl, hm⟩, fun _ => ⟨_, rfl, p2, p3⟩, h13.out⟩
    | 13, _ =>
      obtain ⟨ty, ps, af, ho⟩ := op_lit hops (i := 13) (op := Op.indexAddr 22 (Operand.tmp 33) (Operand.tmp 35)) (dst := some 43) (g := none) rfl
      obtain rfl := h3 (hdep 3 (by simp))
      obtain ⟨k, rfl, hk⟩ := h5 (hdep 5 (by simp))
      refine wpOp_lit ho (fun j b h => by cases h) ?_
      clear hops hdep ho
      replace h0 := hidH h0
      replace h1 := hidH h1
      replace h2 := hidH h2
      replace h3 := hidH h3
      replace h4 := hidH h4
      replace h5 := hidH h5
      replace h6 := hidH h6
      replace h7 := hidH h7
      replace h8 := hidH h8
      replace h9 := hidH h9
      replace h10 := hidH h10
      replace h11 := hidH h11
      replace h12 := hidH h12
      have hk0 : (0 : Int) ≤ (k : Int) := by omega
      go_wp2
      exact (HJ.out _ _ _).2 ⟨_, _, _, _, _, _, _, _, _, _, _, _, _, _, rfl, hD, hS, hB, hX, hR, hT, hKy, hO, h0.out, h1.out, h2.out, fun _ => rfl, h4.out, fun _ => ⟨k, rfl, hk⟩, h6.out, h7.out, h8.out, h9.out, h10.out, h11.out, h12.out, fun _ => ⟨k, rfl, hk⟩⟩
    | 14, _ =>
      obtain ⟨ty, ps, af, ho⟩ := op_lit hops (i := 14) (op := Op.store 5 (Operand.tmp 43) (Operand.tmp 42)) (dst := none) (g := none) rfl
      have hd5h := hidH (hdep 5 (by simp))
      have hd9h := hidH (hdep 9 (by simp))
      obtain ⟨x, rfl, p0, p1⟩ := h12 (hdep 12 (by simp))
      obtain ⟨k, rfl, hk⟩ := h13 (hdep 13 (by simp))
      refine wpOp_lit ho (fun j b h => by cases h) ?_
      clear hops hdep ho
      replace h0 := hidH h0
      replace h1 := hidH h1
      replace h2 := hidH h2
      replace h3 := hidH h3
      replace h4 := hidH h4
      replace h5 := hidH h5
      replace h6 := hidH h6
      replace h7 := hidH h7
      replace h8 := hidH h8
      replace h9 := hidH h9
      replace h10 := hidH h10
      replace h11 := hidH h11
      replace h12 := hidH h12
      replace h13 := hidH h13
      have hd5 := hd5h.out
      have hd9 := hd9h.out
      have hB2 := hB
      obtain ⟨b, bl, by_, oB⟩ := hB2
      have cc0 := oB.bs_cell bl (k := k) (by omega)
      have cc := cc0.1
      have ff := cc0.2.1
      have gg := cc0.2.2
      have O2 := hidH (oB.bs_set bl k (by omega) x)
      have b2 : Bytes (b.set k x) := fun y hy => by
        rcases List.mem_or_eq_of_mem_set hy with h1 | h1
        · exact by_ y h1
        · rw [h1]; exact ⟨p0, p1⟩
      have l2 : (b.set k x).length = 34 := by rw [List.length_set]; exact bl
      obtain ⟨ks, KX⟩ := hX
      have R2 := hidH (own_farT hR KX (by decide) (xo + k) (.int .u8 x))
      have X2 := hidH (show ∃ cs, Blk (W.setCell ⟨xb, xo + k, none⟩ (.int .u8 x)) xb 5 cs from ⟨_, KX.put (xo + k) _⟩)
      have T2 := hidH (RTs.setFar hT hap (xo + k) (.int .u8 x))
      have G := hidH (bst hO (show ws.heap.size ≤ (⟨xb, xo + k, none⟩ : Addr).block from hxb) (.int .u8 x))
      clear oB by_ bl KX cc0
      go_wp2
      exact (HJ.out _ _ _).2 ⟨_, _, _, _, _, _, _, _, _, _, _, _, _, _, rfl, fun _ => hd5, ⟨(fun h => by have h2 : dn 9 = false := h; rw [hd9] at h2; cases h2), fun _ h => by simp at h⟩, ⟨_, l2, b2, O2.out⟩, X2.out, R2.out, T2.out, hKy.win (set_win W xb (xo + k) (.int .u8 x)) (.inl (by omega)), G.out, h0.out, h1.out, h2.out, h3.out, h4.out, h5.out, h6.out, h7.out, h8.out, h9.out, h10.out, h11.out, fun _ => ⟨x, rfl, p0, p1⟩, fun _ => ⟨k, rfl, hk⟩⟩
    | n + 15, h => omega
  case fin =>
    clear hops hdeps hback
    rintro dn ac W hJ hall
    obtain ⟨t30, t31, t32, t33, t34, t35, t36, t37, t38, t39, t40, t41, t42, t43, rfl, hD, hS, hB, hX, hR, hT, hKy, hO, h0, h1, h2, h3, h4, h5, h6, h7, h8, h9, h10, h11, h12, h13⟩ := (HJ.out _ _ _).1 hJ
    exact fin _ _ _ _ _ _ _ _ _ _ _ _ _ _ W hB hX hR hT hKy hO
end Go.Proofs.YtncnibkojneejaaGreatDoor
