/- The region of DrawSameMac that turns one byte. -/
import Derived.Test.YtanffpmpknmldaaDraw4
import Derived.Test.YtanffpmpknmldaaApp
import Derived.Test.YtanffpmpknmldaaLwAt
import Derived.Test.YtanffpmpknmldaaRegInv
namespace Go.Proofs.Ytanffpmpknmldaa
open Go.RowKit Go.Deep

/-- Bytes from the start of a block on that may be written. -/
def OwB (B C bb : Nat) (w : World) (b : List Int) : Prop :=
  B ≤ bb ∧ bb < C ∧ C ≤ w.heap.size ∧ ∀ j, j < b.length → w.cell? ⟨bb, j, none⟩ = some (.int .u8 (b.getD j 0)) ∧ w.frozen? ⟨bb, j, none⟩ = false
theorem OwB.ob {B C bb : Nat} {w : World} {b : List Int} (h : OwB B C bb w b) : Ob B C w (some ⟨bb, 0, none⟩) b :=
  .inr ⟨bb, 0, rfl, h.1, h.2.1, h.2.2.1, fun j hj => by rw [Nat.zero_add]; exact h.2.2.2 j hj⟩
theorem OwB.win {B C bb g : Nat} {w w' : World} {b : List Int} (h : OwB B C bb w b) (hw : Win g (g + 1) w w') (hg : g + 1 ≤ B) : OwB B C bb w' b := by
  rcases h.ob.win hw (.inr hg) with h1 | ⟨p, o, h1, h2, h3, h4, h5⟩
  · exact ⟨h.1, h.2.1, Nat.le_trans h.2.2.1 hw.size, fun j hj => by rw [h1] at hj; simp at hj⟩
  · simp only [Option.some.injEq, Addr.mk.injEq, and_true] at h1
    obtain ⟨rfl, rfl⟩ := h1
    exact ⟨h2, h3, h4, fun j hj => by have := h5 j hj; rwa [Nat.zero_add] at this⟩
theorem OwB.set {B C bb : Nat} {w : World} {b : List Int} (h : OwB B C bb w b) (k : Nat) (v : Int) (hk : k < b.length) : OwB B C bb (w.setCell ⟨bb, k, none⟩ (.int .u8 v)) (b.set k v) := by
  have := ob_set (off := 0) v h.1 h.2.1 h.2.2.1 hk (fun j hj => by rw [Nat.zero_add]; exact h.2.2.2 j hj)
  rw [Nat.zero_add] at this
  rcases this with h1 | ⟨p, o, h1, h2, h3, h4, h5⟩
  · have : (b.set k v).length = 0 := by rw [h1]; rfl
    rw [List.length_set] at this; omega
  · simp only [Option.some.injEq, Addr.mk.injEq, and_true] at h1
    obtain ⟨rfl, rfl⟩ := h1
    exact ⟨h2, h3, h4, fun j hj => by have := h5 j hj; rwa [Nat.zero_add] at this⟩
theorem Ob.setFar {B C : Nat} {w : World} {A : Option Addr} {l : List Int} (h : Ob B C w A l) {p : Addr} (hp : C ≤ p.block) (u : Value) : Ob B C (w.setCell p u) A l := by
  rcases h with h | ⟨b, off, h1, h2, h3, h4, h5⟩
  · exact .inl h
  · exact .inr ⟨b, off, h1, h2, h3, by simpa [World.setCell] using h4, fun j hj => ⟨(World.cell?_setCell_other _ _ _ _ (fun e => by subst e; simp at hp; omega)).trans (h5 j hj).1, (World.frozen?_setCell _ _ _ _).trans (h5 j hj).2⟩⟩
set_option maxRecDepth 100000 in
set_option maxHeartbeats 1000000 in
theorem regD5 {Q : Exit → Act → World → Prop} (x0 x1 x2 x3 x5 x7 x8 x9 x10 x11 x12 x13 x14 x15 x16 x17 x18 x19 : Value) (ws : World) (gs bb N cb B0 B1 C1 : Nat) (cA PA : Option Addr) (l a : List Int) (c : Nat) (hgs : ws.heap.size ≤ gs) (hB0 : gs + 1 ≤ B0) (hB1 : B0 ≤ B1) (hN : 1 ≤ N) (hN2 : N ≤ 100) (x33 x34 x35 x36 x37 x38 : Value) {ops : Array Oper}
    (hops : (ops.map fun o => (o.op, o.dst, o.guard)) = #[(Op.move (Operand.tmp 6), some 20, none), (Op.move (Operand.tmp 4), some 21, none), (Op.move (Operand.tmp 6), some 22, none), (Op.call { callee := Callee.builtin Builtin.len, args := #[(Operand.tmp 22)], argTypes := #[22] }, some 23, none), (Op.call { callee := Callee.value (Operand.func 37), args := #[(Operand.tmp 21), (Operand.tmp 23)], argTypes := #[41, 2] }, some 24, none), (Op.indexAddr 22 (Operand.tmp 20) (Operand.tmp 24), some 25, none), (Op.load 5 (Operand.tmp 25), some 26, none), (Op.move (Operand.tmp 4), some 27, none), (Op.call { callee := Callee.value (Operand.func 37), args := #[(Operand.tmp 27), (Operand.const (Value.int .i64 255))], argTypes := #[41, 2] }, some 28, none), (Op.binOp BinOp.add 2 (Operand.const (Value.int .i64 1)) (Operand.tmp 28) 2, some 29, none), (Op.convert 2 5 (Operand.tmp 29), some 30, none), (Op.binOp BinOp.xor 5 (Operand.tmp 26) (Operand.tmp 30) 5, some 31, none), (Op.indexAddr 22 (Operand.tmp 20) (Operand.tmp 24), some 32, none), (Op.store 5 (Operand.tmp 32) (Operand.tmp 31), none, none)])
    (hdeps : ((List.range 14).all fun i => ((fun i => [[], [], [], [2], [1, 3], [0, 4], [5], [], [4, 7], [8], [9], [6, 10], [0, 4], [0, 1, 2, 3, 4, 5, 6, 7, 8, 9, 10, 11, 12]].getD i []) i).all fun j => ((ops[i]?).map fun o => o.after.any fun e => Region.binds .any e && e.on == j).getD false) = true)
    (hback : ((List.range 14).all fun i => ((ops[i]?).map fun o => o.after.all fun e => decide (e.on < i)).getD false) = true)
    {a0 : Act} {w0 : World} (ha : a0 = { tmps := #[x0, x1, x2, x3, .pointer (some ⟨gs, 0, none⟩), x5, .slice (some ⟨bb, 0, none⟩) N cb, x7, x8, x9, x10, x11, x12, x13, x14, x15, x16, x17, x18, x19, undef, undef, undef, undef, undef, undef, undef, undef, undef, undef, undef, undef, undef, x33, x34, x35, x36, x37, x38], defers := [] }) (hD : false = true → false = true) (hS : (false = false → ∃ q : Nat, q + cnt (false) ≤ 101 ∧ Src w0 gs cA l c q)) (hB : ∃ b : List Int, b.length = N ∧ Bytes b ∧ OwB B1 C1 bb w0 b) (hA : Ob B0 B1 w0 PA a) (hO : Below ws.heap.size ws w0)
    (fin : ∀ t20 t21 t22 t23 t24 t25 t26 t27 t28 t29 t30 t31 t32 (W : World), (∃ b : List Int, b.length = N ∧ Bytes b ∧ OwB B1 C1 bb W b) → (Ob B0 B1 W PA a) → (Below ws.heap.size ws W) → Q .normal { tmps := #[x0, x1, x2, x3, .pointer (some ⟨gs, 0, none⟩), x5, .slice (some ⟨bb, 0, none⟩) N cb, x7, x8, x9, x10, x11, x12, x13, x14, x15, x16, x17, x18, x19, t20, t21, t22, t23, t24, t25, t26, t27, t28, t29, t30, t31, t32, x33, x34, x35, x36, x37, x38], defers := [] } W) :
    wpAny Try.prog .any ops Q ops.size (Array.replicate ops.size false) a0 w0 := by
  have hn : ops.size = 14 := by have := congrArg Array.size hops; simpa using this
  obtain ⟨J, HJ⟩ : ∃ J : (Nat → Bool) → Act → World → Prop, ∀ dn ac W, J dn ac W ↔ (fun dn ac W => ∃ t20 t21 t22 t23 t24 t25 t26 t27 t28 t29 t30 t31 t32, ac = { tmps := #[x0, x1, x2, x3, .pointer (some ⟨gs, 0, none⟩), x5, .slice (some ⟨bb, 0, none⟩) N cb, x7, x8, x9, x10, x11, x12, x13, x14, x15, x16, x17, x18, x19, t20, t21, t22, t23, t24, t25, t26, t27, t28, t29, t30, t31, t32, x33, x34, x35, x36, x37, x38], defers := [] } ∧ (dn 8 = true → dn 4 = true) ∧ ((dn 8 = false → ∃ q : Nat, q + cnt (dn 4) ≤ 101 ∧ Src W gs cA l c q)) ∧ (∃ b : List Int, b.length = N ∧ Bytes b ∧ OwB B1 C1 bb W b) ∧ (Ob B0 B1 W PA a) ∧ (Below ws.heap.size ws W) ∧ (dn 0 = true → t20 = .slice (some ⟨bb, 0, none⟩) N cb) ∧ (dn 1 = true → t21 = .pointer (some ⟨gs, 0, none⟩)) ∧ (dn 2 = true → t22 = .slice (some ⟨bb, 0, none⟩) N cb) ∧ (dn 3 = true → t23 = .int .i64 (N : Int)) ∧ (dn 4 = true → ∃ k : Nat, t24 = .int .i64 (k : Int) ∧ (k : Int) < (N : Int)) ∧ (dn 5 = true → ∃ k : Nat, t25 = .pointer (some ⟨bb, k, none⟩) ∧ (k : Int) < (N : Int)) ∧ (dn 6 = true → ∃ x : Int, t26 = .int .u8 x ∧ 0 ≤ x ∧ x ≤ 255) ∧ (dn 7 = true → t27 = .pointer (some ⟨gs, 0, none⟩)) ∧ (dn 8 = true → ∃ m : Nat, t28 = .int .i64 (m : Int) ∧ (m : Int) < 255) ∧ (dn 9 = true → ∃ m : Nat, t29 = .int .i64 (m : Int) ∧ (m : Int) < 256) ∧ (dn 10 = true → ∃ m : Nat, t30 = .int .u8 (m : Int) ∧ (m : Int) < 256) ∧ (dn 11 = true → ∃ x : Int, t31 = .int .u8 x ∧ 0 ≤ x ∧ x ≤ 255) ∧ (dn 12 = true → ∃ k : Nat, t32 = .pointer (some ⟨bb, k, none⟩) ∧ (k : Int) < (N : Int))) dn ac W := ⟨_, fun _ _ _ => Iff.rfl⟩
  replace HJ := hidH HJ
  refine region_inv 14 (fun i => [[], [], [], [2], [1, 3], [0, 4], [5], [], [4, 7], [8], [9], [6, 10], [0, 4], [0, 1, 2, 3, 4, 5, 6, 7, 8, 9, 10, 11, 12]].getD i []) J hn hdeps hback ?start ?step ?fin
  case start => exact (HJ.out _ _ _).2 ⟨undef, undef, undef, undef, undef, undef, undef, undef, undef, undef, undef, undef, undef, ha, hD, hS, hB, hA, hO, fun h => by simp at h, fun h => by simp at h, fun h => by simp at h, fun h => by simp at h, fun h => by simp at h, fun h => by simp at h, fun h => by simp at h, fun h => by simp at h, fun h => by simp at h, fun h => by simp at h, fun h => by simp at h, fun h => by simp at h, fun h => by simp at h⟩
  all_goals clear ha hD hS hB hA hO
  case step =>
    clear fin hdeps hback
    intro i hi dn ac W hJ hdn hdep
    obtain ⟨t20, t21, t22, t23, t24, t25, t26, t27, t28, t29, t30, t31, t32, rfl, hD, hS, hB, hA, hO, h0, h1, h2, h3, h4, h5, h6, h7, h8, h9, h10, h11, h12⟩ := (HJ.out _ _ _).1 hJ
    clear hJ
    match i, hi with
    | 0, _ =>
      obtain ⟨ty, ps, af, ho⟩ := op_lit hops (i := 0) (op := Op.move (Operand.tmp 6)) (dst := some 20) (g := none) rfl
      refine wpOp_lit ho (fun j b h => by cases h) ?_
      clear hops hdep ho
      replace h1 := hidH h1
      replace h2 := hidH h2
      replace h3 := hidH h3
      replace h4 := hidH h4
      replace h5 := hidH h5
      replace h6 := hidH h6
      replace h7 := hidH h7
      replace h8 := hidH h8
      replace h9 := hidH h9
      replace h10 := hidH h10
      replace h11 := hidH h11
      replace h12 := hidH h12
      go_wp2
      exact (HJ.out _ _ _).2 ⟨_, _, _, _, _, _, _, _, _, _, _, _, _, rfl, hD, hS, hB, hA, hO, fun _ => rfl, h1.out, h2.out, h3.out, h4.out, h5.out, h6.out, h7.out, h8.out, h9.out, h10.out, h11.out, h12.out⟩
    | 1, _ =>
      obtain ⟨ty, ps, af, ho⟩ := op_lit hops (i := 1) (op := Op.move (Operand.tmp 4)) (dst := some 21) (g := none) rfl
      refine wpOp_lit ho (fun j b h => by cases h) ?_
      clear hops hdep ho
      replace h0 := hidH h0
      replace h2 := hidH h2
      replace h3 := hidH h3
      replace h4 := hidH h4
      replace h5 := hidH h5
      replace h6 := hidH h6
      replace h7 := hidH h7
      replace h8 := hidH h8
      replace h9 := hidH h9
      replace h10 := hidH h10
      replace h11 := hidH h11
      replace h12 := hidH h12
      go_wp2
      exact (HJ.out _ _ _).2 ⟨_, _, _, _, _, _, _, _, _, _, _, _, _, rfl, hD, hS, hB, hA, hO, h0.out, fun _ => rfl, h2.out, h3.out, h4.out, h5.out, h6.out, h7.out, h8.out, h9.out, h10.out, h11.out, h12.out⟩
    | 2, _ =>
      obtain ⟨ty, ps, af, ho⟩ := op_lit hops (i := 2) (op := Op.move (Operand.tmp 6)) (dst := some 22) (g := none) rfl
      refine wpOp_lit ho (fun j b h => by cases h) ?_
      clear hops hdep ho
      replace h0 := hidH h0
      replace h1 := hidH h1
      replace h3 := hidH h3
      replace h4 := hidH h4
      replace h5 := hidH h5
      replace h6 := hidH h6
      replace h7 := hidH h7
      replace h8 := hidH h8
      replace h9 := hidH h9
      replace h10 := hidH h10
      replace h11 := hidH h11
      replace h12 := hidH h12
      go_wp2
      exact (HJ.out _ _ _).2 ⟨_, _, _, _, _, _, _, _, _, _, _, _, _, rfl, hD, hS, hB, hA, hO, h0.out, h1.out, fun _ => rfl, h3.out, h4.out, h5.out, h6.out, h7.out, h8.out, h9.out, h10.out, h11.out, h12.out⟩
    | 3, _ =>
      obtain ⟨ty, ps, af, ho⟩ := op_lit hops (i := 3) (op := Op.call { callee := Callee.builtin Builtin.len, args := #[(Operand.tmp 22)], argTypes := #[22] }) (dst := some 23) (g := none) rfl
      obtain rfl := h2 (hdep 2 (by simp))
      refine wpOp_lit ho (fun j b h => by cases h) ?_
      clear hops hdep ho
      replace h0 := hidH h0
      replace h1 := hidH h1
      replace h2 := hidH h2
      replace h4 := hidH h4
      replace h5 := hidH h5
      replace h6 := hidH h6
      replace h7 := hidH h7
      replace h8 := hidH h8
      replace h9 := hidH h9
      replace h10 := hidH h10
      replace h11 := hidH h11
      replace h12 := hidH h12
      go_wp2
      exact (HJ.out _ _ _).2 ⟨_, _, _, _, _, _, _, _, _, _, _, _, _, rfl, hD, hS, hB, hA, hO, h0.out, h1.out, fun _ => rfl, fun _ => rfl, h4.out, h5.out, h6.out, h7.out, h8.out, h9.out, h10.out, h11.out, h12.out⟩
    | 4, _ =>
      obtain ⟨ty, ps, af, ho⟩ := op_lit hops (i := 4) (op := Op.call { callee := Callee.value (Operand.func 37), args := #[(Operand.tmp 21), (Operand.tmp 23)], argTypes := #[41, 2] }) (dst := some 24) (g := none) rfl
      obtain rfl := h1 (hdep 1 (by simp))
      obtain rfl := h3 (hdep 3 (by simp))
      refine wpOp_lit ho (fun j b h => by cases h) ?_
      clear hops hdep ho
      replace h0 := hidH h0
      replace h1 := hidH h1
      replace h2 := hidH h2
      replace h3 := hidH h3
      replace h5 := hidH h5
      replace h6 := hidH h6
      replace h7 := hidH h7
      replace h8 := hidH h8
      replace h9 := hidH h9
      replace h10 := hidH h10
      replace h11 := hidH h11
      replace h12 := hidH h12
      obtain ⟨q, hq, S⟩ := hS (by cases h : dn 8 with | false => rfl | true => have := hD h; rw [hdn] at this; cases this)
      have HQ := hidH hq
      clear hq
      go_wp2_with fail
      refine (next_any gs cA l c q (N : Int) _ S (by have := HQ.out; omega)).mono ?_
      rintro e w1 ⟨v, rfl, v0, v1, S1, W1, z1⟩
      obtain ⟨k, rfl⟩ : ∃ k : Nat, v = k := ⟨v.toNat, by omega⟩
      have hk : (k : Int) < (N : Int) := by omega
      have hq := HQ.out
      go_wp2
      exact (HJ.out _ _ _).2 ⟨_, _, _, _, _, _, _, _, _, _, _, _, _, rfl, fun _ => rfl, fun _ => ⟨q + 1, by rw [hdn] at hq; simp [cnt] at hq ⊢; omega, S1⟩, by obtain ⟨b, p, q, r⟩ := hB; exact ⟨b, p, q, r.win W1 (by omega)⟩, hA.win W1 (.inr (by omega)), hO.trans ((W1.below (by have := S.lt; omega)).mono hgs), h0.out, fun _ => rfl, h2.out, fun _ => rfl, fun _ => ⟨k, rfl, hk⟩, h5.out, h6.out, h7.out, h8.out, h9.out, h10.out, h11.out, h12.out⟩
    | 5, _ =>
      obtain ⟨ty, ps, af, ho⟩ := op_lit hops (i := 5) (op := Op.indexAddr 22 (Operand.tmp 20) (Operand.tmp 24)) (dst := some 25) (g := none) rfl
      obtain rfl := h0 (hdep 0 (by simp))
      obtain ⟨k, rfl, hk⟩ := h4 (hdep 4 (by simp))
      refine wpOp_lit ho (fun j b h => by cases h) ?_
      clear hops hdep ho
      replace h0 := hidH h0
      replace h1 := hidH h1
      replace h2 := hidH h2
      replace h3 := hidH h3
      replace h4 := hidH h4
      replace h6 := hidH h6
      replace h7 := hidH h7
      replace h8 := hidH h8
      replace h9 := hidH h9
      replace h10 := hidH h10
      replace h11 := hidH h11
      replace h12 := hidH h12
      have hk0 : (0 : Int) ≤ (k : Int) := by omega
      go_wp2
      exact (HJ.out _ _ _).2 ⟨_, _, _, _, _, _, _, _, _, _, _, _, _, rfl, hD, hS, hB, hA, hO, fun _ => rfl, h1.out, h2.out, h3.out, fun _ => ⟨k, rfl, hk⟩, fun _ => ⟨k, rfl, hk⟩, h6.out, h7.out, h8.out, h9.out, h10.out, h11.out, h12.out⟩
    | 6, _ =>
      obtain ⟨ty, ps, af, ho⟩ := op_lit hops (i := 6) (op := Op.load 5 (Operand.tmp 25)) (dst := some 26) (g := none) rfl
      obtain ⟨k, rfl, hk⟩ := h5 (hdep 5 (by simp))
      refine wpOp_lit ho (fun j b h => by cases h) ?_
      clear hops hdep ho
      replace h0 := hidH h0
      replace h1 := hidH h1
      replace h2 := hidH h2
      replace h3 := hidH h3
      replace h4 := hidH h4
      replace h5 := hidH h5
      replace h7 := hidH h7
      replace h8 := hidH h8
      replace h9 := hidH h9
      replace h10 := hidH h10
      replace h11 := hidH h11
      replace h12 := hidH h12
      have hB2 := hB
      obtain ⟨b, bl, by_, oB⟩ := hB2
      have cc := (oB.2.2.2 k (by omega)).1
      have pp := by_.get k
      obtain ⟨x, hx⟩ : ∃ x, b.getD k 0 = x := ⟨_, rfl⟩
      rw [hx] at cc pp
      obtain ⟨p0, p1⟩ := pp
      clear oB by_ bl hx
      go_wp2
      exact (HJ.out _ _ _).2 ⟨_, _, _, _, _, _, _, _, _, _, _, _, _, rfl, hD, hS, hB, hA, hO, h0.out, h1.out, h2.out, h3.out, h4.out, fun _ => ⟨k, rfl, hk⟩, fun _ => ⟨x, rfl, p0, p1⟩, h7.out, h8.out, h9.out, h10.out, h11.out, h12.out⟩
    | 7, _ =>
      obtain ⟨ty, ps, af, ho⟩ := op_lit hops (i := 7) (op := Op.move (Operand.tmp 4)) (dst := some 27) (g := none) rfl
      refine wpOp_lit ho (fun j b h => by cases h) ?_
      clear hops hdep ho
      replace h0 := hidH h0
      replace h1 := hidH h1
      replace h2 := hidH h2
      replace h3 := hidH h3
      replace h4 := hidH h4
      replace h5 := hidH h5
      replace h6 := hidH h6
      replace h8 := hidH h8
      replace h9 := hidH h9
      replace h10 := hidH h10
      replace h11 := hidH h11
      replace h12 := hidH h12
      go_wp2
      exact (HJ.out _ _ _).2 ⟨_, _, _, _, _, _, _, _, _, _, _, _, _, rfl, hD, hS, hB, hA, hO, h0.out, h1.out, h2.out, h3.out, h4.out, h5.out, h6.out, fun _ => rfl, h8.out, h9.out, h10.out, h11.out, h12.out⟩
    | 8, _ =>
      obtain ⟨ty, ps, af, ho⟩ := op_lit hops (i := 8) (op := Op.call { callee := Callee.value (Operand.func 37), args := #[(Operand.tmp 27), (Operand.const (Value.int .i64 255))], argTypes := #[41, 2] }) (dst := some 28) (g := none) rfl
      have hd4h := hidH (hdep 4 (by simp))
      obtain rfl := h7 (hdep 7 (by simp))
      refine wpOp_lit ho (fun j b h => by cases h) ?_
      clear hops hdep ho
      replace h0 := hidH h0
      replace h1 := hidH h1
      replace h2 := hidH h2
      replace h3 := hidH h3
      replace h4 := hidH h4
      replace h5 := hidH h5
      replace h6 := hidH h6
      replace h7 := hidH h7
      replace h9 := hidH h9
      replace h10 := hidH h10
      replace h11 := hidH h11
      replace h12 := hidH h12
      have hd4 := hd4h.out
      obtain ⟨q, hq, S⟩ := hS hdn
      have HQ := hidH hq
      clear hq
      go_wp2_with fail
      refine (next_any gs cA l c q 255 _ S (by have := HQ.out; omega)).mono ?_
      rintro e w1 ⟨v, rfl, v0, v1, S1, W1, z1⟩
      obtain ⟨k, rfl⟩ : ∃ k : Nat, v = k := ⟨v.toNat, by omega⟩
      obtain ⟨m, hmk⟩ : ∃ m : Nat, m = k := ⟨_, rfl⟩
      subst hmk
      have hm : (m : Int) < 255 := by omega
      have hq := HQ.out
      go_wp2
      exact (HJ.out _ _ _).2 ⟨_, _, _, _, _, _, _, _, _, _, _, _, _, rfl, fun _ => hd4, fun h => by simp at h, by obtain ⟨b, p, q, r⟩ := hB; exact ⟨b, p, q, r.win W1 (by omega)⟩, hA.win W1 (.inr (by omega)), hO.trans ((W1.below (by have := S.lt; omega)).mono hgs), h0.out, h1.out, h2.out, h3.out, h4.out, h5.out, h6.out, fun _ => rfl, fun _ => ⟨m, rfl, hm⟩, h9.out, h10.out, h11.out, h12.out⟩
    | 9, _ =>
      obtain ⟨ty, ps, af, ho⟩ := op_lit hops (i := 9) (op := Op.binOp BinOp.add 2 (Operand.const (Value.int .i64 1)) (Operand.tmp 28) 2) (dst := some 29) (g := none) rfl
      obtain ⟨m, rfl, hm⟩ := h8 (hdep 8 (by simp))
      refine wpOp_lit ho (fun j b h => by cases h) ?_
      clear hops hdep ho
      replace h0 := hidH h0
      replace h1 := hidH h1
      replace h2 := hidH h2
      replace h3 := hidH h3
      replace h4 := hidH h4
      replace h5 := hidH h5
      replace h6 := hidH h6
      replace h7 := hidH h7
      replace h8 := hidH h8
      replace h10 := hidH h10
      replace h11 := hidH h11
      replace h12 := hidH h12
      go_wp2
      have hm2 : ((1 + m : Nat) : Int) < 256 := by omega
      have hm3 : (1 : Int) + (m : Int) = ((1 + m : Nat) : Int) := by omega
      exact (HJ.out _ _ _).2 ⟨_, _, _, _, _, _, _, _, _, _, _, _, _, rfl, hD, hS, hB, hA, hO, h0.out, h1.out, h2.out, h3.out, h4.out, h5.out, h6.out, h7.out, fun _ => ⟨m, rfl, hm⟩, fun _ => ⟨1 + m, congrArg (Value.int .i64) hm3, hm2⟩, h10.out, h11.out, h12.out⟩
    | 10, _ =>
      obtain ⟨ty, ps, af, ho⟩ := op_lit hops (i := 10) (op := Op.convert 2 5 (Operand.tmp 29)) (dst := some 30) (g := none) rfl
      obtain ⟨m, rfl, hm⟩ := h9 (hdep 9 (by simp))
      refine wpOp_lit ho (fun j b h => by cases h) ?_
      clear hops hdep ho
      replace h0 := hidH h0
      replace h1 := hidH h1
      replace h2 := hidH h2
      replace h3 := hidH h3
      replace h4 := hidH h4
      replace h5 := hidH h5
      replace h6 := hidH h6
      replace h7 := hidH h7
      replace h8 := hidH h8
      replace h9 := hidH h9
      replace h11 := hidH h11
      replace h12 := hidH h12
      have hm0 : (0 : Int) ≤ (m : Int) := by omega
      go_wp2
      exact (HJ.out _ _ _).2 ⟨_, _, _, _, _, _, _, _, _, _, _, _, _, rfl, hD, hS, hB, hA, hO, h0.out, h1.out, h2.out, h3.out, h4.out, h5.out, h6.out, h7.out, h8.out, fun _ => ⟨m, rfl, hm⟩, fun _ => ⟨m, rfl, hm⟩, h11.out, h12.out⟩
    | 11, _ =>
      obtain ⟨ty, ps, af, ho⟩ := op_lit hops (i := 11) (op := Op.binOp BinOp.xor 5 (Operand.tmp 26) (Operand.tmp 30) 5) (dst := some 31) (g := none) rfl
      obtain ⟨x, rfl, p0, p1⟩ := h6 (hdep 6 (by simp))
      obtain ⟨m, rfl, hm⟩ := h10 (hdep 10 (by simp))
      refine wpOp_lit ho (fun j b h => by cases h) ?_
      clear hops hdep ho
      replace h0 := hidH h0
      replace h1 := hidH h1
      replace h2 := hidH h2
      replace h3 := hidH h3
      replace h4 := hidH h4
      replace h5 := hidH h5
      replace h6 := hidH h6
      replace h7 := hidH h7
      replace h8 := hidH h8
      replace h9 := hidH h9
      replace h10 := hidH h10
      replace h12 := hidH h12
      have hxx := u8_xor x (m : Int) p0 p1 (by omega) (by omega)
      have hyy := byteX_byte (m := ((m : Int).toNat)) (by omega) p0 p1
      rw [← hxx] at hyy
      obtain ⟨p2, p3⟩ := hyy
      clear hxx
      go_wp2
      exact (HJ.out _ _ _).2 ⟨_, _, _, _, _, _, _, _, _, _, _, _, _, rfl, hD, hS, hB, hA, hO, h0.out, h1.out, h2.out, h3.out, h4.out, h5.out, fun _ => ⟨x, rfl, p0, p1⟩, h7.out, h8.out, h9.out, fun _ => ⟨m, rfl, hm⟩, fun _ => ⟨_, rfl, p2, p3⟩, h12.out⟩
    | 12, _ =>
      obtain ⟨ty, ps, af, ho⟩ := op_lit hops (i := 12) (op := Op.indexAddr 22 (Operand.tmp 20) (Operand.tmp 24)) (dst := some 32) (g := none) rfl
      obtain rfl := h0 (hdep 0 (by simp))
      obtain ⟨k, rfl, hk⟩ := h4 (hdep 4 (by simp))
      refine wpOp_lit ho (fun j b h => by cases h) ?_
      clear hops hdep ho
      replace h0 := hidH h0
      replace h1 := hidH h1
      replace h2 := hidH h2
      replace h3 := hidH h3
      replace h4 := hidH h4
      replace h5 := hidH h5
      replace h6 := hidH h6
      replace h7 := hidH h7
      replace h8 := hidH h8
      replace h9 := hidH h9
      replace h10 := hidH h10
      replace h11 := hidH h11
      have hk0 : (0 : Int) ≤ (k : Int) := by omega
      go_wp2
      exact (HJ.out _ _ _).2 ⟨_, _, _, _, _, _, _, _, _, _, _, _, _, rfl, hD, hS, hB, hA, hO, fun _ => rfl, h1.out, h2.out, h3.out, fun _ => ⟨k, rfl, hk⟩, h5.out, h6.out, h7.out, h8.out, h9.out, h10.out, h11.out, fun _ => ⟨k, rfl, hk⟩⟩
    | 13, _ =>
      obtain ⟨ty, ps, af, ho⟩ := op_lit hops (i := 13) (op := Op.store 5 (Operand.tmp 32) (Operand.tmp 31)) (dst := none) (g := none) rfl
      have hd4h := hidH (hdep 4 (by simp))
      have hd8h := hidH (hdep 8 (by simp))
      obtain ⟨x, rfl, p0, p1⟩ := h11 (hdep 11 (by simp))
      obtain ⟨k, rfl, hk⟩ := h12 (hdep 12 (by simp))
      refine wpOp_lit ho (fun j b h => by cases h) ?_
      clear hops hdep ho
      replace h0 := hidH h0
      replace h1 := hidH h1
      replace h2 := hidH h2
      replace h3 := hidH h3
      replace h4 := hidH h4
      replace h5 := hidH h5
      replace h6 := hidH h6
      replace h7 := hidH h7
      replace h8 := hidH h8
      replace h9 := hidH h9
      replace h10 := hidH h10
      replace h11 := hidH h11
      replace h12 := hidH h12
      have hd4 := hd4h.out
      have hd8 := hd8h.out
      have hB2 := hB
      obtain ⟨b, bl, by_, oB⟩ := hB2
      have cc := (oB.2.2.2 k (by omega)).1
      have ff := (oB.2.2.2 k (by omega)).2
      have o2 := oB.set k x (by omega)
      have b2 : Bytes (b.set k x) := fun y hy => by
        rcases List.mem_or_eq_of_mem_set hy with h1 | h1
        · exact by_ y h1
        · rw [h1]; exact ⟨p0, p1⟩
      have l2 : (b.set k x).length = N := by rw [List.length_set]; exact bl
      have O2 := hidH o2
      have F := hidH (hA.setFar (p := ⟨bb, k, none⟩) (by have := oB.1; simp; omega) (.int .u8 x))
      have G := hidH (bst hO (show ws.heap.size ≤ (⟨bb, k, none⟩ : Addr).block from by have := oB.1; simp; omega) (.int .u8 x))
      have S2 := hidH (hS)
      go_wp2
      exact (HJ.out _ _ _).2 ⟨_, _, _, _, _, _, _, _, _, _, _, _, _, rfl, fun _ => hd4, (fun h => by have h2 : dn 8 = false := h; rw [hd8] at h2; cases h2), ⟨_, l2, b2, O2.out⟩, F.out, G.out, h0.out, h1.out, h2.out, h3.out, h4.out, h5.out, h6.out, h7.out, h8.out, h9.out, h10.out, fun _ => ⟨x, rfl, p0, p1⟩, fun _ => ⟨k, rfl, hk⟩⟩
    | n + 14, h => omega
  case fin =>
    clear hops hdeps hback
    rintro dn ac W hJ hall
    obtain ⟨t20, t21, t22, t23, t24, t25, t26, t27, t28, t29, t30, t31, t32, rfl, hD, hS, hB, hA, hO, h0, h1, h2, h3, h4, h5, h6, h7, h8, h9, h10, h11, h12⟩ := (HJ.out _ _ _).1 hJ
    exact fin _ _ _ _ _ _ _ _ _ _ _ _ _ W hB hA hO
end Go.Proofs.Ytanffpmpknmldaa
