/- The regions of DrawReadPacket that draw their order. -/
import Derived.Test.YtepcikghhnfacaaDoorJb3
import Derived.Test.YtepcikghhnfacaaDoorJa6
import Derived.Test.YtepcikghhnfacaaDoorJa8
namespace Go.Proofs.YtepcikghhnfacaaDoor
open Go.RowKit Go.Deep

set_option maxRecDepth 100000 in
set_option maxHeartbeats 1000000 in
theorem regDr {Q : Exit → Act → World → Prop} (x0 x1 x2 x4 x6 x7 x8 x9 x10 x11 x12 x13 x14 x15 x16 x17 x18 x19 : Value) (ws : World) (r d off B C B0 c : Nat) (D : List Int) (A : Option Addr) (l : List Int) (ca at_ : Nat)
    (hD : Bytes D) (hp0 : 0 < D.length) (hlen : (D.length : Int) ≤ 1000) (hrB : r + 1 ≤ B) (hrd : r < d) (hBr : B0 ≤ r) (hBd : B0 ≤ d) (hat : (at_ : Int) ≤ 500000000) {ops : Array Oper}
    (hops : (ops.map fun o => (o.op, o.dst, o.guard)) = #[(Op.move (Operand.tmp 5), some 20, none), (Op.move (Operand.tmp 3), some 21, none), (Op.move (Operand.tmp 5), some 22, none), (Op.call { callee := Callee.builtin Builtin.len, args := #[(Operand.tmp 22)], argTypes := #[22] }, some 23, none), (Op.call { callee := Callee.value (Operand.func 32), args := #[(Operand.tmp 21), (Operand.tmp 23)], argTypes := #[44, 2] }, some 24, none), (Op.indexAddr 22 (Operand.tmp 20) (Operand.tmp 24), some 25, none), (Op.load 5 (Operand.tmp 25), some 26, none), (Op.move (Operand.tmp 3), some 27, none), (Op.call { callee := Callee.value (Operand.func 32), args := #[(Operand.tmp 27), (Operand.const (Value.int .i64 255))], argTypes := #[44, 2] }, some 28, none), (Op.binOp BinOp.add 2 ((Operand.const (Value.int .i64 1))) (Operand.tmp 28) 2, some 29, none), (Op.convert 2 5 (Operand.tmp 29), some 30, none), (Op.binOp BinOp.xor 5 (Operand.tmp 26) (Operand.tmp 30) 5, some 31, none), (Op.indexAddr 22 (Operand.tmp 20) (Operand.tmp 24), some 32, none), (Op.store 5 (Operand.tmp 32) (Operand.tmp 31), none, none)])
    (hdeps : ((List.range 14).all fun i => ((fun i => [[], [], [], [2], [1, 3], [0, 4], [5], [], [7], [8], [9], [6, 10], [0, 4], [11, 12]].getD i []) i).all fun j => ((ops[i]?).map fun o => o.after.any fun e => Region.binds .any e && e.on == j).getD false) = true)
    (hback : ((List.range 14).all fun i => ((ops[i]?).map fun o => o.after.all fun e => decide (e.on < i)).getD false) = true)
    {a0 : Act} {w0 : World} (ha : a0 = { tmps := #[x0, x1, x2, .pointer (some ⟨r, 0, none⟩), x4, .slice (some ⟨d, off, none⟩) D.length c, x6, x7, x8, x9, x10, x11, x12, x13, x14, x15, x16, x17, x18, x19, undef, undef, undef, undef, undef, undef, undef, undef, undef, undef, undef, undef, undef, undef, undef, undef, undef, undef, undef, undef, undef, undef, undef, undef, undef, undef, undef, undef, undef, undef, undef, undef, undef, undef, undef, undef, undef, undef, undef, undef, undef, undef, undef, undef, undef, undef, undef, undef, undef, undef, undef, undef, undef, undef, undef, undef, undef, undef, undef, undef, undef, undef, undef, undef, undef, undef, undef, undef, undef, undef], defers := [] }) (hE : (false = true → false = true) ∧ (false = true → false = true)) (hE6 : false = true → false = true) (hE12 : false = true → false = true) (hE11 : (false = true → false = true)) (hE116 : (false = true → false = true)) (hE10 : (false = true → false = true)) (hE9 : (false = true → false = true)) (hO : false = false → Ob B C w0 (some ⟨d, off, none⟩) D) (hRE : SrcLe w0 r A l ca (at_ + (false).toNat + (false).toNat)) (hW : Below B0 ws w0)
    (fin : ∀ t20 t21 t22 t23 t24 t25 t26 t27 t28 t29 t30 t31 t32 (W : World), (Below B0 ws W) → (∃ D2 : List Int, D2.length = D.length ∧ Bytes D2 ∧ Ob B C W (some ⟨d, off, none⟩) D2) → Q .normal { tmps := #[x0, x1, x2, .pointer (some ⟨r, 0, none⟩), x4, .slice (some ⟨d, off, none⟩) D.length c, x6, x7, x8, x9, x10, x11, x12, x13, x14, x15, x16, x17, x18, x19, t20, t21, t22, t23, t24, t25, t26, t27, t28, t29, t30, t31, t32, undef, undef, undef, undef, undef, undef, undef, undef, undef, undef, undef, undef, undef, undef, undef, undef, undef, undef, undef, undef, undef, undef, undef, undef, undef, undef, undef, undef, undef, undef, undef, undef, undef, undef, undef, undef, undef, undef, undef, undef, undef, undef, undef, undef, undef, undef, undef, undef, undef, undef, undef, undef, undef, undef, undef, undef, undef], defers := [] } W) :
    wpAny Tryd.prog .any ops Q ops.size (Array.replicate ops.size false) a0 w0 := by
  have hn : ops.size = 14 := by have := congrArg Array.size hops; simpa using this
  obtain ⟨J, HJ⟩ : ∃ J : (Nat → Bool) → Act → World → Prop, ∀ dn ac W, J dn ac W ↔ (fun dn ac W => ∃ t20 t21 t22 t23 t24 t25 t26 t27 t28 t29 t30 t31 t32, ac = { tmps := #[x0, x1, x2, .pointer (some ⟨r, 0, none⟩), x4, .slice (some ⟨d, off, none⟩) D.length c, x6, x7, x8, x9, x10, x11, x12, x13, x14, x15, x16, x17, x18, x19, t20, t21, t22, t23, t24, t25, t26, t27, t28, t29, t30, t31, t32, undef, undef, undef, undef, undef, undef, undef, undef, undef, undef, undef, undef, undef, undef, undef, undef, undef, undef, undef, undef, undef, undef, undef, undef, undef, undef, undef, undef, undef, undef, undef, undef, undef, undef, undef, undef, undef, undef, undef, undef, undef, undef, undef, undef, undef, undef, undef, undef, undef, undef, undef, undef, undef, undef, undef, undef, undef], defers := [] } ∧ ((dn 13 = true → dn 8 = true) ∧ (dn 13 = true → dn 4 = true)) ∧ (dn 13 = true → dn 6 = true) ∧ (dn 12 = true → dn 4 = true) ∧ ((dn 11 = true → dn 8 = true)) ∧ ((dn 11 = true → dn 6 = true)) ∧ ((dn 10 = true → dn 8 = true)) ∧ ((dn 9 = true → dn 8 = true)) ∧ (dn 13 = false → Ob B C W (some ⟨d, off, none⟩) D) ∧ (SrcLe W r A l ca (at_ + (dn 4).toNat + (dn 8).toNat)) ∧ (Below B0 ws W) ∧ (dn 0 = true → t20 = .slice (some ⟨d, off, none⟩) D.length c) ∧ (dn 1 = true → t21 = .pointer (some ⟨r, 0, none⟩)) ∧ (dn 2 = true → t22 = .slice (some ⟨d, off, none⟩) D.length c) ∧ (dn 3 = true → t23 = .int .i64 (D.length : Int)) ∧ (dn 4 = true → ∃ m : Nat, t24 = .int .i64 (m : Int) ∧ m < D.length) ∧ (dn 5 = true → ∃ k : Nat, t25 = .pointer (some ⟨d, off + k, none⟩) ∧ k < D.length) ∧ (dn 6 = true → ∃ x : Int, t26 = .int .u8 x ∧ 0 ≤ x ∧ x ≤ 255) ∧ (dn 7 = true → t27 = .pointer (some ⟨r, 0, none⟩)) ∧ (dn 8 = true → ∃ m : Nat, t28 = .int .i64 (m : Int) ∧ m < 255) ∧ (dn 9 = true → ∃ x : Int, t29 = .int .i64 x ∧ 0 ≤ x ∧ x ≤ 255) ∧ (dn 10 = true → ∃ x : Int, t30 = .int .u8 x ∧ 0 ≤ x ∧ x ≤ 255) ∧ (dn 11 = true → ∃ x : Int, t31 = .int .u8 x ∧ 0 ≤ x ∧ x ≤ 255) ∧ (dn 12 = true → ∃ k : Nat, t32 = .pointer (some ⟨d, off + k, none⟩) ∧ k < D.length) ∧ (dn 13 = true → ∃ D2 : List Int, D2.length = D.length ∧ Bytes D2 ∧ Ob B C W (some ⟨d, off, none⟩) D2)) dn ac W := ⟨_, fun _ _ _ => Iff.rfl⟩
  replace HJ := hidH HJ
  refine region_inv 14 (fun i => [[], [], [], [2], [1, 3], [0, 4], [5], [], [7], [8], [9], [6, 10], [0, 4], [11, 12]].getD i []) J hn hdeps hback ?start ?step ?fin
  case start => exact (HJ.out _ _ _).2 ⟨undef, undef, undef, undef, undef, undef, undef, undef, undef, undef, undef, undef, undef, ha, hE, hE6, hE12, hE11, hE116, hE10, hE9, hO, hRE, hW, fun h => by simp at h, fun h => by simp at h, fun h => by simp at h, fun h => by simp at h, fun h => by simp at h, fun h => by simp at h, fun h => by simp at h, fun h => by simp at h, fun h => by simp at h, fun h => by simp at h, fun h => by simp at h, fun h => by simp at h, fun h => by simp at h, fun h => by simp at h⟩
  all_goals clear ha hE hE6 hE12 hE11 hE116 hE10 hE9 hO hRE hW
  case step =>
    clear fin hdeps hback
    intro i hi dn ac W hJ hdn hdep
    obtain ⟨t20, t21, t22, t23, t24, t25, t26, t27, t28, t29, t30, t31, t32, rfl, hE, hE6, hE12, hE11, hE116, hE10, hE9, hO, hRE, hW, h0, h1, h2, h3, h4, h5, h6, h7, h8, h9, h10, h11, h12, h13⟩ := (HJ.out _ _ _).1 hJ
    clear hJ
    match i, hi with
    | 0, _ =>
      obtain ⟨ty, ps, af, ho⟩ := op_lit hops (i := 0) (op := Op.move (Operand.tmp 5)) (dst := some 20) (g := none) rfl
      refine wpOp_lit ho (fun j b h => by cases h) ?_
      clear hops hdep ho
      replace h1 := hidH h1
      replace h2 := hidH h2
      replace h3 := hidH h3
      replace h4 := hidH h4
      replace h5 := hidH h5
      replace h6 := hidH h6
      replace h7 := hidH h7
      replace h8 := hidH h8
      replace h9 := hidH h9
      replace h10 := hidH h10
      replace h11 := hidH h11
      replace h12 := hidH h12
      replace h13 := hidH h13
      go_wp2
      exact (HJ.out _ _ _).2 ⟨_, _, _, _, _, _, _, _, _, _, _, _, _, rfl, hE, hE6, hE12, hE11, hE116, hE10, hE9, hO, hRE, hW, fun _ => rfl, h1.out, h2.out, h3.out, h4.out, h5.out, h6.out, h7.out, h8.out, h9.out, h10.out, h11.out, h12.out, h13.out⟩
    | 1, _ =>
      obtain ⟨ty, ps, af, ho⟩ := op_lit hops (i := 1) (op := Op.move (Operand.tmp 3)) (dst := some 21) (g := none) rfl
      refine wpOp_lit ho (fun j b h => by cases h) ?_
      clear hops hdep ho
      replace h0 := hidH h0
      replace h2 := hidH h2
      replace h3 := hidH h3
      replace h4 := hidH h4
      replace h5 := hidH h5
      replace h6 := hidH h6
      replace h7 := hidH h7
      replace h8 := hidH h8
      replace h9 := hidH h9
      replace h10 := hidH h10
      replace h11 := hidH h11
      replace h12 := hidH h12
      replace h13 := hidH h13
      go_wp2
      exact (HJ.out _ _ _).2 ⟨_, _, _, _, _, _, _, _, _, _, _, _, _, rfl, hE, hE6, hE12, hE11, hE116, hE10, hE9, hO, hRE, hW, h0.out, fun _ => rfl, h2.out, h3.out, h4.out, h5.out, h6.out, h7.out, h8.out, h9.out, h10.out, h11.out, h12.out, h13.out⟩
    | 2, _ =>
      obtain ⟨ty, ps, af, ho⟩ := op_lit hops (i := 2) (op := Op.move (Operand.tmp 5)) (dst := some 22) (g := none) rfl
      refine wpOp_lit ho (fun j b h => by cases h) ?_
      clear hops hdep ho
      replace h0 := hidH h0
      replace h1 := hidH h1
      replace h3 := hidH h3
      replace h4 := hidH h4
      replace h5 := hidH h5
      replace h6 := hidH h6
      replace h7 := hidH h7
      replace h8 := hidH h8
      replace h9 := hidH h9
      replace h10 := hidH h10
      replace h11 := hidH h11
      replace h12 := hidH h12
      replace h13 := hidH h13
      go_wp2
      exact (HJ.out _ _ _).2 ⟨_, _, _, _, _, _, _, _, _, _, _, _, _, rfl, hE, hE6, hE12, hE11, hE116, hE10, hE9, hO, hRE, hW, h0.out, h1.out, fun _ => rfl, h3.out, h4.out, h5.out, h6.out, h7.out, h8.out, h9.out, h10.out, h11.out, h12.out, h13.out⟩
    | 3, _ =>
      obtain ⟨ty, ps, af, ho⟩ := op_lit hops (i := 3) (op := Op.call { callee := Callee.builtin Builtin.len, args := #[(Operand.tmp 22)], argTypes := #[22] }) (dst := some 23) (g := none) rfl
      obtain rfl := h2 (hdep 2 (by simp))
      refine wpOp_lit ho (fun j b h => by cases h) ?_
      clear hops hdep ho
      replace h0 := hidH h0
      replace h1 := hidH h1
      replace h2 := hidH h2
      replace h4 := hidH h4
      replace h5 := hidH h5
      replace h6 := hidH h6
      replace h7 := hidH h7
      replace h8 := hidH h8
      replace h9 := hidH h9
      replace h10 := hidH h10
      replace h11 := hidH h11
      replace h12 := hidH h12
      replace h13 := hidH h13
      go_wp2
      exact (HJ.out _ _ _).2 ⟨_, _, _, _, _, _, _, _, _, _, _, _, _, rfl, hE, hE6, hE12, hE11, hE116, hE10, hE9, hO, hRE, hW, h0.out, h1.out, fun _ => rfl, fun _ => rfl, h4.out, h5.out, h6.out, h7.out, h8.out, h9.out, h10.out, h11.out, h12.out, h13.out⟩
    | 4, _ =>
      obtain ⟨ty, ps, af, ho⟩ := op_lit hops (i := 4) (op := Op.call { callee := Callee.value (Operand.func 32), args := #[(Operand.tmp 21), (Operand.tmp 23)], argTypes := #[44, 2] }) (dst := some 24) (g := none) rfl
      obtain rfl := h1 (hdep 1 (by simp))
      obtain rfl := h3 (hdep 3 (by simp))
      refine wpOp_lit ho (fun j b h => by cases h) ?_
      clear hops hdep ho
      replace h0 := hidH h0
      replace h1 := hidH h1
      replace h2 := hidH h2
      replace h3 := hidH h3
      replace h5 := hidH h5
      replace h6 := hidH h6
      replace h7 := hidH h7
      replace h8 := hidH h8
      replace h9 := hidH h9
      replace h10 := hidH h10
      replace h11 := hidH h11
      replace h12 := hidH h12
      replace h13 := hidH h13
      obtain ⟨a0, S0, ha0⟩ := hRE
      have hb4 : (dn 4).toNat = 0 := by rw [hdn]; rfl
      have hb8 : (dn 8).toNat ≤ 1 := Bool.toNat_le _
      go_wp2_with fail
      refine (next_any r A l ca a0 (D.length : Int) _ S0 (by omega)).mono ?_
      rintro e w1 ⟨v, rfl, v0, v1, S1, hw, -⟩
      obtain ⟨m, rfl⟩ : ∃ m : Nat, v = m := ⟨v.toNat, by omega⟩
      have hm : Hid (m < D.length) := hidH (by omega)
      have R3 := hidH (show SrcLe w1 r A l ca (at_ + 1 + (dn 8).toNat) from ⟨_, S1, by omega⟩)
      have hr0 := hidH S0.lt
      clear v0 v1 S0 S1 ha0
      go_wp2
      exact (HJ.out _ _ _).2 ⟨_, _, _, _, _, _, _, _, _, _, _, _, _, rfl, ⟨hE.1, (fun _ => rfl)⟩, hE6, (fun _ => rfl), hE11, hE116, hE10, hE9, (fun h => (hO h).win hw (.inr hrB)), R3.out, hW.trans ((hw.below (Nat.le_of_lt hr0.out)).mono hBr), h0.out, fun _ => rfl, h2.out, fun _ => rfl, fun _ => ⟨m, rfl, hm.out⟩, h5.out, h6.out, h7.out, h8.out, h9.out, h10.out, h11.out, h12.out, (fun h => by have h3 : dn 4 = true := hE.2 h; rw [hdn] at h3; cases h3)⟩
    | 5, _ =>
      obtain ⟨ty, ps, af, ho⟩ := op_lit hops (i := 5) (op := Op.indexAddr 22 (Operand.tmp 20) (Operand.tmp 24)) (dst := some 25) (g := none) rfl
      obtain ⟨k, rfl, hk⟩ := h4 (hdep 4 (by simp))
      have hk9 := hidH hk
      have hkI : (k : Int) < (D.length : Int) := by omega
      have hk0 : (0 : Int) ≤ (k : Int) := by omega
      clear hk
      obtain rfl := h0 (hdep 0 (by simp))
      refine wpOp_lit ho (fun j b h => by cases h) ?_
      clear hops hdep ho
      replace h0 := hidH h0
      replace h1 := hidH h1
      replace h2 := hidH h2
      replace h3 := hidH h3
      replace h4 := hidH h4
      replace h6 := hidH h6
      replace h7 := hidH h7
      replace h8 := hidH h8
      replace h9 := hidH h9
      replace h10 := hidH h10
      replace h11 := hidH h11
      replace h12 := hidH h12
      replace h13 := hidH h13
      go_wp2
      exact (HJ.out _ _ _).2 ⟨_, _, _, _, _, _, _, _, _, _, _, _, _, rfl, hE, hE6, hE12, hE11, hE116, hE10, hE9, hO, hRE, hW, fun _ => rfl, h1.out, h2.out, h3.out, h4.out, fun _ => ⟨k, rfl, hk9.out⟩, h6.out, h7.out, h8.out, h9.out, h10.out, h11.out, h12.out, h13.out⟩
    | 6, _ =>
      obtain ⟨ty, ps, af, ho⟩ := op_lit hops (i := 6) (op := Op.load 5 (Operand.tmp 25)) (dst := some 26) (g := none) rfl
      have hkf : dn 13 = false := by
        rcases hq : dn 13 with _ | _
        · rfl
        · have h3 : dn 6 = true := hE6 hq
          rw [hdn] at h3; cases h3
      obtain ⟨k, rfl, hk⟩ := h5 (hdep 5 (by simp))
      refine wpOp_lit ho (fun j b h => by cases h) ?_
      clear hops hdep ho
      replace h0 := hidH h0
      replace h1 := hidH h1
      replace h2 := hidH h2
      replace h3 := hidH h3
      replace h4 := hidH h4
      replace h5 := hidH h5
      replace h7 := hidH h7
      replace h8 := hidH h8
      replace h9 := hidH h9
      replace h10 := hidH h10
      replace h11 := hidH h11
      replace h12 := hidH h12
      replace h13 := hidH h13
      obtain ⟨b9, o9, q9, hB9, hC9, hw9, hc9⟩ := (hO hkf).resolve_left (fun e => by rw [e] at hk; simp at hk)
      simp only [Option.some.injEq, Addr.mk.injEq, and_true] at q9
      obtain ⟨rfl, rfl⟩ := q9
      have q0 := (hc9 k hk).1
      have q1 := hD.get k
      obtain ⟨x, hx⟩ : ∃ x, D.getD k 0 = x := ⟨_, rfl⟩
      rw [hx] at q0 q1
      clear hx hc9 hk
      go_wp2
      exact (HJ.out _ _ _).2 ⟨_, _, _, _, _, _, _, _, _, _, _, _, _, rfl, hE, (fun _ => rfl), hE12, hE11, (fun _ => rfl), hE10, hE9, hO, hRE, hW, h0.out, h1.out, h2.out, h3.out, h4.out, h5.out, fun _ => ⟨_, rfl, q1.1, q1.2⟩, h7.out, h8.out, h9.out, h10.out, h11.out, h12.out, h13.out⟩
    | 7, _ =>
      obtain ⟨ty, ps, af, ho⟩ := op_lit hops (i := 7) (op := Op.move (Operand.tmp 3)) (dst := some 27) (g := none) rfl
      refine wpOp_lit ho (fun j b h => by cases h) ?_
      clear hops hdep ho
      replace h0 := hidH h0
      replace h1 := hidH h1
      replace h2 := hidH h2
      replace h3 := hidH h3
      replace h4 := hidH h4
      replace h5 := hidH h5
      replace h6 := hidH h6
      replace h8 := hidH h8
      replace h9 := hidH h9
      replace h10 := hidH h10
      replace h11 := hidH h11
      replace h12 := hidH h12
      replace h13 := hidH h13
      go_wp2
      exact (HJ.out _ _ _).2 ⟨_, _, _, _, _, _, _, _, _, _, _, _, _, rfl, hE, hE6, hE12, hE11, hE116, hE10, hE9, hO, hRE, hW, h0.out, h1.out, h2.out, h3.out, h4.out, h5.out, h6.out, fun _ => rfl, h8.out, h9.out, h10.out, h11.out, h12.out, h13.out⟩
    | 8, _ =>
      obtain ⟨ty, ps, af, ho⟩ := op_lit hops (i := 8) (op := Op.call { callee := Callee.value (Operand.func 32), args := #[(Operand.tmp 27), (Operand.const (Value.int .i64 255))], argTypes := #[44, 2] }) (dst := some 28) (g := none) rfl
      obtain rfl := h7 (hdep 7 (by simp))
      refine wpOp_lit ho (fun j b h => by cases h) ?_
      clear hops hdep ho
      replace h0 := hidH h0
      replace h1 := hidH h1
      replace h2 := hidH h2
      replace h3 := hidH h3
      replace h4 := hidH h4
      replace h5 := hidH h5
      replace h6 := hidH h6
      replace h7 := hidH h7
      replace h9 := hidH h9
      replace h10 := hidH h10
      replace h11 := hidH h11
      replace h12 := hidH h12
      replace h13 := hidH h13
      obtain ⟨a0, S0, ha0⟩ := hRE
      have hb4 : (dn 4).toNat ≤ 1 := Bool.toNat_le _
      have hb8 : (dn 8).toNat = 0 := by rw [hdn]; rfl
      go_wp2_with fail
      refine (next_any r A l ca a0 255 _ S0 (by omega)).mono ?_
      rintro e w1 ⟨v, rfl, v0, v1, S1, hw, -⟩
      obtain ⟨m, rfl⟩ : ∃ m : Nat, v = m := ⟨v.toNat, by omega⟩
      have hm : Hid (m < 255) := hidH (by omega)
      have R3 := hidH (show SrcLe w1 r A l ca (at_ + (dn 4).toNat + 1) from ⟨_, S1, by omega⟩)
      have hr0 := hidH S0.lt
      clear v0 v1 S0 S1 ha0
      go_wp2
      exact (HJ.out _ _ _).2 ⟨_, _, _, _, _, _, _, _, _, _, _, _, _, rfl, ⟨(fun _ => rfl), hE.2⟩, hE6, hE12, (fun _ => rfl), hE116, (fun _ => rfl), (fun _ => rfl), (fun h => (hO h).win hw (.inr hrB)), R3.out, hW.trans ((hw.below (Nat.le_of_lt hr0.out)).mono hBr), h0.out, h1.out, h2.out, h3.out, h4.out, h5.out, h6.out, fun _ => rfl, fun _ => ⟨m, rfl, hm.out⟩, h9.out, h10.out, h11.out, h12.out, (fun h => by have h3 : dn 8 = true := hE.1 h; rw [hdn] at h3; cases h3)⟩
    | 9, _ =>
      obtain ⟨ty, ps, af, ho⟩ := op_lit hops (i := 9) (op := Op.binOp BinOp.add 2 ((Operand.const (Value.int .i64 1))) (Operand.tmp 28) 2) (dst := some 29) (g := none) rfl
      have hd8 := hidH (hdep 8 (by simp))
      obtain ⟨m, rfl, hm⟩ := h8 (hdep 8 (by simp))
      have hmI : (m : Int) < 255 := by omega
      have hm0 : (0 : Int) ≤ (m : Int) := by omega
      clear hm
      refine wpOp_lit ho (fun j b h => by cases h) ?_
      clear hops hdep ho
      replace h0 := hidH h0
      replace h1 := hidH h1
      replace h2 := hidH h2
      replace h3 := hidH h3
      replace h4 := hidH h4
      replace h5 := hidH h5
      replace h6 := hidH h6
      replace h7 := hidH h7
      replace h8 := hidH h8
      replace h10 := hidH h10
      replace h11 := hidH h11
      replace h12 := hidH h12
      replace h13 := hidH h13
      go_wp2
      exact (HJ.out _ _ _).2 ⟨_, _, _, _, _, _, _, _, _, _, _, _, _, rfl, hE, hE6, hE12, hE11, hE116, hE10, (fun _ => hd8.out), hO, hRE, hW, h0.out, h1.out, h2.out, h3.out, h4.out, h5.out, h6.out, h7.out, h8.out, fun _ => ⟨_, rfl, by omega, by omega⟩, h10.out, h11.out, h12.out, h13.out⟩
    | 10, _ =>
      obtain ⟨ty, ps, af, ho⟩ := op_lit hops (i := 10) (op := Op.convert 2 5 (Operand.tmp 29)) (dst := some 30) (g := none) rfl
      have hd8 := hidH (hE9 (hdep 9 (by simp)))
      obtain ⟨x, rfl, xa, xb⟩ := h9 (hdep 9 (by simp))
      refine wpOp_lit ho (fun j b h => by cases h) ?_
      clear hops hdep ho
      replace h0 := hidH h0
      replace h1 := hidH h1
      replace h2 := hidH h2
      replace h3 := hidH h3
      replace h4 := hidH h4
      replace h5 := hidH h5
      replace h6 := hidH h6
      replace h7 := hidH h7
      replace h8 := hidH h8
      replace h9 := hidH h9
      replace h11 := hidH h11
      replace h12 := hidH h12
      replace h13 := hidH h13
      go_wp2
      exact (HJ.out _ _ _).2 ⟨_, _, _, _, _, _, _, _, _, _, _, _, _, rfl, hE, hE6, hE12, hE11, hE116, (fun _ => hd8.out), hE9, hO, hRE, hW, h0.out, h1.out, h2.out, h3.out, h4.out, h5.out, h6.out, h7.out, h8.out, h9.out, fun _ => ⟨_, rfl, xa, xb⟩, h11.out, h12.out, h13.out⟩
    | 11, _ =>
      obtain ⟨ty, ps, af, ho⟩ := op_lit hops (i := 11) (op := Op.binOp BinOp.xor 5 (Operand.tmp 26) (Operand.tmp 30) 5) (dst := some 31) (g := none) rfl
      have hd6 := hidH (hdep 6 (by simp))
      have hd8 := hidH (hE10 (hdep 10 (by simp)))
      obtain ⟨x, rfl, xa, xb⟩ := h6 (hdep 6 (by simp))
      obtain ⟨y, rfl, ya, yb⟩ := h10 (hdep 10 (by simp))
      refine wpOp_lit ho (fun j b h => by cases h) ?_
      clear hops hdep ho
      replace h0 := hidH h0
      replace h1 := hidH h1
      replace h2 := hidH h2
      replace h3 := hidH h3
      replace h4 := hidH h4
      replace h5 := hidH h5
      replace h6 := hidH h6
      replace h7 := hidH h7
      replace h8 := hidH h8
      replace h9 := hidH h9
      replace h10 := hidH h10
      replace h12 := hidH h12
      replace h13 := hidH h13
      have hx := hidH (show 0 ≤ bits .xor .u8 x y ∧ bits .xor .u8 x y ≤ 255 by rw [u8_xor x y xa xb ya yb]; have h8 := byteX_byte (m := y.toNat) (x := x) (by omega) xa xb; exact ⟨h8.1, h8.2⟩)
      go_wp2
      exact (HJ.out _ _ _).2 ⟨_, _, _, _, _, _, _, _, _, _, _, _, _, rfl, hE, hE6, hE12, (fun _ => hd8.out), (fun _ => hd6.out), hE10, hE9, hO, hRE, hW, h0.out, h1.out, h2.out, h3.out, h4.out, h5.out, h6.out, h7.out, h8.out, h9.out, h10.out, fun _ => ⟨_, rfl, hx.out.1, hx.out.2⟩, h12.out, h13.out⟩
    | 12, _ =>
      obtain ⟨ty, ps, af, ho⟩ := op_lit hops (i := 12) (op := Op.indexAddr 22 (Operand.tmp 20) (Operand.tmp 24)) (dst := some 32) (g := none) rfl
      have hd4 := hidH (hdep 4 (by simp))
      obtain ⟨k, rfl, hk⟩ := h4 (hdep 4 (by simp))
      have hk9 := hidH hk
      have hkI : (k : Int) < (D.length : Int) := by omega
      have hk0 : (0 : Int) ≤ (k : Int) := by omega
      clear hk
      obtain rfl := h0 (hdep 0 (by simp))
      refine wpOp_lit ho (fun j b h => by cases h) ?_
      clear hops hdep ho
      replace h0 := hidH h0
      replace h1 := hidH h1
      replace h2 := hidH h2
      replace h3 := hidH h3
      replace h4 := hidH h4
      replace h5 := hidH h5
      replace h6 := hidH h6
      replace h7 := hidH h7
      replace h8 := hidH h8
      replace h9 := hidH h9
      replace h10 := hidH h10
      replace h11 := hidH h11
      replace h13 := hidH h13
      go_wp2
      exact (HJ.out _ _ _).2 ⟨_, _, _, _, _, _, _, _, _, _, _, _, _, rfl, hE, hE6, (fun _ => hd4.out), hE11, hE116, hE10, hE9, hO, hRE, hW, fun _ => rfl, h1.out, h2.out, h3.out, h4.out, h5.out, h6.out, h7.out, h8.out, h9.out, h10.out, h11.out, fun _ => ⟨k, rfl, hk9.out⟩, h13.out⟩
    | 13, _ =>
      obtain ⟨ty, ps, af, ho⟩ := op_lit hops (i := 13) (op := Op.store 5 (Operand.tmp 32) (Operand.tmp 31)) (dst := none) (g := none) rfl
      have hd6 := hidH (hE116 (hdep 11 (by simp)))
      obtain ⟨k, rfl, hk⟩ := h12 (hdep 12 (by simp))
      obtain ⟨x, rfl, xc, xd⟩ := h11 (hdep 11 (by simp))
      have hd4 := hidH (hE12 (hdep 12 (by simp)))
      have hd8 := hidH (hE11 (hdep 11 (by simp)))
      refine wpOp_lit ho (fun j b h => by cases h) ?_
      clear hops hdep ho
      replace h0 := hidH h0
      replace h1 := hidH h1
      replace h2 := hidH h2
      replace h3 := hidH h3
      replace h4 := hidH h4
      replace h5 := hidH h5
      replace h6 := hidH h6
      replace h7 := hidH h7
      replace h8 := hidH h8
      replace h9 := hidH h9
      replace h10 := hidH h10
      replace h11 := hidH h11
      replace h12 := hidH h12
      obtain ⟨b9, o9, q9, hB9, hC9, hw9, hc9⟩ := (hO hdn).resolve_left (fun e => by rw [e] at hk; simp at hk)
      simp only [Option.some.injEq, Addr.mk.injEq, and_true] at q9
      obtain ⟨rfl, rfl⟩ := q9
      have q0 := (hc9 k hk).1
      have f0 := (hc9 k hk).2
      obtain ⟨y, hy⟩ : ∃ y, D.getD k 0 = y := ⟨_, rfl⟩
      rw [hy] at q0
      clear hy
      have KX := hidH (show ∃ D2 : List Int, D2.length = D.length ∧ Bytes D2 ∧ Ob B C (W.setCell ⟨d, off + k, none⟩ (.int .u8 x)) (some ⟨d, off, none⟩) D2 from ⟨D.set k x, List.length_set, (fun z hz => (List.mem_or_eq_of_mem_set hz).elim (hD z) (fun e => by subst e; exact ⟨xc, xd⟩)), ob_set x hB9 hC9 hw9 hk hc9⟩)
      clear hc9
      have hk9 := hidH hk
      clear hk
      go_wp2
      exact (HJ.out _ _ _).2 ⟨_, _, _, _, _, _, _, _, _, _, _, _, _, rfl, ⟨(fun _ => hd8.out), (fun _ => hd4.out)⟩, (fun _ => hd6.out), hE12, hE11, hE116, hE10, hE9, (fun h2 => by simp at h2), hRE.far (p := ⟨d, off + k, none⟩) hrd _, hW.setCell (p := ⟨d, off + k, none⟩) hBd _, h0.out, h1.out, h2.out, h3.out, h4.out, h5.out, h6.out, h7.out, h8.out, h9.out, h10.out, h11.out, h12.out, fun _ => KX.out⟩
    | n + 14, h => omega
  case fin =>
    clear hops hdeps hback
    rintro dn ac W hJ hall
    obtain ⟨t20, t21, t22, t23, t24, t25, t26, t27, t28, t29, t30, t31, t32, rfl, hE, hE6, hE12, hE11, hE116, hE10, hE9, hO, hRE, hW, h0, h1, h2, h3, h4, h5, h6, h7, h8, h9, h10, h11, h12, h13⟩ := (HJ.out _ _ _).1 hJ
    exact fin _ _ _ _ _ _ _ _ _ _ _ _ _ W hW (h13 (hall 13 (by omega)))
set_option maxRecDepth 100000 in
set_option maxHeartbeats 1000000 in
theorem regDs {Q : Exit → Act → World → Prop} (x0 x1 x2 x4 x7 x8 x9 x10 x11 x12 x13 x14 x15 x16 x17 x18 x19 x20 x21 x22 x23 x24 x25 x26 x27 x28 x29 x30 x31 x32 x33 x34 x35 x36 x37 x38 x39 x40 : Value) (ws : World) (r d off B C B0 c k : Nat) (D : List Int) (A : Option Addr) (l : List Int) (ca at_ : Nat)
    (hD : Bytes D) (hkD : k < D.length) (_hlen : (D.length : Int) ≤ 1000) (hrB : r + 1 ≤ B) (hrd : r < d) (hBr : B0 ≤ r) (hBd : B0 ≤ d) (hat : (at_ : Int) ≤ 500000000) {ops : Array Oper}
    (hops : (ops.map fun o => (o.op, o.dst, o.guard)) = #[(Op.move (Operand.tmp 5), some 41, none), (Op.move (Operand.tmp 6), some 42, none), (Op.indexAddr 22 (Operand.tmp 41) (Operand.tmp 42), some 43, none), (Op.load 5 (Operand.tmp 43), some 44, none), (Op.move (Operand.tmp 3), some 45, none), (Op.call { callee := Callee.value (Operand.func 32), args := #[(Operand.tmp 45), (Operand.const (Value.int .i64 255))], argTypes := #[44, 2] }, some 46, none), (Op.binOp BinOp.add 2 ((Operand.const (Value.int .i64 1))) (Operand.tmp 46) 2, some 47, none), (Op.convert 2 5 (Operand.tmp 47), some 48, none), (Op.binOp BinOp.xor 5 (Operand.tmp 44) (Operand.tmp 48) 5, some 49, none), (Op.indexAddr 22 (Operand.tmp 41) (Operand.tmp 42), some 50, none), (Op.store 5 (Operand.tmp 50) (Operand.tmp 49), none, none)])
    (hdeps : ((List.range 11).all fun i => ((fun i => [[], [], [0, 1], [2], [], [4], [5], [6], [3, 7], [0, 1], [8, 9]].getD i []) i).all fun j => ((ops[i]?).map fun o => o.after.any fun e => Region.binds .any e && e.on == j).getD false) = true)
    (hback : ((List.range 11).all fun i => ((ops[i]?).map fun o => o.after.all fun e => decide (e.on < i)).getD false) = true)
    {a0 : Act} {w0 : World} (ha : a0 = { tmps := #[x0, x1, x2, .pointer (some ⟨r, 0, none⟩), x4, .slice (some ⟨d, off, none⟩) D.length c, .int .i64 (k : Int), x7, x8, x9, x10, x11, x12, x13, x14, x15, x16, x17, x18, x19, x20, x21, x22, x23, x24, x25, x26, x27, x28, x29, x30, x31, x32, x33, x34, x35, x36, x37, x38, x39, x40, undef, undef, undef, undef, undef, undef, undef, undef, undef, undef, undef, undef, undef, undef, undef, undef, undef, undef, undef, undef, undef, undef, undef, undef, undef, undef, undef, undef, undef, undef, undef, undef, undef, undef, undef, undef, undef, undef, undef, undef, undef, undef, undef, undef, undef, undef, undef, undef, undef], defers := [] }) (hE : (false = true → false = true) ∧ (false = true → false = true)) (hE8 : (false = true → false = true) ∧ (false = true → false = true)) (hE7 : (false = true → false = true)) (hE6 : (false = true → false = true)) (hO : false = false → Ob B C w0 (some ⟨d, off, none⟩) D) (hRE : SrcLe w0 r A l ca (at_ + (false).toNat)) (hW : Below B0 ws w0)
    (fin : ∀ t41 t42 t43 t44 t45 t46 t47 t48 t49 t50 (W : World), (Below B0 ws W) → (∃ D2 : List Int, D2.length = D.length ∧ Bytes D2 ∧ Ob B C W (some ⟨d, off, none⟩) D2) → Q .normal { tmps := #[x0, x1, x2, .pointer (some ⟨r, 0, none⟩), x4, .slice (some ⟨d, off, none⟩) D.length c, .int .i64 (k : Int), x7, x8, x9, x10, x11, x12, x13, x14, x15, x16, x17, x18, x19, x20, x21, x22, x23, x24, x25, x26, x27, x28, x29, x30, x31, x32, x33, x34, x35, x36, x37, x38, x39, x40, t41, t42, t43, t44, t45, t46, t47, t48, t49, t50, undef, undef, undef, undef, undef, undef, undef, undef, undef, undef, undef, undef, undef, undef, undef, undef, undef, undef, undef, undef, undef, undef, undef, undef, undef, undef, undef, undef, undef, undef, undef, undef, undef, undef, undef, undef, undef, undef, undef], defers := [] } W) :
    wpAny Tryd.prog .any ops Q ops.size (Array.replicate ops.size false) a0 w0 := by
  have hn : ops.size = 11 := by have := congrArg Array.size hops; simpa using this
  obtain ⟨J, HJ⟩ : ∃ J : (Nat → Bool) → Act → World → Prop, ∀ dn ac W, J dn ac W ↔ (fun dn ac W => ∃ t41 t42 t43 t44 t45 t46 t47 t48 t49 t50, ac = { tmps := #[x0, x1, x2, .pointer (some ⟨r, 0, none⟩), x4, .slice (some ⟨d, off, none⟩) D.length c, .int .i64 (k : Int), x7, x8, x9, x10, x11, x12, x13, x14, x15, x16, x17, x18, x19, x20, x21, x22, x23, x24, x25, x26, x27, x28, x29, x30, x31, x32, x33, x34, x35, x36, x37, x38, x39, x40, t41, t42, t43, t44, t45, t46, t47, t48, t49, t50, undef, undef, undef, undef, undef, undef, undef, undef, undef, undef, undef, undef, undef, undef, undef, undef, undef, undef, undef, undef, undef, undef, undef, undef, undef, undef, undef, undef, undef, undef, undef, undef, undef, undef, undef, undef, undef, undef, undef], defers := [] } ∧ ((dn 10 = true → dn 5 = true) ∧ (dn 10 = true → dn 3 = true)) ∧ ((dn 8 = true → dn 5 = true) ∧ (dn 8 = true → dn 3 = true)) ∧ ((dn 7 = true → dn 5 = true)) ∧ ((dn 6 = true → dn 5 = true)) ∧ (dn 10 = false → Ob B C W (some ⟨d, off, none⟩) D) ∧ (SrcLe W r A l ca (at_ + (dn 5).toNat)) ∧ (Below B0 ws W) ∧ (dn 0 = true → t41 = .slice (some ⟨d, off, none⟩) D.length c) ∧ (dn 1 = true → t42 = .int .i64 (k : Int)) ∧ (dn 2 = true → t43 = .pointer (some ⟨d, off + k, none⟩)) ∧ (dn 3 = true → ∃ x : Int, t44 = .int .u8 x ∧ 0 ≤ x ∧ x ≤ 255) ∧ (dn 4 = true → t45 = .pointer (some ⟨r, 0, none⟩)) ∧ (dn 5 = true → ∃ m : Nat, t46 = .int .i64 (m : Int) ∧ m < 255) ∧ (dn 6 = true → ∃ x : Int, t47 = .int .i64 x ∧ 0 ≤ x ∧ x ≤ 255) ∧ (dn 7 = true → ∃ x : Int, t48 = .int .u8 x ∧ 0 ≤ x ∧ x ≤ 255) ∧ (dn 8 = true → ∃ x : Int, t49 = .int .u8 x ∧ 0 ≤ x ∧ x ≤ 255) ∧ (dn 9 = true → t50 = .pointer (some ⟨d, off + k, none⟩)) ∧ (dn 10 = true → ∃ D2 : List Int, D2.length = D.length ∧ Bytes D2 ∧ Ob B C W (some ⟨d, off, none⟩) D2)) dn ac W := ⟨_, fun _ _ _ => Iff.rfl⟩
  replace HJ := hidH HJ
  refine region_inv 11 (fun i => [[], [], [0, 1], [2], [], [4], [5], [6], [3, 7], [0, 1], [8, 9]].getD i []) J hn hdeps hback ?start ?step ?fin
  case start => exact (HJ.out _ _ _).2 ⟨undef, undef, undef, undef, undef, undef, undef, undef, undef, undef, ha, hE, hE8, hE7, hE6, hO, hRE, hW, fun h => by simp at h, fun h => by simp at h, fun h => by simp at h, fun h => by simp at h, fun h => by simp at h, fun h => by simp at h, fun h => by simp at h, fun h => by simp at h, fun h => by simp at h, fun h => by simp at h, fun h => by simp at h⟩
  all_goals clear ha hE hE8 hE7 hE6 hO hRE hW
  case step =>
    clear fin hdeps hback
    intro i hi dn ac W hJ hdn hdep
    obtain ⟨t41, t42, t43, t44, t45, t46, t47, t48, t49, t50, rfl, hE, hE8, hE7, hE6, hO, hRE, hW, h0, h1, h2, h3, h4, h5, h6, h7, h8, h9, h10⟩ := (HJ.out _ _ _).1 hJ
    clear hJ
    match i, hi with
    | 0, _ =>
      obtain ⟨ty, ps, af, ho⟩ := op_lit hops (i := 0) (op := Op.move (Operand.tmp 5)) (dst := some 41) (g := none) rfl
      refine wpOp_lit ho (fun j b h => by cases h) ?_
      clear hops hdep ho
      replace h1 := hidH h1
      replace h2 := hidH h2
      replace h3 := hidH h3
      replace h4 := hidH h4
      replace h5 := hidH h5
      replace h6 := hidH h6
      replace h7 := hidH h7
      replace h8 := hidH h8
      replace h9 := hidH h9
      replace h10 := hidH h10
      go_wp2
      exact (HJ.out _ _ _).2 ⟨_, _, _, _, _, _, _, _, _, _, rfl, hE, hE8, hE7, hE6, hO, hRE, hW, fun _ => rfl, h1.out, h2.out, h3.out, h4.out, h5.out, h6.out, h7.out, h8.out, h9.out, h10.out⟩
    | 1, _ =>
      obtain ⟨ty, ps, af, ho⟩ := op_lit hops (i := 1) (op := Op.move (Operand.tmp 6)) (dst := some 42) (g := none) rfl
      refine wpOp_lit ho (fun j b h => by cases h) ?_
      clear hops hdep ho
      replace h0 := hidH h0
      replace h2 := hidH h2
      replace h3 := hidH h3
      replace h4 := hidH h4
      replace h5 := hidH h5
      replace h6 := hidH h6
      replace h7 := hidH h7
      replace h8 := hidH h8
      replace h9 := hidH h9
      replace h10 := hidH h10
      go_wp2
      exact (HJ.out _ _ _).2 ⟨_, _, _, _, _, _, _, _, _, _, rfl, hE, hE8, hE7, hE6, hO, hRE, hW, h0.out, fun _ => rfl, h2.out, h3.out, h4.out, h5.out, h6.out, h7.out, h8.out, h9.out, h10.out⟩
    | 2, _ =>
      obtain ⟨ty, ps, af, ho⟩ := op_lit hops (i := 2) (op := Op.indexAddr 22 (Operand.tmp 41) (Operand.tmp 42)) (dst := some 43) (g := none) rfl
      obtain rfl := h0 (hdep 0 (by simp))
      obtain rfl := h1 (hdep 1 (by simp))
      refine wpOp_lit ho (fun j b h => by cases h) ?_
      clear hops hdep ho
      replace h0 := hidH h0
      replace h1 := hidH h1
      replace h3 := hidH h3
      replace h4 := hidH h4
      replace h5 := hidH h5
      replace h6 := hidH h6
      replace h7 := hidH h7
      replace h8 := hidH h8
      replace h9 := hidH h9
      replace h10 := hidH h10
      have hkI : (k : Int) < (D.length : Int) := by omega
      have hk0 : (0 : Int) ≤ (k : Int) := by omega
      go_wp2
      exact (HJ.out _ _ _).2 ⟨_, _, _, _, _, _, _, _, _, _, rfl, hE, hE8, hE7, hE6, hO, hRE, hW, fun _ => rfl, fun _ => rfl, fun _ => rfl, h3.out, h4.out, h5.out, h6.out, h7.out, h8.out, h9.out, h10.out⟩
    | 3, _ =>
      obtain ⟨ty, ps, af, ho⟩ := op_lit hops (i := 3) (op := Op.load 5 (Operand.tmp 43)) (dst := some 44) (g := none) rfl
      have hkf : dn 10 = false := by
        rcases hq : dn 10 with _ | _
        · rfl
        · have h3 : dn 3 = true := hE.2 hq
          rw [hdn] at h3; cases h3
      have hk := hkD
      obtain rfl := h2 (hdep 2 (by simp))
      refine wpOp_lit ho (fun j b h => by cases h) ?_
      clear hops hdep ho
      replace h0 := hidH h0
      replace h1 := hidH h1
      replace h2 := hidH h2
      replace h4 := hidH h4
      replace h5 := hidH h5
      replace h6 := hidH h6
      replace h7 := hidH h7
      replace h8 := hidH h8
      replace h9 := hidH h9
      replace h10 := hidH h10
      obtain ⟨b9, o9, q9, hB9, hC9, hw9, hc9⟩ := (hO hkf).resolve_left (fun e => by rw [e] at hk; simp at hk)
      simp only [Option.some.injEq, Addr.mk.injEq, and_true] at q9
      obtain ⟨rfl, rfl⟩ := q9
      have q0 := (hc9 k hk).1
      have q1 := hD.get k
      obtain ⟨x, hx⟩ : ∃ x, D.getD k 0 = x := ⟨_, rfl⟩
      rw [hx] at q0 q1
      clear hx hc9 hk
      go_wp2
      exact (HJ.out _ _ _).2 ⟨_, _, _, _, _, _, _, _, _, _, rfl, ⟨hE.1, (fun _ => rfl)⟩, ⟨hE8.1, (fun _ => rfl)⟩, hE7, hE6, hO, hRE, hW, h0.out, h1.out, fun _ => rfl, fun _ => ⟨_, rfl, q1.1, q1.2⟩, h4.out, h5.out, h6.out, h7.out, h8.out, h9.out, h10.out⟩
    | 4, _ =>
      obtain ⟨ty, ps, af, ho⟩ := op_lit hops (i := 4) (op := Op.move (Operand.tmp 3)) (dst := some 45) (g := none) rfl
      refine wpOp_lit ho (fun j b h => by cases h) ?_
      clear hops hdep ho
      replace h0 := hidH h0
      replace h1 := hidH h1
      replace h2 := hidH h2
      replace h3 := hidH h3
      replace h5 := hidH h5
      replace h6 := hidH h6
      replace h7 := hidH h7
      replace h8 := hidH h8
      replace h9 := hidH h9
      replace h10 := hidH h10
      go_wp2
      exact (HJ.out _ _ _).2 ⟨_, _, _, _, _, _, _, _, _, _, rfl, hE, hE8, hE7, hE6, hO, hRE, hW, h0.out, h1.out, h2.out, h3.out, fun _ => rfl, h5.out, h6.out, h7.out, h8.out, h9.out, h10.out⟩
    | 5, _ =>
      obtain ⟨ty, ps, af, ho⟩ := op_lit hops (i := 5) (op := Op.call { callee := Callee.value (Operand.func 32), args := #[(Operand.tmp 45), (Operand.const (Value.int .i64 255))], argTypes := #[44, 2] }) (dst := some 46) (g := none) rfl
      obtain rfl := h4 (hdep 4 (by simp))
      refine wpOp_lit ho (fun j b h => by cases h) ?_
      clear hops hdep ho
      replace h0 := hidH h0
      replace h1 := hidH h1
      replace h2 := hidH h2
      replace h3 := hidH h3
      replace h4 := hidH h4
      replace h6 := hidH h6
      replace h7 := hidH h7
      replace h8 := hidH h8
      replace h9 := hidH h9
      replace h10 := hidH h10
      obtain ⟨a0, S0, ha0⟩ := hRE
      have hb5 : (dn 5).toNat = 0 := by rw [hdn]; rfl
      go_wp2_with fail
      refine (next_any r A l ca a0 255 _ S0 (by omega)).mono ?_
      rintro e w1 ⟨v, rfl, v0, v1, S1, hw, -⟩
      obtain ⟨m, rfl⟩ : ∃ m : Nat, v = m := ⟨v.toNat, by omega⟩
      have hm : Hid (m < 255) := hidH (by omega)
      have R3 := hidH (show SrcLe w1 r A l ca (at_ + 1) from ⟨_, S1, by omega⟩)
      have hr0 := hidH S0.lt
      clear v0 v1 S0 S1 ha0
      go_wp2
      exact (HJ.out _ _ _).2 ⟨_, _, _, _, _, _, _, _, _, _, rfl, ⟨(fun _ => rfl), hE.2⟩, ⟨(fun _ => rfl), hE8.2⟩, (fun _ => rfl), (fun _ => rfl), (fun h => (hO h).win hw (.inr hrB)), R3.out, hW.trans ((hw.below (Nat.le_of_lt hr0.out)).mono hBr), h0.out, h1.out, h2.out, h3.out, fun _ => rfl, fun _ => ⟨m, rfl, hm.out⟩, h6.out, h7.out, h8.out, h9.out, (fun h => by have h3 : dn 5 = true := hE.1 h; rw [hdn] at h3; cases h3)⟩
    | 6, _ =>
      obtain ⟨ty, ps, af, ho⟩ := op_lit hops (i := 6) (op := Op.binOp BinOp.add 2 ((Operand.const (Value.int .i64 1))) (Operand.tmp 46) 2) (dst := some 47) (g := none) rfl
      have hd5 := hidH (hdep 5 (by simp))
      obtain ⟨m, rfl, hm⟩ := h5 (hdep 5 (by simp))
      have hmI : (m : Int) < 255 := by omega
      have hm0 : (0 : Int) ≤ (m : Int) := by omega
      clear hm
      refine wpOp_lit ho (fun j b h => by cases h) ?_
      clear hops hdep ho
      replace h0 := hidH h0
      replace h1 := hidH h1
      replace h2 := hidH h2
      replace h3 := hidH h3
      replace h4 := hidH h4
      replace h5 := hidH h5
      replace h7 := hidH h7
      replace h8 := hidH h8
      replace h9 := hidH h9
      replace h10 := hidH h10
      go_wp2
      exact (HJ.out _ _ _).2 ⟨_, _, _, _, _, _, _, _, _, _, rfl, hE, hE8, hE7, (fun _ => hd5.out), hO, hRE, hW, h0.out, h1.out, h2.out, h3.out, h4.out, h5.out, fun _ => ⟨_, rfl, by omega, by omega⟩, h7.out, h8.out, h9.out, h10.out⟩
    | 7, _ =>
      obtain ⟨ty, ps, af, ho⟩ := op_lit hops (i := 7) (op := Op.convert 2 5 (Operand.tmp 47)) (dst := some 48) (g := none) rfl
      have hd5 := hidH (hE6 (hdep 6 (by simp)))
      obtain ⟨x, rfl, xa, xb⟩ := h6 (hdep 6 (by simp))
      refine wpOp_lit ho (fun j b h => by cases h) ?_
      clear hops hdep ho
      replace h0 := hidH h0
      replace h1 := hidH h1
      replace h2 := hidH h2
      replace h3 := hidH h3
      replace h4 := hidH h4
      replace h5 := hidH h5
      replace h6 := hidH h6
      replace h8 := hidH h8
      replace h9 := hidH h9
      replace h10 := hidH h10
      go_wp2
      exact (HJ.out _ _ _).2 ⟨_, _, _, _, _, _, _, _, _, _, rfl, hE, hE8, (fun _ => hd5.out), hE6, hO, hRE, hW, h0.out, h1.out, h2.out, h3.out, h4.out, h5.out, h6.out, fun _ => ⟨_, rfl, xa, xb⟩, h8.out, h9.out, h10.out⟩
    | 8, _ =>
      obtain ⟨ty, ps, af, ho⟩ := op_lit hops (i := 8) (op := Op.binOp BinOp.xor 5 (Operand.tmp 44) (Operand.tmp 48) 5) (dst := some 49) (g := none) rfl
      have hd5 := hidH (hE7 (hdep 7 (by simp)))
      have hd3 := hidH (hdep 3 (by simp))
      obtain ⟨x, rfl, xa, xb⟩ := h3 (hdep 3 (by simp))
      obtain ⟨y, rfl, ya, yb⟩ := h7 (hdep 7 (by simp))
      refine wpOp_lit ho (fun j b h => by cases h) ?_
      clear hops hdep ho
      replace h0 := hidH h0
      replace h1 := hidH h1
      replace h2 := hidH h2
      replace h3 := hidH h3
      replace h4 := hidH h4
      replace h5 := hidH h5
      replace h6 := hidH h6
      replace h7 := hidH h7
      replace h9 := hidH h9
      replace h10 := hidH h10
      have hx := hidH (show 0 ≤ bits .xor .u8 x y ∧ bits .xor .u8 x y ≤ 255 by rw [u8_xor x y xa xb ya yb]; have h8 := byteX_byte (m := y.toNat) (x := x) (by omega) xa xb; exact ⟨h8.1, h8.2⟩)
      go_wp2
      exact (HJ.out _ _ _).2 ⟨_, _, _, _, _, _, _, _, _, _, rfl, hE, ⟨(fun _ => hd5.out), (fun _ => hd3.out)⟩, hE7, hE6, hO, hRE, hW, h0.out, h1.out, h2.out, h3.out, h4.out, h5.out, h6.out, h7.out, fun _ => ⟨_, rfl, hx.out.1, hx.out.2⟩, h9.out, h10.out⟩
    | 9, _ =>
      obtain ⟨ty, ps, af, ho⟩ := op_lit hops (i := 9) (op := Op.indexAddr 22 (Operand.tmp 41) (Operand.tmp 42)) (dst := some 50) (g := none) rfl
      obtain rfl := h0 (hdep 0 (by simp))
      obtain rfl := h1 (hdep 1 (by simp))
      refine wpOp_lit ho (fun j b h => by cases h) ?_
      clear hops hdep ho
      replace h0 := hidH h0
      replace h1 := hidH h1
      replace h2 := hidH h2
      replace h3 := hidH h3
      replace h4 := hidH h4
      replace h5 := hidH h5
      replace h6 := hidH h6
      replace h7 := hidH h7
      replace h8 := hidH h8
      replace h10 := hidH h10
      have hkI : (k : Int) < (D.length : Int) := by omega
      have hk0 : (0 : Int) ≤ (k : Int) := by omega
      go_wp2
      exact (HJ.out _ _ _).2 ⟨_, _, _, _, _, _, _, _, _, _, rfl, hE, hE8, hE7, hE6, hO, hRE, hW, fun _ => rfl, fun _ => rfl, h2.out, h3.out, h4.out, h5.out, h6.out, h7.out, h8.out, fun _ => rfl, h10.out⟩
    | 10, _ =>
      obtain ⟨ty, ps, af, ho⟩ := op_lit hops (i := 10) (op := Op.store 5 (Operand.tmp 50) (Operand.tmp 49)) (dst := none) (g := none) rfl
      have hk := hkD
      obtain ⟨x, rfl, xc, xd⟩ := h8 (hdep 8 (by simp))
      have hd5 := hidH (hE8.1 (hdep 8 (by simp)))
      have hd3 := hidH (hE8.2 (hdep 8 (by simp)))
      obtain rfl := h9 (hdep 9 (by simp))
      refine wpOp_lit ho (fun j b h => by cases h) ?_
      clear hops hdep ho
      replace h0 := hidH h0
      replace h1 := hidH h1
      replace h2 := hidH h2
      replace h3 := hidH h3
      replace h4 := hidH h4
      replace h5 := hidH h5
      replace h6 := hidH h6
      replace h7 := hidH h7
      replace h8 := hidH h8
      replace h9 := hidH h9
      obtain ⟨b9, o9, q9, hB9, hC9, hw9, hc9⟩ := (hO hdn).resolve_left (fun e => by rw [e] at hk; simp at hk)
      simp only [Option.some.injEq, Addr.mk.injEq, and_true] at q9
      obtain ⟨rfl, rfl⟩ := q9
      have q0 := (hc9 k hk).1
      have f0 := (hc9 k hk).2
      obtain ⟨y, hy⟩ : ∃ y, D.getD k 0 = y := ⟨_, rfl⟩
      rw [hy] at q0
      clear hy
      have KX := hidH (show ∃ D2 : List Int, D2.length = D.length ∧ Bytes D2 ∧ Ob B C (W.setCell ⟨d, off + k, none⟩ (.int .u8 x)) (some ⟨d, off, none⟩) D2 from ⟨D.set k x, List.length_set, (fun z hz => (List.mem_or_eq_of_mem_set hz).elim (hD z) (fun e => by subst e; exact ⟨xc, xd⟩)), ob_set x hB9 hC9 hw9 hk hc9⟩)
      clear hc9
      have hk9 := hidH hk
      clear hk
      go_wp2
      exact (HJ.out _ _ _).2 ⟨_, _, _, _, _, _, _, _, _, _, rfl, ⟨(fun _ => hd5.out), (fun _ => hd3.out)⟩, hE8, hE7, hE6, (fun h2 => by simp at h2), hRE.far (p := ⟨d, off + k, none⟩) hrd _, hW.setCell (p := ⟨d, off + k, none⟩) hBd _, h0.out, h1.out, h2.out, h3.out, h4.out, h5.out, h6.out, h7.out, h8.out, fun _ => rfl, fun _ => KX.out⟩
    | n + 11, h => omega
  case fin =>
    clear hops hdeps hback
    rintro dn ac W hJ hall
    obtain ⟨t41, t42, t43, t44, t45, t46, t47, t48, t49, t50, rfl, hE, hE8, hE7, hE6, hO, hRE, hW, h0, h1, h2, h3, h4, h5, h6, h7, h8, h9, h10⟩ := (HJ.out _ _ _).1 hJ
    exact fin _ _ _ _ _ _ _ _ _ _ W hW (h10 (hall 10 (by omega)))
set_option maxRecDepth 100000 in
set_option maxHeartbeats 1000000 in
theorem regDt {Q : Exit → Act → World → Prop} (x0 x1 x2 x3 x4 x6 x7 x9 x10 x11 x12 x13 x14 x15 x16 x17 x18 x19 x20 x21 x22 x23 x24 x25 x26 x27 x28 x29 x30 x31 x32 x33 x34 x35 x36 x37 x38 x39 x40 x41 x42 x43 x44 x45 x46 x47 x48 x49 x50 x51 x52 x53 x54 x55 x56 x57 x58 x59 x60 : Value) (A5 AS A8 : Option Addr) (n5 c5 cS c8 : Nat) (l4 ls l8 : List Int) (hl : l4.length + ls.length + l8.length ≤ 10000)
    (H4 : ∀ u : World, (Instr.slice 22 (.slice A5 n5 c5) none (some (.int .i64 4)) none).run Tryd.prog u = .ok (.slice A5 l4.length c5) u)
    (H8 : ∀ u : World, (Instr.slice 22 (.slice A5 n5 c5) (some (.int .i64 8)) none none).run Tryd.prog u = .ok (.slice A8 l8.length c8) u) {ops : Array Oper}
    (hops : (ops.map fun o => (o.op, o.dst, o.guard)) = #[(Op.move (Operand.tmp 5), some 61, none), (Op.slice 22 (Operand.tmp 61) none (some ((Operand.const (Value.int .i64 4)))) none, some 62, none), (Op.call { callee := Callee.value (Operand.func 35), args := #[(Operand.tmp 62)], argTypes := #[22] }, some 63, none), (Op.move (Operand.tmp 8), some 64, none), (Op.call { callee := Callee.builtin Builtin.append, args := #[(Operand.tmp 63), (Operand.tmp 64)], argTypes := #[22, 22] }, some 65, none), (Op.move (Operand.tmp 5), some 66, none), (Op.slice 22 (Operand.tmp 66) (some ((Operand.const (Value.int .i64 8)))) none none, some 67, none), (Op.call { callee := Callee.builtin Builtin.append, args := #[(Operand.tmp 65), (Operand.tmp 67)], argTypes := #[22, 22] }, some 68, none), (Op.assign (Operand.tmp 68), some 5, none)])
    (hdeps : ((List.range 9).all fun i => ((fun i => [[], [0], [1], [], [2, 3], [], [5], [4, 6], [7]].getD i []) i).all fun j => ((ops[i]?).map fun o => o.after.any fun e => Region.binds .any e && e.on == j).getD false) = true)
    (hback : ((List.range 9).all fun i => ((ops[i]?).map fun o => o.after.all fun e => decide (e.on < i)).getD false) = true)
    {a0 : Act} {w0 : World} (ha : a0 = { tmps := #[x0, x1, x2, x3, x4, .slice A5 n5 c5, x6, x7, .slice AS ls.length cS, x9, x10, x11, x12, x13, x14, x15, x16, x17, x18, x19, x20, x21, x22, x23, x24, x25, x26, x27, x28, x29, x30, x31, x32, x33, x34, x35, x36, x37, x38, x39, x40, x41, x42, x43, x44, x45, x46, x47, x48, x49, x50, x51, x52, x53, x54, x55, x56, x57, x58, x59, x60, undef, undef, undef, undef, undef, undef, undef, undef, undef, undef, undef, undef, undef, undef, undef, undef, undef, undef, undef, undef, undef, undef, undef, undef, undef, undef, undef, undef, undef], defers := [] }) (hE : (false = true → false = true) ∧ (false = true → false = true) ∧ (false = true → false = true) ∧ (false = true → false = true) ∧ (false = true → false = true) ∧ (false = true → false = true) ∧ (false = true → false = true)) (hW : Below w0.heap.size w0 w0) (HB4 : Hid (Bs w0 A5 l4)) (HBS : Hid (Bs w0 AS ls)) (HB8 : Hid (Bs w0 A8 l8))
    (fin : ∀ t61 t62 t63 t64 t65 t66 t67 t68 t5 (W : World), (Below w0.heap.size w0 W) → (W.ownsRow w0.heap.size 5 1 t5 (l4.length + ls.length + l8.length) (l4.map (Value.int .u8) ++ (ls.map (Value.int .u8) ++ l8.map (Value.int .u8)))) → Q .normal { tmps := #[x0, x1, x2, x3, x4, t5, x6, x7, .slice AS ls.length cS, x9, x10, x11, x12, x13, x14, x15, x16, x17, x18, x19, x20, x21, x22, x23, x24, x25, x26, x27, x28, x29, x30, x31, x32, x33, x34, x35, x36, x37, x38, x39, x40, x41, x42, x43, x44, x45, x46, x47, x48, x49, x50, x51, x52, x53, x54, x55, x56, x57, x58, x59, x60, t61, t62, t63, t64, t65, t66, t67, t68, undef, undef, undef, undef, undef, undef, undef, undef, undef, undef, undef, undef, undef, undef, undef, undef, undef, undef, undef, undef, undef], defers := [] } W) :
    wpAny Tryd.prog .any ops Q ops.size (Array.replicate ops.size false) a0 w0 := by
  have hn : ops.size = 9 := by have := congrArg Array.size hops; simpa using this
  obtain ⟨J, HJ⟩ : ∃ J : (Nat → Bool) → Act → World → Prop, ∀ dn ac W, J dn ac W ↔ (fun dn ac W => ∃ t61 t62 t63 t64 t65 t66 t67 t68 t5, ac = { tmps := #[x0, x1, x2, x3, x4, t5, x6, x7, .slice AS ls.length cS, x9, x10, x11, x12, x13, x14, x15, x16, x17, x18, x19, x20, x21, x22, x23, x24, x25, x26, x27, x28, x29, x30, x31, x32, x33, x34, x35, x36, x37, x38, x39, x40, x41, x42, x43, x44, x45, x46, x47, x48, x49, x50, x51, x52, x53, x54, x55, x56, x57, x58, x59, x60, t61, t62, t63, t64, t65, t66, t67, t68, undef, undef, undef, undef, undef, undef, undef, undef, undef, undef, undef, undef, undef, undef, undef, undef, undef, undef, undef, undef, undef], defers := [] } ∧ ((dn 8 = true → dn 7 = true) ∧ (dn 7 = true → dn 4 = true) ∧ (dn 4 = true → dn 2 = true) ∧ (dn 2 = true → dn 1 = true) ∧ (dn 1 = true → dn 0 = true) ∧ (dn 7 = true → dn 6 = true) ∧ (dn 6 = true → dn 5 = true)) ∧ (Below w0.heap.size w0 W) ∧ (Hid (Bs w0 A5 l4)) ∧ (Hid (Bs w0 AS ls)) ∧ (Hid (Bs w0 A8 l8)) ∧ (dn 8 = false → t5 = .slice A5 n5 c5) ∧ (dn 0 = true → t61 = .slice A5 n5 c5) ∧ (dn 1 = true → t62 = .slice A5 l4.length c5) ∧ (dn 2 = true → dn 4 = false → W.ownsRow w0.heap.size 5 1 t63 l4.length (l4.map (Value.int .u8))) ∧ (dn 3 = true → t64 = .slice AS ls.length cS) ∧ (dn 4 = true → dn 7 = false → W.ownsRow w0.heap.size 5 1 t65 (l4.length + ls.length) (l4.map (Value.int .u8) ++ ls.map (Value.int .u8))) ∧ (dn 5 = true → t66 = .slice A5 n5 c5) ∧ (dn 6 = true → t67 = .slice A8 l8.length c8) ∧ (dn 7 = true → W.ownsRow w0.heap.size 5 1 t68 (l4.length + ls.length + l8.length) (l4.map (Value.int .u8) ++ (ls.map (Value.int .u8) ++ l8.map (Value.int .u8)))) ∧ (dn 8 = true → W.ownsRow w0.heap.size 5 1 t5 (l4.length + ls.length + l8.length) (l4.map (Value.int .u8) ++ (ls.map (Value.int .u8) ++ l8.map (Value.int .u8))))) dn ac W := ⟨_, fun _ _ _ => Iff.rfl⟩
  replace HJ := hidH HJ
  refine region_inv 9 (fun i => [[], [0], [1], [], [2, 3], [], [5], [4, 6], [7]].getD i []) J hn hdeps hback ?start ?step ?fin
  case start => exact (HJ.out _ _ _).2 ⟨undef, undef, undef, undef, undef, undef, undef, undef, .slice A5 n5 c5, ha, hE, hW, HB4, HBS, HB8, fun _ => rfl, fun h => by simp at h, fun h => by simp at h, fun h => by simp at h, fun h => by simp at h, fun h => by simp at h, fun h => by simp at h, fun h => by simp at h, fun h => by simp at h, fun h => by simp at h⟩
  all_goals clear ha hE hW HB4 HBS HB8
  case step =>
    clear fin hdeps hback
    intro i hi dn ac W hJ hdn hdep
    obtain ⟨t61, t62, t63, t64, t65, t66, t67, t68, t5, rfl, hE, hW, HB4, HBS, HB8, o8, h0, h1, h2, h3, h4, h5, h6, h7, h8⟩ := (HJ.out _ _ _).1 hJ
    clear hJ
    match i, hi with
    | 0, _ =>
      obtain ⟨ty, ps, af, ho⟩ := op_lit hops (i := 0) (op := Op.move (Operand.tmp 5)) (dst := some 61) (g := none) rfl
      have hk8 : dn 8 = false := by
        rcases hq : dn 8 with _ | _
        · rfl
        · have h3 : dn 0 = true := hE.2.2.2.2.1 (hE.2.2.2.1 (hE.2.2.1 (hE.2.1 (hE.1 hq))))
          rw [hdn] at h3; cases h3
      obtain rfl := o8 hk8
      refine wpOp_lit ho (fun j b h => by cases h) ?_
      clear hops hdep ho
      replace h1 := hidH h1
      replace h2 := hidH h2
      replace h3 := hidH h3
      replace h4 := hidH h4
      replace h5 := hidH h5
      replace h6 := hidH h6
      replace h7 := hidH h7
      replace h8 := hidH h8
      replace o8 := hidH o8
      go_wp2
      exact (HJ.out _ _ _).2 ⟨_, _, _, _, _, _, _, _, _, rfl, ⟨hE.1, hE.2.1, hE.2.2.1, hE.2.2.2.1, (fun _ => rfl), hE.2.2.2.2.2.1, hE.2.2.2.2.2.2⟩, hW, HB4, HBS, HB8, (fun _ => rfl), fun _ => rfl, h1.out, h2.out, h3.out, h4.out, h5.out, h6.out, h7.out, h8.out⟩
    | 1, _ =>
      obtain ⟨ty, ps, af, ho⟩ := op_lit hops (i := 1) (op := Op.slice 22 (Operand.tmp 61) none (some ((Operand.const (Value.int .i64 4)))) none) (dst := some 62) (g := none) rfl
      have hd0 := hidH (hdep 0 (by simp))
      obtain rfl := h0 (hdep 0 (by simp))
      refine wpOp_lit ho (fun j b h => by cases h) ?_
      clear hops hdep ho
      replace h0 := hidH h0
      replace h2 := hidH h2
      replace h3 := hidH h3
      replace h4 := hidH h4
      replace h5 := hidH h5
      replace h6 := hidH h6
      replace h7 := hidH h7
      replace h8 := hidH h8
      replace o8 := hidH o8
      have hsl := H4
      go_wp2
      exact (HJ.out _ _ _).2 ⟨_, _, _, _, _, _, _, _, _, rfl, ⟨hE.1, hE.2.1, hE.2.2.1, (fun _ => rfl), (fun _ => hd0.out), hE.2.2.2.2.2.1, hE.2.2.2.2.2.2⟩, hW, HB4, HBS, HB8, o8.out, fun _ => rfl, fun _ => rfl, h2.out, h3.out, h4.out, h5.out, h6.out, h7.out, h8.out⟩
    | 2, _ =>
      obtain ⟨ty, ps, af, ho⟩ := op_lit hops (i := 2) (op := Op.call { callee := Callee.value (Operand.func 35), args := #[(Operand.tmp 62)], argTypes := #[22] }) (dst := some 63) (g := none) rfl
      have hd1 := hidH (hdep 1 (by simp))
      obtain rfl := h1 (hdep 1 (by simp))
      refine wpOp_lit ho (fun j b h => by cases h) ?_
      clear hops hdep ho
      replace h0 := hidH h0
      replace h1 := hidH h1
      replace h3 := hidH h3
      replace h4 := hidH h4
      replace h5 := hidH h5
      replace h6 := hidH h6
      replace h7 := hidH h7
      replace h8 := hidH h8
      replace o8 := hidH o8
      go_wp2_with fail
      refine (copy_any A5 l4 c5 _ (bs_below HB4.out hW) (by omega)).mono ?_
      rintro e w1 ⟨v8, rfl, ow, hb⟩
      have S2 := hidH (own_mono ow hW.size)
      clear ow
      go_wp2
      exact (HJ.out _ _ _).2 ⟨_, _, _, _, _, _, _, _, _, rfl, ⟨hE.1, hE.2.1, (fun _ => rfl), (fun _ => hd1.out), hE.2.2.2.2.1, hE.2.2.2.2.2.1, hE.2.2.2.2.2.2⟩, hW.trans (hb.mono hW.size), HB4, HBS, HB8, o8.out, h0.out, fun _ => rfl, fun _ => (fun _ => S2.out), h3.out, (fun h => by have h3 : dn 2 = true := hE.2.2.1 h; rw [hdn] at h3; cases h3), h5.out, h6.out, (fun h => by have h3 : dn 2 = true := hE.2.2.1 (hE.2.1 h); rw [hdn] at h3; cases h3), (fun h => by have h3 : dn 2 = true := hE.2.2.1 (hE.2.1 (hE.1 h)); rw [hdn] at h3; cases h3)⟩
    | 3, _ =>
      obtain ⟨ty, ps, af, ho⟩ := op_lit hops (i := 3) (op := Op.move (Operand.tmp 8)) (dst := some 64) (g := none) rfl
      refine wpOp_lit ho (fun j b h => by cases h) ?_
      clear hops hdep ho
      replace h0 := hidH h0
      replace h1 := hidH h1
      replace h2 := hidH h2
      replace h4 := hidH h4
      replace h5 := hidH h5
      replace h6 := hidH h6
      replace h7 := hidH h7
      replace h8 := hidH h8
      replace o8 := hidH o8
      go_wp2
      exact (HJ.out _ _ _).2 ⟨_, _, _, _, _, _, _, _, _, rfl, hE, hW, HB4, HBS, HB8, o8.out, h0.out, h1.out, h2.out, fun _ => rfl, h4.out, h5.out, h6.out, h7.out, h8.out⟩
    | 4, _ =>
      obtain ⟨ty, ps, af, ho⟩ := op_lit hops (i := 4) (op := Op.call { callee := Callee.builtin Builtin.append, args := #[(Operand.tmp 63), (Operand.tmp 64)], argTypes := #[22, 22] }) (dst := some 65) (g := none) rfl
      have hd2 := hidH (hdep 2 (by simp))
      have o := h2 (hdep 2 (by simp)) (by
        rcases hq : dn 4 with _ | _
        · rfl
        · rw [hdn] at hq; cases hq)
      obtain rfl := h3 (hdep 3 (by simp))
      refine wpOp_lit ho (fun j b h => by cases h) ?_
      clear hops hdep ho
      replace h0 := hidH h0
      replace h1 := hidH h1
      replace h2 := hidH h2
      replace h3 := hidH h3
      replace h5 := hidH h5
      replace h6 := hidH h6
      replace h7 := hidH h7
      replace h8 := hidH h8
      replace o8 := hidH o8
      have HB := hidH (bs_below HBS.out hW)
      have o0 := hidH o
      go_wp2_with (at_builtin; go_loud (refine wpList_append_bs rfl _ _ rfl w0.heap.size _ _ _ rfl o0.out AS ls cS rfl HB.out (by omega) hW.size ?_))
      intro v6 w6 ow hg
      have hb : Below w0.heap.size W w6 := (Below.refl w0.heap.size W).grown hg hW.size (fun k hk => (o0.out.lt k hk).1)
      have S2 := hidH ow
      clear ow hg o
      go_wp2
      exact (HJ.out _ _ _).2 ⟨_, _, _, _, _, _, _, _, _, rfl, ⟨hE.1, (fun _ => rfl), (fun _ => hd2.out), hE.2.2.2.1, hE.2.2.2.2.1, hE.2.2.2.2.2.1, hE.2.2.2.2.2.2⟩, hW.trans hb, HB4, HBS, HB8, o8.out, h0.out, h1.out, (fun _ h2 => by simp at h2), fun _ => rfl, fun _ => (fun _ => S2.out), h5.out, h6.out, (fun h => by have h3 : dn 4 = true := hE.2.1 h; rw [hdn] at h3; cases h3), (fun h => by have h3 : dn 4 = true := hE.2.1 (hE.1 h); rw [hdn] at h3; cases h3)⟩
    | 5, _ =>
      obtain ⟨ty, ps, af, ho⟩ := op_lit hops (i := 5) (op := Op.move (Operand.tmp 5)) (dst := some 66) (g := none) rfl
      have hk8 : dn 8 = false := by
        rcases hq : dn 8 with _ | _
        · rfl
        · have h3 : dn 5 = true := hE.2.2.2.2.2.2 (hE.2.2.2.2.2.1 (hE.1 hq))
          rw [hdn] at h3; cases h3
      obtain rfl := o8 hk8
      refine wpOp_lit ho (fun j b h => by cases h) ?_
      clear hops hdep ho
      replace h0 := hidH h0
      replace h1 := hidH h1
      replace h2 := hidH h2
      replace h3 := hidH h3
      replace h4 := hidH h4
      replace h6 := hidH h6
      replace h7 := hidH h7
      replace h8 := hidH h8
      replace o8 := hidH o8
      go_wp2
      exact (HJ.out _ _ _).2 ⟨_, _, _, _, _, _, _, _, _, rfl, ⟨hE.1, hE.2.1, hE.2.2.1, hE.2.2.2.1, hE.2.2.2.2.1, hE.2.2.2.2.2.1, (fun _ => rfl)⟩, hW, HB4, HBS, HB8, (fun _ => rfl), h0.out, h1.out, h2.out, h3.out, h4.out, fun _ => rfl, h6.out, h7.out, h8.out⟩
    | 6, _ =>
      obtain ⟨ty, ps, af, ho⟩ := op_lit hops (i := 6) (op := Op.slice 22 (Operand.tmp 66) (some ((Operand.const (Value.int .i64 8)))) none none) (dst := some 67) (g := none) rfl
      have hd5 := hidH (hdep 5 (by simp))
      obtain rfl := h5 (hdep 5 (by simp))
      refine wpOp_lit ho (fun j b h => by cases h) ?_
      clear hops hdep ho
      replace h0 := hidH h0
      replace h1 := hidH h1
      replace h2 := hidH h2
      replace h3 := hidH h3
      replace h4 := hidH h4
      replace h5 := hidH h5
      replace h7 := hidH h7
      replace h8 := hidH h8
      replace o8 := hidH o8
      have hsl := H8
      go_wp2
      exact (HJ.out _ _ _).2 ⟨_, _, _, _, _, _, _, _, _, rfl, ⟨hE.1, hE.2.1, hE.2.2.1, hE.2.2.2.1, hE.2.2.2.2.1, (fun _ => rfl), (fun _ => hd5.out)⟩, hW, HB4, HBS, HB8, o8.out, h0.out, h1.out, h2.out, h3.out, h4.out, fun _ => rfl, fun _ => rfl, h7.out, h8.out⟩
    | 7, _ =>
      obtain ⟨ty, ps, af, ho⟩ := op_lit hops (i := 7) (op := Op.call { callee := Callee.builtin Builtin.append, args := #[(Operand.tmp 65), (Operand.tmp 67)], argTypes := #[22, 22] }) (dst := some 68) (g := none) rfl
      have hd6 := hidH (hdep 6 (by simp))
      have hd4 := hidH (hdep 4 (by simp))
      have o := h4 (hdep 4 (by simp)) (by
        rcases hq : dn 7 with _ | _
        · rfl
        · rw [hdn] at hq; cases hq)
      obtain rfl := h6 (hdep 6 (by simp))
      refine wpOp_lit ho (fun j b h => by cases h) ?_
      clear hops hdep ho
      replace h0 := hidH h0
      replace h1 := hidH h1
      replace h2 := hidH h2
      replace h3 := hidH h3
      replace h4 := hidH h4
      replace h5 := hidH h5
      replace h6 := hidH h6
      replace h8 := hidH h8
      replace o8 := hidH o8
      have HB := hidH (bs_below HB8.out hW)
      have o0 := hidH o
      go_wp2_with (at_builtin; go_loud (refine wpList_append_bs rfl _ _ rfl w0.heap.size _ _ _ rfl o0.out A8 l8 c8 rfl HB.out (by omega) hW.size ?_))
      intro v6 w6 ow hg
      have hb : Below w0.heap.size W w6 := (Below.refl w0.heap.size W).grown hg hW.size (fun k hk => (o0.out.lt k hk).1)
      have S2 := hidH ow
      clear ow hg o
      go_wp2
      exact (HJ.out _ _ _).2 ⟨_, _, _, _, _, _, _, _, _, rfl, ⟨(fun _ => rfl), (fun _ => hd4.out), hE.2.2.1, hE.2.2.2.1, hE.2.2.2.2.1, (fun _ => hd6.out), hE.2.2.2.2.2.2⟩, hW.trans hb, HB4, HBS, HB8, o8.out, h0.out, h1.out, (fun _ h2 => by have h3 : dn 4 = false := h2; rw [hd4.out] at h3; cases h3), h3.out, (fun _ h2 => by simp at h2), h5.out, fun _ => rfl, fun _ => S2.out, (fun h => by have h3 : dn 7 = true := hE.1 h; rw [hdn] at h3; cases h3)⟩
    | 8, _ =>
      obtain ⟨ty, ps, af, ho⟩ := op_lit hops (i := 8) (op := Op.assign (Operand.tmp 68)) (dst := some 5) (g := none) rfl
      have hd7 := hidH (hdep 7 (by simp))
      have S2 := hidH (h7 (hdep 7 (by simp)))
      obtain rfl := o8 hdn
      refine wpOp_lit ho (fun j b h => by cases h) ?_
      clear hops hdep ho
      replace h0 := hidH h0
      replace h1 := hidH h1
      replace h2 := hidH h2
      replace h3 := hidH h3
      replace h4 := hidH h4
      replace h5 := hidH h5
      replace h6 := hidH h6
      replace h7 := hidH h7
      have hb := Below.refl W.heap.size W
      go_wp2
      exact (HJ.out _ _ _).2 ⟨_, _, _, _, _, _, _, _, _, rfl, ⟨(fun _ => hd7.out), hE.2.1, hE.2.2.1, hE.2.2.2.1, hE.2.2.2.2.1, hE.2.2.2.2.2.1, hE.2.2.2.2.2.2⟩, hW, HB4, HBS, HB8, (fun h => by simp at h), h0.out, h1.out, h2.out, h3.out, h4.out, h5.out, h6.out, h7.out, fun _ => S2.out⟩
    | n + 9, h => omega
  case fin =>
    clear hops hdeps hback
    rintro dn ac W hJ hall
    obtain ⟨t61, t62, t63, t64, t65, t66, t67, t68, t5, rfl, hE, hW, HB4, HBS, HB8, o8, h0, h1, h2, h3, h4, h5, h6, h7, h8⟩ := (HJ.out _ _ _).1 hJ
    exact fin _ _ _ _ _ _ _ _ _ W hW (h8 (hall 8 (by omega)))
end Go.Proofs.YtepcikghhnfacaaDoor
