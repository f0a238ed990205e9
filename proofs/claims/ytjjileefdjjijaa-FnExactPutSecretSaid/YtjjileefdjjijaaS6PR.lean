/- The region of put that draws its order. -/
import Derived.Test.YtjjileefdjjijaaS6M
import Derived.Test.YtjjileefdjjijaaImB
import Derived.Test.YtjjileefdjjijaaRegInv
namespace Go.Proofs.Ytjjileefdjjijaa
open Go.RowKit Go.Deep

/-- What a store leaves. -/
structure PutR (b N : Nat) (q : List KE) (k : Int) (l : List Int) (w w' : World) : Prop where
  ex : ∃ (v : Value) (lo hi : Nat), KMap w' b (N + 1) (putQ q ⟨k, v, l, lo, hi⟩) ∧ Win b (b + 1) w w'
theorem PutR.mk' {b N : Nat} {q : List KE} {k : Int} {l : List Int} {w w' : World} {v : Value} {lo hi : Nat} (h : KMap w' b (N + 1) (putQ q ⟨k, v, l, lo, hi⟩)) (hw : Win b (b + 1) w w') : PutR b N q k l w w' := ⟨⟨v, lo, hi, h, hw⟩⟩
set_option maxRecDepth 100000 in
set_option maxHeartbeats 1000000 in
theorem regPut {Q : Exit → Act → World → Prop} (x1 x2 : Value) (b N g : Nat) (q : List KE) (k : Int) (A : Option Addr) (l : List Int) (c : Nat) (ww : World) (hk : WfV (.int k)) (hl : l.length ≤ 4000000) (hN : Hid (N ≤ 1000)) (hP : Bs ww A l) (hb : b < ww.heap.size) (hq : ∀ y ∈ q, y.hi ≤ ww.heap.size) {ops : Array Oper}
    (hops : (ops.map fun o => (o.op, o.dst, o.guard)) = #[(Op.move (Operand.tmp 0), some 4, none), (Op.fieldAddr 58 (Operand.tmp 3) 0, some 5, none), (Op.load 2 (Operand.tmp 5), some 6, none), (Op.fieldAddr 58 (Operand.tmp 3) 1, some 7, none), (Op.load 29 (Operand.tmp 7), some 8, none), (Op.call { callee := Callee.value (Operand.func 74), args := #[(Operand.tmp 8)], argTypes := #[29] }, some 9, none), (Op.mapUpdate 86 (Operand.tmp 4) (Operand.tmp 6) (Operand.tmp 9), none, none)])
    (hdeps : ((List.range 7).all fun i => ((fun i => [[], [], [1], [], [3], [4], [0, 2, 5]].getD i []) i).all fun j => ((ops[i]?).map fun o => o.after.any fun e => Region.binds .any e && e.on == j).getD false) = true)
    (hback : ((List.range 7).all fun i => ((ops[i]?).map fun o => o.after.all fun e => decide (e.on < i)).getD false) = true)
    {a0 : Act} {w0 : World} (ha : a0 = { tmps := #[.map (some b), x1, x2, .pointer (some ⟨g, 0, none⟩), undef, undef, undef, undef, undef, undef], defers := [] }) (hE2 : false = true → false = true) (hE4 : false = true → false = true) (hE5 : false = true → false = true) (hM : false = false → KMap w0 b N q) (hO : false = false → Below ww.heap.size ww w0) (hG : false = false → Blk w0 g 58 #[.int .i64 k, .slice A l.length c]) (hZ : false = true → PutR b N q k l ww w0) (hE54 : false = true → false = true)
    (fin : ∀ t4 t5 t6 t7 t8 t9 (W : World), (PutR b N q k l ww W) → Q .normal { tmps := #[.map (some b), x1, x2, .pointer (some ⟨g, 0, none⟩), t4, t5, t6, t7, t8, t9], defers := [] } W) :
    wpAny Try.prog .any ops Q ops.size (Array.replicate ops.size false) a0 w0 := by
  have hn : ops.size = 7 := by have := congrArg Array.size hops; simpa using this
  obtain ⟨J, HJ⟩ : ∃ J : (Nat → Bool) → Act → World → Prop, ∀ dn ac W, J dn ac W ↔ (fun dn ac W => ∃ t4 t5 t6 t7 t8 t9, ac = { tmps := #[.map (some b), x1, x2, .pointer (some ⟨g, 0, none⟩), t4, t5, t6, t7, t8, t9], defers := [] } ∧ (dn 6 = true → dn 2 = true) ∧ (dn 6 = true → dn 4 = true) ∧ (dn 6 = true → dn 5 = true) ∧ (dn 6 = false → KMap W b N q) ∧ (dn 6 = false → Below ww.heap.size ww W) ∧ (dn 6 = false → Blk W g 58 #[.int .i64 k, .slice A l.length c]) ∧ (dn 6 = true → PutR b N q k l ww W) ∧ (dn 5 = true → dn 4 = true) ∧ (dn 0 = true → t4 = .map (some b)) ∧ (dn 1 = true → t5 = .pointer (some ⟨g, 0, none⟩)) ∧ (dn 2 = true → t6 = .int .i64 k) ∧ (dn 3 = true → t7 = .pointer (some ⟨g, 1, none⟩)) ∧ (dn 4 = true → t8 = .slice A l.length c) ∧ (dn 5 = true → dn 6 = false → ∃ (lo hi : Nat) (A9 : Option Addr) (c9 : Nat), t9 = .slice A9 l.length c9 ∧ OwV lo hi W (.bs l) (.slice A9 l.length c9) ∧ ww.heap.size ≤ lo)) dn ac W := ⟨_, fun _ _ _ => Iff.rfl⟩
  replace HJ := hidH HJ
  refine region_inv 7 (fun i => [[], [], [1], [], [3], [4], [0, 2, 5]].getD i []) J hn hdeps hback ?start ?step ?fin
  case start => exact (HJ.out _ _ _).2 ⟨undef, undef, undef, undef, undef, undef, ha, hE2, hE4, hE5, hM, hO, hG, hZ, hE54, fun h => by simp at h, fun h => by simp at h, fun h => by simp at h, fun h => by simp at h, fun h => by simp at h, fun h => by simp at h⟩
  all_goals clear ha hE2 hE4 hE5 hM hO hG hZ hE54
  case step =>
    clear fin hdeps hback
    intro i hi dn ac W hJ hdn hdep
    obtain ⟨t4, t5, t6, t7, t8, t9, rfl, hE2, hE4, hE5, hM, hO, hG, hZ, hE54, h0, h1, h2, h3, h4, h5⟩ := (HJ.out _ _ _).1 hJ
    clear hJ
    match i, hi with
    | 0, _ =>
      obtain ⟨ty, ps, af, ho⟩ := op_lit hops (i := 0) (op := Op.move (Operand.tmp 0)) (dst := some 4) (g := none) rfl
      refine wpOp_lit ho (fun j b h => by cases h) ?_
      clear hops hdep ho
      replace h1 := hidH h1
      replace h2 := hidH h2
      replace h3 := hidH h3
      replace h4 := hidH h4
      replace h5 := hidH h5
      go_wp2
      exact (HJ.out _ _ _).2 ⟨_, _, _, _, _, _, rfl, hE2, hE4, hE5, hM, hO, hG, hZ, hE54, fun _ => rfl, h1.out, h2.out, h3.out, h4.out, h5.out⟩
    | 1, _ =>
      obtain ⟨ty, ps, af, ho⟩ := op_lit hops (i := 1) (op := Op.fieldAddr 58 (Operand.tmp 3) 0) (dst := some 5) (g := none) rfl
      refine wpOp_lit ho (fun j b h => by cases h) ?_
      clear hops hdep ho
      replace h0 := hidH h0
      replace h2 := hidH h2
      replace h3 := hidH h3
      replace h4 := hidH h4
      replace h5 := hidH h5
      go_wp2
      exact (HJ.out _ _ _).2 ⟨_, _, _, _, _, _, rfl, hE2, hE4, hE5, hM, hO, hG, hZ, hE54, h0.out, fun _ => rfl, h2.out, h3.out, h4.out, h5.out⟩
    | 2, _ =>
      obtain ⟨ty, ps, af, ho⟩ := op_lit hops (i := 2) (op := Op.load 2 (Operand.tmp 5)) (dst := some 6) (g := none) rfl
      have hd6 : dn 6 = false := by
              cases h : dn 6 with
              | false => rfl
              | true => have h3 : dn 2 = true := hE2 h; rw [hdn] at h3; cases h3
      obtain rfl := h1 (hdep 1 (by simp))
      refine wpOp_lit ho (fun j b h => by cases h) ?_
      clear hops hdep ho
      replace h0 := hidH h0
      replace h1 := hidH h1
      replace h3 := hidH h3
      replace h4 := hidH h4
      replace h5 := hidH h5
      have q0 := (hG hd6).cell 0
      simp only [List.getElem?_toArray, List.getElem?_cons_zero] at q0
      have q1 := (hG hd6).lt
      go_wp2
      exact (HJ.out _ _ _).2 ⟨_, _, _, _, _, _, rfl, fun _ => rfl, hE4, hE5, hM, hO, hG, hZ, hE54, h0.out, fun _ => rfl, fun _ => rfl, h3.out, h4.out, fun h h2 => h5.out h h2⟩
    | 3, _ =>
      obtain ⟨ty, ps, af, ho⟩ := op_lit hops (i := 3) (op := Op.fieldAddr 58 (Operand.tmp 3) 1) (dst := some 7) (g := none) rfl
      refine wpOp_lit ho (fun j b h => by cases h) ?_
      clear hops hdep ho
      replace h0 := hidH h0
      replace h1 := hidH h1
      replace h2 := hidH h2
      replace h4 := hidH h4
      replace h5 := hidH h5
      go_wp2
      exact (HJ.out _ _ _).2 ⟨_, _, _, _, _, _, rfl, hE2, hE4, hE5, hM, hO, hG, hZ, hE54, h0.out, h1.out, h2.out, fun _ => rfl, h4.out, h5.out⟩
    | 4, _ =>
      obtain ⟨ty, ps, af, ho⟩ := op_lit hops (i := 4) (op := Op.load 29 (Operand.tmp 7)) (dst := some 8) (g := none) rfl
      have hd6 : dn 6 = false := by
              cases h : dn 6 with
              | false => rfl
              | true => have h3 : dn 4 = true := hE4 h; rw [hdn] at h3; cases h3
      obtain rfl := h3 (hdep 3 (by simp))
      refine wpOp_lit ho (fun j b h => by cases h) ?_
      clear hops hdep ho
      replace h0 := hidH h0
      replace h1 := hidH h1
      replace h2 := hidH h2
      replace h3 := hidH h3
      replace h5 := hidH h5
      have q0 := (hG hd6).cell 1
      simp only [List.getElem?_toArray, List.getElem?_cons_succ, List.getElem?_cons_zero] at q0
      have q1 := (hG hd6).lt
      go_wp2
      exact (HJ.out _ _ _).2 ⟨_, _, _, _, _, _, rfl, hE2, fun _ => rfl, hE5, hM, hO, hG, hZ, fun _ => rfl, h0.out, h1.out, h2.out, fun _ => rfl, fun _ => rfl, fun h h2 => h5.out h h2⟩
    | 5, _ =>
      obtain ⟨ty, ps, af, ho⟩ := op_lit hops (i := 5) (op := Op.call { callee := Callee.value (Operand.func 74), args := #[(Operand.tmp 8)], argTypes := #[29] }) (dst := some 9) (g := none) rfl
      have hd6 : dn 6 = false := by
              cases h : dn 6 with
              | false => rfl
              | true => have h3 : dn 5 = true := hE5 h; rw [hdn] at h3; cases h3
      have hq45 := hidH (hdep 4 (by simp))
      obtain rfl := h4 (hdep 4 (by simp))
      refine wpOp_lit ho (fun j b h => by cases h) ?_
      clear hops hdep ho
      replace h0 := hidH h0
      replace h1 := hidH h1
      replace h2 := hidH h2
      replace h3 := hidH h3
      replace h4 := hidH h4
      have hS0 := (hO hd6).size
      have HC := hidH (clone_any A l c W (bs_below hP (hO hd6)) hl)
      go_wp2_with fail
      refine HC.out.mono ?_
      rintro e w9 ⟨v9, rfl, o9, bb9⟩
      obtain ⟨A9, c9, e9, ob9, k9, m9⟩ := own_ob o9
      subst e9
      have HOB := hidH (ob9.owv (Nat.le_refl _) ⟨k9, m9⟩)
      have b9 := hidH bb9
      clear o9 ob9 k9 m9 bb9
      go_wp2
      exact (HJ.out _ _ _).2 ⟨_, _, _, _, _, _, rfl, hE2, hE4, fun _ => rfl, fun h => (hM h).below b9.out, fun h => btr (hO h) b9.out, fun h => (hG h).below b9.out, (fun h => by have h3 : dn 6 = true := h; rw [hd6] at h3; cases h3), fun _ => hq45.out, h0.out, h1.out, h2.out, h3.out, fun _ => rfl, fun _ => fun _ => ⟨_, _, A9, c9, rfl, HOB.out, hS0⟩⟩
    | 6, _ =>
      obtain ⟨ty, ps, af, ho⟩ := op_lit hops (i := 6) (op := Op.mapUpdate 86 (Operand.tmp 4) (Operand.tmp 6) (Operand.tmp 9)) (dst := none) (g := none) rfl
      have hq2 := hidH (hdep 2 (by simp))
      have hq5 := hidH (hdep 5 (by simp))
      have hq4 := hidH (hE54 hq5.out)
      obtain ⟨lo, hi2, A9, c9, rfl, ho9, hlo⟩ := h5 hq5.out hdn
      obtain rfl := h0 (hdep 0 (by simp))
      obtain rfl := h2 (hdep 2 (by simp))
      refine wpOp_lit ho (fun j b h => by cases h) ?_
      clear hops hdep ho
      replace h0 := hidH h0
      replace h1 := hidH h1
      replace h2 := hidH h2
      replace h3 := hidH h3
      replace h4 := hidH h4
      replace h5 := hidH h5
      obtain ⟨⟨D, d1, d2, d3⟩, d4⟩ := hM hdn
      have HD := hidH (And.intro d2 (And.intro d3 (And.intro (d1.tidy key_law) (And.intro d4 (And.intro ho9 (And.intro hlo (hO hdn)))))))
      have HN := hidH hN
      clear d2 d3 d4 ho9 hlo
      obtain ⟨w9, hr, h1, h2⟩ := d1.store key_law und_map (by have := HN.out.out; unfold maxLen; omega) (key_i64 hk) (val := .slice A9 l.length c9) (d := .held (.slice A9 l.length c9)) (ps := []) rfl
      have PR := hidH (PutR.mk' (KMap.store (w1 := W) HD.out.1 HD.out.2.1 HD.out.2.2.1 HD.out.2.2.2.1 ⟨k, .slice A9 l.length c9, l, lo, hi2⟩ HD.out.2.2.2.2.1 (by have := HD.out.2.2.2.2.2.1; show b < lo; omega) (fun y hy => Nat.le_trans (hq y hy) HD.out.2.2.2.2.2.1) h1 h2) ((below_win HD.out.2.2.2.2.2.2 _ _).trans' (turned_win h2)))
      clear h1 h2
      go_wp2
      exact (HJ.out _ _ _).2 ⟨_, _, _, _, _, _, rfl, fun _ => hq2.out, fun _ => hq4.out, fun _ => hq5.out, (fun h => by simp at h), (fun h => by simp at h), (fun h => by simp at h), fun _ => PR.out, hE54, fun _ => rfl, h1.out, fun _ => rfl, h3.out, h4.out, (fun _ h2 => by simp at h2)⟩
    | n + 7, h => omega
  case fin =>
    clear hops hdeps hback
    rintro dn ac W hJ hall
    obtain ⟨t4, t5, t6, t7, t8, t9, rfl, hE2, hE4, hE5, hM, hO, hG, hZ, hE54, h0, h1, h2, h3, h4, h5⟩ := (HJ.out _ _ _).1 hJ
    exact fin _ _ _ _ _ _ W (hZ (hall 6 (by omega)))
end Go.Proofs.Ytjjileefdjjijaa
