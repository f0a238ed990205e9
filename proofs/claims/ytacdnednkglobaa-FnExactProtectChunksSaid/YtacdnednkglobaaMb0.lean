import Derived.Test.YtacdnednkglobaaMa5
import Derived.Test.YtacdnednkglobaaMa7
import Derived.Lib.AppendZeros
import Derived.Test.YtacdnednkglobaaMa8
import Derived.Test.YtacdnednkglobaaRegInv
import Derived.Test.YtacdnednkglobaaMa9

/- slices.Grow and slices.Concat at bytes, however many slices. -/
namespace Go.Proofs.Ytacdnednkglobaa
open Go.RowKit Go.Deep

theorem wpList_append_run {w : World} {ops : Array Oper} {rest : List Oper} {o : Oper} {a : Act} {Q : Exit → Act → World → Prop} (hgd : o.guard = none) (s x : Operand) (ts : Array TypeId)
    (ho : o.op = .call { callee := .builtin .append, args := #[s, x], argTypes := ts }) (sv xv : Value) (hs : a.eval s = sv) (hx : a.eval x = xv) (d : Option Tmp) (hd : o.dst = d)
    (v : Value) (w1 : World) (hrun : ∀ ty, (Builtin.append_ ts ty #[sv, xv]).run Try.prog w = .ok v w1) (h : wpList Try.prog ops Q rest (a.put d v) w1) : wpList Try.prog ops Q (o :: rest) a w := by
  subst hd
  refine wpList_plain hgd fun K hK => ?_
  unfold Oper.wp
  simp [execOp, ho, resolve, invoke, builtin, hs, hx, hrun, Result.andThen]
  exact hK _ _ h
set_option maxHeartbeats 1000000 in
theorem grow_any (n : Nat) (w : World) (h : n ≤ 100000) : Calls Try.prog 54 #[.slice none 0 0, .int .i64 n] w fun e w' => ∃ v, e = .returned v ∧ w'.ownsRow w.heap.size 5 1 v 0 [] ∧ Below w.heap.size w w' := by
  by_cases h0 : n = 0
  · subst h0
    rw [show ((0 : Nat) : Int) = 0 from rfl]
    go_enter Try.func54, Try.ntmps54
    go_wp2
    go_ret
    exact ⟨_, rfl, ⟨rfl, .inl ⟨rfl, rfl⟩⟩, Below.refl _ _⟩
  · obtain ⟨i0, hi, hz0, hz1, hz2⟩ := info_parts infoU8
    have hnI : (0 : Int) < (n : Int) := by omega
    have hnJ : (n : Int) ≤ 100000 := by omega
    have hap : ∀ ty, (Builtin.append_ #[25, 3] ty #[.slice none 0 0, .int .i64 n]).run Try.prog w = .ok (.slice (some ⟨w.heap.size, 0, none⟩) n (grownCap w n 0 5)) (w.drew.alloc (.cells (Builtin.zeroCells #[.int .u8 0] n ++ Builtin.zeroCells #[.int .u8 0] (grownCap w n 0 5 - n)) 5)) := fun ty =>
      Lib.run_append_nil_zeros w 25 3 ty 5 i0 (.int .u8 0) .i64 .i64 Try.underlying25 (by kernel_rfl) hi hz0 n (by omega) (by rw [hz1]; omega) (by omega) (by rw [hz2]; omega)
    have hge := grownCap_ge w n 0 5
    have hle := grownCap_le_maxLen w n 0 5 (by unfold maxLen; omega)
    generalize grownCap w n 0 5 = c at *
    have hsz : (Builtin.zeroCells #[Value.int .u8 0] n ++ Builtin.zeroCells #[Value.int .u8 0] (c - n)).size = c * 1 := by
      rw [Array.size_append, size_zeroCells, size_zeroCells]; simp; omega
    generalize Builtin.zeroCells #[Value.int .u8 0] n ++ Builtin.zeroCells #[Value.int .u8 0] (c - n) = cs at *
    have HC := hidH (And.intro hge (And.intro hle hsz))
    have hc : (0 : Int) ≤ (c : Int) := by omega
    have HAP := hidH hap
    clear hi hz0 hz1 hz2 hge hle hsz h0 hap
    go_enter Try.func54, Try.ntmps54
    go_wp2_with (at_builtin; refine wpList_append_run rfl _ _ _ rfl (.slice none 0 0) (.int .i64 n) rfl rfl _ rfl _ _ HAP.out ?_)
    go_ret
    refine ⟨_, rfl, ⟨rfl, .inr ⟨w.heap.size, c, cs, rfl, Nat.le_refl _, ?_, by omega, HC.out.2.1, HC.out.2.2, by simp⟩⟩, bal (Below.refl _ _).drew _⟩
    exact heap_alloc_new w.drew _
/-- Slices of bytes in a row of their own. -/
def Parts (w : World) (g : Nat) (ps : List (List Int)) : Prop :=
  g < w.heap.size ∧ ∀ i (hi : i < ps.length), ∃ A c, w.cell? ⟨g, i, none⟩ = some (.slice A ps[i].length c) ∧ Bs w A ps[i]
theorem Parts.below {w w' : World} {g : Nat} {ps : List (List Int)} (h : Parts w g ps) (hb : Below w.heap.size w w') : Parts w' g ps :=
  ⟨Nat.lt_of_lt_of_le h.1 hb.size, fun i hi => by
    obtain ⟨A, c, h1, h2⟩ := h.2 i hi
    exact ⟨A, c, (hb.cell (p := ⟨g, i, none⟩) h.1).trans h1, bs_below h2 hb⟩⟩
def catP (ps : List (List Int)) (k : Nat) : List Int := (ps.take k).flatten
theorem catP_succ (ps : List (List Int)) (k : Nat) (hk : k < ps.length) : catP ps (k + 1) = catP ps k ++ ps[k] := by
  rw [catP, catP, List.take_add_one, List.getElem?_eq_getElem hk, Option.toList_some, List.flatten_append]
  simp
theorem catP_le (ps : List (List Int)) (k : Nat) : (catP ps k).length ≤ ps.flatten.length := by
  have h : ps.flatten = catP ps k ++ (ps.drop k).flatten := by rw [catP, ← List.flatten_append, List.take_append_drop]
  rw [h, List.length_append]
  omega
set_option maxRecDepth 100000 in
set_option maxHeartbeats 1000000 in
theorem concat_all (g c : Nat) (ps : List (List Int)) (w : World) (hg : Parts w g ps) (hn : ps.length ≤ 100) (ht : ps.flatten.length ≤ 40000) :
    Calls Try.prog 45 #[.slice (some ⟨g, 0, none⟩) ps.length c] w (OwnB w ps.flatten) := by
  have HG := hidH hg
  have HT := hidH ht
  have HLE := hidH (catP_le ps)
  have HS := hidH (catP_succ ps)
  have HZ := hidH (show catP ps ps.length = ps.flatten by rw [catP, List.take_length])
  have hnI : (ps.length : Int) ≤ 100 := by omega
  clear hg ht
  go_enter Try.func45, Try.ntmps45
  go_wp2
  go_loopw [3, 11] (fun s i wr => ∃ k : Nat, k ≤ ps.length ∧ i = .int .i64 k ∧ s = .int .i64 ((catP ps k).length : Nat) ∧ w = wr) (fun _ i _ => ps.length - (intOf i).toNat)
  case atStart => exact ⟨0, by omega, rfl, rfl, rfl⟩
  case round =>
    obtain ⟨k, hk, rfl, rfl, rfl⟩ := hrel
    by_cases hlt : k < ps.length
    · obtain ⟨A, cA, e1, _⟩ := HG.out.2 k hlt
      have hk0 : (0 : Int) ≤ (k : Int) := by omega
      have hk1 : (k : Int) < (ps.length : Int) := by omega
      have h1 := HLE.out k
      have h2 := HLE.out (k + 1)
      have h3 := HS.out k hlt
      have h4 : (catP ps (k + 1)).length = (catP ps k).length + ps[k].length := by rw [h3, List.length_append]
      have h5 : ((catP ps k).length : Int) ≤ 40000 := by have := HT.out; omega
      have h6 : (ps[k].length : Int) ≤ 40000 := by have := HT.out; omega
      obtain ⟨x, hx⟩ : ∃ x, (catP ps k).length = x := ⟨_, rfl⟩
      obtain ⟨y, hy⟩ : ∃ y, ps[k].length = y := ⟨_, rfl⟩
      rw [hx] at h5 h4
      rw [hy] at h6 h4 e1
      rw [hx]
      have H4 := hidH h4
      clear h1 h2 h3 h4 hx hy
      go_wp2
      go_round
      case rel => exact ⟨k + 1, by omega, by go_num, by rw [H4.out]; go_num, trivial⟩
      case measure => simp [intOf]; omega
    · obtain rfl : k = ps.length := by omega
      have hgr := grow_any ps.flatten.length w (by have := HT.out; omega)
      rw [HZ.out]
      have HGR := hidH hgr
      obtain ⟨x, hx⟩ : ∃ x, ps.flatten.length = x := ⟨_, rfl⟩
      rw [hx] at HGR ⊢
      clear hgr hlt hk hx
      go_wp2_with fail
      refine HGR.out.mono ?_
      rintro e w1 ⟨v, rfl, o1, b1⟩
      have O1 := hidH o1
      have B1 := hidH b1
      clear o1 b1 HGR
      go_wp2
      go_loopw [6, 27] (fun v i wr => ∃ k : Nat, k ≤ ps.length ∧ i = .int .i64 k ∧ wr.ownsRow w.heap.size 5 1 v (catP ps k).length ((catP ps k).map (Value.int .u8)) ∧ Below w.heap.size w wr) (fun _ i _ => ps.length - (intOf i).toNat)
      case atStart => exact ⟨0, by omega, rfl, O1.out, B1.out⟩
      case round =>
        obtain ⟨k, hk, rfl, ho, hbw⟩ := hrel
        by_cases hlt : k < ps.length
        · obtain ⟨A, cA, e1, s1⟩ := (HG.out.below hbw).2 k hlt
          have hk0 : (0 : Int) ≤ (k : Int) := by omega
          have hk1 : (k : Int) < (ps.length : Int) := by omega
          have hsz := hbw.size
          have HLN := hidH (show (catP ps k).length + ps[k].length ≤ 4000000 by
            have h2 := HLE.out (k + 1)
            have h3 := HS.out k hlt
            have := HT.out
            rw [h3, List.length_append] at h2
            omega)
          have HS1 := hidH s1
          have HO := hidH ho
          have HW := hidH hbw
          clear ho hbw s1
          go_wp2_with (at_builtin; refine wpList_append_bs rfl _ _ rfl w.heap.size _ _ _ rfl HO.out A ps[k] cA rfl HS1.out HLN.out hsz ?_)
          intro v' w2 o2 g2
          have B2 := hidH (HW.out.grown g2 hsz (fun k hk => (HO.out.lt k hk).1))
          have O2 := hidH (show w2.ownsRow w.heap.size 5 1 v' (catP ps (k + 1)).length ((catP ps (k + 1)).map (Value.int .u8)) from by rw [HS.out k hlt]; simpa using o2)
          clear o2 g2 HO HW HS1 e1 HLN
          go_wp2
          go_roundw
          case rel => exact ⟨k + 1, by omega, by go_num, O2.out, B2.out⟩
          case measure => simp [intOf]; omega
        · obtain rfl : k = ps.length := by omega
          rw [HZ.out] at ho
          have HO := hidH ho
          have HW := hidH hbw
          clear ho hbw hlt hk
          go_wp2
          go_ret
          exact ⟨_, rfl, HO.out, HW.out⟩
end Go.Proofs.Ytacdnednkglobaa

/- The region of PackChunk that draws its order. -/
namespace Go.Proofs.Ytacdnednkglobaa
open Go.RowKit Go.Deep

theorem zeros_bs {w : World} {B g n : Nat} (h : w.ownsRow B 5 1 (.slice (some ⟨g, 0, none⟩) n n) n (madeCells #[Value.int IntKind.u8 0] n).toList) : Bs w (some ⟨g, 0, none⟩) (List.replicate n 0) := by
  rw [toList_madeCells_one] at h
  obtain ⟨A, cp, hv, ob, _⟩ := own_ob (d := List.replicate n 0) (by simpa using h)
  simp only [Value.slice.injEq] at hv
  rw [hv.1]
  exact ob.bs
theorem parts3 {w : World} {q : Nat} {t : TypeId} {A1 A2 A3 : Option Addr} {n1 n2 n3 c1 c2 c3 : Nat} (h : Blk w q t #[.slice A1 n1 c1, .slice A2 n2 c2, .slice A3 n3 c3]) {l1 l2 l3 : List Int} (e1 : n1 = l1.length) (e2 : n2 = l2.length) (e3 : n3 = l3.length)
    (h1 : Bs w A1 l1) (h2 : Bs w A2 l2) (h3 : Bs w A3 l3) : Parts w q [l1, l2, l3] := by
  subst e1 e2 e3
  refine ⟨h.lt, fun i hi => ?_⟩
  match i, hi with
  | 0, _ => exact ⟨A1, c1, h.cell 0, h1⟩
  | 1, _ => exact ⟨A2, c2, h.cell 1, h2⟩
  | 2, _ => exact ⟨A3, c3, h.cell 2, h3⟩
theorem parts2 {w : World} {q : Nat} {t : TypeId} {A1 A2 : Option Addr} {n1 n2 c1 c2 : Nat} (h : Blk w q t #[.slice A1 n1 c1, .slice A2 n2 c2]) {l1 l2 : List Int} (e1 : n1 = l1.length) (e2 : n2 = l2.length)
    (h1 : Bs w A1 l1) (h2 : Bs w A2 l2) : Parts w q [l1, l2] := by
  subst e1 e2
  refine ⟨h.lt, fun i hi => ?_⟩
  match i, hi with
  | 0, _ => exact ⟨A1, c1, h.cell 0, h1⟩
  | 1, _ => exact ⟨A2, c2, h.cell 1, h2⟩
theorem blk_set2 {w : World} {g : Nat} {t : TypeId} {a b : Value} (h : Blk w g t #[a, b]) (u v : Value) : Blk ((w.setCell ⟨g, 0, none⟩ u).setCell ⟨g, 1, none⟩ v) g t #[u, v] := by
  have h1 := heap_setCell_same w g 0 _ _ u h
  have h2 := heap_setCell_same _ g 1 _ _ v h1
  unfold Blk
  rw [h2]
  rfl
/-- What PackChunk's last region reads: the chunk in its block, the head in its. -/
structure PcM (g h : Nat) (k f : Int) (A : Option Addr) (b : List Int) (c : Nat) (W : World) : Prop where
  ck : Blk W g 51 #[.int .i64 k, .int .i64 f, .slice A b.length c]
  hh : Blk W h 5 #[.int .u8 k, .int .u8 f, .int .u8 ((4 + (b.length : Int)) / 256), .int .u8 (4 + (b.length : Int))]
theorem PcM.below {g h : Nat} {k f : Int} {A : Option Addr} {b : List Int} {c : Nat} {u v : World} (x : PcM g h k f A b c u) (hb : Below u.heap.size u v) : PcM g h k f A b c v := ⟨x.ck.below hb, x.hh.below hb⟩
theorem PcM.set {g h : Nat} {k f : Int} {A : Option Addr} {b : List Int} {c : Nat} {u : World} (x : PcM g h k f A b c u) (r o : Nat) (hg : g ≠ r) (hh : h ≠ r) (v : Value) : PcM g h k f A b c (u.setCell ⟨r, o, none⟩ v) :=
  ⟨(win_set u r o v).blk x.ck (by omega), (win_set u r o v).blk x.hh (by omega)⟩
theorem PcM.hd {g h : Nat} {k f : Int} {A : Option Addr} {b : List Int} {c : Nat} {u : World} (x : PcM g h k f A b c u) : Bs u (some ⟨h, 0, none⟩) [k, f, (4 + (b.length : Int)) / 256, 4 + (b.length : Int)] :=
  .inr ⟨h, 0, rfl, x.hh.lt, fun j hj => by
    rw [Nat.zero_add, x.hh.cell]
    match j, hj with
    | 0, _ => rfl
    | 1, _ => rfl
    | 2, _ => rfl
    | 3, _ => rfl⟩
set_option maxRecDepth 100000 in
set_option maxHeartbeats 1000000 in
theorem regPc {Q : Exit → Act → World → Prop} (x0 x3 x4 x6 x7 x8 x9 x10 x11 x12 x13 x14 x15 x16 x17 x18 x19 x20 x21 x22 x23 x24 x25 x26 x27 : Value) (ws : World) (g r h : Nat) (k f : Int) (A : Option Addr) (b : List Int) (c : Nat) (L : List Int) (p : Nat) (hp : Hid (p = chPad b.length)) (hb0 : (b.length : Int) ≤ 160) (HB : Hid (Bs ws A b)) (hgr : g ≠ r) (hhr : h ≠ r) (hr0 : ws.heap.size ≤ r)
    (CON : ∀ (u : World) (q : Nat), Parts u q [[k, f, (4 + (b.length : Int)) / 256, 4 + (b.length : Int)], b, List.replicate p 0] → Calls Try.prog 45 #[.slice (some ⟨q, 0, none⟩) 3 3] u (OwnB u L)) {ops : Array Oper}
    (hops : (ops.map fun o => (o.op, o.dst, o.guard)) = #[(Op.move (Operand.tmp 5), some 28, none), (Op.fieldAddr 51 (Operand.tmp 1) 2, some 29, none), (Op.load 25 (Operand.tmp 29), some 30, none), (Op.fieldAddr 51 (Operand.tmp 1) 2, some 31, none), (Op.load 25 (Operand.tmp 31), some 32, none), (Op.call { callee := Callee.value (Operand.func 46), args := #[(Operand.tmp 32)], argTypes := #[25] }, some 33, none), (Op.makeSlice 25 (Operand.tmp 33) (Operand.tmp 33), some 34, none), (Op.buildSlice 72 3 #[(0, (Operand.tmp 28)), (1, (Operand.tmp 30)), (2, (Operand.tmp 34))], some 35, none), (Op.call { callee := Callee.value (Operand.func 45), args := #[(Operand.tmp 35)], argTypes := #[72] }, some 36, none), (Op.build 27 #[(1, (Operand.tmp 36))], some 37, none), (Op.store 27 (Operand.tmp 2) (Operand.tmp 37), none, none)])
    (hdeps : ((List.range 11).all fun i => ((fun i => [[], [], [1], [], [3], [4], [5], [0, 2, 6], [7], [8], [0, 1, 2, 3, 4, 5, 6, 7, 8, 9]].getD i []) i).all fun j => ((ops[i]?).map fun o => o.after.any fun e => Region.binds .any e && e.on == j).getD false) = true)
    (hback : ((List.range 11).all fun i => ((ops[i]?).map fun o => o.after.all fun e => decide (e.on < i)).getD false) = true)
    {a0 : Act} {w0 : World} (ha : a0 = { tmps := #[x0, .pointer (some ⟨g, 0, none⟩), .pointer (some ⟨r, 0, none⟩), x3, x4, .slice (some ⟨h, 0, none⟩) 4 4, x6, x7, x8, x9, x10, x11, x12, x13, x14, x15, x16, x17, x18, x19, x20, x21, x22, x23, x24, x25, x26, x27, undef, undef, undef, undef, undef, undef, undef, undef, undef, undef], defers := [] }) (hE : (false = true → false = true) ∧ (false = true → false = true) ∧ (false = true → false = true) ∧ (false = true → false = true)) (hM : PcM g h k f A b c w0) (hR : false = false → Blk w0 r 27 #[.int .i64 0, .slice none 0 0]) (hW : Below ws.heap.size ws w0) (hS : w0.heap.size ≤ w0.heap.size) (hr1 : r < w0.heap.size)
    (fin : ∀ t28 t29 t30 t31 t32 t33 t34 t35 t36 t37 (W : World), (Below ws.heap.size ws W) → (∃ (A8 : Option Addr) (c8 : Nat), Blk W r 27 #[.int .i64 0, (.slice A8 L.length c8)] ∧ W.ownsRow w0.heap.size 5 1 (.slice A8 L.length c8) L.length (L.map (Value.int .u8)) ∧ L.length ≤ c8 ∧ (c8 : Int) ≤ 9223372036854775807) → Q .normal { tmps := #[x0, .pointer (some ⟨g, 0, none⟩), .pointer (some ⟨r, 0, none⟩), x3, x4, .slice (some ⟨h, 0, none⟩) 4 4, x6, x7, x8, x9, x10, x11, x12, x13, x14, x15, x16, x17, x18, x19, x20, x21, x22, x23, x24, x25, x26, x27, t28, t29, t30, t31, t32, t33, t34, t35, t36, t37], defers := [] } W) :
    wpAny Try.prog .any ops Q ops.size (Array.replicate ops.size false) a0 w0 := by
  have hn : ops.size = 11 := by have := congrArg Array.size hops; simpa using this
  obtain ⟨J, HJ⟩ : ∃ J : (Nat → Bool) → Act → World → Prop, ∀ dn ac W, J dn ac W ↔ (fun dn ac W => ∃ t28 t29 t30 t31 t32 t33 t34 t35 t36 t37, ac = { tmps := #[x0, .pointer (some ⟨g, 0, none⟩), .pointer (some ⟨r, 0, none⟩), x3, x4, .slice (some ⟨h, 0, none⟩) 4 4, x6, x7, x8, x9, x10, x11, x12, x13, x14, x15, x16, x17, x18, x19, x20, x21, x22, x23, x24, x25, x26, x27, t28, t29, t30, t31, t32, t33, t34, t35, t36, t37], defers := [] } ∧ ((dn 10 = true → dn 9 = true) ∧ (dn 9 = true → dn 8 = true) ∧ (dn 8 = true → dn 7 = true) ∧ (dn 7 = true → dn 6 = true)) ∧ (PcM g h k f A b c W) ∧ (dn 10 = false → Blk W r 27 #[.int .i64 0, .slice none 0 0]) ∧ (Below ws.heap.size ws W) ∧ (w0.heap.size ≤ W.heap.size) ∧ (r < w0.heap.size) ∧ (dn 0 = true → t28 = .slice (some ⟨h, 0, none⟩) 4 4) ∧ (dn 1 = true → t29 = .pointer (some ⟨g, 2, none⟩)) ∧ (dn 2 = true → t30 = .slice A b.length c) ∧ (dn 3 = true → t31 = .pointer (some ⟨g, 2, none⟩)) ∧ (dn 4 = true → t32 = .slice A b.length c) ∧ (dn 5 = true → t33 = .int .i64 ((p : Nat) : Int)) ∧ (dn 6 = true → dn 7 = false → ∃ (z : Nat), t34 = .slice (some ⟨z, 0, none⟩) p p ∧ Bs W (some ⟨z, 0, none⟩) (List.replicate p 0)) ∧ (dn 7 = true → dn 8 = false → ∃ (q : Nat), t35 = .slice (some ⟨q, 0, none⟩) 3 3 ∧ Parts W q [[k, f, (4 + (b.length : Int)) / 256, 4 + (b.length : Int)], b, List.replicate p 0]) ∧ (dn 8 = true → dn 9 = false → ∃ (A8 : Option Addr) (c8 : Nat), t36 = (.slice A8 L.length c8) ∧ W.ownsRow w0.heap.size 5 1 (.slice A8 L.length c8) L.length (L.map (Value.int .u8)) ∧ L.length ≤ c8 ∧ (c8 : Int) ≤ 9223372036854775807) ∧ (dn 9 = true → dn 10 = false → ∃ (A8 : Option Addr) (c8 : Nat), t37 = .agg #[.int .i64 0, (.slice A8 L.length c8)] ∧ W.ownsRow w0.heap.size 5 1 (.slice A8 L.length c8) L.length (L.map (Value.int .u8)) ∧ L.length ≤ c8 ∧ (c8 : Int) ≤ 9223372036854775807) ∧ (dn 10 = true → ∃ (A8 : Option Addr) (c8 : Nat), Blk W r 27 #[.int .i64 0, (.slice A8 L.length c8)] ∧ W.ownsRow w0.heap.size 5 1 (.slice A8 L.length c8) L.length (L.map (Value.int .u8)) ∧ L.length ≤ c8 ∧ (c8 : Int) ≤ 9223372036854775807)) dn ac W := ⟨_, fun _ _ _ => Iff.rfl⟩
  replace HJ := hidH HJ
  refine region_inv 11 (fun i => [[], [], [1], [], [3], [4], [5], [0, 2, 6], [7], [8], [0, 1, 2, 3, 4, 5, 6, 7, 8, 9]].getD i []) J hn hdeps hback ?start ?step ?fin
  case start => exact (HJ.out _ _ _).2 ⟨undef, undef, undef, undef, undef, undef, undef, undef, undef, undef, ha, hE, hM, hR, hW, hS, hr1, fun h => by simp at h, fun h => by simp at h, fun h => by simp at h, fun h => by simp at h, fun h => by simp at h, fun h => by simp at h, fun h => by simp at h, fun h => by simp at h, fun h => by simp at h, fun h => by simp at h, fun h => by simp at h⟩
  all_goals clear ha hE hM hR hW hS hr1
  case step =>
    clear fin hdeps hback
    intro i hi dn ac W hJ hdn hdep
    obtain ⟨t28, t29, t30, t31, t32, t33, t34, t35, t36, t37, rfl, hE, hM, hR, hW, hS, hr1, h0, h1, h2, h3, h4, h5, h6, h7, h8, h9, h10⟩ := (HJ.out _ _ _).1 hJ
    clear hJ
    match i, hi with
    | 0, _ =>
      obtain ⟨ty, ps, af, ho⟩ := op_lit hops (i := 0) (op := Op.move (Operand.tmp 5)) (dst := some 28) (g := none) rfl
      refine wpOp_lit ho (fun j b h => by cases h) ?_
      clear hops hdep ho
      replace h1 := hidH h1
      replace h2 := hidH h2
      replace h3 := hidH h3
      replace h4 := hidH h4
      replace h5 := hidH h5
      replace h6 := hidH h6
      replace h7 := hidH h7
      replace h8 := hidH h8
      replace h9 := hidH h9
      replace h10 := hidH h10
      go_wp2
      exact (HJ.out _ _ _).2 ⟨_, _, _, _, _, _, _, _, _, _, rfl, hE, hM, hR, hW, hS, hr1, fun _ => rfl, h1.out, h2.out, h3.out, h4.out, h5.out, h6.out, h7.out, h8.out, h9.out, h10.out⟩
    | 1, _ =>
      obtain ⟨ty, ps, af, ho⟩ := op_lit hops (i := 1) (op := Op.fieldAddr 51 (Operand.tmp 1) 2) (dst := some 29) (g := none) rfl
      refine wpOp_lit ho (fun j b h => by cases h) ?_
      clear hops hdep ho
      replace h0 := hidH h0
      replace h2 := hidH h2
      replace h3 := hidH h3
      replace h4 := hidH h4
      replace h5 := hidH h5
      replace h6 := hidH h6
      replace h7 := hidH h7
      replace h8 := hidH h8
      replace h9 := hidH h9
      replace h10 := hidH h10
      go_wp2
      exact (HJ.out _ _ _).2 ⟨_, _, _, _, _, _, _, _, _, _, rfl, hE, hM, hR, hW, hS, hr1, h0.out, fun _ => rfl, h2.out, h3.out, h4.out, h5.out, h6.out, h7.out, h8.out, h9.out, h10.out⟩
    | 2, _ =>
      obtain ⟨ty, ps, af, ho⟩ := op_lit hops (i := 2) (op := Op.load 25 (Operand.tmp 29)) (dst := some 30) (g := none) rfl
      obtain rfl := h1 (hdep 1 (by simp))
      refine wpOp_lit ho (fun j b h => by cases h) ?_
      clear hops hdep ho
      replace h0 := hidH h0
      replace h1 := hidH h1
      replace h3 := hidH h3
      replace h4 := hidH h4
      replace h5 := hidH h5
      replace h6 := hidH h6
      replace h7 := hidH h7
      replace h8 := hidH h8
      replace h9 := hidH h9
      replace h10 := hidH h10
      have q2 := hM.ck.cell 2
      simp only [List.getElem?_toArray, List.getElem?_cons_succ, List.getElem?_cons_zero] at q2
      go_wp2
      exact (HJ.out _ _ _).2 ⟨_, _, _, _, _, _, _, _, _, _, rfl, hE, hM, hR, hW, hS, hr1, h0.out, fun _ => rfl, fun _ => rfl, h3.out, h4.out, h5.out, h6.out, h7.out, h8.out, h9.out, h10.out⟩
    | 3, _ =>
      obtain ⟨ty, ps, af, ho⟩ := op_lit hops (i := 3) (op := Op.fieldAddr 51 (Operand.tmp 1) 2) (dst := some 31) (g := none) rfl
      refine wpOp_lit ho (fun j b h => by cases h) ?_
      clear hops hdep ho
      replace h0 := hidH h0
      replace h1 := hidH h1
      replace h2 := hidH h2
      replace h4 := hidH h4
      replace h5 := hidH h5
      replace h6 := hidH h6
      replace h7 := hidH h7
      replace h8 := hidH h8
      replace h9 := hidH h9
      replace h10 := hidH h10
      go_wp2
      exact (HJ.out _ _ _).2 ⟨_, _, _, _, _, _, _, _, _, _, rfl, hE, hM, hR, hW, hS, hr1, h0.out, h1.out, h2.out, fun _ => rfl, h4.out, h5.out, h6.out, h7.out, h8.out, h9.out, h10.out⟩
    | 4, _ =>
      obtain ⟨ty, ps, af, ho⟩ := op_lit hops (i := 4) (op := Op.load 25 (Operand.tmp 31)) (dst := some 32) (g := none) rfl
      obtain rfl := h3 (hdep 3 (by simp))
      refine wpOp_lit ho (fun j b h => by cases h) ?_
      clear hops hdep ho
      replace h0 := hidH h0
      replace h1 := hidH h1
      replace h2 := hidH h2
      replace h3 := hidH h3
      replace h5 := hidH h5
      replace h6 := hidH h6
      replace h7 := hidH h7
      replace h8 := hidH h8
      replace h9 := hidH h9
      replace h10 := hidH h10
      have q2 := hM.ck.cell 2
      simp only [List.getElem?_toArray, List.getElem?_cons_succ, List.getElem?_cons_zero] at q2
      go_wp2
      exact (HJ.out _ _ _).2 ⟨_, _, _, _, _, _, _, _, _, _, rfl, hE, hM, hR, hW, hS, hr1, h0.out, h1.out, h2.out, fun _ => rfl, fun _ => rfl, h5.out, h6.out, h7.out, h8.out, h9.out, h10.out⟩
    | 5, _ =>
      obtain ⟨ty, ps, af, ho⟩ := op_lit hops (i := 5) (op := Op.call { callee := Callee.value (Operand.func 46), args := #[(Operand.tmp 32)], argTypes := #[25] }) (dst := some 33) (g := none) rfl
      obtain rfl := h4 (hdep 4 (by simp))
      refine wpOp_lit ho (fun j b h => by cases h) ?_
      clear hops hdep ho
      replace h0 := hidH h0
      replace h1 := hidH h1
      replace h2 := hidH h2
      replace h3 := hidH h3
      replace h4 := hidH h4
      replace h6 := hidH h6
      replace h7 := hidH h7
      replace h8 := hidH h8
      replace h9 := hidH h9
      replace h10 := hidH h10
      go_wp2_with fail
      refine (padz_any A b.length c _ (by omega)).mono ?_
      rintro e w1 ⟨rfl, rfl⟩
      rw [← hp.out]
      go_wp2
      exact (HJ.out _ _ _).2 ⟨_, _, _, _, _, _, _, _, _, _, rfl, hE, hM, hR, hW, hS, hr1, h0.out, h1.out, h2.out, h3.out, fun _ => rfl, fun _ => rfl, h6.out, h7.out, h8.out, h9.out, h10.out⟩
    | 6, _ =>
      obtain ⟨ty, ps, af, ho⟩ := op_lit hops (i := 6) (op := Op.makeSlice 25 (Operand.tmp 33) (Operand.tmp 33)) (dst := some 34) (g := none) rfl
      obtain rfl := h5 (hdep 5 (by simp))
      refine wpOp_lit ho (fun j b h => by cases h) ?_
      clear hops hdep ho
      replace h0 := hidH h0
      replace h1 := hidH h1
      replace h2 := hidH h2
      replace h3 := hidH h3
      replace h4 := hidH h4
      replace h5 := hidH h5
      replace h7 := hidH h7
      replace h8 := hidH h8
      replace h9 := hidH h9
      replace h10 := hidH h10
      obtain ⟨i0, hi, hz0, hz1, hz2⟩ := info_parts infoU8
      have HI := hidH (And.intro hi (And.intro hz0 (And.intro hz1 hz2)))
      clear hi hz0 hz1 hz2
      have hp4 : p < 4 := by rw [hp.out]; unfold chPad; omega
      go_wp2_with (refine wpList_make_full _ rfl _ _ _ rfl W.heap.size 5 i0 _ 1 Try.underlying25 HI.out.1 HI.out.2.1 HI.out.2.2.1 .i64 .i64 _ _ p rfl rfl rfl rfl (by rw [HI.out.2.2.2]; omega) (by unfold maxLen; omega) (Nat.le_refl _) ?_)
      intro w2 o2 g2
      have hb := (Below.refl W.heap.size W).grown g2 (Nat.le_refl _) (fun k hk => by cases hk)
      have S6 := hidH (zeros_bs o2)
      clear o2 g2
      go_wp2
      exact (HJ.out _ _ _).2 ⟨_, _, _, _, _, _, _, _, _, _, rfl, ⟨hE.1, hE.2.1, hE.2.2.1, fun _ => rfl⟩, hM.below hb, fun h => (hR h).below hb, btr hW hb, Nat.le_trans hS hb.size, hr1, h0.out, h1.out, h2.out, h3.out, h4.out, fun _ => rfl, fun _ => fun _ => ⟨_, rfl, S6.out⟩, fun h h2 => by obtain ⟨q, q1, q2⟩ := h7.out h h2; exact ⟨q, q1, q2.below hb⟩, fun h h2 => by obtain ⟨A8, c8, q1, q2, q3⟩ := h8.out h h2; exact ⟨A8, c8, q1, own_below0 q2 hb, q3⟩, fun h h2 => by obtain ⟨A8, c8, q1, q2, q3⟩ := h9.out h h2; exact ⟨A8, c8, q1, own_below0 q2 hb, q3⟩, (fun h => by have h3 : dn 6 = true := hE.2.2.2 (hE.2.2.1 (hE.2.1 (hE.1 h))); rw [hdn] at h3; cases h3)⟩
    | 7, _ =>
      obtain ⟨ty, ps, af, ho⟩ := op_lit hops (i := 7) (op := Op.buildSlice 72 3 #[(0, (Operand.tmp 28)), (1, (Operand.tmp 30)), (2, (Operand.tmp 34))]) (dst := some 35) (g := none) rfl
      have hd6 := hidH (hdep 6 (by simp))
      obtain ⟨z, rfl, q2⟩ := h6 (hdep 6 (by simp)) hdn
      obtain rfl := h0 (hdep 0 (by simp))
      obtain rfl := h2 (hdep 2 (by simp))
      refine wpOp_lit ho (fun j b h => by cases h) ?_
      clear hops hdep ho
      replace h0 := hidH h0
      replace h1 := hidH h1
      replace h2 := hidH h2
      replace h3 := hidH h3
      replace h4 := hidH h4
      replace h5 := hidH h5
      replace h6 := hidH h6
      replace h8 := hidH h8
      replace h9 := hidH h9
      replace h10 := hidH h10
      go_wp2
      have hb := bal (Below.refl W.heap.size W) (.cells #[.slice (some ⟨h, 0, none⟩) 4 4, .slice A b.length c, .slice (some ⟨z, 0, none⟩) p p] 25)
      have hbd := bs_below HB.out hW
      have S7 := hidH (parts3 (Blk.new W 25 #[.slice (some ⟨h, 0, none⟩) 4 4, .slice A b.length c, .slice (some ⟨z, 0, none⟩) p p]) (l1 := [k, f, (4 + (b.length : Int)) / 256, 4 + (b.length : Int)]) (l2 := b) (l3 := List.replicate p 0) rfl rfl List.length_replicate.symm (bs_below hM.hd hb) (bs_below hbd hb) (bs_below q2 hb))
      exact (HJ.out _ _ _).2 ⟨_, _, _, _, _, _, _, _, _, _, rfl, ⟨hE.1, hE.2.1, fun _ => rfl, fun _ => hd6.out⟩, hM.below hb, fun h => (hR h).below hb, btr hW hb, Nat.le_trans hS hb.size, hr1, fun _ => rfl, h1.out, fun _ => rfl, h3.out, h4.out, h5.out, (fun _ h2 => by simp at h2), fun _ => fun _ => ⟨_, rfl, S7.out⟩, fun h h2 => by obtain ⟨A8, c8, q1, q2, q3⟩ := h8.out h h2; exact ⟨A8, c8, q1, own_below0 q2 hb, q3⟩, fun h h2 => by obtain ⟨A8, c8, q1, q2, q3⟩ := h9.out h h2; exact ⟨A8, c8, q1, own_below0 q2 hb, q3⟩, (fun h => by have h3 : dn 7 = true := hE.2.2.1 (hE.2.1 (hE.1 h)); rw [hdn] at h3; cases h3)⟩
    | 8, _ =>
      obtain ⟨ty, ps, af, ho⟩ := op_lit hops (i := 8) (op := Op.call { callee := Callee.value (Operand.func 45), args := #[(Operand.tmp 35)], argTypes := #[72] }) (dst := some 36) (g := none) rfl
      have hd7 := hidH (hdep 7 (by simp))
      obtain ⟨q, rfl, q2⟩ := h7 (hdep 7 (by simp)) hdn
      refine wpOp_lit ho (fun j b h => by cases h) ?_
      clear hops hdep ho
      replace h0 := hidH h0
      replace h1 := hidH h1
      replace h2 := hidH h2
      replace h3 := hidH h3
      replace h4 := hidH h4
      replace h5 := hidH h5
      replace h6 := hidH h6
      replace h7 := hidH h7
      replace h9 := hidH h9
      replace h10 := hidH h10
      go_wp2_with fail
      refine (CON _ q q2).mono ?_
      rintro e w1 ⟨v, rfl, ow, hb⟩
      obtain ⟨A8, c8, rfl, _, h81, h82⟩ := own_ob ow
      have o8 := hidH (own_mono ow hS)
      have hc8 := hidH (And.intro h81 h82)
      clear ow h81 h82
      go_wp2
      exact (HJ.out _ _ _).2 ⟨_, _, _, _, _, _, _, _, _, _, rfl, ⟨hE.1, fun _ => rfl, fun _ => hd7.out, hE.2.2.2⟩, hM.below hb, fun h => (hR h).below hb, btr hW hb, Nat.le_trans hS hb.size, hr1, h0.out, h1.out, h2.out, h3.out, h4.out, h5.out, fun h h2 => by obtain ⟨z, q1, q2⟩ := h6.out h h2; exact ⟨z, q1, bs_below q2 hb⟩, (fun _ h2 => by simp at h2), fun _ => fun _ => ⟨A8, c8, rfl, o8.out, hc8.out⟩, fun h h2 => by obtain ⟨A8, c8, q1, q2, q3⟩ := h9.out h h2; exact ⟨A8, c8, q1, own_below0 q2 hb, q3⟩, (fun h => by have h3 : dn 8 = true := hE.2.1 (hE.1 h); rw [hdn] at h3; cases h3)⟩
    | 9, _ =>
      obtain ⟨ty, ps, af, ho⟩ := op_lit hops (i := 9) (op := Op.build 27 #[(1, (Operand.tmp 36))]) (dst := some 37) (g := none) rfl
      have hd8 := hidH (hdep 8 (by simp))
      obtain ⟨A8, c8, rfl, q2, q3⟩ := h8 (hdep 8 (by simp)) hdn
      refine wpOp_lit ho (fun j b h => by cases h) ?_
      clear hops hdep ho
      replace h0 := hidH h0
      replace h1 := hidH h1
      replace h2 := hidH h2
      replace h3 := hidH h3
      replace h4 := hidH h4
      replace h5 := hidH h5
      replace h6 := hidH h6
      replace h7 := hidH h7
      replace h8 := hidH h8
      replace h10 := hidH h10
      have hb := Below.refl W.heap.size W
      go_wp2
      exact (HJ.out _ _ _).2 ⟨_, _, _, _, _, _, _, _, _, _, rfl, ⟨fun _ => rfl, fun _ => hd8.out, hE.2.2⟩, hM.below hb, fun h => (hR h).below hb, btr hW hb, Nat.le_trans hS hb.size, hr1, h0.out, h1.out, h2.out, h3.out, h4.out, h5.out, fun h h2 => by obtain ⟨z, q1, q2⟩ := h6.out h h2; exact ⟨z, q1, bs_below q2 hb⟩, fun h h2 => by obtain ⟨q, q1, q2⟩ := h7.out h h2; exact ⟨q, q1, q2.below hb⟩, (fun _ h2 => by simp at h2), fun _ => fun _ => ⟨A8, c8, rfl, q2, q3⟩, (fun h => by have h3 : dn 9 = true := hE.1 h; rw [hdn] at h3; cases h3)⟩
    | 10, _ =>
      obtain ⟨ty, ps, af, ho⟩ := op_lit hops (i := 10) (op := Op.store 27 (Operand.tmp 2) (Operand.tmp 37)) (dst := none) (g := none) rfl
      obtain ⟨A8, c8, rfl, q2, q3⟩ := h9 (hdep 9 (by simp)) hdn
      have hd7 := hidH (hdep 7 (by simp))
      have hd8 := hidH (hdep 8 (by simp))
      have hd9 := hidH (hdep 9 (by simp))
      refine wpOp_lit ho (fun j b h => by cases h) ?_
      clear hops hdep ho
      replace h0 := hidH h0
      replace h1 := hidH h1
      replace h2 := hidH h2
      replace h3 := hidH h3
      replace h4 := hidH h4
      replace h5 := hidH h5
      replace h6 := hidH h6
      replace h7 := hidH h7
      replace h8 := hidH h8
      replace h9 := hidH h9
      have RR := hR hdn
      obtain ⟨x0, x1, xz⟩ := RR.two
      have f0 := RR.frozen 0
      have f1 := RR.frozen 1
      have RS := hidH (blk_set2 RR (.int .i64 0) (.slice A8 L.length c8))
      go_wp2
      exact (HJ.out _ _ _).2 ⟨_, _, _, _, _, _, _, _, _, _, rfl, ⟨fun _ => hd9.out, hE.2⟩, (hM.set r 0 hgr hhr _).set r 1 hgr hhr _, (fun h => by simp at h), bst (bst hW hr0 _) hr0 _, (by simpa [World.setCell] using hS), hr1, h0.out, h1.out, h2.out, h3.out, h4.out, h5.out, (fun _ h2 => by have h3 : dn 7 = false := h2; rw [hd7.out] at h3; cases h3), (fun _ h2 => by have h3 : dn 8 = false := h2; rw [hd8.out] at h3; cases h3), (fun _ h2 => by have h3 : dn 9 = false := h2; rw [hd9.out] at h3; cases h3), (fun _ h2 => by simp at h2), fun _ => ⟨A8, c8, RS.out, own_kept (own_kept q2 (win_set _ _ _ _) (by omega)) (win_set _ _ _ _) (by omega), q3⟩⟩
    | n + 11, h => omega
  case fin =>
    clear hops hdeps hback
    rintro dn ac W hJ hall
    obtain ⟨t28, t29, t30, t31, t32, t33, t34, t35, t36, t37, rfl, hE, hM, hR, hW, hS, hr1, h0, h1, h2, h3, h4, h5, h6, h7, h8, h9, h10⟩ := (HJ.out _ _ _).1 hJ
    exact fin _ _ _ _ _ _ _ _ _ _ W hW (h10 (hall 10 (by omega)))
end Go.Proofs.Ytacdnednkglobaa

/- The program's PackChunk: its bytes in a row of their own. -/
namespace Go.Proofs.Ytacdnednkglobaa
open Go.RowKit Go.Deep

def BOwn (w : World) (c : Int) (l : List Int) (e : Ending) (w' : World) : Prop :=
  ∃ (A : Option Addr) (cp : Nat), e = .returned (.agg #[.int .i64 c, .slice A l.length cp]) ∧ w'.ownsRow w.heap.size 5 1 (.slice A l.length cp) l.length (l.map (Value.int .u8)) ∧ Below w.heap.size w w'
set_option maxHeartbeats 2000000 in
theorem packChunk_own (k f : Int) (A : Option Addr) (b : List Int) (c : Nat) (w : World) (hA : Bs w A b) (hm : (b.length : Int) ≤ 9223372036854775807) :
    Calls Try.prog 32 #[ckV k f A b.length c] w (BOwn w (chF k f b) (chM k f b)) := by
  have K1 := Blk.new w 51 #[.int .i64 k, .int .i64 f, .slice A b.length c]
  have B1 := bal (Below.refl w.heap.size w) (.cells #[.int .i64 k, .int .i64 f, .slice A b.length c] 51)
  have S1 := bs_below hA (bal (Below.refl _ w) (.cells #[.int .i64 k, .int .i64 f, .slice A b.length c] 51))
  obtain ⟨w1, hw1⟩ : ∃ w1, w.alloc (.cells #[.int .i64 k, .int .i64 f, .slice A b.length c] 51) = w1 := ⟨_, rfl⟩
  rw [hw1] at K1 B1 S1
  have hlt : w.heap.size < w1.heap.size := K1.lt
  have K2 := K1.alloc (.cells #[.int .i64 0, .slice none 0 0] 27)
  have B2 := bal B1 (.cells #[.int .i64 0, .slice none 0 0] 27)
  have S2 := bs_below S1 (bal (Below.refl _ w1) (.cells #[.int .i64 0, .slice none 0 0] 27))
  have R2 := Blk.new w1 27 #[.int .i64 0, .slice none 0 0]
  obtain ⟨w2, hw2⟩ : ∃ w2, w1.alloc (.cells #[.int .i64 0, .slice none 0 0] 27) = w2 := ⟨_, rfl⟩
  have hs1 : w1.heap.size = w.heap.size + 1 := by rw [← hw1]; simp
  rw [hw2, hs1] at R2
  rw [hw2] at K2 B2 S2
  have HW1 := hidH hw1
  have HW2 := hidH hw2
  have HK := hidH K2
  have HB := hidH B2
  have HS := hidH S2
  have HR := hidH R2
  have hF := hidH (fun u => chFault_impl k f A b c u hm)
  unfold ckV at hF ⊢
  have HBS := hidH hA
  clear hw1 hw2 K1 B1 S1 K2 B2 S2 R2 hA hs1 hlt
  go_enter Try.func32, Try.ntmps32
  go_wp2_with fail
  rw [HW1.out, HW2.out]
  refine (hF.out _).mono ?_
  rintro e w3 ⟨rfl, b3⟩
  have K3 := HK.out.below b3
  have B3 := hidH (btr HB.out b3)
  have S3 := bs_below HS.out b3
  have R3 := hidH (HR.out.below b3)
  clear HW1 HW2 HK HB HS HR hF b3
  by_cases hz : chF k f b = 0
  · obtain ⟨⟨hk0, hk1⟩, ⟨hf0, hf1⟩, hb⟩ := chF_zero hz
    have hM : chM k f b = chL k f b := by rw [chM, if_pos hz]
    have HZM := hidH (And.intro hz hM)
    rw [hz]
    have hbI : (b.length : Int) ≤ 160 := by omega
    have K3' := hidH K3
    have S3' := hidH S3
    have x0 := K3.cell 0
    have x1 := K3.cell 1
    have x2 := K3.cell 2
    simp only [List.getElem?_toArray, List.getElem?_cons_succ, List.getElem?_cons_zero] at x0 x1 x2
    have hlt := K3.lt
    clear hz hM K3 S3 hb
    go_wp2_with fail
    have B4 := hidH (bal B3.out (.cells #[.int .u8 k, .int .u8 f, .int .u8 ((4 + (b.length : Int)) / 256), .int .u8 (4 + (b.length : Int))] 5))
    have K4 := K3'.out.alloc (.cells #[.int .u8 k, .int .u8 f, .int .u8 ((4 + (b.length : Int)) / 256), .int .u8 (4 + (b.length : Int))] 5)
    have S4 := bs_below S3'.out (bal (Below.refl _ _) (.cells #[.int .u8 k, .int .u8 f, .int .u8 ((4 + (b.length : Int)) / 256), .int .u8 (4 + (b.length : Int))] 5))
    have R4 := R3.out.alloc (.cells #[.int .u8 k, .int .u8 f, .int .u8 ((4 + (b.length : Int)) / 256), .int .u8 (4 + (b.length : Int))] 5)
    have H4 := lit_bs w3 5 [k, f, (4 + (b.length : Int)) / 256, 4 + (b.length : Int)]
    have H4' := Blk.new w3 5 #[.int .u8 k, .int .u8 f, .int .u8 ((4 + (b.length : Int)) / 256), .int .u8 (4 + (b.length : Int))]
    have hz4 := K3'.out.lt
    have hz5 := R3.out.lt
    simp only [List.map_cons, List.map_nil, List.toArray] at H4
    obtain ⟨W4, hW4⟩ : ∃ W4, w3.alloc (.cells #[.int .u8 k, .int .u8 f, .int .u8 ((4 + (b.length : Int)) / 256), .int .u8 (4 + (b.length : Int))] 5) = W4 := ⟨_, rfl⟩
    rw [hW4] at B4 K4 S4 R4 H4 H4' ⊢
    have hs4 : W4.heap.size = w3.heap.size + 1 := by rw [← hW4]; simp
    clear hW4 x0 x1 x2 hlt
    have bd := (Below.refl W4.heap.size W4).drew
    have bdz := bd.size
    obtain ⟨p, hp⟩ : ∃ p, p = chPad b.length := ⟨_, rfl⟩
    have HP := hidH hp
    have hcat : ([[k, f, (4 + (b.length : Int)) / 256, 4 + (b.length : Int)], b, List.replicate p 0] : List (List Int)).flatten = chL k f b := by
      rw [hp]
      simp [chL]
      omega
    have hlen : (chL k f b).length ≤ 1000 := by rw [chL_len]; unfold chPad; omega
    have CON : ∀ (u : World) (q : Nat), Parts u q [[k, f, (4 + (b.length : Int)) / 256, 4 + (b.length : Int)], b, List.replicate p 0] → Calls Try.prog 45 #[.slice (some ⟨q, 0, none⟩) 3 3] u (OwnB u (chL k f b)) := by
      intro u q h
      rw [← hcat]
      exact concat_all q 3 _ u h (by simp) (by rw [hcat]; omega)
    have HCON := hidH CON
    have HM := hidH (PcM.mk (K4.below bd) (H4'.below bd) : PcM w.heap.size w3.heap.size k f A b c W4.drew)
    have HR4 := hidH (R4.below bd)
    have HB5 := hidH (btr B4.out bd)
    have HA := hidH (fun (u : World) (h : Below w.heap.size w u) => bs_below HBS.out h)
    obtain ⟨L, hL⟩ : ∃ L, chL k f b = L := ⟨_, rfl⟩
    rw [hL] at HCON hlen
    have HL := hidH hL
    clear hp hcat CON K4 H4' R4 B4 hL S4 H4
    have hrr : w.heap.size + 1 < W4.drew.heap.size := HR4.out.lt
    refine wp_region_any (by kernel_rfl) ?_
    refine regPc _ _ _ _ _ _ _ _ _ _ _ _ _ _ _ _ _ _ _ _ _ _ _ _ _ w w.heap.size (w.heap.size + 1) w3.heap.size k f A b c L p HP hbI HBS (by omega) (by omega) (by omega) HCON.out (by kernel_rfl) (by kernel_rfl) (by kernel_rfl) rfl ⟨fun h => h, fun h => h, fun h => h, fun h => h⟩ HM.out (fun _ => HR4.out) HB5.out (Nat.le_refl _) hrr ?_
    intros
    rename_i W hW hT
    obtain ⟨A8, c8, hR, hO, h81, h82⟩ := hT
    obtain ⟨x0, x1, xz⟩ := hR.two
    obtain ⟨A9, c9, hv, hob, _, _⟩ := own_ob hO
    simp only [Value.slice.injEq] at hv
    obtain ⟨rfl, _, rfl⟩ := hv
    have HO := hidH hO
    have HW := hidH hW
    have H8 := hidH (And.intro h81 h82)
    clear hR hO hob hW h81 h82
    go_wp2
    exact bodyPost_ret (v := .agg #[.int .i64 0, .slice A8 L.length c8]) (by simp [results, Try.results32, go_sem, x0, x1]) rfl (by rw [HZM.out.1, HZM.out.2, HL.out]; exact ⟨A8, c8, rfl, own_monoT HO.out (by omega), HW.out⟩)
  · have hM : chM k f b = [] := by rw [chM, if_neg hz]
    have HM := hidH hM
    have hne : (chF k f b != 0) = true := by rw [bne_iff_ne]; exact hz
    obtain ⟨F, hF⟩ : ∃ F, chF k f b = F := ⟨_, rfl⟩
    rw [hF] at hne
    have HF := hidH hF
    have R4 := R3.out
    obtain ⟨x0, x1, xz⟩ := R4.two
    have f0 := R4.frozen 0
    have f1 := R4.frozen 1
    rw [hF]
    clear R4 hz hM hF K3 S3
    go_wp2
    exact bodyPost_ret (v := .agg #[.int .i64 F, .slice none 0 0]) (by simp [results, Try.results32, go_sem, x0, x1]) rfl (by rw [HF.out, HM.out]; exact ⟨none, 0, rfl, ⟨rfl, .inl ⟨rfl, rfl⟩⟩, bst (bst B3.out (Nat.le_succ _) _) (Nat.le_succ _) _⟩)
end Go.Proofs.Ytacdnednkglobaa
