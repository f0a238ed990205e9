import Derived.Test.YtgghelpbobbkgaaDoorS5DR
import Derived.Test.YtgghelpbobbkgaaDoorM5Ans
import Derived.Test.YtgghelpbobbkgaaDoorCnI
import Derived.Test.YtgghelpbobbkgaaDoorJa4
import Derived.Test.YtgghelpbobbkgaaDoorS5Is
import Derived.Test.YtgghelpbobbkgaaDoorImB
import Derived.Test.YtgghelpbobbkgaaDoorP5
import Derived.Defers
import Derived.Recover
import Derived.Tactics2
import Derived.Handy
import Derived.Test.YtgghelpbobbkgaaDoorTyData
import Derived.Test.YtgghelpbobbkgaaDoorRegInv

/- The model's chapter 5: data: l5Data, PackData. -/
namespace Go.Proofs.YtgghelpbobbkgaaDoor
open Go.RowKit Go.Deep

set_option maxRecDepth 100000 in
set_option maxHeartbeats 8000000 in
theorem l5Data_any (g o : Nat) (y : DataM) (w : World) (hg : g < w.heap.size) (h : RdL w y.vs g o) (ht0 : 0 ≤ y.Tsn) (ht1 : y.Tsn ≤ 4294967295) (hs0 : 0 ≤ y.Stream) (hs1 : y.Stream < 65536) (hz0 : 0 ≤ y.Seq) (hz1 : y.Seq < 65536) (hpl : y.Piece.length ≤ 1000) :
    Calls Tryd.prog 70 #[.pointer (some ⟨g, o, none⟩)] w (Res w (pdC y).vs) := by
  obtain ⟨A, c, q0, q1, q2, q3, q4, q5, q6, hA⟩ := mem_Data h
  have HP := hidH (bsOf hA)
  have HK := hidH (fun f : Int => show Below w.heap.size w ((w.alloc (.cells #[.int .i64 0, .int .i64 0, .slice none 0 0] 28)).alloc (.cells #[.int .i64 0, .int .i64 f, .slice none 0 0] 28)).drew ∧
      Blk ((w.alloc (.cells #[.int .i64 0, .int .i64 0, .slice none 0 0] 28)).alloc (.cells #[.int .i64 0, .int .i64 f, .slice none 0 0] 28)).drew w.heap.size 28 #[.int .i64 0, .int .i64 0, .slice none 0 0] ∧
      Blk ((w.alloc (.cells #[.int .i64 0, .int .i64 0, .slice none 0 0] 28)).alloc (.cells #[.int .i64 0, .int .i64 f, .slice none 0 0] 28)).drew (w.heap.size + 1) 28 #[.int .i64 0, .int .i64 f, .slice none 0 0] from
    have b := bal (bal (Below.refl w.heap.size w) (.cells #[.int .i64 0, .int .i64 0, .slice none 0 0] 28)) (.cells #[.int .i64 0, .int .i64 f, .slice none 0 0] 28)
    ⟨b.drew, ((Blk.new w _ _).alloc _).below (Below.refl _ _).drew, by
      have := (Blk.new (w.alloc (.cells #[.int .i64 0, .int .i64 0, .slice none 0 0] 28)) 28 #[.int .i64 0, .int .i64 f, .slice none 0 0]).below (Below.refl _ _).drew
      rwa [World.size_alloc] at this⟩)
  have HQ := hidH (And.intro q0 (And.intro q1 (And.intro q2 q6)))
  have HF := hidH (show (pdC y).Flags = bitN y.Last 1 + bitN y.First 2 + bitN y.Unordered 4 from rfl)
  have HPL := hidH hpl
  clear h hA q0 q1 q2 q6 hpl
  rcases Bool.eq_false_or_eq_true y.Last with a1 | a1 <;> rcases Bool.eq_false_or_eq_true y.First with a2 | a2 <;> rcases Bool.eq_false_or_eq_true y.Unordered with a3 | a3
  all_goals
    rw [a2] at q3
    rw [a1] at q4
    rw [a3] at q5
    rw [a1, a2, a3] at HF
    go_enter Tryd.func70, Tryd.ntmps70
    go_wp2_with fail
    refine wp_region_any (by kernel_rfl) ?_
    refine regD8 _ _ _ _ _ _ _ _ _ _ _ _ _ _ _ _ _ _ _ _ _ _ _ _ g o (w.heap.size + 1) w.heap.size w.heap.size _ _ _ _ y _ ht0 ht1 hs0 hs1 hz0 hz1 (((HK.out _).1.cell (p := ⟨g, o, none⟩) hg).trans HQ.out.1) (((HK.out _).1.cell (p := ⟨g, o + 1, none⟩) hg).trans HQ.out.2.1) (((HK.out _).1.cell (p := ⟨g, o + 2, none⟩) hg).trans HQ.out.2.2.1) hg (HK.out _).1.size (Nat.le_succ _) (HK.out _).2.2.lt (HK.out _).2.1.lt (by omega) (by kernel_rfl) (by kernel_rfl) (by kernel_rfl) rfl (fun h => h) (fun h => h) (fun h => h) (fun h => h) (fun h => h) (fun h => h) (fun h => h) (fun h => h) (fun h => h) (fun h => h) (fun h => h) (fun h => h) (fun h => h) (fun h => h) (fun h => h) (Below.refl _ _) (Nat.le_refl _) (HK.out _).2.1 (fun _ => (HK.out _).2.2) ?_
    intros
    rename_i W hO hS hR0 h16 h18
    have hb0 : ((w.alloc (.cells #[.int .i64 0, .int .i64 0, .slice none 0 0] 28)).alloc (.cells #[.int .i64 0, .int .i64 0, .slice none 0 0] 28)).drew.heap.size = w.heap.size + 2 := by show (World.alloc _ _).heap.size = _; simp only [World.size_alloc]
    have hbf : ∀ f : Int, ((w.alloc (.cells #[.int .i64 0, .int .i64 0, .slice none 0 0] 28)).alloc (.cells #[.int .i64 0, .int .i64 f, .slice none 0 0] 28)).drew.heap.size = w.heap.size + 2 := fun f => by show (World.alloc _ _).heap.size = _; simp only [World.size_alloc]
    rw [hbf] at h16 hS
    have hOw : Below w.heap.size w W := (HK.out _).1.trans hO
    obtain ⟨A4, c4, e4, _, _, _⟩ := own_ob (d := pk y.Tsn ++ pairL y.Stream ++ pairL y.Seq) h16
    subst e4
    have HOW := hidH hOw.drew
    have HSW := hidH (show w.heap.size + 2 ≤ W.drew.heap.size from hS)
    have HRW := hidH (hR0.below (Below.refl _ _).drew)
    have HCW := hidH (h18.below (Below.refl _ _).drew)
    have HXW := hidH (own_below0 h16 (Below.refl _ _).drew)
    clear hO hS hR0 h16 h18 hOw hb0 hbf
    go_wp2_with fail
    refine wp_region_any (by kernel_rfl) ?_
    refine regD9 _ _ _ _ _ _ _ _ _ _ _ _ _ _ _ _ _ _ _ _ _ _ _ _ _ _ _ _ _ _ _ _ _ _ _ _ _ _ _ _ _ _ g o (w.heap.size + 1) w.heap.size (w.heap.size + 2) _ _ _ _ y A4 A c4 c w HQ.out.2.2.2 HP.out HPL.out hg (by omega) (by omega) (by omega) (by omega) (by omega) (by kernel_rfl) (by kernel_rfl) (by kernel_rfl) rfl (fun h => h) (fun h => h) (fun h => h) HOW.out HSW.out HRW.out (fun _ => HCW.out) (fun _ => HXW.out) ?_
    intros
    rename_i W2 hO2 hS2 hR2 h6 h8
    have hl : (pk y.Tsn ++ pairL y.Stream ++ pairL y.Seq ++ y.Piece).length = 8 + y.Piece.length := by simp [pk, pairL] <;> omega
    rw [← hl] at h6
    obtain ⟨A5, c5, e5, ob5, k5, m5⟩ := own_ob h6
    subst e5
    obtain ⟨L, hL⟩ : ∃ L, pk y.Tsn ++ pairL y.Stream ++ pairL y.Seq ++ y.Piece = L := ⟨_, rfl⟩
    have HL := hidH (show (pdC y).Body = L from hL)
    rw [hL] at h8 ob5 k5
    have x0 := hR2.cell 0
    have x1 := hR2.cell 1
    have x2 := hR2.cell 2
    have f0 := hR2.frozen 0
    have f1 := hR2.frozen 1
    have f2 := hR2.frozen 2
    have y0 := h8.cell 0
    have y1 := h8.cell 1
    have y2 := h8.cell 2
    simp only [List.getElem?_toArray, List.getElem?_cons_succ, List.getElem?_cons_zero] at x0 x1 x2 y0 y1 y2
    have hr := hR2.lt
    have hc := h8.lt
    have HOB := hidH (ob5.owv (Nat.le_refl _) ⟨k5, m5⟩)
    have HO2 := hidH hO2
    clear hO2 hS2 hR2 h6 h8 hl hL ob5 k5 m5
    go_wp2
    have PF : ∀ a b c' : Value, OwN w.heap.size (((W2.setCell ⟨w.heap.size, 0, none⟩ a).setCell ⟨w.heap.size, 1, none⟩ b).setCell ⟨w.heap.size, 2, none⟩ c').heap.size (((W2.setCell ⟨w.heap.size, 0, none⟩ a).setCell ⟨w.heap.size, 1, none⟩ b).setCell ⟨w.heap.size, 2, none⟩ c') _ _ := fun a b c' =>
      OwN.int 0 (OwN.int (pdC y).Flags ((OwN.cons (((HOB.out.win (set_win _ w.heap.size 0 a) (.inr (by omega))).win (set_win _ w.heap.size 1 b) (.inr (by omega))).win (set_win _ w.heap.size 2 c') (.inr (by omega))) (OwN.nil (B := W2.heap.size) (C := W2.heap.size) (by simp [World.setCell])) (by omega) (Nat.le_refl _)).mono (by omega) (by simp [World.setCell]) (Nat.le_refl _)))
    have hfl := HF.out
    simp only [bitN, if_true, if_false, Bool.false_eq_true, Int.reduceAdd] at hfl
    exact bodyPost_ret (v := .agg #[.int .i64 0, .int .i64 ((pdC y).Flags), .slice A5 L.length c5]) (by simp [results, Tryd.results70, go_sem, x0, x1, x2, hfl]) rfl ⟨_, rfl, by
      show OwN _ _ _ [.int 0, .int (pdC y).Flags, .bs (pdC y).Body] _
      rw [HL.out]
      exact PF _ _ _, bst (bst (bst HO2.out (Nat.le_refl _) _) (Nat.le_refl _) _) (Nat.le_refl _) _⟩
end Go.Proofs.YtgghelpbobbkgaaDoor

/- The region of l5Answer that draws its order. -/
namespace Go.Proofs.YtgghelpbobbkgaaDoor
open Go.RowKit Go.Deep

set_option maxRecDepth 100000 in
set_option maxHeartbeats 1000000 in
theorem regA1 {Q : Exit → Act → World → Prop} (x1 : Value) (g o R : Nat) (y : AnswerM) (A : Option Addr) (c : Nat) (ww wq : World) (ht0 : 0 ≤ y.Serial) (ht1 : y.Serial ≤ 4294967295) (hcs : ∀ j, j < y.Codes.length → 0 ≤ y.Codes.getD j 0 ∧ y.Codes.getD j 0 ≤ 255) (hcl : y.Codes.length ≤ 200) (q0 : ww.cell? ⟨g, o, none⟩ = some (.int .i64 y.Serial)) (q1 : ww.cell? ⟨g, o + 1, none⟩ = some (.slice A y.Codes.length c)) (hI : Is ww A y.Codes) (hgl : g < ww.heap.size) (hB : ww.heap.size ≤ wq.heap.size) (hBR : ww.heap.size ≤ R) (hRl : R < wq.heap.size) {ops : Array Oper}
    (hops : (ops.map fun o => (o.op, o.dst, o.guard)) = #[(Op.move (Operand.tmp 0), some 3, none), (Op.nilCheck (Operand.tmp 3), some 4, none), (Op.fieldAddr 63 (Operand.tmp 4) 0, some 5, none), (Op.load 2 (Operand.tmp 5), some 6, none), (Op.call { callee := Callee.value (Operand.func 116), args := #[(Operand.tmp 6)], argTypes := #[2] }, some 7, none), (Op.move (Operand.tmp 0), some 8, none), (Op.nilCheck (Operand.tmp 8), some 9, none), (Op.fieldAddr 63 (Operand.tmp 9) 1, some 10, none), (Op.load 37 (Operand.tmp 10), some 11, none), (Op.call { callee := Callee.value (Operand.func 119), args := #[(Operand.tmp 11)], argTypes := #[37] }, some 12, none), (Op.call { callee := Callee.builtin Builtin.append, args := #[(Operand.tmp 7), (Operand.tmp 12)], argTypes := #[22, 22] }, some 13, none), (Op.build 28 #[(0, (Operand.const (Value.int .i64 128))), (2, (Operand.tmp 13))], some 14, none), (Op.store 28 (Operand.tmp 2) (Operand.tmp 14), none, none)])
    (hdeps : ((List.range 13).all fun i => ((fun i => [[], [0], [1], [2], [3], [], [5], [6], [7], [4, 8], [4, 9], [10], [11]].getD i []) i).all fun j => ((ops[i]?).map fun o => o.after.any fun e => Region.binds .any e && e.on == j).getD false) = true)
    (hback : ((List.range 13).all fun i => ((ops[i]?).map fun o => o.after.all fun e => decide (e.on < i)).getD false) = true)
    {a0 : Act} (ha : a0 = { tmps := #[.pointer (some ⟨g, o, none⟩), x1, .pointer (some ⟨R, 0, none⟩), undef, undef, undef, undef, undef, undef, undef, undef, undef, undef, undef, undef], defers := [] }) (hE_4_9 : false = true → false = true) (hE_4_10 : false = true → false = true) (hE_4_11 : false = true → false = true) (hE_4_12 : false = true → false = true) (hE_9_10 : false = true → false = true) (hE_9_11 : false = true → false = true) (hE_9_12 : false = true → false = true) (hE_10_11 : false = true → false = true) (hE_10_12 : false = true → false = true) (hE_11_12 : false = true → false = true) (hO : Below ww.heap.size ww wq) (hS : wq.heap.size ≤ wq.heap.size) (hRR : false = false → Blk wq R 28 #[.int .i64 0, .int .i64 0, .slice none 0 0])
    (fin : ∀ t3 t4 t5 t6 t7 t8 t9 t10 t11 t12 t13 t14 (W : World), (Below ww.heap.size ww W) → (wq.heap.size ≤ W.heap.size) → (W.ownsRow wq.heap.size 5 1 t13 (4 + (y.Codes.length + 1)) ((pk y.Serial ++ ((y.Codes.length : Int) :: y.Codes)).map (Value.int .u8))) → (Blk W R 28 #[.int .i64 128, .int .i64 0, t13]) → Q .normal { tmps := #[.pointer (some ⟨g, o, none⟩), x1, .pointer (some ⟨R, 0, none⟩), t3, t4, t5, t6, t7, t8, t9, t10, t11, t12, t13, t14], defers := [] } W) :
    wpAny Tryd.prog .any ops Q ops.size (Array.replicate ops.size false) a0 wq := by
  have hn : ops.size = 13 := by have := congrArg Array.size hops; simpa using this
  obtain ⟨J, HJ⟩ : ∃ J : (Nat → Bool) → Act → World → Prop, ∀ dn ac W, J dn ac W ↔ (fun dn ac W => ∃ t3 t4 t5 t6 t7 t8 t9 t10 t11 t12 t13 t14, ac = { tmps := #[.pointer (some ⟨g, o, none⟩), x1, .pointer (some ⟨R, 0, none⟩), t3, t4, t5, t6, t7, t8, t9, t10, t11, t12, t13, t14], defers := [] } ∧ (dn 9 = true → dn 4 = true) ∧ (dn 10 = true → dn 4 = true) ∧ (dn 11 = true → dn 4 = true) ∧ (dn 12 = true → dn 4 = true) ∧ (dn 10 = true → dn 9 = true) ∧ (dn 11 = true → dn 9 = true) ∧ (dn 12 = true → dn 9 = true) ∧ (dn 11 = true → dn 10 = true) ∧ (dn 12 = true → dn 10 = true) ∧ (dn 12 = true → dn 11 = true) ∧ (Below ww.heap.size ww W) ∧ (wq.heap.size ≤ W.heap.size) ∧ (dn 12 = false → Blk W R 28 #[.int .i64 0, .int .i64 0, .slice none 0 0]) ∧ (dn 0 = true → t3 = .pointer (some ⟨g, o, none⟩)) ∧ (dn 1 = true → t4 = .pointer (some ⟨g, o, none⟩)) ∧ (dn 2 = true → t5 = .pointer (some ⟨g, o, none⟩)) ∧ (dn 3 = true → t6 = .int .i64 y.Serial) ∧ (dn 4 = true → dn 10 = false → W.ownsRow wq.heap.size 5 1 t7 4 ((pk y.Serial).map (Value.int .u8))) ∧ (dn 5 = true → t8 = .pointer (some ⟨g, o, none⟩)) ∧ (dn 6 = true → t9 = .pointer (some ⟨g, o, none⟩)) ∧ (dn 7 = true → t10 = .pointer (some ⟨g, o + 1, none⟩)) ∧ (dn 8 = true → t11 = .slice A y.Codes.length c) ∧ (dn 9 = true → dn 10 = false → ∃ (A2 : Option Addr) (c2 : Nat), t12 = .slice A2 ((y.Codes.length : Int) :: y.Codes).length c2 ∧ Bs W A2 ((y.Codes.length : Int) :: y.Codes)) ∧ (dn 10 = true → W.ownsRow wq.heap.size 5 1 t13 (4 + (y.Codes.length + 1)) ((pk y.Serial ++ ((y.Codes.length : Int) :: y.Codes)).map (Value.int .u8))) ∧ (dn 11 = true → t14 = .agg #[.int .i64 128, .int .i64 0, t13]) ∧ (dn 12 = true → Blk W R 28 #[.int .i64 128, .int .i64 0, t13])) dn ac W := ⟨_, fun _ _ _ => Iff.rfl⟩
  replace HJ := hidH HJ
  refine region_inv 13 (fun i => [[], [0], [1], [2], [3], [], [5], [6], [7], [4, 8], [4, 9], [10], [11]].getD i []) J hn hdeps hback ?start ?step ?fin
  case start => exact (HJ.out _ _ _).2 ⟨undef, undef, undef, undef, undef, undef, undef, undef, undef, undef, undef, undef, ha, hE_4_9, hE_4_10, hE_4_11, hE_4_12, hE_9_10, hE_9_11, hE_9_12, hE_10_11, hE_10_12, hE_11_12, hO, hS, hRR, fun h => by simp at h, fun h => by simp at h, fun h => by simp at h, fun h => by simp at h, fun h => by simp at h, fun h => by simp at h, fun h => by simp at h, fun h => by simp at h, fun h => by simp at h, fun h => by simp at h, fun h => by simp at h, fun h => by simp at h, fun h => by simp at h⟩
  all_goals clear ha hE_4_9 hE_4_10 hE_4_11 hE_4_12 hE_9_10 hE_9_11 hE_9_12 hE_10_11 hE_10_12 hE_11_12 hO hS hRR
  case step =>
    clear fin hdeps hback
    intro i hi dn ac W hJ hdn hdep
    obtain ⟨t3, t4, t5, t6, t7, t8, t9, t10, t11, t12, t13, t14, rfl, hE_4_9, hE_4_10, hE_4_11, hE_4_12, hE_9_10, hE_9_11, hE_9_12, hE_10_11, hE_10_12, hE_11_12, hO, hS, hRR, h0, h1, h2, h3, h4, h5, h6, h7, h8, h9, h10, h11, h12⟩ := (HJ.out _ _ _).1 hJ
    clear hJ
    match i, hi with
    | 0, _ =>
      obtain ⟨ty, ps, af, ho⟩ := op_lit hops (i := 0) (op := Op.move (Operand.tmp 0)) (dst := some 3) (g := none) rfl
      refine wpOp_lit ho (fun j b h => by cases h) ?_
      clear hops hdep ho
      replace h1 := hidH h1
      replace h2 := hidH h2
      replace h3 := hidH h3
      replace h4 := hidH h4
      replace h5 := hidH h5
      replace h6 := hidH h6
      replace h7 := hidH h7
      replace h8 := hidH h8
      replace h9 := hidH h9
      replace h10 := hidH h10
      replace h11 := hidH h11
      replace h12 := hidH h12
      go_wp2
      exact (HJ.out _ _ _).2 ⟨_, _, _, _, _, _, _, _, _, _, _, _, rfl, hE_4_9, hE_4_10, hE_4_11, hE_4_12, hE_9_10, hE_9_11, hE_9_12, hE_10_11, hE_10_12, hE_11_12, hO, hS, hRR, fun _ => rfl, h1.out, h2.out, h3.out, h4.out, h5.out, h6.out, h7.out, h8.out, h9.out, h10.out, h11.out, h12.out⟩
    | 1, _ =>
      obtain ⟨ty, ps, af, ho⟩ := op_lit hops (i := 1) (op := Op.nilCheck (Operand.tmp 3)) (dst := some 4) (g := none) rfl
      obtain rfl := h0 (hdep 0 (by simp))
      refine wpOp_lit ho (fun j b h => by cases h) ?_
      clear hops hdep ho
      replace h0 := hidH h0
      replace h2 := hidH h2
      replace h3 := hidH h3
      replace h4 := hidH h4
      replace h5 := hidH h5
      replace h6 := hidH h6
      replace h7 := hidH h7
      replace h8 := hidH h8
      replace h9 := hidH h9
      replace h10 := hidH h10
      replace h11 := hidH h11
      replace h12 := hidH h12
      go_wp2
      exact (HJ.out _ _ _).2 ⟨_, _, _, _, _, _, _, _, _, _, _, _, rfl, hE_4_9, hE_4_10, hE_4_11, hE_4_12, hE_9_10, hE_9_11, hE_9_12, hE_10_11, hE_10_12, hE_11_12, hO, hS, hRR, fun _ => rfl, fun _ => rfl, h2.out, h3.out, h4.out, h5.out, h6.out, h7.out, h8.out, h9.out, h10.out, h11.out, h12.out⟩
    | 2, _ =>
      obtain ⟨ty, ps, af, ho⟩ := op_lit hops (i := 2) (op := Op.fieldAddr 63 (Operand.tmp 4) 0) (dst := some 5) (g := none) rfl
      obtain rfl := h1 (hdep 1 (by simp))
      refine wpOp_lit ho (fun j b h => by cases h) ?_
      clear hops hdep ho
      replace h0 := hidH h0
      replace h1 := hidH h1
      replace h3 := hidH h3
      replace h4 := hidH h4
      replace h5 := hidH h5
      replace h6 := hidH h6
      replace h7 := hidH h7
      replace h8 := hidH h8
      replace h9 := hidH h9
      replace h10 := hidH h10
      replace h11 := hidH h11
      replace h12 := hidH h12
      go_wp2
      exact (HJ.out _ _ _).2 ⟨_, _, _, _, _, _, _, _, _, _, _, _, rfl, hE_4_9, hE_4_10, hE_4_11, hE_4_12, hE_9_10, hE_9_11, hE_9_12, hE_10_11, hE_10_12, hE_11_12, hO, hS, hRR, h0.out, fun _ => rfl, fun _ => rfl, h3.out, h4.out, h5.out, h6.out, h7.out, h8.out, h9.out, h10.out, h11.out, h12.out⟩
    | 3, _ =>
      obtain ⟨ty, ps, af, ho⟩ := op_lit hops (i := 3) (op := Op.load 2 (Operand.tmp 5)) (dst := some 6) (g := none) rfl
      obtain rfl := h2 (hdep 2 (by simp))
      refine wpOp_lit ho (fun j b h => by cases h) ?_
      clear hops hdep ho
      replace h0 := hidH h0
      replace h1 := hidH h1
      replace h2 := hidH h2
      replace h4 := hidH h4
      replace h5 := hidH h5
      replace h6 := hidH h6
      replace h7 := hidH h7
      replace h8 := hidH h8
      replace h9 := hidH h9
      replace h10 := hidH h10
      replace h11 := hidH h11
      replace h12 := hidH h12
      have q := (hO.cell (p := ⟨g, o, none⟩) hgl).trans q0
      go_wp2
      exact (HJ.out _ _ _).2 ⟨_, _, _, _, _, _, _, _, _, _, _, _, rfl, hE_4_9, hE_4_10, hE_4_11, hE_4_12, hE_9_10, hE_9_11, hE_9_12, hE_10_11, hE_10_12, hE_11_12, hO, hS, hRR, h0.out, h1.out, fun _ => rfl, fun _ => rfl, h4.out, h5.out, h6.out, h7.out, h8.out, h9.out, h10.out, h11.out, h12.out⟩
    | 4, _ =>
      obtain ⟨ty, ps, af, ho⟩ := op_lit hops (i := 4) (op := Op.call { callee := Callee.value (Operand.func 116), args := #[(Operand.tmp 6)], argTypes := #[2] }) (dst := some 7) (g := none) rfl
      obtain rfl := h3 (hdep 3 (by simp))
      refine wpOp_lit ho (fun j b h => by cases h) ?_
      clear hops hdep ho
      replace h0 := hidH h0
      replace h1 := hidH h1
      replace h2 := hidH h2
      replace h3 := hidH h3
      replace h5 := hidH h5
      replace h6 := hidH h6
      replace h7 := hidH h7
      replace h8 := hidH h8
      replace h9 := hidH h9
      replace h10 := hidH h10
      replace h11 := hidH h11
      replace h12 := hidH h12
      go_wp2_with fail
      refine (l1Pack_any _ _ ht0 ht1).mono ?_
      rintro e w1 ⟨rfl, rfl⟩
      have hb := bal (Below.refl W.heap.size W) (.cells #[.int .u8 (y.Serial / 16777216), .int .u8 (y.Serial / 65536 % 256), .int .u8 (y.Serial / 256 % 256), .int .u8 (y.Serial % 256)] 5)
      go_wp2
      exact (HJ.out _ _ _).2 ⟨_, _, _, _, _, _, _, _, _, _, _, _, rfl, fun _ => rfl, fun _ => rfl, fun _ => rfl, fun _ => rfl, hE_9_10, hE_9_11, hE_9_12, hE_10_11, hE_10_12, hE_11_12, btr hO hb, Nat.le_trans hS hb.size, fun h => (hRR h).below hb, h0.out, h1.out, h2.out, fun _ => rfl, fun _ => fun _ => World.ownsRow_lit _ #[.int .u8 (y.Serial / 16777216), .int .u8 (y.Serial / 65536 % 256), .int .u8 (y.Serial / 256 % 256), .int .u8 (y.Serial % 256)] 4 hS (by unfold maxLen; omega) rfl, h5.out, h6.out, h7.out, h8.out, (fun h => by have h3 : dn 4 = true := hE_4_9 h; rw [hdn] at h3; cases h3), (fun h => by have h3 : dn 4 = true := hE_4_10 h; rw [hdn] at h3; cases h3), (fun h => by have h3 : dn 4 = true := hE_4_11 h; rw [hdn] at h3; cases h3), (fun h => by have h3 : dn 4 = true := hE_4_12 h; rw [hdn] at h3; cases h3)⟩
    | 5, _ =>
      obtain ⟨ty, ps, af, ho⟩ := op_lit hops (i := 5) (op := Op.move (Operand.tmp 0)) (dst := some 8) (g := none) rfl
      refine wpOp_lit ho (fun j b h => by cases h) ?_
      clear hops hdep ho
      replace h0 := hidH h0
      replace h1 := hidH h1
      replace h2 := hidH h2
      replace h3 := hidH h3
      replace h4 := hidH h4
      replace h6 := hidH h6
      replace h7 := hidH h7
      replace h8 := hidH h8
      replace h9 := hidH h9
      replace h10 := hidH h10
      replace h11 := hidH h11
      replace h12 := hidH h12
      go_wp2
      exact (HJ.out _ _ _).2 ⟨_, _, _, _, _, _, _, _, _, _, _, _, rfl, hE_4_9, hE_4_10, hE_4_11, hE_4_12, hE_9_10, hE_9_11, hE_9_12, hE_10_11, hE_10_12, hE_11_12, hO, hS, hRR, h0.out, h1.out, h2.out, h3.out, h4.out, fun _ => rfl, h6.out, h7.out, h8.out, h9.out, h10.out, h11.out, h12.out⟩
    | 6, _ =>
      obtain ⟨ty, ps, af, ho⟩ := op_lit hops (i := 6) (op := Op.nilCheck (Operand.tmp 8)) (dst := some 9) (g := none) rfl
      obtain rfl := h5 (hdep 5 (by simp))
      refine wpOp_lit ho (fun j b h => by cases h) ?_
      clear hops hdep ho
      replace h0 := hidH h0
      replace h1 := hidH h1
      replace h2 := hidH h2
      replace h3 := hidH h3
      replace h4 := hidH h4
      replace h5 := hidH h5
      replace h7 := hidH h7
      replace h8 := hidH h8
      replace h9 := hidH h9
      replace h10 := hidH h10
      replace h11 := hidH h11
      replace h12 := hidH h12
      go_wp2
      exact (HJ.out _ _ _).2 ⟨_, _, _, _, _, _, _, _, _, _, _, _, rfl, hE_4_9, hE_4_10, hE_4_11, hE_4_12, hE_9_10, hE_9_11, hE_9_12, hE_10_11, hE_10_12, hE_11_12, hO, hS, hRR, h0.out, h1.out, h2.out, h3.out, h4.out, fun _ => rfl, fun _ => rfl, h7.out, h8.out, h9.out, h10.out, h11.out, h12.out⟩
    | 7, _ =>
      obtain ⟨ty, ps, af, ho⟩ := op_lit hops (i := 7) (op := Op.fieldAddr 63 (Operand.tmp 9) 1) (dst := some 10) (g := none) rfl
      obtain rfl := h6 (hdep 6 (by simp))
      refine wpOp_lit ho (fun j b h => by cases h) ?_
      clear hops hdep ho
      replace h0 := hidH h0
      replace h1 := hidH h1
      replace h2 := hidH h2
      replace h3 := hidH h3
      replace h4 := hidH h4
      replace h5 := hidH h5
      replace h6 := hidH h6
      replace h8 := hidH h8
      replace h9 := hidH h9
      replace h10 := hidH h10
      replace h11 := hidH h11
      replace h12 := hidH h12
      go_wp2
      exact (HJ.out _ _ _).2 ⟨_, _, _, _, _, _, _, _, _, _, _, _, rfl, hE_4_9, hE_4_10, hE_4_11, hE_4_12, hE_9_10, hE_9_11, hE_9_12, hE_10_11, hE_10_12, hE_11_12, hO, hS, hRR, h0.out, h1.out, h2.out, h3.out, h4.out, h5.out, fun _ => rfl, fun _ => rfl, h8.out, h9.out, h10.out, h11.out, h12.out⟩
    | 8, _ =>
      obtain ⟨ty, ps, af, ho⟩ := op_lit hops (i := 8) (op := Op.load 37 (Operand.tmp 10)) (dst := some 11) (g := none) rfl
      obtain rfl := h7 (hdep 7 (by simp))
      refine wpOp_lit ho (fun j b h => by cases h) ?_
      clear hops hdep ho
      replace h0 := hidH h0
      replace h1 := hidH h1
      replace h2 := hidH h2
      replace h3 := hidH h3
      replace h4 := hidH h4
      replace h5 := hidH h5
      replace h6 := hidH h6
      replace h7 := hidH h7
      replace h9 := hidH h9
      replace h10 := hidH h10
      replace h11 := hidH h11
      replace h12 := hidH h12
      have q := (hO.cell (p := ⟨g, o + 1, none⟩) hgl).trans q1
      go_wp2
      exact (HJ.out _ _ _).2 ⟨_, _, _, _, _, _, _, _, _, _, _, _, rfl, hE_4_9, hE_4_10, hE_4_11, hE_4_12, hE_9_10, hE_9_11, hE_9_12, hE_10_11, hE_10_12, hE_11_12, hO, hS, hRR, h0.out, h1.out, h2.out, h3.out, h4.out, h5.out, h6.out, fun _ => rfl, fun _ => rfl, h9.out, h10.out, h11.out, h12.out⟩
    | 9, _ =>
      obtain ⟨ty, ps, af, ho⟩ := op_lit hops (i := 9) (op := Op.call { callee := Callee.value (Operand.func 119), args := #[(Operand.tmp 11)], argTypes := #[37] }) (dst := some 12) (g := none) rfl
      have hd4 := hidH (hdep 4 (by simp))
      obtain rfl := h8 (hdep 8 (by simp))
      refine wpOp_lit ho (fun j b h => by cases h) ?_
      clear hops hdep ho
      replace h0 := hidH h0
      replace h1 := hidH h1
      replace h2 := hidH h2
      replace h3 := hidH h3
      replace h4 := hidH h4
      replace h5 := hidH h5
      replace h6 := hidH h6
      replace h7 := hidH h7
      replace h8 := hidH h8
      replace h10 := hidH h10
      replace h11 := hidH h11
      replace h12 := hidH h12
      go_wp2_with fail
      refine (l5Bytes_any A y.Codes c _ (is_below hI hO) hcs hcl).mono ?_
      rintro e w1 ⟨v1, rfl, o1, hb⟩
      obtain ⟨A2, c2, e2, ob2, _, _⟩ := own_ob o1
      subst e2
      have S9 := hidH ob2.bs
      clear o1 ob2
      go_wp2
      exact (HJ.out _ _ _).2 ⟨_, _, _, _, _, _, _, _, _, _, _, _, rfl, fun _ => hd4.out, hE_4_10, hE_4_11, hE_4_12, fun _ => rfl, fun _ => rfl, fun _ => rfl, hE_10_11, hE_10_12, hE_11_12, btr hO hb, Nat.le_trans hS hb.size, fun h => (hRR h).below hb, h0.out, h1.out, h2.out, h3.out, fun h h2 => own_below0 (h4.out h h2) hb, h5.out, h6.out, h7.out, fun _ => rfl, fun _ => fun _ => ⟨_, _, rfl, S9.out⟩, (fun h => by have h3 : dn 9 = true := hE_9_10 h; rw [hdn] at h3; cases h3), (fun h => by have h3 : dn 9 = true := hE_9_11 h; rw [hdn] at h3; cases h3), (fun h => by have h3 : dn 9 = true := hE_9_12 h; rw [hdn] at h3; cases h3)⟩
    | 10, _ =>
      obtain ⟨ty, ps, af, ho⟩ := op_lit hops (i := 10) (op := Op.call { callee := Callee.builtin Builtin.append, args := #[(Operand.tmp 7), (Operand.tmp 12)], argTypes := #[22, 22] }) (dst := some 13) (g := none) rfl
      have hd9 := hidH (hdep 9 (by simp))
      have hd4 := hidH (hE_4_9 hd9.out)
      have o4 := hidH (h4 hd4.out hdn)
      obtain ⟨A2, c2, rfl, s2⟩ := h9 hd9.out hdn
      refine wpOp_lit ho (fun j b h => by cases h) ?_
      clear hops hdep ho
      replace h0 := hidH h0
      replace h1 := hidH h1
      replace h2 := hidH h2
      replace h3 := hidH h3
      replace h4 := hidH h4
      replace h5 := hidH h5
      replace h6 := hidH h6
      replace h7 := hidH h7
      replace h8 := hidH h8
      replace h9 := hidH h9
      replace h11 := hidH h11
      replace h12 := hidH h12
      have hsz := hS
      have HL := hidH hcl
      go_wp2_with (at_builtin; refine wpList_append_bs rfl _ _ rfl wq.heap.size _ _ _ rfl o4.out A2 ((y.Codes.length : Int) :: y.Codes) c2 rfl s2 (by have := HL.out; simp; omega) hsz ?_)
      intro v2 w2 o2 hg
      have BB := hidH ((Below.refl wq.heap.size W).grown hg hsz (fun x hx => (o4.out.lt x hx).1))
      have O8 := hidH (show w2.ownsRow wq.heap.size 5 1 v2 (4 + (y.Codes.length + 1)) ((pk y.Serial ++ ((y.Codes.length : Int) :: y.Codes)).map (Value.int .u8)) by simpa [pk] using o2)
      clear o2 hg
      go_wp2
      exact (HJ.out _ _ _).2 ⟨_, _, _, _, _, _, _, _, _, _, _, _, rfl, hE_4_9, fun _ => hd4.out, hE_4_11, hE_4_12, fun _ => hd9.out, hE_9_11, hE_9_12, fun _ => rfl, fun _ => rfl, hE_11_12, hO.trans (BB.out.mono hB), Nat.le_trans hS BB.out.size, fun h => (BB.out.block R hRl).trans (hRR h), h0.out, h1.out, h2.out, h3.out, (fun _ h2 => by simp at h2), h5.out, h6.out, h7.out, h8.out, (fun _ h2 => by simp at h2), fun _ => O8.out, (fun h => by have h3 : dn 10 = true := hE_10_11 h; rw [hdn] at h3; cases h3), (fun h => by have h3 : dn 10 = true := hE_10_12 h; rw [hdn] at h3; cases h3)⟩
    | 11, _ =>
      obtain ⟨ty, ps, af, ho⟩ := op_lit hops (i := 11) (op := Op.build 28 #[(0, (Operand.const (Value.int .i64 128))), (2, (Operand.tmp 13))]) (dst := some 14) (g := none) rfl
      have hd10 := hidH (hdep 10 (by simp))
      have hd4 := hidH (hE_4_10 hd10.out)
      have hd9 := hidH (hE_9_10 hd10.out)
      have o10 := h10 hd10.out
      obtain o10 := h10 (hdep 10 (by simp))
      refine wpOp_lit ho (fun j b h => by cases h) ?_
      clear hops hdep ho
      replace h0 := hidH h0
      replace h1 := hidH h1
      replace h2 := hidH h2
      replace h3 := hidH h3
      replace h4 := hidH h4
      replace h5 := hidH h5
      replace h6 := hidH h6
      replace h7 := hidH h7
      replace h8 := hidH h8
      replace h9 := hidH h9
      replace h10 := hidH h10
      replace h12 := hidH h12
      have o10b : W.ownsRow wq.heap.size 5 1 t13 (pk y.Serial ++ ((y.Codes.length : Int) :: y.Codes)).length ((pk y.Serial ++ ((y.Codes.length : Int) :: y.Codes)).map (Value.int .u8)) := by have hl : (pk y.Serial ++ ((y.Codes.length : Int) :: y.Codes)).length = (4 + (y.Codes.length + 1)) := (by simp [pk] <;> omega); rw [hl]; exact o10
      obtain ⟨A9, c9, e9, _⟩ := own_ob o10b
      obtain ⟨n9, hn9⟩ : ∃ n9, (pk y.Serial ++ ((y.Codes.length : Int) :: y.Codes)).length = n9 := ⟨_, rfl⟩
      rw [hn9] at e9
      subst e9
      clear o10b hn9
      have hb := Below.refl W.heap.size W
      go_wp2
      exact (HJ.out _ _ _).2 ⟨_, _, _, _, _, _, _, _, _, _, _, _, rfl, hE_4_9, hE_4_10, fun _ => hd4.out, hE_4_12, hE_9_10, fun _ => hd9.out, hE_9_12, fun _ => hd10.out, hE_10_12, fun _ => rfl, btr hO hb, Nat.le_trans hS hb.size, fun h => (hRR h).below hb, h0.out, h1.out, h2.out, h3.out, (fun _ h2 => by have h3 : dn 10 = false := h2; rw [hd10.out] at h3; cases h3), h5.out, h6.out, h7.out, h8.out, (fun _ h2 => by have h3 : dn 10 = false := h2; rw [hd10.out] at h3; cases h3), fun _ => own_below0 o10 hb, fun _ => rfl, (fun h => by have h3 : dn 11 = true := hE_11_12 h; rw [hdn] at h3; cases h3)⟩
    | 12, _ =>
      obtain ⟨ty, ps, af, ho⟩ := op_lit hops (i := 12) (op := Op.store 28 (Operand.tmp 2) (Operand.tmp 14)) (dst := none) (g := none) rfl
      have hd11 := hidH (hdep 11 (by simp))
      have hd4 := hidH (hE_4_11 hd11.out)
      have hd9 := hidH (hE_9_11 hd11.out)
      have hd10 := hidH (hE_10_11 hd11.out)
      have hR0 := hRR hdn
      have o10 := h10 hd10.out
      obtain rfl := h11 (hdep 11 (by simp))
      refine wpOp_lit ho (fun j b h => by cases h) ?_
      clear hops hdep ho
      replace h0 := hidH h0
      replace h1 := hidH h1
      replace h2 := hidH h2
      replace h3 := hidH h3
      replace h4 := hidH h4
      replace h5 := hidH h5
      replace h6 := hidH h6
      replace h7 := hidH h7
      replace h8 := hidH h8
      replace h9 := hidH h9
      replace h10 := hidH h10
      replace h11 := hidH h11
      have o10b : W.ownsRow wq.heap.size 5 1 t13 (pk y.Serial ++ ((y.Codes.length : Int) :: y.Codes)).length ((pk y.Serial ++ ((y.Codes.length : Int) :: y.Codes)).map (Value.int .u8)) := by have hl : (pk y.Serial ++ ((y.Codes.length : Int) :: y.Codes)).length = (4 + (y.Codes.length + 1)) := (by simp [pk] <;> omega); rw [hl]; exact o10
      obtain ⟨A9, c9, e9, _⟩ := own_ob o10b
      obtain ⟨n9, hn9⟩ : ∃ n9, (pk y.Serial ++ ((y.Codes.length : Int) :: y.Codes)).length = n9 := ⟨_, rfl⟩
      rw [hn9] at e9
      subst e9
      clear o10b hn9
      have r0 := hR0.cell 0
      have r1 := hR0.cell 1
      have r2 := hR0.cell 2
      have s0 := hR0.frozen 0
      have s1 := hR0.frozen 1
      have s2 := hR0.frozen 2
      simp only [List.getElem?_toArray, List.getElem?_cons_succ, List.getElem?_cons_zero] at r0 r1 r2
      have KN := hidH (show Blk (((W.setCell ⟨R, 0, none⟩ (.int .i64 128)).setCell ⟨R, 1, none⟩ (.int .i64 0)).setCell ⟨R, 2, none⟩ (.slice A9 n9 c9)) R 28 #[.int .i64 128, .int .i64 0, .slice A9 n9 c9] from ((hR0.put 0 _).put 1 _).put 2 _)
      go_wp2
      exact (HJ.out _ _ _).2 ⟨_, _, _, _, _, _, _, _, _, _, _, _, rfl, hE_4_9, hE_4_10, hE_4_11, fun _ => hd4.out, hE_9_10, hE_9_11, fun _ => hd9.out, hE_10_11, fun _ => hd10.out, fun _ => hd11.out, ((hO.setCell hBR _).setCell hBR _).setCell hBR _, by simpa [World.setCell] using hS, (fun h => by simp at h), h0.out, h1.out, h2.out, h3.out, (fun _ h2 => by have h3 : dn 10 = false := h2; rw [hd10.out] at h3; cases h3), h5.out, h6.out, h7.out, h8.out, (fun _ h2 => by have h3 : dn 10 = false := h2; rw [hd10.out] at h3; cases h3), fun h => own_far (own_far (own_far (h10.out h) hRl _) hRl _) hRl _, fun _ => rfl, fun _ => KN.out⟩
    | n + 13, h => omega
  case fin =>
    clear hops hdeps hback
    rintro dn ac W hJ hall
    obtain ⟨t3, t4, t5, t6, t7, t8, t9, t10, t11, t12, t13, t14, rfl, hE_4_9, hE_4_10, hE_4_11, hE_4_12, hE_9_10, hE_9_11, hE_9_12, hE_10_11, hE_10_12, hE_11_12, hO, hS, hRR, h0, h1, h2, h3, h4, h5, h6, h7, h8, h9, h10, h11, h12⟩ := (HJ.out _ _ _).1 hJ
    exact fin _ _ _ _ _ _ _ _ _ _ _ _ W hO hS (h10 (hall 10 (by omega))) (h12 (hall 12 (by omega)))
end Go.Proofs.YtgghelpbobbkgaaDoor

/- The model's chapter 5: PackData. -/
namespace Go.Proofs.YtgghelpbobbkgaaDoor
open Go.RowKit Go.Deep

set_option maxHeartbeats 400000 in
theorem l5Bad_any (c : Int) (w : World) : Calls Tryd.prog 69 #[.int .i64 c] w fun e w' => e = .returned (.agg #[.int .i64 c, .int .i64 0, .int .i64 0, .slice none 0 0]) ∧ w.alloc (.cells #[.int .i64 c, .int .i64 0, .int .i64 0, .slice none 0 0] 30) = w' := by
  go_enter Tryd.func69, Tryd.ntmps69
  go_wp2
  exact bodyPost_ret (v := .agg #[.int .i64 c, .int .i64 0, .int .i64 0, .slice none 0 0]) (by simp [results, Tryd.results69, go_sem]) rfl ⟨rfl, rfl⟩
set_option maxRecDepth 100000 in
set_option maxHeartbeats 2000000 in
theorem pd_spec (y : DataM) (vs : List Value) (u : World) (h : RdA u y.vs vs) (hw : WfA y.vs) (ht : tot.totL y.vs ≤ 1048576) : Calls Tryd.prog 17 #[.agg vs.toArray] u (Res u (pdR y).vs) := by
  obtain ⟨A6, c6, rfl⟩ := shape_Data h
  have K1 := (Blk.new u 25 #[.int .i64 y.Tsn, .int .i64 y.Stream, .int .i64 y.Seq, .bool y.First, .bool y.Last, .bool y.Unordered, .slice A6 y.Piece.length c6]).alloc (.cells #[.int .i64 0, .int .i64 0, .int .i64 0, .slice none 0 0] 30)
  have R1 := Blk.new (u.alloc (.cells #[.int .i64 y.Tsn, .int .i64 y.Stream, .int .i64 y.Seq, .bool y.First, .bool y.Last, .bool y.Unordered, .slice A6 y.Piece.length c6] 25)) 30 #[.int .i64 0, .int .i64 0, .int .i64 0, .slice none 0 0]
  have B1 := bal (bal (Below.refl u.heap.size u) (.cells #[.int .i64 y.Tsn, .int .i64 y.Stream, .int .i64 y.Seq, .bool y.First, .bool y.Last, .bool y.Unordered, .slice A6 y.Piece.length c6] 25)) (.cells #[.int .i64 0, .int .i64 0, .int .i64 0, .slice none 0 0] 30)
  rw [World.size_alloc] at R1
  obtain ⟨w1, hw1⟩ : ∃ w1, (u.alloc (.cells #[.int .i64 y.Tsn, .int .i64 y.Stream, .int .i64 y.Seq, .bool y.First, .bool y.Last, .bool y.Unordered, .slice A6 y.Piece.length c6] 25)).alloc (.cells #[.int .i64 0, .int .i64 0, .int .i64 0, .slice none 0 0] 30) = w1 := ⟨_, rfl⟩
  rw [hw1] at K1 R1 B1
  have hlt := K1.lt
  have M1 : RdL w1 y.vs u.heap.size 0 := RdL.of_cells (RdA.below B1 h) (fun k hk => by rw [Nat.zero_add, K1.cell]; exact arr_get _ k)
  have HW1 := hidH hw1
  have HM := hidH M1
  have HB := hidH B1
  have HR := hidH R1
  have HWF := hidH hw
  have HT := hidH ht
  clear hw1 h K1 R1 B1 M1 hw ht
  go_enter Tryd.func17, Tryd.ntmps17
  go_wp2_with fail
  rw [HW1.out]
  refine (pdF_any u.heap.size 0 y w1 HM.out).mono ?_
  rintro e w3 ⟨rfl, b3⟩
  have HM3 := hidH (RdL.below b3 _ hlt HM.out)
  have HB3 := hidH (btr HB.out b3)
  have HR3 := hidH (HR.out.below b3)
  have hlt3 := Nat.lt_of_lt_of_le hlt b3.size
  clear HM HB HR b3 HW1 hlt
  by_cases hz : pdF y = 0
  · have HZ := hidH hz
    have HC := hidH (l5Data_any u.heap.size 0 y w3 hlt3 HM3.out (pdF_zero hz).1.1 (pdF_zero hz).1.2 (pdF_zero hz).2.1.1 (by have := (pdF_zero hz).2.1.2; omega) (pdF_zero hz).2.2.1.1 (by have := (pdF_zero hz).2.2.1.2; omega) (by have := (pdF_zero hz).2.2.2.2; omega))
    rw [hz]
    clear hz HM3 hlt3
    go_wp2_with fail
    refine HC.out.mono ?_
    rintro e w4 ⟨vs, rfl, O4, b4⟩
    obtain ⟨A9, c9, rfl⟩ := shape_Chunk O4.rd
    have R4 := HR3.out.below b4
    have hr3 := HR3.out.lt
    have x0 := R4.cell 0
    have x1 := R4.cell 1
    have x2 := R4.cell 2
    have x3 := R4.cell 3
    have f0 := R4.frozen 0
    have f1 := R4.frozen 1
    have f2 := R4.frozen 2
    have f3 := R4.frozen 3
    simp only [List.getElem?_toArray, List.getElem?_cons_succ, List.getElem?_cons_zero] at x0 x1 x2 x3
    have hr := R4.lt
    have HO := hidH O4
    have HB4 := hidH (btr HB3.out b4)
    clear R4 O4 b4 HC
    go_wp2
    have PF : ∀ a b c' d : Value, OwN u.heap.size ((((w4.setCell ⟨u.heap.size + 1, 0, none⟩ a).setCell ⟨u.heap.size + 1, 1, none⟩ b).setCell ⟨u.heap.size + 1, 2, none⟩ c').setCell ⟨u.heap.size + 1, 3, none⟩ d).heap.size ((((w4.setCell ⟨u.heap.size + 1, 0, none⟩ a).setCell ⟨u.heap.size + 1, 1, none⟩ b).setCell ⟨u.heap.size + 1, 2, none⟩ c').setCell ⟨u.heap.size + 1, 3, none⟩ d) _ _ := fun a b c' d =>
      OwN.int 0 (((((HO.out.win (set_win _ (u.heap.size + 1) 0 a) (.inr (by omega))).win (set_win _ (u.heap.size + 1) 1 b) (.inr (by omega))).win (set_win _ (u.heap.size + 1) 2 c') (.inr (by omega))).win (set_win _ (u.heap.size + 1) 3 d) (.inr (by omega))).mono (by omega) (by simp [World.setCell]) (Nat.le_refl _))
    exact bodyPost_ret (v := .agg #[.int .i64 0, .int .i64 (pdC y).Kind, .int .i64 (pdC y).Flags, .slice A9 (pdC y).Body.length c9]) (by simp [results, Tryd.results17, go_sem, x0, x1, x2, x3]) rfl ⟨_, rfl, by
      have e : (pdR y).vs = .int 0 :: (pdC y).vs := by rw [pdR, crOf, if_pos HZ.out]; rfl
      rw [e]
      exact PF _ _ _ _, bst (bst (bst (bst HB4.out (Nat.le_succ _) _) (Nat.le_succ _) _) (Nat.le_succ _) _) (Nat.le_succ _) _⟩
  · have hne : (pdF y != 0) = true := by rw [bne_iff_ne]; exact hz
    have HZ := hidH hz
    obtain ⟨F, hF⟩ : ∃ F, pdF y = F := ⟨_, rfl⟩
    have HF := hidH hF
    rw [hF] at hne ⊢
    clear hz hF HM3
    go_wp2_with fail
    refine (l5Bad_any F w3).mono ?_
    rintro e w4 ⟨rfl, h4⟩
    have b4 : Below w3.heap.size w3 w4 := by rw [← h4]; exact bal (Below.refl _ _) _
    have R4 := HR3.out.below b4
    have HB4 := hidH (btr HB3.out b4)
    have x0 := R4.cell 0
    have x1 := R4.cell 1
    have x2 := R4.cell 2
    have x3 := R4.cell 3
    simp only [List.getElem?_toArray, List.getElem?_cons_succ, List.getElem?_cons_zero] at x0 x1 x2 x3
    have f0 := R4.frozen 0
    have f1 := R4.frozen 1
    have f2 := R4.frozen 2
    have f3 := R4.frozen 3
    have hr := R4.lt
    clear h4 b4 R4
    go_wp2
    exact bodyPost_ret (v := .agg #[.int .i64 F, .int .i64 0, .int .i64 0, .slice none 0 0]) (by simp [results, Tryd.results17, go_sem, x0, x1, x2, x3]) rfl ⟨_, rfl, by
      have e : (pdR y).vs = [.int F, .int 0, .int 0, .bs []] := by rw [pdR, crOf, if_neg HZ.out, HF.out]; rfl
      rw [e]
      exact (OwN.int F (OwN.int 0 (OwN.int 0 (OwN.empty _ (Nat.le_refl _))))), bst (bst (bst (bst HB4.out (Nat.le_succ _) _) (Nat.le_succ _) _) (Nat.le_succ _) _) (Nat.le_succ _) _⟩
end Go.Proofs.YtgghelpbobbkgaaDoor

/- The model's chapter 5: answers: l5Answer, PackAnswer. -/
namespace Go.Proofs.YtgghelpbobbkgaaDoor
open Go.RowKit Go.Deep

set_option maxRecDepth 100000 in
set_option maxHeartbeats 4000000 in
theorem l5Answer_any (g o : Nat) (y : AnswerM) (w : World) (hg : g < w.heap.size) (h : RdL w y.vs g o) (ht0 : 0 ≤ y.Serial) (ht1 : y.Serial ≤ 4294967295) (hcs : ∀ j, j < y.Codes.length → 0 ≤ y.Codes.getD j 0 ∧ y.Codes.getD j 0 ≤ 255) (hcl : y.Codes.length ≤ 200) :
    Calls Tryd.prog 83 #[.pointer (some ⟨g, o, none⟩)] w (Res w (paC y).vs) := by
  obtain ⟨A, c, q0, q1, hA⟩ := mem_Answer h
  have HI := hidH (isOf hA)
  have HQ := hidH (And.intro q0 q1)
  have HCS := hidH hcs
  have HCL := hidH hcl
  have K1 := (Blk.new w 28 #[.int .i64 0, .int .i64 0, .slice none 0 0]).below (Below.refl _ _).drew
  have B1 := (bal (Below.refl w.heap.size w) (.cells #[.int .i64 0, .int .i64 0, .slice none 0 0] 28)).drew
  have HK := hidH K1
  have HB := hidH B1
  have HS := hidH (show (w.alloc (.cells #[.int .i64 0, .int .i64 0, .slice none 0 0] 28)).drew.heap.size = w.heap.size + 1 by show (World.alloc _ _).heap.size = _; simp only [World.size_alloc])
  clear h hA q0 q1 hcs hcl K1 B1
  go_enter Tryd.func83, Tryd.ntmps83
  go_wp2_with fail
  refine wp_region_any (by kernel_rfl) ?_
  refine regA1 _ g o w.heap.size y A c w _ ht0 ht1 HCS.out HCL.out HQ.out.1 HQ.out.2 HI.out hg HB.out.size (Nat.le_refl _) HK.out.lt (by kernel_rfl) (by kernel_rfl) (by kernel_rfl) rfl (fun h => h) (fun h => h) (fun h => h) (fun h => h) (fun h => h) (fun h => h) (fun h => h) (fun h => h) (fun h => h) (fun h => h) HB.out (Nat.le_refl _) (fun _ => HK.out) ?_
  intros
  rename_i W2 hO2 hS2 h6 h8
  obtain ⟨L, hL⟩ : ∃ L, pk y.Serial ++ ((y.Codes.length : Int) :: y.Codes) = L := ⟨_, rfl⟩
  have hl : L.length = 4 + (y.Codes.length + 1) := by rw [← hL]; simp [pk] <;> omega
  rw [hL, ← hl] at h6
  obtain ⟨A5, c5, e5, ob5, k5, m5⟩ := own_ob h6
  subst e5
  have HL := hidH (show (paC y).Body = L from hL)
  have x0 := h8.cell 0
  have x1 := h8.cell 1
  have x2 := h8.cell 2
  simp only [List.getElem?_toArray, List.getElem?_cons_succ, List.getElem?_cons_zero] at x0 x1 x2
  rw [HS.out] at ob5
  have PF : OwN w.heap.size W2.heap.size W2 [.int 128, .int 0, .bs L] _ := OwN.int 128 (OwN.int 0 ((OwN.cons (ob5.owv (Nat.le_refl _) ⟨k5, m5⟩) (OwN.nil (B := W2.heap.size) (C := W2.heap.size) (Nat.le_refl _)) (by rw [HS.out] at hS2; exact hS2) (Nat.le_refl _)).mono (by omega) (Nat.le_refl _) (Nat.le_refl _)))
  have HP := hidH PF
  have HO := hidH hO2
  clear hO2 hS2 h6 h8 hl hL ob5 k5 m5 PF
  go_wp2
  exact bodyPost_ret (v := .agg #[.int .i64 128, .int .i64 0, .slice A5 L.length c5]) (by simp [results, Tryd.results83, go_sem, x0, x1, x2]) rfl ⟨_, rfl, by
    show OwN _ _ _ [.int 128, .int 0, .bs (paC y).Body] _
    rw [HL.out]
    exact HP.out, HO.out⟩
set_option maxRecDepth 100000 in
set_option maxHeartbeats 2000000 in
theorem pa_spec (y : AnswerM) (vs : List Value) (u : World) (h : RdA u y.vs vs) (hw : WfA y.vs) (ht : tot.totL y.vs ≤ 1048576) : Calls Tryd.prog 31 #[.agg vs.toArray] u (Res u (paR y).vs) := by
  obtain ⟨A1, c1, rfl⟩ := shape_Answer h
  have K1 := (Blk.new u 63 #[.int .i64 y.Serial, .slice A1 y.Codes.length c1]).alloc (.cells #[.int .i64 0, .int .i64 0, .int .i64 0, .slice none 0 0] 30)
  have R1 := Blk.new (u.alloc (.cells #[.int .i64 y.Serial, .slice A1 y.Codes.length c1] 63)) 30 #[.int .i64 0, .int .i64 0, .int .i64 0, .slice none 0 0]
  have B1 := bal (bal (Below.refl u.heap.size u) (.cells #[.int .i64 y.Serial, .slice A1 y.Codes.length c1] 63)) (.cells #[.int .i64 0, .int .i64 0, .int .i64 0, .slice none 0 0] 30)
  rw [World.size_alloc] at R1
  obtain ⟨w1, hw1⟩ : ∃ w1, (u.alloc (.cells #[.int .i64 y.Serial, .slice A1 y.Codes.length c1] 63)).alloc (.cells #[.int .i64 0, .int .i64 0, .int .i64 0, .slice none 0 0] 30) = w1 := ⟨_, rfl⟩
  rw [hw1] at K1 R1 B1
  have hlt := K1.lt
  have M1 : RdL w1 y.vs u.heap.size 0 := RdL.of_cells (RdA.below B1 h) (fun k hk => by rw [Nat.zero_add, K1.cell]; exact arr_get _ k)
  have HW1 := hidH hw1
  have HM := hidH M1
  have HB := hidH B1
  have HR := hidH R1
  have HWF := hidH hw
  have HT := hidH ht
  clear hw1 h K1 R1 B1 M1 hw ht
  go_enter Tryd.func31, Tryd.ntmps31
  go_wp2_with fail
  rw [HW1.out]
  refine (paF_any u.heap.size 0 y w1 HM.out).mono ?_
  rintro e w3 ⟨rfl, b3⟩
  have HM3 := hidH (RdL.below b3 _ hlt HM.out)
  have HB3 := hidH (btr HB.out b3)
  have HR3 := hidH (HR.out.below b3)
  have hlt3 := Nat.lt_of_lt_of_le hlt b3.size
  clear HM HB HR b3 HW1 hlt
  by_cases hz : paF y = 0
  · have HZ := hidH hz
    have HC := hidH (l5Answer_any u.heap.size 0 y w3 hlt3 HM3.out (paF_zero hz).1.1 (paF_zero hz).1.2 (fun j hj => by have := (paF_zero hz).2.2 j hj; simp only [inB, Bool.and_eq_true, decide_eq_true_eq] at this; omega) (by have := (paF_zero hz).2.1.2; omega))
    rw [hz]
    clear hz HM3 hlt3
    go_wp2_with fail
    refine HC.out.mono ?_
    rintro e w4 ⟨vs, rfl, O4, b4⟩
    obtain ⟨A9, c9, rfl⟩ := shape_Chunk O4.rd
    have R4 := HR3.out.below b4
    have hr3 := HR3.out.lt
    have x0 := R4.cell 0
    have x1 := R4.cell 1
    have x2 := R4.cell 2
    have x3 := R4.cell 3
    have f0 := R4.frozen 0
    have f1 := R4.frozen 1
    have f2 := R4.frozen 2
    have f3 := R4.frozen 3
    simp only [List.getElem?_toArray, List.getElem?_cons_succ, List.getElem?_cons_zero] at x0 x1 x2 x3
    have hr := R4.lt
    have HO := hidH O4
    have HB4 := hidH (btr HB3.out b4)
    clear R4 O4 b4 HC
    go_wp2
    have PF : ∀ a b c' d : Value, OwN u.heap.size ((((w4.setCell ⟨u.heap.size + 1, 0, none⟩ a).setCell ⟨u.heap.size + 1, 1, none⟩ b).setCell ⟨u.heap.size + 1, 2, none⟩ c').setCell ⟨u.heap.size + 1, 3, none⟩ d).heap.size ((((w4.setCell ⟨u.heap.size + 1, 0, none⟩ a).setCell ⟨u.heap.size + 1, 1, none⟩ b).setCell ⟨u.heap.size + 1, 2, none⟩ c').setCell ⟨u.heap.size + 1, 3, none⟩ d) _ _ := fun a b c' d =>
      OwN.int 0 (((((HO.out.win (set_win _ (u.heap.size + 1) 0 a) (.inr (by omega))).win (set_win _ (u.heap.size + 1) 1 b) (.inr (by omega))).win (set_win _ (u.heap.size + 1) 2 c') (.inr (by omega))).win (set_win _ (u.heap.size + 1) 3 d) (.inr (by omega))).mono (by omega) (by simp [World.setCell]) (Nat.le_refl _))
    exact bodyPost_ret (v := .agg #[.int .i64 0, .int .i64 (paC y).Kind, .int .i64 (paC y).Flags, .slice A9 (paC y).Body.length c9]) (by simp [results, Tryd.results31, go_sem, x0, x1, x2, x3]) rfl ⟨_, rfl, by
      have e : (paR y).vs = .int 0 :: (paC y).vs := by rw [paR, crOf, if_pos HZ.out]; rfl
      rw [e]
      exact PF _ _ _ _, bst (bst (bst (bst HB4.out (Nat.le_succ _) _) (Nat.le_succ _) _) (Nat.le_succ _) _) (Nat.le_succ _) _⟩
  · have hne : (paF y != 0) = true := by rw [bne_iff_ne]; exact hz
    have HZ := hidH hz
    obtain ⟨F, hF⟩ : ∃ F, paF y = F := ⟨_, rfl⟩
    have HF := hidH hF
    rw [hF] at hne ⊢
    clear hz hF HM3
    go_wp2_with fail
    refine (l5Bad_any F w3).mono ?_
    rintro e w4 ⟨rfl, h4⟩
    have b4 : Below w3.heap.size w3 w4 := by rw [← h4]; exact bal (Below.refl _ _) _
    have R4 := HR3.out.below b4
    have HB4 := hidH (btr HB3.out b4)
    have x0 := R4.cell 0
    have x1 := R4.cell 1
    have x2 := R4.cell 2
    have x3 := R4.cell 3
    simp only [List.getElem?_toArray, List.getElem?_cons_succ, List.getElem?_cons_zero] at x0 x1 x2 x3
    have f0 := R4.frozen 0
    have f1 := R4.frozen 1
    have f2 := R4.frozen 2
    have f3 := R4.frozen 3
    have hr := R4.lt
    clear h4 b4 R4
    go_wp2
    exact bodyPost_ret (v := .agg #[.int .i64 F, .int .i64 0, .int .i64 0, .slice none 0 0]) (by simp [results, Tryd.results31, go_sem, x0, x1, x2, x3]) rfl ⟨_, rfl, by
      have e : (paR y).vs = [.int F, .int 0, .int 0, .bs []] := by rw [paR, crOf, if_neg HZ.out, HF.out]; rfl
      rw [e]
      exact (OwN.int F (OwN.int 0 (OwN.int 0 (OwN.empty _ (Nat.le_refl _))))), bst (bst (bst (bst HB4.out (Nat.le_succ _) _) (Nat.le_succ _) _) (Nat.le_succ _) _) (Nat.le_succ _) _⟩
end Go.Proofs.YtgghelpbobbkgaaDoor

/- The model's ReadAnswer. -/
namespace Go.Proofs.YtgghelpbobbkgaaDoor
open Go.RowKit Go.Deep

theorem rwV_chF {x : ChunkM} (h : chF x.Kind x.Flags x.Body ≠ 0) : rwV x = none := by
  cases e : rwV x with
  | none => rfl
  | some y => exact absurd (chF_ans ((rwV_iff x y).1 e)) h
theorem rwV_cnt {x : ChunkM} (h : ¬ cntOk x.Body 4) : rwV x = none := by
  unfold rwV
  rw [if_neg (fun q => h q.1)]
theorem cntL_by {l : List Int} (h : Bytes l) (k : Nat) : Bytes (cntL l k) := bytes_t (bytes_d h _) _
theorem ints_of_bytes {l : List Int} (h : Bytes l) : Ints l := fun x hx => by have := h x hx; omega
theorem raw_wf {l : List Int} (h : Bytes l) : WfA (rawV l).vs := by
  have hw := atW_w5 h 0
  exact ⟨⟨by show _ ≤ atW l 0; omega, by show atW l 0 ≤ _; omega⟩, ints_of_bytes (cntL_by h 4), trivial⟩
theorem raw_tot {l : List Int} (h : Bytes l) : tot.totL (rawV l).vs ≤ 1048576 := by
  have := h.get 4
  show 0 + ((cntL l 4).length + 0) ≤ 1048576
  unfold cntL
  rw [List.length_take]
  unfold cntN
  omega
theorem rwR_len (x : ChunkM) (hw : WfA x.vs) (_ : tot.totL x.vs ≤ 1048576) : vcA (rwR x).vs ≤ 1000000000 := by
  have hb : Bytes x.Body := hw.2.2.1
  unfold rwR
  cases e : rwV x with
  | none => simp [AnswerResultM.vs, vcA, vc, cc]
  | some y =>
    have hy : y = rawV x.Body := by unfold rwV at e; split at e <;> cases e; rfl
    subst hy
    have h4 := hb.get 4
    have hl : (rawV x.Body).Codes.length ≤ 255 := by
      show (cntL x.Body 4).length ≤ 255
      unfold cntL cntN
      rw [List.length_take]; omega
    simp [AnswerResultM.vs, vcA, vc, cc]; omega
theorem l1At_w (A : Option Addr) (l : List Int) (c k : Nat) (w : World) (hA : Bs w A l) (hb : Bytes l) (hk : k + 4 ≤ l.length) (hm : l.length ≤ 4000000) :
    Calls Tryd.prog 86 #[.slice A l.length c, .int .i64 (k : Int)] w fun e w' => e = .returned (.int .i64 (atW l k)) ∧ Below w.heap.size w w' := by
  rcases hA with rfl | ⟨b, off, rfl, hb', hA⟩
  · simp at hk
  · obtain ⟨p0, p1⟩ := hb.get k
    obtain ⟨q0, q1⟩ := hb.get (k + 1)
    obtain ⟨r0, r1⟩ := hb.get (k + 2)
    obtain ⟨s0, s1⟩ := hb.get (k + 3)
    refine (l1At_any b off l.length c k _ _ _ _ w hk (by omega) (hA k (by omega)) (hA (k + 1) (by omega)) (hA (k + 2) (by omega)) (hA (k + 3) (by omega)) p0 p1 q0 q1 r0 r1 s0 s1).mono ?_
    rintro e w' ⟨rfl, m, rfl⟩
    exact ⟨rfl, below_drewN (Below.refl w.heap.size w) m⟩
set_option maxRecDepth 100000 in
set_option maxHeartbeats 8000000 in
theorem ra_spec (x : ChunkM) (vs : List Value) (u : World) (h : RdA u x.vs vs) (hw : WfA x.vs) (ht : tot.totL x.vs ≤ 1048576) : Calls Tryd.prog 54 #[.agg vs.toArray] u (Res u (rwR x).vs) := by
  obtain ⟨A2, c2, rfl⟩ := shape_Chunk h
  have h2 := h.tl.tl.hd
  unfold Rd at h2
  obtain ⟨A', c', e, ⟨hc, hcm⟩, hA⟩ := h2
  cases e
  have hb : Bytes x.Body := hw.2.2.1
  have hm : x.Body.length ≤ 4000000 := by simp only [ChunkM.vs, tot.totL, tot] at ht; omega
  have hmI : (x.Body.length : Int) ≤ 4000000 := by omega
  have K1 := (Blk.new u 28 #[.int .i64 x.Kind, .int .i64 x.Flags, .slice A2 x.Body.length c2]).alloc (.cells #[.int .i64 0, .int .i64 0, .slice none 0 0] 72)
  have R1 := Blk.new (u.alloc (.cells #[.int .i64 x.Kind, .int .i64 x.Flags, .slice A2 x.Body.length c2] 28)) 72 #[.int .i64 0, .int .i64 0, .slice none 0 0]
  have B1 := bal (bal (Below.refl u.heap.size u) (.cells #[.int .i64 x.Kind, .int .i64 x.Flags, .slice A2 x.Body.length c2] 28)) (.cells #[.int .i64 0, .int .i64 0, .slice none 0 0] 72)
  rw [World.size_alloc] at R1
  obtain ⟨w1, hw1⟩ : ∃ w1, (u.alloc (.cells #[.int .i64 x.Kind, .int .i64 x.Flags, .slice A2 x.Body.length c2] 28)).alloc (.cells #[.int .i64 0, .int .i64 0, .slice none 0 0] 72) = w1 := ⟨_, rfl⟩
  have hs1 : w1.heap.size = u.heap.size + 1 + 1 := by rw [← hw1]; simp
  rw [hw1] at K1 R1 B1
  have HF := hidH (chFault_spec x.Kind x.Flags A2 x.Body c2 w1 (by omega))
  unfold ckV at HF
  have HT := hidH (And.intro K1 (And.intro R1 (And.intro B1 (bs_below hA B1))))
  have HS := hidH hs1
  have HM := hidH (And.intro hb (And.intro hm (RdA.below B1 h)))
  have k0 := K1.cell 0
  have k1 := K1.cell 1
  have k2 := K1.cell 2
  simp only [List.getElem?_toArray, List.getElem?_cons_succ, List.getElem?_cons_zero] at k0 k1 k2
  have hlt := K1.lt
  have NO : ∀ (W : World) (C : Int), rwV x = none → rdOf x = C → Below u.heap.size u W → OwN u.heap.size W.heap.size W (rwR x).vs [.int .i64 C, .int .i64 0, .slice none 0 0] := fun W C e1 e2 _ => by
    have e : (rwR x).vs = [.int (rdOf x), .int 0, .is []] := by rw [rwR, e1]; rfl
    rw [e, e2]
    exact OwN.int _ (OwN.int 0 (OwN.nois (OwN.nil (Nat.le_refl _))))
  replace NO := hidH NO
  clear h K1 R1 B1 hA hb hm hw ht hc hcm hs1
  obtain ⟨f, hf⟩ : ∃ f, chF x.Kind x.Flags x.Body = f := ⟨_, rfl⟩
  rw [hf] at HF
  have HEF := hidH hf
  clear hf
  go_enter Tryd.func54, Tryd.ntmps54
  go_wp2_with fail
  refine HF.out.mono ?_
  rintro e w2 ⟨rfl, b2⟩
  clear HF k0 k1 k2 hlt hw1
  have K2 := HT.out.1.below b2
  have R2 := HT.out.2.1.below b2
  have HB2 := hidH (btr HT.out.2.2.1 b2)
  have HA2 := hidH (bs_below HT.out.2.2.2 b2)
  have HZ2 := hidH b2.size
  have HB12 := hidH b2
  have k0 := K2.cell 0
  have k1 := K2.cell 1
  have k2 := K2.cell 2
  have r0 := R2.cell 0
  have r1 := R2.cell 1
  have r2 := R2.cell 2
  have f0 := R2.frozen 0
  have f1 := R2.frozen 1
  have f2 := R2.frozen 2
  simp only [List.getElem?_toArray, List.getElem?_cons_succ, List.getElem?_cons_zero] at k0 k1 k2 r0 r1 r2
  have hk := K2.lt
  have hr := R2.lt
  have HKR := hidH (And.intro K2 R2)
  by_cases hz : f = 0
  · have q : (f != 0) = false := by rw [bne_eq_false_iff_eq]; exact hz
    have H5 := hidH (show rdOf x = 5 by unfold rdOf; rw [HEF.out, if_pos hz])
    clear b2 K2 R2 hz
    by_cases hl : x.Body.length < 5
    · have hlI : (x.Body.length : Int) < 5 := by omega
      have HN := hidH (rwV_cnt (x := x) (fun q => by have := q.1; omega))
      clear hl
      go_wp2
      exact bodyPost_ret (v := .agg #[.int .i64 5, .int .i64 0, .slice none 0 0]) (by simp [results, Tryd.results54, go_sem, r0, r1, r2]) rfl ⟨_, rfl, NO.out _ 5 HN.out H5.out (bst (bst (bst HB2.out (Nat.le_succ _) _) (Nat.le_succ _) _) (Nat.le_succ _) _), bst (bst (bst HB2.out (Nat.le_succ _) _) (Nat.le_succ _) _) (Nat.le_succ _) _⟩
    · have hlI : ¬ (x.Body.length : Int) < 5 := by omega
      have hln : ¬ x.Body.length < 5 := hl
      have HC := hidH (l5Count_any A2 x.Body c2 4 w2 HA2.out HM.out.1 HM.out.2.1 (by omega))
      have HL4 := hidH (show 4 ≤ x.Body.length by omega)
      clear hl
      go_wp2_with fail
      refine HC.out.mono ?_
      rintro e w3 ⟨b3, ⟨hok, A1, c1, rfl, ho⟩ | ⟨hno, rfl⟩⟩
      · clear k0 k1 k2 r0 r1 r2 f0 f1 f2 hk hr HC
        have HO3 := hidH (show OwN w2.heap.size w3.heap.size w3 (rawV x.Body).vs [.int .i64 (atW x.Body 0), .slice A1 (cntL x.Body 4).length c1] from OwN.int _ (OwN.cons (B := w2.heap.size) (C := w3.heap.size) (D := w3.heap.size) ho (OwN.nil (Nat.le_refl _)) b3.size (Nat.le_refl _)))
        have HAT := hidH (l1At_w A2 x.Body c2 0 w3 (bs_below HA2.out b3) HM.out.1 (by have := HL4.out; omega) HM.out.2.1)
        have k0 := (HKR.out.1.below b3).cell 0
        have k1 := (HKR.out.1.below b3).cell 1
        have k2 := (HKR.out.1.below b3).cell 2
        simp only [List.getElem?_toArray, List.getElem?_cons_succ, List.getElem?_cons_zero] at k0 k1 k2
        have hk := (HKR.out.1.below b3).lt
        have HB3 := hidH b3
        have HOK := hidH hok
        obtain ⟨n1, hn1⟩ : ∃ n, (cntL x.Body 4).length = n := ⟨_, rfl⟩
        obtain ⟨ser, hser⟩ : ∃ n, atW x.Body 0 = n := ⟨_, rfl⟩
        rw [hser] at HAT
        rw [hn1]
        have HE1 := hidH (And.intro hn1 hser)
        clear ho b3 hok hn1 hser
        go_wp2_with fail
        refine HAT.out.mono ?_
        rintro e w4 ⟨rfl, b4⟩
        clear k0 k1 k2 hk HAT
        have KA := Blk.new w4 63 #[.int .i64 ser, .slice A1 n1 c1]
        have b5 := bal (Below.refl w4.heap.size w4) (.cells #[.int .i64 ser, .slice A1 n1 c1] 63)
        obtain ⟨w5, hw5⟩ : ∃ w5, w4.alloc (.cells #[.int .i64 ser, .slice A1 n1 c1] 63) = w5 := ⟨_, rfl⟩
        rw [hw5] at KA b5
        have b35 := btr b4 b5
        have HO5 := hidH (show OwN w2.heap.size w3.heap.size w5 (rawV x.Body).vs [.int .i64 ser, .slice A1 n1 c1] by rw [← HE1.out.1, ← HE1.out.2]; exact HO3.out.below b35)
        have HPA := hidH (pa_spec (rawV x.Body) _ w5 HO5.out.rd (raw_wf HM.out.1) (raw_tot HM.out.1))
        have HB25 := hidH (btr HB3.out b35)
        have HZ35 := hidH b35.size
        have HKA := hidH KA
        have a0 := KA.cell 0
        have a1 := KA.cell 1
        simp only [List.getElem?_toArray, List.getElem?_cons_succ, List.getElem?_cons_zero] at a0 a1
        have ha := KA.lt
        clear b4 b5 b35 KA HO3
        go_wp2_with fail
        refine HPA.out.mono ?_
        rintro e w6 ⟨rs, rfl, hoz, b6⟩
        have HB26 := hidH (btr HB25.out b6)
        have HIS := hidH (l5Is_any u.heap.size 0 x (paR (rawV x.Body)) rs w6 (RdL.of_cells (RdA.below (btr HB12.out HB26.out) HM.out.2.2) (fun k _ => by rw [Nat.zero_add, (HKR.out.1.below HB26.out).cell k]; simp)) hoz.rd HM.out.1 paR_b)
        have HO6 := hidH (HO5.out.below b6)
        have HA6 := hidH (HKA.out.below b6)
        have HZ6 := hidH b6.size
        obtain ⟨bb, hbb⟩ : ∃ bb, isM x (paR (rawV x.Body)) = bb := ⟨_, rfl⟩
        rw [hbb] at HIS
        have HBB := hidH hbb
        clear hoz b6 HPA HO5 HKA HB25 a0 a1 ha hw5 hbb
        go_wp2_with fail
        refine HIS.out.mono ?_
        rintro e w7 ⟨rfl, b7⟩
        have HB27 := hidH (btr HB26.out b7)
        have HO7 := hidH (HO6.out.below b7)
        have HZ7 := hidH b7.size
        have KA := HA6.out.below b7
        have R7 := HKR.out.2.below HB27.out
        have HBu := hidH (btr HB2.out HB27.out)
        have a0 := KA.cell 0
        have a1 := KA.cell 1
        have r0 := R7.cell 0
        have r1 := R7.cell 1
        have r2 := R7.cell 2
        have f0 := R7.frozen 0
        have f1 := R7.frozen 1
        have f2 := R7.frozen 2
        simp only [List.getElem?_toArray, List.getElem?_cons_succ, List.getElem?_cons_zero] at a0 a1 r0 r1 r2
        have ha := KA.lt
        have hr := R7.lt
        clear b7 HIS HO6 HA6 KA R7 HB26 HB27
        cases bb
        · have HN := hidH (show rwV x = none by unfold rwV; rw [if_neg (fun q => by have h1 := q.2; rw [HBB.out] at h1; cases h1)])
          go_wp2
          exact bodyPost_ret (v := .agg #[.int .i64 5, .int .i64 0, .slice none 0 0]) (by simp [results, Tryd.results54, go_sem, r0, r1, r2]) rfl ⟨_, rfl, NO.out _ 5 HN.out H5.out (bst (bst (bst HBu.out (Nat.le_succ _) _) (Nat.le_succ _) _) (Nat.le_succ _) _), bst (bst (bst HBu.out (Nat.le_succ _) _) (Nat.le_succ _) _) (Nat.le_succ _) _⟩
        · have HV := hidH (show rwV x = some (rawV x.Body) by unfold rwV; rw [if_pos ⟨HOK.out, HBB.out⟩])
          go_wp2
          exact bodyPost_ret (v := .agg #[.int .i64 0, .int .i64 ser, .slice A1 n1 c1]) (by simp [results, Tryd.results54, go_sem, r0, r1, r2]) rfl ⟨_, rfl, by
            have e : (rwR x).vs = .int 0 :: (rawV x.Body).vs := by rw [rwR, HV.out]; rfl
            rw [e]
            refine OwN.int 0 (OwN.mono (B := w2.heap.size) (C := w3.heap.size) ?_ (by have := HS.out; have := HZ2.out; omega) (by have := HZ35.out; have := HZ6.out; have := HZ7.out; simp [World.setCell]; omega) (Nat.le_refl _))
            iterate 3 (refine OwN.win (B' := u.heap.size + 1) (C' := u.heap.size + 1 + 1) ?_ (win_set _ _ _ _) (.inr (by have := HS.out; have := HZ2.out; omega)))
            exact HO7.out, by
            iterate 3 (refine bst ?_ (Nat.le_succ _) _)
            exact HBu.out⟩
      · clear k0 k1 k2 r0 r1 r2 f0 f1 f2 hk hr HC
        have HAT := hidH (l1At_w A2 x.Body c2 0 w3 (bs_below HA2.out b3) HM.out.1 (by have := HL4.out; omega) HM.out.2.1)
        have k0 := (HKR.out.1.below b3).cell 0
        have k1 := (HKR.out.1.below b3).cell 1
        have k2 := (HKR.out.1.below b3).cell 2
        simp only [List.getElem?_toArray, List.getElem?_cons_succ, List.getElem?_cons_zero] at k0 k1 k2
        have hk := (HKR.out.1.below b3).lt
        have HB3 := hidH b3
        have HN := hidH (rwV_cnt hno)
        obtain ⟨ser, hser⟩ : ∃ n, atW x.Body 0 = n := ⟨_, rfl⟩
        rw [hser] at HAT
        clear b3 hno hser
        go_wp2_with fail
        refine HAT.out.mono ?_
        rintro e w4 ⟨rfl, b4⟩
        clear k0 k1 k2 hk HAT
        have b5 := bal (Below.refl w4.heap.size w4) (.cells #[.int .i64 ser, .slice none 0 0] 63)
        have b25 := btr HB3.out (btr b4 b5)
        have R5 := HKR.out.2.below b25
        have HBu := hidH (btr HB2.out b25)
        have r0 := R5.cell 0
        have r1 := R5.cell 1
        have r2 := R5.cell 2
        have f0 := R5.frozen 0
        have f1 := R5.frozen 1
        have f2 := R5.frozen 2
        simp only [List.getElem?_toArray, List.getElem?_cons_succ, List.getElem?_cons_zero] at r0 r1 r2
        have hr := R5.lt
        clear b4 b5 b25 R5
        go_wp2
        exact bodyPost_ret (v := .agg #[.int .i64 5, .int .i64 0, .slice none 0 0]) (by simp [results, Tryd.results54, go_sem, r0, r1, r2]) rfl ⟨_, rfl, NO.out _ 5 HN.out H5.out (bst (bst (bst HBu.out (Nat.le_succ _) _) (Nat.le_succ _) _) (Nat.le_succ _) _), bst (bst (bst HBu.out (Nat.le_succ _) _) (Nat.le_succ _) _) (Nat.le_succ _) _⟩
  · have q : (f != 0) = true := by rw [bne_iff_ne]; exact hz
    have HN := hidH (rwV_chF (x := x) (by rw [HEF.out]; exact hz))
    have H5 := hidH (show rdOf x = f by unfold rdOf; rw [HEF.out, if_neg hz])
    clear b2 K2 R2 hz
    go_wp2
    exact bodyPost_ret (v := .agg #[.int .i64 f, .int .i64 0, .slice none 0 0]) (by simp [results, Tryd.results54, go_sem, r0, r1, r2]) rfl ⟨_, rfl, NO.out _ f HN.out H5.out (bst (bst (bst HB2.out (Nat.le_succ _) _) (Nat.le_succ _) _) (Nat.le_succ _) _), bst (bst (bst HB2.out (Nat.le_succ _) _) (Nat.le_succ _) _) (Nat.le_succ _) _⟩
end Go.Proofs.YtgghelpbobbkgaaDoor

/- The program's sameChunk (chapter 5's words), unreadCode. -/
namespace Go.Proofs.YtgghelpbobbkgaaDoor
open Go.RowKit Go.Deep

theorem chkM_eq {x y : ChunkM} : x = y ↔ x.Kind = y.Kind ∧ x.Flags = y.Flags ∧ x.Body = y.Body := by
  cases x; cases y; simp
set_option maxHeartbeats 1000000 in
theorem sameC_any (x y : ChunkM) (A B : Option Addr) (ca cb : Nat) (w : World) (hA : Bs w A x.Body) (hB : Bs w B y.Body) (bx : Bytes x.Body) (by_ : Bytes y.Body) :
    Calls Tryd.prog 122 #[ckV x.Kind x.Flags A x.Body.length ca, ckV y.Kind y.Flags B y.Body.length cb] w fun e w' => ∃ r : Bool, e = .returned (.bool r) ∧ (r = true ↔ x = y) ∧ Below w.heap.size w w' := by
  have B2 := bal (bal (Below.refl w.heap.size w) (.cells #[.int .i64 x.Kind, .int .i64 x.Flags, .slice A x.Body.length ca] 28)) (.cells #[.int .i64 y.Kind, .int .i64 y.Flags, .slice B y.Body.length cb] 28)
  have HE := hidH (fun u h1 h2 => bEqual_any A B x.Body y.Body ca cb u h1 h2 bx by_)
  have HB := hidH B2
  have HA1 := hidH (bs_below hA B2)
  have HB1 := hidH (bs_below hB B2)
  unfold ckV
  clear hA hB bx by_ B2
  by_cases e1 : x.Kind = y.Kind
  · have f1 : (x.Kind == y.Kind) = true := by rw [beq_iff_eq]; exact e1
    by_cases e2 : x.Flags = y.Flags
    · have f2 : (x.Flags == y.Flags) = true := by rw [beq_iff_eq]; exact e2
      have HX := hidH (fun (h : x.Body = y.Body) => chkM_eq.2 ⟨e1, e2, h⟩)
      have HY := hidH (fun (h : x = y) => (chkM_eq.1 h).2.2)
      clear e1 e2
      go_enter Tryd.func122, Tryd.ntmps122
      go_wp2_with fail
      refine (HE.out _ HA1.out HB1.out).mono ?_
      rintro e w3 ⟨rfl, rfl⟩
      clear HE
      obtain ⟨d, hd⟩ : ∃ d : Bool, decide (x.Body = y.Body) = d := ⟨_, rfl⟩
      rw [hd]
      have HD := hidH hd
      clear hd
      go_wp2
      go_ret
      refine ⟨d, by cases d <;> rfl, ⟨fun h => HX.out (by have := HD.out; rw [h] at this; exact of_decide_eq_true this), fun h => by rw [← HD.out]; exact decide_eq_true (HY.out h)⟩, HB.out⟩
    · have f2 : (x.Flags == y.Flags) = false := by rw [beq_eq_false_iff_ne]; exact e2
      have HX := hidH (show ¬ x = y from fun h => e2 (chkM_eq.1 h).2.1)
      clear e1 e2
      go_enter Tryd.func122, Tryd.ntmps122
      go_wp2
      go_ret
      exact ⟨false, rfl, ⟨(fun h => by cases h), fun h => absurd h HX.out⟩, HB.out⟩
  · have f1 : (x.Kind == y.Kind) = false := by rw [beq_eq_false_iff_ne]; exact e1
    have HX := hidH (show ¬ x = y from fun h => e1 (chkM_eq.1 h).1)
    clear e1
    go_enter Tryd.func122, Tryd.ntmps122
    go_wp2
    go_ret
    exact ⟨false, rfl, ⟨(fun h => by cases h), fun h => absurd h HX.out⟩, HB.out⟩
set_option maxHeartbeats 1000000 in
theorem unread_any (x : ChunkM) (A : Option Addr) (c : Nat) (w : World) (hm : (x.Body.length : Int) ≤ 9223372036854775807) :
    Calls Tryd.prog 76 #[.agg #[.int .i64 x.Kind, .int .i64 x.Flags, .slice A x.Body.length c]] w fun e w' => e = .returned (.int .i64 (rdOf x)) ∧ Below w.heap.size w w' := by
  have B1 := bal (Below.refl w.heap.size w) (.cells #[.int .i64 x.Kind, .int .i64 x.Flags, .slice A x.Body.length c] 28)
  have HF := hidH (fun u => chFault_impl x.Kind x.Flags A x.Body c u hm)
  unfold ckV at HF
  have HB := hidH B1
  clear B1 hm
  go_enter Tryd.func76, Tryd.ntmps76
  go_wp2_with fail
  refine (HF.out _).mono ?_
  rintro e w3 ⟨rfl, b3⟩
  have HB3 := hidH (btr HB.out b3)
  clear HF b3
  by_cases hz : chF x.Kind x.Flags x.Body = 0
  · have HR := hidH (show rdOf x = 5 by rw [rdOf, if_pos hz])
    rw [hz]
    clear hz
    go_wp2
    go_ret
    exact ⟨ret_int HR.out.symm, HB3.out⟩
  · have HR := hidH (show rdOf x = chF x.Kind x.Flags x.Body by rw [rdOf, if_neg hz])
    obtain ⟨F, hF⟩ : ∃ F, chF x.Kind x.Flags x.Body = F := ⟨_, rfl⟩
    rw [hF] at hz HR ⊢
    have hne : (F != 0) = true := by rw [bne_iff_ne]; exact hz
    clear hz hF
    go_wp2
    go_ret
    exact ⟨ret_int HR.out.symm, HB3.out⟩
end Go.Proofs.YtgghelpbobbkgaaDoor

/- The program's contentOf. -/
namespace Go.Proofs.YtgghelpbobbkgaaDoor
open Go.RowKit Go.Deep

theorem OwA.pre {w : World} : ∀ {xs ys : List V} {S : Fp} {vs us : List Value}, vs.length = xs.length → OwA w (xs ++ ys) S (vs ++ us) → OwA w xs S vs
  | [], _, _, [], _, _, _ => by unfold OwA; trivial
  | x :: xs, ys, S, v :: vs, us, hl, h => by
    rw [List.cons_append, List.cons_append] at h
    unfold OwA at h ⊢
    obtain ⟨S1, S2, a, b, c, d, e⟩ := h
    exact ⟨S1, S2, a, OwA.pre (by simpa using hl) b, c, d, e⟩
theorem own_init5 {B C : Nat} {w : World} {y : InitM} {k : Int} {a b c d e f : Value} (h : OwN B C w (y.vs ++ [.int k]) [a, b, c, d, e, f]) : OwN B C w y.vs [a, b, c, d, e] :=
  ⟨h.1, OwA.pre (xs := y.vs) (ys := [.int k]) (vs := [a, b, c, d, e]) (us := [f]) rfl h.2⟩
set_option maxHeartbeats 1000000 in
theorem co_panicking (R : Nat) (a : Value) (ty : TypeId) (pv : Value) (older : List PanicEntry) (w : World) (hK : Blk w R 115 #[a]) :
    CallsD Tryd.prog 120 #[.pointer (some ⟨R, 0, none⟩)] (.panicking ({ v := .iface ty pv, recovered := false } :: older)) w fun e u' w' =>
      e = .returned (.tuple #[]) ∧ u' = .panicking ({ v := .iface ty pv, recovered := true } :: older) ∧ w' = w.setCell ⟨R, 0, none⟩ .nilIface := by
  have y0 := hK.cell 0
  have f0 := hK.frozen 0
  simp only [List.getElem?_toArray, List.getElem?_cons_zero] at y0
  refine callsD_of_wpS Tryd.func120 rfl fun c₀ cs hu => ?_
  apply wpS_seq
  apply wpS_region
  simp [wpOpsS, go_sem, recoverD, hu, Tryd.ntmps120, Exit.thenS]
  refine wpS_cond (t := true) (by simp [Act.eval, Array.replicate]) ?_
  simp only [if_true]
  apply wpS_region
  simp [wpOpsS, go_sem, y0, f0, bodyPostS, results, Tryd.results120]
set_option maxHeartbeats 1000000 in
theorem co_idle (p : Addr) (w : World) :
    CallsD Tryd.prog 120 #[.pointer (some p)] .returning w fun e u' w' => e = .returned (.tuple #[]) ∧ u' = .returning ∧ w' = w := by
  refine callsD_of_wpS Tryd.func120 rfl fun c₀ cs hu => ?_
  apply wpS_seq
  apply wpS_region
  simp [wpOpsS, go_sem, recoverD, hu, Tryd.ntmps120, Exit.thenS]
  refine wpS_cond (t := false) (by simp [Act.eval, Array.replicate]) ?_
  simp only [Bool.false_eq_true, if_false]
  refine wpS_of_wp (wp_skip ?_)
  cases c₀
  simp_all [bodyPostS, results, Tryd.results120]
/-- What contentOf leaves. -/
def CoRes (x : ChunkM) (w : World) (e : Ending) (w' : World) : Prop := ∃ v, e = .returned v ∧ CtIs w' w.heap.size w'.heap.size (ctM x) v ∧ Below w.heap.size w w'
theorem CtIs.below {y : Ct} {v : Value} {B C : Nat} {w w' : World} (h : CtIs w B C y v) (hb : Below w.heap.size w w') : CtIs w' B C y v := by
  match y, h with
  | .no, h => exact h
  | .data y, ⟨vs, e, h⟩ => exact ⟨vs, e, h.below hb⟩
  | .sack y, ⟨vs, e, h⟩ => exact ⟨vs, e, h.below hb⟩
  | .init k y, ⟨vs, e, h⟩ => exact ⟨vs, e, h.below hb⟩
  | .ask y, ⟨vs, e, h⟩ => exact ⟨vs, e, h.below hb⟩
  | .ans y, ⟨vs, e, h⟩ => exact ⟨vs, e, h.below hb⟩
theorem CtIs.win {y : Ct} {v : Value} {B C B' C' : Nat} {w w' : World} (h : CtIs w B C y v) (hb : Win B' C' w w') (ho : C ≤ B' ∨ C' ≤ B) : CtIs w' B C y v := by
  match y, h with
  | .no, h => exact h
  | .data y, ⟨vs, e, h⟩ => exact ⟨vs, e, h.win hb ho⟩
  | .sack y, ⟨vs, e, h⟩ => exact ⟨vs, e, h.win hb ho⟩
  | .init k y, ⟨vs, e, h⟩ => exact ⟨vs, e, h.win hb ho⟩
  | .ask y, ⟨vs, e, h⟩ => exact ⟨vs, e, h.win hb ho⟩
  | .ans y, ⟨vs, e, h⟩ => exact ⟨vs, e, h.win hb ho⟩
theorem CtIs.mono {y : Ct} {v : Value} {B C B' C' : Nat} {w : World} (h : CtIs w B C y v) (hB : B' ≤ B) (hC : C ≤ C') (hw : C' ≤ w.heap.size) : CtIs w B' C' y v := by
  match y, h with
  | .no, h => exact h
  | .data y, ⟨vs, e, h⟩ => exact ⟨vs, e, h.mono hB hC hw⟩
  | .sack y, ⟨vs, e, h⟩ => exact ⟨vs, e, h.mono hB hC hw⟩
  | .init k y, ⟨vs, e, h⟩ => exact ⟨vs, e, h.mono hB hC hw⟩
  | .ask y, ⟨vs, e, h⟩ => exact ⟨vs, e, h.mono hB hC hw⟩
  | .ans y, ⟨vs, e, h⟩ => exact ⟨vs, e, h.mono hB hC hw⟩
theorem ct_iface {y : Ct} {v : Value} {B C : Nat} {w : World} (h : CtIs w B C y v) (hn : y ≠ .no) : ∃ T u, v = .iface T u := by
  match y, h with
  | .no, _ => exact absurd rfl hn
  | .data y, ⟨vs, e, _⟩ => exact ⟨_, _, e⟩
  | .sack y, ⟨vs, e, _⟩ => exact ⟨_, _, e⟩
  | .init k y, ⟨vs, e, _⟩ => exact ⟨_, _, e⟩
  | .ask y, ⟨vs, e, _⟩ => exact ⟨_, _, e⟩
  | .ans y, ⟨vs, e, _⟩ => exact ⟨_, _, e⟩
theorem isM_fields (x : ChunkM) (z : ChunkResultM) : isM x z = true ↔ z.Code = 0 ∧ (⟨z.Chunk_Kind, z.Chunk_Flags, z.Chunk_Body⟩ : ChunkM) = x := by
  cases x; cases z
  simp only [isM, Bool.and_eq_true, beq_iff_eq, ChunkM.mk.injEq]
  constructor
  · rintro ⟨⟨⟨a, rfl⟩, rfl⟩, rfl⟩; exact ⟨a, rfl, rfl, rfl⟩
  · rintro ⟨a, rfl, rfl, rfl⟩; exact ⟨⟨⟨a, rfl⟩, rfl⟩, rfl⟩
set_option maxRecDepth 100000 in
set_option maxHeartbeats 8000000 in
theorem contentOf_any (x : ChunkM) (A : Option Addr) (c : Nat) (w : World) (ty : TypeId) (pv : Value) (hA : Bs w A x.Body) (hb : Bytes x.Body) (hm : x.Body.length ≤ 4000000) (hc : x.Body.length ≤ c) (hcm : (c : Int) ≤ 9223372036854775807) (hE : w.cell? ⟨0, 0, none⟩ = some (.iface ty pv)) :
    Calls Tryd.prog 75 #[.agg #[.int .i64 x.Kind, .int .i64 x.Flags, .slice A x.Body.length c]] w (CoRes x w) := by
  have hmf : ∀ (fn : Fn) (first cap : Array Value) (w : World), (Instr.makeFunc fn first cap).run Tryd.prog w = .ok (.func fn first cap) w := fun _ _ _ _ => rfl
  have hpos : 0 < w.heap.size := World.block_lt_of_cell? _ _ hE
  have K1 := ((Blk.new w 28 #[.int .i64 x.Kind, .int .i64 x.Flags, .slice A x.Body.length c]).alloc (.cells #[.nilIface] 115)).alloc (.cells #[.slice A x.Body.length c] 163)
  have K2 := (Blk.new (w.alloc (.cells #[.int .i64 x.Kind, .int .i64 x.Flags, .slice A x.Body.length c] 28)) 115 #[.nilIface]).alloc (.cells #[.slice A x.Body.length c] 163)
  have K3 := Blk.new ((w.alloc (.cells #[.int .i64 x.Kind, .int .i64 x.Flags, .slice A x.Body.length c] 28)).alloc (.cells #[.nilIface] 115)) 163 #[.slice A x.Body.length c]
  have B3 := bal (bal (bal (Below.refl w.heap.size w) (.cells #[.int .i64 x.Kind, .int .i64 x.Flags, .slice A x.Body.length c] 28)) (.cells #[.nilIface] 115)) (.cells #[.slice A x.Body.length c] 163)
  simp only [World.size_alloc] at K1 K2 K3
  obtain ⟨w3, hw3⟩ : ∃ w3, ((w.alloc (.cells #[.int .i64 x.Kind, .int .i64 x.Flags, .slice A x.Body.length c] 28)).alloc (.cells #[.nilIface] 115)).alloc (.cells #[.slice A x.Body.length c] 163) = w3 := ⟨_, rfl⟩
  have hs3 : w3.heap.size = w.heap.size + 1 + 1 + 1 := by rw [← hw3]; simp
  rw [hw3] at K1 K2 K3 B3
  have A3 := bs_below hA B3
  have E3 := (B3.cell (p := ⟨0, 0, none⟩) hpos).trans hE
  have HRE : RE w3 (w.heap.size + 1 + 1) ty pv x.Body ∨ (x.Body = [] ∧ R0 w3 (w.heap.size + 1 + 1) ty pv) := by
    by_cases hn : x.Body = []
    · refine .inr ⟨hn, ⟨⟨A, c, ?_⟩, E3, by omega⟩⟩
      rw [hn] at K3
      exact K3
    · refine .inl ⟨⟨A, c, K3, A3, hc, hcm, fun a ha => ?_⟩, E3, by omega, hb⟩
      rcases hA with hA | ⟨b, off, e, hbb, _⟩
      · exact absurd hA hn
      · rw [e] at ha; cases ha; show b < _; omega
  have HC := hidH (content_any (w.heap.size + 1 + 1) x w3 ty pv HRE hm)
  have HW3 := hidH hw3
  have HX := hidH (And.intro K1 (And.intro K2 (And.intro B3 (And.intro A3 hb))))
  have HS := hidH hs3
  have hA0 := hidH hA
  have HE0 := hidH hE
  clear K1 K2 K3 B3 A3 E3 HRE hw3 hs3 hA hb hm hc hcm hE
  go_enter_defers Tryd.func75, Tryd.ntmps75
  go_wp2_with fail
  rw [HW3.out]
  refine HC.out.mono ?_
  rintro e w4 ⟨hw, hcase⟩
  have K4 := HX.out.2.1.win2 hw (.inl (Nat.lt_succ_self _))
  have K4c := HX.out.1.win2 hw (.inl (by omega))
  have B4 := HX.out.2.2.1.trans ((hw.below (B := w.heap.size + 1 + 1) (by have := HS.out; omega)).mono (Nat.le_trans (Nat.le_succ _) (Nat.le_succ _)))
  have A4 := bs_below hA0.out B4
  rcases hcase with ⟨hno, rfl⟩ | ⟨y, v, hy, rfl, hv⟩
  · have HR := hidH (And.intro (rw_none hno) (And.intro K4 B4))
    unfold PanE
    clear HC HX hno K4 K4c B4 A4 hw HW3 hA0
    go_wp2
    refine leaves_cons (f := 120) (args := #[.pointer (some ⟨w.heap.size + 1, 0, none⟩)]) (by simp) (by simp [go_sem]) ?_
    refine (co_panicking (w.heap.size + 1) _ ty pv [] w4 HR.out.2.1).mono ?_
    rintro e u' w'' ⟨rfl, rfl, rfl⟩
    obtain y0 := HR.out.2.1.cell 0
    have hlt := HR.out.2.1.lt
    simp only [List.getElem?_toArray, List.getElem?_cons_zero] at y0
    exact ⟨.nilIface, by simp [results, Tryd.results75, go_sem, y0], ⟨.nilIface, rfl, by rw [HR.out.1]; exact rfl, bst HR.out.2.2 (Nat.le_succ _) _⟩⟩
  · obtain ⟨hyn, hy1, hy2, hyb⟩ := rw_some HX.out.2.2.2.2 hy
    obtain ⟨T0, u0, rfl⟩ := ct_iface hv hyn
    have HP := pcA_any y (.iface T0 u0) _ _ w4 hv hyn
    have hv' : CtIs w4 w3.heap.size w4.heap.size y (.iface T0 u0) := hv
    obtain ⟨z, hz⟩ : ∃ z, ctPk y = z := ⟨_, rfl⟩
    rw [hz] at hy1 hy2 hyb HP
    replace HP := hidH HP
    have HY := hidH (And.intro hy1 (And.intro hy2 hyb))
    have HZ := hidH (And.intro K4 (And.intro K4c (And.intro B4 (And.intro A4 hv'))))
    have HX2 := hidH HX.out.2.2.2.2
    clear HC hyn hy1 hy2 hyb hv hv' K4 K4c B4 A4 hw HW3 hz hy
    go_wp2_with fail
    refine HP.out.mono ?_
    rintro e w5 ⟨rs, rfl, ho, b5⟩
    obtain ⟨A9, c9, rfl⟩ := shape_ChunkResult ho.rd
    have hrz := ho.rd
    have hbz : Bs w5 A9 z.Chunk_Body := by
      have h4 := hrz.tl.tl.tl.hd
      unfold Rd at h4
      obtain ⟨A', c', e, _, hb'⟩ := h4
      cases e
      exact hb'
    cases z with
    | mk cd kd fl L =>
    simp only at hbz
    obtain ⟨n9, hn9⟩ : ∃ n, L.length = n := ⟨_, rfl⟩
    have B6 := bal (Below.refl w5.heap.size w5) (.cells #[.int .i64 cd, .int .i64 kd, .int .i64 fl, .slice A9 n9 c9] 30)
    have K6 := Blk.new w5 30 #[.int .i64 cd, .int .i64 kd, .int .i64 fl, .slice A9 n9 c9]
    obtain ⟨w6, hw6⟩ : ∃ w6, w5.alloc (.cells #[.int .i64 cd, .int .i64 kd, .int .i64 fl, .slice A9 n9 c9] 30) = w6 := ⟨_, rfl⟩
    rw [hw6] at B6 K6
    have b46 := btr b5 B6
    have Kf := HZ.out.1.below b46
    have Kc := HZ.out.2.1.below b46
    have HB6 := hidH (btr HZ.out.2.2.1 b46)
    have HV6 := hidH (HZ.out.2.2.2.2.below b46)
    have HA6 := hidH (bs_below HZ.out.2.2.2.1 b46)
    have HL6 := hidH (bs_below hbz B6)
    have x0 := K6.cell 0
    have x1 := K6.cell 1
    have x2 := K6.cell 2
    have x3 := K6.cell 3
    have k0 := Kc.cell 0
    have k1 := Kc.cell 1
    have k2 := Kc.cell 2
    simp only [List.getElem?_toArray, List.getElem?_cons_succ, List.getElem?_cons_zero] at x0 x1 x2 x3 k0 k1 k2
    have HKf := hidH Kf
    have HS6 := hidH (And.intro b46.size (And.intro HS.out HZ.out.2.2.1.size))
    have HN := hidH hn9
    clear HP HX HZ ho hrz hbz b5 B6 K6 b46 Kf Kc
    simp only [hn9]
    clear hn9
    by_cases hcd : cd = 0
    · have q : (cd != 0) = false := by rw [bne_eq_false_iff_eq]; exact hcd
      have HCD := hidH hcd
      have HSC := hidH (sameC_any ⟨kd, fl, L⟩ x A9 A c9 c w6 HL6.out HA6.out HY.out.2.2 HX2.out)
      unfold ckV at HSC
      simp only [HN.out] at HSC
      clear hcd
      go_wp2_with fail
      refine HSC.out.mono ?_
      rintro e w7 ⟨r, rfl, hr, b7⟩
      have HR := hidH hr
      have HB7 := hidH (btr HB6.out b7)
      have HV7 := hidH (HV6.out.below b7)
      have Kf7 := HKf.out.below b7
      have y0 := Kf7.cell 0
      have f0 := Kf7.frozen 0
      have hl7 := Kf7.lt
      simp only [List.getElem?_toArray, List.getElem?_cons_zero] at y0
      have HKf7 := hidH Kf7
      have HS7 := hidH b7.size
      clear hr b7 HSC HB6 HV6 Kf7 x0 x1 x2 x3 k0 k1 k2 hw6 HKf HA6 HL6
      have E7 := (HB7.out.cell (p := ⟨0, 0, none⟩) hpos).trans HE0.out
      cases r
      · have HNO := hidH (show ctM x = .no from HY.out.2.1 (by
          cases hm : isM x ⟨cd, kd, fl, L⟩
          · rfl
          · exact absurd (HR.out.2 ((isM_fields _ _).1 hm).2) (by simp)))
        go_wp2
        refine leaves_cons (f := 120) (args := #[.pointer (some ⟨w.heap.size + 1, 0, none⟩)]) (by simp) (by simp [go_sem]) ?_
        refine (co_panicking (w.heap.size + 1) _ ty pv [] w7 HKf7.out).mono ?_
        rintro e u' w'' ⟨rfl, rfl, rfl⟩
        exact ⟨.nilIface, by simp [results, Tryd.results75, go_sem, y0], ⟨.nilIface, rfl, by rw [HNO.out]; exact rfl, bst HB7.out (Nat.le_succ _) _⟩⟩
      · have HYES := hidH (show ctM x = y from HY.out.1 ((isM_fields _ _).2 ⟨HCD.out, HR.out.1 rfl⟩))
        go_wp2
        refine leaves_cons (f := 120) (args := #[.pointer (some ⟨w.heap.size + 1, 0, none⟩)]) (by simp) (by simp [go_sem]) ?_
        refine (co_idle ⟨w.heap.size + 1, 0, none⟩ _).mono ?_
        rintro e u' w'' ⟨rfl, rfl, rfl⟩
        have hv9 := (HV7.out.win (win_set _ (w.heap.size + 1) 0 (.iface T0 u0)) (.inr (by have := HS.out; omega))).mono (B' := w.heap.size) (C' := (w7.setCell ⟨w.heap.size + 1, 0, none⟩ (.iface T0 u0)).heap.size) (by have := HS.out; omega) (by have := HS6.out; have := HS7.out; simp [World.setCell]; omega) (Nat.le_refl _)
        exact ⟨.iface T0 u0, by simp [results, Tryd.results75, go_sem, y0], ⟨.iface T0 u0, rfl, by rw [HYES.out]; exact hv9, bst HB7.out (Nat.le_succ _) _⟩⟩
    · have q : (cd != 0) = true := by rw [bne_iff_ne]; exact hcd
      have HNO := hidH (show ctM x = .no from HY.out.2.1 (by
        cases hm : isM x ⟨cd, kd, fl, L⟩
        · rfl
        · exact absurd ((isM_fields _ _).1 hm).1 hcd))
      have E6 := (HB6.out.cell (p := ⟨0, 0, none⟩) hpos).trans HE0.out
      have y0 := HKf.out.cell 0
      have hl6 := HKf.out.lt
      simp only [List.getElem?_toArray, List.getElem?_cons_zero] at y0
      clear hcd
      go_wp2
      refine leaves_cons (f := 120) (args := #[.pointer (some ⟨w.heap.size + 1, 0, none⟩)]) (by simp) (by simp [go_sem]) ?_
      refine (co_panicking (w.heap.size + 1) _ ty pv [] w6 HKf.out).mono ?_
      rintro e u' w'' ⟨rfl, rfl, rfl⟩
      exact ⟨.nilIface, by simp [results, Tryd.results75, go_sem, y0], ⟨.nilIface, rfl, by rw [HNO.out]; exact rfl, bst HB6.out (Nat.le_succ _) _⟩⟩
end Go.Proofs.YtgghelpbobbkgaaDoor

/- The program's ReadAnswer. -/
namespace Go.Proofs.YtgghelpbobbkgaaDoor
open Go.RowKit Go.Deep

theorem taNoW {y : Ct} {v : Value} {B C : Nat} {w : World} (h : CtIs w B C y v) (hn : ∀ z, y ≠ .ans z) : ∀ u, (Instr.typeAssert v 115 63 true).run Tryd.prog u = .ok (.tuple #[.agg #[.int .i64 0, .slice none 0 0], .bool false]) u := by
  match y, h with
  | .no, h =>
    have e : v = .nilIface := h
    subst e
    exact taNW
  | .ans y, _ => exact absurd rfl (hn y)
  | .data y, ⟨vs, e, _⟩ =>
    subst e
    exact taDW _
  | .sack y, ⟨vs, e, _⟩ =>
    subst e
    exact taSW _
  | .init k y, ⟨vs, e, _⟩ =>
    subst e
    exact taGW _
  | .ask y, ⟨vs, e, _⟩ =>
    subst e
    exact taQW _
theorem rW_none {x : ChunkM} (h : ¬ ∃ z, ctM x = .ans z) : rwV x = none := by
  cases e : rwV x with
  | none => rfl
  | some y => exact absurd ⟨y, (ct_ans x y).2 e⟩ h
set_option maxRecDepth 100000 in
set_option maxHeartbeats 4000000 in
theorem rW_impl (x : ChunkM) (vs : List Value) (u : World) (ty : TypeId) (pv : Value) (hE : u.cell? ⟨0, 0, none⟩ = some (.iface ty pv)) (h : RdA u x.vs vs) (hw : WfA x.vs) (ht : tot.totL x.vs ≤ 1048576) : Calls Tryd.prog 33 #[.agg vs.toArray] u (Res u (rwR x).vs) := by
  obtain ⟨A2, c2, rfl⟩ := shape_Chunk h
  have h2 := h.tl.tl.hd
  unfold Rd at h2
  obtain ⟨A', c', e, ⟨hc, hcm⟩, hA⟩ := h2
  cases e
  have hb : Bytes x.Body := hw.2.2.1
  have hm : x.Body.length ≤ 4000000 := by simp only [ChunkM.vs, tot.totL, tot] at ht; omega
  have hpos : 0 < u.heap.size := World.block_lt_of_cell? _ _ hE
  have K1 := (Blk.new u 28 #[.int .i64 x.Kind, .int .i64 x.Flags, .slice A2 x.Body.length c2]).alloc (.cells #[.int .i64 0, .int .i64 0, .slice none 0 0] 72)
  have R1 := Blk.new (u.alloc (.cells #[.int .i64 x.Kind, .int .i64 x.Flags, .slice A2 x.Body.length c2] 28)) 72 #[.int .i64 0, .int .i64 0, .slice none 0 0]
  have B1 := bal (bal (Below.refl u.heap.size u) (.cells #[.int .i64 x.Kind, .int .i64 x.Flags, .slice A2 x.Body.length c2] 28)) (.cells #[.int .i64 0, .int .i64 0, .slice none 0 0] 72)
  rw [World.size_alloc] at R1
  obtain ⟨w1, hw1⟩ : ∃ w1, (u.alloc (.cells #[.int .i64 x.Kind, .int .i64 x.Flags, .slice A2 x.Body.length c2] 28)).alloc (.cells #[.int .i64 0, .int .i64 0, .slice none 0 0] 72) = w1 := ⟨_, rfl⟩
  have hs1 : w1.heap.size = u.heap.size + 1 + 1 := by rw [← hw1]; simp
  rw [hw1] at K1 R1 B1
  have HC := hidH (contentOf_any x A2 c2 w1 ty pv (bs_below hA B1) hb hm hc hcm ((B1.cell (p := ⟨0, 0, none⟩) hpos).trans hE))
  have HT := hidH (And.intro K1 (And.intro R1 B1))
  have HS := hidH hs1
  have HM := hidH (show (x.Body.length : Int) ≤ 9223372036854775807 by omega)
  have k0 := K1.cell 0
  have k1 := K1.cell 1
  have k2 := K1.cell 2
  simp only [List.getElem?_toArray, List.getElem?_cons_succ, List.getElem?_cons_zero] at k0 k1 k2
  have hlt := K1.lt
  clear h K1 R1 B1 hE hA hb hm hw ht hc hcm hs1 hpos
  go_enter Tryd.func33, Tryd.ntmps33
  go_wp2_with fail
  refine HC.out.mono ?_
  rintro e w3 ⟨v, rfl, hct, b3⟩
  clear k0 k1 k2 hlt hw1
  have K3 := HT.out.1.below b3
  have R3 := HT.out.2.1.below b3
  have HB3 := hidH (btr HT.out.2.2 b3)
  have HZ3 := hidH b3.size
  by_cases hD : ∃ z, ctM x = .ans z
  · obtain ⟨y, hy⟩ := hD
    have HV := hidH ((ct_ans x y).1 hy)
    rw [hy] at hct
    obtain ⟨vs, rfl, ho⟩ := hct
    obtain ⟨A1, c1, rfl⟩ := shape_Answer ho.rd
    have ho' := ho
    have tD := fun u => taWW (.agg #[.int .i64 y.Serial, .slice A1 y.Codes.length c1]) u
    have KD := Blk.new w3 63 #[.int .i64 y.Serial, .slice A1 y.Codes.length c1]
    have b4 := bal (Below.refl w3.heap.size w3) (.cells #[.int .i64 y.Serial, .slice A1 y.Codes.length c1] 63)
    obtain ⟨w4, hw4⟩ : ∃ w4, w3.alloc (.cells #[.int .i64 y.Serial, .slice A1 y.Codes.length c1] 63) = w4 := ⟨_, rfl⟩
    rw [hw4] at KD b4
    have R4 := R3.below b4
    have HB4 := hidH (btr HB3.out b4)
    have HO := hidH (ho'.below b4)
    have HZ4 := hidH b4.size
    have d0 := KD.cell 0
    have d1 := KD.cell 1
    have r0 := R4.cell 0
    have r1 := R4.cell 1
    have r2 := R4.cell 2
    have f0 := R4.frozen 0
    have f1 := R4.frozen 1
    have f2 := R4.frozen 2
    simp only [List.getElem?_toArray, List.getElem?_cons_succ, List.getElem?_cons_zero] at d0 d1 r0 r1 r2
    have hr := R4.lt
    have hd := KD.lt
    have ne : w3.heap.size ≠ u.heap.size + 1 := by have := R3.lt; omega
    clear hy ho ho' K3 R3 b3 b4 KD R4 HC
    go_wp2
    exact bodyPost_ret (v := .agg #[.int .i64 0, .int .i64 y.Serial, .slice A1 y.Codes.length c1]) (by simp [results, Tryd.results33, go_sem, r0, r1, r2]) rfl ⟨_, rfl, by
      have e : (rwR x).vs = .int 0 :: y.vs := by rw [rwR, HV.out]; rfl
      rw [e]
      refine OwN.int 0 (OwN.mono (B := w1.heap.size) (C := w3.heap.size) ?_ (by have := HS.out; omega) (by have := HZ4.out; simp [World.setCell]; omega) (Nat.le_refl _))
      iterate 3 (refine OwN.win (B' := u.heap.size + 1) (C' := u.heap.size + 1 + 1) ?_ (win_set _ _ _ _) (.inr (by have := HS.out; omega)))
      exact HO.out, by
      iterate 3 (refine bst ?_ (Nat.le_succ _) _)
      exact HB4.out⟩
  · have tN := taNoW hct (fun z q => hD ⟨z, q⟩)
    have HV := hidH (rW_none hD)
    have KD := Blk.new w3 63 #[.int .i64 0, .slice none 0 0]
    have b4 := bal (Below.refl w3.heap.size w3) (.cells #[.int .i64 0, .slice none 0 0] 63)
    have HR4 := hidH (R3.below b4)
    have K4 := K3.below b4
    have HB4 := hidH (btr HB3.out b4)
    have HUN := hidH (unread_any x A2 c2 (w3.alloc (.cells #[.int .i64 0, .slice none 0 0] 63)) HM.out)
    have k0 := K4.cell 0
    have k1 := K4.cell 1
    have k2 := K4.cell 2
    simp only [List.getElem?_toArray, List.getElem?_cons_succ, List.getElem?_cons_zero] at k0 k1 k2
    have hk := K4.lt
    have hd := KD.lt
    clear hct hD K3 R3 b3 b4 KD K4 HC
    go_wp2_with fail
    refine HUN.out.mono ?_
    rintro e w5 ⟨rfl, b5⟩
    have R5 := HR4.out.below b5
    have HB5 := hidH (btr HB4.out b5)
    have r0 := R5.cell 0
    have r1 := R5.cell 1
    have r2 := R5.cell 2
    have f0 := R5.frozen 0
    have f1 := R5.frozen 1
    have f2 := R5.frozen 2
    simp only [List.getElem?_toArray, List.getElem?_cons_succ, List.getElem?_cons_zero] at r0 r1 r2
    have hr := R5.lt
    clear HUN HR4 HB4 b5 R5 tN k0 k1 k2 hk hd
    go_wp2
    exact bodyPost_ret (v := .agg #[.int .i64 (rdOf x), .int .i64 0, .slice none 0 0]) (by simp [results, Tryd.results33, go_sem, r0, r1, r2]) rfl ⟨_, rfl, by
      have e : (rwR x).vs = [.int (rdOf x), .int 0, .is []] := by rw [rwR, HV.out]; rfl
      rw [e]
      exact OwN.int _ (OwN.int 0 (OwN.nois (OwN.nil (Nat.le_refl _)))), by
      iterate 3 (refine bst ?_ (Nat.le_succ _) _)
      exact HB5.out⟩
end Go.Proofs.YtgghelpbobbkgaaDoor

/- The region of FnExactReadAnswer that compares the argument. -/
namespace Go.Proofs.YtgghelpbobbkgaaDoor
open Go.RowKit Go.Deep

set_option maxRecDepth 100000 in
set_option maxHeartbeats 1000000 in
theorem regFnExactReadAnswer {Q : Exit → Act → World → Prop} (x0 x2 x3 x4 x6 x7 x8 x9 x10 x11 x12 x13 x14 x15 x16 x17 x18 x19 x20 x21 x22 x23 x24 x25 x26 : Value) (wb : World) (g x : Nat) (y0 : ChunkM) (A2 : Option Addr) (c2 : Nat) (E2 : Option Addr) (e2 : Nat)
    (TO : ∀ u : World, Below wb.heap.size wb u → Calls Tryd.prog 36 #[.agg #[.int .i64 y0.Kind, .int .i64 y0.Flags, .slice A2 y0.Body.length c2]] u (Res u y0.vs))
    (EQ : ∀ (u : World) (vs : List Value), Below wb.heap.size wb u → RdA u y0.vs vs → Calls Tryd.prog 38 #[.agg #[.int .i64 y0.Kind, .int .i64 y0.Flags, .slice E2 y0.Body.length e2], .agg vs.toArray] u (EqR u)) {ops : Array Oper}
    (hops : (ops.map fun o => (o.op, o.dst, o.guard)) = #[(Op.load 28 (Operand.tmp 5), some 27, none), (Op.load 74 (Operand.tmp 1), some 28, none), (Op.call { callee := Callee.value (Operand.func 36), args := #[(Operand.tmp 28)], argTypes := #[74] }, some 29, none), (Op.call { callee := Callee.value (Operand.func 38), args := #[(Operand.tmp 27), (Operand.tmp 29)], argTypes := #[28, 28] }, some 30, none), (Op.unOp UnOp.not 4 (Operand.tmp 30), some 31, none)])
    (hdeps : ((List.range 5).all fun i => ((fun i => [[], [], [1], [0, 2], [3]].getD i []) i).all fun j => ((ops[i]?).map fun o => o.after.any fun e => Region.binds .any e && e.on == j).getD false) = true)
    (hback : ((List.range 5).all fun i => ((ops[i]?).map fun o => o.after.all fun e => decide (e.on < i)).getD false) = true)
    {a0 : Act} {w0 : World} (ha : a0 = { tmps := #[x0, .pointer (some ⟨g, 0, none⟩), x2, x3, x4, .pointer (some ⟨x, 0, none⟩), x6, x7, x8, x9, x10, x11, x12, x13, x14, x15, x16, x17, x18, x19, x20, x21, x22, x23, x24, x25, x26, undef, undef, undef, undef, undef, undef, undef, undef, undef, undef, undef, undef, undef, undef, undef, undef, undef, undef, undef, undef, undef, undef, undef, undef, undef, undef, undef, undef, undef, undef, undef, undef, undef, undef, undef, undef, undef, undef, undef, undef, undef, undef], defers := [] }) (hG : Blk w0 g 74 #[.int .i64 y0.Kind, .int .i64 y0.Flags, .slice A2 y0.Body.length c2]) (hX : Blk w0 x 28 #[.int .i64 y0.Kind, .int .i64 y0.Flags, .slice E2 y0.Body.length e2]) (hD : Below wb.heap.size wb w0) (hW0 : Below w0.heap.size w0 w0)
    (fin : ∀ t27 t28 t29 t30 (W : World), (Blk W g 74 #[.int .i64 y0.Kind, .int .i64 y0.Flags, .slice A2 y0.Body.length c2]) → (Blk W x 28 #[.int .i64 y0.Kind, .int .i64 y0.Flags, .slice E2 y0.Body.length e2]) → (Below wb.heap.size wb W) → (Below w0.heap.size w0 W) → Q .normal { tmps := #[x0, .pointer (some ⟨g, 0, none⟩), x2, x3, x4, .pointer (some ⟨x, 0, none⟩), x6, x7, x8, x9, x10, x11, x12, x13, x14, x15, x16, x17, x18, x19, x20, x21, x22, x23, x24, x25, x26, t27, t28, t29, t30, .bool false, undef, undef, undef, undef, undef, undef, undef, undef, undef, undef, undef, undef, undef, undef, undef, undef, undef, undef, undef, undef, undef, undef, undef, undef, undef, undef, undef, undef, undef, undef, undef, undef, undef, undef, undef, undef, undef], defers := [] } W) :
    wpAny Tryd.prog .any ops Q ops.size (Array.replicate ops.size false) a0 w0 := by
  have hn : ops.size = 5 := by have := congrArg Array.size hops; simpa using this
  obtain ⟨J, HJ⟩ : ∃ J : (Nat → Bool) → Act → World → Prop, ∀ dn ac W, J dn ac W ↔ (fun dn ac W => ∃ t27 t28 t29 t30 t31, ac = { tmps := #[x0, .pointer (some ⟨g, 0, none⟩), x2, x3, x4, .pointer (some ⟨x, 0, none⟩), x6, x7, x8, x9, x10, x11, x12, x13, x14, x15, x16, x17, x18, x19, x20, x21, x22, x23, x24, x25, x26, t27, t28, t29, t30, t31, undef, undef, undef, undef, undef, undef, undef, undef, undef, undef, undef, undef, undef, undef, undef, undef, undef, undef, undef, undef, undef, undef, undef, undef, undef, undef, undef, undef, undef, undef, undef, undef, undef, undef, undef, undef, undef], defers := [] } ∧ (Blk W g 74 #[.int .i64 y0.Kind, .int .i64 y0.Flags, .slice A2 y0.Body.length c2]) ∧ (Blk W x 28 #[.int .i64 y0.Kind, .int .i64 y0.Flags, .slice E2 y0.Body.length e2]) ∧ (Below wb.heap.size wb W) ∧ (Below w0.heap.size w0 W) ∧ (dn 0 = true → t27 = .agg #[.int .i64 y0.Kind, .int .i64 y0.Flags, .slice E2 y0.Body.length e2]) ∧ (dn 1 = true → t28 = .agg #[.int .i64 y0.Kind, .int .i64 y0.Flags, .slice A2 y0.Body.length c2]) ∧ (dn 2 = true → ∃ vs : List Value, t29 = .agg vs.toArray ∧ RdA W y0.vs vs) ∧ (dn 3 = true → t30 = .bool true) ∧ (dn 4 = true → t31 = .bool false)) dn ac W := ⟨_, fun _ _ _ => Iff.rfl⟩
  replace HJ := hidH HJ
  refine region_inv 5 (fun i => [[], [], [1], [0, 2], [3]].getD i []) J hn hdeps hback ?start ?step ?fin
  case start => exact (HJ.out _ _ _).2 ⟨undef, undef, undef, undef, undef, ha, hG, hX, hD, hW0, fun h => by simp at h, fun h => by simp at h, fun h => by simp at h, fun h => by simp at h, fun h => by simp at h⟩
  all_goals clear ha hG hX hD hW0
  case step =>
    clear fin hdeps hback
    intro i hi dn ac W hJ hdn hdep
    obtain ⟨t27, t28, t29, t30, t31, rfl, hG, hX, hD, hW0, h0, h1, h2, h3, h4⟩ := (HJ.out _ _ _).1 hJ
    clear hJ
    match i, hi with
    | 0, _ =>
      obtain ⟨ty, ps, af, ho⟩ := op_lit hops (i := 0) (op := Op.load 28 (Operand.tmp 5)) (dst := some 27) (g := none) rfl
      refine wpOp_lit ho (fun j b h => by cases h) ?_
      clear hops hdep ho
      replace h1 := hidH h1
      replace h2 := hidH h2
      replace h3 := hidH h3
      replace h4 := hidH h4
      have q0 := hX.cell 0
      have q1 := hX.cell 1
      have q2 := hX.cell 2
      simp only [List.getElem?_toArray, List.getElem?_cons_succ, List.getElem?_cons_zero] at q0 q1 q2
      go_wp2
      exact (HJ.out _ _ _).2 ⟨_, _, _, _, _, rfl, hG, hX, hD, hW0, fun _ => rfl, h1.out, h2.out, h3.out, h4.out⟩
    | 1, _ =>
      obtain ⟨ty, ps, af, ho⟩ := op_lit hops (i := 1) (op := Op.load 74 (Operand.tmp 1)) (dst := some 28) (g := none) rfl
      refine wpOp_lit ho (fun j b h => by cases h) ?_
      clear hops hdep ho
      replace h0 := hidH h0
      replace h2 := hidH h2
      replace h3 := hidH h3
      replace h4 := hidH h4
      have q0 := hG.cell 0
      have q1 := hG.cell 1
      have q2 := hG.cell 2
      simp only [List.getElem?_toArray, List.getElem?_cons_succ, List.getElem?_cons_zero] at q0 q1 q2
      go_wp2
      exact (HJ.out _ _ _).2 ⟨_, _, _, _, _, rfl, hG, hX, hD, hW0, h0.out, fun _ => rfl, h2.out, h3.out, h4.out⟩
    | 2, _ =>
      obtain ⟨ty, ps, af, ho⟩ := op_lit hops (i := 2) (op := Op.call { callee := Callee.value (Operand.func 36), args := #[(Operand.tmp 28)], argTypes := #[74] }) (dst := some 29) (g := none) rfl
      obtain rfl := h1 (hdep 1 (by simp))
      refine wpOp_lit ho (fun j b h => by cases h) ?_
      clear hops hdep ho
      replace h0 := hidH h0
      replace h1 := hidH h1
      replace h3 := hidH h3
      replace h4 := hidH h4
      go_wp2_with fail
      refine (TO _ hD).mono ?_
      rintro e w1 ⟨vs, rfl, hO, hb⟩
      have hE := hO.rd
      go_wp2
      exact (HJ.out _ _ _).2 ⟨_, _, _, _, _, rfl, hG.below hb, hX.below hb, btr hD hb, btr hW0 hb, h0.out, fun _ => rfl, fun _ => ⟨vs, rfl, hE⟩, h3.out, h4.out⟩
    | 3, _ =>
      obtain ⟨ty, ps, af, ho⟩ := op_lit hops (i := 3) (op := Op.call { callee := Callee.value (Operand.func 38), args := #[(Operand.tmp 27), (Operand.tmp 29)], argTypes := #[28, 28] }) (dst := some 30) (g := none) rfl
      obtain rfl := h0 (hdep 0 (by simp))
      obtain ⟨vs, rfl, hE⟩ := h2 (hdep 2 (by simp))
      refine wpOp_lit ho (fun j b h => by cases h) ?_
      clear hops hdep ho
      replace h0 := hidH h0
      replace h1 := hidH h1
      replace h2 := hidH h2
      replace h4 := hidH h4
      go_wp2_with fail
      refine (EQ _ vs hD hE).mono ?_
      rintro e w1 ⟨rfl, hb⟩
      go_wp2
      exact (HJ.out _ _ _).2 ⟨_, _, _, _, _, rfl, hG.below hb, hX.below hb, btr hD hb, btr hW0 hb, fun _ => rfl, h1.out, fun _ => ⟨vs, rfl, RdA.below hb hE⟩, fun _ => rfl, h4.out⟩
    | 4, _ =>
      obtain ⟨ty, ps, af, ho⟩ := op_lit hops (i := 4) (op := Op.unOp UnOp.not 4 (Operand.tmp 30)) (dst := some 31) (g := none) rfl
      obtain rfl := h3 (hdep 3 (by simp))
      refine wpOp_lit ho (fun j b h => by cases h) ?_
      clear hops hdep ho
      replace h0 := hidH h0
      replace h1 := hidH h1
      replace h2 := hidH h2
      replace h3 := hidH h3
      go_wp2
      exact (HJ.out _ _ _).2 ⟨_, _, _, _, _, rfl, hG, hX, hD, hW0, h0.out, h1.out, h2.out, fun _ => rfl, fun _ => rfl⟩
    | n + 5, h => omega
  case fin =>
    clear hops hdeps hback
    rintro dn ac W hJ hall
    obtain ⟨t27, t28, t29, t30, t31, rfl, hG, hX, hD, hW0, h0, h1, h2, h3, h4⟩ := (HJ.out _ _ _).1 hJ
    obtain rfl := h4 (hall 4 (by omega))
    exact fin _ _ _ _ W hG hX hD hW0
end Go.Proofs.YtgghelpbobbkgaaDoor
