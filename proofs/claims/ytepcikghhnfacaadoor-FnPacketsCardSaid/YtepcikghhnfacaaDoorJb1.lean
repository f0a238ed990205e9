import Derived.Test.YtepcikghhnfacaaDoorJa7
import Derived.Test.YtepcikghhnfacaaDoorPcR
import Derived.Test.YtepcikghhnfacaaDoorJa9
import Derived.Test.YtepcikghhnfacaaDoorJa2
import Derived.Laws.CopyOwn

/- The program's PackChunk. -/
namespace Go.Proofs.YtepcikghhnfacaaDoor
open Go.RowKit Go.Deep

set_option maxHeartbeats 2000000 in
theorem packChunk_impl (k f : Int) (A : Option Addr) (b : List Int) (c : Nat) (w : World) (hA : Bs w A b) (hm : (b.length : Int) ≤ 9223372036854775807) :
    Calls Tryd.prog 28 #[ckV k f A b.length c] w (BRes w (chF k f b) (chM k f b)) := by
  have K1 := Blk.new w 49 #[.int .i64 k, .int .i64 f, .slice A b.length c]
  have B1 := bal (Below.refl w.heap.size w) (.cells #[.int .i64 k, .int .i64 f, .slice A b.length c] 49)
  have S1 := bs_below hA (bal (Below.refl _ w) (.cells #[.int .i64 k, .int .i64 f, .slice A b.length c] 49))
  obtain ⟨w1, hw1⟩ : ∃ w1, w.alloc (.cells #[.int .i64 k, .int .i64 f, .slice A b.length c] 49) = w1 := ⟨_, rfl⟩
  rw [hw1] at K1 B1 S1
  have hlt : w.heap.size < w1.heap.size := K1.lt
  have K2 := K1.alloc (.cells #[.int .i64 0, .slice none 0 0] 29)
  have B2 := bal B1 (.cells #[.int .i64 0, .slice none 0 0] 29)
  have S2 := bs_below S1 (bal (Below.refl _ w1) (.cells #[.int .i64 0, .slice none 0 0] 29))
  have R2 := Blk.new w1 29 #[.int .i64 0, .slice none 0 0]
  obtain ⟨w2, hw2⟩ : ∃ w2, w1.alloc (.cells #[.int .i64 0, .slice none 0 0] 29) = w2 := ⟨_, rfl⟩
  have hs1 : w1.heap.size = w.heap.size + 1 := by rw [← hw1]; simp
  rw [hw2, hs1] at R2
  rw [hw2] at K2 B2 S2
  have HW1 := hidH hw1
  have HW2 := hidH hw2
  have HK := hidH K2
  have HB := hidH B2
  have HS := hidH S2
  have HR := hidH R2
  have hF := hidH (fun u => chFault_impl k f A b c u hm)
  unfold ckV at hF ⊢
  have HBS := hidH hA
  clear hw1 hw2 K1 B1 S1 K2 B2 S2 R2 hA hs1 hlt
  go_enter Tryd.func28, Tryd.ntmps28
  go_wp2_with fail
  rw [HW1.out, HW2.out]
  refine (hF.out _).mono ?_
  rintro e w3 ⟨rfl, b3⟩
  have K3 := HK.out.below b3
  have B3 := hidH (btr HB.out b3)
  have S3 := bs_below HS.out b3
  have R3 := hidH (HR.out.below b3)
  clear HW1 HW2 HK HB HS HR hF b3
  by_cases hz : chF k f b = 0
  · obtain ⟨⟨hk0, hk1⟩, ⟨hf0, hf1⟩, hb⟩ := chF_zero hz
    have hM : chM k f b = chL k f b := by rw [chM, if_pos hz]
    have HZM := hidH (And.intro hz hM)
    rw [hz]
    have hbI : (b.length : Int) ≤ 160 := by omega
    have K3' := hidH K3
    have S3' := hidH S3
    have x0 := K3.cell 0
    have x1 := K3.cell 1
    have x2 := K3.cell 2
    simp only [List.getElem?_toArray, List.getElem?_cons_succ, List.getElem?_cons_zero] at x0 x1 x2
    have hlt := K3.lt
    clear hz hM K3 S3 hb
    go_wp2_with fail
    have B4 := hidH (bal B3.out (.cells #[.int .u8 k, .int .u8 f, .int .u8 ((4 + (b.length : Int)) / 256), .int .u8 (4 + (b.length : Int))] 5))
    have K4 := K3'.out.alloc (.cells #[.int .u8 k, .int .u8 f, .int .u8 ((4 + (b.length : Int)) / 256), .int .u8 (4 + (b.length : Int))] 5)
    have S4 := bs_below S3'.out (bal (Below.refl _ _) (.cells #[.int .u8 k, .int .u8 f, .int .u8 ((4 + (b.length : Int)) / 256), .int .u8 (4 + (b.length : Int))] 5))
    have R4 := R3.out.alloc (.cells #[.int .u8 k, .int .u8 f, .int .u8 ((4 + (b.length : Int)) / 256), .int .u8 (4 + (b.length : Int))] 5)
    have H4 := lit_bs w3 5 [k, f, (4 + (b.length : Int)) / 256, 4 + (b.length : Int)]
    have H4' := Blk.new w3 5 #[.int .u8 k, .int .u8 f, .int .u8 ((4 + (b.length : Int)) / 256), .int .u8 (4 + (b.length : Int))]
    have hz4 := K3'.out.lt
    have hz5 := R3.out.lt
    simp only [List.map_cons, List.map_nil, List.toArray] at H4
    obtain ⟨W4, hW4⟩ : ∃ W4, w3.alloc (.cells #[.int .u8 k, .int .u8 f, .int .u8 ((4 + (b.length : Int)) / 256), .int .u8 (4 + (b.length : Int))] 5) = W4 := ⟨_, rfl⟩
    rw [hW4] at B4 K4 S4 R4 H4 H4' ⊢
    have hs4 : W4.heap.size = w3.heap.size + 1 := by rw [← hW4]; simp
    clear hW4 x0 x1 x2 hlt
    have bd := (Below.refl W4.heap.size W4).drew
    have bdz := bd.size
    obtain ⟨p, hp⟩ : ∃ p, p = chPad b.length := ⟨_, rfl⟩
    have HP := hidH hp
    have hcat : ([[k, f, (4 + (b.length : Int)) / 256, 4 + (b.length : Int)], b, List.replicate p 0] : List (List Int)).flatten = chL k f b := by
      rw [hp]
      simp [chL]
      omega
    have hlen : (chL k f b).length ≤ 1000 := by rw [chL_len]; unfold chPad; omega
    have CON : ∀ (u : World) (q : Nat), Parts u q [[k, f, (4 + (b.length : Int)) / 256, 4 + (b.length : Int)], b, List.replicate p 0] → Calls Tryd.prog 26 #[.slice (some ⟨q, 0, none⟩) 3 3] u (OwnB u (chL k f b)) := by
      intro u q h
      rw [← hcat]
      exact concat_all q 3 _ u h (by simp) (by rw [hcat]; omega)
    have HCON := hidH CON
    have HM := hidH (PcM.mk (K4.below bd) (H4'.below bd) : PcM w.heap.size w3.heap.size k f A b c W4.drew)
    have HR4 := hidH (R4.below bd)
    have HB5 := hidH (btr B4.out bd)
    have HA := hidH (fun (u : World) (h : Below w.heap.size w u) => bs_below HBS.out h)
    obtain ⟨L, hL⟩ : ∃ L, chL k f b = L := ⟨_, rfl⟩
    rw [hL] at HCON hlen
    have HL := hidH hL
    clear hp hcat CON K4 H4' R4 B4 hL S4 H4
    have hrr : w.heap.size + 1 < W4.drew.heap.size := HR4.out.lt
    refine wp_region_any (by kernel_rfl) ?_
    refine regPc _ _ _ _ _ _ _ _ _ _ _ _ _ _ _ _ _ _ _ _ _ _ _ _ _ w w.heap.size (w.heap.size + 1) w3.heap.size k f A b c L p HP hbI HBS (by omega) (by omega) (by omega) HCON.out (by kernel_rfl) (by kernel_rfl) (by kernel_rfl) rfl ⟨fun h => h, fun h => h, fun h => h, fun h => h⟩ HM.out (fun _ => HR4.out) HB5.out (Nat.le_refl _) hrr ?_
    intros
    rename_i W hW hT
    obtain ⟨A8, c8, hR, hO, h81, h82⟩ := hT
    obtain ⟨x0, x1, xz⟩ := hR.two
    obtain ⟨A9, c9, hv, hob, _, _⟩ := own_ob hO
    simp only [Value.slice.injEq] at hv
    obtain ⟨rfl, _, rfl⟩ := hv
    have HO := hidH hob
    have HW := hidH hW
    have H8 := hidH (And.intro h81 h82)
    clear hR hO hob hW h81 h82
    go_wp2
    exact bodyPost_ret (v := .agg #[.int .i64 0, .slice A8 L.length c8]) (by simp [results, Tryd.results28, go_sem, x0, x1]) rfl (by rw [HZM.out.1, HZM.out.2, HL.out]; exact ⟨A8, c8, rfl, HO.out.mono (by omega), HW.out, H8.out.1, H8.out.2⟩)
  · have hM : chM k f b = [] := by rw [chM, if_neg hz]
    have HM := hidH hM
    have hne : (chF k f b != 0) = true := by rw [bne_iff_ne]; exact hz
    obtain ⟨F, hF⟩ : ∃ F, chF k f b = F := ⟨_, rfl⟩
    rw [hF] at hne
    have HF := hidH hF
    have R4 := R3.out
    obtain ⟨x0, x1, xz⟩ := R4.two
    have f0 := R4.frozen 0
    have f1 := R4.frozen 1
    rw [hF]
    clear R4 hz hM hF K3 S3
    go_wp2
    exact bodyPost_ret (v := .agg #[.int .i64 F, .slice none 0 0]) (by simp [results, Tryd.results28, go_sem, x0, x1]) rfl (by rw [HF.out, HM.out]; exact ⟨none, 0, rfl, .inl rfl, bst (bst B3.out (Nat.le_succ _) _) (Nat.le_succ _) _, Nat.le_refl _, by omega⟩)
end Go.Proofs.YtepcikghhnfacaaDoor

/- The region of the program's PackPacket that draws its order. -/
namespace Go.Proofs.YtepcikghhnfacaaDoor
open Go.RowKit Go.Deep

theorem fldB7 (c : Int) (A : Option Addr) (n cp : Nat) (w : World) : (Instr.field 29 (.agg #[.int .i64 c, .slice A n cp]) 1).run Tryd.prog w = .ok (.slice A n cp) w := by kernel_rfl
theorem bs_head {w : World} {A : Option Addr} {l : List Int} (h : Bs w A l) (hp : 0 < l.length) : ∃ ad, A = some ad ∧ ∀ (j : Nat) v, (l.map (Value.int .u8))[j]? = some v → w.cell? (ad.add j) = some v := by
  rcases h with rfl | ⟨b, off, rfl, hb, hc⟩
  · simp at hp
  · refine ⟨_, rfl, fun j v hv => ?_⟩
    have hj : j < l.length := by
      rcases Nat.lt_or_ge j l.length with h | h
      · exact h
      · rw [List.getElem?_eq_none (by simpa using h)] at hv; cases hv
    rw [add_off, hc j hj, ← hv]
    simp [hj]
/-- Four bytes written over the checksum's place of a row. -/
theorem copy_at4 {w : World} {g n cap c : Nat} {cur : Array Value} {A : Option Addr} {l R : List Int} (h : Blk w g 5 cur) (hs : cur.size = cap) (ht : cur.toList.take n = R.map (Value.int .u8)) (hn : 8 ≤ n) (hc : n ≤ cap) (hA : Bs w A l) (hl : l.length = 4 := by rfl) :
    ∃ cur2 : Array Value, (∀ T, (Builtin.copy_ #[22, 22] T #[.slice (some ⟨g, 4, none⟩) (n - 4) (cap - 4), .slice A 4 c]).run Tryd.prog w = .ok (goInt 4) (w.setRow g cur2)) ∧
    (Blk (w.setRow g cur2) g 5 cur2 ∧ cur2.size = cap ∧ cur2.toList.take n = (R.take 4 ++ l ++ R.drop 8).map (Value.int .u8)) ∧ Below g w (w.setRow g cur2) := by
  obtain ⟨ad, rfl, hsrc⟩ := bs_head hA (by omega)
  have hsz : cur.toList.length = cap := by simpa using hs
  have hRl : R.length = n := by have := congrArg List.length ht; simp at this; omega
  refine ⟨(cur.toList.take 4 ++ l.map (Value.int .u8) ++ cur.toList.drop 8).toArray, fun T => ?_, ⟨?_, ?_, ?_⟩, below_setRow (Below.refl _ _) (Nat.le_refl _) _⟩
  · have hm : Nat.min 4 (n - 4) = 4 := Nat.min_eq_left (by omega)
    have := run_copy_row (P := Tryd.prog) w 22 22 T 5 g 4 (n - 4) (cap - 4) ad 4 c cur _ (l.map (Value.int .u8)) (by kernel_rfl) (by kernel_rfl) h (by simp [hm, hl]) hsrc (by simp [hl]; omega) (by intro v hv; simp at hv; obtain ⟨x, _, rfl⟩ := hv; rfl)
    simpa [hl] using this
  · unfold Blk
    rw [setRow_heap w g _ _ _ _ h]
  · simp only [List.size_toArray, List.length_append, List.length_take, List.length_map, List.length_drop]
    omega
  · have e : cur.toList = R.map (Value.int .u8) ++ cur.toList.drop n := by rw [← ht, List.take_append_drop]
    have e4 : cur.toList.take 4 = (R.take 4).map (Value.int .u8) := by
      rw [e, List.take_append_of_le_length (by simp; omega), List.map_take]
    have e8 : cur.toList.drop 8 = (R.drop 8).map (Value.int .u8) ++ cur.toList.drop n := by
      have e' := congrArg (List.drop 8) e
      rw [List.drop_append_of_le_length (by simp; omega), ← List.map_drop] at e'
      exact e'
    have el : cur.toList.take 4 ++ l.map (Value.int .u8) ++ cur.toList.drop 8 = (R.take 4 ++ l ++ R.drop 8).map (Value.int .u8) ++ cur.toList.drop n := by
      rw [e4, e8]; simp
    rw [el]
    exact List.take_left' (by simp; omega)
theorem raw_turned (tag S : Int) (cs : List Chk) : (rawL tag 0 cs).take 4 ++ pk S ++ (rawL tag 0 cs).drop 8 = rawL tag S cs := by
  rw [rawL_drop, rawL_eq, rawL_eq]
  simp [pk]
set_option maxRecDepth 100000 in
set_option maxHeartbeats 1000000 in
theorem regPp {Q : Exit → Act → World → Prop} (x0 x1 x3 x5 x6 x7 x8 x9 x10 x11 x12 x13 x14 x15 x16 x17 x18 x19 x20 x21 x22 x23 x24 x25 x26 x27 x28 x29 x30 x31 x32 x33 : Value) (ws : World) (g r n cap : Nat) (cur : Array Value) (R : List Int) (S : Int) (hs : cur.size = cap) (ht : cur.toList.take n = R.map (Value.int .u8)) (hn8 : 8 ≤ n) (hnc : n ≤ cap) (hrg : r < g) (hgs : ws.heap.size ≤ g)
    (PS : ∀ u : World, Blk u g 5 cur → Calls Tryd.prog 29 #[.slice (some ⟨g, 0, none⟩) n cap] u fun e w' => e = .returned (.int .i64 S) ∧ Below u.heap.size u w')
    (PW : ∀ u : World, Calls Tryd.prog 27 #[.int .i64 S] u (BRes u 0 (pk S))) {ops : Array Oper}
    (hops : (ops.map fun o => (o.op, o.dst, o.guard)) = #[(Op.move (Operand.tmp 4), some 34, none), (Op.slice 22 (Operand.tmp 34) (some ((Operand.const (Value.int .i64 4)))) none none, some 35, none), (Op.move (Operand.tmp 4), some 36, none), (Op.call { callee := Callee.value (Operand.func 29), args := #[(Operand.tmp 36)], argTypes := #[22] }, some 37, none), (Op.call { callee := Callee.value (Operand.func 27), args := #[(Operand.tmp 37)], argTypes := #[2] }, some 38, none), (Op.field 29 (Operand.tmp 38) 1, some 39, none), (Op.call { callee := Callee.builtin Builtin.copy, args := #[(Operand.tmp 35), (Operand.tmp 39)], argTypes := #[22, 22] }, some 40, none)])
    (hdeps : ((List.range 7).all fun i => ((fun i => [[], [0], [], [2], [3], [4], [1, 5]].getD i []) i).all fun j => ((ops[i]?).map fun o => o.after.any fun e => Region.binds .any e && e.on == j).getD false) = true)
    (hback : ((List.range 7).all fun i => ((ops[i]?).map fun o => o.after.all fun e => decide (e.on < i)).getD false) = true)
    {a0 : Act} {w0 : World} (ha : a0 = { tmps := #[x0, x1, .pointer (some ⟨r, 0, none⟩), x3, .slice (some ⟨g, 0, none⟩) n cap, x5, x6, x7, x8, x9, x10, x11, x12, x13, x14, x15, x16, x17, x18, x19, x20, x21, x22, x23, x24, x25, x26, x27, x28, x29, x30, x31, x32, x33, undef, undef, undef, undef, undef, undef, undef, undef, undef], defers := [] }) (hE : (false = true → false = true) ∧ (false = true → false = true) ∧ (false = true → false = true)) (hK : false = false → Blk w0 g 5 cur) (hR : Blk w0 r 29 #[.int .i64 0, .slice none 0 0]) (hW : Below ws.heap.size ws w0)
    (fin : ∀ t34 t35 t36 t37 t38 t39 t40 (W : World), (Blk W r 29 #[.int .i64 0, .slice none 0 0]) → (Below ws.heap.size ws W) → (∃ cur2 : Array Value, Blk W g 5 cur2 ∧ cur2.size = cap ∧ cur2.toList.take n = ((R.take 4 ++ pk S ++ R.drop 8).map (Value.int .u8))) → Q .normal { tmps := #[x0, x1, .pointer (some ⟨r, 0, none⟩), x3, .slice (some ⟨g, 0, none⟩) n cap, x5, x6, x7, x8, x9, x10, x11, x12, x13, x14, x15, x16, x17, x18, x19, x20, x21, x22, x23, x24, x25, x26, x27, x28, x29, x30, x31, x32, x33, t34, t35, t36, t37, t38, t39, t40, undef, undef], defers := [] } W) :
    wpAny Tryd.prog .any ops Q ops.size (Array.replicate ops.size false) a0 w0 := by
  have hn : ops.size = 7 := by have := congrArg Array.size hops; simpa using this
  obtain ⟨J, HJ⟩ : ∃ J : (Nat → Bool) → Act → World → Prop, ∀ dn ac W, J dn ac W ↔ (fun dn ac W => ∃ t34 t35 t36 t37 t38 t39 t40, ac = { tmps := #[x0, x1, .pointer (some ⟨r, 0, none⟩), x3, .slice (some ⟨g, 0, none⟩) n cap, x5, x6, x7, x8, x9, x10, x11, x12, x13, x14, x15, x16, x17, x18, x19, x20, x21, x22, x23, x24, x25, x26, x27, x28, x29, x30, x31, x32, x33, t34, t35, t36, t37, t38, t39, t40, undef, undef], defers := [] } ∧ ((dn 6 = true → dn 5 = true) ∧ (dn 5 = true → dn 4 = true) ∧ (dn 4 = true → dn 3 = true)) ∧ (dn 6 = false → Blk W g 5 cur) ∧ (Blk W r 29 #[.int .i64 0, .slice none 0 0]) ∧ (Below ws.heap.size ws W) ∧ (dn 0 = true → t34 = .slice (some ⟨g, 0, none⟩) n cap) ∧ (dn 1 = true → t35 = .slice (some ⟨g, 4, none⟩) (n - 4) (cap - 4)) ∧ (dn 2 = true → t36 = .slice (some ⟨g, 0, none⟩) n cap) ∧ (dn 3 = true → t37 = .int .i64 S) ∧ (dn 4 = true → dn 5 = false → ∃ (A : Option Addr) (c : Nat), t38 = .agg #[.int .i64 0, .slice A 4 c] ∧ Bs W A (pk S)) ∧ (dn 5 = true → dn 6 = false → ∃ (A : Option Addr) (c : Nat), t39 = .slice A 4 c ∧ Bs W A (pk S)) ∧ (dn 6 = true → ∃ cur2 : Array Value, Blk W g 5 cur2 ∧ cur2.size = cap ∧ cur2.toList.take n = ((R.take 4 ++ pk S ++ R.drop 8).map (Value.int .u8)))) dn ac W := ⟨_, fun _ _ _ => Iff.rfl⟩
  replace HJ := hidH HJ
  refine region_inv 7 (fun i => [[], [0], [], [2], [3], [4], [1, 5]].getD i []) J hn hdeps hback ?start ?step ?fin
  case start => exact (HJ.out _ _ _).2 ⟨undef, undef, undef, undef, undef, undef, undef, ha, hE, hK, hR, hW, fun h => by simp at h, fun h => by simp at h, fun h => by simp at h, fun h => by simp at h, fun h => by simp at h, fun h => by simp at h, fun h => by simp at h⟩
  all_goals clear ha hE hK hR hW
  case step =>
    clear fin hdeps hback
    intro i hi dn ac W hJ hdn hdep
    obtain ⟨t34, t35, t36, t37, t38, t39, t40, rfl, hE, hK, hR, hW, h0, h1, h2, h3, h4, h5, h6⟩ := (HJ.out _ _ _).1 hJ
    clear hJ
    match i, hi with
    | 0, _ =>
      obtain ⟨ty, ps, af, ho⟩ := op_lit hops (i := 0) (op := Op.move (Operand.tmp 4)) (dst := some 34) (g := none) rfl
      refine wpOp_lit ho (fun j b h => by cases h) ?_
      clear hops hdep ho
      replace h1 := hidH h1
      replace h2 := hidH h2
      replace h3 := hidH h3
      replace h4 := hidH h4
      replace h5 := hidH h5
      replace h6 := hidH h6
      go_wp2
      exact (HJ.out _ _ _).2 ⟨_, _, _, _, _, _, _, rfl, hE, hK, hR, hW, fun _ => rfl, h1.out, h2.out, h3.out, h4.out, h5.out, h6.out⟩
    | 1, _ =>
      obtain ⟨ty, ps, af, ho⟩ := op_lit hops (i := 1) (op := Op.slice 22 (Operand.tmp 34) (some ((Operand.const (Value.int .i64 4)))) none none) (dst := some 35) (g := none) rfl
      obtain rfl := h0 (hdep 0 (by simp))
      refine wpOp_lit ho (fun j b h => by cases h) ?_
      clear hops hdep ho
      replace h0 := hidH h0
      replace h2 := hidH h2
      replace h3 := hidH h3
      replace h4 := hidH h4
      replace h5 := hidH h5
      replace h6 := hidH h6
      go_wp2
      exact (HJ.out _ _ _).2 ⟨_, _, _, _, _, _, _, rfl, hE, hK, hR, hW, fun _ => rfl, fun _ => rfl, h2.out, h3.out, h4.out, h5.out, h6.out⟩
    | 2, _ =>
      obtain ⟨ty, ps, af, ho⟩ := op_lit hops (i := 2) (op := Op.move (Operand.tmp 4)) (dst := some 36) (g := none) rfl
      refine wpOp_lit ho (fun j b h => by cases h) ?_
      clear hops hdep ho
      replace h0 := hidH h0
      replace h1 := hidH h1
      replace h3 := hidH h3
      replace h4 := hidH h4
      replace h5 := hidH h5
      replace h6 := hidH h6
      go_wp2
      exact (HJ.out _ _ _).2 ⟨_, _, _, _, _, _, _, rfl, hE, hK, hR, hW, h0.out, h1.out, fun _ => rfl, h3.out, h4.out, h5.out, h6.out⟩
    | 3, _ =>
      obtain ⟨ty, ps, af, ho⟩ := op_lit hops (i := 3) (op := Op.call { callee := Callee.value (Operand.func 29), args := #[(Operand.tmp 36)], argTypes := #[22] }) (dst := some 37) (g := none) rfl
      have hk6 : dn 6 = false := by
        rcases hq : dn 6 with _ | _
        · rfl
        · have h3 : dn 3 = true := hE.2.2 (hE.2.1 (hE.1 hq))
          rw [hdn] at h3; cases h3
      obtain rfl := h2 (hdep 2 (by simp))
      refine wpOp_lit ho (fun j b h => by cases h) ?_
      clear hops hdep ho
      replace h0 := hidH h0
      replace h1 := hidH h1
      replace h2 := hidH h2
      replace h4 := hidH h4
      replace h5 := hidH h5
      replace h6 := hidH h6
      have kb := hK hk6
      go_wp2_with fail
      refine (PS _ kb).mono ?_
      rintro e w1 ⟨rfl, hb⟩
      go_wp2
      exact (HJ.out _ _ _).2 ⟨_, _, _, _, _, _, _, rfl, ⟨hE.1, hE.2.1, fun _ => rfl⟩, fun h => (hK h).below hb, hR.below hb, btr hW hb, h0.out, h1.out, fun _ => rfl, fun _ => rfl, fun h h2 => by obtain ⟨A, c, q1, q2⟩ := h4.out h h2; exact ⟨A, c, q1, bs_below q2 hb⟩, fun h h2 => by obtain ⟨A, c, q1, q2⟩ := h5.out h h2; exact ⟨A, c, q1, bs_below q2 hb⟩, (fun h => by have h3 : dn 3 = true := hE.2.2 (hE.2.1 (hE.1 h)); rw [hdn] at h3; cases h3)⟩
    | 4, _ =>
      obtain ⟨ty, ps, af, ho⟩ := op_lit hops (i := 4) (op := Op.call { callee := Callee.value (Operand.func 27), args := #[(Operand.tmp 37)], argTypes := #[2] }) (dst := some 38) (g := none) rfl
      have hd3 := hidH (hdep 3 (by simp))
      obtain rfl := h3 (hdep 3 (by simp))
      refine wpOp_lit ho (fun j b h => by cases h) ?_
      clear hops hdep ho
      replace h0 := hidH h0
      replace h1 := hidH h1
      replace h2 := hidH h2
      replace h3 := hidH h3
      replace h5 := hidH h5
      replace h6 := hidH h6
      go_wp2_with fail
      refine (PW _).mono ?_
      rintro e w1 ⟨A, c, rfl, hO, hb, _, _⟩
      rw [show (pk S).length = 4 from rfl]
      have hA := hO.bs
      clear hO
      go_wp2
      exact (HJ.out _ _ _).2 ⟨_, _, _, _, _, _, _, rfl, ⟨hE.1, fun _ => rfl, fun _ => hd3.out⟩, fun h => (hK h).below hb, hR.below hb, btr hW hb, h0.out, h1.out, h2.out, fun _ => rfl, fun _ => fun _ => ⟨A, c, rfl, hA⟩, fun h h2 => by obtain ⟨A, c, q1, q2⟩ := h5.out h h2; exact ⟨A, c, q1, bs_below q2 hb⟩, (fun h => by have h3 : dn 4 = true := hE.2.1 (hE.1 h); rw [hdn] at h3; cases h3)⟩
    | 5, _ =>
      obtain ⟨ty, ps, af, ho⟩ := op_lit hops (i := 5) (op := Op.field 29 (Operand.tmp 38) 1) (dst := some 39) (g := none) rfl
      have hd4 := hidH (hdep 4 (by simp))
      obtain ⟨A, c, rfl, hA⟩ := h4 (hdep 4 (by simp)) hdn
      refine wpOp_lit ho (fun j b h => by cases h) ?_
      clear hops hdep ho
      replace h0 := hidH h0
      replace h1 := hidH h1
      replace h2 := hidH h2
      replace h3 := hidH h3
      replace h4 := hidH h4
      replace h6 := hidH h6
      have hb := Below.refl W.heap.size W
      have f1 := fldB7
      go_wp2
      exact (HJ.out _ _ _).2 ⟨_, _, _, _, _, _, _, rfl, ⟨fun _ => rfl, fun _ => hd4.out, hE.2.2⟩, fun h => hK h, hR.below hb, btr hW hb, h0.out, h1.out, h2.out, h3.out, (fun _ h2 => by simp at h2), fun _ => fun _ => ⟨A, c, rfl, hA⟩, (fun h => by have h3 : dn 5 = true := hE.1 h; rw [hdn] at h3; cases h3)⟩
    | 6, _ =>
      obtain ⟨ty, ps, af, ho⟩ := op_lit hops (i := 6) (op := Op.call { callee := Callee.builtin Builtin.copy, args := #[(Operand.tmp 35), (Operand.tmp 39)], argTypes := #[22, 22] }) (dst := some 40) (g := none) rfl
      have hd5 := hidH (hdep 5 (by simp))
      obtain ⟨A, c, rfl, hA⟩ := h5 (hdep 5 (by simp)) hdn
      obtain rfl := h1 (hdep 1 (by simp))
      refine wpOp_lit ho (fun j b h => by cases h) ?_
      clear hops hdep ho
      replace h0 := hidH h0
      replace h1 := hidH h1
      replace h2 := hidH h2
      replace h3 := hidH h3
      replace h4 := hidH h4
      replace h5 := hidH h5
      have kb := hK hdn
      obtain ⟨cur2, hr6, K6, hb6⟩ := copy_at4 (c := c) kb hs ht hn8 hnc hA
      have K6 := hidH K6
      have hb6 := hidH hb6
      have hg6 := hb6.out.size
      go_wp2
      exact (HJ.out _ _ _).2 ⟨_, _, _, _, _, _, _, rfl, ⟨fun _ => hd5.out, hE.2⟩, (fun h => by simp at h), (hb6.out.block r hrg).trans hR, hW.trans (hb6.out.mono hgs), h0.out, fun _ => rfl, h2.out, h3.out, (fun _ h2 => by have h3 : dn 5 = false := h2; rw [hd5.out] at h3; cases h3), (fun _ h2 => by simp at h2), fun _ => ⟨_, K6.out⟩⟩
    | n + 7, h => omega
  case fin =>
    clear hops hdeps hback
    rintro dn ac W hJ hall
    obtain ⟨t34, t35, t36, t37, t38, t39, t40, rfl, hE, hK, hR, hW, h0, h1, h2, h3, h4, h5, h6⟩ := (HJ.out _ _ _).1 hJ
    exact fin _ _ _ _ _ _ _ W hR hW (h6 (hall 6 (by omega)))
end Go.Proofs.YtepcikghhnfacaaDoor
