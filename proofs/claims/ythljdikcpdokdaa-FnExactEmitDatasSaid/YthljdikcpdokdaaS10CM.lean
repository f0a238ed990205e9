/- Chapter 10: the model's l10Copy. (WRITTEN BY tools/copy10.py) -/
import Derived.Test.YthljdikcpdokdaaS10F
import Derived.Test.YthljdikcpdokdaaNa9
import Derived.Test.YthljdikcpdokdaaS10CR
import Derived.Deep.Cut
namespace Go.Proofs.Ythljdikcpdokdaa
open Go.RowKit Go.Deep

set_option maxHeartbeats 1000000 in
theorem ints10_any (A : Option Addr) (l : List Int) (c : Nat) (w : World) (hA : Is w A l) (hl : 0 < l.length) (hm : l.length ≤ 1000) :
    Calls Try.prog 147 #[.slice A l.length c] w fun e w' => ∃ v, e = .returned v ∧ w'.ownsRow w.heap.size 2 1 v l.length (l.map (Value.int .i64)) ∧ Below w.heap.size w w' := by
  rcases hA with rfl | ⟨b, off, rfl, hb, hA⟩
  · simp at hl
  obtain ⟨i0, hi, hzz⟩ := Option.map_eq_some_iff.1 infoI64
  simp only [Prod.mk.injEq] at hzz
  obtain ⟨hz0, hz1, hz2⟩ := hzz
  have hown : (w.alloc (.cells #[] 2)).ownsRow w.heap.size 2 1 (.slice (some ⟨w.heap.size, 0, none⟩) 0 0) 0 [] := World.ownsRow_lit w #[] 0 (Nat.le_refl _) (by unfold maxLen; omega) rfl
  have hcell : ∀ j u, (l.map (Value.int .i64))[j]? = some u → (w.alloc (.cells #[] 2)).cell? ((⟨b, off, none⟩ : Addr).add j) = some u := fun j u hu => by
    have hj : j < l.length := by
      rcases Nat.lt_or_ge j l.length with h | h
      · exact h
      · rw [List.getElem?_eq_none (by simpa using h)] at hu; cases hu
    have hadd : (⟨b, off, none⟩ : Addr).add j = ⟨b, off + j, none⟩ := by unfold Addr.add; split <;> simp_all
    rw [hadd, (Below.refl w.heap.size w |>.alloc (Nat.le_refl _) (.cells #[] 2)).cell (p := ⟨b, off + j, none⟩) hb, hA j hj, ← hu]
    simp [hj]
  have HO := hidH hown
  have HC := hidH hcell
  have hb2 := hidH (bal (Below.refl _ w) (.cells #[] 2))
  clear hown hcell hA
  go_enter Try.func147, Try.ntmps147
  go_wp2_with (at_builtin; refine wpList_append_own _ rfl _ _ 24 rfl w.heap.size 2 i0 (.int .i64 0) 1 8 Try.underlying24 hi hz0 hz1 hz2 rfl (by decide) _ _ _ rfl HO.out ⟨b, off, none⟩ l.length c (l.map (Value.int .i64)) rfl (by simp) HC.out ?c2 ?c3 ?c4 ?c5 ?_)
  case c2 => intro u hu; simp at hu; obtain ⟨x, _, rfl⟩ := hu; rfl
  case c3 => unfold maxLen; omega
  case c4 => omega
  case c5 => simp
  intro v' w2 hown' hgrow _
  have B2 := hidH (hb2.out.grown hgrow (by simp) (fun k hk => by simp [Value.ownBlock] at hk; omega))
  have O2 := hidH hown'
  clear hown' hgrow
  go_wp2
  go_ret
  exact ⟨_, rfl, by simpa using O2.out, B2.out⟩
set_option maxRecDepth 100000 in
set_option maxHeartbeats 8000000 in
theorem l10Copy_any (y : SendM) (k : Nat) (w : World) (A2 A3 : Option Addr) (c2 c3 : Nat) (hk : Blk w k 47 #[.int .i64 y.Next, .int .i64 y.Acked, .slice A2 y.Seqs.length c2, .slice A3 y.Items.length c3]) (i2 : Is w A2 y.Seqs) (i3 : Rd w (st_SendItem y.Items) (.slice A3 y.Items.length c3)) (h10 : y.Seqs.length = 10) (hn : y.Items.length ≤ 1000) (hxl : ∀ x ∈ y.Items, x.Data_Piece.length ≤ 4000000) : Calls Try.prog 78 #[.pointer (some ⟨k, 0, none⟩)] w (CpR y w) := by
  have KB := hk.alloc (.cells #[.int .i64 0, .int .i64 0, .slice none 0 0, .slice none 0 0] 47)
  have KR := Blk.new w 47 #[.int .i64 0, .int .i64 0, .slice none 0 0, .slice none 0 0]
  have B0 := bal (Below.refl w.heap.size w) (.cells #[.int .i64 0, .int .i64 0, .slice none 0 0, .slice none 0 0] 47)
  have s0 : (w.alloc (.cells #[.int .i64 0, .int .i64 0, .slice none 0 0, .slice none 0 0] 47)).heap.size = w.heap.size + 1 := World.size_alloc _ _
  obtain ⟨u0, hu0⟩ : ∃ W, w.alloc (.cells #[.int .i64 0, .int .i64 0, .slice none 0 0, .slice none 0 0] 47) = W := ⟨_, rfl⟩
  rw [hu0] at KB KR B0 s0
  have hkw := hk.lt
  have HP := hidH (fun (W : World) (hW : Below u0.heap.size u0 W) => Rd.below (btr B0 hW) _ i3)
  have hCP := fun (u : World) (hW : Below u0.heap.size u0 u) => ints10_any A2 y.Seqs c2 u (is_below i2 (btr B0 hW)) (by omega) (by omega)
  have k0 := KB.cell 0
  have k1 := KB.cell 1
  have k2 := KB.cell 2
  have k3 := KB.cell 3
  simp only [List.getElem?_toArray, List.getElem?_cons_succ, List.getElem?_cons_zero] at k0 k1 k2 k3
  have hkl := KB.lt
  have HSRC := hidH (fun (W : World) (hW : Below u0.heap.size u0 W) => (hW.cell (p := ⟨k, 3, none⟩) hkl).trans k3)
  have HSL := hidH (fun (W : World) (hW : Below u0.heap.size u0 W) => Nat.lt_of_lt_of_le hkl hW.size)
  have HR2 := hidH KR
  have HB0 := hidH B0
  have HU0 := hidH hu0
  have HU := hidH (show w.heap.size ≤ u0.heap.size by omega)
  have HNN := hidH hn
  have HXL := hidH hxl
  have HCPP := hidH hCP
  have hm3 : (y.Items.length : Int) ≤ 1000 := by omega
  clear i2 i3 h10 hn hxl hu0 KR B0 s0 KB hCP hk hkw
  go_enter Try.func78, Try.ntmps78
  go_wp2_with fail
  rw [HU0.out]
  refine wp_region_any (by kernel_rfl) ?_
  refine regL10 _ _ u0 u0.heap.size k c2 y.Next y.Acked A2 y.Seqs (Nat.le_refl _) hkl k0 k1 k2 HCPP.out (by kernel_rfl) (by kernel_rfl) (by kernel_rfl) rfl (fun h => by cases h) (Below.refl _ _).drew ?_
  intros
  rename_i w4 hO hX
  obtain ⟨g, SA0, sc0, rfl, hbk, hsq, hgl⟩ := hX
  obtain ⟨S, hS⟩ : ∃ S : Value, .slice SA0 y.Seqs.length sc0 = S := ⟨_, rfl⟩
  rw [hS] at hbk hsq
  clear hS
  have HC0 := hidH (CS10.start hbk hsq hO hgl)
  clear hO hbk hsq hgl HCPP k0 k1 k2 k3 hkl
  go_wp2
  go_loopw [4] (fun i wr => ∃ (j : Nat) (I : Value) (ks : List (Value × Nat × Nat)), j ≤ y.Items.length ∧ i = .int .i64 j ∧ CS10 u0 y g S wr j I ks) (fun i _ => y.Items.length - (intOf i).toNat)
  case atStart => exact ⟨0, _, _, by omega, rfl, HC0.out⟩
  case round =>
    obtain ⟨j, I, ks, hj, rfl, hC⟩ := hrel
    have HC := hidH hC
    have s3 := HSRC.out wr hC.out
    have sl := HSL.out wr hC.out
    by_cases hlt : j < y.Items.length
    case neg =>
      obtain rfl : j = y.Items.length := by omega
      have hb := hC.box
      have b0 := hb.cell 0
      have b1 := hb.cell 1
      have b2 := hb.cell 2
      have b3 := hb.cell 3
      simp only [List.getElem?_toArray, List.getElem?_cons_succ, List.getElem?_cons_zero] at b0 b1 b2 b3
      have gl := hb.lt
      have k2 := (HR2.out.below hC.out)
      have z0 := k2.cell 0
      have z1 := k2.cell 1
      have z2 := k2.cell 2
      have z3 := k2.cell 3
      simp only [List.getElem?_toArray, List.getElem?_cons_succ, List.getElem?_cons_zero] at z0 z1 z2 z3
      have f0 := k2.frozen 0
      have f1 := k2.frozen 1
      have f2 := k2.frozen 2
      have f3 := k2.frozen 3
      have g2l := k2.lt
      have ho := hC.seqs
      obtain ⟨SA, sc, rfl⟩ := own_lenT ho
      obtain ⟨IA, ic, rfl⟩ := hC.its.shape
      rw [List.take_length] at b3
      clear ho hC hb hlt hj k2
      go_wp2
      have OS := own_farT (own_farT (own_farT (own_farT (HC.out.seqs) ((HR2.out.below HC.out.out)) (by decide) 0 (.int .i64 y.Next)) (((HR2.out.below HC.out.out)).put 0 (.int .i64 y.Next)) (by decide) 1 (.int .i64 y.Acked)) ((((HR2.out.below HC.out.out)).put 0 (.int .i64 y.Next)).put 1 (.int .i64 y.Acked)) (by decide) 2 (.slice SA y.Seqs.length sc)) (((((HR2.out.below HC.out.out)).put 0 (.int .i64 y.Next)).put 1 (.int .i64 y.Acked)).put 2 (.slice SA y.Seqs.length sc)) (by decide) 3 (.slice IA y.Items.length ic)
      have OI := own_farT (own_farT (own_farT (own_farT (HC.out.its.row) ((HR2.out.below HC.out.out)) (by decide) 0 (.int .i64 y.Next)) (((HR2.out.below HC.out.out)).put 0 (.int .i64 y.Next)) (by decide) 1 (.int .i64 y.Acked)) ((((HR2.out.below HC.out.out)).put 0 (.int .i64 y.Next)).put 1 (.int .i64 y.Acked)) (by decide) 2 (.slice SA y.Seqs.length sc)) (((((HR2.out.below HC.out.out)).put 0 (.int .i64 y.Next)).put 1 (.int .i64 y.Acked)).put 2 (.slice SA y.Seqs.length sc)) (by decide) 3 (.slice IA y.Items.length ic)
      have H8 := ((((B8.refl _).trans (B8.of_win (set_win _ (w.heap.size) 0 (.int .i64 y.Next)) ((HR2.out.below HC.out.out)) (by decide))).trans (B8.of_win (set_win _ (w.heap.size) 1 (.int .i64 y.Acked)) (((HR2.out.below HC.out.out)).put 0 (.int .i64 y.Next)) (by decide))).trans (B8.of_win (set_win _ (w.heap.size) 2 (.slice SA y.Seqs.length sc)) ((((HR2.out.below HC.out.out)).put 0 (.int .i64 y.Next)).put 1 (.int .i64 y.Acked)) (by decide))).trans (B8.of_win (set_win _ (w.heap.size) 3 (.slice IA y.Items.length ic)) (((((HR2.out.below HC.out.out)).put 0 (.int .i64 y.Next)).put 1 (.int .i64 y.Acked)).put 2 (.slice SA y.Seqs.length sc)) (by decide))
      have BO := bst (bst (bst (bst ((HB0.out.trans (HC.out.out.mono HU.out))) (p := ⟨w.heap.size, 0, none⟩) (by show w.heap.size ≤ w.heap.size; omega) (.int .i64 y.Next)) (p := ⟨w.heap.size, 1, none⟩) (by show w.heap.size ≤ w.heap.size; omega) (.int .i64 y.Acked)) (p := ⟨w.heap.size, 2, none⟩) (by show w.heap.size ≤ w.heap.size; omega) (.slice SA y.Seqs.length sc)) (p := ⟨w.heap.size, 3, none⟩) (by show w.heap.size ≤ w.heap.size; omega) (.slice IA y.Items.length ic)
      have IT := HC.out.its
      rw [List.take_length] at IT OI
      have RT2 := IT.rts.turn (by simp [World.setCell]) H8
      exact bodyPost_ret (v := .agg #[.int .i64 y.Next, .int .i64 y.Acked, .slice SA y.Seqs.length sc, .slice IA y.Items.length ic]) (by simp [results, Try.results78, go_sem, z0, z1, z2, z3]) rfl ⟨_, _, ks, rfl, own_monoT OS HU.out, ⟨own_monoT OI HU.out, RFs.mono RT2 HU.out, IT.len⟩, BO⟩
    have hj0 : (0 : Int) ≤ (j : Int) := by omega
    have hj1 : (j : Int) < (y.Items.length : Int) := by omega
    obtain ⟨ga, oa, c, eA, hga, E⟩ := el_Item (HP.out wr hC.out) hlt
    injection eA with eA _ eC
    subst eC
    have hxl := HXL.out _ (List.getElem_mem hlt)
    obtain ⟨x, hx⟩ : ∃ x, y.Items[j] = x := ⟨_, rfl⟩
    rw [hx] at E hxl
    have HX := hidH hx
    obtain ⟨A, cA, d0, d1, d2, d3, d4, d5, d6, d7, d8, hb⟩ := mem_SendItem E
    subst eA
    obtain ⟨d, hd⟩ : ∃ d, wr.heap.size = d := ⟨_, rfl⟩
    have B1 := bal (Below.refl wr.heap.size wr) (.cells #[.int .i64 x.Data_Tsn, .int .i64 x.Data_Stream, .int .i64 x.Data_Seq, .bool x.Data_First, .bool x.Data_Last, .bool x.Data_Unordered, .slice A x.Data_Piece.length cA, .int .i64 x.Sent, .int .i64 x.Due] 121)
    have R1 := Blk.new wr 121 #[.int .i64 x.Data_Tsn, .int .i64 x.Data_Stream, .int .i64 x.Data_Seq, .bool x.Data_First, .bool x.Data_Last, .bool x.Data_Unordered, .slice A x.Data_Piece.length cA, .int .i64 x.Sent, .int .i64 x.Due]
    have s1 : (wr.alloc (.cells #[.int .i64 x.Data_Tsn, .int .i64 x.Data_Stream, .int .i64 x.Data_Seq, .bool x.Data_First, .bool x.Data_Last, .bool x.Data_Unordered, .slice A x.Data_Piece.length cA, .int .i64 x.Sent, .int .i64 x.Due] 121)).heap.size = wr.heap.size + 1 := World.size_alloc _ _
    obtain ⟨W1, hW1⟩ : ∃ W1, wr.alloc (.cells #[.int .i64 x.Data_Tsn, .int .i64 x.Data_Stream, .int .i64 x.Data_Seq, .bool x.Data_First, .bool x.Data_Last, .bool x.Data_Unordered, .slice A x.Data_Piece.length cA, .int .i64 x.Sent, .int .i64 x.Due] 121) = W1 := ⟨_, rfl⟩
    rw [hW1] at B1 R1 s1
    have HCP := hidH (copy_any A x.Data_Piece cA W1 (bs_below (bsOf hb) B1) hxl)
    rw [hd] at R1 s1
    have HR1 := hidH R1
    have HB1 := hidH B1
    have HS1 := hidH s1
    have HW1 := hidH hW1
    have HD := hidH hd
    clear hd B1 R1 s1 hW1 hx hxl hC E hb hj
    go_wp2_with fail
    rw [HW1.out, HD.out]
    clear d0 d1 d2 d3 d4 d5 d6 d7 d8 s3 sl
    refine HCP.out.mono ?_
    rintro e w9 ⟨v9, rfl, o9, hb9⟩
    obtain ⟨A9, c9, rfl⟩ := own_lenT o9
    have R9 := HR1.out.below hb9
    have f6 := R9.frozen 6
    have x6 := R9.cell 6
    simp only [List.getElem?_toArray, List.getElem?_cons_succ, List.getElem?_cons_zero] at x6
    have hdl := R9.lt
    have hsz9 : d + 1 ≤ w9.heap.size := by have := hb9.size; have := HS1.out; omega
    have HB9 := hidH (btr HB1.out hb9)
    have K10 : Blk ((w9).setCell ⟨d, 6, none⟩ (.slice A9 x.Data_Piece.length c9)) d 121 #[.int .i64 x.Data_Tsn, .int .i64 x.Data_Stream, .int .i64 x.Data_Seq, .bool x.Data_First, .bool x.Data_Last, .bool x.Data_Unordered, .slice A9 x.Data_Piece.length c9, .int .i64 x.Sent, .int .i64 x.Due] := (R9).put 6 (.slice A9 x.Data_Piece.length c9)
    have B10 := bst (HB9.out) (p := ⟨d, 6, none⟩) (by rw [HD.out]; exact Nat.le_refl _) (.slice A9 x.Data_Piece.length c9)
    have s10 : ((w9).setCell ⟨d, 6, none⟩ (.slice A9 x.Data_Piece.length c9)).heap.size = w9.heap.size := by simp [World.setCell]
    have hdB : d < W1.heap.size := by have := HS1.out; omega
    have o10 := own_monoT (own_keptT o9 (set_win w9 d 6 (.slice A9 x.Data_Piece.length c9)) hdB) (show d + 1 ≤ W1.heap.size from hdB)
    obtain ⟨w10, hw10⟩ : ∃ W, (w9).setCell ⟨d, 6, none⟩ (.slice A9 x.Data_Piece.length c9) = W := ⟨_, rfl⟩
    rw [hw10] at K10 B10 s10 o10
    have HW10 := hidH hw10
    have HK10 := hidH K10
    have HO10 := hidH o10
    have HB10 := hidH B10
    have HS10 := hidH s10
    have HS9 := hidH hsz9
    clear o9 hb9 hw10 o10 B10 s10 hdB R9 hsz9
    have hCt := HC.out.turn HB10.out
    have hbx := hCt.box
    have b3 := hbx.cell 3
    simp only [List.getElem?_toArray, List.getElem?_cons_succ, List.getElem?_cons_zero] at b3
    have gl := hbx.lt
    have q0 := K10.cell 0
    have q1 := K10.cell 1
    have q2 := K10.cell 2
    have q3 := K10.cell 3
    have q4 := K10.cell 4
    have q5 := K10.cell 5
    have q6 := K10.cell 6
    have q7 := K10.cell 7
    have q8 := K10.cell 8
    simp only [List.getElem?_toArray, List.getElem?_cons_succ, List.getElem?_cons_zero] at q0 q1 q2 q3 q4 q5 q6 q7 q8
    have kl := K10.lt
    have hAll := own_lenT hCt.its.row
    rw [take_lenJ (Nat.le_of_lt hlt)] at hAll
    obtain ⟨IA, ic, rfl⟩ := hAll
    have B11 := bal HB10.out (.cells #[.int .i64 x.Data_Tsn, .int .i64 x.Data_Stream, .int .i64 x.Data_Seq, .bool x.Data_First, .bool x.Data_Last, .bool x.Data_Unordered, .slice A9 x.Data_Piece.length c9, .int .i64 x.Sent, .int .i64 x.Due] 121)
    have K11 := Blk.new w10 121 #[.int .i64 x.Data_Tsn, .int .i64 x.Data_Stream, .int .i64 x.Data_Seq, .bool x.Data_First, .bool x.Data_Last, .bool x.Data_Unordered, .slice A9 x.Data_Piece.length c9, .int .i64 x.Sent, .int .i64 x.Due]
    have b11 := bal (Below.refl w10.heap.size w10) (.cells #[.int .i64 x.Data_Tsn, .int .i64 x.Data_Stream, .int .i64 x.Data_Seq, .bool x.Data_First, .bool x.Data_Last, .bool x.Data_Unordered, .slice A9 x.Data_Piece.length c9, .int .i64 x.Sent, .int .i64 x.Due] 121)
    have hC11 := HC.out.turn B11
    have o11 := own_below0 HO10.out b11
    have r11 := hC11.its.row
    rw [take_lenJ (Nat.le_of_lt hlt)] at r11
    have HB11 := hidH B11
    have HK11 := hidH K11
    have HO11 := hidH o11
    have HC11 := hidH hC11
    have HR11 := hidH r11
    have HSZ := hidH hC11.out.size
    have HJB := hidH (show j ≤ 90000 by have := HNN.out; omega)
    clear B11 K11 b11 hC11 o11 r11 hCt hbx K10
    go_upto_region 7 with (fail)
    rw [HW10.out]
    clear x6 f6 hdl
    go_wp2_with (at_builtin; go_loud (refine wpList_append_Si rfl _ _ Try.underlying45 rfl u0.heap.size _ j _ rfl HR11.out w10.heap.size _ x _ rfl rfl HK11.out HJB.out HSZ.out ?_))
    intro v2 w2 o2 hg _
    obtain ⟨A2', c2', rfl⟩ := own_lenT o2
    have HG := hidH hg
    have HO2 := hidH o2
    have hbg := HC11.out.box.grownT hg HR11.out (by decide)
    have e0 := hbg.cell 0
    have e1 := hbg.cell 1
    have e2 := hbg.cell 2
    have e3 := hbg.cell 3
    simp only [List.getElem?_toArray, List.getElem?_cons_succ, List.getElem?_cons_zero] at e0 e1 e2 e3
    have e3f := hbg.frozen 3
    have egl := hbg.lt
    clear hg o2 hbg q0 q1 q2 q3 q4 q5 q6 q7 q8 kl b3 gl
    obtain ⟨lo, hi, hlo, hrt⟩ := RT.of_row HO11.out (by have h1 := HB11.out.size; have h2 := HS9.out; have h3 := HS10.out; simp only [World.size_alloc]; omega) [.int x.Data_Tsn, .int x.Data_Stream, .int x.Data_Seq, .bool x.Data_First, .bool x.Data_Last, .bool x.Data_Unordered]
    have HN := hidH (CS10.app HC.out hlt HX.out HB11.out (v := .slice A9 x.Data_Piece.length c9) (lo := lo) (hi := hi) hrt (by have := HD.out; omega) HO2.out HG.out)
    clear hrt hlo HO11 HK11 HR11 HO2 HG HC11
    go_wp2
    go_roundw
    case rel => exact ⟨j + 1, _, _, by omega, by go_num, HN.out⟩
    case measure => simp [intOf]; omega
end Go.Proofs.Ythljdikcpdokdaa
