import Derived.Test.YthljdikcpdokdaaS10F
import Derived.Test.YthljdikcpdokdaaNa9
import Derived.Test.YthljdikcpdokdaaS10CR
import Derived.Test.YthljdikcpdokdaaNa7
import Derived.Deep.Cut
import Derived.Test.YthljdikcpdokdaaNb3
import Derived.Test.YthljdikcpdokdaaNb4

/- Chapter 10: the program's copies of a piece and of a sender. (WRITTEN BY tools/copy10.py) -/
namespace Go.Proofs.Ythljdikcpdokdaa
open Go.RowKit Go.Deep

set_option maxRecDepth 100000 in
set_option maxHeartbeats 2000000 in
theorem dcopied_any (x : DataM) (A : Option Addr) (c : Nat) (w : World) (hb : Bs w A x.Piece) (hl : x.Piece.length ≤ 4000000) : Calls Try.prog 102 #[.agg #[.int .i64 x.Tsn, .int .i64 x.Stream, .int .i64 x.Seq, .bool x.First, .bool x.Last, .bool x.Unordered, .slice A x.Piece.length c]] w fun e w' =>
    ∃ (A' : Option Addr) (c' : Nat), e = .returned (.agg #[.int .i64 x.Tsn, .int .i64 x.Stream, .int .i64 x.Seq, .bool x.First, .bool x.Last, .bool x.Unordered, .slice A' x.Piece.length c']) ∧ w'.ownsRow w.heap.size 5 1 (.slice A' x.Piece.length c') x.Piece.length (x.Piece.map (Value.int .u8)) ∧ Below w.heap.size w w' := by
  have KB := (Blk.new w 69 #[.int .i64 x.Tsn, .int .i64 x.Stream, .int .i64 x.Seq, .bool x.First, .bool x.Last, .bool x.Unordered, .slice A x.Piece.length c]).alloc (.cells #[.int .i64 0, .int .i64 0, .int .i64 0, .bool false, .bool false, .bool false, .slice none 0 0] 69)
  have KR := Blk.new (w.alloc (.cells #[.int .i64 x.Tsn, .int .i64 x.Stream, .int .i64 x.Seq, .bool x.First, .bool x.Last, .bool x.Unordered, .slice A x.Piece.length c] 69)) 69 #[.int .i64 0, .int .i64 0, .int .i64 0, .bool false, .bool false, .bool false, .slice none 0 0]
  have B1 := bal (bal (Below.refl w.heap.size w) (.cells #[.int .i64 x.Tsn, .int .i64 x.Stream, .int .i64 x.Seq, .bool x.First, .bool x.Last, .bool x.Unordered, .slice A x.Piece.length c] 69)) (.cells #[.int .i64 0, .int .i64 0, .int .i64 0, .bool false, .bool false, .bool false, .slice none 0 0] 69)
  have HC := hidH (clone_any A x.Piece c _ (bs_below hb B1) hl)
  have s1 : ((w.alloc (.cells #[.int .i64 x.Tsn, .int .i64 x.Stream, .int .i64 x.Seq, .bool x.First, .bool x.Last, .bool x.Unordered, .slice A x.Piece.length c] 69)).alloc (.cells #[.int .i64 0, .int .i64 0, .int .i64 0, .bool false, .bool false, .bool false, .slice none 0 0] 69)).heap.size = w.heap.size + 1 + 1 := by simp only [World.size_alloc]
  rw [World.size_alloc] at KR
  obtain ⟨w1, hw1⟩ : ∃ W, (w.alloc (.cells #[.int .i64 x.Tsn, .int .i64 x.Stream, .int .i64 x.Seq, .bool x.First, .bool x.Last, .bool x.Unordered, .slice A x.Piece.length c] 69)).alloc (.cells #[.int .i64 0, .int .i64 0, .int .i64 0, .bool false, .bool false, .bool false, .slice none 0 0] 69) = W := ⟨_, rfl⟩
  rw [hw1] at KB KR B1 HC s1
  have H1 := hidH hw1
  have HB := hidH B1
  have HK := hidH KB
  have HR := hidH KR
  have HS := hidH s1
  clear hb hl hw1 KB KR B1 s1
  go_enter Try.func102, Try.ntmps102
  go_wp2_with fail
  rw [H1.out]
  refine HC.out.mono ?_
  rintro e w2 ⟨v2, rfl, o2, b2⟩
  obtain ⟨A2, c2, rfl⟩ := own_lenT o2
  have K2 := HK.out.below b2
  have R2 := HR.out.below b2
  have p0 := K2.cell 0
  have p1 := K2.cell 1
  have p2 := K2.cell 2
  have p3 := K2.cell 3
  have p4 := K2.cell 4
  have p5 := K2.cell 5
  have p6 := K2.cell 6
  simp only [List.getElem?_toArray, List.getElem?_cons_succ, List.getElem?_cons_zero] at p0 p1 p2 p3 p4 p5 p6
  have pf6 := K2.frozen 6
  have q0 := R2.cell 0
  have q1 := R2.cell 1
  have q2 := R2.cell 2
  have q3 := R2.cell 3
  have q4 := R2.cell 4
  have q5 := R2.cell 5
  have q6 := R2.cell 6
  simp only [List.getElem?_toArray, List.getElem?_cons_succ, List.getElem?_cons_zero] at q0 q1 q2 q3 q4 q5 q6
  have qf0 := R2.frozen 0
  have qf1 := R2.frozen 1
  have qf2 := R2.frozen 2
  have qf3 := R2.frozen 3
  have qf4 := R2.frozen 4
  have qf5 := R2.frozen 5
  have qf6 := R2.frozen 6
  have lp := K2.lt
  have lq := R2.lt
  have HB2 := hidH (btr HB.out b2)
  have HO2 := hidH (own_monoT o2 (show w.heap.size + 1 + 1 ≤ w1.heap.size by have := HS.out; omega))
  have HK2 := hidH K2
  have HR2 := hidH R2
  clear b2 o2 K2 R2
  go_wp2
  have WN := Win.trans (B := w.heap.size) (C := w.heap.size + 2) ((set_win w2 w.heap.size 6 (.slice A2 x.Piece.length c2)).mono (Nat.le_refl _) (by omega)) (Win.mono (((((((set_win (w2.setCell ⟨w.heap.size, 6, none⟩ (.slice A2 x.Piece.length c2)) (w.heap.size + 1) 0 (.int .i64 x.Tsn)).trans (set_win _ (w.heap.size + 1) 1 (.int .i64 x.Stream))).trans (set_win _ (w.heap.size + 1) 2 (.int .i64 x.Seq))).trans (set_win _ (w.heap.size + 1) 3 (.bool x.First))).trans (set_win _ (w.heap.size + 1) 4 (.bool x.Last))).trans (set_win _ (w.heap.size + 1) 5 (.bool x.Unordered))).trans (set_win _ (w.heap.size + 1) 6 (.slice A2 x.Piece.length c2))) (by omega) (by omega))
  have BN := HB2.out.trans (WN.below (by have := HB2.out.size; omega))
  have ON := own_keptT (own_keptT HO2.out (set_win w2 w.heap.size 6 (.slice A2 x.Piece.length c2)) (by omega)) (((((((set_win (w2.setCell ⟨w.heap.size, 6, none⟩ (.slice A2 x.Piece.length c2)) (w.heap.size + 1) 0 (.int .i64 x.Tsn)).trans (set_win _ (w.heap.size + 1) 1 (.int .i64 x.Stream))).trans (set_win _ (w.heap.size + 1) 2 (.int .i64 x.Seq))).trans (set_win _ (w.heap.size + 1) 3 (.bool x.First))).trans (set_win _ (w.heap.size + 1) 4 (.bool x.Last))).trans (set_win _ (w.heap.size + 1) 5 (.bool x.Unordered))).trans (set_win _ (w.heap.size + 1) 6 (.slice A2 x.Piece.length c2))) (by omega)
  exact bodyPost_ret (v := .agg #[.int .i64 x.Tsn, .int .i64 x.Stream, .int .i64 x.Seq, .bool x.First, .bool x.Last, .bool x.Unordered, .slice A2 x.Piece.length c2]) (by simp [results, Try.results102, go_sem, q0, q1, q2, q3, q4, q5, q6]) rfl ⟨A2, c2, rfl, own_monoT ON (by omega), BN⟩
set_option maxHeartbeats 1000000 in
theorem cloneI_any (A : Option Addr) (l : List Int) (c : Nat) (w : World) (hA : Is w A l) (hl : 0 < l.length) (hm : l.length ≤ 1000) :
    Calls Try.prog 143 #[.slice A l.length c] w fun e w' => ∃ v, e = .returned v ∧ w'.ownsRow w.heap.size 2 1 v l.length (l.map (Value.int .i64)) ∧ Below w.heap.size w w' := by
  rcases hA with rfl | ⟨b, off, rfl, hb, hA⟩
  · simp at hl
  obtain ⟨i0, hi, hzz⟩ := Option.map_eq_some_iff.1 infoI64
  simp only [Prod.mk.injEq] at hzz
  obtain ⟨hz0, hz1, hz2⟩ := hzz
  have hown : (w.alloc (.cells #[] 2)).ownsRow w.heap.size 2 1 (.slice (some ⟨w.heap.size, 0, none⟩) 0 0) 0 [] := World.ownsRow_lit w #[] 0 (Nat.le_refl _) (by unfold maxLen; omega) rfl
  have hcell : ∀ j u, (l.map (Value.int .i64))[j]? = some u → (w.alloc (.cells #[] 2)).cell? ((⟨b, off, none⟩ : Addr).add j) = some u := fun j u hu => by
    have hj : j < l.length := by
      rcases Nat.lt_or_ge j l.length with h | h
      · exact h
      · rw [List.getElem?_eq_none (by simpa using h)] at hu; cases hu
    have hadd : (⟨b, off, none⟩ : Addr).add j = ⟨b, off + j, none⟩ := by unfold Addr.add; split <;> simp_all
    rw [hadd, (Below.refl w.heap.size w |>.alloc (Nat.le_refl _) (.cells #[] 2)).cell (p := ⟨b, off + j, none⟩) hb, hA j hj, ← hu]
    simp [hj]
  have HO := hidH hown
  have HC := hidH hcell
  have hb2 := hidH (bal (Below.refl _ w) (.cells #[] 2))
  have hnil := Go.run_eql_slice_nil w 24 2 (some ⟨b, off, none⟩) l.length c Try.underlying24
  clear hown hcell hA
  go_enter Try.func143, Try.ntmps143
  go_wp2_with (at_builtin; refine wpList_append_own _ rfl _ _ 24 rfl w.heap.size 2 i0 (.int .i64 0) 1 8 Try.underlying24 hi hz0 hz1 hz2 rfl (by decide) _ _ _ rfl HO.out ⟨b, off, none⟩ l.length c (l.map (Value.int .i64)) rfl (by simp) HC.out ?c2 ?c3 ?c4 ?c5 ?_)
  case c2 => intro u hu; simp at hu; obtain ⟨x, _, rfl⟩ := hu; rfl
  case c3 => unfold maxLen; omega
  case c4 => omega
  case c5 => simp
  intro v' w2 hown' hgrow _
  have B2 := hidH (hb2.out.grown hgrow (by simp) (fun k hk => by simp [Value.ownBlock] at hk; omega))
  have O2 := hidH hown'
  clear hown' hgrow
  go_wp2
  go_ret
  exact ⟨_, rfl, by simpa using O2.out, B2.out⟩
set_option maxRecDepth 100000 in
set_option maxHeartbeats 8000000 in
theorem copied_any (y : SendM) (vs : List Value) (w : World) (h : RdA w y.vs vs) (h10 : y.Seqs.length = 10) (hn : y.Items.length ≤ 1000) (hxl : ∀ x ∈ y.Items, x.Data_Piece.length ≤ 4000000) : Calls Try.prog 71 #[.agg vs.toArray] w (CpR y w) := by
  obtain ⟨A2, c2, A3, c3, rfl, i2, i3, m2, m3, _⟩ := send_sh h
  have h3 : RdA w [.int y.Next, .int y.Acked, .is y.Seqs, st_SendItem y.Items] _ := h
  have KB := (Blk.new w 47 #[.int .i64 y.Next, .int .i64 y.Acked, .slice A2 y.Seqs.length c2, .slice A3 y.Items.length c3]).alloc (.cells #[.int .i64 0, .int .i64 0, .slice none 0 0, .slice none 0 0] 47)
  have KR := Blk.new (w.alloc (.cells #[.int .i64 y.Next, .int .i64 y.Acked, .slice A2 y.Seqs.length c2, .slice A3 y.Items.length c3] 47)) 47 #[.int .i64 0, .int .i64 0, .slice none 0 0, .slice none 0 0]
  have B0 := bal (bal (Below.refl w.heap.size w) (.cells #[.int .i64 y.Next, .int .i64 y.Acked, .slice A2 y.Seqs.length c2, .slice A3 y.Items.length c3] 47)) (.cells #[.int .i64 0, .int .i64 0, .slice none 0 0, .slice none 0 0] 47)
  rw [World.size_alloc] at KR
  have s0 : ((w.alloc (.cells #[.int .i64 y.Next, .int .i64 y.Acked, .slice A2 y.Seqs.length c2, .slice A3 y.Items.length c3] 47)).alloc (.cells #[.int .i64 0, .int .i64 0, .slice none 0 0, .slice none 0 0] 47)).heap.size = w.heap.size + 1 + 1 := by simp only [World.size_alloc]
  obtain ⟨u0, hu0⟩ : ∃ W, (w.alloc (.cells #[.int .i64 y.Next, .int .i64 y.Acked, .slice A2 y.Seqs.length c2, .slice A3 y.Items.length c3] 47)).alloc (.cells #[.int .i64 0, .int .i64 0, .slice none 0 0, .slice none 0 0] 47) = W := ⟨_, rfl⟩
  rw [hu0] at KB KR B0 s0
  have HP := hidH (fun (W : World) (hW : Below u0.heap.size u0 W) => Rd.below (btr B0 hW) _ i3)
  have hCP := fun (u : World) (hW : Below u0.heap.size u0 u) => cloneI_any A2 y.Seqs c2 u (is_below i2 (btr B0 hW)) (by omega) (by omega)
  have k0 := KB.cell 0
  have k1 := KB.cell 1
  have k2 := KB.cell 2
  have k3 := KB.cell 3
  simp only [List.getElem?_toArray, List.getElem?_cons_succ, List.getElem?_cons_zero] at k0 k1 k2 k3
  have hkl := KB.lt
  have HSRC := hidH (fun (W : World) (hW : Below u0.heap.size u0 W) => (hW.cell (p := ⟨w.heap.size, 3, none⟩) hkl).trans k3)
  have HSL := hidH (fun (W : World) (hW : Below u0.heap.size u0 W) => Nat.lt_of_lt_of_le hkl hW.size)
  have HR2 := hidH KR
  have HB0 := hidH B0
  have HU0 := hidH hu0
  have HU := hidH (show w.heap.size ≤ u0.heap.size by omega)
  have HNN := hidH hn
  have HXL := hidH hxl
  have HCPP := hidH hCP
  have hm3 : (y.Items.length : Int) ≤ 1000 := by omega
  clear h h3 i2 i3 h10 hn hxl hu0 KR B0 s0 KB hCP m2 m3
  go_enter Try.func71, Try.ntmps71
  go_wp2_with fail
  rw [HU0.out]
  refine wp_region_any (by kernel_rfl) ?_
  refine regC10 _ _ u0 u0.heap.size w.heap.size c2 y.Next y.Acked A2 y.Seqs (Nat.le_refl _) hkl k0 k1 k2 HCPP.out (by kernel_rfl) (by kernel_rfl) (by kernel_rfl) rfl (fun h => by cases h) (Below.refl _ _).drew ?_
  intros
  rename_i w4 hO hX
  obtain ⟨g, SA0, sc0, rfl, hbk, hsq, hgl⟩ := hX
  obtain ⟨S, hS⟩ : ∃ S : Value, .slice SA0 y.Seqs.length sc0 = S := ⟨_, rfl⟩
  rw [hS] at hbk hsq
  clear hS
  have HC0 := hidH (CS10.start hbk hsq hO hgl)
  have s3 := HSRC.out _ hO
  have sl := HSL.out _ hO
  clear hO hbk hsq hgl HCPP k0 k1 k2 k3 hkl
  go_wp2
  clear s3 sl
  go_loopw [17] (fun i wr => ∃ (j : Nat) (I : Value) (ks : List (Value × Nat × Nat)), j ≤ y.Items.length ∧ i = .int .i64 j ∧ CS10 u0 y g S wr j I ks) (fun i _ => y.Items.length - (intOf i).toNat)
  case atStart => exact ⟨0, _, _, by omega, rfl, HC0.out⟩
  case round =>
    obtain ⟨j, I, ks, hj, rfl, hC⟩ := hrel
    have HC := hidH hC
    by_cases hlt : j < y.Items.length
    case neg =>
      obtain rfl : j = y.Items.length := by omega
      have hb := hC.box
      have b0 := hb.cell 0
      have b1 := hb.cell 1
      have b2 := hb.cell 2
      have b3 := hb.cell 3
      simp only [List.getElem?_toArray, List.getElem?_cons_succ, List.getElem?_cons_zero] at b0 b1 b2 b3
      have gl := hb.lt
      have k2 := (HR2.out.below hC.out)
      have z0 := k2.cell 0
      have z1 := k2.cell 1
      have z2 := k2.cell 2
      have z3 := k2.cell 3
      simp only [List.getElem?_toArray, List.getElem?_cons_succ, List.getElem?_cons_zero] at z0 z1 z2 z3
      have f0 := k2.frozen 0
      have f1 := k2.frozen 1
      have f2 := k2.frozen 2
      have f3 := k2.frozen 3
      have g2l := k2.lt
      have ho := hC.seqs
      obtain ⟨SA, sc, rfl⟩ := own_lenT ho
      obtain ⟨IA, ic, rfl⟩ := hC.its.shape
      rw [List.take_length] at b3
      clear ho hC hb hlt hj k2
      go_wp2
      have OS := own_farT (own_farT (own_farT (own_farT (HC.out.seqs) ((HR2.out.below HC.out.out)) (by decide) 0 (.int .i64 y.Next)) (((HR2.out.below HC.out.out)).put 0 (.int .i64 y.Next)) (by decide) 1 (.int .i64 y.Acked)) ((((HR2.out.below HC.out.out)).put 0 (.int .i64 y.Next)).put 1 (.int .i64 y.Acked)) (by decide) 2 (.slice SA y.Seqs.length sc)) (((((HR2.out.below HC.out.out)).put 0 (.int .i64 y.Next)).put 1 (.int .i64 y.Acked)).put 2 (.slice SA y.Seqs.length sc)) (by decide) 3 (.slice IA y.Items.length ic)
      have OI := own_farT (own_farT (own_farT (own_farT (HC.out.its.row) ((HR2.out.below HC.out.out)) (by decide) 0 (.int .i64 y.Next)) (((HR2.out.below HC.out.out)).put 0 (.int .i64 y.Next)) (by decide) 1 (.int .i64 y.Acked)) ((((HR2.out.below HC.out.out)).put 0 (.int .i64 y.Next)).put 1 (.int .i64 y.Acked)) (by decide) 2 (.slice SA y.Seqs.length sc)) (((((HR2.out.below HC.out.out)).put 0 (.int .i64 y.Next)).put 1 (.int .i64 y.Acked)).put 2 (.slice SA y.Seqs.length sc)) (by decide) 3 (.slice IA y.Items.length ic)
      have H8 := ((((B8.refl _).trans (B8.of_win (set_win _ (w.heap.size + 1) 0 (.int .i64 y.Next)) ((HR2.out.below HC.out.out)) (by decide))).trans (B8.of_win (set_win _ (w.heap.size + 1) 1 (.int .i64 y.Acked)) (((HR2.out.below HC.out.out)).put 0 (.int .i64 y.Next)) (by decide))).trans (B8.of_win (set_win _ (w.heap.size + 1) 2 (.slice SA y.Seqs.length sc)) ((((HR2.out.below HC.out.out)).put 0 (.int .i64 y.Next)).put 1 (.int .i64 y.Acked)) (by decide))).trans (B8.of_win (set_win _ (w.heap.size + 1) 3 (.slice IA y.Items.length ic)) (((((HR2.out.below HC.out.out)).put 0 (.int .i64 y.Next)).put 1 (.int .i64 y.Acked)).put 2 (.slice SA y.Seqs.length sc)) (by decide))
      have BO := bst (bst (bst (bst ((HB0.out.trans (HC.out.out.mono HU.out))) (p := ⟨w.heap.size + 1, 0, none⟩) (by show w.heap.size ≤ w.heap.size + 1; omega) (.int .i64 y.Next)) (p := ⟨w.heap.size + 1, 1, none⟩) (by show w.heap.size ≤ w.heap.size + 1; omega) (.int .i64 y.Acked)) (p := ⟨w.heap.size + 1, 2, none⟩) (by show w.heap.size ≤ w.heap.size + 1; omega) (.slice SA y.Seqs.length sc)) (p := ⟨w.heap.size + 1, 3, none⟩) (by show w.heap.size ≤ w.heap.size + 1; omega) (.slice IA y.Items.length ic)
      have IT := HC.out.its
      rw [List.take_length] at IT OI
      have RT2 := IT.rts.turn (by simp [World.setCell]) H8
      exact bodyPost_ret (v := .agg #[.int .i64 y.Next, .int .i64 y.Acked, .slice SA y.Seqs.length sc, .slice IA y.Items.length ic]) (by simp [results, Try.results71, go_sem, z0, z1, z2, z3]) rfl ⟨_, _, ks, rfl, own_monoT OS HU.out, ⟨own_monoT OI HU.out, RFs.mono RT2 HU.out, IT.len⟩, BO⟩
    have hj0 : (0 : Int) ≤ (j : Int) := by omega
    have hj1 : (j : Int) < (y.Items.length : Int) := by omega
    obtain ⟨ga, oa, c, eA, hga, E⟩ := el_Item (HP.out wr hC.out) hlt
    injection eA with eA _ eC
    subst eC
    have hxl := HXL.out _ (List.getElem_mem hlt)
    obtain ⟨x, hx⟩ : ∃ x, y.Items[j] = x := ⟨_, rfl⟩
    rw [hx] at E hxl
    have HX := hidH hx
    obtain ⟨A, cA, d0, d1, d2, d3, d4, d5, d6, d7, d8, hb⟩ := mem_SendItem E
    subst eA
    obtain ⟨d, hd⟩ : ∃ d, wr.heap.size = d := ⟨_, rfl⟩
    have B1 := bal (Below.refl wr.heap.size wr) (.cells #[.int .i64 x.Data_Tsn, .int .i64 x.Data_Stream, .int .i64 x.Data_Seq, .bool x.Data_First, .bool x.Data_Last, .bool x.Data_Unordered, .slice A x.Data_Piece.length cA, .int .i64 x.Sent, .int .i64 x.Due] 121)
    have R1 := Blk.new wr 121 #[.int .i64 x.Data_Tsn, .int .i64 x.Data_Stream, .int .i64 x.Data_Seq, .bool x.Data_First, .bool x.Data_Last, .bool x.Data_Unordered, .slice A x.Data_Piece.length cA, .int .i64 x.Sent, .int .i64 x.Due]
    have s1 : (wr.alloc (.cells #[.int .i64 x.Data_Tsn, .int .i64 x.Data_Stream, .int .i64 x.Data_Seq, .bool x.Data_First, .bool x.Data_Last, .bool x.Data_Unordered, .slice A x.Data_Piece.length cA, .int .i64 x.Sent, .int .i64 x.Due] 121)).heap.size = wr.heap.size + 1 := World.size_alloc _ _
    obtain ⟨W1, hW1⟩ : ∃ W1, wr.alloc (.cells #[.int .i64 x.Data_Tsn, .int .i64 x.Data_Stream, .int .i64 x.Data_Seq, .bool x.Data_First, .bool x.Data_Last, .bool x.Data_Unordered, .slice A x.Data_Piece.length cA, .int .i64 x.Sent, .int .i64 x.Due] 121) = W1 := ⟨_, rfl⟩
    rw [hW1] at B1 R1 s1
    have HCP := hidH (show Calls Try.prog 102 #[.agg #[.int .i64 x.Data_Tsn, .int .i64 x.Data_Stream, .int .i64 x.Data_Seq, .bool x.Data_First, .bool x.Data_Last, .bool x.Data_Unordered, .slice A x.Data_Piece.length cA]] W1 (fun e w' => ∃ (A' : Option Addr) (c' : Nat), e = .returned (.agg #[.int .i64 x.Data_Tsn, .int .i64 x.Data_Stream, .int .i64 x.Data_Seq, .bool x.Data_First, .bool x.Data_Last, .bool x.Data_Unordered, .slice A' x.Data_Piece.length c']) ∧ w'.ownsRow W1.heap.size 5 1 (.slice A' x.Data_Piece.length c') x.Data_Piece.length (x.Data_Piece.map (Value.int .u8)) ∧ Below W1.heap.size W1 w') from dcopied_any x.d A cA W1 (bs_below (bsOf hb) B1) hxl)
    rw [hd] at R1 s1
    have HR1 := hidH R1
    have HB1 := hidH B1
    have HS1 := hidH s1
    have HW1 := hidH hW1
    have HD := hidH hd
    clear hd B1 R1 s1 hW1 hx hxl hC E hb hj
    go_wp2_with fail
    rw [HW1.out, HD.out]
    clear d0 d1 d2 d3 d4 d5 d6 d7 d8
    refine HCP.out.mono ?_
    rintro e w9 ⟨A9, c9, rfl, o9, hb9⟩
    have R9 := HR1.out.below hb9
    have f0 := R9.frozen 0
    have f1 := R9.frozen 1
    have f2 := R9.frozen 2
    have f3 := R9.frozen 3
    have f4 := R9.frozen 4
    have f5 := R9.frozen 5
    have f6 := R9.frozen 6
    have x0 := R9.cell 0
    have x1 := R9.cell 1
    have x2 := R9.cell 2
    have x3 := R9.cell 3
    have x4 := R9.cell 4
    have x5 := R9.cell 5
    have x6 := R9.cell 6
    simp only [List.getElem?_toArray, List.getElem?_cons_succ, List.getElem?_cons_zero] at x0 x1 x2 x3 x4 x5 x6
    have hdl := R9.lt
    have hsz9 : d + 1 ≤ w9.heap.size := by have := hb9.size; have := HS1.out; omega
    have HB9 := hidH (btr HB1.out hb9)
    have K10 : Blk ((((((((w9).setCell ⟨d, 0, none⟩ (.int .i64 x.Data_Tsn)).setCell ⟨d, 1, none⟩ (.int .i64 x.Data_Stream)).setCell ⟨d, 2, none⟩ (.int .i64 x.Data_Seq)).setCell ⟨d, 3, none⟩ (.bool x.Data_First)).setCell ⟨d, 4, none⟩ (.bool x.Data_Last)).setCell ⟨d, 5, none⟩ (.bool x.Data_Unordered)).setCell ⟨d, 6, none⟩ (.slice A9 x.Data_Piece.length c9)) d 121 #[.int .i64 x.Data_Tsn, .int .i64 x.Data_Stream, .int .i64 x.Data_Seq, .bool x.Data_First, .bool x.Data_Last, .bool x.Data_Unordered, .slice A9 x.Data_Piece.length c9, .int .i64 x.Sent, .int .i64 x.Due] := (((((((R9).put 0 (.int .i64 x.Data_Tsn)).put 1 (.int .i64 x.Data_Stream)).put 2 (.int .i64 x.Data_Seq)).put 3 (.bool x.Data_First)).put 4 (.bool x.Data_Last)).put 5 (.bool x.Data_Unordered)).put 6 (.slice A9 x.Data_Piece.length c9)
    have B10 := bst (bst (bst (bst (bst (bst (bst (HB9.out) (p := ⟨d, 0, none⟩) (by rw [HD.out]; exact Nat.le_refl _) (.int .i64 x.Data_Tsn)) (p := ⟨d, 1, none⟩) (by rw [HD.out]; exact Nat.le_refl _) (.int .i64 x.Data_Stream)) (p := ⟨d, 2, none⟩) (by rw [HD.out]; exact Nat.le_refl _) (.int .i64 x.Data_Seq)) (p := ⟨d, 3, none⟩) (by rw [HD.out]; exact Nat.le_refl _) (.bool x.Data_First)) (p := ⟨d, 4, none⟩) (by rw [HD.out]; exact Nat.le_refl _) (.bool x.Data_Last)) (p := ⟨d, 5, none⟩) (by rw [HD.out]; exact Nat.le_refl _) (.bool x.Data_Unordered)) (p := ⟨d, 6, none⟩) (by rw [HD.out]; exact Nat.le_refl _) (.slice A9 x.Data_Piece.length c9)
    have s10 : ((((((((w9).setCell ⟨d, 0, none⟩ (.int .i64 x.Data_Tsn)).setCell ⟨d, 1, none⟩ (.int .i64 x.Data_Stream)).setCell ⟨d, 2, none⟩ (.int .i64 x.Data_Seq)).setCell ⟨d, 3, none⟩ (.bool x.Data_First)).setCell ⟨d, 4, none⟩ (.bool x.Data_Last)).setCell ⟨d, 5, none⟩ (.bool x.Data_Unordered)).setCell ⟨d, 6, none⟩ (.slice A9 x.Data_Piece.length c9)).heap.size = w9.heap.size := by simp [World.setCell]
    have hdB : d < W1.heap.size := by have := HS1.out; omega
    have o10 := own_monoT (own_keptT o9 (((((((set_win w9 d 0 (.int .i64 x.Data_Tsn)).trans (set_win _ d 1 (.int .i64 x.Data_Stream))).trans (set_win _ d 2 (.int .i64 x.Data_Seq))).trans (set_win _ d 3 (.bool x.Data_First))).trans (set_win _ d 4 (.bool x.Data_Last))).trans (set_win _ d 5 (.bool x.Data_Unordered))).trans (set_win _ d 6 (.slice A9 x.Data_Piece.length c9))) hdB) (show d + 1 ≤ W1.heap.size from hdB)
    obtain ⟨w10, hw10⟩ : ∃ W, (((((((w9).setCell ⟨d, 0, none⟩ (.int .i64 x.Data_Tsn)).setCell ⟨d, 1, none⟩ (.int .i64 x.Data_Stream)).setCell ⟨d, 2, none⟩ (.int .i64 x.Data_Seq)).setCell ⟨d, 3, none⟩ (.bool x.Data_First)).setCell ⟨d, 4, none⟩ (.bool x.Data_Last)).setCell ⟨d, 5, none⟩ (.bool x.Data_Unordered)).setCell ⟨d, 6, none⟩ (.slice A9 x.Data_Piece.length c9) = W := ⟨_, rfl⟩
    rw [hw10] at K10 B10 s10 o10
    have HW10 := hidH hw10
    have HK10 := hidH K10
    have HO10 := hidH o10
    have HB10 := hidH B10
    have HS10 := hidH s10
    have HS9 := hidH hsz9
    clear o9 hb9 hw10 o10 B10 s10 hdB R9 hsz9
    have hCt := HC.out.turn HB10.out
    have hbx := hCt.box
    have b3 := hbx.cell 3
    simp only [List.getElem?_toArray, List.getElem?_cons_succ, List.getElem?_cons_zero] at b3
    have gl := hbx.lt
    have q0 := K10.cell 0
    have q1 := K10.cell 1
    have q2 := K10.cell 2
    have q3 := K10.cell 3
    have q4 := K10.cell 4
    have q5 := K10.cell 5
    have q6 := K10.cell 6
    have q7 := K10.cell 7
    have q8 := K10.cell 8
    simp only [List.getElem?_toArray, List.getElem?_cons_succ, List.getElem?_cons_zero] at q0 q1 q2 q3 q4 q5 q6 q7 q8
    have kl := K10.lt
    have hAll := own_lenT hCt.its.row
    rw [take_lenJ (Nat.le_of_lt hlt)] at hAll
    obtain ⟨IA, ic, rfl⟩ := hAll
    have B11 := bal HB10.out (.cells #[.int .i64 x.Data_Tsn, .int .i64 x.Data_Stream, .int .i64 x.Data_Seq, .bool x.Data_First, .bool x.Data_Last, .bool x.Data_Unordered, .slice A9 x.Data_Piece.length c9, .int .i64 x.Sent, .int .i64 x.Due] 121)
    have K11 := Blk.new w10 121 #[.int .i64 x.Data_Tsn, .int .i64 x.Data_Stream, .int .i64 x.Data_Seq, .bool x.Data_First, .bool x.Data_Last, .bool x.Data_Unordered, .slice A9 x.Data_Piece.length c9, .int .i64 x.Sent, .int .i64 x.Due]
    have b11 := bal (Below.refl w10.heap.size w10) (.cells #[.int .i64 x.Data_Tsn, .int .i64 x.Data_Stream, .int .i64 x.Data_Seq, .bool x.Data_First, .bool x.Data_Last, .bool x.Data_Unordered, .slice A9 x.Data_Piece.length c9, .int .i64 x.Sent, .int .i64 x.Due] 121)
    have hC11 := HC.out.turn B11
    have o11 := own_below0 HO10.out b11
    have r11 := hC11.its.row
    rw [take_lenJ (Nat.le_of_lt hlt)] at r11
    have HB11 := hidH B11
    have HK11 := hidH K11
    have HO11 := hidH o11
    have HC11 := hidH hC11
    have HR11 := hidH r11
    have HSZ := hidH hC11.out.size
    have HJB := hidH (show j ≤ 90000 by have := HNN.out; omega)
    clear B11 K11 b11 hC11 o11 r11 hCt hbx K10
    go_upto_region 6 with (fail)
    rw [HW10.out]
    clear x0 f0 x1 f1 x2 f2 x3 f3 x4 f4 x5 f5 x6 f6 hdl
    go_wp2_with (at_builtin; go_loud (refine wpList_append_Si rfl _ _ Try.underlying45 rfl u0.heap.size _ j _ rfl HR11.out w10.heap.size _ x _ rfl rfl HK11.out HJB.out HSZ.out ?_))
    intro v2 w2 o2 hg _
    obtain ⟨A2', c2', rfl⟩ := own_lenT o2
    have HG := hidH hg
    have HO2 := hidH o2
    have hbg := HC11.out.box.grownT hg HR11.out (by decide)
    have e0 := hbg.cell 0
    have e1 := hbg.cell 1
    have e2 := hbg.cell 2
    have e3 := hbg.cell 3
    simp only [List.getElem?_toArray, List.getElem?_cons_succ, List.getElem?_cons_zero] at e0 e1 e2 e3
    have e3f := hbg.frozen 3
    have egl := hbg.lt
    clear hg o2 hbg q0 q1 q2 q3 q4 q5 q6 q7 q8 kl b3 gl
    obtain ⟨lo, hi, hlo, hrt⟩ := RT.of_row HO11.out (by have h1 := HB11.out.size; have h2 := HS9.out; have h3 := HS10.out; simp only [World.size_alloc]; omega) [.int x.Data_Tsn, .int x.Data_Stream, .int x.Data_Seq, .bool x.Data_First, .bool x.Data_Last, .bool x.Data_Unordered]
    have HN := hidH (CS10.app HC.out hlt HX.out HB11.out (v := .slice A9 x.Data_Piece.length c9) (lo := lo) (hi := hi) hrt (by have := HD.out; omega) HO2.out HG.out)
    clear hrt hlo HO11 HK11 HR11 HO2 HG HC11
    go_wp2
    go_roundw
    case rel => exact ⟨j + 1, _, _, by omega, by go_num, HN.out⟩
    case measure => simp [intOf]; omega
end Go.Proofs.Ythljdikcpdokdaa

/- Chapter 10: the program's TakeSack. (WRITTEN BY tools/sack10i.py) -/
namespace Go.Proofs.Ythljdikcpdokdaa
open Go.RowKit Go.Deep

set_option maxRecDepth 100000 in
set_option maxHeartbeats 2000000 in
theorem tk1_any (y : SendM) (k : SackM) (_ : SdOk y) (hk0 : ksF k = 0) (x : SendItemM) (_ : x ∈ y.Items) (gi oi gk go gp : Nat) (A2 A3 A : Option Addr) (c2 c3 c : Nat) (w : World) (hil : gi < w.heap.size) (hts : w.cell? ⟨gi, oi, none⟩ = some (.int .i64 x.Data_Tsn)) (HSB : Blk w go 47 #[.int .i64 y.Next, .int .i64 y.Acked, .slice A2 y.Seqs.length c2, .slice A3 y.Items.length c3]) (HKB : Blk w gk 31 #[.int .i64 k.Cum, .slice A k.Gaps.length c]) (HPB : Blk w gp 2 #[.int .i64 (gapV y.Acked k.Cum)]) (hG : Rd w (st_Gap k.Gaps) (.slice A k.Gaps.length c)) :
    Calls Try.prog 75 #[.pointer (some ⟨gi, oi, none⟩), .pointer (some ⟨gk, 0, none⟩), .pointer (some ⟨go, 0, none⟩), .pointer (some ⟨gp, 0, none⟩)] w (BolR (tkB y k x) w) := by
  have hgx := gapV_rng y.Acked x.Data_Tsn
  have hfx := gapV_rng y.Acked k.Cum
  have HRP := fun (W : World) (hW : Below w.heap.size w W) => reports_impl k.Cum (gapV y.Acked x.Data_Tsn - gapV y.Acked k.Cum) A c k.Gaps W (Rd.below hW _ hG) (ksF_zero hk0).2.1
  have HDI := fun (W : World) => dist10_impl y.Next y.Acked A2 A3 y.Seqs.length y.Items.length c2 c3 x.Data_Tsn W
  have hp : tkB y k x = camB k.Gaps (gapV y.Acked x.Data_Tsn - gapV y.Acked k.Cum) := rfl
  rw [← hp] at HRP
  obtain ⟨p, hpp⟩ : ∃ p, tkB y k x = p := ⟨_, rfl⟩
  obtain ⟨gx, hgx2⟩ : ∃ z, gapV y.Acked x.Data_Tsn = z := ⟨_, rfl⟩
  obtain ⟨fr, hfr⟩ : ∃ z, gapV y.Acked k.Cum = z := ⟨_, rfl⟩
  obtain ⟨ts, hts2⟩ : ∃ z, x.Data_Tsn = z := ⟨_, rfl⟩
  rw [hpp] at HRP ⊢
  rw [hgx2] at hgx HRP HDI
  rw [hfr] at hfx HRP HPB
  rw [hts2] at hts HDI
  have p0 := HPB.cell 0
  simp only [List.getElem?_toArray, List.getElem?_cons_zero] at p0
  have pl := HPB.lt
  clear hp hpp hgx2 hfr hts2 hG HPB hk0
  go_enter Try.func75, Try.ntmps75
  go_wp2_with fail
  refine wp_region_any (by kernel_rfl) ?_
  refine regTK1 _ _ w gi oi gk go gp y k A2 A3 A c2 c3 c ts gx fr p hil pl hts p0 HSB HKB hgx hfx HDI HRP (by kernel_rfl) (by kernel_rfl) (by kernel_rfl) rfl (Below.refl _ _).drew ?_
  intros
  rename_i W hO
  have HO := hidH hO
  clear hO HRP HDI HSB HKB
  go_wp2
  go_ret
  exact ⟨rfl, HO.out⟩
set_option maxRecDepth 100000 in
set_option maxHeartbeats 8000000 in
theorem take_any (P : SendItemM → Bool) (r : List SendItemM) (ks : List (Value × Nat × Nat)) (b gk go gp B0 B : Nat) (I : Value) (w : World) (hb : Blk w b 118 #[I]) (hI : SZ w B0 B I r ks) (hn : r.length ≤ 1000)
    (FT : ∀ (j : Nat) (hj : j < r.length) (gi : Nat) (W : World), Below w.heap.size w W → gi < W.heap.size → W.cell? ⟨gi, j * 9, none⟩ = some (.int .i64 r[j].Data_Tsn) → Calls Try.prog 75 #[.pointer (some ⟨gi, j * 9, none⟩), .pointer (some ⟨gk, 0, none⟩), .pointer (some ⟨go, 0, none⟩), .pointer (some ⟨gp, 0, none⟩)] W (BolR (P r[j]) W)) :
    Calls Try.prog 74 #[.pointer (some ⟨b, 0, none⟩), .func (.func 75) #[] #[.pointer (some ⟨gk, 0, none⟩), .pointer (some ⟨go, 0, none⟩), .pointer (some ⟨gp, 0, none⟩)]] w fun e w' =>
      ∃ (vT vL : Value) (kl kg : List (Value × Nat × Nat)), e = .returned vT ∧ Blk w' b 118 #[vL] ∧ w'.ownsRow w.heap.size 121 9 vL (r.filter (fun x => !P x)).length (flatF (RowI (r.filter (fun x => !P x)) kl)) ∧ w'.ownsRow w.heap.size 121 9 vT (r.filter P).length (flatF (RowI (r.filter P) kg)) ∧ LKp P r ks r.length kl kg ∧ Win b (b + 1) w w' := by
  obtain ⟨AI, cI, rfl⟩ := hI.shape
  have HI := hidH (fun (W : World) (hW : Below w.heap.size w W) => hI.below hW)
  have HB := hidH (fun (W : World) (hW : Below w.heap.size w W) => hb.below hW)
  have HKS := hidH hI.len
  have HNN := hidH hn
  have hnI : (r.length : Int) ≤ 1000 := by omega
  have HFT := hidH FT
  have b0 := hb.cell 0
  simp only [List.getElem?_toArray, List.getElem?_cons_zero] at b0
  have bl := hb.lt
  have BB := bal (bal (Below.refl w.heap.size w) (.cells #[.slice none 0 0] 118)) (.cells #[.slice none 0 0] 118)
  have KT := (Blk.new w 118 #[.slice none 0 0]).alloc (.cells #[.slice none 0 0] 118)
  have KL := Blk.new (w.alloc (.cells #[.slice none 0 0] 118)) 118 #[.slice none 0 0]
  rw [World.size_alloc] at KL
  obtain ⟨w1, hw1⟩ : ∃ W, (w.alloc (.cells #[.slice none 0 0] 118)).alloc (.cells #[.slice none 0 0] 118) = W := ⟨_, rfl⟩
  rw [hw1] at BB KT KL
  have HBB := hidH BB
  have HKT := hidH KT
  have HKL := hidH KL
  have HW1 := hidH hw1
  clear hb hI hn FT BB KT KL hw1
  go_enter Try.func74, Try.ntmps74
  go_wp2
  rw [HW1.out]
  go_loopw [13] (fun i wr => ∃ (j : Nat) (vT vL : Value) (kl kg : List (Value × Nat × Nat)), j ≤ r.length ∧ i = .int .i64 j ∧ Blk wr w.heap.size 118 #[vT] ∧ Blk wr (w.heap.size + 1) 118 #[vL] ∧ wr.ownsRow w.heap.size 121 9 vT (gnI P r j).length (flatF (RowI (gnI P r j) kg)) ∧ wr.ownsRow w.heap.size 121 9 vL (lfI P r j).length (flatF (RowI (lfI P r j) kl)) ∧ (∀ k, vT.ownBlock = some k → vL.ownBlock ≠ some k) ∧ LKp P r ks j kl kg ∧ Below w.heap.size w wr) (fun i _ => r.length - (intOf i).toNat)
  case atStart => exact ⟨0, .slice none 0 0, .slice none 0 0, [], [], by omega, rfl, HKT.out, HKL.out, ⟨rfl, .inl ⟨rfl, rfl⟩⟩, ⟨rfl, .inl ⟨rfl, rfl⟩⟩, (fun k h => by simp [Value.ownBlock] at h), LKp.start _ _ _, HBB.out⟩
  case round =>
    obtain ⟨j, vT, vL, kl, kg, hj, rfl, hT, hL, oT, oL, hne, hp, hBr⟩ := hrel
    obtain ⟨W, hW⟩ : ∃ W, wr = W := ⟨_, rfl⟩
    rw [hW] at hT hL oT oL hBr ⊢
    clear hW b0 bl
    have hBx := HB.out W hBr
    have b0 := hBx.cell 0
    have bf0 := hBx.frozen 0
    have bl := hBx.lt
    have t0 := hT.cell 0
    have l0 := hL.cell 0
    simp only [List.getElem?_toArray, List.getElem?_cons_zero] at b0 t0 l0
    have tl := hT.lt
    have ll := hL.lt
    have HT := hidH hT
    have HL := hidH hL
    have HOT := hidH oT
    have HOL := hidH oL
    have HNE := hidH hne
    have HP := hidH hp
    have HBR := hidH hBr
    have hbne : b ≠ w.heap.size ∧ b ≠ w.heap.size + 1 := by have := (HB.out w (Below.refl _ _)).lt; omega
    clear hBx hT hL oT oL hne hp
    by_cases hlt : j < r.length
    case neg =>
      obtain rfl : j = r.length := by omega
      obtain ⟨Al, cl, rfl⟩ := own_lenT HOL.out
      obtain ⟨At, ct, rfl⟩ := own_lenT HOT.out
      clear hlt hj hBr
      obtain ⟨nl, hnl⟩ : ∃ n, (lfI P r r.length).length = n := ⟨_, rfl⟩
      obtain ⟨ng, hng⟩ : ∃ n, (gnI P r r.length).length = n := ⟨_, rfl⟩
      have HNL := hidH hnl
      have HNG := hidH hng
      rw [hnl] at HOL HL l0
      rw [hng] at HOT HT t0
      clear hnl hng
      go_wp2
      go_ret
      have hBx := HB.out W HBR.out
      have W1 := set_win W b 0 (.slice Al nl cl)
      have O1 := own_farT HOL.out hBx (by decide) 0 (.slice Al nl cl)
      have O2 := own_farT HOT.out hBx (by decide) 0 (.slice Al nl cl)
      have e1 := lfI_all P r
      have e2 := gnI_all P r
      have n1 : (r.filter (fun x => !P x)).length = nl := by rw [← e1]; exact HNL.out
      have n2 : (r.filter P).length = ng := by rw [← e2]; exact HNG.out
      rw [e1] at O1
      rw [e2] at O2
      exact ⟨.slice At ng ct, .slice Al nl cl, kl, kg, rfl, hBx.put 0 _, by rw [n1]; exact O1, by rw [n2]; exact O2, HP.out, (winOfBelow HBR.out).trans W1⟩
    have hj0 : (0 : Int) ≤ (j : Int) := by omega
    have hj1 : (j : Int) < (r.length : Int) := by omega
    obtain ⟨gi, ci, A9, n9, c9, eI, _, hgi, ⟨kj, hkj, e9⟩, hcell⟩ := (HI.out W hBr).cell9 hlt
    injection eI with eI _ eC
    subst eI eC
    have d0 := hcell 0 _ rfl
    rw [Nat.add_zero] at d0
    have HF := hidH (HFT.out j hlt gi W hBr hgi (by simpa [scs] using d0))
    obtain ⟨x, hx⟩ : ∃ x, r[j] = x := ⟨_, rfl⟩
    rw [hx] at hcell d0 HF
    have HX := hidH hx
    have HKJ := hidH hkj
    have HE9 := hidH e9
    have HC9 := hidH (fun (u : World) (hu : Below W.heap.size W u) (t : Nat) (v : Value) (h : (scs x (.slice A9 n9 c9))[t]? = some v) => (hu.cell (p := ⟨gi, j * 9 + t, none⟩) hgi).trans (hcell t v h))
    obtain ⟨p, hp⟩ : ∃ p, P x = p := ⟨_, rfl⟩
    rw [hp] at HF
    have HPX := hidH hp
    clear hcell hkj e9 hx hp hj
    go_wp2_with fail
    refine HF.out.mono ?_
    rintro e wf ⟨rfl, bf⟩
    have HBF := hidH (btr HBR.out bf)
    replace HT := hidH (HT.out.below bf)
    replace HL := hidH (HL.out.below bf)
    replace HOT := hidH (own_below0 HOT.out bf)
    replace HOL := hidH (own_below0 HOL.out bf)
    replace HC9 := hidH (fun (t : Nat) (v : Value) (h : (scs x (.slice A9 n9 c9))[t]? = some v) => HC9.out wf bf t v h)
    clear b0 bf0 t0 l0 tl ll bl d0
    have hgf := Nat.lt_of_lt_of_le hgi bf.size
    have d0 := HC9.out 0 _ rfl
    have d1 := HC9.out 1 _ rfl
    have d2 := HC9.out 2 _ rfl
    have d3 := HC9.out 3 _ rfl
    have d4 := HC9.out 4 _ rfl
    have d5 := HC9.out 5 _ rfl
    have d6 := HC9.out 6 _ rfl
    have d7 := HC9.out 7 _ rfl
    have d8 := HC9.out 8 _ rfl
    rw [Nat.add_zero] at d0
    have HGI := hidH hgf
    clear bf HF hgi
    have hnl : (lfI P r j).length ≤ 1000 := by have := List.length_filter_le (fun x => !P x) (r.take j); have h3 := HNN.out; unfold lfI; rw [List.length_take] at this; omega
    have hng : (gnI P r j).length ≤ 1000 := by have := List.length_filter_le P (r.take j); have h3 := HNN.out; unfold gnI; rw [List.length_take] at this; omega
    have hsw := HBF.out.size
    cases p
    · have HQ := hidH (qadd_any (w.heap.size + 1) vL w.heap.size (lfI P r j).length _ x A9 n9 c9 wf HL.out HOL.out (by omega) hsw)
      clear hnl hng hsw
      go_wp2_with fail
      clear d0 d1 d2 d3 d4 d5 d6 d7 d8 hgf
      refine HQ.out.mono ?_
      rintro e w3 ⟨rfl, v', hbl, hol, hkp, hob⟩
      have OT := hkp.row HOT.out (fun g h => ⟨fun e => by subst e; have := own_block HOT.out h; obtain ⟨_, _, cs, e2⟩ := this; exact blk_ne HL.out e2 (by decide), HNE.out g h⟩)
      have KT := hkp.blk HT.out (by omega) (fun e => by have := own_block HOL.out e; obtain ⟨_, _, cs, e2⟩ := this; exact blk_ne HT.out e2 (by decide))
      have BN := HBF.out.trans (hkp.below (B := w.heap.size) (by omega) (fun g h => (own_block HOL.out h).1) HBF.out.size)
      have NE : ∀ g, vT.ownBlock = some g → v'.ownBlock ≠ some g := fun g h q => by
        rcases hob with e | ⟨g2, e, e2⟩
        · exact HNE.out g h (by rw [← e]; exact q)
        · rw [q] at e; injection e with e; have := (own_block HOT.out h).2.1; omega
      have H3 := hidH (And.intro hbl (And.intro hol (And.intro OT (And.intro KT (And.intro BN NE)))))
      clear hbl hol hkp hob OT KT BN NE HQ
      go_wp2
      go_roundw
      case rel =>
        have hpx : P r[j] = false := by rw [HX.out]; exact HPX.out
        have hn := HP.out.left hlt HKS.out hpx
        have hkk : (ks[j]'(by rw [HKS.out]; exact hlt)) = kj := by have := HKJ.out; rw [List.getElem?_eq_getElem (by rw [HKS.out]; exact hlt)] at this; injection this
        rw [hkk] at hn
        refine ⟨j + 1, vT, v', _, _, by omega, by go_num, H3.out.2.2.2.1, H3.out.1, ?_, ?_, H3.out.2.2.2.2.2, hn, H3.out.2.2.2.2.1⟩
        · rw [gnI_no hlt hpx]; exact H3.out.2.2.1
        · rw [lfI_yes hlt hpx, List.length_append, RowI.snoc HP.out.ll, flatF_app, HE9.out, HX.out]
          simpa [flatF, siE_cs] using H3.out.2.1
      case measure => simp [intOf]; omega
    · have HQ := hidH (qadd_any w.heap.size vT w.heap.size (gnI P r j).length _ x A9 n9 c9 wf HT.out HOT.out (by omega) hsw)
      clear hnl hng hsw
      go_wp2_with fail
      clear d0 d1 d2 d3 d4 d5 d6 d7 d8 hgf
      refine HQ.out.mono ?_
      rintro e w3 ⟨rfl, v', hbl, hol, hkp, hob⟩
      have OT := hkp.row HOL.out (fun g h => ⟨fun e => by subst e; have := own_block HOL.out h; obtain ⟨_, _, cs, e2⟩ := this; exact blk_ne HT.out e2 (by decide), fun q => HNE.out g q h⟩)
      have KT := hkp.blk HL.out (by omega) (fun e => by have := own_block HOT.out e; obtain ⟨_, _, cs, e2⟩ := this; exact blk_ne HL.out e2 (by decide))
      have BN := HBF.out.trans (hkp.below (B := w.heap.size) (Nat.le_refl _) (fun g h => (own_block HOT.out h).1) HBF.out.size)
      have NE : ∀ g, v'.ownBlock = some g → vL.ownBlock ≠ some g := fun g q h => by
        rcases hob with e | ⟨g2, e, e2⟩
        · exact HNE.out g (by rw [← e]; exact q) h
        · rw [q] at e; injection e with e; have := (own_block HOL.out h).2.1; omega
      have H3 := hidH (And.intro hbl (And.intro hol (And.intro OT (And.intro KT (And.intro BN NE)))))
      clear hbl hol hkp hob OT KT BN NE HQ
      go_wp2
      go_roundw
      case rel =>
        have hpx : P r[j] = true := by rw [HX.out]; exact HPX.out
        have hn := HP.out.gone hlt HKS.out hpx
        have hkk : (ks[j]'(by rw [HKS.out]; exact hlt)) = kj := by have := HKJ.out; rw [List.getElem?_eq_getElem (by rw [HKS.out]; exact hlt)] at this; injection this
        rw [hkk] at hn
        refine ⟨j + 1, v', vL, _, _, by omega, by go_num, H3.out.1, H3.out.2.2.2.1, ?_, ?_, H3.out.2.2.2.2.2, hn, H3.out.2.2.2.2.1⟩
        · rw [gnI_yes hlt hpx, List.length_append, RowI.snoc HP.out.lg, flatF_app, HE9.out, HX.out]
          simpa [flatF, siE_cs] using H3.out.2.1
        · rw [lfI_no hlt hpx]; exact H3.out.2.2.1
      case measure => simp [intOf]; omega
end Go.Proofs.Ythljdikcpdokdaa
