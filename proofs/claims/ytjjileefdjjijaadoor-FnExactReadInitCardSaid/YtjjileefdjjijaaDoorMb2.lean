import Derived.Test.YtjjileefdjjijaaDoorMb1
import Derived.Handy

/- The program's Data: emptyChunk, packContent. -/
namespace Go.Proofs.YtjjileefdjjijaaDoor
open Go.RowKit Go.Deep

set_option maxRecDepth 100000 in
set_option maxHeartbeats 2000000 in
theorem emptyD_any (y : DataM) (A6 : Option Addr) (c6 : Nat) (w : World) :
    Calls Tryd.prog 103 #[.iface 25 (.agg #[.int .i64 y.Tsn, .int .i64 y.Stream, .int .i64 y.Seq, .bool y.First, .bool y.Last, .bool y.Unordered, .slice A6 y.Piece.length c6])] w fun e w' => ∃ kk ff : Int, e = .returned (.agg #[.int .i64 kk, .int .i64 ff, .slice none 0 0]) ∧ kk = (pdC y).Kind ∧ ff = (pdC y).Flags ∧ Below w.heap.size w w' := by
  have HF := hidH (fun u : World => flags_impl y.Tsn y.Stream y.Seq y.First y.Last y.Unordered (.slice A6 y.Piece.length c6) u)
  have tD := fun u => taDD (.agg #[.int .i64 y.Tsn, .int .i64 y.Stream, .int .i64 y.Seq, .bool y.First, .bool y.Last, .bool y.Unordered, .slice A6 y.Piece.length c6]) u
  go_enter Tryd.func103, Tryd.ntmps103
  have K1 := (Blk.new w 28 #[.int .i64 0, .int .i64 0, .slice none 0 0]).alloc (.cells #[.int .i64 0, .int .i64 0, .slice none 0 0] 28)
  have K2 := Blk.new (w.alloc (.cells #[.int .i64 0, .int .i64 0, .slice none 0 0] 28)) 28 #[.int .i64 0, .int .i64 0, .slice none 0 0]
  have B2 := bal (bal (Below.refl w.heap.size w) (.cells #[.int .i64 0, .int .i64 0, .slice none 0 0] 28)) (.cells #[.int .i64 0, .int .i64 0, .slice none 0 0] 28)
  rw [World.size_alloc] at K2
  obtain ⟨w2, hw2⟩ : ∃ w2, (w.alloc (.cells #[.int .i64 0, .int .i64 0, .slice none 0 0] 28)).alloc (.cells #[.int .i64 0, .int .i64 0, .slice none 0 0] 28) = w2 := ⟨_, rfl⟩
  rw [hw2] at K1 K2 B2
  have K1 := K1.alloc (.cells #[.int .i64 y.Tsn, .int .i64 y.Stream, .int .i64 y.Seq, .bool y.First, .bool y.Last, .bool y.Unordered, .slice A6 y.Piece.length c6] 25)
  have K2 := K2.alloc (.cells #[.int .i64 y.Tsn, .int .i64 y.Stream, .int .i64 y.Seq, .bool y.First, .bool y.Last, .bool y.Unordered, .slice A6 y.Piece.length c6] 25)
  have B2 := bal B2 (.cells #[.int .i64 y.Tsn, .int .i64 y.Stream, .int .i64 y.Seq, .bool y.First, .bool y.Last, .bool y.Unordered, .slice A6 y.Piece.length c6] 25)
  go_wp2_with fail
  refine (HF.out _).mono ?_
  rintro e w3 ⟨rfl, h3⟩
  have hb3 : Below (w2.alloc (.cells #[.int .i64 y.Tsn, .int .i64 y.Stream, .int .i64 y.Seq, .bool y.First, .bool y.Last, .bool y.Unordered, .slice A6 y.Piece.length c6] 25)).heap.size (w2.alloc (.cells #[.int .i64 y.Tsn, .int .i64 y.Stream, .int .i64 y.Seq, .bool y.First, .bool y.Last, .bool y.Unordered, .slice A6 y.Piece.length c6] 25)) w3 := by rw [← h3]; exact bal (Below.refl _ _) _
  have K1 := K1.below hb3
  have K2 := K2.below hb3
  have HB := hidH (btr B2 hb3)
  have x0 := K1.cell 0
  have x1 := K1.cell 1
  have x2 := K1.cell 2
  have f0 := K1.frozen 0
  have f1 := K1.frozen 1
  have f2 := K1.frozen 2
  have y0 := K2.cell 0
  have y1 := K2.cell 1
  have y2 := K2.cell 2
  have g0 := K2.frozen 0
  have g1 := K2.frozen 1
  have g2 := K2.frozen 2
  simp only [List.getElem?_toArray, List.getElem?_cons_succ, List.getElem?_cons_zero] at x0 x1 x2 y0 y1 y2
  have l1 := K1.lt
  have l2 := K2.lt
  clear h3 hb3 K1 K2 B2 HF hw2 tD
  go_wp2
  exact bodyPost_ret (v := .agg #[.int .i64 0, .int .i64 (bitN y.Last 1 + bitN y.First 2 + bitN y.Unordered 4), .slice none 0 0]) (by simp [results, Tryd.results103, go_sem, x0, x1, x2]) rfl ⟨_, _, rfl, rfl, rfl, bst (bst (bst (bst (bst HB.out (Nat.le_succ _) _) (Nat.le_succ _) _) (Nat.le_refl _) _) (Nat.le_refl _) _) (Nat.le_refl _) _⟩
set_option maxRecDepth 100000 in
set_option maxHeartbeats 4000000 in
theorem pcD_any (y : DataM) (A6 : Option Addr) (c6 : Nat) (w : World) (h : RdA w y.vs [.int .i64 y.Tsn, .int .i64 y.Stream, .int .i64 y.Seq, .bool y.First, .bool y.Last, .bool y.Unordered, .slice A6 y.Piece.length c6]) :
    Calls Tryd.prog 59 #[.iface 25 (.agg #[.int .i64 y.Tsn, .int .i64 y.Stream, .int .i64 y.Seq, .bool y.First, .bool y.Last, .bool y.Unordered, .slice A6 y.Piece.length c6])] w (Res w (pdR y).vs) := by
  have K1 := Blk.new w 30 #[.int .i64 0, .int .i64 0, .int .i64 0, .slice none 0 0]
  have B1 := bal (Below.refl w.heap.size w) (.cells #[.int .i64 0, .int .i64 0, .int .i64 0, .slice none 0 0] 30)
  obtain ⟨w1, hw1⟩ : ∃ w1, w.alloc (.cells #[.int .i64 0, .int .i64 0, .int .i64 0, .slice none 0 0] 30) = w1 := ⟨_, rfl⟩
  rw [hw1] at K1 B1
  have HF := hidH (pdF_impl y [.int .i64 y.Tsn, .int .i64 y.Stream, .int .i64 y.Seq, .bool y.First, .bool y.Last, .bool y.Unordered, .slice A6 y.Piece.length c6] w1 (RdA.below B1 h))
  have HRD := hidH h
  have HT := hidH (And.intro K1 B1)
  clear h K1 B1
  go_enter Tryd.func59, Tryd.ntmps59
  go_wp2_with fail
  refine HF.out.mono ?_
  rintro e w3 ⟨rfl, b3⟩
  replace HT := hidH (And.intro (HT.out.1.below b3) (btr HT.out.2 b3))
  clear HF b3 hw1
  by_cases hz : pdF y = 0
  · have HZ := hidH hz
    rw [hz]
    have KR := Blk.new w3 148 #[.slice none 0 0]
    have B4 := bal (Below.refl w3.heap.size w3) (.cells #[.slice none 0 0] 148)
    obtain ⟨w4, hw4⟩ : ∃ w4, w3.alloc (.cells #[.slice none 0 0] 148) = w4 := ⟨_, rfl⟩
    rw [hw4] at KR B4
    have hRl := HT.out.1.lt
    have HW := hidH (pdW_impl w3.heap.size y A6 c6 w w4 HRD.out (btr HT.out.2 B4) HT.out.2.size (wr_nil KR) hz)
    unfold Wrote at HW
    obtain ⟨L, hL⟩ : ∃ L, (pdC y).Body = L := ⟨_, rfl⟩
    rw [hL] at HW
    have HL := hidH hL
    replace HT := hidH (And.intro (HT.out.1.below B4) (btr HT.out.2 B4))
    have HR := hidH hRl
    clear hz KR B4 hRl hL
    go_wp2_with fail
    refine HW.out.mono ?_
    rintro e w5 ⟨rfl, hw, hb, _⟩
    replace HT := hidH (And.intro (show Blk w5 w.heap.size 30 _ from (hb.block _ HR.out).trans HT.out.1) (HT.out.2.trans (hb.mono (Nat.le_of_lt HR.out))))
    have HE := hidH (emptyD_any y A6 c6 w5)
    have HWR := hidH hw
    clear HW hw hb hw4
    go_wp2_with fail
    refine HE.out.mono ?_
    rintro e w6 ⟨kk, ff, rfl, hkk, hff, b6⟩
    have HKF := hidH (And.intro hkk hff)
    clear hkk hff
    obtain ⟨v, KW, OW⟩ := HWR.out.below b6
    obtain ⟨A9, c9, e9, ob9, k9, m9⟩ := own_ob OW
    subst e9
    have hs6 := KW.lt
    have K6 := HT.out.1.below b6
    have HB6 := hidH (HT.out.2.trans (b6.mono HT.out.2.size))
    have B7 := bal (Below.refl w6.heap.size w6) (.cells #[.int .i64 kk, .int .i64 ff, .slice none 0 0] 28)
    have K7 := Blk.new w6 28 #[.int .i64 kk, .int .i64 ff, .slice none 0 0]
    have KW7 := KW.below B7
    have KR7 := K6.below B7
    obtain ⟨n9, hn9⟩ : ∃ n, L.length = n := ⟨_, rfl⟩
    have HOB := hidH (show OwV (w3.heap.size + 1) w6.heap.size (w6.alloc (.cells #[.int .i64 kk, .int .i64 ff, .slice none 0 0] 28)) (.bs L) (.slice A9 n9 c9) by rw [← hn9]; exact (ob9.owv (Nat.le_refl _) ⟨k9, m9⟩).below B7)
    rw [hn9] at KW7
    have x0 := KR7.cell 0
    have x1 := KR7.cell 1
    have x2 := KR7.cell 2
    have x3 := KR7.cell 3
    have f0 := KR7.frozen 0
    have f1 := KR7.frozen 1
    have f2 := KR7.frozen 2
    have f3 := KR7.frozen 3
    have y0 := K7.cell 0
    have y1 := K7.cell 1
    have y2 := K7.cell 2
    have g2 := K7.frozen 2
    have z0 := KW7.cell 0
    simp only [List.getElem?_toArray, List.getElem?_cons_succ, List.getElem?_cons_zero] at x0 x1 x2 x3 y0 y1 y2 z0
    have l1 := KR7.lt
    have l2 := K7.lt
    have l3 := KW7.lt
    have HB7 := hidH (btr HB6.out B7)
    obtain ⟨w7, hw7⟩ : ∃ w7, w6.alloc (.cells #[.int .i64 kk, .int .i64 ff, .slice none 0 0] 28) = w7 := ⟨_, rfl⟩
    rw [hw7] at x0 x1 x2 x3 f0 f1 f2 f3 y0 y1 y2 g2 z0 l1 l2 l3 HB7 HOB
    have HS := hidH (And.intro hs6 (And.intro K6.lt HR.out))
    have ne1 : w.heap.size ≠ w6.heap.size := by have := K6.lt; omega
    have ne2 : w3.heap.size ≠ w6.heap.size := by omega
    have ne3 : w3.heap.size ≠ w.heap.size := by have := HR.out; omega
    clear HE HWR b6 KW OW ob9 k9 m9 hs6 K6 B7 K7 KW7 KR7 hn9 HB6
    go_wp2
    have hle : w.heap.size ≤ w6.heap.size := by have := HS.out; omega
    exact bodyPost_ret (v := .agg #[.int .i64 0, .int .i64 kk, .int .i64 ff, .slice A9 n9 c9]) (by simp [results, Tryd.results59, go_sem, x0, x1, x2, x3]) rfl ⟨_, rfl, by
      have e : (pdR y).vs = [.int 0, .int kk, .int ff, .bs L] := by rw [pdR, crOf, if_pos HZ.out, ← HL.out, HKF.out.1, HKF.out.2]; rfl
      rw [e]
      refine OwN.int 0 (OwN.int _ (OwN.int _ ((OwN.cons (B := w3.heap.size + 1) (C := w6.heap.size) (D := w6.heap.size) ?_ (OwN.nil (by simp [World.setCell]; omega)) (by have := HS.out; omega) (Nat.le_refl _)).mono (by have := HS.out; omega) (by simp [World.setCell]; omega) (Nat.le_refl _))))
      iterate 4 (refine OwV.win (B' := w.heap.size) (C' := w.heap.size + 1) ?_ (set_win _ _ _ _) (.inr (by have := HS.out; omega)))
      repeat (refine OwV.win (B' := w6.heap.size) (C' := w6.heap.size + 1) ?_ (set_win _ _ _ _) (.inl (Nat.le_refl _)))
      exact HOB.out, by
      repeat (refine bst ?_ (by first | exact Nat.le_refl _ | exact hle) _)
      exact HB7.out⟩
  · have hne : (pdF y != 0) = true := by rw [bne_iff_ne]; exact hz
    have HZ := hidH hz
    obtain ⟨F, hF⟩ : ∃ F, pdF y = F := ⟨_, rfl⟩
    have HEQ := hidH hF
    rw [hF] at hne ⊢
    have x0 := HT.out.1.cell 0
    have x1 := HT.out.1.cell 1
    have x2 := HT.out.1.cell 2
    have x3 := HT.out.1.cell 3
    simp only [List.getElem?_toArray, List.getElem?_cons_succ, List.getElem?_cons_zero] at x0 x1 x2 x3
    have f0 := HT.out.1.frozen 0
    have f1 := HT.out.1.frozen 1
    have f2 := HT.out.1.frozen 2
    have f3 := HT.out.1.frozen 3
    have hr := HT.out.1.lt
    clear hz hF
    go_wp2
    exact bodyPost_ret (v := .agg #[.int .i64 F, .int .i64 0, .int .i64 0, .slice none 0 0]) (by simp [results, Tryd.results59, go_sem, x0, x1, x2, x3]) rfl ⟨_, rfl, by
      have e : (pdR y).vs = [.int F, .int 0, .int 0, .bs []] := by rw [pdR, crOf, if_neg HZ.out, HEQ.out]; rfl
      rw [e]
      exact (OwN.int F (OwN.int 0 (OwN.int 0 (OwN.empty _ (Nat.le_refl _))))), bst (bst (bst (bst HT.out.2 (Nat.le_refl _) _) (Nat.le_refl _) _) (Nat.le_refl _) _) (Nat.le_refl _) _⟩
set_option maxRecDepth 100000 in
set_option maxHeartbeats 2000000 in
theorem pd_impl (y : DataM) (vs : List Value) (u : World) (h : RdA u y.vs vs) (_ : WfA y.vs) (_ : tot.totL y.vs ≤ 1048576) : Calls Tryd.prog 11 #[.agg vs.toArray] u (Res u (pdR y).vs) := by
  obtain ⟨A6, c6, rfl⟩ := shape_Data h
  have K1 := (Blk.new u 25 #[.int .i64 y.Tsn, .int .i64 y.Stream, .int .i64 y.Seq, .bool y.First, .bool y.Last, .bool y.Unordered, .slice A6 y.Piece.length c6]).alloc (.cells #[.int .i64 0, .int .i64 0, .int .i64 0, .slice none 0 0] 30)
  have R1 := Blk.new (u.alloc (.cells #[.int .i64 y.Tsn, .int .i64 y.Stream, .int .i64 y.Seq, .bool y.First, .bool y.Last, .bool y.Unordered, .slice A6 y.Piece.length c6] 25)) 30 #[.int .i64 0, .int .i64 0, .int .i64 0, .slice none 0 0]
  have B1 := bal (bal (Below.refl u.heap.size u) (.cells #[.int .i64 y.Tsn, .int .i64 y.Stream, .int .i64 y.Seq, .bool y.First, .bool y.Last, .bool y.Unordered, .slice A6 y.Piece.length c6] 25)) (.cells #[.int .i64 0, .int .i64 0, .int .i64 0, .slice none 0 0] 30)
  rw [World.size_alloc] at R1
  obtain ⟨w1, hw1⟩ : ∃ w1, (u.alloc (.cells #[.int .i64 y.Tsn, .int .i64 y.Stream, .int .i64 y.Seq, .bool y.First, .bool y.Last, .bool y.Unordered, .slice A6 y.Piece.length c6] 25)).alloc (.cells #[.int .i64 0, .int .i64 0, .int .i64 0, .slice none 0 0] 30) = w1 := ⟨_, rfl⟩
  rw [hw1] at K1 R1 B1
  have HC := hidH (pcD_any y A6 c6 w1 (RdA.below B1 h))
  have HT := hidH (And.intro R1 B1)
  have k0 := K1.cell 0
  have k1 := K1.cell 1
  have k2 := K1.cell 2
  have k3 := K1.cell 3
  have k4 := K1.cell 4
  have k5 := K1.cell 5
  have k6 := K1.cell 6
  simp only [List.getElem?_toArray, List.getElem?_cons_succ, List.getElem?_cons_zero] at k0 k1 k2 k3 k4 k5 k6
  have hlt := K1.lt
  obtain ⟨z, hz⟩ : ∃ z, pdR y = z := ⟨_, rfl⟩
  rw [hz] at HC ⊢
  clear h K1 R1 B1 hz
  go_enter Tryd.func11, Tryd.ntmps11
  go_wp2_with fail
  refine HC.out.mono ?_
  rintro e w3 ⟨vs, rfl, O3, b3⟩
  obtain ⟨A9, c9, rfl⟩ := shape_ChunkResult O3.rd
  have R4 := HT.out.1.below b3
  have x0 := R4.cell 0
  have x1 := R4.cell 1
  have x2 := R4.cell 2
  have x3 := R4.cell 3
  have f0 := R4.frozen 0
  have f1 := R4.frozen 1
  have f2 := R4.frozen 2
  have f3 := R4.frozen 3
  simp only [List.getElem?_toArray, List.getElem?_cons_succ, List.getElem?_cons_zero] at x0 x1 x2 x3
  have hr := R4.lt
  have hr1 := HT.out.1.lt
  have HO := hidH O3
  have HB := hidH (btr HT.out.2 b3)
  clear HC O3 b3 R4 k0 k1 k2 k3 k4 k5 k6 hlt
  go_wp2
  have PF : ∀ a b c' e : Value, OwN u.heap.size ((((w3.setCell ⟨u.heap.size + 1, 0, none⟩ a).setCell ⟨u.heap.size + 1, 1, none⟩ b).setCell ⟨u.heap.size + 1, 2, none⟩ c').setCell ⟨u.heap.size + 1, 3, none⟩ e).heap.size ((((w3.setCell ⟨u.heap.size + 1, 0, none⟩ a).setCell ⟨u.heap.size + 1, 1, none⟩ b).setCell ⟨u.heap.size + 1, 2, none⟩ c').setCell ⟨u.heap.size + 1, 3, none⟩ e) z.vs _ := fun a b c' e =>
    ((((HO.out.win (set_win _ (u.heap.size + 1) 0 a) (.inr (by omega))).win (set_win _ (u.heap.size + 1) 1 b) (.inr (by omega))).win (set_win _ (u.heap.size + 1) 2 c') (.inr (by omega))).win (set_win _ (u.heap.size + 1) 3 e) (.inr (by omega))).mono (by omega) (by simp [World.setCell]) (Nat.le_refl _)
  exact bodyPost_ret (v := .agg #[.int .i64 z.Code, .int .i64 z.Chunk_Kind, .int .i64 z.Chunk_Flags, .slice A9 z.Chunk_Body.length c9]) (by simp [results, Tryd.results11, go_sem, x0, x1, x2, x3]) rfl ⟨_, rfl, PF _ _ _ _, bst (bst (bst (bst HB.out (Nat.le_succ _) _) (Nat.le_succ _) _) (Nat.le_succ _) _) (Nat.le_succ _) _⟩
end Go.Proofs.YtjjileefdjjijaaDoor

/- The program's Sack: fault. -/
namespace Go.Proofs.YtjjileefdjjijaaDoor
open Go.RowKit Go.Deep

set_option maxRecDepth 100000 in
set_option maxHeartbeats 8000000 in
theorem ksF_impl (y : SackM) (vs : List Value) (w : World) (h : RdA w y.vs vs) :
    Calls Tryd.prog 168 #[.agg vs.toArray] w fun e w' => e = .returned (.int .i64 (ksF y)) ∧ Below w.heap.size w w' := by
  obtain ⟨A, c, rfl⟩ := shape_Sack h
  have h' : RdA w [.int y.Cum, st_Gap y.Gaps] _ := h
  have hA := h'.tl.hd
  have hm : (y.Gaps.length : Int) ≤ 9223372036854775807 := Rd.st_len hA
  have K1 := Blk.new w 34 #[.int .i64 y.Cum, .slice A y.Gaps.length c]
  have B1 := bal (Below.refl w.heap.size w) (.cells #[.int .i64 y.Cum, .slice A y.Gaps.length c] 34)
  obtain ⟨w1, hw1⟩ : ∃ w1, w.alloc (.cells #[.int .i64 y.Cum, .slice A y.Gaps.length c] 34) = w1 := ⟨_, rfl⟩
  rw [hw1] at K1 B1
  have k0 := K1.cell 0
  have k1 := K1.cell 1
  simp only [List.getElem?_toArray, List.getElem?_cons_succ, List.getElem?_cons_zero] at k0 k1
  have hk := K1.lt
  have HI := hidH hA
  have HB := hidH B1
  clear h h' hA K1 B1
  by_cases h1 : wB y.Cum = true
  · by_cases h5 : 20 < y.Gaps.length
    · have e : ksF y = 2 := by simp only [ksF, h1, if_true]; rw [if_neg (by omega)]
      have h5' : (20 : Int) < (y.Gaps.length : Int) := by omega
      rw [e]
      clear e h5
      go_enter Tryd.func168, Tryd.ntmps168
      go_wp2_with (first | (go_at_call 161; refine (isWord_any _ _).mono ?_; rintro e w' ⟨rfl, rfl⟩))
      go_ret
      exact ⟨rfl, HB.out⟩
    · have h5' : ¬ (20 : Int) < (y.Gaps.length : Int) := by omega
      have e0 : ksF y = if okGaps 0 y.Gaps then 0 else 1 := by simp only [ksF, h1, if_true]; rw [if_pos (by omega)]
      have HE := hidH e0
      clear e0 h5
      go_enter Tryd.func168, Tryd.ntmps168
      go_wp2_with (first | (go_at_call 161; refine (isWord_any _ _).mono ?_; rintro e w' ⟨rfl, rfl⟩))
      go_loopw [3, 17] (fun t i wr => ∃ (j : Nat) (a : Int), j ≤ y.Gaps.length ∧ t = .int .i64 a ∧ i = .int .i64 j ∧ Below w.heap.size w wr ∧ 0 ≤ a ∧ a ≤ 65535 ∧ okGaps a (y.Gaps.drop j) = okGaps 0 y.Gaps) (fun _ i _ => y.Gaps.length - (intOf i).toNat)
      case atStart => exact ⟨0, 0, by omega, rfl, rfl, HB.out, by omega, by omega, by simp⟩
      case round =>
        obtain ⟨j, a, hj, rfl, rfl, hB, ha0, ha1, hk2⟩ := hrel
        by_cases hlt : j < y.Gaps.length
        · have hj0 : (0 : Int) ≤ (j : Int) := by omega
          have hj1 : (j : Int) < (y.Gaps.length : Int) := by omega
          obtain ⟨gb, ob, cb, eb, hgb, RB⟩ := Rd.row (f := GapM.vs) (W := 2) (fun _ => rfl) (Rd.below hB _ HI.out) hlt
          injection eb with eb1 eb2 eb3
          subst eb1 eb3
          obtain ⟨u0, p0, t0⟩ := RB 0 (.int y.Gaps[j].From) rfl
          obtain ⟨u1, p1, t1⟩ := RB 1 (.int y.Gaps[j].To) rfl
          have e0 := t0.int_out
          have e1 := t1.int_out
          subst e0 e1
          rw [Nat.add_zero] at p0
          obtain ⟨fr, hfr⟩ : ∃ k, y.Gaps[j].From = k := ⟨_, rfl⟩
          obtain ⟨tt, htt⟩ : ∃ k, y.Gaps[j].To = k := ⟨_, rfl⟩
          have HD := hidH (show okGaps 0 y.Gaps = (inB fr 2 tt && inB tt 2 65535 && decide (a + 1 < fr) && okGaps tt (y.Gaps.drop (j + 1))) by rw [← hk2, List.drop_eq_getElem_cons hlt, okGaps_cons, hfr, htt])
          rw [hfr] at p0
          rw [htt] at p1
          have HBW := hidH (bal hB (.cells #[.int .i64 fr, .int .i64 tt] 52))
          clear RB t0 t1 hk2 hfr htt hB
          by_cases c4 : fr ≤ a + 1
          · have HNO := hidH (show ksF y = 1 by rw [HE.out, HD.out, decide_eq_false (show ¬ a + 1 < fr by omega), Bool.and_false]; rfl)
            go_wp2
            go_ret
            exact ⟨ret_int HNO.out.symm, HBW.out⟩
          · by_cases c2 : tt < fr
            · have HNO := hidH (show ksF y = 1 by rw [HE.out, HD.out, inB_hi c2]; rfl)
              go_wp2
              go_ret
              exact ⟨ret_int HNO.out.symm, HBW.out⟩
            · by_cases c3 : 65535 < tt
              · have HNO := hidH (show ksF y = 1 by rw [HE.out, HD.out, inB_hi c3, Bool.and_false]; rfl)
                go_wp2
                go_ret
                exact ⟨ret_int HNO.out.symm, HBW.out⟩
              · have HY := hidH (show okGaps tt (y.Gaps.drop (j + 1)) = okGaps 0 y.Gaps by rw [HD.out, inB_yes (by omega) (by omega), inB_yes (by omega) (by omega), decide_eq_true (show a + 1 < fr by omega)]; rfl)
                go_wp2
                go_roundw
                case rel => exact ⟨j + 1, tt, by omega, rfl, by go_num, HBW.out, by omega, by omega, HY.out⟩
                case measure => simp [intOf]; omega
        · obtain rfl : j = y.Gaps.length := by omega
          rw [List.drop_length] at hk2
          have HY := hidH (show ksF y = 0 by rw [HE.out, ← hk2]; rfl)
          have HW := hidH hB
          clear hk2 hlt hj hB
          go_wp2
          go_ret
          exact ⟨ret_int HY.out.symm, HW.out⟩
  · have h1 : wB y.Cum = false := by simpa using h1
    have e : ksF y = 3 := by simp [ksF, h1]
    rw [e]
    clear e
    go_enter Tryd.func168, Tryd.ntmps168
    go_wp2_with (first | (go_at_call 161; refine (isWord_any _ _).mono ?_; rintro e w' ⟨rfl, rfl⟩))
    go_ret
    exact ⟨rfl, HB.out⟩
end Go.Proofs.YtjjileefdjjijaaDoor

/- The program's Sack: write. -/
namespace Go.Proofs.YtjjileefdjjijaaDoor
open Go.RowKit Go.Deep

theorem ks_bnd : ∀ (a : Int) (r : List GapM), okGaps a r = true → ∀ x ∈ r, (0 ≤ x.From ∧ x.From ≤ 65535) ∧ (0 ≤ x.To ∧ x.To ≤ 65535)
  | _, [], _, _, hx => by simp at hx
  | a, z :: r, h, x, hx => by
    rw [okGaps_cons] at h
    simp only [inB, Bool.and_eq_true, decide_eq_true_eq] at h
    rcases List.mem_cons.1 hx with rfl | hx
    · omega
    · exact ks_bnd _ r h.2 x hx

set_option maxRecDepth 100000 in
set_option maxHeartbeats 4000000 in
theorem ksW_impl (r : Nat) (y : SackM) (A : Option Addr) (c : Nat) (w0 w : World) (h : RdA w0 y.vs [.int .i64 y.Cum, .slice A y.Gaps.length c]) (hb0 : Below w0.heap.size w0 w) (h0 : w0.heap.size ≤ r) (hr : WR w r []) (hf : ksF y = 0) :
    Calls Tryd.prog 169 #[.agg #[.int .i64 y.Cum, .slice A y.Gaps.length c], .pointer (some ⟨r, 0, none⟩)] w (Wrote r (ksC y).Body w) := by
  have hz := ksF_zero hf
  obtain ⟨a1, a2⟩ := hz.1
  have h' : RdA w0 [.int y.Cum, st_Gap y.Gaps] _ := h
  have HA := hidH (And.intro h'.tl.hd (And.intro hb0 h0))
  have HV := hidH (ks_bnd _ _ hz.2.2)
  have hn : y.Gaps.length ≤ 20 := by have := hz.2.1; omega
  have hnI : (y.Gaps.length : Int) ≤ 20 := by omega
  have HRL := hidH hr.lt
  have K1 := Blk.new w 34 #[.int .i64 y.Cum, .slice A y.Gaps.length c]
  have B1 := bal (Below.refl w.heap.size w) (.cells #[.int .i64 y.Cum, .slice A y.Gaps.length c] 34)
  obtain ⟨w1, hw1⟩ : ∃ w1, w.alloc (.cells #[.int .i64 y.Cum, .slice A y.Gaps.length c] 34) = w1 := ⟨_, rfl⟩
  rw [hw1] at K1 B1
  have hne : w.heap.size ≠ r := by have := hr.lt; omega
  have HW1 := hidH hw1
  have HN := hidH hne
  have HT := hidH (And.intro (hr.below B1) (And.intro (B1.mono (Nat.le_of_lt hr.lt)) (And.intro (OthK.of_below (r := r) B1) K1)))
  clear hw1 K1 B1 hne hr
  clear h h' hb0 h0 hf hz
  go_enter Tryd.func169, Tryd.ntmps169
  have k0 := HT.out.2.2.2.cell 0
  simp only [List.getElem?_toArray, List.getElem?_cons_zero] at k0
  have hk := HT.out.2.2.2.lt
  have HP := hidH (wword_any r ([]) y.Cum w1 HT.out.1 a1 a2 (by simp))
  unfold Wrote at HP
  go_wp2_with fail
  rw [HW1.out]
  go_wp2_with fail
  refine HP.out.mono ?_
  rintro e w2 ⟨rfl, hw, hb, ho⟩
  replace HT := hidH (And.intro hw (And.intro (HT.out.2.1.trans hb) (And.intro (OthK.trans HT.out.2.2.1 ho) (ho _ _ _ HN.out (by decide) HT.out.2.2.2))))
  clear HP hw hb ho k0 hk
  have k1 := HT.out.2.2.2.cell 1
  simp only [List.getElem?_toArray, List.getElem?_cons_succ, List.getElem?_cons_zero] at k1
  have hk := HT.out.2.2.2.lt
  have HP := hidH (wcount_any r ([] ++ pk y.Cum) (y.Gaps.length : Int) w2 HT.out.1 (by omega) (by omega) (by simp [pk]))
  unfold Wrote at HP
  go_wp2_with fail
  refine HP.out.mono ?_
  rintro e w3 ⟨rfl, hw, hb, ho⟩
  replace HT := hidH (And.intro hw (And.intro (HT.out.2.1.trans hb) (And.intro (OthK.trans HT.out.2.2.1 ho) (ho _ _ _ HN.out (by decide) HT.out.2.2.2))))
  clear HP hw hb ho k1 hk
  have k1 := HT.out.2.2.2.cell 1
  simp only [List.getElem?_toArray, List.getElem?_cons_succ, List.getElem?_cons_zero] at k1
  have hk := HT.out.2.2.2.lt
  go_wp2
  clear k1 hk
  go_loopw [18] (fun i wr => ∃ j : Nat, j ≤ y.Gaps.length ∧ i = .int .i64 j ∧ WR wr r (pk y.Cum ++ ((y.Gaps.length : Int) :: (y.Gaps.take j).flatMap gapL)) ∧ Below r w wr ∧ OthK r w wr) (fun i _ => y.Gaps.length - (intOf i).toNat)
  case atStart => exact ⟨0, by omega, rfl, by simpa using HT.out.1, HT.out.2.1, HT.out.2.2.1⟩
  case round =>
    obtain ⟨j, hj, rfl, hw, hb, ho⟩ := hrel
    by_cases hlt : j < y.Gaps.length
    · have hj0 : (0 : Int) ≤ (j : Int) := by omega
      have hj1 : (j : Int) < (y.Gaps.length : Int) := by omega
      obtain ⟨gb, ob, cb, eb, hgb, RB⟩ := Rd.row (f := GapM.vs) (W := 2) (fun _ => rfl) HA.out.1 hlt
      injection eb with eb1 eb2 eb3
      subst eb1 eb3
      obtain ⟨u0, p0, t0⟩ := RB 0 (.int y.Gaps[j].From) rfl
      obtain ⟨u1, p1, t1⟩ := RB 1 (.int y.Gaps[j].To) rfl
      have e0 := t0.int_out
      have e1 := t1.int_out
      subst e0 e1
      rw [Nat.add_zero] at p0
      have hbw : Below w0.heap.size w0 wr := HA.out.2.1.trans (hb.mono HA.out.2.2)
      replace p0 := (hbw.cell (p := ⟨gb, ob + j * 2, none⟩) hgb).trans p0
      replace p1 := (hbw.cell (p := ⟨gb, ob + j * 2 + 1, none⟩) hgb).trans p1
      obtain ⟨⟨v0, v1⟩, ⟨v2, v3⟩⟩ := HV.out y.Gaps[j] (List.getElem_mem hlt)
      obtain ⟨x1, hx1⟩ : ∃ k, y.Gaps[j].From = k := ⟨_, rfl⟩
      obtain ⟨x2, hx2⟩ : ∃ k, y.Gaps[j].To = k := ⟨_, rfl⟩
      have ht : (y.Gaps.take (j + 1)).flatMap gapL = (y.Gaps.take j).flatMap gapL ++ [x1 / 256, x1 % 256] ++ [x2 / 256, x2 % 256] := by
        rw [List.take_add_one, List.getElem?_eq_getElem hlt, Option.toList_some, List.flatMap_append]
        simp [gapL, pairL, hx1, hx2]
      rw [hx1] at p0 v0 v1
      rw [hx2] at p1 v2 v3
      have hlen : (pk y.Cum ++ ((y.Gaps.length : Int) :: (y.Gaps.take j).flatMap gapL)).length ≤ 200 := by simp [pk, -List.length_flatMap, gap_len, List.length_take]; omega
      obtain ⟨P, hP⟩ : ∃ P, pk y.Cum ++ ((y.Gaps.length : Int) :: (y.Gaps.take j).flatMap gapL) = P := ⟨_, rfl⟩
      have hPT : pk y.Cum ++ ((y.Gaps.length : Int) :: (y.Gaps.take (j + 1)).flatMap gapL) = P ++ [x1 / 256, x1 % 256] ++ [x2 / 256, x2 % 256] := by rw [ht, ← hP]; simp
      rw [hP] at hw hlen
      have HPT := hidH hPT
      have B5 := bal (Below.refl wr.heap.size wr) (.cells #[.int .i64 x1, .int .i64 x2] 52)
      have K5 := Blk.new wr 52 #[.int .i64 x1, .int .i64 x2]
      have hrl := hw.lt
      obtain ⟨w5, hw5⟩ : ∃ w5, wr.alloc (.cells #[.int .i64 x1, .int .i64 x2] 52) = w5 := ⟨_, rfl⟩
      rw [hw5] at B5 K5
      have HN5 := hidH (show wr.heap.size ≠ r by omega)
      have HC := hidH (wpair_any r P x1 w5 (hw.below B5) (by omega) (by omega) (by omega))
      unfold Wrote at HC
      have HT5 := hidH (And.intro (hb.trans (B5.mono (Nat.le_of_lt hrl))) (And.intro (OthK.trans ho (OthK.of_below (r := r) B5)) K5))
      have HLN := hidH hlen
      have c0 := K5.cell 0
      simp only [List.getElem?_toArray, List.getElem?_cons_zero] at c0
      have hk5 := K5.lt
      clear RB t0 t1 hx1 hx2 ht hP hPT hw hb ho hbw B5 K5 hlen
      go_wp2_with fail
      refine HC.out.mono ?_
      rintro e w6 ⟨rfl, hw, hb, ho⟩
      have K6 := ho _ _ _ HN5.out (by decide) HT5.out.2.2
      have HC2 := hidH (wpair_any r _ x2 w6 hw (by omega) (by omega) (by have := HLN.out; simp; omega))
      unfold Wrote at HC2
      have HT6 := hidH (And.intro (HT5.out.1.trans hb) (OthK.trans HT5.out.2.1 ho))
      have c1 := K6.cell 1
      simp only [List.getElem?_toArray, List.getElem?_cons_succ, List.getElem?_cons_zero] at c1
      have hk6 := K6.lt
      clear HC HT5 hw hb ho K6 c0
      go_wp2_with fail
      refine HC2.out.mono ?_
      rintro e w7 ⟨rfl, hw, hb, ho⟩
      have HR := hidH (show WR w7 r (pk y.Cum ++ ((y.Gaps.length : Int) :: (y.Gaps.take (j + 1)).flatMap gapL)) ∧ Below r w w7 ∧ OthK r w w7 from ⟨by rw [HPT.out]; exact hw, HT6.out.1.trans hb, OthK.trans HT6.out.2 ho⟩)
      clear HC2 HT6 hw hb ho
      go_wp2
      go_roundw
      case rel => exact ⟨j + 1, by omega, by go_num, HR.out⟩
      case measure => simp [intOf]; omega
    · obtain rfl : j = y.Gaps.length := by omega
      rw [List.take_length] at hw
      have HR := hidH (And.intro hw (And.intro hb ho))
      clear hw hb ho hlt hj
      go_wp2
      exact bodyPost_ret (v := .tuple #[]) (by simp [results, Tryd.results169, go_sem]) rfl ⟨rfl, HR.out⟩
end Go.Proofs.YtjjileefdjjijaaDoor

/- The program's Sack: emptyChunk, packContent. -/
namespace Go.Proofs.YtjjileefdjjijaaDoor
open Go.RowKit Go.Deep

set_option maxRecDepth 100000 in
set_option maxHeartbeats 2000000 in
theorem emptyS_any (y : SackM) (A1 : Option Addr) (c1 : Nat) (w : World) :
    Calls Tryd.prog 103 #[.iface 34 (.agg #[.int .i64 y.Cum, .slice A1 y.Gaps.length c1])] w fun e w' => ∃ kk ff : Int, e = .returned (.agg #[.int .i64 kk, .int .i64 ff, .slice none 0 0]) ∧ kk = (ksC y).Kind ∧ ff = (ksC y).Flags ∧ Below w.heap.size w w' := by
  have tD := fun u => taSD (.agg #[.int .i64 y.Cum, .slice A1 y.Gaps.length c1]) u
  have tS := fun u => taSS (.agg #[.int .i64 y.Cum, .slice A1 y.Gaps.length c1]) u
  go_enter Tryd.func103, Tryd.ntmps103
  go_wp2
  exact bodyPost_ret (v := .agg #[.int .i64 (3), .int .i64 (0), .slice none 0 0]) (by simp [results, Tryd.results103, go_sem]) rfl ⟨_, _, rfl, rfl, rfl, bal (bal (bal (Below.refl _ _) _) _) _⟩
set_option maxRecDepth 100000 in
set_option maxHeartbeats 4000000 in
theorem pcS_any (y : SackM) (A1 : Option Addr) (c1 : Nat) (w : World) (h : RdA w y.vs [.int .i64 y.Cum, .slice A1 y.Gaps.length c1]) :
    Calls Tryd.prog 59 #[.iface 34 (.agg #[.int .i64 y.Cum, .slice A1 y.Gaps.length c1])] w (Res w (ksR y).vs) := by
  have K1 := Blk.new w 30 #[.int .i64 0, .int .i64 0, .int .i64 0, .slice none 0 0]
  have B1 := bal (Below.refl w.heap.size w) (.cells #[.int .i64 0, .int .i64 0, .int .i64 0, .slice none 0 0] 30)
  obtain ⟨w1, hw1⟩ : ∃ w1, w.alloc (.cells #[.int .i64 0, .int .i64 0, .int .i64 0, .slice none 0 0] 30) = w1 := ⟨_, rfl⟩
  rw [hw1] at K1 B1
  have HF := hidH (ksF_impl y [.int .i64 y.Cum, .slice A1 y.Gaps.length c1] w1 (RdA.below B1 h))
  have HRD := hidH h
  have HT := hidH (And.intro K1 B1)
  clear h K1 B1
  go_enter Tryd.func59, Tryd.ntmps59
  go_wp2_with fail
  refine HF.out.mono ?_
  rintro e w3 ⟨rfl, b3⟩
  replace HT := hidH (And.intro (HT.out.1.below b3) (btr HT.out.2 b3))
  clear HF b3 hw1
  by_cases hz : ksF y = 0
  · have HZ := hidH hz
    rw [hz]
    have KR := Blk.new w3 148 #[.slice none 0 0]
    have B4 := bal (Below.refl w3.heap.size w3) (.cells #[.slice none 0 0] 148)
    obtain ⟨w4, hw4⟩ : ∃ w4, w3.alloc (.cells #[.slice none 0 0] 148) = w4 := ⟨_, rfl⟩
    rw [hw4] at KR B4
    have hRl := HT.out.1.lt
    have HW := hidH (ksW_impl w3.heap.size y A1 c1 w w4 HRD.out (btr HT.out.2 B4) HT.out.2.size (wr_nil KR) hz)
    unfold Wrote at HW
    obtain ⟨L, hL⟩ : ∃ L, (ksC y).Body = L := ⟨_, rfl⟩
    rw [hL] at HW
    have HL := hidH hL
    replace HT := hidH (And.intro (HT.out.1.below B4) (btr HT.out.2 B4))
    have HR := hidH hRl
    clear hz KR B4 hRl hL
    go_wp2_with fail
    refine HW.out.mono ?_
    rintro e w5 ⟨rfl, hw, hb, _⟩
    replace HT := hidH (And.intro (show Blk w5 w.heap.size 30 _ from (hb.block _ HR.out).trans HT.out.1) (HT.out.2.trans (hb.mono (Nat.le_of_lt HR.out))))
    have HE := hidH (emptyS_any y A1 c1 w5)
    have HWR := hidH hw
    clear HW hw hb hw4
    go_wp2_with fail
    refine HE.out.mono ?_
    rintro e w6 ⟨kk, ff, rfl, hkk, hff, b6⟩
    have HKF := hidH (And.intro hkk hff)
    clear hkk hff
    obtain ⟨v, KW, OW⟩ := HWR.out.below b6
    obtain ⟨A9, c9, e9, ob9, k9, m9⟩ := own_ob OW
    subst e9
    have hs6 := KW.lt
    have K6 := HT.out.1.below b6
    have HB6 := hidH (HT.out.2.trans (b6.mono HT.out.2.size))
    have B7 := bal (Below.refl w6.heap.size w6) (.cells #[.int .i64 kk, .int .i64 ff, .slice none 0 0] 28)
    have K7 := Blk.new w6 28 #[.int .i64 kk, .int .i64 ff, .slice none 0 0]
    have KW7 := KW.below B7
    have KR7 := K6.below B7
    obtain ⟨n9, hn9⟩ : ∃ n, L.length = n := ⟨_, rfl⟩
    have HOB := hidH (show OwV (w3.heap.size + 1) w6.heap.size (w6.alloc (.cells #[.int .i64 kk, .int .i64 ff, .slice none 0 0] 28)) (.bs L) (.slice A9 n9 c9) by rw [← hn9]; exact (ob9.owv (Nat.le_refl _) ⟨k9, m9⟩).below B7)
    rw [hn9] at KW7
    have x0 := KR7.cell 0
    have x1 := KR7.cell 1
    have x2 := KR7.cell 2
    have x3 := KR7.cell 3
    have f0 := KR7.frozen 0
    have f1 := KR7.frozen 1
    have f2 := KR7.frozen 2
    have f3 := KR7.frozen 3
    have y0 := K7.cell 0
    have y1 := K7.cell 1
    have y2 := K7.cell 2
    have g2 := K7.frozen 2
    have z0 := KW7.cell 0
    simp only [List.getElem?_toArray, List.getElem?_cons_succ, List.getElem?_cons_zero] at x0 x1 x2 x3 y0 y1 y2 z0
    have l1 := KR7.lt
    have l2 := K7.lt
    have l3 := KW7.lt
    have HB7 := hidH (btr HB6.out B7)
    obtain ⟨w7, hw7⟩ : ∃ w7, w6.alloc (.cells #[.int .i64 kk, .int .i64 ff, .slice none 0 0] 28) = w7 := ⟨_, rfl⟩
    rw [hw7] at x0 x1 x2 x3 f0 f1 f2 f3 y0 y1 y2 g2 z0 l1 l2 l3 HB7 HOB
    have HS := hidH (And.intro hs6 (And.intro K6.lt HR.out))
    have ne1 : w.heap.size ≠ w6.heap.size := by have := K6.lt; omega
    have ne2 : w3.heap.size ≠ w6.heap.size := by omega
    have ne3 : w3.heap.size ≠ w.heap.size := by have := HR.out; omega
    clear HE HWR b6 KW OW ob9 k9 m9 hs6 K6 B7 K7 KW7 KR7 hn9 HB6
    go_wp2
    have hle : w.heap.size ≤ w6.heap.size := by have := HS.out; omega
    exact bodyPost_ret (v := .agg #[.int .i64 0, .int .i64 kk, .int .i64 ff, .slice A9 n9 c9]) (by simp [results, Tryd.results59, go_sem, x0, x1, x2, x3]) rfl ⟨_, rfl, by
      have e : (ksR y).vs = [.int 0, .int kk, .int ff, .bs L] := by rw [ksR, crOf, if_pos HZ.out, ← HL.out, HKF.out.1, HKF.out.2]; rfl
      rw [e]
      refine OwN.int 0 (OwN.int _ (OwN.int _ ((OwN.cons (B := w3.heap.size + 1) (C := w6.heap.size) (D := w6.heap.size) ?_ (OwN.nil (by simp [World.setCell]; omega)) (by have := HS.out; omega) (Nat.le_refl _)).mono (by have := HS.out; omega) (by simp [World.setCell]; omega) (Nat.le_refl _))))
      iterate 4 (refine OwV.win (B' := w.heap.size) (C' := w.heap.size + 1) ?_ (set_win _ _ _ _) (.inr (by have := HS.out; omega)))
      repeat (refine OwV.win (B' := w6.heap.size) (C' := w6.heap.size + 1) ?_ (set_win _ _ _ _) (.inl (Nat.le_refl _)))
      exact HOB.out, by
      repeat (refine bst ?_ (by first | exact Nat.le_refl _ | exact hle) _)
      exact HB7.out⟩
  · have hne : (ksF y != 0) = true := by rw [bne_iff_ne]; exact hz
    have HZ := hidH hz
    obtain ⟨F, hF⟩ : ∃ F, ksF y = F := ⟨_, rfl⟩
    have HEQ := hidH hF
    rw [hF] at hne ⊢
    have x0 := HT.out.1.cell 0
    have x1 := HT.out.1.cell 1
    have x2 := HT.out.1.cell 2
    have x3 := HT.out.1.cell 3
    simp only [List.getElem?_toArray, List.getElem?_cons_succ, List.getElem?_cons_zero] at x0 x1 x2 x3
    have f0 := HT.out.1.frozen 0
    have f1 := HT.out.1.frozen 1
    have f2 := HT.out.1.frozen 2
    have f3 := HT.out.1.frozen 3
    have hr := HT.out.1.lt
    clear hz hF
    go_wp2
    exact bodyPost_ret (v := .agg #[.int .i64 F, .int .i64 0, .int .i64 0, .slice none 0 0]) (by simp [results, Tryd.results59, go_sem, x0, x1, x2, x3]) rfl ⟨_, rfl, by
      have e : (ksR y).vs = [.int F, .int 0, .int 0, .bs []] := by rw [ksR, crOf, if_neg HZ.out, HEQ.out]; rfl
      rw [e]
      exact (OwN.int F (OwN.int 0 (OwN.int 0 (OwN.empty _ (Nat.le_refl _))))), bst (bst (bst (bst HT.out.2 (Nat.le_refl _) _) (Nat.le_refl _) _) (Nat.le_refl _) _) (Nat.le_refl _) _⟩
set_option maxRecDepth 100000 in
set_option maxHeartbeats 2000000 in
theorem ks_impl (y : SackM) (vs : List Value) (u : World) (h : RdA u y.vs vs) (_ : WfA y.vs) (_ : tot.totL y.vs ≤ 1048576) : Calls Tryd.prog 13 #[.agg vs.toArray] u (Res u (ksR y).vs) := by
  obtain ⟨A1, c1, rfl⟩ := shape_Sack h
  have K1 := (Blk.new u 34 #[.int .i64 y.Cum, .slice A1 y.Gaps.length c1]).alloc (.cells #[.int .i64 0, .int .i64 0, .int .i64 0, .slice none 0 0] 30)
  have R1 := Blk.new (u.alloc (.cells #[.int .i64 y.Cum, .slice A1 y.Gaps.length c1] 34)) 30 #[.int .i64 0, .int .i64 0, .int .i64 0, .slice none 0 0]
  have B1 := bal (bal (Below.refl u.heap.size u) (.cells #[.int .i64 y.Cum, .slice A1 y.Gaps.length c1] 34)) (.cells #[.int .i64 0, .int .i64 0, .int .i64 0, .slice none 0 0] 30)
  rw [World.size_alloc] at R1
  obtain ⟨w1, hw1⟩ : ∃ w1, (u.alloc (.cells #[.int .i64 y.Cum, .slice A1 y.Gaps.length c1] 34)).alloc (.cells #[.int .i64 0, .int .i64 0, .int .i64 0, .slice none 0 0] 30) = w1 := ⟨_, rfl⟩
  rw [hw1] at K1 R1 B1
  have HC := hidH (pcS_any y A1 c1 w1 (RdA.below B1 h))
  have HT := hidH (And.intro R1 B1)
  have k0 := K1.cell 0
  have k1 := K1.cell 1
  simp only [List.getElem?_toArray, List.getElem?_cons_succ, List.getElem?_cons_zero] at k0 k1
  have hlt := K1.lt
  obtain ⟨z, hz⟩ : ∃ z, ksR y = z := ⟨_, rfl⟩
  rw [hz] at HC ⊢
  clear h K1 R1 B1 hz
  go_enter Tryd.func13, Tryd.ntmps13
  go_wp2_with fail
  refine HC.out.mono ?_
  rintro e w3 ⟨vs, rfl, O3, b3⟩
  obtain ⟨A9, c9, rfl⟩ := shape_ChunkResult O3.rd
  have R4 := HT.out.1.below b3
  have x0 := R4.cell 0
  have x1 := R4.cell 1
  have x2 := R4.cell 2
  have x3 := R4.cell 3
  have f0 := R4.frozen 0
  have f1 := R4.frozen 1
  have f2 := R4.frozen 2
  have f3 := R4.frozen 3
  simp only [List.getElem?_toArray, List.getElem?_cons_succ, List.getElem?_cons_zero] at x0 x1 x2 x3
  have hr := R4.lt
  have hr1 := HT.out.1.lt
  have HO := hidH O3
  have HB := hidH (btr HT.out.2 b3)
  clear HC O3 b3 R4 k0 k1 hlt
  go_wp2
  have PF : ∀ a b c' e : Value, OwN u.heap.size ((((w3.setCell ⟨u.heap.size + 1, 0, none⟩ a).setCell ⟨u.heap.size + 1, 1, none⟩ b).setCell ⟨u.heap.size + 1, 2, none⟩ c').setCell ⟨u.heap.size + 1, 3, none⟩ e).heap.size ((((w3.setCell ⟨u.heap.size + 1, 0, none⟩ a).setCell ⟨u.heap.size + 1, 1, none⟩ b).setCell ⟨u.heap.size + 1, 2, none⟩ c').setCell ⟨u.heap.size + 1, 3, none⟩ e) z.vs _ := fun a b c' e =>
    ((((HO.out.win (set_win _ (u.heap.size + 1) 0 a) (.inr (by omega))).win (set_win _ (u.heap.size + 1) 1 b) (.inr (by omega))).win (set_win _ (u.heap.size + 1) 2 c') (.inr (by omega))).win (set_win _ (u.heap.size + 1) 3 e) (.inr (by omega))).mono (by omega) (by simp [World.setCell]) (Nat.le_refl _)
  exact bodyPost_ret (v := .agg #[.int .i64 z.Code, .int .i64 z.Chunk_Kind, .int .i64 z.Chunk_Flags, .slice A9 z.Chunk_Body.length c9]) (by simp [results, Tryd.results13, go_sem, x0, x1, x2, x3]) rfl ⟨_, rfl, PF _ _ _ _, bst (bst (bst (bst HB.out (Nat.le_succ _) _) (Nat.le_succ _) _) (Nat.le_succ _) _) (Nat.le_succ _) _⟩
end Go.Proofs.YtjjileefdjjijaaDoor
