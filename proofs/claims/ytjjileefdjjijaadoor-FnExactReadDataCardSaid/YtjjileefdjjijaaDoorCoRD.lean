/- The program's ReadData. -/
import Derived.Test.YtjjileefdjjijaaDoorMb8
namespace Go.Proofs.YtjjileefdjjijaaDoor
open Go.RowKit Go.Deep

theorem taNoD {y : Ct} {v : Value} {B C : Nat} {w : World} (h : CtIs w B C y v) (hn : ∀ z, y ≠ .data z) : ∀ u, (Instr.typeAssert v 113 25 true).run Tryd.prog u = .ok (.tuple #[.agg #[.int .i64 0, .int .i64 0, .int .i64 0, .bool false, .bool false, .bool false, .slice none 0 0], .bool false]) u := by
  match y, h with
  | .no, h =>
    have e : v = .nilIface := h
    subst e
    exact taND
  | .data y, _ => exact absurd rfl (hn y)
  | .sack y, ⟨vs, e, _⟩ =>
    subst e
    exact taSD _
  | .init k y, ⟨vs, e, _⟩ =>
    subst e
    exact taGD _
  | .ask y, ⟨vs, e, _⟩ =>
    subst e
    exact taQD _
  | .ans y, ⟨vs, e, _⟩ =>
    subst e
    exact taWD _
theorem rD_none {x : ChunkM} (h : ¬ ∃ z, ctM x = .data z) : rdV x = none := by
  cases e : rdV x with
  | none => rfl
  | some y => exact absurd ⟨y, (ct_data x y).2 e⟩ h
set_option maxRecDepth 100000 in
set_option maxHeartbeats 4000000 in
theorem rD_impl (x : ChunkM) (vs : List Value) (u : World) (ty : TypeId) (pv : Value) (hE : u.cell? ⟨0, 0, none⟩ = some (.iface ty pv)) (h : RdA u x.vs vs) (hw : WfA x.vs) (ht : tot.totL x.vs ≤ 1048576) : Calls Tryd.prog 19 #[.agg vs.toArray] u (Res u (rdR x).vs) := by
  obtain ⟨A2, c2, rfl⟩ := shape_Chunk h
  have h2 := h.tl.tl.hd
  unfold Rd at h2
  obtain ⟨A', c', e, ⟨hc, hcm⟩, hA⟩ := h2
  cases e
  have hb : Bytes x.Body := hw.2.2.1
  have hm : x.Body.length ≤ 4000000 := by simp only [ChunkM.vs, tot.totL, tot] at ht; omega
  have hpos : 0 < u.heap.size := World.block_lt_of_cell? _ _ hE
  have K1 := (Blk.new u 28 #[.int .i64 x.Kind, .int .i64 x.Flags, .slice A2 x.Body.length c2]).alloc (.cells #[.int .i64 0, .int .i64 0, .int .i64 0, .int .i64 0, .bool false, .bool false, .bool false, .slice none 0 0] 44)
  have R1 := Blk.new (u.alloc (.cells #[.int .i64 x.Kind, .int .i64 x.Flags, .slice A2 x.Body.length c2] 28)) 44 #[.int .i64 0, .int .i64 0, .int .i64 0, .int .i64 0, .bool false, .bool false, .bool false, .slice none 0 0]
  have B1 := bal (bal (Below.refl u.heap.size u) (.cells #[.int .i64 x.Kind, .int .i64 x.Flags, .slice A2 x.Body.length c2] 28)) (.cells #[.int .i64 0, .int .i64 0, .int .i64 0, .int .i64 0, .bool false, .bool false, .bool false, .slice none 0 0] 44)
  rw [World.size_alloc] at R1
  obtain ⟨w1, hw1⟩ : ∃ w1, (u.alloc (.cells #[.int .i64 x.Kind, .int .i64 x.Flags, .slice A2 x.Body.length c2] 28)).alloc (.cells #[.int .i64 0, .int .i64 0, .int .i64 0, .int .i64 0, .bool false, .bool false, .bool false, .slice none 0 0] 44) = w1 := ⟨_, rfl⟩
  have hs1 : w1.heap.size = u.heap.size + 1 + 1 := by rw [← hw1]; simp
  rw [hw1] at K1 R1 B1
  have HC := hidH (contentOf_any x A2 c2 w1 ty pv (bs_below hA B1) hb hm hc hcm ((B1.cell (p := ⟨0, 0, none⟩) hpos).trans hE))
  have HT := hidH (And.intro K1 (And.intro R1 B1))
  have HS := hidH hs1
  have HM := hidH (show (x.Body.length : Int) ≤ 9223372036854775807 by omega)
  have k0 := K1.cell 0
  have k1 := K1.cell 1
  have k2 := K1.cell 2
  simp only [List.getElem?_toArray, List.getElem?_cons_succ, List.getElem?_cons_zero] at k0 k1 k2
  have hlt := K1.lt
  clear h K1 R1 B1 hE hA hb hm hw ht hc hcm hs1 hpos
  go_enter Tryd.func19, Tryd.ntmps19
  go_wp2_with fail
  refine HC.out.mono ?_
  rintro e w3 ⟨v, rfl, hct, b3⟩
  clear k0 k1 k2 hlt hw1
  have K3 := HT.out.1.below b3
  have R3 := HT.out.2.1.below b3
  have HB3 := hidH (btr HT.out.2.2 b3)
  have HZ3 := hidH b3.size
  by_cases hD : ∃ z, ctM x = .data z
  · obtain ⟨y, hy⟩ := hD
    have HV := hidH ((ct_data x y).1 hy)
    rw [hy] at hct
    obtain ⟨vs, rfl, ho⟩ := hct
    obtain ⟨A6, c6, rfl⟩ := shape_Data ho.rd
    have ho' := ho
    have tD := fun u => taDD (.agg #[.int .i64 y.Tsn, .int .i64 y.Stream, .int .i64 y.Seq, .bool y.First, .bool y.Last, .bool y.Unordered, .slice A6 y.Piece.length c6]) u
    have KD := Blk.new w3 25 #[.int .i64 y.Tsn, .int .i64 y.Stream, .int .i64 y.Seq, .bool y.First, .bool y.Last, .bool y.Unordered, .slice A6 y.Piece.length c6]
    have b4 := bal (Below.refl w3.heap.size w3) (.cells #[.int .i64 y.Tsn, .int .i64 y.Stream, .int .i64 y.Seq, .bool y.First, .bool y.Last, .bool y.Unordered, .slice A6 y.Piece.length c6] 25)
    obtain ⟨w4, hw4⟩ : ∃ w4, w3.alloc (.cells #[.int .i64 y.Tsn, .int .i64 y.Stream, .int .i64 y.Seq, .bool y.First, .bool y.Last, .bool y.Unordered, .slice A6 y.Piece.length c6] 25) = w4 := ⟨_, rfl⟩
    rw [hw4] at KD b4
    have R4 := R3.below b4
    have HB4 := hidH (btr HB3.out b4)
    have HO := hidH (ho'.below b4)
    have HZ4 := hidH b4.size
    have d0 := KD.cell 0
    have d1 := KD.cell 1
    have d2 := KD.cell 2
    have d3 := KD.cell 3
    have d4 := KD.cell 4
    have d5 := KD.cell 5
    have d6 := KD.cell 6
    have r0 := R4.cell 0
    have r1 := R4.cell 1
    have r2 := R4.cell 2
    have r3 := R4.cell 3
    have r4 := R4.cell 4
    have r5 := R4.cell 5
    have r6 := R4.cell 6
    have r7 := R4.cell 7
    have f0 := R4.frozen 0
    have f1 := R4.frozen 1
    have f2 := R4.frozen 2
    have f3 := R4.frozen 3
    have f4 := R4.frozen 4
    have f5 := R4.frozen 5
    have f6 := R4.frozen 6
    have f7 := R4.frozen 7
    simp only [List.getElem?_toArray, List.getElem?_cons_succ, List.getElem?_cons_zero] at d0 d1 d2 d3 d4 d5 d6 r0 r1 r2 r3 r4 r5 r6 r7
    have hr := R4.lt
    have hd := KD.lt
    have ne : w3.heap.size ≠ u.heap.size + 1 := by have := R3.lt; omega
    clear hy ho ho' K3 R3 b3 b4 KD R4 HC
    go_wp2
    exact bodyPost_ret (v := .agg #[.int .i64 0, .int .i64 y.Tsn, .int .i64 y.Stream, .int .i64 y.Seq, .bool y.First, .bool y.Last, .bool y.Unordered, .slice A6 y.Piece.length c6]) (by simp [results, Tryd.results19, go_sem, r0, r1, r2, r3, r4, r5, r6, r7]) rfl ⟨_, rfl, by
      have e : (rdR x).vs = .int 0 :: y.vs := by rw [rdR, HV.out]; rfl
      rw [e]
      refine OwN.int 0 (OwN.mono (B := w1.heap.size) (C := w3.heap.size) ?_ (by have := HS.out; omega) (by have := HZ4.out; simp [World.setCell]; omega) (Nat.le_refl _))
      iterate 8 (refine OwN.win (B' := u.heap.size + 1) (C' := u.heap.size + 1 + 1) ?_ (win_set _ _ _ _) (.inr (by have := HS.out; omega)))
      exact HO.out, by
      iterate 8 (refine bst ?_ (Nat.le_succ _) _)
      exact HB4.out⟩
  · have tN := taNoD hct (fun z q => hD ⟨z, q⟩)
    have HV := hidH (rD_none hD)
    have KD := Blk.new w3 25 #[.int .i64 0, .int .i64 0, .int .i64 0, .bool false, .bool false, .bool false, .slice none 0 0]
    have b4 := bal (Below.refl w3.heap.size w3) (.cells #[.int .i64 0, .int .i64 0, .int .i64 0, .bool false, .bool false, .bool false, .slice none 0 0] 25)
    have HR4 := hidH (R3.below b4)
    have K4 := K3.below b4
    have HB4 := hidH (btr HB3.out b4)
    have HUN := hidH (unread_any x A2 c2 (w3.alloc (.cells #[.int .i64 0, .int .i64 0, .int .i64 0, .bool false, .bool false, .bool false, .slice none 0 0] 25)) HM.out)
    have k0 := K4.cell 0
    have k1 := K4.cell 1
    have k2 := K4.cell 2
    simp only [List.getElem?_toArray, List.getElem?_cons_succ, List.getElem?_cons_zero] at k0 k1 k2
    have hk := K4.lt
    have hd := KD.lt
    clear hct hD K3 R3 b3 b4 KD K4 HC
    go_wp2_with fail
    refine HUN.out.mono ?_
    rintro e w5 ⟨rfl, b5⟩
    have R5 := HR4.out.below b5
    have HB5 := hidH (btr HB4.out b5)
    have r0 := R5.cell 0
    have r1 := R5.cell 1
    have r2 := R5.cell 2
    have r3 := R5.cell 3
    have r4 := R5.cell 4
    have r5 := R5.cell 5
    have r6 := R5.cell 6
    have r7 := R5.cell 7
    have f0 := R5.frozen 0
    have f1 := R5.frozen 1
    have f2 := R5.frozen 2
    have f3 := R5.frozen 3
    have f4 := R5.frozen 4
    have f5 := R5.frozen 5
    have f6 := R5.frozen 6
    have f7 := R5.frozen 7
    simp only [List.getElem?_toArray, List.getElem?_cons_succ, List.getElem?_cons_zero] at r0 r1 r2 r3 r4 r5 r6 r7
    have hr := R5.lt
    clear HUN HR4 HB4 b5 R5 tN k0 k1 k2 hk hd
    go_wp2
    exact bodyPost_ret (v := .agg #[.int .i64 (rdOf x), .int .i64 0, .int .i64 0, .int .i64 0, .bool false, .bool false, .bool false, .slice none 0 0]) (by simp [results, Tryd.results19, go_sem, r0, r1, r2, r3, r4, r5, r6, r7]) rfl ⟨_, rfl, by
      have e : (rdR x).vs = [.int (rdOf x), .int 0, .int 0, .int 0, .bool false, .bool false, .bool false, .bs []] := by rw [rdR, HV.out]; rfl
      rw [e]
      exact OwN.int _ (OwN.int 0 (OwN.int 0 (OwN.int 0 (OwN.bool false (OwN.bool false (OwN.bool false (OwN.nobs (OwN.nil (Nat.le_refl _))))))))), by
      iterate 8 (refine bst ?_ (Nat.le_succ _) _)
      exact HB5.out⟩
end Go.Proofs.YtjjileefdjjijaaDoor
