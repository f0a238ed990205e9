/- The model's chapter 5: l5Is. -/
import Derived.Test.YtgghelpbobbkgaaDoorM5Data
import Derived.Test.YtgghelpbobbkgaaDoorSame
import Derived.BigQuiet
namespace Go.Proofs.YtgghelpbobbkgaaDoor
open Go.RowKit Go.Deep

theorem str_eq {a b : List Int} (ha : Bytes a) (hb : Bytes b) : ((strOfNums a).toList == (strOfNums b).toList) = (a == b) := by
  rw [ByteArray.toList_eq, ByteArray.toList_eq]
  by_cases e : a = b
  · subst e; simp
  · have : (strOfNums a).data.toList ≠ (strOfNums b).data.toList := fun x => e (strOfNums_inj ha hb (by
      cases hx : strOfNums a; cases hy : strOfNums b
      rw [hx, hy] at x
      simpa using x))
    rw [beq_eq_false_iff_ne.2 this, beq_eq_false_iff_ne.2 e]
set_option maxRecDepth 100000 in
set_option maxHeartbeats 4000000 in
theorem l5Is_any (g o : Nat) (x : ChunkM) (z : ChunkResultM) (vs : List Value) (w : World) (hx : RdL w x.vs g o) (hz : RdA w z.vs vs) (bx : Bytes x.Body) (bz : Bytes z.Chunk_Body) :
    Calls Tryd.prog 89 #[.pointer (some ⟨g, o, none⟩), .agg vs.toArray] w fun e w' => e = .returned (.bool (isM x z)) ∧ Below w.heap.size w w' := by
  obtain ⟨A, c, p0, p1, p2, hA⟩ := mem_Chunk hx
  obtain ⟨A3, c3, rfl⟩ := shape_ChunkResult hz
  have hz' : RdA w [.int z.Code, .int z.Chunk_Kind, .int z.Chunk_Flags, .bs z.Chunk_Body] _ := hz
  have hb3 := hz'.tl.tl.tl.hd
  have hg : g < w.heap.size := World.block_lt_of_cell? _ _ p0
  have B1 := bal (Below.refl w.heap.size w) (.cells #[.int .i64 z.Code, .int .i64 z.Chunk_Kind, .int .i64 z.Chunk_Flags, .slice A3 z.Chunk_Body.length c3] 30)
  have K1 := Blk.new w 30 #[.int .i64 z.Code, .int .i64 z.Chunk_Kind, .int .i64 z.Chunk_Flags, .slice A3 z.Chunk_Body.length c3]
  obtain ⟨w1, hw1⟩ : ∃ w1, w.alloc (.cells #[.int .i64 z.Code, .int .i64 z.Chunk_Kind, .int .i64 z.Chunk_Flags, .slice A3 z.Chunk_Body.length c3] 30) = w1 := ⟨_, rfl⟩
  rw [hw1] at B1 K1
  have q0 := (B1.cell (p := ⟨g, o, none⟩) hg).trans p0
  have q1 := (B1.cell (p := ⟨g, o + 1, none⟩) hg).trans p1
  have q2 := (B1.cell (p := ⟨g, o + 2, none⟩) hg).trans p2
  have r0 := K1.cell 0
  have r1 := K1.cell 1
  have r2 := K1.cell 2
  have r3 := K1.cell 3
  simp only [List.getElem?_toArray, List.getElem?_cons_succ, List.getElem?_cons_zero] at r0 r1 r2 r3
  have hA' : Bs w1 A x.Body := by
    obtain ⟨A', c', e, _, hb⟩ := (Rd.below B1 _ hA).bs_out
    injection e with e1 e2 e3; subst e1; exact hb
  have hB' : Bs w1 A3 z.Chunk_Body := by
    obtain ⟨A', c', e, _, hb⟩ := (Rd.below B1 _ hb3).bs_out
    injection e with e1 e2 e3; subst e1; exact hb
  have s1 := conv_bs w1 A x.Body c hA'
  have s2 := conv_bs w1 A3 z.Chunk_Body c3 hB'
  have s3 := conv_bs w1.drew A x.Body c (bs_below hA' (Below.refl _ _).drew)
  have s4 := conv_bs w1.drew A3 z.Chunk_Body c3 (bs_below hB' (Below.refl _ _).drew)
  have hs := str_eq bx bz
  have HW := hidH hw1
  have HB := hidH B1
  have hlt := K1.lt
  clear hx hz hz' hA hb3 p0 p1 p2 B1 K1 hw1 hA' hB' bx bz
  have HM := hidH (show isM x z = (z.Code == 0 && x.Kind == z.Chunk_Kind && x.Flags == z.Chunk_Flags && x.Body == z.Chunk_Body) from rfl)
  obtain ⟨bb, hbb⟩ : ∃ bb, isM x z = bb := ⟨_, rfl⟩
  rw [hbb] at HM ⊢
  clear hbb
  rcases Bool.eq_false_or_eq_true (z.Code == 0) with a0 | a0
  · rcases Bool.eq_false_or_eq_true (x.Kind == z.Chunk_Kind) with a1 | a1
    · rcases Bool.eq_false_or_eq_true (x.Flags == z.Chunk_Flags) with a2 | a2
      · have e := HM.out
        rw [a0, a1, a2, Bool.true_and, Bool.true_and, Bool.true_and] at e
        have HE := hidH e
        rw [← e] at hs
        clear e
        go_enter Tryd.func89, Tryd.ntmps89
        go_wp2_with fail
        rw [HW.out]
        go_region
        go_wp2
        go_ret
        exact ⟨rfl, HB.out.drew⟩
      · have e := HM.out
        rw [a0, a1, a2] at e
        have HE := hidH (show bb = false from e)
        obtain rfl := HE.out
        clear e hs
        go_enter Tryd.func89, Tryd.ntmps89
        go_wp2_with fail
        rw [HW.out]
        go_region
        go_wp2
        go_ret
        exact ⟨rfl, HB.out.drew⟩
    · have e := HM.out
      rw [a0, a1] at e
      have HE := hidH (show bb = false from e)
      obtain rfl := HE.out
      clear e hs
      go_enter Tryd.func89, Tryd.ntmps89
      go_wp2_with fail
      rw [HW.out]
      go_region
      go_wp2
      go_ret
      exact ⟨rfl, HB.out.drew⟩
  · have e := HM.out
    rw [a0] at e
    have HE := hidH (show bb = false from e)
    obtain rfl := HE.out
    clear e hs
    go_enter Tryd.func89, Tryd.ntmps89
    go_wp2_with fail
    rw [HW.out]
    go_region
    go_wp2
    go_ret
    exact ⟨rfl, HB.out.drew⟩
end Go.Proofs.YtgghelpbobbkgaaDoor
