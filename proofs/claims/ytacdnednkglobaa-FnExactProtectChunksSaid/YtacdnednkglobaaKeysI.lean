/- The program's keysOf: both keys of one, by an invariant over its region that draws its order. -/
import Derived.Test.YtacdnednkglobaaKeyI
import Derived.Test.YtacdnednkglobaaRegInv
namespace Go.Proofs.Ytacdnednkglobaa
open Go.RowKit Go.Deep

theorem wp_buildTo {P : Program} {o : Oper} {a : Act} {w : World} {K : Act → World → Prop} {Q : Exit → Act → World → Prop} (t : TypeId) (parts : Array (Nat × Operand)) (ho : o.op = .build t parts) (dst : Option Tmp) (hd : o.dst = dst)
    (cells : Array Value) (hf : P.built t (parts.map fun (i, x) => (i, a.eval x)).toList = some cells) (h : K (a.put dst (.agg cells)) w) : o.wp P a w K Q := by
  subst hd
  refine wp_build t parts ho (by rw [hf]; rfl) ?_
  rw [hf]
  exact h
theorem zero50 : (Try.prog.info? 80).bind (·.zero) = some (.agg (Ub (List.replicate 128 0))) := by kernel_rfl
theorem size50 : (Try.prog.info? 80).map (·.size) = some 128 := by kernel_rfl
theorem und50 : ∃ fs, Try.prog.underlying 80 = some (.struct fs) := by
  have h : (match Try.prog.underlying 80 with | some (.struct _) => true | _ => false) = true := by kernel_rfl
  split at h
  · next fs e => exact ⟨fs, e⟩
  · cases h
theorem built50 (x y : List Int) (hx : x.length = 64) (hy : y.length = 64) : Try.prog.built 80 [(0, .agg (Ub x)), (1, .agg (Ub y))] = some (Ub (x ++ y)) := by
  have h := Great.fill_whole (s := 64) (by omega) [.agg (Ub x), .agg (Ub y)] (Ub (List.replicate 128 0)) (by
    intro v hv
    simp only [List.mem_cons, List.not_mem_nil, or_false] at hv
    rcases hv with rfl | rfl
    · exact (Ub_len x).trans hx
    · exact (Ub_len y).trans hy) (by rw [Ub_len]; simp)
  have e : Try.prog.built 80 [(0, .agg (Ub x)), (1, .agg (Ub y))] = Instr.fill (fun i => some (i * 64, 64)) (Ub (List.replicate 128 0)) (([Value.agg (Ub x), Value.agg (Ub y)].zipIdx 0).map fun x => (x.2, x.1)) := by kernel_rfl
  rw [e, h]
  simp [Ub, Value.cells]
set_option maxRecDepth 100000 in
set_option maxHeartbeats 1000000 in
theorem keysOf_any (A : Option Addr) (l : List Int) (c : Nat) (w : World) (hA : Bs w A l) (hl : Bytes l) (hm : l.length ≤ 200) :
    Calls Try.prog 58 #[.slice A l.length c] w fun e w' => e = .returned (.agg (Ub (blockK l 54 ++ blockK l 92))) ∧ Below w.heap.size w w' := by
  obtain ⟨z2, hz2⟩ : ∃ z2, Ub (List.replicate 128 0) = z2 := ⟨_, rfl⟩
  obtain ⟨zs, hzs⟩ : ∃ zs, Ub (List.replicate 64 0) = zs := ⟨_, rfl⟩
  have hz := zero63
  have hy := zero50
  rw [hzs] at hz
  rw [hz2] at hy
  have HZ := hidH hz
  have HY := hidH hy
  clear hz hy
  have hA2 := bs_below hA (bal (Below.refl _ w) (.cells z2 80))
  have hkey := key_any A l c _ hA2 hl hm
  have R0 := Blk.new w 80 z2
  have B0 := bal (Below.refl w.heap.size w) (.cells z2 80)
  obtain ⟨w1, hw1⟩ : ∃ w1, w.alloc (.cells z2 80) = w1 := ⟨_, rfl⟩
  rw [hw1] at hA2 hkey R0 B0
  have kl : (padZ (keyK l)).length = 64 := by have := keyK_len l; simp [padZ]; omega
  have kb : Bytes (padZ (keyK l)) := by
    intro x hx
    rcases List.mem_append.1 hx with h | h
    · exact keyK_bytes hl x h
    · obtain ⟨_, rfl⟩ := List.mem_replicate.1 h; omega
  have m1 := fun w => masked_any (padZ (keyK l)) 54 w kb kl (by omega) (by omega)
  have m2 := fun w => masked_any (padZ (keyK l)) 92 w kb kl (by omega) (by omega)
  have hb := built50 (blockK l 54) (blockK l 92) (blockK_len _ _) (blockK_len _ _)
  have hs128 : (blockK l 54 ++ blockK l 92).length = 128 := by rw [List.length_append, blockK_len, blockK_len]
  rw [show (padZ (keyK l)).map (byteX (54 : Int).toNat) = blockK l 54 from rfl] at m1
  rw [show (padZ (keyK l)).map (byteX (92 : Int).toNat) = blockK l 92 from rfl] at m2
  have ho := Ub_one (blockK l 54 ++ blockK l 92)
  have hos := Ub_len (blockK l 54 ++ blockK l 92)
  rw [hs128] at hos
  have hks := Ub_len (padZ (keyK l))
  rw [kl] at hks
  have hko := Ub_one (padZ (keyK l))
  generalize Ub (blockK l 54 ++ blockK l 92) = os at *
  generalize Ub (padZ (keyK l)) = ks at *
  generalize Ub (blockK l 54) = i1 at *
  generalize Ub (blockK l 92) = i2 at *
  have HKEY := hidH hkey
  have HS := hidH hA2
  have HR := hidH R0
  have HB := hidH B0
  have HW1 := hidH hw1
  have hlt : w.heap.size < w1.heap.size := R0.lt
  have hzk : zs.size = ks.size := by rw [← hzs, Ub_len, hks]; simp
  have hsk : (Try.prog.info? 85).map (·.size) = some ks.size := by rw [hks]; exact size63
  have hz2o : z2.size = os.size := by rw [← hz2, Ub_len, hos]; simp
  have hso : (Try.prog.info? 80).map (·.size) = some os.size := by rw [hos]; exact size50
  have HF := hidH (And.intro hko (And.intro hzk (And.intro hsk (And.intro hz2o (And.intro hso (And.intro ho hb))))))
  have HM1 := hidH m1
  have HM2 := hidH m2
  clear hkey hA2 R0 B0 hw1 hA kl kb m1 m2 hb hs128 ho hos hks hko hzk hsk hz2o hso hz2 hzs
  go_enter Try.func58, Try.ntmps58
  go_wp2_with (first | (refine wpList_allocRow rfl 80 rfl _ rfl z2 HY.out ?_; rw [HW1.out]))
  refine HKEY.out.mono ?_
  rintro e w2 ⟨rfl, b2⟩
  have HR2 := HR.out.below b2
  have HB2 := btr HB.out b2
  have hlt2 : w.heap.size < w2.heap.size := HR2.lt
  have K3 := Blk.new w2 85 zs
  have R3 := HR2.alloc (.cells zs 85)
  have B3 := bal HB2 (.cells zs 85)
  have K4 : Blk ((w2.alloc (.cells zs 85)).setRow w2.heap.size ks) w2.heap.size 85 ks := setRow_heap _ _ _ _ _ _ K3
  have R4 : Blk ((w2.alloc (.cells zs 85)).setRow w2.heap.size ks) w.heap.size 80 z2 := (setRow_other (w2.alloc (.cells zs 85)) w2.heap.size w.heap.size ks (by omega)).trans R3
  have B4 := below_setRow B3 (g := w2.heap.size) (by omega) ks
  obtain ⟨w4, hw4⟩ : ∃ w4, (w2.alloc (.cells zs 85)).setRow w2.heap.size ks = w4 := ⟨_, rfl⟩
  rw [hw4] at K4 R4 B4
  have HK4 := hidH K4
  have HR4 := hidH R4
  have HB4 := hidH B4
  have HW4 := hidH hw4
  clear HR2 HB2 K3 R3 B3 K4 R4 B4 hw4 b2 HKEY HS HR HB hlt
  go_wp2_with (first | (refine wpList_allocRow rfl 85 rfl _ rfl zs HZ.out ?_) | (refine wpList_store_rowTo rfl _ _ _ rfl rfl w2.heap.size ks rfl rfl 85 _ (heap_alloc_last w2 _) HF.out.2.2.1 HF.out.2.1 HF.out.1 ?_; rw [HW4.out]))
  refine wp_region_any (by kernel_rfl) ?_
  refine region_inv 6 (fun i => [[], [0], [], [2], [1, 3], [0, 1, 2, 3, 4]].getD i [])
    (fun d a W => ∃ t6 t7 t8 t9 t10, a = { tmps := #[.slice A l.length c, undef, .pointer (some ⟨w.heap.size, 0, none⟩), .pointer (some ⟨w2.heap.size, 0, none⟩), .slice A l.length c, .agg ks, t6, t7, t8, t9, t10], defers := [] } ∧
      Blk W w2.heap.size 85 ks ∧ Below w.heap.size w W ∧ (d 5 = false → Blk W w.heap.size 80 z2) ∧ (d 5 = true → Blk W w.heap.size 80 os) ∧
      (d 0 = true → t6 = .agg ks) ∧ (d 1 = true → t7 = .agg i1) ∧ (d 2 = true → t8 = .agg ks) ∧ (d 3 = true → t9 = .agg i2) ∧ (d 4 = true → t10 = .agg os))
    rfl (by kernel_rfl) (by kernel_rfl) ?start ?step ?fin
  case start => exact ⟨undef, undef, undef, undef, undef, rfl, HK4.out.below (Below.refl _ _).drew, HB4.out.drew, fun _ => HR4.out.below (Below.refl _ _).drew, fun h => by simp at h, fun h => by simp at h, fun h => by simp at h, fun h => by simp at h, fun h => by simp at h, fun h => by simp at h⟩
  case step =>
    intro i hi d a W hJ hd hdep
    obtain ⟨t6, t7, t8, t9, t10, rfl, hK, hB, h5, h5', h0, h1, h2, h3, h4⟩ := hJ
    match i, hi with
    | 0, _ =>
      refine wpOp_plain (by rfl) rfl ?_
      refine wp_load_row 85 _ rfl w2.heap.size rfl 85 ks (0, 0) (.array 64 5) hK (by kernel_rfl) rfl HF.out.2.2.1 ?_
      exact ⟨_, t7, t8, t9, t10, rfl, hK, hB, h5, h5', fun _ => rfl, h1, h2, h3, h4⟩
    | 1, _ =>
      refine wpOp_plain (by rfl) rfl ?_
      obtain rfl := h0 (hdep 0 (by simp))
      refine wp_callOp 66 _ Try.func66 (by kernel_rfl) (by kernel_rfl) #[.agg ks, .int .u8 54] _ _ rfl (by simp [Act.eval]) _ rfl (.agg i1) _ (HM1.out W) (fun w' hb => ?_)
      exact ⟨_, _, t8, t9, t10, rfl, hK.below hb, btr hB hb, fun h => (h5 h).below hb, fun h => (h5' h).below hb, h0, fun _ => rfl, h2, h3, h4⟩
    | 2, _ =>
      refine wpOp_plain (by rfl) rfl ?_
      refine wp_load_row 85 _ rfl w2.heap.size rfl 85 ks (0, 0) (.array 64 5) hK (by kernel_rfl) rfl HF.out.2.2.1 ?_
      exact ⟨t6, t7, _, t9, t10, rfl, hK, hB, h5, h5', h0, h1, fun _ => rfl, h3, h4⟩
    | 3, _ =>
      refine wpOp_plain (by rfl) rfl ?_
      obtain rfl := h2 (hdep 2 (by simp))
      refine wp_callOp 66 _ Try.func66 (by kernel_rfl) (by kernel_rfl) #[.agg ks, .int .u8 92] _ _ rfl (by simp [Act.eval]) _ rfl (.agg i2) _ (HM2.out W) (fun w' hb => ?_)
      exact ⟨t6, t7, _, _, t10, rfl, hK.below hb, btr hB hb, fun h => (h5 h).below hb, fun h => (h5' h).below hb, h0, h1, h2, fun _ => rfl, h4⟩
    | 4, _ =>
      refine wpOp_plain (by rfl) rfl ?_
      obtain rfl := h1 (hdep 1 (by simp))
      obtain rfl := h3 (hdep 3 (by simp))
      refine wp_buildTo 80 _ rfl _ rfl os ((congrArg (Try.prog.built 80) (by simp [Act.eval])).trans HF.out.2.2.2.2.2.2) ?_
      exact ⟨t6, _, t8, _, _, rfl, hK, hB, h5, h5', h0, h1, h2, h3, fun _ => rfl⟩
    | 5, _ =>
      refine wpOp_plain (by rfl) rfl ?_
      obtain rfl := h4 (hdep 4 (by simp))
      refine wp_store_row 80 _ _ rfl w.heap.size os rfl rfl 80 z2 (h5 hd) HF.out.2.2.2.2.1 HF.out.2.2.2.1 HF.out.2.2.2.2.2.1 ?_
      exact ⟨t6, t7, t8, t9, _, rfl, (setRow_other W _ _ os (by omega)).trans hK, below_setRow hB (Nat.le_refl _) os, fun h => by simp at h, fun _ => setRow_heap _ _ _ _ _ _ (h5 hd), h0, h1, h2, h3, h4⟩
    | n + 6, h => omega
  case fin =>
    rintro d a W ⟨t6, t7, t8, t9, t10, rfl, hK, hB, h5, h5', h0, h1, h2, h3, h4⟩ hall
    have hR := h5' (hall 5 (by omega))
    obtain ⟨fs, hfs⟩ := und50
    go_wp2
    exact bodyPost_ret (v := .agg os) (results_cell_row rfl _ _ w.heap.size 80 _ (0, 0) (.struct fs) rfl hR hfs rfl HF.out.2.2.2.2.1) rfl ⟨rfl, hB⟩
end Go.Proofs.Ytacdnednkglobaa
