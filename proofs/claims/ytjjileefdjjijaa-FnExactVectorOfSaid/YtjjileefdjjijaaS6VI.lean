/- Chapter 6: VectorOf, the program's. -/
import Derived.Test.YtjjileefdjjijaaS6VP
import Derived.Test.YtjjileefdjjijaaS6V
import Derived.Test.YtjjileefdjjijaaIpGP
namespace Go.Proofs.Ytjjileefdjjijaa
open Go.RowKit Go.Deep

theorem fldB6 (c : Int) (A : Option Addr) (n cp : Nat) (w : World) : (Instr.field 35 (.agg #[.int .i64 c, .slice A n cp]) 1).run Try.prog w = .ok (.slice A n cp) w := by kernel_rfl
theorem vrow (t : Int) (r : List Int) : ((List.replicate 20 (0 : Int)).take 0 ++ pk t ++ (List.replicate 20 0).drop (0 + (pk t).length)).take 4 ++ r ++ ((List.replicate 20 (0 : Int)).take 0 ++ pk t ++ (List.replicate 20 0).drop (0 + (pk t).length)).drop 20 = pk t ++ r := by
  simp [pk]
/-- A word in four bytes, read. -/
def PwR (t : Int) (u : World) (e : Ending) (w' : World) : Prop := ∃ A cp, e = .returned (.agg #[.int .i64 0, .slice A 4 cp]) ∧ Bs w' A (pk t) ∧ Below u.heap.size u w'
set_option maxRecDepth 100000 in
set_option maxHeartbeats 8000000 in
theorem vec_impl (y : InitM) (vs : List Value) (u : World) (h : RdA u y.vs vs) (hw : WfA y.vs) (ht : tot.totL y.vs ≤ 1048576) : Calls Try.prog 17 #[.agg vs.toArray] u (Res u (vecR y).vs) := by
  obtain ⟨A2, c2, A3, c3, A4, c4, rfl⟩ := shape_Init h
  have hP := bsOf h.tl.tl.hd
  have K1 := (Blk.new u 37 #[.int .i64 y.Tag, .int .i64 y.Tsn, .slice A2 y.Random.length c2, .slice A3 y.Addrs.length c3, .slice A4 y.Cookie.length c4]).alloc (.cells #[.int .i64 0, .slice none 0 0] 35)
  have R1 := Blk.new (u.alloc (.cells #[.int .i64 y.Tag, .int .i64 y.Tsn, .slice A2 y.Random.length c2, .slice A3 y.Addrs.length c3, .slice A4 y.Cookie.length c4] 37)) 35 #[.int .i64 0, .slice none 0 0]
  have B1 := bal (bal (Below.refl u.heap.size u) (.cells #[.int .i64 y.Tag, .int .i64 y.Tsn, .slice A2 y.Random.length c2, .slice A3 y.Addrs.length c3, .slice A4 y.Cookie.length c4] 37)) (.cells #[.int .i64 0, .slice none 0 0] 35)
  rw [World.size_alloc] at R1
  obtain ⟨w1, hw1⟩ : ∃ w1, (u.alloc (.cells #[.int .i64 y.Tag, .int .i64 y.Tsn, .slice A2 y.Random.length c2, .slice A3 y.Addrs.length c3, .slice A4 y.Cookie.length c4] 37)).alloc (.cells #[.int .i64 0, .slice none 0 0] 35) = w1 := ⟨_, rfl⟩
  have hs1 : w1.heap.size = u.heap.size + 1 + 1 := by rw [← hw1]; simp
  rw [hw1] at K1 R1 B1
  have HPA := hidH (pi_impl y 1 _ w1 (RdA.below B1 h) hw ht)
  obtain ⟨z, hz⟩ : ∃ z, piR y 1 = z := ⟨_, rfl⟩
  have hcode : z.Code = inF y := by
    rw [← hz, piR, piF, if_pos (.inl rfl), crOf]
    split <;> simp_all
  rw [hz] at HPA
  have k0 := K1.cell 0
  have k1 := K1.cell 1
  have k2 := K1.cell 2
  have k3 := K1.cell 3
  have k4 := K1.cell 4
  simp only [List.getElem?_toArray, List.getElem?_cons_succ, List.getElem?_cons_zero] at k0 k1 k2 k3 k4
  have hlt := K1.lt
  have HT := hidH (And.intro K1 (And.intro R1 (And.intro B1 (bs_below hP B1))))
  have HS := hidH hs1
  have HW1 := hidH hw1
  clear h hw ht hP K1 R1 B1 hs1 hz hw1
  go_enter Try.func17, Try.ntmps17
  go_wp2_with fail
  rw [HW1.out]
  refine HPA.out.mono ?_
  rintro e w3 ⟨vs, rfl, O3, b3⟩
  obtain ⟨A9, c9, rfl⟩ := shape_ChunkResult O3.rd
  obtain ⟨F, hF⟩ : ∃ F, z.Code = F := ⟨_, rfl⟩
  rw [hF] at hcode ⊢
  have X3 := Blk.new w3 77 #[.int .i64 F, .int .i64 z.Chunk_Kind, .int .i64 z.Chunk_Flags, .slice A9 z.Chunk_Body.length c9]
  have b4 := bal b3 (.cells #[.int .i64 F, .int .i64 z.Chunk_Kind, .int .i64 z.Chunk_Flags, .slice A9 z.Chunk_Body.length c9] 77)
  obtain ⟨w4, hw4⟩ : ∃ w4, w3.alloc (.cells #[.int .i64 F, .int .i64 z.Chunk_Kind, .int .i64 z.Chunk_Flags, .slice A9 z.Chunk_Body.length c9] 77) = w4 := ⟨_, rfl⟩
  rw [hw4] at X3 b4
  have K4 := HT.out.1.below b4
  have R4 := HT.out.2.1.below b4
  have HB4 := hidH (btr HT.out.2.2.1 b4)
  have HP4 := hidH (bs_below HT.out.2.2.2 b4)
  have HK4 := hidH K4
  have HR4 := hidH R4
  have HZ4 := hidH (show u.heap.size + 1 + 1 ≤ w4.heap.size by have := b4.size; have := HS.out; omega)
  have m0 := X3.cell 0
  have r0 := R4.cell 0
  have r1 := R4.cell 1
  have f0 := R4.frozen 0
  have f1 := R4.frozen 1
  simp only [List.getElem?_toArray, List.getElem?_cons_succ, List.getElem?_cons_zero] at m0 r0 r1
  have hm := X3.lt
  have hr := R4.lt
  clear HPA O3 b3 b4 K4 R4 X3 k0 k1 k2 k3 k4 hlt hF
  by_cases hz : F = 0
  · have hne : (F != 0) = false := by rw [bne_eq_false_iff_eq]; exact hz
    have h0 : inF y = 0 := by rw [← hcode]; exact hz
    have HV := hidH (vecR_ok h0)
    obtain ⟨⟨a1, a2⟩, _, ⟨d1, _, _⟩, _, _⟩ := inF_zero h0
    have eC : packC y.Tag = 0 := by rw [packC, if_pos ⟨by omega, a2⟩]
    have eL : packL y.Tag = pk y.Tag := by rw [packL, if_pos ⟨by omega, a2⟩]
    have HPW := hidH (fun u => show Calls Try.prog 50 #[.int .i64 y.Tag] u (PwR y.Tag u) from by
      have h := pack_impl y.Tag u
      rw [eC, eL] at h
      exact h.mono (fun e w' ⟨A, cp, h1, h2, h3, _, _⟩ => ⟨A, cp, h1, h2.bs, h3⟩))
    have fB := fldB6
    have HD := hidH d1
    have k0 := HK4.out.cell 0
    simp only [List.getElem?_toArray, List.getElem?_cons_zero] at k0
    have hk := HK4.out.lt
    obtain ⟨i0, hi, hz0, hz1, hz2⟩ := info_parts (infoU8)
    have HI := hidH (And.intro hi (And.intro hz0 (And.intro hz1 hz2)))
    clear hz h0 hcode eC eL d1 hi hz0 hz1 hz2 a1 a2
    go_wp2_with (first | (refine wpList_make_full _ rfl _ _ _ rfl w4.heap.size 5 i0 _ 1 info22' HI.out.1 HI.out.2.1 HI.out.2.2.1 .i64 .i64 _ _ 20 rfl rfl rfl rfl (by rw [HI.out.2.2.2]; omega) (by unfold maxLen; omega) (Nat.le_refl _) ?_; intro w5 o5 g5; have M5 := hidH (Brow.of_own o5 rfl (made_u8 20)); have B5 := hidH ((Below.refl w4.heap.size w4).grown g5 (Nat.le_refl _) (fun k hk => by cases hk)); have k5 := (B5.out.cell (p := ⟨u.heap.size, 0, none⟩) hk).trans k0; clear o5 g5))
    refine (HPW.out _).mono ?_
    rintro e w6 ⟨A6, c6, rfl, S6, b6⟩
    have M6 := hidH (M5.out.below b6)
    have B6 := hidH (B5.out.trans (b6.mono B5.out.size))
    obtain ⟨w7, hr7, h7, b7⟩ := run_copy_at (T := 3) (c := c6) (o := 0) (M := 20) M6.out (by simp) (by simp [pk]) S6 20
    rw [show (pk y.Tag).length = 4 from rfl] at hr7
    have M7 := hidH h7
    have B7 := hidH (B6.out.trans b7)
    have R7 := hidH ((B7.out.block (u.heap.size + 1) hr).trans HR4.out)
    have HI2 := hidH (show w4.cell? ⟨u.heap.size, 2, none⟩ = some (.slice A2 16 c2) by rw [HK4.out.cell 2, ← HD.out]; rfl)
    clear h7 b7 M6 S6 b6 HPW k5 M5 B5 B6 r0 r1 f0 f1 m0 hm k0
    go_wp2
    refine wp_region_any (by kernel_rfl) ?_
    refine regV2 _ _ _ _ _ _ _ _ _ _ _ _ _ _ _ _ _ _ u.heap.size w4.heap.size (u.heap.size + 1) A2 c2 y.Random _ w4 (hidH (by simp [pk])) HD (Nat.le_refl _) hr hk HP4.out HI2.out (by kernel_rfl) (by kernel_rfl) (by kernel_rfl) rfl (fun _ => M7.out.below (Below.refl _ _).drew) (fun h => by cases h) (B7.out.trans (Below.refl _ _).drew) (bs_below HP4.out (B7.out.trans (Below.refl _ _).drew)) (((B7.out.trans (Below.refl _ _).drew).cell (p := ⟨u.heap.size, 2, none⟩) hk).trans HI2.out) R7.out ?_
    intros
    rename_i W hM hO hR
    rw [vrow] at hM
    clear hr7 M7 B7 R7
    have HOB := hidH (show OwV (u.heap.size + 1 + 1) W.heap.size W (.bs (pk y.Tag ++ y.Random)) (.slice (some ⟨w4.heap.size, 0, none⟩) 20 20) by
      have e : 20 = (pk y.Tag ++ y.Random).length := by have := HD.out; simp [pk]; omega
      have h := (hM.ob (B := u.heap.size + 1 + 1) HZ4.out).owv (Nat.le_refl _) ⟨Nat.le_refl _, by rw [← e]; simp⟩
      rw [← e] at h
      exact h)
    have HB6 := hidH (HB4.out.trans (hO.mono HB4.out.size))
    have HZ := hidH hO.size
    have x0 := hR.cell 0
    have x1 := hR.cell 1
    have f0 := hR.frozen 0
    have f1 := hR.frozen 1
    simp only [List.getElem?_toArray, List.getElem?_cons_succ, List.getElem?_cons_zero] at x0 x1
    have hr9 := hR.lt
    clear hM hO hR
    go_wp2
    exact bodyPost_ret (v := .agg #[.int .i64 0, .slice (some ⟨w4.heap.size, 0, none⟩) 20 20]) (by simp [results, Try.results17, go_sem, x0, x1]) rfl ⟨_, rfl, by
      rw [HV.out]
      refine OwN.int 0 ((OwN.cons (B := u.heap.size + 1 + 1) (C := W.heap.size) (D := W.heap.size) ?_ (OwN.nil (by simp [World.setCell])) (by have := HZ4.out; have := HZ.out; omega) (Nat.le_refl _)).mono (by omega) (by simp [World.setCell]) (Nat.le_refl _))
      iterate 2 (refine OwV.win (B' := u.heap.size + 1) (C' := u.heap.size + 1 + 1) ?_ (set_win _ _ _ _) (.inr (by omega)))
      exact HOB.out, by
      iterate 2 (refine bst ?_ (Nat.le_succ _) _)
      exact HB6.out⟩
  · have hne : (F != 0) = true := by rw [bne_iff_ne]; exact hz
    have HV := hidH (vecR_no (y := y) (by rw [← hcode]; exact hz))
    rw [← hcode] at HV
    clear hz hcode
    go_wp2
    exact bodyPost_ret (v := .agg #[.int .i64 F, .slice none 0 0]) (by simp [results, Try.results17, go_sem, r0, r1]) rfl ⟨_, rfl, by rw [HV.out]; exact OwN.int F (OwN.nb (OwN.nil (Nat.le_refl _))), bst (bst HB4.out (Nat.le_succ _) _) (Nat.le_succ _) _⟩
end Go.Proofs.Ytjjileefdjjijaa
