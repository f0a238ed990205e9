/- The model's ReadData. -/
import Derived.Test.YtjjileefdjjijaaDoorSdR
import Derived.Test.YtjjileefdjjijaaDoorMb7
import Derived.Test.YtjjileefdjjijaaDoorMb6
namespace Go.Proofs.YtjjileefdjjijaaDoor
open Go.RowKit Go.Deep

theorem rdat_160 {k f : Int} {b : List Int} (h : chF k f b = 0) : b.length ≤ 160 ∧ 0 ≤ f ∧ f ≤ 255 := by
  unfold chF inB at h
  split at h
  · next h1 =>
    simp only [Bool.and_eq_true, decide_eq_true_eq] at h1
    split at h
    · next h2 => exact ⟨h2, h1.2⟩
    · cases h
  · cases h
theorem pair_w {l : List Int} (h : Bytes l) (k : Nat) : 0 ≤ pairAt l k ∧ pairAt l k ≤ 65535 := by
  have a := h.get k
  have b := h.get (k + 1)
  unfold pairAt
  omega
theorem rdat_wf {f : Int} {l : List Int} (h : Bytes l) : WfA (rdatV f l).vs := by
  have hw := atW_w5 h 0
  have h4 := pair_w h 4
  have h6 := pair_w h 6
  exact ⟨⟨by show _ ≤ atW l 0; omega, by show atW l 0 ≤ _; omega⟩, ⟨by show _ ≤ pairAt l 4; omega, by show pairAt l 4 ≤ _; omega⟩, ⟨by show _ ≤ pairAt l 6; omega, by show pairAt l 6 ≤ _; omega⟩, trivial, trivial, trivial, bytes_d h 8, trivial⟩
theorem rdat_tot {f : Int} {l : List Int} (h : l.length ≤ 1000) : tot.totL (rdatV f l).vs ≤ 1048576 := by
  have : (l.drop 8).length ≤ l.length := by rw [List.length_drop]; omega
  show 0 + (0 + (0 + (0 + (0 + (0 + ((l.drop 8).length + 0)))))) ≤ 1048576
  omega
theorem rdR_len (x : ChunkM) (_ : WfA x.vs) (ht : tot.totL x.vs ≤ 1048576) : vcA (rdR x).vs ≤ 1000000000 := by
  have hm : x.Body.length ≤ 1048576 := by simp only [ChunkM.vs, tot.totL, tot] at ht; omega
  unfold rdR
  cases e : rdV x with
  | none => simp [DataResultM.vs, vcA, vc, cc]
  | some y =>
    have hy : y = rdatV x.Flags x.Body := by unfold rdV at e; split at e <;> cases e; rfl
    subst hy
    have : (x.Body.drop 8).length ≤ x.Body.length := by rw [List.length_drop]; omega
    show 0 + (0 + (0 + (0 + (0 + (0 + (0 + ((x.Body.drop 8).length + 0))))))) ≤ 1000000000
    omega
theorem rdV_chF {x : ChunkM} (h : chF x.Kind x.Flags x.Body ≠ 0) : rdV x = none := by
  cases e : rdV x with
  | none => rfl
  | some y => exact absurd (chF_data ((rdV_iff x y).1 e)) h
theorem rdV_cnt {x : ChunkM} (h : x.Body.length < 8) : rdV x = none := by
  unfold rdV
  rw [if_neg (fun q => by have := q.1; omega)]
set_option maxRecDepth 100000 in
set_option maxHeartbeats 8000000 in
theorem rd_spec (x : ChunkM) (vs : List Value) (u : World) (h : RdA u x.vs vs) (hw : WfA x.vs) (ht : tot.totL x.vs ≤ 1048576) : Calls Tryd.prog 34 #[.agg vs.toArray] u (Res u (rdR x).vs) := by
  obtain ⟨A2, c2, rfl⟩ := shape_Chunk h
  have h2 := h.tl.tl.hd
  unfold Rd at h2
  obtain ⟨A', c', e, ⟨hc, hcm⟩, hA⟩ := h2
  cases e
  have hb : Bytes x.Body := hw.2.2.1
  have hm : x.Body.length ≤ 4000000 := by simp only [ChunkM.vs, tot.totL, tot] at ht; omega
  have hmI : (x.Body.length : Int) ≤ 4000000 := by omega
  have K1 := (Blk.new u 28 #[.int .i64 x.Kind, .int .i64 x.Flags, .slice A2 x.Body.length c2]).alloc (.cells #[.int .i64 0, .int .i64 0, .int .i64 0, .int .i64 0, .bool false, .bool false, .bool false, .slice none 0 0] 44)
  have R1 := Blk.new (u.alloc (.cells #[.int .i64 x.Kind, .int .i64 x.Flags, .slice A2 x.Body.length c2] 28)) 44 #[.int .i64 0, .int .i64 0, .int .i64 0, .int .i64 0, .bool false, .bool false, .bool false, .slice none 0 0]
  have B1 := bal (bal (Below.refl u.heap.size u) (.cells #[.int .i64 x.Kind, .int .i64 x.Flags, .slice A2 x.Body.length c2] 28)) (.cells #[.int .i64 0, .int .i64 0, .int .i64 0, .int .i64 0, .bool false, .bool false, .bool false, .slice none 0 0] 44)
  rw [World.size_alloc] at R1
  obtain ⟨w1, hw1⟩ : ∃ w1, (u.alloc (.cells #[.int .i64 x.Kind, .int .i64 x.Flags, .slice A2 x.Body.length c2] 28)).alloc (.cells #[.int .i64 0, .int .i64 0, .int .i64 0, .int .i64 0, .bool false, .bool false, .bool false, .slice none 0 0] 44) = w1 := ⟨_, rfl⟩
  have hs1 : w1.heap.size = u.heap.size + 1 + 1 := by rw [← hw1]; simp
  rw [hw1] at K1 R1 B1
  have HF := hidH (chFault_spec x.Kind x.Flags A2 x.Body c2 w1 (by omega))
  unfold ckV at HF
  have HT := hidH (And.intro K1 (And.intro R1 (And.intro B1 (bs_below hA B1))))
  have HS := hidH hs1
  have HM := hidH (And.intro hb (And.intro hm (RdA.below B1 h)))
  have HCC := hidH (And.intro hc hcm)
  have k0 := K1.cell 0
  have k1 := K1.cell 1
  have k2 := K1.cell 2
  simp only [List.getElem?_toArray, List.getElem?_cons_succ, List.getElem?_cons_zero] at k0 k1 k2
  have hlt := K1.lt
  have NO : ∀ (W : World) (C : Int), rdV x = none → rdOf x = C → OwN u.heap.size W.heap.size W (rdR x).vs [.int .i64 C, .int .i64 0, .int .i64 0, .int .i64 0, .bool false, .bool false, .bool false, .slice none 0 0] := fun W C e1 e2 => by
    have e : (rdR x).vs = [.int (rdOf x), .int 0, .int 0, .int 0, .bool false, .bool false, .bool false, .bs []] := by rw [rdR, e1]; rfl
    rw [e, e2]
    exact OwN.int _ (OwN.int 0 (OwN.int 0 (OwN.int 0 (OwN.bool false (OwN.bool false (OwN.bool false (OwN.nobs (OwN.nil (Nat.le_refl _)))))))))
  replace NO := hidH NO
  clear h K1 R1 B1 hA hb hm hw ht hc hcm hs1
  obtain ⟨f, hf⟩ : ∃ f, chF x.Kind x.Flags x.Body = f := ⟨_, rfl⟩
  rw [hf] at HF
  have HEF := hidH hf
  clear hf
  go_enter Tryd.func34, Tryd.ntmps34
  go_wp2_with fail
  refine HF.out.mono ?_
  rintro e w2 ⟨rfl, b2⟩
  clear HF k0 k1 k2 hlt hw1
  have K2 := HT.out.1.below b2
  have R2 := HT.out.2.1.below b2
  have HB2 := hidH (btr HT.out.2.2.1 b2)
  have HA2 := hidH (bs_below HT.out.2.2.2 b2)
  have HZ2 := hidH b2.size
  have HB12 := hidH b2
  have k0 := K2.cell 0
  have k1 := K2.cell 1
  have k2 := K2.cell 2
  have r0 := R2.cell 0
  have f0 := R2.frozen 0
  have r1 := R2.cell 1
  have f1 := R2.frozen 1
  have r2 := R2.cell 2
  have f2 := R2.frozen 2
  have r3 := R2.cell 3
  have f3 := R2.frozen 3
  have r4 := R2.cell 4
  have f4 := R2.frozen 4
  have r5 := R2.cell 5
  have f5 := R2.frozen 5
  have r6 := R2.cell 6
  have f6 := R2.frozen 6
  have r7 := R2.cell 7
  have f7 := R2.frozen 7
  simp only [List.getElem?_toArray, List.getElem?_cons_succ, List.getElem?_cons_zero] at k0 k1 k2 r0 r1 r2 r3 r4 r5 r6 r7
  have hk := K2.lt
  have hr := R2.lt
  have HKR := hidH (And.intro K2 R2)
  by_cases hz : f = 0
  · have q : (f != 0) = false := by rw [bne_eq_false_iff_eq]; exact hz
    have H5 := hidH (show rdOf x = 5 by unfold rdOf; rw [HEF.out, if_pos hz])
    have H160 := hidH (rdat_160 (HEF.out.trans hz))
    clear b2 K2 R2 hz
    by_cases hl : x.Body.length < 8
    · have hlI : (x.Body.length : Int) < 8 := by omega
      have HN := hidH (rdV_cnt hl)
      clear hl
      go_wp2
      exact bodyPost_ret (v := .agg #[.int .i64 5, .int .i64 0, .int .i64 0, .int .i64 0, .bool false, .bool false, .bool false, .slice none 0 0]) (by simp [results, Tryd.results34, go_sem, r0, r1, r2, r3, r4, r5, r6, r7]) rfl ⟨_, rfl, NO.out _ 5 HN.out H5.out, by
        iterate 8 (refine bst ?_ (Nat.le_succ _) _)
        exact HB2.out⟩
    · have hlI : ¬ (x.Body.length : Int) < 8 := by omega
      have HL8 := hidH (show 8 ≤ x.Body.length by omega)
      obtain ⟨L8, hL8⟩ : ∃ l, x.Body.drop 8 = l := ⟨_, rfl⟩
      obtain ⟨n8, hn8⟩ : ∃ n, x.Body.length - 8 = n := ⟨_, rfl⟩
      have hn88 : L8.length = n8 := by rw [← hL8, List.length_drop, hn8]
      have HSL := hidH (fun (q : World) => cut_l A2 x.Body.length c2 8 8 rfl HL8.out q)
      rw [hn8] at HSL
      have HBS := hidH (fun (q : World) (hq : Below w2.heap.size w2 q) => cutA_drop (i := 8) (c := c2) (bs_below HA2.out hq) HL8.out HCC.out.1)
      obtain ⟨A8, hA8⟩ : ∃ a, cutA A2 8 c2 = a := ⟨_, rfl⟩
      obtain ⟨c8, hc8⟩ : ∃ a, c2 - 8 = a := ⟨_, rfl⟩
      rw [hA8, hc8] at HSL
      rw [hA8, hL8] at HBS
      have HCP := hidH (fun (q : World) (hq : Below w2.heap.size w2 q) => show Calls Tryd.prog 83 #[.slice A8 n8 c8] q fun e w' => ∃ v, e = .returned v ∧ w'.ownsRow q.heap.size 5 1 v n8 (L8.map (Value.int .u8)) ∧ Below q.heap.size q w' from by
        have h := copy_any A8 L8 c8 q (HBS.out q hq) (by have := H160.out.1; omega)
        rw [hn88] at h
        refine h.mono (fun e w' q => ?_)
        obtain ⟨v, q1, q2, q3⟩ := q
        rw [hn88] at q2
        exact ⟨v, q1, q2, q3⟩)
      obtain ⟨z0, hz0⟩ : ∃ z, atW x.Body 0 = z := ⟨_, rfl⟩
      obtain ⟨z1, hz1⟩ : ∃ z, pairAt x.Body 4 = z := ⟨_, rfl⟩
      obtain ⟨z2, hz2⟩ : ∃ z, pairAt x.Body 6 = z := ⟨_, rfl⟩
      obtain ⟨b1, hb1⟩ : ∃ b, decide (x.Flags % 2 = 1) = b := ⟨_, rfl⟩
      obtain ⟨b2, hb2⟩ : ∃ b, decide (x.Flags / 2 % 2 = 1) = b := ⟨_, rfl⟩
      obtain ⟨b4, hb4⟩ : ∃ b, decide (x.Flags / 4 % 2 = 1) = b := ⟨_, rfl⟩
      have HRAW := hidH (show rdatV x.Flags x.Body = ⟨z0, z1, z2, b2, b1, b4, L8⟩ by rw [rdatV, hz0, hz1, hz2, hb1, hb2, hb4, hL8])
      have HC0 := hidH (fun (q : World) (hq : Below w2.heap.size w2 q) => l1At_w A2 x.Body c2 0 q (bs_below HA2.out hq) HM.out.1 (by have := HL8.out; omega) HM.out.2.1)
      have HC1 := hidH (fun (q : World) (hq : Below w2.heap.size w2 q) => l1PairAt_w A2 x.Body c2 4 q (bs_below HA2.out hq) HM.out.1 (by have := HL8.out; omega) HM.out.2.1)
      have HC2 := hidH (fun (q : World) (hq : Below w2.heap.size w2 q) => l1PairAt_w A2 x.Body c2 6 q (bs_below HA2.out hq) HM.out.1 (by have := HL8.out; omega) HM.out.2.1)
      rw [hz0] at HC0
      rw [hz1] at HC1
      rw [hz2] at HC2
      have HBB := hidH (And.intro hb1 (And.intro hb2 hb4))
      have HN88 := hidH hn88
      clear hl hL8 hn8 hn88 hA8 hc8 hz0 hz1 hz2 hb1 hb2 hb4
      go_wp2
      refine wp_region_any (by kernel_rfl) ?_
      refine regSd _ _ _ _ _ _ _ _ _ _ _ _ _ _ w2 u.heap.size x.Body.length c2 n8 c8 A2 A8 L8 x.Flags z0 z1 z2 b1 b2 b4 HKR.out.1.lt (by have := HKR.out.1.cell 1; simpa using this) (by have := HKR.out.1.cell 2; simpa using this) H160.out.2.1 H160.out.2.2 HBB.out.1 HBB.out.2.1 HBB.out.2.2 HSL HC0.out HC1.out HC2.out HCP.out (by kernel_rfl) (by kernel_rfl) (by kernel_rfl) rfl (fun h => by cases h) ((Below.refl _ _).drew) ?_
      intros
      rename_i wr hO hX
      obtain ⟨g, A9, c9, rfl, kg, ko, hgw⟩ := hX
      have o2 := ko
      rw [← HN88.out] at o2
      obtain ⟨A9', c9', e9, ob9, k9, m9⟩ := own_ob o2
      rw [HN88.out] at e9
      injection e9 with e91 e92 e93
      subst e91 e93
      have hov := ob9.owv (Nat.le_refl _) ⟨k9, m9⟩
      rw [HN88.out] at hov
      have HOV := hidH (show OwN w2.heap.size wr.heap.size wr (rdatV x.Flags x.Body).vs [.int .i64 z0, .int .i64 z1, .int .i64 z2, .bool b2, .bool b1, .bool b4, .slice A9 n8 c9] by
        rw [HRAW.out]
        exact OwN.int z0 (OwN.int z1 (OwN.int z2 (OwN.bool b2 (OwN.bool b1 (OwN.bool b4 (OwN.cons (B := w2.heap.size) (C := wr.heap.size) (D := wr.heap.size) hov (OwN.nil (Nat.le_refl _)) hO.size (Nat.le_refl _))))))))
      have HPA := hidH (pd_spec (rdatV x.Flags x.Body) _ wr HOV.out.rd (rdat_wf HM.out.1) (rdat_tot (by have := H160.out.1; omega)))
      have a0 := kg.cell 0
      have a1 := kg.cell 1
      have a2 := kg.cell 2
      have a3 := kg.cell 3
      have a4 := kg.cell 4
      have a5 := kg.cell 5
      have a6 := kg.cell 6
      simp only [List.getElem?_toArray, List.getElem?_cons_succ, List.getElem?_cons_zero] at a0 a1 a2 a3 a4 a5 a6
      have hga := kg.lt
      have HKG := hidH kg
      have HO := hidH hO
      clear kg ko hO o2 ob9 k9 m9 hov HC0 HC1 HC2 HCP HSL HBS r0 r1 r2 r3 r4 r5 r6 r7 f0 f1 f2 f3 f4 f5 f6 f7 k0 k1 k2 hk hr
      go_wp2_with fail
      refine HPA.out.mono ?_
      rintro e w6 ⟨rs, rfl, hoz, b6⟩
      have HB26 := hidH (btr HO.out b6)
      have HIS := hidH (l5Is_any u.heap.size 0 x (pdR (rdatV x.Flags x.Body)) rs w6 (RdL.of_cells (RdA.below (btr HB12.out HB26.out) HM.out.2.2) (fun k hk => by rw [Nat.zero_add, (HKR.out.1.below HB26.out).cell k]; simp)) hoz.rd HM.out.1 (pdR_b (bytes_d HM.out.1 8)))
      have HO6 := hidH (HOV.out.below b6)
      have HA6 := hidH (HKG.out.below b6)
      have HZ6 := hidH b6.size
      obtain ⟨bb, hbb⟩ : ∃ bb, isM x (pdR (rdatV x.Flags x.Body)) = bb := ⟨_, rfl⟩
      rw [hbb] at HIS
      have HBX := hidH hbb
      clear hoz b6 HPA HOV HKG a0 a1 a2 a3 a4 a5 a6 hga hbb
      go_wp2_with fail
      refine HIS.out.mono ?_
      rintro e w7 ⟨rfl, b7⟩
      have HB27 := hidH (btr HB26.out b7)
      have HO7 := hidH (HO6.out.below b7)
      have HZ7 := hidH b7.size
      have KA := HA6.out.below b7
      have R7 := HKR.out.2.below HB27.out
      have HBu := hidH (btr HB2.out HB27.out)
      have a0 := KA.cell 0
      have a1 := KA.cell 1
      have a2 := KA.cell 2
      have a3 := KA.cell 3
      have a4 := KA.cell 4
      have a5 := KA.cell 5
      have a6 := KA.cell 6
      have r0 := R7.cell 0
      have f0 := R7.frozen 0
      have r1 := R7.cell 1
      have f1 := R7.frozen 1
      have r2 := R7.cell 2
      have f2 := R7.frozen 2
      have r3 := R7.cell 3
      have f3 := R7.frozen 3
      have r4 := R7.cell 4
      have f4 := R7.frozen 4
      have r5 := R7.cell 5
      have f5 := R7.frozen 5
      have r6 := R7.cell 6
      have f6 := R7.frozen 6
      have r7 := R7.cell 7
      have f7 := R7.frozen 7
      simp only [List.getElem?_toArray, List.getElem?_cons_succ, List.getElem?_cons_zero] at a0 a1 a2 a3 a4 a5 a6 r0 r1 r2 r3 r4 r5 r6 r7
      have hga := KA.lt
      have hr := R7.lt
      clear b7 HIS HO6 HA6 KA R7 HB26 HB27
      cases bb
      · have HN := hidH (show rdV x = none by unfold rdV; rw [if_neg (fun q => by have h1 := q.2; rw [HBX.out] at h1; cases h1)])
        go_wp2
        exact bodyPost_ret (v := .agg #[.int .i64 5, .int .i64 0, .int .i64 0, .int .i64 0, .bool false, .bool false, .bool false, .slice none 0 0]) (by simp [results, Tryd.results34, go_sem, r0, r1, r2, r3, r4, r5, r6, r7]) rfl ⟨_, rfl, NO.out _ 5 HN.out H5.out, by
          iterate 8 (refine bst ?_ (Nat.le_succ _) _)
          exact HBu.out⟩
      · have HV := hidH (show rdV x = some (rdatV x.Flags x.Body) by unfold rdV; rw [if_pos ⟨HL8.out, HBX.out⟩])
        go_wp2
        exact bodyPost_ret (v := .agg #[.int .i64 0, .int .i64 z0, .int .i64 z1, .int .i64 z2, .bool b2, .bool b1, .bool b4, .slice A9 n8 c9]) (by simp [results, Tryd.results34, go_sem, r0, r1, r2, r3, r4, r5, r6, r7]) rfl ⟨_, rfl, by
          have e : (rdR x).vs = .int 0 :: (rdatV x.Flags x.Body).vs := by rw [rdR, HV.out]; rfl
          rw [e]
          refine OwN.int 0 (OwN.mono (B := w2.heap.size) (C := wr.heap.size) ?_ (by have := HS.out; have := HZ2.out; omega) (by have := HZ6.out; have := HZ7.out; simp [World.setCell]; omega) (Nat.le_refl _))
          iterate 8 (refine OwN.win (B' := u.heap.size + 1) (C' := u.heap.size + 1 + 1) ?_ (win_set _ _ _ _) (.inr (by have := HS.out; have := HZ2.out; omega)))
          exact HO7.out, by
          iterate 8 (refine bst ?_ (Nat.le_succ _) _)
          exact HBu.out⟩
  · have q : (f != 0) = true := by rw [bne_iff_ne]; exact hz
    have HN := hidH (rdV_chF (x := x) (by rw [HEF.out]; exact hz))
    have H5 := hidH (show rdOf x = f by unfold rdOf; rw [HEF.out, if_neg hz])
    clear b2 K2 R2 hz
    go_wp2
    exact bodyPost_ret (v := .agg #[.int .i64 f, .int .i64 0, .int .i64 0, .int .i64 0, .bool false, .bool false, .bool false, .slice none 0 0]) (by simp [results, Tryd.results34, go_sem, r0, r1, r2, r3, r4, r5, r6, r7]) rfl ⟨_, rfl, NO.out _ f HN.out H5.out, by
      iterate 8 (refine bst ?_ (Nat.le_succ _) _)
      exact HB2.out⟩
end Go.Proofs.YtjjileefdjjijaaDoor
