/- The model's ReadInit. -/
import Derived.Deep.Cut
import Derived.Test.YtjjileefdjjijaaDoorSiR
import Derived.Test.YtjjileefdjjijaaDoorMb7
import Derived.Test.YtjjileefdjjijaaDoorS5II
import Derived.Test.YtjjileefdjjijaaDoorMa1
import Derived.Test.YtjjileefdjjijaaDoorMb5
namespace Go.Proofs.YtjjileefdjjijaaDoor
open Go.RowKit Go.Deep

theorem rnd_b {w : World} {B g : Nat} {t : TypeId} {z0 z1 : Int} {A9 : Option Addr} {c9 : Nat} {v2 v3 v4 : Value} {l : List Int} (hl : 0 < l.length) (hv : ∀ j k : Int, v2 ≠ .int .u8 j ∧ v3 ≠ .int .u8 j ∧ v4 ≠ .int .u8 k) (kg : Blk w g t #[.int .i64 z0, .int .i64 z1, v2, v3, v4])
    (ko : w.ownsRow B 5 1 (.slice A9 l.length c9) l.length (l.map (Value.int .u8))) : ∃ b, B ≤ b ∧ b < w.heap.size ∧ b ≠ g ∧ OwV b (b + 1) w (.bs l) (.slice A9 l.length c9) := by
  obtain ⟨A, cp, e, ob, k1, k2⟩ := own_ob ko
  injection e with e1 e2 e3
  subst e1 e3
  rcases ob with q | ⟨b, off, h1, h2, h3, h4, h5⟩
  · rw [q] at hl; simp at hl
  · refine ⟨b, h2, h3, fun q => ?_, Ob.owv (.inr ⟨b, off, h1, Nat.le_refl _, by omega, by omega, h5⟩) (by omega) ⟨k1, k2⟩⟩
    subst q
    have h6 := (h5 0 hl).1
    rw [kg.cell] at h6
    obtain ⟨q2, q3, q4⟩ := hv (l.getD 0 0) (l.getD 0 0)
    match off, h6 with
    | 0, h6 => simp at h6
    | 1, h6 => simp at h6
    | 2, h6 => simp at h6; exact q2 h6
    | 3, h6 => simp at h6; exact q3 h6
    | 4, h6 => simp at h6; exact q4 h6
    | n + 5, h6 => simp at h6
theorem blk6 {w : World} {g : Nat} {t : TypeId} {b0 b1 b2 b3 b4 b5 : Value} (k : Blk w g t #[b0, b1, b2, b3, b4, b5]) (a0 a1 a2 a3 a4 a5 : Value) :
    Blk ((((((w.setCell ⟨g, 0, none⟩ a0).setCell ⟨g, 1, none⟩ a1).setCell ⟨g, 2, none⟩ a2).setCell ⟨g, 3, none⟩ a3).setCell ⟨g, 4, none⟩ a4).setCell ⟨g, 5, none⟩ a5) g t #[a0, a1, a2, a3, a4, a5] := by
  have k0 : Blk (w.setCell ⟨g, 0, none⟩ a0) g t #[a0, b1, b2, b3, b4, b5] := k.put 0 a0
  have k1 : Blk ((w.setCell ⟨g, 0, none⟩ a0).setCell ⟨g, 1, none⟩ a1) g t #[a0, a1, b2, b3, b4, b5] := k0.put 1 a1
  obtain ⟨w1, h1⟩ : ∃ w1, (w.setCell ⟨g, 0, none⟩ a0).setCell ⟨g, 1, none⟩ a1 = w1 := ⟨_, rfl⟩
  rw [h1] at k1 ⊢
  have k2 : Blk (w1.setCell ⟨g, 2, none⟩ a2) g t #[a0, a1, a2, b3, b4, b5] := k1.put 2 a2
  have k3 : Blk ((w1.setCell ⟨g, 2, none⟩ a2).setCell ⟨g, 3, none⟩ a3) g t #[a0, a1, a2, a3, b4, b5] := k2.put 3 a3
  obtain ⟨w2, h2⟩ : ∃ w2, (w1.setCell ⟨g, 2, none⟩ a2).setCell ⟨g, 3, none⟩ a3 = w2 := ⟨_, rfl⟩
  rw [h2] at k3 ⊢
  have k4 : Blk (w2.setCell ⟨g, 4, none⟩ a4) g t #[a0, a1, a2, a3, a4, b5] := k3.put 4 a4
  exact k4.put 5 a5
theorem rin_wf {l : List Int} (h : Bytes l) : WfA (rinV l).vs := by
  have hw := atW_w5 h 0
  have h4 := atW_w5 h 4
  exact ⟨⟨by show _ ≤ atW l 0; omega, by show atW l 0 ≤ _; omega⟩, ⟨by show _ ≤ atW l 4; omega, by show atW l 4 ≤ _; omega⟩, bytes_t (bytes_d h 8) 16, ints_of_bytes (cntL_by h 24), cntL_by h _, trivial⟩
theorem cntL_255 {l : List Int} (h : Bytes l) (k : Nat) : (cntL l k).length ≤ 255 := by
  have := h.get k
  unfold cntL cntN
  rw [List.length_take]
  omega
theorem rin_tot {l : List Int} (h : Bytes l) : tot.totL (rinV l).vs ≤ 1048576 := by
  have h1 := cntL_255 h 24
  have h2 := cntL_255 h (25 + cntN l 24)
  have h3 : ((l.drop 8).take 16).length ≤ 16 := by rw [List.length_take]; omega
  show 0 + (0 + (((l.drop 8).take 16).length + ((cntL l 24).length + ((cntL l (25 + cntN l 24)).length + 0)))) ≤ 1048576
  omega
theorem riR_len (x : ChunkM) (hw : WfA x.vs) (_ : tot.totL x.vs ≤ 1048576) : vcA (riR x).vs ≤ 1000000000 := by
  have hb : Bytes x.Body := hw.2.2.1
  unfold riR
  cases e : riV x with
  | none => simp [InitResultM.vs, vcA, vc, cc]
  | some y =>
    have hy : y = rinV x.Body := by unfold riV at e; split at e <;> cases e; rfl
    subst hy
    have h1 : (rinV x.Body).Addrs.length ≤ 255 := cntL_255 hb 24
    have h2 : (rinV x.Body).Cookie.length ≤ 255 := cntL_255 hb _
    have h3 : (rinV x.Body).Random.length ≤ 16 := by show ((x.Body.drop 8).take 16).length ≤ 16; rw [List.length_take]; omega
    simp [InitResultM.vs, vcA, vc, cc]; omega
theorem riV_chF {x : ChunkM} (h : chF x.Kind x.Flags x.Body ≠ 0) : riV x = none := by
  cases e : riV x with
  | none => rfl
  | some y => exact absurd (chF_init ((riV_iff x y).1 e)) h
theorem riV_cnt {x : ChunkM} (h : ¬ rinOk x.Body) : riV x = none := by
  unfold riV
  rw [if_neg (fun q => h q.1)]
/-- The cookie so far. -/
def SrIn (g B : Nat) (z0 z1 : Int) (rv av : Value) (ck : List Int) (ww : World) (j : Nat) (wr : World) : Prop :=
  ∃ v, Blk wr g 39 #[.int .i64 z0, .int .i64 z1, rv, av, v] ∧ wr.ownsRow B 5 1 v j ((ck.take j).map (Value.int .u8)) ∧ Win g (g + 1) ww wr ∧ B ≤ wr.heap.size
set_option maxRecDepth 100000 in
set_option maxHeartbeats 8000000 in
theorem ri_spec (x : ChunkM) (vs : List Value) (u : World) (h : RdA u x.vs vs) (hw : WfA x.vs) (ht : tot.totL x.vs ≤ 1048576) : Calls Tryd.prog 45 #[.agg vs.toArray] u (Res u (riR x).vs) := by
  obtain ⟨A2, c2, rfl⟩ := shape_Chunk h
  have h2 := h.tl.tl.hd
  unfold Rd at h2
  obtain ⟨A', c', e, ⟨hc, hcm⟩, hA⟩ := h2
  cases e
  have hb : Bytes x.Body := hw.2.2.1
  have hm : x.Body.length ≤ 4000000 := by simp only [ChunkM.vs, tot.totL, tot] at ht; omega
  have hmI : (x.Body.length : Int) ≤ 4000000 := by omega
  have K1 := (Blk.new u 28 #[.int .i64 x.Kind, .int .i64 x.Flags, .slice A2 x.Body.length c2]).alloc (.cells #[.int .i64 0, .int .i64 0, .int .i64 0, .slice none 0 0, .slice none 0 0, .slice none 0 0] 54)
  have R1 := Blk.new (u.alloc (.cells #[.int .i64 x.Kind, .int .i64 x.Flags, .slice A2 x.Body.length c2] 28)) 54 #[.int .i64 0, .int .i64 0, .int .i64 0, .slice none 0 0, .slice none 0 0, .slice none 0 0]
  have B1 := bal (bal (Below.refl u.heap.size u) (.cells #[.int .i64 x.Kind, .int .i64 x.Flags, .slice A2 x.Body.length c2] 28)) (.cells #[.int .i64 0, .int .i64 0, .int .i64 0, .slice none 0 0, .slice none 0 0, .slice none 0 0] 54)
  rw [World.size_alloc] at R1
  obtain ⟨w1, hw1⟩ : ∃ w1, (u.alloc (.cells #[.int .i64 x.Kind, .int .i64 x.Flags, .slice A2 x.Body.length c2] 28)).alloc (.cells #[.int .i64 0, .int .i64 0, .int .i64 0, .slice none 0 0, .slice none 0 0, .slice none 0 0] 54) = w1 := ⟨_, rfl⟩
  have hs1 : w1.heap.size = u.heap.size + 1 + 1 := by rw [← hw1]; simp
  rw [hw1] at K1 R1 B1
  have HF := hidH (chFault_spec x.Kind x.Flags A2 x.Body c2 w1 (by omega))
  unfold ckV at HF
  have HT := hidH (And.intro K1 (And.intro R1 (And.intro B1 (bs_below hA B1))))
  have HS := hidH hs1
  have HM := hidH (And.intro hb (And.intro hm (RdA.below B1 h)))
  have HCC := hidH (And.intro hc hcm)
  have k0 := K1.cell 0
  have k1 := K1.cell 1
  have k2 := K1.cell 2
  simp only [List.getElem?_toArray, List.getElem?_cons_succ, List.getElem?_cons_zero] at k0 k1 k2
  have hlt := K1.lt
  have NO : ∀ (W : World) (C : Int), riV x = none → rdOf x = C → OwN u.heap.size W.heap.size W (riR x).vs [.int .i64 C, .int .i64 0, .int .i64 0, .slice none 0 0, .slice none 0 0, .slice none 0 0] := fun W C e1 e2 => by
    have e : (riR x).vs = [.int (rdOf x), .int 0, .int 0, .bs [], .is [], .bs []] := by rw [riR, e1]; rfl
    rw [e, e2]
    exact OwN.int _ (OwN.int 0 (OwN.int 0 (OwN.nobs (OwN.nois (OwN.nobs (OwN.nil (Nat.le_refl _)))))))
  replace NO := hidH NO
  clear h K1 R1 B1 hA hb hm hw ht hc hcm hs1
  obtain ⟨f, hf⟩ : ∃ f, chF x.Kind x.Flags x.Body = f := ⟨_, rfl⟩
  rw [hf] at HF
  have HEF := hidH hf
  clear hf
  go_enter Tryd.func45, Tryd.ntmps45
  go_wp2_with fail
  refine HF.out.mono ?_
  rintro e w2 ⟨rfl, b2⟩
  clear HF k0 k1 k2 hlt hw1
  have K2 := HT.out.1.below b2
  have R2 := HT.out.2.1.below b2
  have HB2 := hidH (btr HT.out.2.2.1 b2)
  have HA2 := hidH (bs_below HT.out.2.2.2 b2)
  have HZ2 := hidH b2.size
  have HB12 := hidH b2
  have k0 := K2.cell 0
  have k1 := K2.cell 1
  have k2 := K2.cell 2
  have r0 := R2.cell 0
  have f0 := R2.frozen 0
  have r1 := R2.cell 1
  have f1 := R2.frozen 1
  have r2 := R2.cell 2
  have f2 := R2.frozen 2
  have r3 := R2.cell 3
  have f3 := R2.frozen 3
  have r4 := R2.cell 4
  have f4 := R2.frozen 4
  have r5 := R2.cell 5
  have f5 := R2.frozen 5
  simp only [List.getElem?_toArray, List.getElem?_cons_succ, List.getElem?_cons_zero] at k0 k1 k2 r0 r1 r2 r3 r4 r5
  have hk := K2.lt
  have hr := R2.lt
  have HKR := hidH (And.intro K2 R2)
  by_cases hz : f = 0
  · have q : (f != 0) = false := by rw [bne_eq_false_iff_eq]; exact hz
    have H5 := hidH (show rdOf x = 5 by unfold rdOf; rw [HEF.out, if_pos hz])
    clear b2 K2 R2 hz
    have hD := Blk.new w2 54 #[.int .i64 5, .int .i64 0, .int .i64 0, .slice none 0 0, .slice none 0 0, .slice none 0 0]
    have b3 := bal (Below.refl w2.heap.size w2) (.cells #[.int .i64 5, .int .i64 0, .int .i64 0, .slice none 0 0, .slice none 0 0, .slice none 0 0] 54)
    obtain ⟨wb, hwb⟩ : ∃ wb, w2.alloc (.cells #[.int .i64 5, .int .i64 0, .int .i64 0, .slice none 0 0, .slice none 0 0, .slice none 0 0] 54) = wb := ⟨_, rfl⟩
    have hsb : wb.heap.size = w2.heap.size + 1 := by rw [← hwb]; simp
    rw [hwb] at hD b3
    have HWB := hidH hwb
    have HDB := hidH hD
    have HB3 := hidH b3
    have HSB := hidH hsb
    have Rb := HKR.out.2.below b3
    have Kb := HKR.out.1.below b3
    have HRK := hidH (And.intro Rb Kb)
    clear hwb hD b3 hsb Rb Kb
    go_upto_region 5 with (fail)
    rw [HWB.out]
    clear k0 k1 k2 r0 r1 r2 r3 r4 r5 f0 f1 f2 f3 f4 f5 hk hr
    have k0 := HRK.out.2.cell 0
    have k1 := HRK.out.2.cell 1
    have k2 := HRK.out.2.cell 2
    have r0 := HRK.out.1.cell 0
    have f0 := HRK.out.1.frozen 0
    have r1 := HRK.out.1.cell 1
    have f1 := HRK.out.1.frozen 1
    have r2 := HRK.out.1.cell 2
    have f2 := HRK.out.1.frozen 2
    have r3 := HRK.out.1.cell 3
    have f3 := HRK.out.1.frozen 3
    have r4 := HRK.out.1.cell 4
    have f4 := HRK.out.1.frozen 4
    have r5 := HRK.out.1.cell 5
    have f5 := HRK.out.1.frozen 5
    have d0 := HDB.out.cell 0
    have d1 := HDB.out.cell 1
    have d2 := HDB.out.cell 2
    have d3 := HDB.out.cell 3
    have d4 := HDB.out.cell 4
    have d5 := HDB.out.cell 5
    simp only [List.getElem?_toArray, List.getElem?_cons_succ, List.getElem?_cons_zero] at k0 k1 k2 r0 r1 r2 r3 r4 r5 d0 d1 d2 d3 d4 d5
    have hk := HRK.out.2.lt
    have hr := HRK.out.1.lt
    have hd := HDB.out.lt
    by_cases hl : x.Body.length < 24
    · have hlI : (x.Body.length : Int) < 24 := by omega
      have HN := hidH (riV_cnt (x := x) (fun q => by have := q.1; omega))
      clear hl
      go_wp2
      exact bodyPost_ret (v := .agg #[.int .i64 5, .int .i64 0, .int .i64 0, .slice none 0 0, .slice none 0 0, .slice none 0 0]) (by simp [results, Tryd.results45, go_sem, r0, r1, r2, r3, r4, r5]) rfl ⟨_, rfl, NO.out _ 5 HN.out H5.out, by
        iterate 6 (refine bst ?_ (Nat.le_succ _) _)
        exact btr HB2.out HB3.out⟩
    · have hlI : ¬ (x.Body.length : Int) < 24 := by omega
      have HL := hidH (show 24 ≤ x.Body.length by omega)
      clear hl
      go_wp2
      obtain ⟨L8, hL8⟩ : ∃ l, (x.Body.drop 8).take 16 = l := ⟨_, rfl⟩
      have h16 : L8.length = 16 := by rw [← hL8, List.length_take, List.length_drop]; have := HL.out; omega
      have HSL := hidH (fun (q : World) => cut_lh A2 x.Body.length c2 8 16 24 (by omega) (by have := HL.out; have := HCC.out.1; omega) q)
      have HBS := hidH (fun (q : World) (hq : Below wb.heap.size wb q) => show Bs q (cutA A2 8 c2) L8 from cutA_bs (i := 8) (c := c2) (bs_below (bs_below HA2.out HB3.out) hq) (by have := HL.out; omega) HCC.out.1 (fun j hj => by have hj6 : j < 16 := h16 ▸ hj; rw [← hL8]; simp [List.getD_eq_getElem?_getD, List.getElem?_drop, hj6]))
      obtain ⟨A8, hA8⟩ : ∃ a, cutA A2 8 c2 = a := ⟨_, rfl⟩
      obtain ⟨c8, hc8⟩ : ∃ a, c2 - 8 = a := ⟨_, rfl⟩
      rw [hA8, hc8] at HSL
      rw [hA8] at HBS
      have HCP := hidH (fun (q : World) (hq : Below wb.heap.size wb q) => show Calls Tryd.prog 83 #[.slice A8 16 c8] q fun e w' => ∃ v, e = .returned v ∧ w'.ownsRow q.heap.size 5 1 v 16 (L8.map (Value.int .u8)) ∧ Below q.heap.size q w' from by
        have h := copy_any A8 L8 c8 q (HBS.out q hq) (by omega)
        rw [h16] at h
        refine h.mono (fun e w' q => ?_)
        obtain ⟨v, q1, q2, q3⟩ := q
        rw [h16] at q2
        exact ⟨v, q1, q2, q3⟩)
      obtain ⟨z0, hz0⟩ : ∃ z, atW x.Body 0 = z := ⟨_, rfl⟩
      obtain ⟨z1, hz1⟩ : ∃ z, atW x.Body 4 = z := ⟨_, rfl⟩
      have HC0 := hidH (fun (q : World) (hq : Below wb.heap.size wb q) => l1At_w A2 x.Body c2 0 q (bs_below (bs_below HA2.out HB3.out) hq) HM.out.1 (by have := HL.out; omega) HM.out.2.1)
      have HC1 := hidH (fun (q : World) (hq : Below wb.heap.size wb q) => l1At_w A2 x.Body c2 4 q (bs_below (bs_below HA2.out HB3.out) hq) HM.out.1 (by have := HL.out; omega) HM.out.2.1)
      rw [hz0] at HC0
      rw [hz1] at HC1
      have HKb := hidH (HKR.out.1.below HB3.out)
      have HRb := hidH (HKR.out.2.below HB3.out)
      have HE := hidH (And.intro hL8 (And.intro hz0 (And.intro hz1 h16)))
      clear hL8 h16 hA8 hc8 hz0 hz1 k0 k1 k2 hk hr hd r0 r1 r2 r3 r4 r5 f0 f1 f2 f3 f4 f5 d0 d1 d2 d3 d4 d5
      refine wp_region_any (by kernel_rfl) ?_
      refine regSi _ _ _ _ _ _ _ _ _ _ _ _ _ _ _ _ wb u.heap.size x.Body.length c2 c8 A2 A8 L8 z0 z1 HKb.out.lt (by have := HKb.out.cell 2; simpa using this) HSL HC0.out HC1.out HCP.out (by kernel_rfl) (by kernel_rfl) (by kernel_rfl) rfl (fun h => by cases h) ((Below.refl _ _).drew) ?_
      intros
      rename_i wv hO hX
      obtain ⟨g, A9, c9, rfl, kg, ko, hgw⟩ := hX
      have hgl := kg.lt
      obtain ⟨b, hbB, hbC, hbg, hbo⟩ : ∃ b, wb.heap.size ≤ b ∧ b < wv.heap.size ∧ b ≠ g ∧ OwV b (b + 1) wv (.bs L8) (.slice A9 16 c9) := by
        have h16 := HE.out.2.2.2
        rw [← h16] at ko kg ⊢
        exact rnd_b (by omega) (fun j k => ⟨by simp, by simp, by simp⟩) kg ko
      have HG := hidH (And.intro hgw (And.intro hgl (And.intro hbB (And.intro hbC hbg))))
      have HBO := hidH hbo
      have HO := hidH hO
      have HKV := hidH (HKb.out.below hO)
      have HRV := hidH (HRb.out.below hO)
      have HDV := hidH (HDB.out.below hO)
      have HAV := hidH (bs_below (bs_below HA2.out HB3.out) hO)
      have HKG := hidH kg
      have HBV := hidH (btr HB2.out (btr HB3.out hO))
      have HCN := hidH (l5Count_any A2 x.Body c2 24 wv HAV.out HM.out.1 HM.out.2.1 (by omega))
      have k0 := HKV.out.cell 0
      have k1 := HKV.out.cell 1
      have k2 := HKV.out.cell 2
      simp only [List.getElem?_toArray, List.getElem?_cons_succ, List.getElem?_cons_zero] at k0 k1 k2
      have hk := HKV.out.lt
      have HW2 := hidH (show u.heap.size < w2.heap.size by have := HS.out; have := HZ2.out; omega)
      clear kg ko hO hgw hgl hbB hbC hbg hbo HC0 HC1 HCP HSL HBS HKb HRb
      go_wp2_with fail
      refine HCN.out.mono ?_
      rintro e w3 ⟨b3, ⟨hok, A1, c1, rfl, ho⟩ | ⟨hno, rfl⟩⟩
      · clear k0 k1 k2 hk HCN
        obtain ⟨p, hp⟩ : ∃ p, 24 + 1 + cntN x.Body 24 = p := ⟨_, rfl⟩
        obtain ⟨n1, hn1⟩ : ∃ n, (cntL x.Body 24).length = n := ⟨_, rfl⟩
        rw [hp, hn1]
        rw [hn1] at ho
        have HP := hidH hp
        have HOK := hidH hok
        have hg3 : g < w3.heap.size := Nat.lt_of_lt_of_le HG.out.2.1 b3.size
        have kg3 := HKG.out.below b3
        have wn := set_win w3 g 3 (.slice A1 n1 c1)
        have kg4 : Blk (w3.setCell ⟨g, 3, none⟩ (.slice A1 n1 c1)) g 39 #[.int .i64 z0, .int .i64 z1, .slice A9 16 c9, .slice A1 n1 c1, .slice none 0 0] := kg3.put 3 _
        have hw2g : wb.heap.size ≤ g := HG.out.1
        have hsb := HSB.out
        have hug : u.heap.size + 1 < wb.heap.size := by have := HS.out; have := HZ2.out; omega
        have kk4 := (HKV.out.below b3).win2 wn (.inl (by omega))
        have rr4 := (HRV.out.below b3).win2 wn (.inl (by omega))
        have dd4 := (HDV.out.below b3).win2 wn (.inl (by omega))
        have oo4 := (HBO.out.below b3).win wn (by have := HG.out.2.2.2.2; omega)
        have ad4 := ho.win wn (.inr (by have := HG.out.2.1; omega))
        have aa4 : Bs (w3.setCell ⟨g, 3, none⟩ (.slice A1 n1 c1)) A2 x.Body := bs_below HA2.out ((btr HB3.out (btr HO.out b3)).setCell (p := ⟨g, 3, none⟩) (by show _ ≤ g; have := HG.out.1; have := HSB.out; omega) _)
        have bb4 : Below u.heap.size u (w3.setCell ⟨g, 3, none⟩ (.slice A1 n1 c1)) := (btr HBV.out b3).setCell (p := ⟨g, 3, none⟩) (by show _ ≤ g; omega) _
        have bw4 : Below w2.heap.size w2 (w3.setCell ⟨g, 3, none⟩ (.slice A1 n1 c1)) := (btr HB3.out (btr HO.out b3)).setCell (p := ⟨g, 3, none⟩) (by show _ ≤ g; omega) _
        have hf3 := kg3.frozen 3
        have hx3 := kg3.cell 3
        simp only [List.getElem?_toArray, List.getElem?_cons_succ, List.getElem?_cons_zero] at hx3
        obtain ⟨w4, hw4⟩ : ∃ w4, w3.setCell ⟨g, 3, none⟩ (.slice A1 n1 c1) = w4 := ⟨_, rfl⟩
        have hs4 : w4.heap.size = w3.heap.size := by rw [← hw4]; simp [World.setCell]
        rw [hw4] at kg4 kk4 rr4 dd4 oo4 ad4 aa4 bb4 bw4
        have HZ34 := hidH (And.intro hs4 b3.size)
        have k2 := kk4.cell 2
        simp only [List.getElem?_toArray, List.getElem?_cons_succ, List.getElem?_cons_zero] at k2
        have hk := kk4.lt
        have HX4 := hidH (And.intro kg4 (And.intro kk4 (And.intro rr4 (And.intro dd4 (And.intro oo4 (And.intro ad4 (And.intro bb4 bw4)))))))
        have HCN := hidH (l5Count_any A2 x.Body c2 p w4 aa4 HM.out.1 HM.out.2.1 (by have := HM.out.1.get 24; have := HP.out; unfold cntN at this; omega))
        have HN1 := hidH hn1
        clear hp hn1 hok ho b3 kg3 wn kg4 kk4 rr4 dd4 oo4 ad4 aa4 bb4 bw4 hs4 HKV HRV HDV HBO HKG HAV hsb hug hw2g
        go_wp2_with fail
        refine HCN.out.mono ?_
        rintro e w5 ⟨b5, ⟨hok, A3, c3, rfl, ho⟩ | ⟨hno, rfl⟩⟩
        · obtain ⟨ck, hck⟩ : ∃ l, cntL x.Body p = l := ⟨_, rfl⟩
          obtain ⟨n3, hn3⟩ : ∃ n, ck.length = n := ⟨_, rfl⟩
          rw [hck, hn3]
          rw [hck, hn3] at ho
          have HOK2 := hidH hok
          have hcb : Bytes ck := by rw [← hck]; exact cntL_by HM.out.1 p
          have hc255 : n3 ≤ 255 := by rw [← hn3, ← hck]; exact cntL_255 HM.out.1 p
          have HCK := hidH (And.intro hck (And.intro hn3 (And.intro hcb hc255)))
          have HCW := hidH (show ck = [] ∨ ∃ cb co, A3 = some ⟨cb, co, none⟩ ∧ w4.heap.size ≤ cb ∧ cb < w5.heap.size ∧ ∀ j, j < ck.length → w5.cell? ⟨cb, co + j, none⟩ = some (.int .i64 (ck.getD j 0)) by
            have h2 := ho.2
            unfold Ow at h2
            obtain ⟨A, c, e, _, h | ⟨cb, co, e1, e2, e3⟩⟩ := h2
            · exact .inl h
            · injection e with e4 _ _
              by_cases h0 : ck = []
              · exact .inl h0
              · exact .inr ⟨cb, co, e4.trans e1, (e3 0 (List.length_pos_iff.2 h0)).1.1, e2, fun j hj => (e3 j hj).2.1⟩)
          have HX5 := hidH (And.intro (HX4.out.1.below b5) (And.intro (HX4.out.2.1.below b5) (And.intro (HX4.out.2.2.1.below b5) (And.intro (HX4.out.2.2.2.1.below b5) (And.intro (HX4.out.2.2.2.2.1.below b5) (HX4.out.2.2.2.2.2.1.below b5))))))
          have HB5 := hidH (And.intro (btr HX4.out.2.2.2.2.2.2.1 b5) (And.intro (btr HX4.out.2.2.2.2.2.2.2 b5) b5.size))
          have HST := hidH (show SrIn g w5.heap.size z0 z1 (.slice A9 16 c9) (.slice A1 n1 c1) ck w5 0 w5 from ⟨_, HX5.out.1, World.ownsRow_nil _ _ _ _, Win.refl _ _ _, Nat.le_refl _⟩)
          clear ho b5 hok hck hn3 hcb hc255 HCN k2 hk hf3 hx3 hw4
          go_wp2_with fail
          go_loopw [11] (fun i wr => ∃ j : Nat, j ≤ n3 ∧ i = .int .i64 (j : Int) ∧ SrIn g w5.heap.size z0 z1 (.slice A9 16 c9) (.slice A1 n1 c1) ck w5 j wr) (fun i _ => n3 - (intOf i).toNat)
          case atStart => exact ⟨0, Nat.zero_le _, rfl, HST.out⟩
          case round =>
            obtain ⟨j, hj, rfl, hst⟩ := hrel
            obtain ⟨v, kg, ko, hW, hBW⟩ := hst
            have HGS := hidH (show g < w4.heap.size ∧ w4.heap.size ≤ w5.heap.size by have := HG.out.2.1; have := HZ34.out.1; have := HZ34.out.2; have := HB5.out.2.2; omega)
            have hjI : (j : Int) ≤ 255 := by have := HCK.out.2.2.2; omega
            have hj00 : (0 : Int) ≤ (j : Int) := by omega
            by_cases hlt : j < n3
            · have hlt1 : (j : Int) < (n3 : Int) := by omega
              have HLT := hidH hlt
              have HKO := hidH ko
              have HKG := hidH kg
              have HWW := hidH hW
              have HBW := hidH hBW
              obtain ⟨cb, co, rfl, hcg, hcl, hce⟩ : ∃ cb co, A3 = some ⟨cb, co, none⟩ ∧ w4.heap.size ≤ cb ∧ cb < w5.heap.size ∧ ∀ j, j < ck.length → w5.cell? ⟨cb, co + j, none⟩ = some (.int .i64 (ck.getD j 0)) := by
                rcases HCW.out with h | h
                · have := HCK.out.2.1; rw [h] at this; simp at this; omega
                · exact h
              obtain ⟨z, hz⟩ : ∃ z, ck.getD j 0 = z := ⟨_, rfl⟩
              have hzb := HCK.out.2.2.1.get j
              have hcj := hce j (by have := HCK.out.2.1; omega)
              rw [hz] at hzb hcj
              have HZ := hidH hz
              have HCJ := hidH (And.intro hcj (And.intro hzb (And.intro hcl hcg)))
              clear kg ko hW hBW hlt hz hzb hcj hcl hcg hce
              go_wp2
              refine wp_region_any (by kernel_rfl) ?_
              refine regSj _ _ _ _ _ _ _ _ _ _ _ _ _ _ _ _ _ _ _ _ _ _ _ _ _ _ _ _ _ _ _ _ _ _ _ _ _ _ _ _ _ _ _ _ _ _ _ _ _ _ _ _ _ _ _ _ _ _ _ _ _ _ _ _ _ _ _ _ _ _ _ _ _ _ _ _ _ _ _ _ _ w5 g w5.heap.size j j cb co n3 c3 z z0 z1 (.slice A9 16 c9) (.slice A1 n1 c1) v _ (by have := HGS.out; omega) (Nat.le_refl _) (by have := HCK.out.2.2.2; have := HLT.out; omega) HCJ.out.2.2.1 (.inr (by have := HGS.out.1; have := HCJ.out.2.2.2; omega)) HCJ.out.1 (by omega) hlt1 HCJ.out.2.1.1 HCJ.out.2.1.2 (by kernel_rfl) (by kernel_rfl) (by kernel_rfl) rfl ⟨(fun h => by cases h), (fun h => by cases h), (fun h => by cases h)⟩ (fun _ => HKG.out.below (Below.refl _ _).drew) (fun _ => own_below0 HKO.out (Below.refl _ _).drew) (HWW.out.andBelow5 (Below.refl _ _).drew) HBW.out ?_
              intros
              rename_i W gW gB gT
              have HN := hidH (show SrIn g w5.heap.size z0 z1 (.slice A9 16 c9) (.slice A1 n1 c1) ck w5 (j + 1) W by
                obtain ⟨v2, q1, q2⟩ := gT
                refine ⟨v2, q1, ?_, gW, gB⟩
                rw [take_getD (by have := HCK.out.2.1; have := HLT.out; omega), List.map_append]
                have e : (ck.drop j).getD 0 0 = z := by rw [← HZ.out]; simp [List.getD_eq_getElem?_getD]
                rw [e]
                exact q2)
              clear gW gB gT
              go_wp2
              go_roundw
              case rel => exact ⟨j + 1, HLT.out, by go_num, HN.out⟩
              case measure => simp [intOf]; have := HLT.out; omega
            · have hlt1 : ¬ (j : Int) < (n3 : Int) := by omega
              have hjn : j = n3 := by omega
              rw [hjn] at ko
              clear hjn
              rw [List.take_of_length_le (by have := HCK.out.2.1; omega)] at ko
              have o2 := ko
              rw [← HCK.out.2.1] at o2
              obtain ⟨A4, c4, e9, ob9, k9, m9⟩ := own_ob o2
              rw [HCK.out.2.1] at e9
              subst e9
              have hov := ob9.owv (Nat.le_refl _) ⟨k9, m9⟩
              rw [HCK.out.2.1] at hov
              have hwin := hW
              have hrnd := (HX5.out.2.2.2.2.1.win hW (by have := HG.out.2.2.2.2; omega)).mono (B' := wb.heap.size) (C' := wv.heap.size) HG.out.2.2.1 HG.out.2.2.2.1 (by have := HZ34.out.1; have := HZ34.out.2; have := HGS.out; omega)
              have hadr := (HX5.out.2.2.2.2.2.win hW (.inr (by have := HG.out.2.1; omega))).mono (B' := wv.heap.size) (C' := w5.heap.size) (Nat.le_refl _) (by have := HZ34.out.1; have := HGS.out.2; omega) hBW
              have HRAW := hidH (show rinV x.Body = ⟨z0, z1, L8, cntL x.Body 24, ck⟩ by
                have hp : 25 + cntN x.Body 24 = p := by have := HP.out; omega
                rw [rinV, hp, HE.out.1, HE.out.2.1, HE.out.2.2.1, HCK.out.1])
              have HOV := hidH (show OwN wb.heap.size wr.heap.size wr (rinV x.Body).vs [.int .i64 z0, .int .i64 z1, .slice A9 16 c9, .slice A1 n1 c1, .slice A4 n3 c4] by
                rw [HRAW.out]
                exact OwN.int z0 (OwN.int z1 (OwN.cons (B := wb.heap.size) (C := wv.heap.size) (D := wr.heap.size) hrnd (OwN.cons (B := wv.heap.size) (C := w5.heap.size) (D := wr.heap.size) hadr (OwN.cons (B := w5.heap.size) (C := wr.heap.size) (D := wr.heap.size) hov (OwN.nil (Nat.le_refl _)) hBW (Nat.le_refl _)) (by have := HZ34.out.1; have := HZ34.out.2; have := HGS.out.2; omega) hBW) HO.out.size (by have := HZ34.out.1; have := HZ34.out.2; have := HGS.out.2; omega))))
              have HPA := hidH (pi_spec (rinV x.Body) x.Kind _ wr HOV.out.rd (rin_wf HM.out.1) (rin_tot HM.out.1))
              have hug : u.heap.size + 1 < wb.heap.size ∧ w2.heap.size < g := by have := HS.out; have := HZ2.out; have := HSB.out; have := HG.out.1; omega
              have kk := HX5.out.2.1.win2 hW (.inl (by have := HG.out.1; omega))
              have HRD := hidH (And.intro (HX5.out.2.2.1.win2 hW (.inl (by have := HG.out.1; omega))) (HX5.out.2.2.2.1.win2 hW (.inl hug.2)))
              have HKK := hidH kk
              have HUW := hidH (And.intro (show Below u.heap.size u wr from ⟨hW.os.trans HB5.out.1.os, hW.tape.trans HB5.out.1.tape, hW.output.trans HB5.out.1.output, Nat.le_trans HB5.out.1.size hW.size, fun q hq => (hW.block q (Nat.lt_of_lt_of_le hq HB5.out.1.size) (.inl (by have := HW2.out; omega))).trans (HB5.out.1.block q hq)⟩)
                (show Below w2.heap.size w2 wr from ⟨hW.os.trans HB5.out.2.1.os, hW.tape.trans HB5.out.2.1.tape, hW.output.trans HB5.out.2.1.output, Nat.le_trans HB5.out.2.1.size hW.size, fun q hq => (hW.block q (Nat.lt_of_lt_of_le hq HB5.out.2.1.size) (.inl (by omega))).trans (HB5.out.2.1.block q hq)⟩))
              have a0 := kg.cell 0
              have a1 := kg.cell 1
              have a2 := kg.cell 2
              have a3 := kg.cell 3
              have a4 := kg.cell 4
              have k0 := kk.cell 0
              simp only [List.getElem?_toArray, List.getElem?_cons_succ, List.getElem?_cons_zero] at a0 a1 a2 a3 a4 k0
              have hga := kg.lt
              have hka := kk.lt
              have HKG := hidH kg
              have HWW := hidH hBW
              clear kg ko hW hwin hBW hlt o2 ob9 k9 m9 hov hrnd hadr kk hug
              go_wp2_with fail
              refine HPA.out.mono ?_
              rintro e w6 ⟨rs, rfl, hoz, b6⟩
              have HIS := hidH (l5Is_any u.heap.size 0 x (piR (rinV x.Body) x.Kind) rs w6 (RdL.of_cells (RdA.below (btr HB12.out (btr HUW.out.2 b6)) HM.out.2.2) (fun k hk => by rw [Nat.zero_add, (HKK.out.below b6).cell k]; simp)) hoz.rd HM.out.1 (piR_b (bytes_t (bytes_d HM.out.1 8) 16) (cntL_by HM.out.1 _)))
              have HO6 := hidH (HOV.out.below b6)
              have HA6 := hidH (And.intro (HKG.out.below b6) (And.intro (HRD.out.1.below b6) (HRD.out.2.below b6)))
              have HZ6 := hidH b6.size
              have HU6 := hidH (btr HUW.out.1 b6)
              obtain ⟨bb, hbb⟩ : ∃ bb, isM x (piR (rinV x.Body) x.Kind) = bb := ⟨_, rfl⟩
              rw [hbb] at HIS
              have HBX := hidH hbb
              clear hoz b6 HPA HOV HKG a0 a1 a2 a3 a4 hga hbb k0 hka
              go_wp2_with fail
              refine HIS.out.mono ?_
              rintro e w7 ⟨rfl, b7⟩
              have HO7 := hidH (HO6.out.below b7)
              have HZ7 := hidH b7.size
              have KA := HA6.out.1.below b7
              have R7 := HA6.out.2.1.below b7
              have D7 := HA6.out.2.2.below b7
              have HBu := hidH (btr HU6.out b7)
              have a0 := KA.cell 0
              have a1 := KA.cell 1
              have a2 := KA.cell 2
              have a3 := KA.cell 3
              have a4 := KA.cell 4
              have r0 := R7.cell 0
              have f0 := R7.frozen 0
              have r1 := R7.cell 1
              have f1 := R7.frozen 1
              have r2 := R7.cell 2
              have f2 := R7.frozen 2
              have r3 := R7.cell 3
              have f3 := R7.frozen 3
              have r4 := R7.cell 4
              have f4 := R7.frozen 4
              have r5 := R7.cell 5
              have f5 := R7.frozen 5
              have d0 := D7.cell 0
              have d1 := D7.cell 1
              have d2 := D7.cell 2
              have d3 := D7.cell 3
              have d4 := D7.cell 4
              have d5 := D7.cell 5
              simp only [List.getElem?_toArray, List.getElem?_cons_succ, List.getElem?_cons_zero] at a0 a1 a2 a3 a4 r0 r1 r2 r3 r4 r5 d0 d1 d2 d3 d4 d5
              have hga := KA.lt
              have hr := R7.lt
              have hd := D7.lt
              clear b7 HIS HO6 HA6 KA R7 D7
              cases bb
              · have HN := hidH (show riV x = none by unfold riV; rw [if_neg (fun q => by have h1 := q.2; rw [HBX.out] at h1; cases h1)])
                go_wp2
                exact bodyPost_ret (v := .agg #[.int .i64 5, .int .i64 0, .int .i64 0, .slice none 0 0, .slice none 0 0, .slice none 0 0]) (by simp [results, Tryd.results45, go_sem, r0, r1, r2, r3, r4, r5]) rfl ⟨_, rfl, NO.out _ 5 HN.out H5.out, by
                  iterate 6 (refine bst ?_ (Nat.le_succ _) _)
                  exact HBu.out⟩
              · have HV := hidH (show riV x = some (rinV x.Body) by
                  have hp : 25 + cntN x.Body 24 = p := by have := HP.out; omega
                  unfold riV; rw [if_pos ⟨⟨HL.out, HOK.out, by rw [hp]; exact HOK2.out⟩, HBX.out⟩])
                go_wp2
                exact bodyPost_ret (v := .agg #[.int .i64 0, .int .i64 z0, .int .i64 z1, .slice A9 16 c9, .slice A1 n1 c1, .slice A4 n3 c4]) (by simp [results, Tryd.results45, go_sem, r0, r1, r2, r3, r4, r5]) rfl ⟨_, rfl, by
                  have e : (riR x).vs = .int 0 :: (rinV x.Body).vs := by rw [riR, HV.out]; rfl
                  rw [e]
                  refine OwN.int 0 (OwN.mono (B := wb.heap.size) (C := wr.heap.size) ?_ (by have := HS.out; have := HZ2.out; have := HSB.out; omega) (by have := HZ6.out; have := HZ7.out; simp [World.setCell]; omega) (Nat.le_refl _))
                  iterate 6 (refine OwN.win (B' := u.heap.size + 1) (C' := u.heap.size + 1 + 1) ?_ (win_set _ _ _ _) (.inr (by have := HS.out; have := HZ2.out; have := HSB.out; omega)))
                  exact HO7.out, by
                  iterate 6 (refine bst ?_ (Nat.le_succ _) _)
                  exact HBu.out⟩
        · have HN := hidH (riV_cnt (x := x) (fun q => hno ((show 25 + cntN x.Body 24 = p by have := HP.out; omega) ▸ q.2.2)))
          have HX5 := hidH (And.intro (HX4.out.2.2.1.below b5) (HX4.out.2.2.2.1.below b5))
          have HB5 := hidH (btr HX4.out.2.2.2.2.2.2.1 b5)
          clear b5 hno HCN k2 hk hf3 hx3 hw4
          go_wp2_with fail
          go_loopw [11] (fun i wr => i = .int .i64 0 ∧ Below w5.heap.size w5 wr) (fun _ _ => 0)
          case atStart => exact ⟨rfl, Below.refl _ _⟩
          case round =>
            obtain ⟨rfl, hB⟩ := hrel
            have R7 := HX5.out.1.below hB
            have D7 := HX5.out.2.below hB
            have HBu := hidH (btr HB5.out hB)
            have r0 := R7.cell 0
            have f0 := R7.frozen 0
            have r1 := R7.cell 1
            have f1 := R7.frozen 1
            have r2 := R7.cell 2
            have f2 := R7.frozen 2
            have r3 := R7.cell 3
            have f3 := R7.frozen 3
            have r4 := R7.cell 4
            have f4 := R7.frozen 4
            have r5 := R7.cell 5
            have f5 := R7.frozen 5
            have d0 := D7.cell 0
            have d1 := D7.cell 1
            have d2 := D7.cell 2
            have d3 := D7.cell 3
            have d4 := D7.cell 4
            have d5 := D7.cell 5
            simp only [List.getElem?_toArray, List.getElem?_cons_succ, List.getElem?_cons_zero] at r0 r1 r2 r3 r4 r5 d0 d1 d2 d3 d4 d5
            have hr := R7.lt
            have hd := D7.lt
            clear hB R7 D7
            go_wp2
            exact bodyPost_ret (v := .agg #[.int .i64 5, .int .i64 0, .int .i64 0, .slice none 0 0, .slice none 0 0, .slice none 0 0]) (by simp [results, Tryd.results45, go_sem, r0, r1, r2, r3, r4, r5]) rfl ⟨_, rfl, NO.out _ 5 HN.out H5.out, by
              iterate 6 (refine bst ?_ (Nat.le_succ _) _)
              exact HBu.out⟩
      · have R7 := HRV.out.below b3
        have D7 := HDV.out.below b3
        have HBu := hidH (btr HBV.out b3)
        have HN := hidH (riV_cnt (x := x) (fun q => hno q.2.1))
        have r0 := R7.cell 0
        have f0 := R7.frozen 0
        have r1 := R7.cell 1
        have f1 := R7.frozen 1
        have r2 := R7.cell 2
        have f2 := R7.frozen 2
        have r3 := R7.cell 3
        have f3 := R7.frozen 3
        have r4 := R7.cell 4
        have f4 := R7.frozen 4
        have r5 := R7.cell 5
        have f5 := R7.frozen 5
        have d0 := D7.cell 0
        have d1 := D7.cell 1
        have d2 := D7.cell 2
        have d3 := D7.cell 3
        have d4 := D7.cell 4
        have d5 := D7.cell 5
        simp only [List.getElem?_toArray, List.getElem?_cons_succ, List.getElem?_cons_zero] at r0 r1 r2 r3 r4 r5 d0 d1 d2 d3 d4 d5
        have hr := R7.lt
        have hd := D7.lt
        clear b3 hno HCN R7 D7 k0 k1 k2 hk
        go_wp2
        exact bodyPost_ret (v := .agg #[.int .i64 5, .int .i64 0, .int .i64 0, .slice none 0 0, .slice none 0 0, .slice none 0 0]) (by simp [results, Tryd.results45, go_sem, r0, r1, r2, r3, r4, r5]) rfl ⟨_, rfl, NO.out _ 5 HN.out H5.out, by
          iterate 6 (refine bst ?_ (Nat.le_succ _) _)
          exact HBu.out⟩
  · have q : (f != 0) = true := by rw [bne_iff_ne]; exact hz
    have HN := hidH (riV_chF (x := x) (by rw [HEF.out]; exact hz))
    have H5 := hidH (show rdOf x = f by unfold rdOf; rw [HEF.out, if_neg hz])
    clear b2 K2 R2 hz
    go_wp2
    exact bodyPost_ret (v := .agg #[.int .i64 f, .int .i64 0, .int .i64 0, .slice none 0 0, .slice none 0 0, .slice none 0 0]) (by simp [results, Tryd.results45, go_sem, r0, r1, r2, r3, r4, r5]) rfl ⟨_, rfl, NO.out _ f HN.out H5.out, by
      iterate 6 (refine bst ?_ (Nat.le_succ _) _)
      exact HB2.out⟩
end Go.Proofs.YtjjileefdjjijaaDoor
