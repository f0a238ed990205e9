/- Chapter 7: the model's CheckAuth. -/
import Derived.Test.YtacdnednkglobaaGreatDoorS7KR
import Derived.Test.YtacdnednkglobaaGreatDoorNa0
import Derived.Test.YtacdnednkglobaaGreatDoorS7T
import Derived.Test.YtacdnednkglobaaGreatDoorNa3
namespace Go.Proofs.YtacdnednkglobaaGreatDoor
open Go.RowKit Go.Deep

theorem fa_ok {r : List ChunkM} (h : (faR r).Code = 0) : ∃ (j : Nat) (f : Int) (l : List Int), r[j]? = some ⟨15, f, l⟩ ∧ faR r = ⟨0, pairAt l 0, (j : Int) + 1⟩ ∧ l.length = 34 ∧ pairAt l 0 ≤ 99 ∧ csF 8 r = 0 := by
  unfold faR at h ⊢
  split at h
  · next hc =>
    rw [if_pos hc]
    obtain ⟨j, hj, e, hk, ht⟩ := faL_ok h
    obtain ⟨_, h2, h3⟩ := isTag_out ht
    refine ⟨j, r[j].Flags, r[j].Body, ?_, ?_, h2, h3, hc⟩
    · rw [List.getElem?_eq_getElem hj, ← hk]
    · rw [e]; simp
  · next hc => exact absurd h hc
/-- What a check answers whose tag chunk was found. -/
theorem caR_at {key : List Int} {r : List ChunkM} {j : Nat} {f : Int} {l : List Int} (hk : key.length ≤ 200) (hx : r[j]? = some ⟨15, f, l⟩) (hf : faR r = ⟨0, pairAt l 0, (j : Int) + 1⟩) :
    caR key r = if mtF (pairAt l 0) (r.drop (j + 1)) = 0 then (if sameM (l.drop 2) (hmL key (txtL (pairAt l 0) (r.drop (j + 1)))) then ⟨0, pairAt l 0, (j : Int) + 1⟩ else ⟨10, 0, 0⟩) else ⟨mtF (pairAt l 0) (r.drop (j + 1)), 0, 0⟩ := by
  have e1 : ((j : Int) + 1).toNat = j + 1 := by omega
  rw [caR, if_pos hk, hf, if_pos rfl, caT]
  simp only [e1, Nat.add_sub_cancel]
  rw [List.getD_eq_getElem?_getD, hx]
  rfl
theorem caR_no {key : List Int} {r : List ChunkM} (hk : key.length ≤ 200) (hf : (faR r).Code ≠ 0) : caR key r = faR r := by rw [caR, if_pos hk, if_neg hf]
theorem caR_many {key : List Int} {r : List ChunkM} (hk : ¬ key.length ≤ 200) : caR key r = ⟨2, 0, 0⟩ := by rw [caR, if_neg hk]
set_option maxRecDepth 100000 in
set_option maxHeartbeats 8000000 in
theorem ca_spec (key : List Int) (vk : Value) (r : List ChunkM) (v : Value) (u : World) (hk : Rd u (.bs key) vk) (hkb : WfV (.bs key)) (_ : tot (.bs key) ≤ 1048576) (h : Rd u (st_Chunk r) v) (hw : WfV (st_Chunk r)) (ht : tot (st_Chunk r) ≤ 1048576) :
    Calls Tryz.prog 33 #[vk, v] u (Res u (caR key r).vs) := by
  have R0 := Blk.new u 72 #[.int .i64 0, .int .i64 0, .int .i64 0]
  have b0 := bal (Below.refl u.heap.size u) (.cells #[.int .i64 0, .int .i64 0, .int .i64 0] 72)
  obtain ⟨w0, hw0⟩ : ∃ w0, u.alloc (.cells #[.int .i64 0, .int .i64 0, .int .i64 0] 72) = w0 := ⟨_, rfl⟩
  rw [hw0] at R0 b0
  have HI := hidH (fun (w : World) (hb : Below u.heap.size u w) => Rd.below hb _ h)
  have HKR := hidH (fun (w : World) (hb : Below u.heap.size u w) => Rd.below hb _ hk)
  have HW := hidH hw0
  have HR := hidH R0
  have HB := hidH b0
  have HWF := hidH (And.intro hw (And.intro ht hkb))
  have HFA := hidH (fa_spec r v w0 (HI.out _ b0) (st_Chunk_bytes hw))
  obtain ⟨PK, ck, rfl⟩ := hk.bs_sh
  have hkm := rdB_len hk
  obtain ⟨AR, cr, rfl⟩ := st_Chunk_sh h
  clear hw0 R0 b0 h hk hw ht hkb
  by_cases h200 : key.length ≤ 200
  · have h2I : ¬ (200 : Int) < (key.length : Int) := by omega
    have H200 := hidH h200
    clear h200
    go_enter Tryz.func33, Tryz.ntmps33
    go_wp2_with fail
    rw [HW.out]
    refine HFA.out.mono ?_
    rintro e w1 ⟨vs, rfl, o1, b1⟩
    obtain rfl := shape_AuthResult o1.rd
    have HB1 := hidH (btr HB.out b1)
    have HR1 := hidH (HR.out.below b1)
    clear o1 b1 HFA
    by_cases hz : (faR r).Code = 0
    · obtain ⟨j, f, l, hx, hf, hl34, h99, hcs⟩ := fa_ok hz
      have HV := hidH (caR_at H200.out hx hf)
      have HX := hidH hx
      have hjl := (List.getElem?_eq_some_iff.1 hx).1
      rw [hf]
      have HL := hidH (And.intro hl34 (And.intro hjl (csF_zero hcs).1))
      have HLB := hidH (show Bytes l from st_Chunk_bytes HWF.out.1 _ (List.mem_of_getElem? hx))
      have hp0 : 0 ≤ pairAt l 0 := by
        have h1 := HLB.out.get 0
        have h2 := HLB.out.get 1
        show 0 ≤ l.getD 0 0 * 256 + l.getD 1 0
        omega
      obtain ⟨P, hP⟩ : ∃ P, pairAt l 0 = P := ⟨_, rfl⟩
      rw [hP] at HV hp0 h99 ⊢
      have HP := hidH (And.intro hp0 h99)
      have ba := bal (Below.refl w1.heap.size w1) (.cells #[.int .i64 0, .int .i64 P, .int .i64 ((j : Int) + 1)] 72)
      have KF := Blk.new w1 72 #[.int .i64 0, .int .i64 P, .int .i64 ((j : Int) + 1)]
      have HB2 := hidH (btr HB1.out ba)
      have HR2 := hidH (HR1.out.below ba)
      obtain ⟨w2, hw2⟩ : ∃ w2, w1.alloc (.cells #[.int .i64 0, .int .i64 P, .int .i64 ((j : Int) + 1)] 72) = w2 := ⟨_, rfl⟩
      rw [hw2] at KF HB2 HR2
      have HW2 := hidH hw2
      have HKF := hidH KF
      have z0 := KF.cell 0
      have z1 := KF.cell 1
      have z2 := KF.cell 2
      simp only [List.getElem?_toArray, List.getElem?_cons_succ, List.getElem?_cons_zero] at z0 z1 z2
      have HZ := hidH (And.intro z1 z2)
      have hkf := KF.lt
      have hin : j + 1 ≤ r.length := hjl
      have HDR := hidH (fun (w : World) (hb : Below u.heap.size u w) => cutC_rd (HI.out w hb) hin)
      obtain ⟨y, hy⟩ : ∃ y, mtR P (r.drop (j + 1)) = y := ⟨_, rfl⟩
      have hyc : y.Code = mtF P (r.drop (j + 1)) := by rw [← hy, mtR_code]
      have HY := hidH hy
      have CALL := hidH (show ∀ w : World, Below w2.heap.size w2 w → Calls Tryz.prog 88 #[.int .i64 P, .slice (cutC AR (j + 1) cr) (r.length - (j + 1)) (cr - (j + 1))] w (fun e w' => ∃ (A9 : Option Addr) (c9 : Nat), e = .returned (.agg #[.int .i64 y.Code, .slice A9 y.Bytes.length c9]) ∧ Bs w' A9 y.Bytes ∧ Below w.heap.size w w') from fun (w : World) (hb : Below w2.heap.size w2 w) => (mt_spec P (r.drop (j + 1)) _ w ⟨by have := HP.out; omega, by have := HP.out; omega⟩ (HDR.out w (btr HB2.out hb)) (wf_drop HWF.out.1 _) (Nat.le_trans (tot_drop r _) HWF.out.2.1)).mono (fun e w' hh => by
        rw [hy] at hh
        obtain ⟨vs, rfl, o, b⟩ := hh
        obtain ⟨A9, c9, rfl⟩ := shape_BytesResult o.rd
        exact ⟨A9, c9, rfl, rdB o.rd.tl.hd, b⟩))
      clear hx hf hl34 h99 hcs hjl hP hp0 ba KF hw2 hz hy z1 z2
      go_wp2_with fail
      rw [HW2.out]
      go_wp2_with fail
      refine wp_region_any (by kernel_rfl) ?_
      refine regCA6 _ _ _ _ _ _ _ _ _ _ _ _ _ _ w2 w1.heap.size r.length cr (j + 1) P y.Code AR y.Bytes hkf HZ.out.1 HZ.out.2 hin CALL.out (by kernel_rfl) (by kernel_rfl) (by kernel_rfl) rfl (fun h => by cases h) (Below.refl _ _).drew ?_
      intros
      rename_i w3 b3 hT
      obtain ⟨g, A9, c9, rfl, KG, S9, hg9⟩ := hT
      have HB3 := hidH (btr HB2.out b3)
      have HR3 := hidH (HR2.out.below b3)
      have HKF3 := hidH (HKF.out.below b3)
      have HKG := hidH KG
      have HS9 := hidH S9
      obtain ⟨q0, q1, qz⟩ := KG.two
      clear KG S9 b3 CALL z0
      by_cases hc : y.Code = 0
      · have hm0 : mtF P (r.drop (j + 1)) = 0 := by rw [← hyc]; exact hc
        have hyb : y.Bytes = txtL P (r.drop (j + 1)) := by rw [← HY.out, mtR_ok hm0]
        have HV2 := hidH (show caR key r = if sameM (l.drop 2) (hmL key y.Bytes) then ⟨0, P, (j : Int) + 1⟩ else ⟨10, 0, 0⟩ by rw [HV.out, if_pos hm0, hyb])
        have HYB := hidH (show Bytes y.Bytes ∧ y.Bytes.length ≤ 500 by
          rw [hyb]
          exact ⟨txtTo_bytes HP.out.1 (by have := HP.out; omega) (cmsF_ok (csF_zero (mtF_zero hm0).2.1).2) (st_Chunk_bytes (wf_drop HWF.out.1 _)) _, (mtF_zero hm0).2.2⟩)
        obtain ⟨D, hD⟩ : ∃ D, hmL key y.Bytes = D := ⟨_, rfl⟩
        have HDB := hidH (show Bytes D by rw [← hD]; exact hmL_bytes _ _)
        obtain ⟨b, hb⟩ : ∃ b, sameM (l.drop 2) D = b := ⟨_, rfl⟩
        rw [hD, hb] at HV2
        obtain ⟨k', f', l', g0, o0, c0, B, cB, hx', e, CK, hcp⟩ := chunk_y (HI.out _ HB3.out) (show j < r.length from HL.out.2.1)
        rw [HX.out] at hx'
        injection hx' with hx'
        injection hx' with q1' q2' q3'
        subst q1' q2' q3'
        injection e with e1 e2 e3
        subst e1 e3
        have HMAC := hidH (show ∀ w : World, Below w3.heap.size w3 w → Calls Tryz.prog 90 #[.slice PK key.length ck, .slice A9 y.Bytes.length c9] w (fun e w' => ∃ (A : Option Addr) (c : Nat), e = .returned (.slice A D.length c) ∧ Bs w' A D ∧ Below w.heap.size w w') from fun (w : World) (hbw : Below w3.heap.size w3 w) => (hmac_any PK A9 key y.Bytes ck c9 w (rdB (HKR.out w (btr HB3.out hbw))) (bs_below HS9.out hbw) HWF.out.2.2 HYB.out.1 (by have := H200.out; omega) (by have := HYB.out.2; omega)).mono (fun e w' hh => by
          rw [hD] at hh
          obtain ⟨v', rfl, o, b⟩ := hh
          obtain ⟨A, c, rfl, ob, _, _⟩ := own_ob o
          exact ⟨A, c, rfl, ob.bs, b⟩))
        have hl2 : (l.drop 2).length = l.length - 2 := List.length_drop
        have SAME := hidH (show ∀ (w : World) (A : Option Addr) (c : Nat), Below w3.heap.size w3 w → Bs w A D → Calls Tryz.prog 89 #[.slice (cutA B 2 cB) (l.drop 2).length (cB - 2), .slice A D.length c] w (fun e w' => e = .returned (.bool b) ∧ Below w.heap.size w w') from fun (w : World) (A : Option Addr) (c : Nat) (hbw : Below w3.heap.size w3 w) (hA : Bs w A D) => (same_spec (cutA B 2 cB) A (l.drop 2) D (cB - 2) c w (bs_below (cutA_drop CK.body (by have := HL.out.1; omega) hcp.1) hbw) hA (fun x hx => HLB.out x (List.mem_of_mem_drop hx)) HDB.out).mono (fun e w' hh => by
          rw [hb] at hh
          exact ⟨hh.1, by rw [← hh.2]; exact Below.refl _ _⟩))
        rw [hl2] at SAME
        have r2 := CK.c2
        have hab := CK.lt
        have hkl := HKF3.out.lt
        have hgl := HKG.out.lt
        have hk2 := HKF3.out.cell 2
        simp only [List.getElem?_toArray, List.getElem?_cons_succ, List.getElem?_cons_zero] at hk2
        have hz2 : 2 ≤ l.length := by have := HL.out.1; omega
        have hj0 : (0 : Int) ≤ (j : Int) := by omega
        have hj1 : (j : Int) < (r.length : Int) := by have := HL.out.2.1; omega
        have hjm : (j : Int) ≤ 1000 := by have := HL.out; omega
        have hq1 := hidH q1
        rw [hc] at q0
        have hcr := hidH hc
        clear hc hm0 hyb hD hb CK hcp hl2 hyc q1
        go_wp2_with fail
        refine wp_region_any (by kernel_rfl) ?_
        refine regCA9 _ _ _ _ _ _ _ _ _ _ _ _ _ _ _ _ _ _ _ _ _ _ _ _ _ _ _ w3 w1.heap.size g g0 o0 r.length cr j l.length cB c9 A9 B y.Bytes D b hkl hgl hab hk2 hq1.out r2 hz2 hj0 hj1 hjm HMAC.out SAME.out (by kernel_rfl) (by kernel_rfl) (by kernel_rfl) rfl (Below.refl _ _).drew ?_
        intros
        rename_i w4 b4
        have HB4 := hidH (btr HB3.out b4)
        have R4 := HR3.out.below b4
        have K4 := HKF3.out.below b4
        have z0 := K4.cell 0
        have z1 := K4.cell 1
        have z2 := K4.cell 2
        have x0 := R4.cell 0
        have x1 := R4.cell 1
        have x2 := R4.cell 2
        have f0 := R4.frozen 0
        have f1 := R4.frozen 1
        have f2 := R4.frozen 2
        simp only [List.getElem?_toArray, List.getElem?_cons_succ, List.getElem?_cons_zero] at z0 z1 z2 x0 x1 x2
        have hkf4 := K4.lt
        have hr := R4.lt
        clear b4 R4 K4 r2 hk2 q0 hkl hgl hab
        cases b
        · have HE := hidH (show (caR key r).vs = [.int 10, .int 0, .int 0] by rw [HV2.out]; rfl)
          go_wp2
          exact bodyPost_ret (v := .agg #[.int .i64 10, .int .i64 0, .int .i64 0]) (by simp [results, Tryz.results33, go_sem, x0, x1, x2]) rfl (by rw [HE.out]; exact ar_res 10 0 0 (bst (bst (bst HB4.out (Nat.le_refl _) _) (Nat.le_refl _) _) (Nat.le_refl _) _))
        · have HE := hidH (show (caR key r).vs = [.int 0, .int P, .int ((j : Int) + 1)] by rw [HV2.out]; rfl)
          go_wp2
          exact bodyPost_ret (v := .agg #[.int .i64 0, .int .i64 P, .int .i64 ((j : Int) + 1)]) (by simp [results, Tryz.results33, go_sem, x0, x1, x2]) rfl (by rw [HE.out]; exact ar_res 0 P _ (bst (bst (bst HB4.out (Nat.le_refl _) _) (Nat.le_refl _) _) (Nat.le_refl _) _))
      · have hq : (y.Code != 0) = true := by rw [bne_iff_ne]; exact hc
        have HE := hidH (show (caR key r).vs = [.int y.Code, .int 0, .int 0] by rw [HV.out, if_neg (by rw [← hyc]; exact hc), ← hyc]; rfl)
        obtain ⟨C, hC⟩ : ∃ C, y.Code = C := ⟨_, rfl⟩
        rw [hC] at q0 hq HE
        have x0 := HR3.out.cell 0
        have x1 := HR3.out.cell 1
        have x2 := HR3.out.cell 2
        have f0 := HR3.out.frozen 0
        have f1 := HR3.out.frozen 1
        have f2 := HR3.out.frozen 2
        simp only [List.getElem?_toArray, List.getElem?_cons_succ, List.getElem?_cons_zero] at x0 x1 x2
        have hr := HR3.out.lt
        have hgl := HKG.out.lt
        clear hc hyc hC
        go_wp2
        exact bodyPost_ret (v := .agg #[.int .i64 C, .int .i64 0, .int .i64 0]) (by simp [results, Tryz.results33, go_sem, x0, x1, x2]) rfl (by rw [HE.out]; exact ar_res C 0 0 (bst (bst (bst HB3.out (Nat.le_refl _) _) (Nat.le_refl _) _) (Nat.le_refl _) _))
    · have HV := hidH (caR_no H200.out hz)
      have q : ((faR r).Code != 0) = true := by rw [bne_iff_ne]; exact hz
      have hv : (caR key r).vs = [.int (faR r).Code, .int (faR r).KeyId, .int (faR r).From] := by rw [HV.out]; rfl
      have HVS := hidH hv
      obtain ⟨C, hC⟩ : ∃ C, (faR r).Code = C := ⟨_, rfl⟩
      obtain ⟨I, hI⟩ : ∃ I, (faR r).KeyId = I := ⟨_, rfl⟩
      obtain ⟨G, hG⟩ : ∃ G, (faR r).From = G := ⟨_, rfl⟩
      rw [hC, hI, hG] at HVS
      rw [hC] at q
      rw [hC, hI, hG]
      have ba := bal (Below.refl w1.heap.size w1) (.cells #[.int .i64 C, .int .i64 I, .int .i64 G] 72)
      have KF := Blk.new w1 72 #[.int .i64 C, .int .i64 I, .int .i64 G]
      have HB2 := hidH (btr HB1.out ba)
      have R2 := HR1.out.below ba
      have z0 := KF.cell 0
      have z1 := KF.cell 1
      have z2 := KF.cell 2
      have x0 := R2.cell 0
      have x1 := R2.cell 1
      have x2 := R2.cell 2
      have f0 := R2.frozen 0
      have f1 := R2.frozen 1
      have f2 := R2.frozen 2
      simp only [List.getElem?_toArray, List.getElem?_cons_succ, List.getElem?_cons_zero] at z0 z1 z2 x0 x1 x2
      have hkf := KF.lt
      have hr := R2.lt
      clear ba KF R2 hz hv hC hI hG
      go_wp2
      exact bodyPost_ret (v := .agg #[.int .i64 C, .int .i64 I, .int .i64 G]) (by simp [results, Tryz.results33, go_sem, x0, x1, x2]) rfl (by rw [HVS.out]; exact ar_res C I G (bst (bst (bst HB2.out (Nat.le_refl _) _) (Nat.le_refl _) _) (Nat.le_refl _) _))
  · have h2I : (200 : Int) < (key.length : Int) := by omega
    have HV := hidH (show (caR key r).vs = [.int 2, .int 0, .int 0] by rw [caR_many h200]; rfl)
    have R1 := Blk.new u 72 #[.int .i64 2, .int .i64 0, .int .i64 0]
    have x0 := R1.cell 0
    have x1 := R1.cell 1
    have x2 := R1.cell 2
    simp only [List.getElem?_toArray, List.getElem?_cons_succ, List.getElem?_cons_zero] at x0 x1 x2
    have HBB := hidH (bal (Below.refl u.heap.size u) (.cells #[.int .i64 2, .int .i64 0, .int .i64 0] 72))
    clear h200 R1
    go_enter Tryz.func33, Tryz.ntmps33
    go_wp2
    exact bodyPost_ret (v := .agg #[.int .i64 2, .int .i64 0, .int .i64 0]) (by simp [results, Tryz.results33, go_sem, x0, x1, x2]) rfl (by rw [HV.out]; exact ar_res 2 0 0 HBB.out)
end Go.Proofs.YtacdnednkglobaaGreatDoor
