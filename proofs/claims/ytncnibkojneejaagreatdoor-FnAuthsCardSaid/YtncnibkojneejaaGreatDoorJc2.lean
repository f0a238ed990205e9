import Derived.Test.YtncnibkojneejaaGreatDoorJc1
import Derived.Test.YtncnibkojneejaaGreatDoorJb8
import Derived.Test.YtncnibkojneejaaGreatDoorJa0

/- Chapter 7: the program's verify, CheckAuth. -/
namespace Go.Proofs.YtncnibkojneejaaGreatDoor
open Go.RowKit Go.Deep

def VeR (id : Int) (key m : List Int) (r : List ChunkM) (u : World) (e : Ending) (w' : World) : Prop :=
  ((mtF id r ≠ 0 ∧ e = .returned (errU (mtF id r))) ∨ (mtF id r = 0 ∧ sameM m (hmL key (txtL id r)) = false ∧ e = .returned (errU 10)) ∨ (mtF id r = 0 ∧ sameM m (hmL key (txtL id r)) = true ∧ e = .returned .nilIface)) ∧ Below u.heap.size u w'
set_option maxRecDepth 100000 in
set_option maxHeartbeats 8000000 in
theorem ve_any (id : Int) (A : Option Addr) (c i : Nat) (m key : List Int) (vk : Value) (r : List ChunkM) (v : Value) (u : World) (hid : 0 ≤ id ∧ id ≤ 99) (hm : Bs u A m) (hml : m.length = 32) (hmb : Bytes m) (hk : Rd u (.bs key) vk) (hkb : Bytes key) (h200 : key.length ≤ 200) (hin : i ≤ r.length) (h : Rd u (st_Chunk r) v) (hw : WfV (st_Chunk r)) (ht : tot (st_Chunk r) ≤ 1048576) :
    Calls Tryz.prog 31 #[tagV id A 32 c (i : Int), vk, v] u (VeR id key m (r.drop i) u) := by
  unfold tagV
  have K1 := Blk.new u 60 #[.int .i64 id, .slice A 32 c, .int .i64 (i : Int)]
  have b1 := bal (Below.refl u.heap.size u) (.cells #[.int .i64 id, .slice A 32 c, .int .i64 (i : Int)] 60)
  obtain ⟨w1, hw1⟩ : ∃ w1, u.alloc (.cells #[.int .i64 id, .slice A 32 c, .int .i64 (i : Int)] 60) = w1 := ⟨_, rfl⟩
  rw [hw1] at K1 b1
  have HB1 := hidH b1
  have HW1 := hidH hw1
  have HK1 := hidH K1
  have HM := hidH (fun (w : World) (hb : Below u.heap.size u w) => bs_below hm hb)
  have HMB := hidH (And.intro hml hmb)
  obtain ⟨AR, cr, rfl⟩ := st_Chunk_sh h
  have z0 := K1.cell 0
  have z2 := K1.cell 2
  simp only [List.getElem?_toArray, List.getElem?_cons_succ, List.getElem?_cons_zero] at z0 z2
  have hkl := K1.lt
  have CALL := hidH (fun (w : World) (hb : Below w1.heap.size w1 w) => digestOf_any id key vk (r.drop i) _ w ⟨by omega, by omega⟩ (Rd.below (b1.trans (hb.mono b1.size)) _ hk) hkb h200 (cutC_rd (Rd.below (b1.trans (hb.mono b1.size)) _ h) hin) (wf_drop hw _) (Nat.le_trans (tot_drop r _) ht))
  unfold DgR at CALL
  obtain ⟨C, hC⟩ : ∃ C, mtF id (r.drop i) = C := ⟨_, rfl⟩
  obtain ⟨L, hL⟩ : ∃ L, dgL id key (r.drop i) = L := ⟨_, rfl⟩
  rw [hC, hL] at CALL
  have HC := hidH hC
  have HLL := hidH hL
  clear hw1 K1 b1 hm hml hmb h hw ht hk hkb h200 hC hL hid
  go_enter Tryz.func31, Tryz.ntmps31
  go_wp2_with fail
  rw [HW1.out]
  refine wp_region_any (by kernel_rfl) ?_
  refine regVe1 _ _ _ _ vk w1 u.heap.size r.length cr i id C AR L hkl z0 z2 hin CALL.out (by kernel_rfl) (by kernel_rfl) (by kernel_rfl) rfl (fun h => by cases h) (Below.refl _ _).drew ?_
  intros
  rename_i w2 b2 hT
  obtain ⟨g, A9, c9, rfl, KG, S9, hg9⟩ := hT
  have HB2 := hidH (btr HB1.out b2)
  have K2 := HK1.out.below b2
  have y0 := K2.cell 0
  have y1 := K2.cell 1
  simp only [List.getElem?_toArray, List.getElem?_cons_succ, List.getElem?_cons_zero] at y0 y1
  have hk2 := K2.lt
  have HS9 := hidH S9
  obtain ⟨q0, q1, qz⟩ := KG.two
  have hgl := KG.lt
  clear KG S9 b2 CALL K2 z0 z2
  by_cases hz : C = 0
  · have hm0 := HC.out.trans hz
    have hLD : L = hmL key (txtL id (r.drop i)) := by rw [← HLL.out, dgL, if_pos hm0]
    have HSA := hidH ((same_impl A A9 m L c c9 w2 (HM.out _ HB2.out) HS9.out HMB.out.2 (by rw [hLD]; exact hmL_bytes _ _)))
    rw [HMB.out.1] at HSA
    obtain ⟨b, hb⟩ : ∃ b, sameM m L = b := ⟨_, rfl⟩
    rw [hb] at HSA
    have HBB := hidH (show sameM m (hmL key (txtL id (r.drop i))) = b by rw [← hLD]; exact hb)
    have HM0 := hidH hm0
    subst hz
    clear hm0 hLD hb
    go_wp2_with fail
    refine HSA.out.mono ?_
    rintro e w3 ⟨rfl, n3, rfl⟩
    have HB3 := hidH (below_drewN HB2.out n3)
    clear HSA
    cases b
    · unfold VeR errU
      go_wp2
      go_ret
      exact ⟨.inr (.inl ⟨HM0.out, HBB.out, rfl⟩), HB3.out⟩
    · unfold VeR
      go_wp2
      go_ret
      exact ⟨.inr (.inr ⟨HM0.out, HBB.out, rfl⟩), HB3.out⟩
  · have hq : (C != 0) = true := by rw [bne_iff_ne]; exact hz
    have HZ := hidH hz
    clear hz
    unfold VeR errU
    go_wp2
    go_ret
    exact ⟨.inl ⟨by rw [HC.out]; exact HZ.out, by rw [HC.out]; rfl⟩, HB2.out⟩
theorem caR_vs {key : List Int} {r : List ChunkM} {j : Nat} {f : Int} {l : List Int} {P : Int} (hk : key.length ≤ 200) (hx : r[j]? = some ⟨15, f, l⟩) (hf : faR r = ⟨0, P, (j : Int) + 1⟩) (hP : pairAt l 0 = P) (er : Value)
    (h : (mtF P (r.drop (j + 1)) ≠ 0 ∧ er = errU (mtF P (r.drop (j + 1)))) ∨ (mtF P (r.drop (j + 1)) = 0 ∧ sameM (l.drop 2) (hmL key (txtL P (r.drop (j + 1)))) = false ∧ er = errU 10) ∨ (mtF P (r.drop (j + 1)) = 0 ∧ sameM (l.drop 2) (hmL key (txtL P (r.drop (j + 1)))) = true ∧ er = .nilIface)) :
    (∃ c, er = errU c ∧ (caR key r).vs = [.int c, .int 0, .int 0]) ∨ (er = .nilIface ∧ (caR key r).vs = [.int 0, .int P, .int ((j : Int) + 1)]) := by
  have e := caR_at hk hx (by rw [hf, hP])
  rw [hP] at e
  rcases h with ⟨h1, h2⟩ | ⟨h1, h2, h3⟩ | ⟨h1, h2, h3⟩
  · exact .inl ⟨_, h2, by rw [e, if_neg h1]; rfl⟩
  · exact .inl ⟨10, h3, by rw [e, if_pos h1, h2]; rfl⟩
  · exact .inr ⟨h3, by rw [e, if_pos h1, h2]; rfl⟩
set_option maxRecDepth 100000 in
set_option maxHeartbeats 8000000 in
theorem ca_impl (key : List Int) (vk : Value) (r : List ChunkM) (v : Value) (u : World) (ty : TypeId) (pv : Value) (hE : u.cell? ⟨1, 0, none⟩ = some (.iface ty pv)) (hg : ErrT u) (hk : Rd u (.bs key) vk) (hkb : WfV (.bs key)) (_ : tot (.bs key) ≤ 1048576) (h : Rd u (st_Chunk r) v) (hw : WfV (st_Chunk r)) (ht : tot (st_Chunk r) ≤ 1048576) :
    Calls Tryz.prog 8 #[vk, v] u (Res u (caR key r).vs) := by
  have h0lt := World.block_lt_of_cell? _ _ hE
  have R0 := Blk.new u 33 #[.int .i64 0, .int .i64 0, .int .i64 0]
  have b0 := bal (Below.refl u.heap.size u) (.cells #[.int .i64 0, .int .i64 0, .int .i64 0] 33)
  obtain ⟨w0, hw0⟩ : ∃ w0, u.alloc (.cells #[.int .i64 0, .int .i64 0, .int .i64 0] 33) = w0 := ⟨_, rfl⟩
  rw [hw0] at R0 b0
  have HI := hidH (fun (w : World) (hb : Below u.heap.size u w) => Rd.below hb _ h)
  have HKR := hidH (fun (w : World) (hb : Below u.heap.size u w) => Rd.below hb _ hk)
  have HW := hidH hw0
  have HR := hidH R0
  have HB := hidH b0
  have HWF := hidH (And.intro hw (And.intro ht hkb))
  have HG := hidH (hg.below b0)
  have HFT := hidH (findTag_any r v w0 ty pv ((b0.cell (p := ⟨1, 0, none⟩) h0lt).trans hE) (Rd.below b0 _ h) (st_Chunk_bytes hw))
  unfold FtR at HFT
  obtain ⟨PK, ck, rfl⟩ := hk.bs_sh
  have hkm := rdB_len hk
  obtain ⟨AR, cr, rfl⟩ := st_Chunk_sh h
  clear hw0 R0 b0 h hk hw ht hkb hE hg h0lt
  by_cases h200 : key.length ≤ 200
  · have h2I : ¬ (200 : Int) < (key.length : Int) := by omega
    have H200 := hidH h200
    clear h200
    go_enter Tryz.func8, Tryz.ntmps8
    go_wp2_with fail
    rw [HW.out]
    refine HFT.out.mono ?_
    rintro e w1 ⟨hh, b1⟩
    have HB1 := hidH (btr HB.out b1)
    have HR1 := hidH (HR.out.below b1)
    have HG1 := hidH (HG.out.below b1)
    clear b1 HFT
    rcases hh with ⟨hne, id, A, n, c, fr, rfl⟩ | ⟨h0, A, c, j, f, l, rfl, hx, hfr, hl32, hS⟩
    · have hv : (caR key r).vs = [.int (faR r).Code, .int 0, .int 0] := by
        rw [caR_no H200.out hne]
        unfold faR at hne ⊢
        split at hne
        · next hc => rw [if_pos hc]; rw [faL_err hne]; rfl
        · next hc => rw [if_neg hc]; rfl
      have HV := hidH hv
      obtain ⟨C, hC⟩ : ∃ C, (faR r).Code = C := ⟨_, rfl⟩
      rw [hC] at HV ⊢
      have ba := bal (Below.refl w1.heap.size w1) (.cells #[.int .i64 id, .slice A n c, .int .i64 fr] 60)
      have KT := Blk.new w1 60 #[.int .i64 id, .slice A n c, .int .i64 fr]
      have HAR := hidH (ar_err id A n c fr C _ (HG1.out.below ba))
      have HB2 := hidH (btr HB1.out ba)
      have HR2 := hidH (HR1.out.below ba)
      obtain ⟨w2, hw2⟩ : ∃ w2, w1.alloc (.cells #[.int .i64 id, .slice A n c, .int .i64 fr] 60) = w2 := ⟨_, rfl⟩
      rw [hw2] at KT HAR HB2 HR2
      have z0 := KT.cell 0
      have z1 := KT.cell 1
      have z2 := KT.cell 2
      simp only [List.getElem?_toArray, List.getElem?_cons_succ, List.getElem?_cons_zero] at z0 z1 z2
      have hk := KT.lt
      have HW2 := hidH hw2
      clear KT ba hw2 hv hne hC
      unfold tagV at HAR ⊢
      unfold errU at HAR ⊢
      go_wp2_with fail
      rw [HW2.out]
      go_wp2_with fail
      refine HAR.out.mono ?_
      rintro e w3 ⟨vs, rfl, o3, b3⟩
      obtain rfl := shape_AuthResult o3.rd
      have HB3 := hidH (btr HB2.out b3)
      have R3 := HR2.out.below b3
      have x0 := R3.cell 0
      have x1 := R3.cell 1
      have x2 := R3.cell 2
      have f0 := R3.frozen 0
      have f1 := R3.frozen 1
      have f2 := R3.frozen 2
      simp only [List.getElem?_toArray, List.getElem?_cons_succ, List.getElem?_cons_zero] at x0 x1 x2
      have hr := R3.lt
      clear o3 b3 R3 HAR z0 z1 z2
      go_wp2
      exact bodyPost_ret (v := .agg #[.int .i64 C, .int .i64 0, .int .i64 0]) (by simp [results, Tryz.results8, go_sem, x0, x1, x2]) rfl (by rw [HV.out]; exact ar_res C 0 0 (bst (bst (bst HB3.out (Nat.le_refl _) _) (Nat.le_refl _) _) (Nat.le_refl _) _))
    · obtain ⟨j', f', l', hx', hf, hl34, h99, hcs⟩ := fa_ok h0
      have hjj : j' = j := by rw [hf] at hfr; simp only at hfr; omega
      subst hjj
      rw [hx] at hx'
      injection hx' with hx'
      injection hx' with _ _ q3
      subst q3
      have hjl := (List.getElem?_eq_some_iff.1 hx).1
      have hlb : Bytes l := st_Chunk_bytes HWF.out.1 _ (List.mem_of_getElem? hx)
      have hp0 : 0 ≤ pairAt l 0 := by
        have h1 := hlb.get 0
        have h2 := hlb.get 1
        show 0 ≤ l.getD 0 0 * 256 + l.getD 1 0
        omega
      obtain ⟨P, hP⟩ := (⟨_, rfl⟩ : ∃ P, pairAt l 0 = P)
      rw [hP] at hf hp0 h99
      have HVS := hidH (fun er => caR_vs H200.out hx hf hP er)
      have hft : (faR r).KeyId = P ∧ (faR r).From = ((j' + 1 : Nat) : Int) := by rw [hf]; exact ⟨rfl, by simp⟩
      rw [hft.1, hft.2]
      have ba := bal (Below.refl w1.heap.size w1) (.cells #[.int .i64 P, .slice A 32 c, .int .i64 ((j' + 1 : Nat) : Int)] 60)
      have KT := Blk.new w1 60 #[.int .i64 P, .slice A 32 c, .int .i64 ((j' + 1 : Nat) : Int)]
      have HB2 := hidH (btr HB1.out ba)
      have HR2 := hidH (HR1.out.below ba)
      have HG2 := hidH (HG1.out.below ba)
      have HVE := hidH (ve_any P A c (j' + 1) (l.drop 2) key _ r _ _ ⟨hp0, h99⟩ (bs_below hS ba) hl32 (fun x hx => hlb x (List.mem_of_mem_drop hx)) (HKR.out _ HB2.out) HWF.out.2.2 H200.out hjl (HI.out _ HB2.out) HWF.out.1 HWF.out.2.1)
      obtain ⟨w2, hw2⟩ : ∃ w2, w1.alloc (.cells #[.int .i64 P, .slice A 32 c, .int .i64 ((j' + 1 : Nat) : Int)] 60) = w2 := ⟨_, rfl⟩
      rw [hw2] at KT HB2 HR2 HG2 HVE
      have z0 := KT.cell 0
      have z1 := KT.cell 1
      have z2 := KT.cell 2
      simp only [List.getElem?_toArray, List.getElem?_cons_succ, List.getElem?_cons_zero] at z0 z1 z2
      have hk := KT.lt
      have HKT := hidH KT
      have HW2 := hidH hw2
      obtain ⟨fr, hfr2⟩ : ∃ fr, ((j' + 1 : Nat) : Int) = fr := ⟨_, rfl⟩
      rw [hfr2] at HVE HKT z2 HW2 ⊢
      have HFR := hidH hfr2
      clear KT ba hw2 h0 hfr hl32 hS hf hl34 h99 hcs hjl hlb hp0 hP hft hx hfr2
      unfold tagV at HVE ⊢
      unfold VeR at HVE
      go_wp2_with fail
      rw [HW2.out]
      go_wp2_with fail
      refine HVE.out.mono ?_
      rintro e w3 ⟨hh, b3⟩
      have HB3 := hidH (btr HB2.out b3)
      have HR3 := hidH (HR2.out.below b3)
      have HG3 := hidH (HG2.out.below b3)
      have K3 := HKT.out.below b3
      have y0 := K3.cell 0
      have y1 := K3.cell 1
      have y2 := K3.cell 2
      simp only [List.getElem?_toArray, List.getElem?_cons_succ, List.getElem?_cons_zero] at y0 y1 y2
      have hk3 := K3.lt
      obtain ⟨er, rfl, her⟩ : ∃ er, e = .returned er ∧ ((∃ c, er = errU c ∧ (caR key r).vs = [.int c, .int 0, .int 0]) ∨ (er = .nilIface ∧ (caR key r).vs = [.int 0, .int P, .int ((j' : Int) + 1)])) := by
        rcases hh with ⟨h1, rfl⟩ | ⟨h1, h2, rfl⟩ | ⟨h1, h2, rfl⟩
        · exact ⟨_, rfl, HVS.out _ (.inl ⟨h1, rfl⟩)⟩
        · exact ⟨_, rfl, HVS.out _ (.inr (.inl ⟨h1, h2, rfl⟩))⟩
        · exact ⟨_, rfl, HVS.out _ (.inr (.inr ⟨h1, h2, rfl⟩))⟩
      clear hh b3 K3 HVE z0 z1 z2
      rcases her with ⟨C, rfl, hv⟩ | ⟨rfl, hv⟩
      · have HV := hidH hv
        have HAR := hidH (ar_err P A 32 c fr C w3 HG3.out)
        unfold tagV errU at HAR
        unfold errU
        clear hv
        go_wp2_with fail
        refine HAR.out.mono ?_
        rintro e w4 ⟨vs, rfl, o4, b4⟩
        obtain rfl := shape_AuthResult o4.rd
        have HB4 := hidH (btr HB3.out b4)
        have R4 := HR3.out.below b4
        have x0 := R4.cell 0
        have x1 := R4.cell 1
        have x2 := R4.cell 2
        have f0 := R4.frozen 0
        have f1 := R4.frozen 1
        have f2 := R4.frozen 2
        simp only [List.getElem?_toArray, List.getElem?_cons_succ, List.getElem?_cons_zero] at x0 x1 x2
        have hr := R4.lt
        clear o4 b4 R4 HAR y0 y1 y2
        go_wp2
        exact bodyPost_ret (v := .agg #[.int .i64 C, .int .i64 0, .int .i64 0]) (by simp [results, Tryz.results8, go_sem, x0, x1, x2]) rfl (by rw [HV.out]; exact ar_res C 0 0 (bst (bst (bst HB4.out (Nat.le_refl _) _) (Nat.le_refl _) _) (Nat.le_refl _) _))
      · have HV := hidH (show (caR key r).vs = [.int 0, .int P, .int fr] by rw [hv, ← HFR.out]; simp)
        have HAR := hidH (ar_nil P A 32 c fr w3)
        unfold tagV at HAR
        clear hv
        go_wp2_with fail
        refine HAR.out.mono ?_
        rintro e w4 ⟨vs, rfl, o4, b4⟩
        obtain rfl := shape_AuthResult o4.rd
        have HB4 := hidH (btr HB3.out b4)
        have R4 := HR3.out.below b4
        have x0 := R4.cell 0
        have x1 := R4.cell 1
        have x2 := R4.cell 2
        have f0 := R4.frozen 0
        have f1 := R4.frozen 1
        have f2 := R4.frozen 2
        simp only [List.getElem?_toArray, List.getElem?_cons_succ, List.getElem?_cons_zero] at x0 x1 x2
        have hr := R4.lt
        clear o4 b4 R4 HAR y0 y1 y2
        go_wp2
        exact bodyPost_ret (v := .agg #[.int .i64 0, .int .i64 P, .int .i64 fr]) (by simp [results, Tryz.results8, go_sem, x0, x1, x2]) rfl (by rw [HV.out]; exact ar_res 0 P fr (bst (bst (bst HB4.out (Nat.le_refl _) _) (Nat.le_refl _) _) (Nat.le_refl _) _))
  · have h2I : (200 : Int) < (key.length : Int) := by omega
    have HV := hidH (show (caR key r).vs = [.int 2, .int 0, .int 0] by rw [caR_many h200]; rfl)
    have R1 := Blk.new u 33 #[.int .i64 2, .int .i64 0, .int .i64 0]
    have x0 := R1.cell 0
    have x1 := R1.cell 1
    have x2 := R1.cell 2
    simp only [List.getElem?_toArray, List.getElem?_cons_succ, List.getElem?_cons_zero] at x0 x1 x2
    have HBB := hidH (bal (Below.refl u.heap.size u) (.cells #[.int .i64 2, .int .i64 0, .int .i64 0] 33))
    clear h200 R1 HFT
    go_enter Tryz.func8, Tryz.ntmps8
    go_wp2
    exact bodyPost_ret (v := .agg #[.int .i64 2, .int .i64 0, .int .i64 0]) (by simp [results, Tryz.results8, go_sem, x0, x1, x2]) rfl (by rw [HV.out]; exact ar_res 2 0 0 HBB.out)
end Go.Proofs.YtncnibkojneejaaGreatDoor

/- Chapter 7: NeedsAuth. -/
namespace Go.Proofs.YtncnibkojneejaaGreatDoor
open Go.RowKit

def naB (k : Int) : Bool := k == 193 || k == 128
set_option maxHeartbeats 400000 in
theorem na_impl (k : Int) (u : World) : Calls Tryz.prog 15 #[.int .i64 k] u fun e w' => e = .returned (.bool (naB k)) ∧ u = w' := by
  by_cases h : k = 193
  · subst h
    go_enter Tryz.func15, Tryz.ntmps15
    go_wp2
    go_ret
    exact ⟨rfl, rfl⟩
  · have e : naB k = (k == 128) := by simp [naB, h]
    have q : (k == 193) = false := by simp [h]
    rw [e]
    clear h e
    go_enter Tryz.func15, Tryz.ntmps15
    go_wp2
    go_ret
    exact ⟨rfl, rfl⟩
end Go.Proofs.YtncnibkojneejaaGreatDoor

/- The laws' lwBig. -/
namespace Go.Proofs.YtncnibkojneejaaGreatDoor
open Go.RowKit

set_option maxHeartbeats 400000 in
theorem big8_any (A : Option Addr) (n c : Nat) (w : World) : Calls Tryz.prog 4 #[.slice A n c] w fun e w' => e = .returned (.bool (decide ((1048576 : Int) < (n : Int)))) ∧ w = w' := by
  go_enter Tryz.func4, Tryz.ntmps4
  go_wp2
  go_ret
  exact ⟨rfl, rfl⟩
end Go.Proofs.YtncnibkojneejaaGreatDoor
