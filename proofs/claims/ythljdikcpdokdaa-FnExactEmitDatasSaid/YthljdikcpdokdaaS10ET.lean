/- Chapter 10: the model's EmitDatas. (WRITTEN BY tools/emit10t.py) -/
import Derived.Test.YthljdikcpdokdaaS10EM
import Derived.Test.YthljdikcpdokdaaNb4
namespace Go.Proofs.Ythljdikcpdokdaa
open Go.RowKit Go.Deep

set_option maxRecDepth 100000 in
set_option maxHeartbeats 8000000 in
theorem emw_spec (y : SendM) (vs : List Value) (now rto most : Int) (u : World) (h : RdA u y.vs vs) : Calls Try.prog 31 #[.agg vs.toArray, .int .i64 now, .int .i64 rto, .int .i64 most] u (Res u (emR y now rto most).vs) := by
  obtain ⟨A2, c2, A3, c3, rfl, i2, i3, m2, m3, _⟩ := send_sh h
  have KS := (Blk.new u 47 #[.int .i64 y.Next, .int .i64 y.Acked, .slice A2 y.Seqs.length c2, .slice A3 y.Items.length c3]).alloc (.cells #[.int .i64 0, .int .i64 0, .int .i64 0, .slice none 0 0, .slice none 0 0, .slice none 0 0, .bool false] 51)
  have KR := Blk.new (u.alloc (.cells #[.int .i64 y.Next, .int .i64 y.Acked, .slice A2 y.Seqs.length c2, .slice A3 y.Items.length c3] 47)) 51 #[.int .i64 0, .int .i64 0, .int .i64 0, .slice none 0 0, .slice none 0 0, .slice none 0 0, .bool false]
  have B1 := bal (bal (Below.refl u.heap.size u) (.cells #[.int .i64 y.Next, .int .i64 y.Acked, .slice A2 y.Seqs.length c2, .slice A3 y.Items.length c3] 47)) (.cells #[.int .i64 0, .int .i64 0, .int .i64 0, .slice none 0 0, .slice none 0 0, .slice none 0 0, .bool false] 51)
  rw [World.size_alloc] at KR
  have s1 : ((u.alloc (.cells #[.int .i64 y.Next, .int .i64 y.Acked, .slice A2 y.Seqs.length c2, .slice A3 y.Items.length c3] 47)).alloc (.cells #[.int .i64 0, .int .i64 0, .int .i64 0, .slice none 0 0, .slice none 0 0, .slice none 0 0, .bool false] 51)).heap.size = u.heap.size + 1 + 1 := by simp only [World.size_alloc]
  obtain ⟨w1, hw1⟩ : ∃ W, (u.alloc (.cells #[.int .i64 y.Next, .int .i64 y.Acked, .slice A2 y.Seqs.length c2, .slice A3 y.Items.length c3] 47)).alloc (.cells #[.int .i64 0, .int .i64 0, .int .i64 0, .slice none 0 0, .slice none 0 0, .slice none 0 0, .bool false] 51) = W := ⟨_, rfl⟩
  rw [hw1] at KS KR B1 s1
  have HSF := hidH (sdw_spec y _ w1 (RdA.below B1 h))
  have HI2 := hidH (fun (W : World) (hW : Below u.heap.size u W) => is_below i2 hW)
  have HI3 := hidH (fun (W : World) (hW : Below u.heap.size u W) => Rd.below hW _ i3)
  have H1 := hidH hw1
  have HS := hidH KS
  have HR := hidH KR
  have HB := hidH B1
  have HZ := hidH (Nat.le_of_eq s1.symm)
  have HV1 := hidH (@emR_sd y now rto most)
  have HV2 := hidH (@emR_rg y now rto most)
  have HV3 := hidH (@emR_ok y now rto most)
  have HOK := hidH (@SdOk.of y)
  obtain ⟨f, hf⟩ : ∃ f, sdF y = f := ⟨_, rfl⟩
  rw [hf] at HSF HV1 HV2 HV3 HOK
  clear h i2 i3 m2 m3 hw1 KS KR B1 s1 hf
  go_enter Try.func31, Try.ntmps31
  go_wp2_with fail
  rw [H1.out]
  refine HSF.out.mono ?_
  rintro e w2 ⟨rfl, b2⟩
  replace HS := hidH (HS.out.below b2)
  replace HR := hidH (HR.out.below b2)
  replace HZ := hidH (Nat.le_trans HZ.out b2.size)
  replace HB := hidH (btr HB.out b2)
  clear b2 HSF H1
  by_cases hz : f = 0
  case neg =>
    have hz2 : (f != 0) = true := by rw [bne_iff_ne]; exact hz
    have HE := hidH (HV1.out hz)
    clear hz HV1 HV2 HV3 HOK
    have R9 := HR.out
    have q0 := R9.cell 0
    have z0 := R9.frozen 0
    have q1 := R9.cell 1
    have z1 := R9.frozen 1
    have q2 := R9.cell 2
    have z2 := R9.frozen 2
    have q3 := R9.cell 3
    have z3 := R9.frozen 3
    have q4 := R9.cell 4
    have z4 := R9.frozen 4
    have q5 := R9.cell 5
    have z5 := R9.frozen 5
    have q6 := R9.cell 6
    have z6 := R9.frozen 6
    simp only [List.getElem?_toArray, List.getElem?_cons_succ, List.getElem?_cons_zero] at q0 q1 q2 q3 q4 q5 q6
    have lq := R9.lt
    have HOWN := hidH (show OwN (u.heap.size + 1 + 1) w2.heap.size w2 _ _ from sr_none10 f (Nat.le_refl _))
    clear R9
    go_wp2
    have WN := ((((((set_win w2 (u.heap.size + 1) 0 (.int .i64 f)).trans (set_win _ (u.heap.size + 1) 1 (.int .i64 0))).trans (set_win _ (u.heap.size + 1) 2 (.int .i64 0))).trans (set_win _ (u.heap.size + 1) 3 (.slice none 0 0))).trans (set_win _ (u.heap.size + 1) 4 (.slice none 0 0))).trans (set_win _ (u.heap.size + 1) 5 (.slice none 0 0))).trans (set_win _ (u.heap.size + 1) 6 (.bool false))
    have sz9 : u.heap.size ≤ w2.heap.size := HB.out.size
    exact bodyPost_ret (v := .agg #[.int .i64 f, .int .i64 0, .int .i64 0, .slice none 0 0, .slice none 0 0, .slice none 0 0, .bool false]) (by simp [results, Try.results31, go_sem, q0, q1, q2, q3, q4, q5, q6]) rfl ⟨_, rfl, by rw [HE.out]; exact (HOWN.out.win WN (.inr (Nat.le_refl _))).mono (by omega) WN.size (Nat.le_refl _), (HB.out).trans (WN.below (by omega) |>.mono (by omega))⟩
  subst hz
  have HY := hidH (HOK.out rfl)
  replace HV2 := hidH (HV2.out rfl)
  replace HV3 := hidH (HV3.out rfl)
  have HOE := hidH (show emOk now rto most = (inB now 0 1000000000 && (inB rto 1 1000000 && inB most 0 40)) from rfl)
  clear HV1 HOK
  cases hi1 : inB now 0 1000000000
  · have HE := hidH (HV2.out (by rw [HOE.out]; simp [hi1]))
    clear HV3
    have R9 := HR.out
    have q0 := R9.cell 0
    have z0 := R9.frozen 0
    have q1 := R9.cell 1
    have z1 := R9.frozen 1
    have q2 := R9.cell 2
    have z2 := R9.frozen 2
    have q3 := R9.cell 3
    have z3 := R9.frozen 3
    have q4 := R9.cell 4
    have z4 := R9.frozen 4
    have q5 := R9.cell 5
    have z5 := R9.frozen 5
    have q6 := R9.cell 6
    have z6 := R9.frozen 6
    simp only [List.getElem?_toArray, List.getElem?_cons_succ, List.getElem?_cons_zero] at q0 q1 q2 q3 q4 q5 q6
    have lq := R9.lt
    have HOWN := hidH (show OwN (u.heap.size + 1 + 1) w2.heap.size w2 _ _ from sr_none10 3 (Nat.le_refl _))
    clear R9
    go_wp2_with (go_at_call 84; refine (in_any _ _ _ _).mono ?_; rintro e w9 ⟨rfl, rfl⟩)
    have WN := ((((((set_win w2 (u.heap.size + 1) 0 (.int .i64 3)).trans (set_win _ (u.heap.size + 1) 1 (.int .i64 0))).trans (set_win _ (u.heap.size + 1) 2 (.int .i64 0))).trans (set_win _ (u.heap.size + 1) 3 (.slice none 0 0))).trans (set_win _ (u.heap.size + 1) 4 (.slice none 0 0))).trans (set_win _ (u.heap.size + 1) 5 (.slice none 0 0))).trans (set_win _ (u.heap.size + 1) 6 (.bool false))
    have sz9 : u.heap.size ≤ w2.heap.size := HB.out.size
    exact bodyPost_ret (v := .agg #[.int .i64 3, .int .i64 0, .int .i64 0, .slice none 0 0, .slice none 0 0, .slice none 0 0, .bool false]) (by simp [results, Try.results31, go_sem, q0, q1, q2, q3, q4, q5, q6]) rfl ⟨_, rfl, by rw [HE.out]; exact (HOWN.out.win WN (.inr (Nat.le_refl _))).mono (by omega) WN.size (Nat.le_refl _), (HB.out).trans (WN.below (by omega) |>.mono (by omega))⟩
  cases hi2 : inB rto 1 1000000
  · have HE := hidH (HV2.out (by rw [HOE.out]; simp [hi2]))
    clear HV3
    have R9 := HR.out
    have q0 := R9.cell 0
    have z0 := R9.frozen 0
    have q1 := R9.cell 1
    have z1 := R9.frozen 1
    have q2 := R9.cell 2
    have z2 := R9.frozen 2
    have q3 := R9.cell 3
    have z3 := R9.frozen 3
    have q4 := R9.cell 4
    have z4 := R9.frozen 4
    have q5 := R9.cell 5
    have z5 := R9.frozen 5
    have q6 := R9.cell 6
    have z6 := R9.frozen 6
    simp only [List.getElem?_toArray, List.getElem?_cons_succ, List.getElem?_cons_zero] at q0 q1 q2 q3 q4 q5 q6
    have lq := R9.lt
    have HOWN := hidH (show OwN (u.heap.size + 1 + 1) w2.heap.size w2 _ _ from sr_none10 3 (Nat.le_refl _))
    clear R9
    go_wp2_with (go_at_call 84; refine (in_any _ _ _ _).mono ?_; rintro e w9 ⟨rfl, rfl⟩)
    have WN := ((((((set_win w2 (u.heap.size + 1) 0 (.int .i64 3)).trans (set_win _ (u.heap.size + 1) 1 (.int .i64 0))).trans (set_win _ (u.heap.size + 1) 2 (.int .i64 0))).trans (set_win _ (u.heap.size + 1) 3 (.slice none 0 0))).trans (set_win _ (u.heap.size + 1) 4 (.slice none 0 0))).trans (set_win _ (u.heap.size + 1) 5 (.slice none 0 0))).trans (set_win _ (u.heap.size + 1) 6 (.bool false))
    have sz9 : u.heap.size ≤ w2.heap.size := HB.out.size
    exact bodyPost_ret (v := .agg #[.int .i64 3, .int .i64 0, .int .i64 0, .slice none 0 0, .slice none 0 0, .slice none 0 0, .bool false]) (by simp [results, Try.results31, go_sem, q0, q1, q2, q3, q4, q5, q6]) rfl ⟨_, rfl, by rw [HE.out]; exact (HOWN.out.win WN (.inr (Nat.le_refl _))).mono (by omega) WN.size (Nat.le_refl _), (HB.out).trans (WN.below (by omega) |>.mono (by omega))⟩
  cases hi3 : inB most 0 40
  · have HE := hidH (HV2.out (by rw [HOE.out]; simp [hi3]))
    clear HV3
    have R9 := HR.out
    have q0 := R9.cell 0
    have z0 := R9.frozen 0
    have q1 := R9.cell 1
    have z1 := R9.frozen 1
    have q2 := R9.cell 2
    have z2 := R9.frozen 2
    have q3 := R9.cell 3
    have z3 := R9.frozen 3
    have q4 := R9.cell 4
    have z4 := R9.frozen 4
    have q5 := R9.cell 5
    have z5 := R9.frozen 5
    have q6 := R9.cell 6
    have z6 := R9.frozen 6
    simp only [List.getElem?_toArray, List.getElem?_cons_succ, List.getElem?_cons_zero] at q0 q1 q2 q3 q4 q5 q6
    have lq := R9.lt
    have HOWN := hidH (show OwN (u.heap.size + 1 + 1) w2.heap.size w2 _ _ from sr_none10 3 (Nat.le_refl _))
    clear R9
    go_wp2_with (go_at_call 84; refine (in_any _ _ _ _).mono ?_; rintro e w9 ⟨rfl, rfl⟩)
    have WN := ((((((set_win w2 (u.heap.size + 1) 0 (.int .i64 3)).trans (set_win _ (u.heap.size + 1) 1 (.int .i64 0))).trans (set_win _ (u.heap.size + 1) 2 (.int .i64 0))).trans (set_win _ (u.heap.size + 1) 3 (.slice none 0 0))).trans (set_win _ (u.heap.size + 1) 4 (.slice none 0 0))).trans (set_win _ (u.heap.size + 1) 5 (.slice none 0 0))).trans (set_win _ (u.heap.size + 1) 6 (.bool false))
    have sz9 : u.heap.size ≤ w2.heap.size := HB.out.size
    exact bodyPost_ret (v := .agg #[.int .i64 3, .int .i64 0, .int .i64 0, .slice none 0 0, .slice none 0 0, .slice none 0 0, .bool false]) (by simp [results, Try.results31, go_sem, q0, q1, q2, q3, q4, q5, q6]) rfl ⟨_, rfl, by rw [HE.out]; exact (HOWN.out.win WN (.inr (Nat.le_refl _))).mono (by omega) WN.size (Nat.le_refl _), (HB.out).trans (WN.below (by omega) |>.mono (by omega))⟩
  have HEO := hidH (show emOk now rto most = true by rw [HOE.out]; simp [hi1, hi2, hi3])
  have HE := hidH (HV3.out HEO.out)
  clear HV2
  have HCP := hidH (l10Copy_any y u.heap.size w2 A2 A3 c2 c3 HS.out (HI2.out w2 HB.out) (HI3.out w2 HB.out) HY.out.seqs (by have := HY.out.items; omega) HY.out.piece)
  go_wp2_with (go_at_call 84; refine (in_any _ _ _ _).mono ?_; rintro e w9 ⟨rfl, rfl⟩)
  clear hi1 hi2 hi3
  refine HCP.out.mono ?_
  rintro e w4 ⟨S, I, ks, rfl, hS, hI, b4⟩
  replace HR := hidH (HR.out.below b4)
  replace HB := hidH (btr HB.out b4)
  obtain ⟨SA, sc, rfl⟩ := own_lenT hS
  obtain ⟨IA, ic, rfl⟩ := hI.shape
  have B5 := bal (Below.refl w4.heap.size w4) (.cells #[.int .i64 y.Next, .int .i64 y.Acked, .slice SA y.Seqs.length sc, .slice IA y.Items.length ic] 47)
  have K5 := Blk.new w4 47 #[.int .i64 y.Next, .int .i64 y.Acked, .slice SA y.Seqs.length sc, .slice IA y.Items.length ic]
  obtain ⟨w5, hw5⟩ : ∃ W, w4.alloc (.cells #[.int .i64 y.Next, .int .i64 y.Acked, .slice SA y.Seqs.length sc, .slice IA y.Items.length ic] 47) = W := ⟨_, rfl⟩
  rw [hw5] at B5 K5
  have HEM := hidH (l10Emit_any y HY.out now rto most HEO.out w4.heap.size _ _ ks w2.heap.size w5 K5 (own_below0 hS B5) (hI.below B5) (Nat.le_trans b4.size B5.size))
  replace HR := hidH (HR.out.below B5)
  replace HB := hidH (btr HB.out B5)
  have H5 := hidH hw5
  clear hw5 hS hI b4 B5 K5 HCP HS
  go_wp2_with fail
  rw [H5.out]
  refine HEM.out.mono ?_
  rintro e w6 ⟨D, ls, rfl, E⟩
  have hR6 := (E.out.block (u.heap.size + 1) (by have := HZ.out; omega)).trans HR.out
  have hB6 := HB.out.trans (E.out.mono (show u.heap.size ≤ w2.heap.size by have := HZ.out; omega))
  have K6 := E.box
  have O7 := E.own.mono (B' := u.heap.size + 1 + 1) HZ.out (Nat.le_refl _) (Nat.le_refl _)
  replace HR := hidH (show Blk w6 (u.heap.size + 1) 51 #[.int .i64 0, .int .i64 0, .int .i64 0, .slice none 0 0, .slice none 0 0, .slice none 0 0, .bool false] from hR6)
  replace HB := hidH hB6
  obtain ⟨DA, dc, rfl⟩ := own_lenT E.dat.row
  have p0 := K6.cell 0
  have p1 := K6.cell 1
  have p2 := K6.cell 2
  have p3 := K6.cell 3
  simp only [List.getElem?_toArray, List.getElem?_cons_succ, List.getElem?_cons_zero] at p0 p1 p2 p3
  have pl := K6.lt
  have HO7 := hidH O7
  obtain ⟨dn, hdn⟩ : ∃ n, (dsS y.Items (emF y now most)).length = n := ⟨_, rfl⟩
  rw [hdn] at HO7 ⊢
  clear E hR6 hB6 K6 O7 hdn HEM H5
  have R9 := HR.out
  have q0 := R9.cell 0
  have z0 := R9.frozen 0
  have q1 := R9.cell 1
  have z1 := R9.frozen 1
  have q2 := R9.cell 2
  have z2 := R9.frozen 2
  have q3 := R9.cell 3
  have z3 := R9.frozen 3
  have q4 := R9.cell 4
  have z4 := R9.frozen 4
  have q5 := R9.cell 5
  have z5 := R9.frozen 5
  have q6 := R9.cell 6
  have z6 := R9.frozen 6
  simp only [List.getElem?_toArray, List.getElem?_cons_succ, List.getElem?_cons_zero] at q0 q1 q2 q3 q4 q5 q6
  have lq := R9.lt
  have HOWN := hidH (HO7.out)
  clear R9
  go_wp2
  have WN := ((((((set_win w6 (u.heap.size + 1) 0 (.int .i64 0)).trans (set_win _ (u.heap.size + 1) 1 (.int .i64 y.Next))).trans (set_win _ (u.heap.size + 1) 2 (.int .i64 y.Acked))).trans (set_win _ (u.heap.size + 1) 3 (.slice SA y.Seqs.length sc))).trans (set_win _ (u.heap.size + 1) 4 (.slice IA y.Items.length ic))).trans (set_win _ (u.heap.size + 1) 5 (.slice DA dn dc))).trans (set_win _ (u.heap.size + 1) 6 (.bool false))
  have sz9 : u.heap.size ≤ w6.heap.size := HB.out.size
  exact bodyPost_ret (v := .agg #[.int .i64 0, .int .i64 y.Next, .int .i64 y.Acked, .slice SA y.Seqs.length sc, .slice IA y.Items.length ic, .slice DA dn dc, .bool false]) (by simp [results, Try.results31, go_sem, q0, q1, q2, q3, q4, q5, q6]) rfl ⟨_, rfl, by rw [HE.out]; exact (HOWN.out.win WN (.inr (Nat.le_refl _))).mono (by omega) WN.size (Nat.le_refl _), (HB.out).trans (WN.below (by omega) |>.mono (by omega))⟩
theorem em_spec (y : SendM) (vs : List Value) (now rto most : Int) (u : World) (h : RdA u y.vs vs) (_ : WfA y.vs) (_ : tot.totL y.vs ≤ 1048576) (_ : WfV (.int now)) (_ : WfV (.int rto)) (_ : WfV (.int most)) : Calls Try.prog 31 #[.agg vs.toArray, .int .i64 now, .int .i64 rto, .int .i64 most] u (Res u (emR y now rto most).vs) := emw_spec y vs now rto most u h
theorem emR_len (y : SendM) (now rto most : Int) (_ : WfA y.vs) (_ : tot.totL y.vs ≤ 1048576) (_ : WfV (.int now)) (_ : WfV (.int rto)) (_ : WfV (.int most)) : vcA (emR y now rto most).vs ≤ 1000000000 := by
  by_cases h : sdF y = 0
  case neg => rw [emR_sd h]; simp [vcA, vc, cc, cc.ccL]
  cases h2 : emOk now rto most
  · rw [emR_rg h h2]; simp [vcA, vc, cc, cc.ccL]
  rw [emR_ok h h2]
  have hy := SdOk.of h
  have hp : ∀ x ∈ y.Items, x.Data_Piece.length ≤ 100 := fun x hx => (pdF_zero (siF_zero (itF_mem hy.its x hx).1).1).2.2.2.2
  have h1 := ccI_le (r := upS now rto y.Items (emF y now most)) (fun x hx => by
    obtain ⟨z, hz, e⟩ := map_at (upS_d now rto y.Items (emF y now most)) x hx
    have := hp z hz
    have e2 : z.Data_Piece = x.Data_Piece := congrArg DataM.Piece e
    rw [← e2]; exact this)
  have h3 := ccD_le (r := dsS y.Items (emF y now most)) (fun x hx => by
    obtain ⟨i, hi, rfl⟩ := List.mem_map.1 hx
    have := hp _ (show y.Items.getD i it0 ∈ y.Items by rw [getD_it (fdS_lt i hi)]; exact List.getElem_mem _)
    exact this)
  rw [upS_len] at h1
  rw [dsS_len] at h3
  have h4 : (emF y now most).length ≤ y.Items.length := fdS_len
  have := hy.items
  have := hy.seqs
  simp only [vcA, vc, cc, st_SendItem, st_Data] at *
  omega
end Go.Proofs.Ythljdikcpdokdaa
