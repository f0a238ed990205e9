/- Chapter 10: the program's EmitDatas. (WRITTEN BY tools/emit10i.py) -/
import Derived.Test.YthljdikcpdokdaaS10EP
import Derived.Test.YthljdikcpdokdaaS10EM
import Derived.Test.YthljdikcpdokdaaNb4
import Derived.Test.YthljdikcpdokdaaNb5
import Derived.Deep.Cut
namespace Go.Proofs.Ythljdikcpdokdaa
open Go.RowKit Go.Deep

theorem ptI_at (gi : Nat) {l : List Nat} {t : Nat} (h : t < l.length) : (ptI gi l)[t]? = some (.pointer (some ⟨gi, l[t] * 9, none⟩)) := by simp [ptI, h]
theorem take_new {l : List Nat} (h : l.Pairwise (· < ·)) {t : Nat} (ht : t < l.length) : l[t] ∉ l.take t := fun q => by
  obtain ⟨i, hi, e⟩ := List.mem_iff_getElem.1 q
  rw [List.getElem_take] at e
  have := (List.pairwise_iff_getElem.1 h) i t (by simp at hi; omega) ht (by simp at hi; omega)
  omega
theorem take_more {l : List Nat} {t : Nat} (ht : t < l.length) : l.take (t + 1) = l.take t ++ [l[t]] := by rw [List.take_add_one, List.getElem?_eq_getElem ht]; rfl
set_option maxRecDepth 100000 in
set_option maxHeartbeats 8000000 in
theorem emw_impl (y : SendM) (vs : List Value) (now rto most : Int) (u : World) (h : RdA u y.vs vs) : Calls Try.prog 29 #[.agg vs.toArray, .int .i64 now, .int .i64 rto, .int .i64 most] u (Res u (emR y now rto most).vs) := by
  obtain ⟨A2, c2, A3, c3, rfl, i2, i3, m2, m3, _⟩ := send_sh h
  have KS := ((Blk.new u 47 #[.int .i64 y.Next, .int .i64 y.Acked, .slice A2 y.Seqs.length c2, .slice A3 y.Items.length c3]).alloc (.cells #[.int .i64 now] 2)).alloc (.cells #[.int .i64 0, .int .i64 0, .int .i64 0, .slice none 0 0, .slice none 0 0, .slice none 0 0, .bool false] 51)
  have KP := (Blk.new (u.alloc (.cells #[.int .i64 y.Next, .int .i64 y.Acked, .slice A2 y.Seqs.length c2, .slice A3 y.Items.length c3] 47)) 2 #[.int .i64 now]).alloc (.cells #[.int .i64 0, .int .i64 0, .int .i64 0, .slice none 0 0, .slice none 0 0, .slice none 0 0, .bool false] 51)
  have KR := Blk.new ((u.alloc (.cells #[.int .i64 y.Next, .int .i64 y.Acked, .slice A2 y.Seqs.length c2, .slice A3 y.Items.length c3] 47)).alloc (.cells #[.int .i64 now] 2)) 51 #[.int .i64 0, .int .i64 0, .int .i64 0, .slice none 0 0, .slice none 0 0, .slice none 0 0, .bool false]
  have B1 := bal (bal (bal (Below.refl u.heap.size u) (.cells #[.int .i64 y.Next, .int .i64 y.Acked, .slice A2 y.Seqs.length c2, .slice A3 y.Items.length c3] 47)) (.cells #[.int .i64 now] 2)) (.cells #[.int .i64 0, .int .i64 0, .int .i64 0, .slice none 0 0, .slice none 0 0, .slice none 0 0, .bool false] 51)
  rw [World.size_alloc] at KP
  rw [World.size_alloc, World.size_alloc] at KR
  have s1 : (((u.alloc (.cells #[.int .i64 y.Next, .int .i64 y.Acked, .slice A2 y.Seqs.length c2, .slice A3 y.Items.length c3] 47)).alloc (.cells #[.int .i64 now] 2)).alloc (.cells #[.int .i64 0, .int .i64 0, .int .i64 0, .slice none 0 0, .slice none 0 0, .slice none 0 0, .bool false] 51)).heap.size = u.heap.size + 1 + 1 + 1 := by simp only [World.size_alloc]
  obtain ⟨w1, hw1⟩ : ∃ W, ((u.alloc (.cells #[.int .i64 y.Next, .int .i64 y.Acked, .slice A2 y.Seqs.length c2, .slice A3 y.Items.length c3] 47)).alloc (.cells #[.int .i64 now] 2)).alloc (.cells #[.int .i64 0, .int .i64 0, .int .i64 0, .slice none 0 0, .slice none 0 0, .slice none 0 0, .bool false] 51) = W := ⟨_, rfl⟩
  rw [hw1] at KS KP KR B1 s1
  have HSF := hidH (sdw_impl y _ w1 (RdA.below B1 h))
  have HRD := hidH (fun (W : World) (hW : Below u.heap.size u W) => RdA.below hW h)
  have H1 := hidH hw1
  have HS := hidH KS
  have HP := hidH KP
  have HR := hidH KR
  have HB := hidH B1
  have HZ := hidH (Nat.le_of_eq s1.symm)
  have HV1 := hidH (@emR_sd y now rto most)
  have HV2 := hidH (@emR_rg y now rto most)
  have HV3 := hidH (@emR_ok y now rto most)
  have HOK := hidH (@SdOk.of y)
  obtain ⟨f, hf⟩ : ∃ f, sdF y = f := ⟨_, rfl⟩
  rw [hf] at HSF HV1 HV2 HV3 HOK
  clear h i2 i3 m2 m3 hw1 KS KP KR B1 s1 hf
  go_enter Try.func29, Try.ntmps29
  go_wp2_with fail
  rw [H1.out]
  refine HSF.out.mono ?_
  rintro e w2 ⟨rfl, b2⟩
  replace HS := hidH (HS.out.below b2)
  replace HP := hidH (HP.out.below b2)
  replace HR := hidH (HR.out.below b2)
  replace HZ := hidH (Nat.le_trans HZ.out b2.size)
  replace HB := hidH (btr HB.out b2)
  clear b2 HSF H1
  by_cases hz : f = 0
  case neg =>
    have hz2 : (f != 0) = true := by rw [bne_iff_ne]; exact hz
    have HE := hidH (HV1.out hz)
    clear hz HV1 HV2 HV3 HOK
    have R9 := HR.out
    have q0 := R9.cell 0
    have z0 := R9.frozen 0
    have q1 := R9.cell 1
    have z1 := R9.frozen 1
    have q2 := R9.cell 2
    have z2 := R9.frozen 2
    have q3 := R9.cell 3
    have z3 := R9.frozen 3
    have q4 := R9.cell 4
    have z4 := R9.frozen 4
    have q5 := R9.cell 5
    have z5 := R9.frozen 5
    have q6 := R9.cell 6
    have z6 := R9.frozen 6
    simp only [List.getElem?_toArray, List.getElem?_cons_succ, List.getElem?_cons_zero] at q0 q1 q2 q3 q4 q5 q6
    have lq := R9.lt
    have HOWN := hidH (show OwN (u.heap.size + 1 + 1 + 1) w2.heap.size w2 _ _ from sr_none10 f (Nat.le_refl _))
    clear R9
    go_wp2
    have WN := ((((((set_win w2 (u.heap.size + 1 + 1) 0 (.int .i64 f)).trans (set_win _ (u.heap.size + 1 + 1) 1 (.int .i64 0))).trans (set_win _ (u.heap.size + 1 + 1) 2 (.int .i64 0))).trans (set_win _ (u.heap.size + 1 + 1) 3 (.slice none 0 0))).trans (set_win _ (u.heap.size + 1 + 1) 4 (.slice none 0 0))).trans (set_win _ (u.heap.size + 1 + 1) 5 (.slice none 0 0))).trans (set_win _ (u.heap.size + 1 + 1) 6 (.bool false))
    have sz9 : u.heap.size ≤ w2.heap.size := HB.out.size
    exact bodyPost_ret (v := .agg #[.int .i64 f, .int .i64 0, .int .i64 0, .slice none 0 0, .slice none 0 0, .slice none 0 0, .bool false]) (by simp [results, Try.results29, go_sem, q0, q1, q2, q3, q4, q5, q6]) rfl ⟨_, rfl, by rw [HE.out]; exact (HOWN.out.win WN (.inr (Nat.le_refl _))).mono (by omega) WN.size (Nat.le_refl _), (HB.out).trans (WN.below (by omega) |>.mono (by omega))⟩
  subst hz
  have HY := hidH (HOK.out rfl)
  replace HV2 := hidH (HV2.out rfl)
  replace HV3 := hidH (HV3.out rfl)
  have HIT := hidH (fun (W : World) => isTime_any now W)
  have HOE := hidH (show emOk now rto most = (inB now 0 1000000000 && ((decide (1 ≤ rto) && decide (rto ≤ 1000000)) && (decide (0 ≤ most) && decide (most ≤ 40)))) from rfl)
  obtain ⟨i1, hi1⟩ : ∃ b, inB now 0 1000000000 = b := ⟨_, rfl⟩
  rw [hi1] at HIT HOE
  clear HV1 HOK hi1
  have t0 := HP.out.cell 0
  simp only [List.getElem?_toArray, List.getElem?_cons_zero] at t0
  have tl := HP.out.lt
  cases i1
  · have HE := hidH (HV2.out (by rw [HOE.out]; rfl))
    clear HV2 HV3
    have R9 := HR.out
    have q0 := R9.cell 0
    have z0 := R9.frozen 0
    have q1 := R9.cell 1
    have z1 := R9.frozen 1
    have q2 := R9.cell 2
    have z2 := R9.frozen 2
    have q3 := R9.cell 3
    have z3 := R9.frozen 3
    have q4 := R9.cell 4
    have z4 := R9.frozen 4
    have q5 := R9.cell 5
    have z5 := R9.frozen 5
    have q6 := R9.cell 6
    have z6 := R9.frozen 6
    simp only [List.getElem?_toArray, List.getElem?_cons_succ, List.getElem?_cons_zero] at q0 q1 q2 q3 q4 q5 q6
    have lq := R9.lt
    have HOWN := hidH (show OwN (u.heap.size + 1 + 1 + 1) w2.heap.size w2 _ _ from sr_none10 3 (Nat.le_refl _))
    clear R9
    go_wp2_with (go_at_call 97; refine (HIT.out _).mono ?_; rintro e w9 ⟨rfl, rfl⟩)
    have WN := ((((((set_win w2 (u.heap.size + 1 + 1) 0 (.int .i64 3)).trans (set_win _ (u.heap.size + 1 + 1) 1 (.int .i64 0))).trans (set_win _ (u.heap.size + 1 + 1) 2 (.int .i64 0))).trans (set_win _ (u.heap.size + 1 + 1) 3 (.slice none 0 0))).trans (set_win _ (u.heap.size + 1 + 1) 4 (.slice none 0 0))).trans (set_win _ (u.heap.size + 1 + 1) 5 (.slice none 0 0))).trans (set_win _ (u.heap.size + 1 + 1) 6 (.bool false))
    have sz9 : u.heap.size ≤ w2.heap.size := HB.out.size
    exact bodyPost_ret (v := .agg #[.int .i64 3, .int .i64 0, .int .i64 0, .slice none 0 0, .slice none 0 0, .slice none 0 0, .bool false]) (by simp [results, Try.results29, go_sem, q0, q1, q2, q3, q4, q5, q6]) rfl ⟨_, rfl, by rw [HE.out]; exact (HOWN.out.win WN (.inr (Nat.le_refl _))).mono (by omega) WN.size (Nat.le_refl _), (HB.out).trans (WN.below (by omega) |>.mono (by omega))⟩
  by_cases c1 : rto < 1
  · have c1d : decide (rto < 1) = true := by simpa using c1
    have HE := hidH (HV2.out (by rw [HOE.out]; simp; omega))
    clear HV2 HV3
    have R9 := HR.out
    have q0 := R9.cell 0
    have z0 := R9.frozen 0
    have q1 := R9.cell 1
    have z1 := R9.frozen 1
    have q2 := R9.cell 2
    have z2 := R9.frozen 2
    have q3 := R9.cell 3
    have z3 := R9.frozen 3
    have q4 := R9.cell 4
    have z4 := R9.frozen 4
    have q5 := R9.cell 5
    have z5 := R9.frozen 5
    have q6 := R9.cell 6
    have z6 := R9.frozen 6
    simp only [List.getElem?_toArray, List.getElem?_cons_succ, List.getElem?_cons_zero] at q0 q1 q2 q3 q4 q5 q6
    have lq := R9.lt
    have HOWN := hidH (show OwN (u.heap.size + 1 + 1 + 1) w2.heap.size w2 _ _ from sr_none10 3 (Nat.le_refl _))
    clear R9
    go_wp2_with (go_at_call 97; refine (HIT.out _).mono ?_; rintro e w9 ⟨rfl, rfl⟩)
    have WN := ((((((set_win w2 (u.heap.size + 1 + 1) 0 (.int .i64 3)).trans (set_win _ (u.heap.size + 1 + 1) 1 (.int .i64 0))).trans (set_win _ (u.heap.size + 1 + 1) 2 (.int .i64 0))).trans (set_win _ (u.heap.size + 1 + 1) 3 (.slice none 0 0))).trans (set_win _ (u.heap.size + 1 + 1) 4 (.slice none 0 0))).trans (set_win _ (u.heap.size + 1 + 1) 5 (.slice none 0 0))).trans (set_win _ (u.heap.size + 1 + 1) 6 (.bool false))
    have sz9 : u.heap.size ≤ w2.heap.size := HB.out.size
    exact bodyPost_ret (v := .agg #[.int .i64 3, .int .i64 0, .int .i64 0, .slice none 0 0, .slice none 0 0, .slice none 0 0, .bool false]) (by simp [results, Try.results29, go_sem, q0, q1, q2, q3, q4, q5, q6]) rfl ⟨_, rfl, by rw [HE.out]; exact (HOWN.out.win WN (.inr (Nat.le_refl _))).mono (by omega) WN.size (Nat.le_refl _), (HB.out).trans (WN.below (by omega) |>.mono (by omega))⟩
  have c1d : decide (rto < 1) = false := by simpa using c1
  by_cases c2' : 1000000 < rto
  · have c2'd : decide (1000000 < rto) = true := by simpa using c2'
    have HE := hidH (HV2.out (by rw [HOE.out]; simp; omega))
    clear HV2 HV3
    have R9 := HR.out
    have q0 := R9.cell 0
    have z0 := R9.frozen 0
    have q1 := R9.cell 1
    have z1 := R9.frozen 1
    have q2 := R9.cell 2
    have z2 := R9.frozen 2
    have q3 := R9.cell 3
    have z3 := R9.frozen 3
    have q4 := R9.cell 4
    have z4 := R9.frozen 4
    have q5 := R9.cell 5
    have z5 := R9.frozen 5
    have q6 := R9.cell 6
    have z6 := R9.frozen 6
    simp only [List.getElem?_toArray, List.getElem?_cons_succ, List.getElem?_cons_zero] at q0 q1 q2 q3 q4 q5 q6
    have lq := R9.lt
    have HOWN := hidH (show OwN (u.heap.size + 1 + 1 + 1) w2.heap.size w2 _ _ from sr_none10 3 (Nat.le_refl _))
    clear R9
    go_wp2_with (go_at_call 97; refine (HIT.out _).mono ?_; rintro e w9 ⟨rfl, rfl⟩)
    have WN := ((((((set_win w2 (u.heap.size + 1 + 1) 0 (.int .i64 3)).trans (set_win _ (u.heap.size + 1 + 1) 1 (.int .i64 0))).trans (set_win _ (u.heap.size + 1 + 1) 2 (.int .i64 0))).trans (set_win _ (u.heap.size + 1 + 1) 3 (.slice none 0 0))).trans (set_win _ (u.heap.size + 1 + 1) 4 (.slice none 0 0))).trans (set_win _ (u.heap.size + 1 + 1) 5 (.slice none 0 0))).trans (set_win _ (u.heap.size + 1 + 1) 6 (.bool false))
    have sz9 : u.heap.size ≤ w2.heap.size := HB.out.size
    exact bodyPost_ret (v := .agg #[.int .i64 3, .int .i64 0, .int .i64 0, .slice none 0 0, .slice none 0 0, .slice none 0 0, .bool false]) (by simp [results, Try.results29, go_sem, q0, q1, q2, q3, q4, q5, q6]) rfl ⟨_, rfl, by rw [HE.out]; exact (HOWN.out.win WN (.inr (Nat.le_refl _))).mono (by omega) WN.size (Nat.le_refl _), (HB.out).trans (WN.below (by omega) |>.mono (by omega))⟩
  have c2'd : decide (1000000 < rto) = false := by simpa using c2'
  by_cases c3' : most < 0
  · have c3'd : decide (most < 0) = true := by simpa using c3'
    have HE := hidH (HV2.out (by rw [HOE.out]; simp; omega))
    clear HV2 HV3
    have R9 := HR.out
    have q0 := R9.cell 0
    have z0 := R9.frozen 0
    have q1 := R9.cell 1
    have z1 := R9.frozen 1
    have q2 := R9.cell 2
    have z2 := R9.frozen 2
    have q3 := R9.cell 3
    have z3 := R9.frozen 3
    have q4 := R9.cell 4
    have z4 := R9.frozen 4
    have q5 := R9.cell 5
    have z5 := R9.frozen 5
    have q6 := R9.cell 6
    have z6 := R9.frozen 6
    simp only [List.getElem?_toArray, List.getElem?_cons_succ, List.getElem?_cons_zero] at q0 q1 q2 q3 q4 q5 q6
    have lq := R9.lt
    have HOWN := hidH (show OwN (u.heap.size + 1 + 1 + 1) w2.heap.size w2 _ _ from sr_none10 3 (Nat.le_refl _))
    clear R9
    go_wp2_with (go_at_call 97; refine (HIT.out _).mono ?_; rintro e w9 ⟨rfl, rfl⟩)
    have WN := ((((((set_win w2 (u.heap.size + 1 + 1) 0 (.int .i64 3)).trans (set_win _ (u.heap.size + 1 + 1) 1 (.int .i64 0))).trans (set_win _ (u.heap.size + 1 + 1) 2 (.int .i64 0))).trans (set_win _ (u.heap.size + 1 + 1) 3 (.slice none 0 0))).trans (set_win _ (u.heap.size + 1 + 1) 4 (.slice none 0 0))).trans (set_win _ (u.heap.size + 1 + 1) 5 (.slice none 0 0))).trans (set_win _ (u.heap.size + 1 + 1) 6 (.bool false))
    have sz9 : u.heap.size ≤ w2.heap.size := HB.out.size
    exact bodyPost_ret (v := .agg #[.int .i64 3, .int .i64 0, .int .i64 0, .slice none 0 0, .slice none 0 0, .slice none 0 0, .bool false]) (by simp [results, Try.results29, go_sem, q0, q1, q2, q3, q4, q5, q6]) rfl ⟨_, rfl, by rw [HE.out]; exact (HOWN.out.win WN (.inr (Nat.le_refl _))).mono (by omega) WN.size (Nat.le_refl _), (HB.out).trans (WN.below (by omega) |>.mono (by omega))⟩
  have c3'd : decide (most < 0) = false := by simpa using c3'
  by_cases c4 : 40 < most
  · have c4d : decide (40 < most) = true := by simpa using c4
    have HE := hidH (HV2.out (by rw [HOE.out]; simp; omega))
    clear HV2 HV3
    have R9 := HR.out
    have q0 := R9.cell 0
    have z0 := R9.frozen 0
    have q1 := R9.cell 1
    have z1 := R9.frozen 1
    have q2 := R9.cell 2
    have z2 := R9.frozen 2
    have q3 := R9.cell 3
    have z3 := R9.frozen 3
    have q4 := R9.cell 4
    have z4 := R9.frozen 4
    have q5 := R9.cell 5
    have z5 := R9.frozen 5
    have q6 := R9.cell 6
    have z6 := R9.frozen 6
    simp only [List.getElem?_toArray, List.getElem?_cons_succ, List.getElem?_cons_zero] at q0 q1 q2 q3 q4 q5 q6
    have lq := R9.lt
    have HOWN := hidH (show OwN (u.heap.size + 1 + 1 + 1) w2.heap.size w2 _ _ from sr_none10 3 (Nat.le_refl _))
    clear R9
    go_wp2_with (go_at_call 97; refine (HIT.out _).mono ?_; rintro e w9 ⟨rfl, rfl⟩)
    have WN := ((((((set_win w2 (u.heap.size + 1 + 1) 0 (.int .i64 3)).trans (set_win _ (u.heap.size + 1 + 1) 1 (.int .i64 0))).trans (set_win _ (u.heap.size + 1 + 1) 2 (.int .i64 0))).trans (set_win _ (u.heap.size + 1 + 1) 3 (.slice none 0 0))).trans (set_win _ (u.heap.size + 1 + 1) 4 (.slice none 0 0))).trans (set_win _ (u.heap.size + 1 + 1) 5 (.slice none 0 0))).trans (set_win _ (u.heap.size + 1 + 1) 6 (.bool false))
    have sz9 : u.heap.size ≤ w2.heap.size := HB.out.size
    exact bodyPost_ret (v := .agg #[.int .i64 3, .int .i64 0, .int .i64 0, .slice none 0 0, .slice none 0 0, .slice none 0 0, .bool false]) (by simp [results, Try.results29, go_sem, q0, q1, q2, q3, q4, q5, q6]) rfl ⟨_, rfl, by rw [HE.out]; exact (HOWN.out.win WN (.inr (Nat.le_refl _))).mono (by omega) WN.size (Nat.le_refl _), (HB.out).trans (WN.below (by omega) |>.mono (by omega))⟩
  have c4d : decide (40 < most) = false := by simpa using c4
  have HEO := hidH (show emOk now rto most = true by rw [HOE.out]; simp; omega)
  have HE := hidH (HV3.out HEO.out)
  clear HV2 c1 c2' c3' c4
  have HCP := hidH (copied_any y _ w2 (HRD.out w2 HB.out) HY.out.seqs (by have := HY.out.items; omega) HY.out.piece)
  have s0 := HS.out.cell 0
  have s1 := HS.out.cell 1
  have s2 := HS.out.cell 2
  have s3 := HS.out.cell 3
  simp only [List.getElem?_toArray, List.getElem?_cons_succ, List.getElem?_cons_zero] at s0 s1 s2 s3
  have sl := HS.out.lt
  go_wp2_with (go_at_call 97; refine (HIT.out _).mono ?_; rintro e w9 ⟨rfl, rfl⟩)
  clear s0 s1 s2 s3 sl t0 tl HIT HOE
  refine HCP.out.mono ?_
  rintro e w4 ⟨S, I, ks, rfl, hS, hI, b4⟩
  replace HP := hidH (HP.out.below b4)
  replace HR := hidH (HR.out.below b4)
  replace HB := hidH (btr HB.out b4)
  obtain ⟨SA, sc, rfl⟩ := own_lenT hS
  obtain ⟨IA, ic, rfl⟩ := hI.shape
  have B5 := bal (Below.refl w4.heap.size w4) (.cells #[.int .i64 y.Next, .int .i64 y.Acked, .slice SA y.Seqs.length sc, .slice IA y.Items.length ic] 47)
  have K5 := Blk.new w4 47 #[.int .i64 y.Next, .int .i64 y.Acked, .slice SA y.Seqs.length sc, .slice IA y.Items.length ic]
  obtain ⟨w5, hw5⟩ : ∃ W, w4.alloc (.cells #[.int .i64 y.Next, .int .i64 y.Acked, .slice SA y.Seqs.length sc, .slice IA y.Items.length ic] 47) = W := ⟨_, rfl⟩
  rw [hw5] at B5 K5
  replace HP := hidH (HP.out.below B5)
  replace HR := hidH (HR.out.below B5)
  replace HB := hidH (btr HB.out B5)
  have HS5 := hidH (own_below0 hS B5)
  have HI5 := hidH (hI.below B5)
  have HK5 := hidH K5
  have H5 := hidH hw5
  have HZ5 := hidH (show w2.heap.size ≤ w5.heap.size from Nat.le_trans b4.size B5.size)
  have HFI := hidH (first_any (dueB y.Acked now) y.Items ks most w4.heap.size (u.heap.size + 1) w2.heap.size w2.heap.size _ w5 HI5.out (by have := HY.out.items; omega) (fun j hj gi v W hW hg hcell => ed1_any y y.Items[j] now gi (j * 9) w4.heap.size (u.heap.size + 1) SA IA sc ic W hg (hcell 0 _ rfl) (hcell 7 _ rfl) (hcell 8 _ rfl) (HK5.out.below hW) (HP.out.below hW)))
  clear hw5 hS hI b4 B5 K5 HCP HS
  have p0 := HK5.out.cell 0
  have p1 := HK5.out.cell 1
  have p2 := HK5.out.cell 2
  have p3 := HK5.out.cell 3
  simp only [List.getElem?_toArray, List.getElem?_cons_succ, List.getElem?_cons_zero] at p0 p1 p2 p3
  have pl := HK5.out.lt
  go_upto_region 7 with (fail)
  rw [H5.out]
  go_wp2_with fail
  clear p0 p1 p2 p3 pl
  refine HFI.out.mono ?_
  rintro e w6 ⟨FV, gi, rfl, hgi, hF, b6⟩
  have E0 : EM w6 w2.heap.size w4.heap.size y (.slice SA y.Seqs.length sc) (.slice IA y.Items.length ic) FV (emF y now most).length (ptI gi (emF y now most)) ks w6 y.Items (.slice none 0 0) [] [] :=
    ⟨HK5.out.below b6, own_below0 HS5.out b6, HI5.out.below b6, own_monoT hF HZ5.out, LZ.none _ _, Below.refl _ _ |>.mono (Nat.le_trans HZ5.out b6.size), Nat.le_trans HZ5.out b6.size, (HI5.out.below b6).kstop⟩
  replace HP := hidH (HP.out.below b6)
  replace HR := hidH (HR.out.below b6)
  replace HB := hidH (btr HB.out b6)
  have HE0 := hidH E0
  have HGI := hidH hgi
  obtain ⟨AF, cF, rfl⟩ := own_lenT hF
  have hLi := hidH (fun (i : Nat) (hi : i ∈ emF y now most) => fdS_lt i hi)
  have hLp := hidH (show (emF y now most).Pairwise (· < ·) from fdS_nodup)
  have hLl : (emF y now most).length ≤ y.Items.length := fdS_len
  have hn40 := HY.out.items
  have HRG := hidH (fun (j : Nat) (hj : j < y.Items.length) => (siF_zero (itF_mem HY.out.its _ (List.getElem_mem hj)).1).2)
  have HLN := hidH (fun (j : Nat) (hj : j < y.Items.length) => HY.out.piece _ (List.getElem_mem hj))
  simp only [show fdS (dueB y.Acked now) most y.Items y.Items.length = emF y now most from rfl] at *
  obtain ⟨L, hL⟩ : ∃ L, emF y now most = L := ⟨_, rfl⟩
  simp only [hL] at HE HE0 hLi hLp hLl ⊢
  clear hF b6 E0 hgi HFI H5 HI5 HS5 HK5 hL
  have hL40 : (L.length : Int) ≤ 40 := by omega
  simp only [emOk, Bool.and_eq_true, decide_eq_true_eq] at HEO
  obtain ⟨⟨n1, n2⟩, ⟨r1, r2⟩, m1, m2⟩ := HEO.out
  clear HEO
  go_wp2
  go_loopw [12, 50] (fun v i wr => ∃ (t : Nat) (ls : List (Value × Nat × Nat)), t ≤ L.length ∧ i = .int .i64 (t : Int) ∧ EM w6 w2.heap.size w4.heap.size y (.slice SA y.Seqs.length sc) (.slice IA y.Items.length ic) (.slice AF L.length cF) L.length (ptI gi L) ks wr (upS now rto y.Items (L.take t)) v (dsS y.Items (L.take t)) ls) (fun _ i _ => L.length - (intOf i).toNat)
  case atStart => exact ⟨0, [], by omega, rfl, HE0.out⟩
  case round =>
    obtain ⟨t, ls, ht, rfl, hE⟩ := hrel
    obtain ⟨W, hW⟩ : ∃ W, wr = W := ⟨_, rfl⟩
    rw [hW] at hE ⊢
    clear hW
    obtain ⟨Ag, cg, rfl⟩ := own_lenT hE.dat.row
    have htl : (L.take t).length = t := by rw [List.length_take]; omega
    rw [dsS_len, htl] at hE ⊢
    have HEM := hidH hE
    have HTL := hidH htl
    by_cases hlt : t < L.length
    case neg =>
      obtain rfl : t = L.length := by omega
      have hE' := hE
      rw [List.take_length] at hE'
      have hR6 := (hE'.out.block (u.heap.size + 1 + 1) (by have := HZ.out; omega)).trans HR.out
      have hB6 := HB.out.trans (hE'.out.mono (show u.heap.size ≤ w2.heap.size by have := HZ.out; omega))
      have K6 := hE'.box
      have HO7 := hidH (hE'.own.mono (B' := u.heap.size + 1 + 1 + 1) HZ.out (Nat.le_refl _) (Nat.le_refl _))
      replace HR := hidH (show Blk W (u.heap.size + 1 + 1) 51 #[.int .i64 0, .int .i64 0, .int .i64 0, .slice none 0 0, .slice none 0 0, .slice none 0 0, .bool false] from hR6)
      replace HB := hidH hB6
      have p0 := K6.cell 0
      have p1 := K6.cell 1
      have p2 := K6.cell 2
      have p3 := K6.cell 3
      simp only [List.getElem?_toArray, List.getElem?_cons_succ, List.getElem?_cons_zero] at p0 p1 p2 p3
      have pl := K6.lt
      clear hE hE' hR6 hB6 K6 hlt htl
      have R9 := HR.out
      have q0 := R9.cell 0
      have z0 := R9.frozen 0
      have q1 := R9.cell 1
      have z1 := R9.frozen 1
      have q2 := R9.cell 2
      have z2 := R9.frozen 2
      have q3 := R9.cell 3
      have z3 := R9.frozen 3
      have q4 := R9.cell 4
      have z4 := R9.frozen 4
      have q5 := R9.cell 5
      have z5 := R9.frozen 5
      have q6 := R9.cell 6
      have z6 := R9.frozen 6
      simp only [List.getElem?_toArray, List.getElem?_cons_succ, List.getElem?_cons_zero] at q0 q1 q2 q3 q4 q5 q6
      have lq := R9.lt
      have HOWN := hidH (HO7.out)
      clear R9
      go_wp2
      have WN := ((((((set_win W (u.heap.size + 1 + 1) 0 (.int .i64 0)).trans (set_win _ (u.heap.size + 1 + 1) 1 (.int .i64 y.Next))).trans (set_win _ (u.heap.size + 1 + 1) 2 (.int .i64 y.Acked))).trans (set_win _ (u.heap.size + 1 + 1) 3 (.slice SA y.Seqs.length sc))).trans (set_win _ (u.heap.size + 1 + 1) 4 (.slice IA y.Items.length ic))).trans (set_win _ (u.heap.size + 1 + 1) 5 (.slice Ag L.length cg))).trans (set_win _ (u.heap.size + 1 + 1) 6 (.bool false))
      have sz9 : u.heap.size ≤ W.heap.size := HB.out.size
      exact bodyPost_ret (v := .agg #[.int .i64 0, .int .i64 y.Next, .int .i64 y.Acked, .slice SA y.Seqs.length sc, .slice IA y.Items.length ic, .slice Ag L.length cg, .bool false]) (by simp [results, Try.results29, go_sem, q0, q1, q2, q3, q4, q5, q6]) rfl ⟨_, rfl, by rw [HE.out]; exact (HOWN.out.win WN (.inr (Nat.le_refl _))).mono (by omega) WN.size (Nat.le_refl _), (HB.out).trans (WN.below (by omega) |>.mono (by omega))⟩
    have ht0 : (0 : Int) ≤ (t : Int) := by omega
    have ht1 : (t : Int) < (L.length : Int) := by omega
    obtain ⟨AF2, cF2, eF, hcF⟩ := own_cellsT hE.fnd
    obtain ⟨gF, eF2, _, hgF, hcF⟩ := hcF t (by omega)
    injection eF with eF _ eC
    rw [eF2] at eF
    subst eF
    have hpt := (hcF t (by omega)).trans (ptI_at gi hlt)
    obtain ⟨p, hp⟩ : ∃ p, L[t] = p := ⟨_, rfl⟩
    rw [hp] at hpt
    have hpn : p < y.Items.length := hLi.out p (by rw [← hp]; exact List.getElem_mem hlt)
    have hnew : p ∉ L.take t := by rw [← hp]; exact take_new hLp.out hlt
    have HMO := hidH (show L.take (t + 1) = L.take t ++ [p] by rw [← hp]; exact take_more hlt)
    obtain ⟨ci, eI⟩ := HGI.out (by omega)
    injection eI with eI _ eC2
    subst eI
    have hup : (upS now rto y.Items (L.take t))[p]? = some y.Items[p] := by rw [upS_get _ _ _ hnew]; exact List.getElem?_eq_getElem hpn
    obtain ⟨⟨v1, v2⟩, v3, v4⟩ := HRG.out p hpn
    have hln := HLN.out p hpn
    have hgx := getD_it hpn
    obtain ⟨x, hx⟩ : ∃ x, y.Items[p] = x := ⟨_, rfl⟩
    rw [hx] at hup v1 v2 v3 v4 hln hgx
    have HUP := hidH hup
    have HGX := hidH hgx
    have HLNX := hidH hln
    obtain ⟨A9, c9, hgi, hcell, hfz, _⟩ := hE.at hup
    have d0 : W.cell? ⟨gi, p * 9, none⟩ = some (.int .i64 x.Data_Tsn) := hcell 0 _ rfl
    have hKP := (hE.out.block (u.heap.size + 1) (by have := HZ.out; omega)).trans HP.out
    have hKP : Blk W (u.heap.size + 1) 2 #[.int .i64 now] := hKP
    have t0 := hKP.cell 0
    simp only [List.getElem?_toArray, List.getElem?_cons_zero] at t0
    have tl := hKP.lt
    obtain ⟨sn, hsn⟩ : ∃ z, min (x.Sent + 1) 99 = z := ⟨_, rfl⟩
    obtain ⟨du, hdu⟩ : ∃ z, min (now + rto) 1000000000 = z := ⟨_, rfl⟩
    have HSE := hidH (send_any x gi (p * 9) now rto sn du W hgi d0 (hcell 7 _ rfl) (hcell 8 _ rfl) (hfz _) (hfz _) v1 v2 n1 n2 r1 r2 hsn hdu)
    have HSN := hidH hsn
    have HDU := hidH hdu
    clear hcell hfz hE hcF eC eC2 hup hgx hln hKP htl hsn hdu hx v1 v2 v3 v4 hp
    go_wp2_with fail
    refine HSE.out.mono ?_
    rintro e w2' ⟨rfl, hw2⟩
    have E2 := (HEM.out.put (i := p) (k := 7) (x := x) HUP.out (by omega) (.int .i64 sn) (fun z => { z with Sent := sn }) (fun _ _ => rfl) rfl).put (i := p) (k := 8) (x := { x with Sent := sn }) (by rw [List.getElem?_set_self (by rw [upS_len]; exact hpn)]) (by omega) (.int .i64 du) (fun z => { z with Due := du }) (fun _ _ => rfl) rfl
    rw [List.set_set, ← hw2] at E2
    clear hw2 d0 hpt t0 tl hgi hgF
    obtain ⟨A6, c6, hgi, hcell, hfz, hbs⟩ := E2.at (i := p) (by rw [List.getElem?_set_self (by rw [upS_len]; exact hpn)])
    have hbs : Bs w2' A6 x.Data_Piece := hbs
    have z0 : w2'.cell? ⟨gi, p * 9, none⟩ = some (.int .i64 x.Data_Tsn) := hcell 0 _ rfl
    have z1 : w2'.cell? ⟨gi, p * 9 + 1, none⟩ = some (.int .i64 x.Data_Stream) := hcell 1 _ rfl
    have z2 : w2'.cell? ⟨gi, p * 9 + 2, none⟩ = some (.int .i64 x.Data_Seq) := hcell 2 _ rfl
    have z3 : w2'.cell? ⟨gi, p * 9 + 3, none⟩ = some (.bool x.Data_First) := hcell 3 _ rfl
    have z4 : w2'.cell? ⟨gi, p * 9 + 4, none⟩ = some (.bool x.Data_Last) := hcell 4 _ rfl
    have z5 : w2'.cell? ⟨gi, p * 9 + 5, none⟩ = some (.bool x.Data_Unordered) := hcell 5 _ rfl
    have z6 : w2'.cell? ⟨gi, p * 9 + 6, none⟩ = some (.slice A6 x.Data_Piece.length c6) := hcell 6 _ rfl
    have HDC := hidH (show Calls Try.prog 102 #[.agg #[.int .i64 x.Data_Tsn, .int .i64 x.Data_Stream, .int .i64 x.Data_Seq, .bool x.Data_First, .bool x.Data_Last, .bool x.Data_Unordered, .slice A6 x.Data_Piece.length c6]] w2' _ from dcopied_any x.d A6 c6 w2' hbs HLNX.out)
    have HE2 := hidH E2
    clear hcell hfz E2 hbs HSE
    go_wp2_with fail
    clear z0 z1 z2 z3 z4 z5 z6 hgi
    refine HDC.out.mono ?_
    rintro e w9 ⟨A8, c8, rfl, o9, b9⟩
    have B11 := btr b9 (bal (Below.refl w9.heap.size w9) (.cells #[.int .i64 x.Data_Tsn, .int .i64 x.Data_Stream, .int .i64 x.Data_Seq, .bool x.Data_First, .bool x.Data_Last, .bool x.Data_Unordered, .slice A8 x.Data_Piece.length c8] 69))
    have K11 := Blk.new w9 69 #[.int .i64 x.Data_Tsn, .int .i64 x.Data_Stream, .int .i64 x.Data_Seq, .bool x.Data_First, .bool x.Data_Last, .bool x.Data_Unordered, .slice A8 x.Data_Piece.length c8]
    have o11 := own_below0 o9 (bal (Below.refl w9.heap.size w9) (.cells #[.int .i64 x.Data_Tsn, .int .i64 x.Data_Stream, .int .i64 x.Data_Seq, .bool x.Data_First, .bool x.Data_Last, .bool x.Data_Unordered, .slice A8 x.Data_Piece.length c8] 69))
    obtain ⟨lo, hi2, hlo, hrt⟩ := RT.of_row o11 (by rw [World.size_alloc]; have := b9.size; omega) [.int x.Data_Tsn, .int x.Data_Stream, .int x.Data_Seq, .bool x.Data_First, .bool x.Data_Last, .bool x.Data_Unordered]
    have HRT := hidH hrt
    have HLO := hidH hlo
    have HB11 := hidH B11
    have HK11 := hidH K11
    have HDR := hidH (HE2.out.turn B11).dat.row
    have HSZ := hidH (show w6.heap.size ≤ _ from Nat.le_trans HE2.out.top B11.size)
    rw [dsS_len, HTL.out] at HDR
    clear B11 K11 o11 hrt hlo o9 b9 HDC
    go_wp2_with (at_builtin; go_loud (refine wpList_append_Da rfl _ _ rfl w6.heap.size _ t _ rfl HDR.out w9.heap.size _ x.Data_Tsn x.Data_Stream x.Data_Seq x.Data_First x.Data_Last x.Data_Unordered A8 x.Data_Piece.length c8 rfl HK11.out (by omega) HSZ.out ?_))
    intro v2 w3 o2 hg
    have E3 := HE2.out.app (v := .slice A8 x.Data_Piece.length c8) (lo := lo) (hi := hi2) (X := x.d) (D' := v2) HB11.out HRT.out HLO.out (by rw [dsS_len, HTL.out]; exact o2) hg
    have HE3 := hidH E3
    clear E3 o2 hg
    go_wp2
    go_roundw
    case rel =>
      refine ⟨t + 1, ls ++ [(.slice A8 x.Data_Piece.length c8, lo, hi2)], by omega, by go_num, ?_⟩
      rw [HMO.out, upS_snoc, dsS_snoc, HGX.out]
      have e : sentI now rto x = { x with Sent := sn, Due := du } := by rw [← HSN.out, ← HDU.out]; rfl
      rw [e]
      exact HE3.out
    case measure => simp [intOf]; omega
theorem em_impl (y : SendM) (vs : List Value) (now rto most : Int) (u : World) (h : RdA u y.vs vs) (_ : WfA y.vs) (_ : tot.totL y.vs ≤ 1048576) (_ : WfV (.int now)) (_ : WfV (.int rto)) (_ : WfV (.int most)) : Calls Try.prog 29 #[.agg vs.toArray, .int .i64 now, .int .i64 rto, .int .i64 most] u (Res u (emR y now rto most).vs) := emw_impl y vs now rto most u h
end Go.Proofs.Ythljdikcpdokdaa
