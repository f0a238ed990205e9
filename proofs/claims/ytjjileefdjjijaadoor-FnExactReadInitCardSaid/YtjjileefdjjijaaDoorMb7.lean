import Derived.Test.YtjjileefdjjijaaDoorMb6
import Derived.Test.YtjjileefdjjijaaDoorCnI
import Derived.Test.YtjjileefdjjijaaDoorMb5

/- The model's chapter 5: answers: l5Answer, PackAnswer. -/
namespace Go.Proofs.YtjjileefdjjijaaDoor
open Go.RowKit Go.Deep

set_option maxRecDepth 100000 in
set_option maxHeartbeats 4000000 in
theorem l5Answer_any (g o : Nat) (y : AnswerM) (w : World) (hg : g < w.heap.size) (h : RdL w y.vs g o) (ht0 : 0 ≤ y.Serial) (ht1 : y.Serial ≤ 4294967295) (hcs : ∀ j, j < y.Codes.length → 0 ≤ y.Codes.getD j 0 ∧ y.Codes.getD j 0 ≤ 255) (hcl : y.Codes.length ≤ 200) :
    Calls Tryd.prog 78 #[.pointer (some ⟨g, o, none⟩)] w (Res w (paC y).vs) := by
  obtain ⟨A, c, q0, q1, hA⟩ := mem_Answer h
  have HI := hidH (isOf hA)
  have HQ := hidH (And.intro q0 q1)
  have HCS := hidH hcs
  have HCL := hidH hcl
  have K1 := (Blk.new w 28 #[.int .i64 0, .int .i64 0, .slice none 0 0]).below (Below.refl _ _).drew
  have B1 := (bal (Below.refl w.heap.size w) (.cells #[.int .i64 0, .int .i64 0, .slice none 0 0] 28)).drew
  have HK := hidH K1
  have HB := hidH B1
  have HS := hidH (show (w.alloc (.cells #[.int .i64 0, .int .i64 0, .slice none 0 0] 28)).drew.heap.size = w.heap.size + 1 by show (World.alloc _ _).heap.size = _; simp only [World.size_alloc])
  clear h hA q0 q1 hcs hcl K1 B1
  go_enter Tryd.func78, Tryd.ntmps78
  go_wp2_with fail
  refine wp_region_any (by kernel_rfl) ?_
  refine regA1 _ g o w.heap.size y A c w _ ht0 ht1 HCS.out HCL.out HQ.out.1 HQ.out.2 HI.out hg HB.out.size (Nat.le_refl _) HK.out.lt (by kernel_rfl) (by kernel_rfl) (by kernel_rfl) rfl (fun h => h) (fun h => h) (fun h => h) (fun h => h) (fun h => h) (fun h => h) (fun h => h) (fun h => h) (fun h => h) (fun h => h) HB.out (Nat.le_refl _) (fun _ => HK.out) ?_
  intros
  rename_i W2 hO2 hS2 h6 h8
  obtain ⟨L, hL⟩ : ∃ L, pk y.Serial ++ ((y.Codes.length : Int) :: y.Codes) = L := ⟨_, rfl⟩
  have hl : L.length = 4 + (y.Codes.length + 1) := by rw [← hL]; simp [pk] <;> omega
  rw [hL, ← hl] at h6
  obtain ⟨A5, c5, e5, ob5, k5, m5⟩ := own_ob h6
  subst e5
  have HL := hidH (show (paC y).Body = L from hL)
  have x0 := h8.cell 0
  have x1 := h8.cell 1
  have x2 := h8.cell 2
  simp only [List.getElem?_toArray, List.getElem?_cons_succ, List.getElem?_cons_zero] at x0 x1 x2
  rw [HS.out] at ob5
  have PF : OwN w.heap.size W2.heap.size W2 [.int 128, .int 0, .bs L] _ := OwN.int 128 (OwN.int 0 ((OwN.cons (ob5.owv (Nat.le_refl _) ⟨k5, m5⟩) (OwN.nil (B := W2.heap.size) (C := W2.heap.size) (Nat.le_refl _)) (by rw [HS.out] at hS2; exact hS2) (Nat.le_refl _)).mono (by omega) (Nat.le_refl _) (Nat.le_refl _)))
  have HP := hidH PF
  have HO := hidH hO2
  clear hO2 hS2 h6 h8 hl hL ob5 k5 m5 PF
  go_wp2
  exact bodyPost_ret (v := .agg #[.int .i64 128, .int .i64 0, .slice A5 L.length c5]) (by simp [results, Tryd.results78, go_sem, x0, x1, x2]) rfl ⟨_, rfl, by
    show OwN _ _ _ [.int 128, .int 0, .bs (paC y).Body] _
    rw [HL.out]
    exact HP.out, HO.out⟩
set_option maxRecDepth 100000 in
set_option maxHeartbeats 2000000 in
theorem pa_spec (y : AnswerM) (vs : List Value) (u : World) (h : RdA u y.vs vs) (hw : WfA y.vs) (ht : tot.totL y.vs ≤ 1048576) : Calls Tryd.prog 30 #[.agg vs.toArray] u (Res u (paR y).vs) := by
  obtain ⟨A1, c1, rfl⟩ := shape_Answer h
  have K1 := (Blk.new u 63 #[.int .i64 y.Serial, .slice A1 y.Codes.length c1]).alloc (.cells #[.int .i64 0, .int .i64 0, .int .i64 0, .slice none 0 0] 30)
  have R1 := Blk.new (u.alloc (.cells #[.int .i64 y.Serial, .slice A1 y.Codes.length c1] 63)) 30 #[.int .i64 0, .int .i64 0, .int .i64 0, .slice none 0 0]
  have B1 := bal (bal (Below.refl u.heap.size u) (.cells #[.int .i64 y.Serial, .slice A1 y.Codes.length c1] 63)) (.cells #[.int .i64 0, .int .i64 0, .int .i64 0, .slice none 0 0] 30)
  rw [World.size_alloc] at R1
  obtain ⟨w1, hw1⟩ : ∃ w1, (u.alloc (.cells #[.int .i64 y.Serial, .slice A1 y.Codes.length c1] 63)).alloc (.cells #[.int .i64 0, .int .i64 0, .int .i64 0, .slice none 0 0] 30) = w1 := ⟨_, rfl⟩
  rw [hw1] at K1 R1 B1
  have hlt := K1.lt
  have M1 : RdL w1 y.vs u.heap.size 0 := RdL.of_cells (RdA.below B1 h) (fun k hk => by rw [Nat.zero_add, K1.cell]; exact arr_get _ k)
  have HW1 := hidH hw1
  have HM := hidH M1
  have HB := hidH B1
  have HR := hidH R1
  have HWF := hidH hw
  have HT := hidH ht
  clear hw1 h K1 R1 B1 M1 hw ht
  go_enter Tryd.func30, Tryd.ntmps30
  go_wp2_with fail
  rw [HW1.out]
  refine (paF_any u.heap.size 0 y w1 HM.out).mono ?_
  rintro e w3 ⟨rfl, b3⟩
  have HM3 := hidH (RdL.below b3 _ hlt HM.out)
  have HB3 := hidH (btr HB.out b3)
  have HR3 := hidH (HR.out.below b3)
  have hlt3 := Nat.lt_of_lt_of_le hlt b3.size
  clear HM HB HR b3 HW1 hlt
  by_cases hz : paF y = 0
  · have HZ := hidH hz
    have HC := hidH (l5Answer_any u.heap.size 0 y w3 hlt3 HM3.out (paF_zero hz).1.1 (paF_zero hz).1.2 (fun j hj => by have := (paF_zero hz).2.2 j hj; simp only [inB, Bool.and_eq_true, decide_eq_true_eq] at this; omega) (by have := (paF_zero hz).2.1.2; omega))
    rw [hz]
    clear hz HM3 hlt3
    go_wp2_with fail
    refine HC.out.mono ?_
    rintro e w4 ⟨vs, rfl, O4, b4⟩
    obtain ⟨A9, c9, rfl⟩ := shape_Chunk O4.rd
    have R4 := HR3.out.below b4
    have hr3 := HR3.out.lt
    have x0 := R4.cell 0
    have x1 := R4.cell 1
    have x2 := R4.cell 2
    have x3 := R4.cell 3
    have f0 := R4.frozen 0
    have f1 := R4.frozen 1
    have f2 := R4.frozen 2
    have f3 := R4.frozen 3
    simp only [List.getElem?_toArray, List.getElem?_cons_succ, List.getElem?_cons_zero] at x0 x1 x2 x3
    have hr := R4.lt
    have HO := hidH O4
    have HB4 := hidH (btr HB3.out b4)
    clear R4 O4 b4 HC
    go_wp2
    have PF : ∀ a b c' d : Value, OwN u.heap.size ((((w4.setCell ⟨u.heap.size + 1, 0, none⟩ a).setCell ⟨u.heap.size + 1, 1, none⟩ b).setCell ⟨u.heap.size + 1, 2, none⟩ c').setCell ⟨u.heap.size + 1, 3, none⟩ d).heap.size ((((w4.setCell ⟨u.heap.size + 1, 0, none⟩ a).setCell ⟨u.heap.size + 1, 1, none⟩ b).setCell ⟨u.heap.size + 1, 2, none⟩ c').setCell ⟨u.heap.size + 1, 3, none⟩ d) _ _ := fun a b c' d =>
      OwN.int 0 (((((HO.out.win (set_win _ (u.heap.size + 1) 0 a) (.inr (by omega))).win (set_win _ (u.heap.size + 1) 1 b) (.inr (by omega))).win (set_win _ (u.heap.size + 1) 2 c') (.inr (by omega))).win (set_win _ (u.heap.size + 1) 3 d) (.inr (by omega))).mono (by omega) (by simp [World.setCell]) (Nat.le_refl _))
    exact bodyPost_ret (v := .agg #[.int .i64 0, .int .i64 (paC y).Kind, .int .i64 (paC y).Flags, .slice A9 (paC y).Body.length c9]) (by simp [results, Tryd.results30, go_sem, x0, x1, x2, x3]) rfl ⟨_, rfl, by
      have e : (paR y).vs = .int 0 :: (paC y).vs := by rw [paR, crOf, if_pos HZ.out]; rfl
      rw [e]
      exact PF _ _ _ _, bst (bst (bst (bst HB4.out (Nat.le_succ _) _) (Nat.le_succ _) _) (Nat.le_succ _) _) (Nat.le_succ _) _⟩
  · have hne : (paF y != 0) = true := by rw [bne_iff_ne]; exact hz
    have HZ := hidH hz
    obtain ⟨F, hF⟩ : ∃ F, paF y = F := ⟨_, rfl⟩
    have HF := hidH hF
    rw [hF] at hne ⊢
    clear hz hF HM3
    go_wp2_with fail
    refine (l5Bad_any F w3).mono ?_
    rintro e w4 ⟨rfl, h4⟩
    have b4 : Below w3.heap.size w3 w4 := by rw [← h4]; exact bal (Below.refl _ _) _
    have R4 := HR3.out.below b4
    have HB4 := hidH (btr HB3.out b4)
    have x0 := R4.cell 0
    have x1 := R4.cell 1
    have x2 := R4.cell 2
    have x3 := R4.cell 3
    simp only [List.getElem?_toArray, List.getElem?_cons_succ, List.getElem?_cons_zero] at x0 x1 x2 x3
    have f0 := R4.frozen 0
    have f1 := R4.frozen 1
    have f2 := R4.frozen 2
    have f3 := R4.frozen 3
    have hr := R4.lt
    clear h4 b4 R4
    go_wp2
    exact bodyPost_ret (v := .agg #[.int .i64 F, .int .i64 0, .int .i64 0, .slice none 0 0]) (by simp [results, Tryd.results30, go_sem, x0, x1, x2, x3]) rfl ⟨_, rfl, by
      have e : (paR y).vs = [.int F, .int 0, .int 0, .bs []] := by rw [paR, crOf, if_neg HZ.out, HF.out]; rfl
      rw [e]
      exact (OwN.int F (OwN.int 0 (OwN.int 0 (OwN.empty _ (Nat.le_refl _))))), bst (bst (bst (bst HB4.out (Nat.le_succ _) _) (Nat.le_succ _) _) (Nat.le_succ _) _) (Nat.le_succ _) _⟩
end Go.Proofs.YtjjileefdjjijaaDoor

/- The model's ReadAnswer. -/
namespace Go.Proofs.YtjjileefdjjijaaDoor
open Go.RowKit Go.Deep

theorem rwV_chF {x : ChunkM} (h : chF x.Kind x.Flags x.Body ≠ 0) : rwV x = none := by
  cases e : rwV x with
  | none => rfl
  | some y => exact absurd (chF_ans ((rwV_iff x y).1 e)) h
theorem rwV_cnt {x : ChunkM} (h : ¬ cntOk x.Body 4) : rwV x = none := by
  unfold rwV
  rw [if_neg (fun q => h q.1)]
theorem cntL_by {l : List Int} (h : Bytes l) (k : Nat) : Bytes (cntL l k) := bytes_t (bytes_d h _) _
theorem ints_of_bytes {l : List Int} (h : Bytes l) : Ints l := fun x hx => by have := h x hx; omega
theorem raw_wf {l : List Int} (h : Bytes l) : WfA (rawV l).vs := by
  have hw := atW_w5 h 0
  exact ⟨⟨by show _ ≤ atW l 0; omega, by show atW l 0 ≤ _; omega⟩, ints_of_bytes (cntL_by h 4), trivial⟩
theorem raw_tot {l : List Int} (h : Bytes l) : tot.totL (rawV l).vs ≤ 1048576 := by
  have := h.get 4
  show 0 + ((cntL l 4).length + 0) ≤ 1048576
  unfold cntL
  rw [List.length_take]
  unfold cntN
  omega
theorem rwR_len (x : ChunkM) (hw : WfA x.vs) (_ : tot.totL x.vs ≤ 1048576) : vcA (rwR x).vs ≤ 1000000000 := by
  have hb : Bytes x.Body := hw.2.2.1
  unfold rwR
  cases e : rwV x with
  | none => simp [AnswerResultM.vs, vcA, vc, cc]
  | some y =>
    have hy : y = rawV x.Body := by unfold rwV at e; split at e <;> cases e; rfl
    subst hy
    have h4 := hb.get 4
    have hl : (rawV x.Body).Codes.length ≤ 255 := by
      show (cntL x.Body 4).length ≤ 255
      unfold cntL cntN
      rw [List.length_take]; omega
    simp [AnswerResultM.vs, vcA, vc, cc]; omega
theorem l1At_w (A : Option Addr) (l : List Int) (c k : Nat) (w : World) (hA : Bs w A l) (hb : Bytes l) (hk : k + 4 ≤ l.length) (hm : l.length ≤ 4000000) :
    Calls Tryd.prog 81 #[.slice A l.length c, .int .i64 (k : Int)] w fun e w' => e = .returned (.int .i64 (atW l k)) ∧ Below w.heap.size w w' := by
  rcases hA with rfl | ⟨b, off, rfl, hb', hA⟩
  · simp at hk
  · obtain ⟨p0, p1⟩ := hb.get k
    obtain ⟨q0, q1⟩ := hb.get (k + 1)
    obtain ⟨r0, r1⟩ := hb.get (k + 2)
    obtain ⟨s0, s1⟩ := hb.get (k + 3)
    refine (l1At_any b off l.length c k _ _ _ _ w hk (by omega) (hA k (by omega)) (hA (k + 1) (by omega)) (hA (k + 2) (by omega)) (hA (k + 3) (by omega)) p0 p1 q0 q1 r0 r1 s0 s1).mono ?_
    rintro e w' ⟨rfl, m, rfl⟩
    exact ⟨rfl, below_drewN (Below.refl w.heap.size w) m⟩
end Go.Proofs.YtjjileefdjjijaaDoor
