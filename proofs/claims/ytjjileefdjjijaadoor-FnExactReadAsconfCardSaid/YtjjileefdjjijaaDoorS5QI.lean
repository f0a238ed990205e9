/- The model's chapter 5: requests: l5Asconf, PackAsconf. -/
import Derived.Test.YtjjileefdjjijaaDoorS5QR
import Derived.Test.YtjjileefdjjijaaDoorMb6
namespace Go.Proofs.YtjjileefdjjijaaDoor
open Go.RowKit Go.Deep

theorem qaR_len (y : AsconfM) (_ : WfA y.vs) (h : tot.totL y.vs ≤ 1048576) : vcA (qaR y).vs ≤ 1000000000 := by
  simp only [AsconfM.vs, tot.totL, tot, st_AddrOp] at h
  have e : (y.Ops.flatMap opL).length = y.Ops.length * 2 := by
    induction y.Ops with
    | nil => rfl
    | cons x r ih => rw [List.flatMap_cons, List.length_append, ih, List.length_cons]; simp [opL]; omega
  unfold qaR crOf
  split
  · simp only [ChunkResultM.vs, vcA, vc, cc, qaC, pk, List.length_append, List.length_cons, List.length_nil, e]; omega
  · simp [ChunkResultM.vs, vcA, vc, cc]
theorem okOp_get {l : List AddrOpM} (h : l.all okOp = true) {j : Nat} (hj : j < l.length) : (1 ≤ l[j].Kind ∧ l[j].Kind ≤ 3) ∧ 1 ≤ l[j].Addr ∧ l[j].Addr ≤ 255 := by
  have := List.all_eq_true.1 h _ (List.getElem_mem hj)
  simp only [okOp, inB, Bool.and_eq_true, decide_eq_true_eq] at this
  omega
set_option maxRecDepth 100000 in
set_option maxHeartbeats 8000000 in
theorem l5Asconf_any (g o : Nat) (y : AsconfM) (w : World) (hg : g < w.heap.size) (h : RdL w y.vs g o) (ht0 : 0 ≤ y.Serial) (ht1 : y.Serial ≤ 4294967295) (hn : y.Ops.length ≤ 200) (hok : y.Ops.all okOp = true) :
    Calls Tryd.prog 76 #[.pointer (some ⟨g, o, none⟩)] w (Res w (qaC y).vs) := by
  obtain ⟨A, c, q0, q1, hA⟩ := mem_Asconf h
  have HI := hidH hA
  have HQ := hidH (And.intro q0 q1)
  have hnI : (y.Ops.length : Int) ≤ 200 := by omega
  have K1 := (Blk.new w 28 #[.int .i64 0, .int .i64 0, .slice none 0 0]).below (Below.refl _ _).drew
  have B1 := (bal (Below.refl w.heap.size w) (.cells #[.int .i64 0, .int .i64 0, .slice none 0 0] 28)).drew
  have HK := hidH K1
  have HB := hidH B1
  have HS := hidH (show (w.alloc (.cells #[.int .i64 0, .int .i64 0, .slice none 0 0] 28)).drew.heap.size = w.heap.size + 1 by show (World.alloc _ _).heap.size = _; simp only [World.size_alloc])
  have HOK := hidH (fun (j : Nat) (hj : j < y.Ops.length) => okOp_get hok hj)
  have HN := hidH hn
  clear h hA q0 q1 K1 B1 hok hn
  go_enter Tryd.func76, Tryd.ntmps76
  go_wp2_with fail
  refine wp_region_any (by kernel_rfl) ?_
  refine regQ1 _ _ _ _ g o w.heap.size y A c w _ ht0 ht1 hnI HQ.out.1 HQ.out.2 hg HB.out.size HK.out.lt (by kernel_rfl) (by kernel_rfl) (by kernel_rfl) rfl (fun h => h) HB.out (Nat.le_refl _) HK.out ?_
  intros
  rename_i t3 W hO hS hR h13
  rw [HS.out] at h13 hS
  have O13 := hidH h13
  have HO := hidH hO
  have HR := hidH hR
  clear h13 hO hS hR HK HB HS
  go_wp2_with fail
  go_loopw [3, 4] (fun v i wr => ∃ j : Nat, j ≤ y.Ops.length ∧ i = .int .i64 j ∧ wr.ownsRow (w.heap.size + 1) 5 1 v (5 + j * 2) ((pk y.Serial ++ ((y.Ops.length : Int) :: (y.Ops.take j).flatMap opL)).map (Value.int .u8)) ∧ Below w.heap.size w wr ∧ w.heap.size + 1 ≤ wr.heap.size ∧ Blk wr w.heap.size 28 #[.int .i64 0, .int .i64 0, .slice none 0 0]) (fun _ i _ => y.Ops.length - (intOf i).toNat)
  case atStart => exact ⟨0, by omega, rfl, by simpa using O13.out, HO.out, HR.out.lt, HR.out⟩
  case round =>
    obtain ⟨j, hj, rfl, hown, hB, hsz, hR⟩ := hrel
    have q1 := (hB.cell (p := ⟨g, o + 1, none⟩) hg).trans HQ.out.2
    by_cases hlt : j < y.Ops.length
    · have hj0 : (0 : Int) ≤ (j : Int) := by omega
      have hj1 : (j : Int) < (y.Ops.length : Int) := by omega
      obtain ⟨gb, ob, cb, eb, hgb, RB⟩ := Rd.row (f := AddrOpM.vs) (W := 2) (fun _ => rfl) HI.out hlt
      injection eb with eb1 eb2 eb3
      subst eb1 eb3
      obtain ⟨u0, p0, t0⟩ := RB 0 (.int y.Ops[j].Kind) rfl
      obtain ⟨u1, p1, t1⟩ := RB 1 (.int y.Ops[j].Addr) rfl
      have e0 := t0.int_out
      have e1 := t1.int_out
      subst e0 e1
      rw [Nat.add_zero] at p0
      obtain ⟨⟨k0, k1⟩, a0, a1⟩ := HOK.out j hlt
      have ht : (y.Ops.take (j + 1)).flatMap opL = (y.Ops.take j).flatMap opL ++ [y.Ops[j].Kind, y.Ops[j].Addr] := by
        rw [List.take_add_one, List.getElem?_eq_getElem hlt, Option.toList_some, List.flatMap_append]
        simp [opL]
      have HT := hidH ht
      have OW := hidH (own_below0 hown (Below.refl _ _).drew)
      have RW := hidH (hR.below (Below.refl _ _).drew)
      have BW := hidH hB.drew
      have ZW := hidH (show w.heap.size + 1 ≤ wr.drew.heap.size from hsz)
      have P0 := hidH p0
      have P1 := hidH p1
      clear RB t0 t1 ht hown hR hB hsz p0 p1
      go_wp2_with fail
      refine wp_region_any (by kernel_rfl) ?_
      refine regQ5 _ _ _ _ _ _ _ _ _ _ _ _ _ _ _ _ _ _ _ _ _ _ _ _ _ _ _ _ _ _ _ _ _ _ _ _ _ _ _ _ _ _ _ _ _ _ _ _ _ g o w.heap.size (w.heap.size + 1) (5 + j * 2) j gb ob _ _ y c w (by omega) (by omega) (by omega) a1 (by have := HN.out; omega) hj1 hj0 HQ.out.2 P0.out P1.out hg hgb (by omega) (by omega) (by kernel_rfl) (by kernel_rfl) (by kernel_rfl) rfl (fun h => h) (fun h => h) (fun h => h) BW.out ZW.out RW.out (fun _ => OW.out) ?_
      intros
      rename_i t3' W2 hO2 hS2 hR2 h21
      have HO2 := hidH hO2
      have HS2 := hidH hS2
      have HR2 := hidH hR2
      have H21 := hidH (show W2.ownsRow (w.heap.size + 1) 5 1 t3' (5 + (j + 1) * 2) ((pk y.Serial ++ ((y.Ops.length : Int) :: (y.Ops.take (j + 1)).flatMap opL)).map (Value.int .u8)) by
        rw [HT.out, show 5 + (j + 1) * 2 = 5 + j * 2 + 2 by omega]
        simpa using h21)
      clear hO2 hS2 hR2 h21
      go_wp2
      go_roundw
      case rel => exact ⟨j + 1, by omega, by go_num, H21.out, HO2.out, HS2.out, HR2.out⟩
      case measure => simp [intOf]; omega
    · obtain rfl : j = y.Ops.length := by omega
      rw [List.take_length] at hown
      obtain ⟨L, hL⟩ : ∃ L, pk y.Serial ++ ((y.Ops.length : Int) :: y.Ops.flatMap opL) = L := ⟨_, rfl⟩
      have hl : L.length = 5 + y.Ops.length * 2 := by
        have e : (y.Ops.flatMap opL).length = y.Ops.length * 2 := by
          induction y.Ops with
          | nil => rfl
          | cons x r ih => rw [List.flatMap_cons, List.length_append, ih, List.length_cons]; simp [opL]; omega
        rw [← hL, List.length_append, List.length_cons, e]
        simp [pk]
        omega
      rw [hL, ← hl] at hown
      obtain ⟨A5, c5, e5, ob5, k5, m5⟩ := own_ob hown
      subst e5
      have HL := hidH (show (qaC y).Body = L from hL)
      have x0 := hR.cell 0
      have x1 := hR.cell 1
      have x2 := hR.cell 2
      have f0 := hR.frozen 0
      have f1 := hR.frozen 1
      have f2 := hR.frozen 2
      simp only [List.getElem?_toArray, List.getElem?_cons_succ, List.getElem?_cons_zero] at x0 x1 x2
      have hr := hR.lt
      have HOB := hidH (ob5.owv (Nat.le_refl _) ⟨k5, m5⟩)
      have HBW := hidH hB
      clear hown hB hlt hj hR hL hl ob5 k5 m5
      go_wp2
      have PF : ∀ a b c' : Value, OwN w.heap.size (((wr.setCell ⟨w.heap.size, 0, none⟩ a).setCell ⟨w.heap.size, 1, none⟩ b).setCell ⟨w.heap.size, 2, none⟩ c').heap.size (((wr.setCell ⟨w.heap.size, 0, none⟩ a).setCell ⟨w.heap.size, 1, none⟩ b).setCell ⟨w.heap.size, 2, none⟩ c') [.int 193, .int 0, .bs L] _ := fun a b c' =>
        OwN.int 193 (OwN.int 0 ((OwN.cons (((HOB.out.win (set_win _ w.heap.size 0 a) (.inr (by omega))).win (set_win _ w.heap.size 1 b) (.inr (by omega))).win (set_win _ w.heap.size 2 c') (.inr (by omega))) (OwN.nil (B := wr.heap.size) (C := wr.heap.size) (by simp [World.setCell])) (by omega) (Nat.le_refl _)).mono (by omega) (by simp [World.setCell]) (Nat.le_refl _)))
      exact bodyPost_ret (v := .agg #[.int .i64 193, .int .i64 0, .slice A5 L.length c5]) (by simp [results, Tryd.results76, go_sem, x0, x1, x2]) rfl ⟨_, rfl, by
        show OwN _ _ _ [.int 193, .int 0, .bs (qaC y).Body] _
        rw [HL.out]
        exact PF _ _ _, bst (bst (bst HBW.out (Nat.le_refl _) _) (Nat.le_refl _) _) (Nat.le_refl _) _⟩
set_option maxRecDepth 100000 in
set_option maxHeartbeats 2000000 in
theorem qa_spec (y : AsconfM) (vs : List Value) (u : World) (h : RdA u y.vs vs) (hw : WfA y.vs) (ht : tot.totL y.vs ≤ 1048576) : Calls Tryd.prog 29 #[.agg vs.toArray] u (Res u (qaR y).vs) := by
  obtain ⟨A1, c1, rfl⟩ := shape_Asconf h
  have K1 := (Blk.new u 59 #[.int .i64 y.Serial, .slice A1 y.Ops.length c1]).alloc (.cells #[.int .i64 0, .int .i64 0, .int .i64 0, .slice none 0 0] 30)
  have R1 := Blk.new (u.alloc (.cells #[.int .i64 y.Serial, .slice A1 y.Ops.length c1] 59)) 30 #[.int .i64 0, .int .i64 0, .int .i64 0, .slice none 0 0]
  have B1 := bal (bal (Below.refl u.heap.size u) (.cells #[.int .i64 y.Serial, .slice A1 y.Ops.length c1] 59)) (.cells #[.int .i64 0, .int .i64 0, .int .i64 0, .slice none 0 0] 30)
  rw [World.size_alloc] at R1
  obtain ⟨w1, hw1⟩ : ∃ w1, (u.alloc (.cells #[.int .i64 y.Serial, .slice A1 y.Ops.length c1] 59)).alloc (.cells #[.int .i64 0, .int .i64 0, .int .i64 0, .slice none 0 0] 30) = w1 := ⟨_, rfl⟩
  rw [hw1] at K1 R1 B1
  have hlt := K1.lt
  have M1 : RdL w1 y.vs u.heap.size 0 := RdL.of_cells (RdA.below B1 h) (fun k hk => by rw [Nat.zero_add, K1.cell]; exact arr_get _ k)
  have HW1 := hidH hw1
  have HM := hidH M1
  have HB := hidH B1
  have HR := hidH R1
  have HWF := hidH hw
  have HT := hidH ht
  clear hw1 h K1 R1 B1 M1 hw ht
  go_enter Tryd.func29, Tryd.ntmps29
  go_wp2_with fail
  rw [HW1.out]
  refine (qaF_any u.heap.size 0 y w1 HM.out).mono ?_
  rintro e w3 ⟨rfl, b3⟩
  have HM3 := hidH (RdL.below b3 _ hlt HM.out)
  have HB3 := hidH (btr HB.out b3)
  have HR3 := hidH (HR.out.below b3)
  have hlt3 := Nat.lt_of_lt_of_le hlt b3.size
  clear HM HB HR b3 HW1 hlt
  by_cases hz : qaF y = 0
  · have HZ := hidH hz
    have HC := hidH (l5Asconf_any u.heap.size 0 y w3 hlt3 HM3.out (qaF_zero hz).1.1 (qaF_zero hz).1.2 (by have := (qaF_zero hz).2.1.2; omega) (qaF_zero hz).2.2)
    rw [hz]
    clear hz HM3 hlt3
    go_wp2_with fail
    refine HC.out.mono ?_
    rintro e w4 ⟨vs, rfl, O4, b4⟩
    obtain ⟨A9, c9, rfl⟩ := shape_Chunk O4.rd
    have R4 := HR3.out.below b4
    have hr3 := HR3.out.lt
    have x0 := R4.cell 0
    have x1 := R4.cell 1
    have x2 := R4.cell 2
    have x3 := R4.cell 3
    have f0 := R4.frozen 0
    have f1 := R4.frozen 1
    have f2 := R4.frozen 2
    have f3 := R4.frozen 3
    simp only [List.getElem?_toArray, List.getElem?_cons_succ, List.getElem?_cons_zero] at x0 x1 x2 x3
    have hr := R4.lt
    have HO := hidH O4
    have HB4 := hidH (btr HB3.out b4)
    clear R4 O4 b4 HC
    go_wp2
    have PF : ∀ a b c' d : Value, OwN u.heap.size ((((w4.setCell ⟨u.heap.size + 1, 0, none⟩ a).setCell ⟨u.heap.size + 1, 1, none⟩ b).setCell ⟨u.heap.size + 1, 2, none⟩ c').setCell ⟨u.heap.size + 1, 3, none⟩ d).heap.size ((((w4.setCell ⟨u.heap.size + 1, 0, none⟩ a).setCell ⟨u.heap.size + 1, 1, none⟩ b).setCell ⟨u.heap.size + 1, 2, none⟩ c').setCell ⟨u.heap.size + 1, 3, none⟩ d) _ _ := fun a b c' d =>
      OwN.int 0 (((((HO.out.win (set_win _ (u.heap.size + 1) 0 a) (.inr (by omega))).win (set_win _ (u.heap.size + 1) 1 b) (.inr (by omega))).win (set_win _ (u.heap.size + 1) 2 c') (.inr (by omega))).win (set_win _ (u.heap.size + 1) 3 d) (.inr (by omega))).mono (by omega) (by simp [World.setCell]) (Nat.le_refl _))
    exact bodyPost_ret (v := .agg #[.int .i64 0, .int .i64 (qaC y).Kind, .int .i64 (qaC y).Flags, .slice A9 (qaC y).Body.length c9]) (by simp [results, Tryd.results29, go_sem, x0, x1, x2, x3]) rfl ⟨_, rfl, by
      have e : (qaR y).vs = .int 0 :: (qaC y).vs := by rw [qaR, crOf, if_pos HZ.out]; rfl
      rw [e]
      exact PF _ _ _ _, bst (bst (bst (bst HB4.out (Nat.le_succ _) _) (Nat.le_succ _) _) (Nat.le_succ _) _) (Nat.le_succ _) _⟩
  · have hne : (qaF y != 0) = true := by rw [bne_iff_ne]; exact hz
    have HZ := hidH hz
    obtain ⟨F, hF⟩ : ∃ F, qaF y = F := ⟨_, rfl⟩
    have HF := hidH hF
    rw [hF] at hne ⊢
    clear hz hF HM3
    go_wp2_with fail
    refine (l5Bad_any F w3).mono ?_
    rintro e w4 ⟨rfl, h4⟩
    have b4 : Below w3.heap.size w3 w4 := by rw [← h4]; exact bal (Below.refl _ _) _
    have R4 := HR3.out.below b4
    have HB4 := hidH (btr HB3.out b4)
    have x0 := R4.cell 0
    have x1 := R4.cell 1
    have x2 := R4.cell 2
    have x3 := R4.cell 3
    simp only [List.getElem?_toArray, List.getElem?_cons_succ, List.getElem?_cons_zero] at x0 x1 x2 x3
    have f0 := R4.frozen 0
    have f1 := R4.frozen 1
    have f2 := R4.frozen 2
    have f3 := R4.frozen 3
    have hr := R4.lt
    clear h4 b4 R4
    go_wp2
    exact bodyPost_ret (v := .agg #[.int .i64 F, .int .i64 0, .int .i64 0, .slice none 0 0]) (by simp [results, Tryd.results29, go_sem, x0, x1, x2, x3]) rfl ⟨_, rfl, by
      have e : (qaR y).vs = [.int F, .int 0, .int 0, .bs []] := by rw [qaR, crOf, if_neg HZ.out, HF.out]; rfl
      rw [e]
      exact (OwN.int F (OwN.int 0 (OwN.int 0 (OwN.empty _ (Nat.le_refl _))))), bst (bst (bst (bst HB4.out (Nat.le_succ _) _) (Nat.le_succ _) _) (Nat.le_succ _) _) (Nat.le_succ _) _⟩
end Go.Proofs.YtjjileefdjjijaaDoor
