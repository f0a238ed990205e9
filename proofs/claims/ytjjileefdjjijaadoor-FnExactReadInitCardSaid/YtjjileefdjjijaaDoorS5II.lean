/- The model's chapter 5: greetings: l5Init, PackInit. -/
import Derived.Test.YtjjileefdjjijaaDoorS5IR
import Derived.Test.YtjjileefdjjijaaDoorMb6
namespace Go.Proofs.YtjjileefdjjijaaDoor
open Go.RowKit Go.Deep

set_option maxRecDepth 100000 in
set_option maxHeartbeats 8000000 in
theorem l5Init_any (g o : Nat) (y : InitM) (k : Int) (w : World) (hg : g < w.heap.size) (h : RdL w y.vs g o) (hf : inF y = 0) :
    Calls Tryd.prog 69 #[.pointer (some ⟨g, o, none⟩), .int .i64 k] w (Res w (piC y k).vs) := by
  obtain ⟨A2, c2, A3, c3, A4, c4, q0, q1, q2, q3, q4, h2, h3, h4⟩ := mem_Init h
  obtain ⟨⟨a1, a2⟩, ⟨b1, b2⟩, ⟨d1, d2, d3⟩, had, d4⟩ := inF_zero hf
  have t0 : 0 ≤ y.Tag := by omega
  have HI2 := hidH (bsOf h2)
  have HI3 := hidH (isOf h3)
  have HI4 := hidH (bsOf h4)
  have HQ := hidH (And.intro q0 (And.intro q1 (And.intro q2 (And.intro q3 q4))))
  have HD := hidH (And.intro d1 (And.intro d2 (And.intro d3 d4)))
  have d4I : (y.Cookie.length : Int) ≤ 100 := by omega
  have HV := hidH (show ∀ j, j < y.Addrs.length → 0 ≤ y.Addrs.getD j 0 ∧ y.Addrs.getD j 0 ≤ 255 from fun j hj => by
    have := adF_zero _ _ had (y.Addrs.getD j 0) (getD_mem hj)
    omega)
  have K1 := (Blk.new w 28 #[.int .i64 0, .int .i64 0, .slice none 0 0]).below (Below.refl _ _).drew
  have B1 := (bal (Below.refl w.heap.size w) (.cells #[.int .i64 0, .int .i64 0, .slice none 0 0] 28)).drew
  have HK := hidH K1
  have HB := hidH B1
  have HS := hidH (show (w.alloc (.cells #[.int .i64 0, .int .i64 0, .slice none 0 0] 28)).drew.heap.size = w.heap.size + 1 by show (World.alloc _ _).heap.size = _; simp only [World.size_alloc])
  clear h q0 q1 q2 q3 q4 h2 h3 h4 d1 d2 d3 d4 had hf K1 B1 a1
  go_enter Tryd.func69, Tryd.ntmps69
  go_wp2_with fail
  refine wp_region_any (by kernel_rfl) ?_
  refine regI1 _ _ _ g o w.heap.size k y A2 c2 w _ t0 a2 b1 b2 (by have := HD.out; omega) HQ.out.1 HQ.out.2.1 HQ.out.2.2.1 HI2.out hg HB.out.size HK.out.lt (by kernel_rfl) (by kernel_rfl) (by kernel_rfl) rfl (fun h => h) (fun h => h) (fun h => h) (fun h => h) (fun h => h) (fun h => h) (fun h => h) (fun h => h) (fun h => h) (fun h => h) HB.out (Nat.le_refl _) HK.out ?_
  intros
  rename_i bv W hO hS hR h16
  rw [HS.out] at h16 hS
  have O16 := hidH h16
  have HO := hidH hO
  have HR := hidH hR
  have HZ := hidH hS
  clear h16 hO hS hR HK HB HS
  go_wp2_with fail
  refine wp_region_any (by kernel_rfl) ?_
  refine regI2 _ _ _ _ _ _ _ _ _ _ _ _ _ _ _ _ _ _ _ _ _ _ g o w.heap.size (w.heap.size + 1) (8 + y.Random.length) y A3 c3 A4 c4 w W.drew (fun x hx => (O16.out.lt x hx).2) (by have := HD.out; omega) HV.out (by have := HD.out; omega) (by omega) HI3.out HQ.out.2.2.2.1 HQ.out.2.2.2.2 hg (by omega) (by omega) (by kernel_rfl) (by kernel_rfl) (by kernel_rfl) rfl (fun h => h) (fun h => h) (fun h => h) (fun h => h) (fun h => h) (fun h => h) (fun h => h) (fun h => h) HO.out.drew HZ.out (Nat.le_refl _) (HR.out.below (Below.refl _ _).drew) (fun _ => own_below0 O16.out (Below.refl _ _).drew) ?_
  intros
  rename_i bv2 W2 hO2 hS2 hZ2 hR2 h15
  have K2 := hidH hR2
  have O15 := hidH h15
  have HO2 := hidH hO2
  have q4 := (hO2.cell (p := ⟨g, o + 4, none⟩) hg).trans HQ.out.2.2.2.2
  have HS2 := hidH hS2
  have HC4 := hidH (bs_below HI4.out hO2)
  have hrl := hR2.lt
  clear h15 hO2 hS2 hR2 hZ2 O16 HO HR HZ
  go_wp2_with (at_builtin; refine wpList_append_bs rfl _ _ rfl (w.heap.size + 1) _ _ _ rfl O15.out A4 y.Cookie c4 rfl HC4.out (by have := HD.out; simp; omega) HS2.out ?_)
  intro v3 w3 o3 g3
  obtain ⟨L, hL⟩ : ∃ L, inL y = L := ⟨_, rfl⟩
  have hl : L.length = 8 + y.Random.length + (y.Addrs.length + 1 + 1) + y.Cookie.length := by rw [← hL]; simp [inL, pk]; omega
  have o4 : w3.ownsRow (w.heap.size + 1) 5 1 v3 L.length (L.map (Value.int .u8)) := by
    rw [hl, ← hL]
    simpa [inL] using o3
  obtain ⟨A5, c5, e5, ob5, k5, m5⟩ := own_ob o4
  obtain ⟨n9, hn9⟩ : ∃ n9, L.length = n9 := ⟨_, rfl⟩
  rw [hn9] at e5
  subst e5
  have BB := (Below.refl (w.heap.size + 1) W2).grown g3 HS2.out (fun x hx => (O15.out.lt x hx).1)
  have hR3 : Blk w3 w.heap.size 28 #[.int .i64 0, .int .i64 0, .slice none 0 0] := (BB.block _ (Nat.lt_succ_self _)).trans K2.out
  have HL := hidH (show (piC y k).Body = L from hL)
  have HOB := hidH (show OwV (w.heap.size + 1) w3.heap.size w3 (.bs L) (.slice A5 n9 c5) by rw [← hn9]; exact ob5.owv (Nat.le_refl _) ⟨k5, m5⟩)
  have HBW := hidH (HO2.out.trans (BB.mono (Nat.le_succ _)))
  have x0 := hR3.cell 0
  have x1 := hR3.cell 1
  have x2 := hR3.cell 2
  have f0 := hR3.frozen 0
  have f1 := hR3.frozen 1
  have f2 := hR3.frozen 2
  simp only [List.getElem?_toArray, List.getElem?_cons_succ, List.getElem?_cons_zero] at x0 x1 x2
  have hr := hR3.lt
  clear o3 g3 o4 ob5 k5 m5 BB hR3 hL hl hn9 q4 K2 O15 HO2 HS2 hrl
  go_wp2
  exact bodyPost_ret (v := .agg #[.int .i64 k, .int .i64 0, .slice A5 n9 c5]) (by simp [results, Tryd.results69, go_sem, x0, x1, x2]) rfl ⟨_, rfl, by
    show OwN _ _ _ [.int k, .int 0, .bs (piC y k).Body] _
    rw [HL.out]
    refine OwN.int k (OwN.int 0 ((OwN.cons (B := w.heap.size + 1) (C := w3.heap.size) (D := w3.heap.size) ?_ (OwN.nil (by simp [World.setCell])) (by omega) (Nat.le_refl _)).mono (by omega) (by simp [World.setCell]) (Nat.le_refl _)))
    iterate 3 (refine OwV.win (B' := w.heap.size) (C' := w.heap.size + 1) ?_ (set_win _ _ _ _) (.inr (by omega)))
    exact HOB.out, bst (bst (bst HBW.out (Nat.le_refl _) _) (Nat.le_refl _) _) (Nat.le_refl _) _⟩
set_option maxRecDepth 100000 in
set_option maxHeartbeats 4000000 in
theorem pi_spec (y : InitM) (k : Int) (vs : List Value) (u : World) (h : RdA u y.vs vs) (_ : WfA y.vs) (_ : tot.totL y.vs ≤ 1048576) : Calls Tryd.prog 18 #[.agg vs.toArray, .int .i64 k] u (Res u (piR y k).vs) := by
  obtain ⟨A2, c2, A3, c3, A4, c4, rfl⟩ := shape_Init h
  have K1 := (Blk.new u 39 #[.int .i64 y.Tag, .int .i64 y.Tsn, .slice A2 y.Random.length c2, .slice A3 y.Addrs.length c3, .slice A4 y.Cookie.length c4]).alloc (.cells #[.int .i64 0, .int .i64 0, .int .i64 0, .slice none 0 0] 30)
  have R1 := Blk.new (u.alloc (.cells #[.int .i64 y.Tag, .int .i64 y.Tsn, .slice A2 y.Random.length c2, .slice A3 y.Addrs.length c3, .slice A4 y.Cookie.length c4] 39)) 30 #[.int .i64 0, .int .i64 0, .int .i64 0, .slice none 0 0]
  have B1 := bal (bal (Below.refl u.heap.size u) (.cells #[.int .i64 y.Tag, .int .i64 y.Tsn, .slice A2 y.Random.length c2, .slice A3 y.Addrs.length c3, .slice A4 y.Cookie.length c4] 39)) (.cells #[.int .i64 0, .int .i64 0, .int .i64 0, .slice none 0 0] 30)
  rw [World.size_alloc] at R1
  obtain ⟨w1, hw1⟩ : ∃ w1, (u.alloc (.cells #[.int .i64 y.Tag, .int .i64 y.Tsn, .slice A2 y.Random.length c2, .slice A3 y.Addrs.length c3, .slice A4 y.Cookie.length c4] 39)).alloc (.cells #[.int .i64 0, .int .i64 0, .int .i64 0, .slice none 0 0] 30) = w1 := ⟨_, rfl⟩
  rw [hw1] at K1 R1 B1
  have hlt := K1.lt
  have HM := hidH (show RdL w1 y.vs u.heap.size 0 from RdL.of_cells (RdA.below B1 h) (fun k hk => by rw [Nat.zero_add, K1.cell]; exact arr_get _ k))
  have HB := hidH B1
  have HR := hidH R1
  clear h K1 R1 B1
  by_cases hkk : k = 1 ∨ k = 2
  · have HP := hidH (show piF y k = inF y by rw [piF, if_pos hkk])
    have hFA := hidH (inF_any u.heap.size 0 y w1 hlt HM.out)
    by_cases hz : inF y = 0
    · have HZ := hidH (show piF y k = 0 by rw [HP.out, hz])
      have HF := hidH hz
      rw [hz] at hFA
      clear hz
      rcases hkk with rfl | rfl
      · go_enter Tryd.func18, Tryd.ntmps18
        go_wp2_with fail
        refine hFA.out.mono ?_
        rintro e w3 ⟨rfl, b3⟩
        have HM3 := hidH (RdL.below b3 _ hlt HM.out)
        have HB3 := hidH (btr HB.out b3)
        have HR3 := hidH (HR.out.below b3)
        have hlt3 := Nat.lt_of_lt_of_le hlt b3.size
        have HC := hidH (fun k => l5Init_any u.heap.size 0 y k w3 hlt3 HM3.out HF.out)
        clear b3 hFA HM3 hlt3 hw1
        go_wp2_with fail
        refine (HC.out _).mono ?_
        rintro e w4 ⟨vs, rfl, O4, b4⟩
        obtain ⟨A9, c9, rfl⟩ := shape_Chunk O4.rd
        have R4 := HR3.out.below b4
        have hr3 := HR3.out.lt
        have x0 := R4.cell 0
        have x1 := R4.cell 1
        have x2 := R4.cell 2
        have x3 := R4.cell 3
        have f0 := R4.frozen 0
        have f1 := R4.frozen 1
        have f2 := R4.frozen 2
        have f3 := R4.frozen 3
        simp only [List.getElem?_toArray, List.getElem?_cons_succ, List.getElem?_cons_zero] at x0 x1 x2 x3
        have hr := R4.lt
        have HO := hidH O4
        have HB4 := hidH (btr HB3.out b4)
        clear R4 O4 b4 HC
        go_wp2
        have PF : ∀ a b c' d : Value, OwN u.heap.size ((((w4.setCell ⟨u.heap.size + 1, 0, none⟩ a).setCell ⟨u.heap.size + 1, 1, none⟩ b).setCell ⟨u.heap.size + 1, 2, none⟩ c').setCell ⟨u.heap.size + 1, 3, none⟩ d).heap.size ((((w4.setCell ⟨u.heap.size + 1, 0, none⟩ a).setCell ⟨u.heap.size + 1, 1, none⟩ b).setCell ⟨u.heap.size + 1, 2, none⟩ c').setCell ⟨u.heap.size + 1, 3, none⟩ d) _ _ := fun a b c' d =>
          OwN.int 0 (((((HO.out.win (set_win _ (u.heap.size + 1) 0 a) (.inr (by omega))).win (set_win _ (u.heap.size + 1) 1 b) (.inr (by omega))).win (set_win _ (u.heap.size + 1) 2 c') (.inr (by omega))).win (set_win _ (u.heap.size + 1) 3 d) (.inr (by omega))).mono (by omega) (by simp [World.setCell]) (Nat.le_refl _))
        exact bodyPost_ret (v := .agg #[.int .i64 0, .int .i64 (piC y 1).Kind, .int .i64 (piC y 1).Flags, .slice A9 (piC y 1).Body.length c9]) (by simp [results, Tryd.results18, go_sem, x0, x1, x2, x3]) rfl ⟨_, rfl, by
          have e : ∀ k, piF y k = 0 → (piR y k).vs = .int 0 :: (piC y k).vs := fun k hk => by rw [piR, crOf, if_pos hk]; rfl
          rw [e _ HZ.out]
          exact PF _ _ _ _, bst (bst (bst (bst HB4.out (Nat.le_succ _) _) (Nat.le_succ _) _) (Nat.le_succ _) _) (Nat.le_succ _) _⟩
      · go_enter Tryd.func18, Tryd.ntmps18
        go_wp2_with fail
        refine hFA.out.mono ?_
        rintro e w3 ⟨rfl, b3⟩
        have HM3 := hidH (RdL.below b3 _ hlt HM.out)
        have HB3 := hidH (btr HB.out b3)
        have HR3 := hidH (HR.out.below b3)
        have hlt3 := Nat.lt_of_lt_of_le hlt b3.size
        have HC := hidH (fun k => l5Init_any u.heap.size 0 y k w3 hlt3 HM3.out HF.out)
        clear b3 hFA HM3 hlt3 hw1
        go_wp2_with fail
        refine (HC.out _).mono ?_
        rintro e w4 ⟨vs, rfl, O4, b4⟩
        obtain ⟨A9, c9, rfl⟩ := shape_Chunk O4.rd
        have R4 := HR3.out.below b4
        have hr3 := HR3.out.lt
        have x0 := R4.cell 0
        have x1 := R4.cell 1
        have x2 := R4.cell 2
        have x3 := R4.cell 3
        have f0 := R4.frozen 0
        have f1 := R4.frozen 1
        have f2 := R4.frozen 2
        have f3 := R4.frozen 3
        simp only [List.getElem?_toArray, List.getElem?_cons_succ, List.getElem?_cons_zero] at x0 x1 x2 x3
        have hr := R4.lt
        have HO := hidH O4
        have HB4 := hidH (btr HB3.out b4)
        clear R4 O4 b4 HC
        go_wp2
        have PF : ∀ a b c' d : Value, OwN u.heap.size ((((w4.setCell ⟨u.heap.size + 1, 0, none⟩ a).setCell ⟨u.heap.size + 1, 1, none⟩ b).setCell ⟨u.heap.size + 1, 2, none⟩ c').setCell ⟨u.heap.size + 1, 3, none⟩ d).heap.size ((((w4.setCell ⟨u.heap.size + 1, 0, none⟩ a).setCell ⟨u.heap.size + 1, 1, none⟩ b).setCell ⟨u.heap.size + 1, 2, none⟩ c').setCell ⟨u.heap.size + 1, 3, none⟩ d) _ _ := fun a b c' d =>
          OwN.int 0 (((((HO.out.win (set_win _ (u.heap.size + 1) 0 a) (.inr (by omega))).win (set_win _ (u.heap.size + 1) 1 b) (.inr (by omega))).win (set_win _ (u.heap.size + 1) 2 c') (.inr (by omega))).win (set_win _ (u.heap.size + 1) 3 d) (.inr (by omega))).mono (by omega) (by simp [World.setCell]) (Nat.le_refl _))
        exact bodyPost_ret (v := .agg #[.int .i64 0, .int .i64 (piC y 2).Kind, .int .i64 (piC y 2).Flags, .slice A9 (piC y 2).Body.length c9]) (by simp [results, Tryd.results18, go_sem, x0, x1, x2, x3]) rfl ⟨_, rfl, by
          have e : ∀ k, piF y k = 0 → (piR y k).vs = .int 0 :: (piC y k).vs := fun k hk => by rw [piR, crOf, if_pos hk]; rfl
          rw [e _ HZ.out]
          exact PF _ _ _ _, bst (bst (bst (bst HB4.out (Nat.le_succ _) _) (Nat.le_succ _) _) (Nat.le_succ _) _) (Nat.le_succ _) _⟩
    · have HZ := hidH (show piF y k ≠ 0 by rw [HP.out]; exact hz)
      have hne : (inF y != 0) = true := by rw [bne_iff_ne]; exact hz
      obtain ⟨F, hF⟩ : ∃ F, inF y = F := ⟨_, rfl⟩
      have HF := hidH hF
      rw [hF] at hne hFA
      clear hz hF
      rcases hkk with rfl | rfl
      all_goals
        go_enter Tryd.func18, Tryd.ntmps18
        go_wp2_with fail
        refine hFA.out.mono ?_
        rintro e w3 ⟨rfl, b3⟩
        have HB3 := hidH (btr HB.out b3)
        have HR3 := hidH (HR.out.below b3)
        clear b3 hFA HM hw1
        go_wp2_with fail
        refine (l5Bad_any F w3).mono ?_
        rintro e w4 ⟨rfl, h4⟩
        have b4 : Below w3.heap.size w3 w4 := by rw [← h4]; exact bal (Below.refl _ _) _
        have R4 := HR3.out.below b4
        have HB4 := hidH (btr HB3.out b4)
        have x0 := R4.cell 0
        have x1 := R4.cell 1
        have x2 := R4.cell 2
        have x3 := R4.cell 3
        have f0 := R4.frozen 0
        have f1 := R4.frozen 1
        have f2 := R4.frozen 2
        have f3 := R4.frozen 3
        simp only [List.getElem?_toArray, List.getElem?_cons_succ, List.getElem?_cons_zero] at x0 x1 x2 x3
        have hr := R4.lt
        clear h4 b4 R4
        go_wp2
        exact bodyPost_ret (v := .agg #[.int .i64 F, .int .i64 0, .int .i64 0, .slice none 0 0]) (by simp [results, Tryd.results18, go_sem, x0, x1, x2, x3]) rfl ⟨_, rfl, by
          have e : ∀ k, piF y k = inF y → piF y k ≠ 0 → (piR y k).vs = [.int F, .int 0, .int 0, .bs []] := fun k h1 h2 => by rw [piR, crOf, if_neg h2, h1, HF.out]; rfl
          rw [e _ HP.out HZ.out]
          exact (OwN.int F (OwN.int 0 (OwN.int 0 (OwN.empty _ (Nat.le_refl _))))), bst (bst (bst (bst HB4.out (Nat.le_succ _) _) (Nat.le_succ _) _) (Nat.le_succ _) _) (Nat.le_succ _) _⟩
  · have n1 : (k != 1) = true := by rw [bne_iff_ne]; exact fun h => hkk (.inl h)
    have n2 : (k != 2) = true := by rw [bne_iff_ne]; exact fun h => hkk (.inr h)
    have HP := hidH (show piF y k = 3 by rw [piF, if_neg hkk])
    clear hkk HM
    go_enter Tryd.func18, Tryd.ntmps18
    go_wp2_with fail
    refine (l5Bad_any 3 w1).mono ?_
    rintro e w4 ⟨rfl, h4⟩
    have b4 : Below w1.heap.size w1 w4 := by rw [← h4]; exact bal (Below.refl _ _) _
    have R4 := HR.out.below b4
    have HB4 := hidH (btr HB.out b4)
    have x0 := R4.cell 0
    have x1 := R4.cell 1
    have x2 := R4.cell 2
    have x3 := R4.cell 3
    have f0 := R4.frozen 0
    have f1 := R4.frozen 1
    have f2 := R4.frozen 2
    have f3 := R4.frozen 3
    simp only [List.getElem?_toArray, List.getElem?_cons_succ, List.getElem?_cons_zero] at x0 x1 x2 x3
    have hr := R4.lt
    clear h4 b4 R4 hw1
    go_wp2
    exact bodyPost_ret (v := .agg #[.int .i64 3, .int .i64 0, .int .i64 0, .slice none 0 0]) (by simp [results, Tryd.results18, go_sem, x0, x1, x2, x3]) rfl ⟨_, rfl, by
      have e : (piR y k).vs = [.int 3, .int 0, .int 0, .bs []] := by rw [piR, crOf, if_neg (by rw [HP.out]; decide), HP.out]; rfl
      rw [e]
      exact (OwN.int 3 (OwN.int 0 (OwN.int 0 (OwN.empty _ (Nat.le_refl _))))), bst (bst (bst (bst HB4.out (Nat.le_succ _) _) (Nat.le_succ _) _) (Nat.le_succ _) _) (Nat.le_succ _) _⟩
end Go.Proofs.YtjjileefdjjijaaDoor
