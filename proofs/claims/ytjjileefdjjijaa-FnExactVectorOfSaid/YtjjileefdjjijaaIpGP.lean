/- The program's greeting: emptyChunk, packContent. -/
import Derived.Test.YtjjileefdjjijaaIpGW
import Derived.Test.YtjjileefdjjijaaIpT
import Derived.Handy
namespace Go.Proofs.Ytjjileefdjjijaa
open Go.RowKit Go.Deep

set_option maxRecDepth 100000 in
set_option maxHeartbeats 2000000 in
theorem emptyG_any (y : InitM) (k : Int) (A2 : Option Addr) (c2 : Nat) (A3 : Option Addr) (c3 : Nat) (A4 : Option Addr) (c4 : Nat) (w : World) :
    Calls Try.prog 80 #[.iface 98 (.agg #[.int .i64 y.Tag, .int .i64 y.Tsn, .slice A2 y.Random.length c2, .slice A3 y.Addrs.length c3, .slice A4 y.Cookie.length c4, .int .i64 k])] w fun e w' => ∃ kk ff : Int, e = .returned (.agg #[.int .i64 kk, .int .i64 ff, .slice none 0 0]) ∧ kk = (piC y k).Kind ∧ ff = (piC y k).Flags ∧ Below w.heap.size w w' := by
  have tD := fun u => taGD (.agg #[.int .i64 y.Tag, .int .i64 y.Tsn, .slice A2 y.Random.length c2, .slice A3 y.Addrs.length c3, .slice A4 y.Cookie.length c4, .int .i64 k]) u
  have tS := fun u => taGS (.agg #[.int .i64 y.Tag, .int .i64 y.Tsn, .slice A2 y.Random.length c2, .slice A3 y.Addrs.length c3, .slice A4 y.Cookie.length c4, .int .i64 k]) u
  have tG := fun u => taGG (.agg #[.int .i64 y.Tag, .int .i64 y.Tsn, .slice A2 y.Random.length c2, .slice A3 y.Addrs.length c3, .slice A4 y.Cookie.length c4, .int .i64 k]) u
  go_enter Try.func80, Try.ntmps80
  go_wp2
  exact bodyPost_ret (v := .agg #[.int .i64 (k), .int .i64 (0), .slice none 0 0]) (by simp [results, Try.results80, go_sem]) rfl ⟨_, _, rfl, rfl, rfl, bal (bal (bal (Below.refl _ _) _) _) _⟩
set_option maxRecDepth 100000 in
set_option maxHeartbeats 4000000 in
theorem pcG_any (y : InitM) (k : Int) (A2 : Option Addr) (c2 : Nat) (A3 : Option Addr) (c3 : Nat) (A4 : Option Addr) (c4 : Nat) (w : World) (h : RdA w y.vs [.int .i64 y.Tag, .int .i64 y.Tsn, .slice A2 y.Random.length c2, .slice A3 y.Addrs.length c3, .slice A4 y.Cookie.length c4]) :
    Calls Try.prog 70 #[.iface 98 (.agg #[.int .i64 y.Tag, .int .i64 y.Tsn, .slice A2 y.Random.length c2, .slice A3 y.Addrs.length c3, .slice A4 y.Cookie.length c4, .int .i64 k])] w (Res w (piR y k).vs) := by
  have K1 := Blk.new w 77 #[.int .i64 0, .int .i64 0, .int .i64 0, .slice none 0 0]
  have B1 := bal (Below.refl w.heap.size w) (.cells #[.int .i64 0, .int .i64 0, .int .i64 0, .slice none 0 0] 77)
  obtain ⟨w1, hw1⟩ : ∃ w1, w.alloc (.cells #[.int .i64 0, .int .i64 0, .int .i64 0, .slice none 0 0] 77) = w1 := ⟨_, rfl⟩
  rw [hw1] at K1 B1
  have HF := hidH (inF_impl y k A2 c2 A3 c3 A4 c4 w1 (RdA.below B1 h))
  have HRD := hidH h
  have HT := hidH (And.intro K1 B1)
  clear h K1 B1
  go_enter Try.func70, Try.ntmps70
  go_wp2_with fail
  refine HF.out.mono ?_
  rintro e w3 ⟨rfl, b3⟩
  replace HT := hidH (And.intro (HT.out.1.below b3) (btr HT.out.2 b3))
  clear HF b3 hw1
  by_cases hz : piF y k = 0
  · have HZ := hidH hz
    rw [hz]
    have KR := Blk.new w3 113 #[.slice none 0 0]
    have B4 := bal (Below.refl w3.heap.size w3) (.cells #[.slice none 0 0] 113)
    obtain ⟨w4, hw4⟩ : ∃ w4, w3.alloc (.cells #[.slice none 0 0] 113) = w4 := ⟨_, rfl⟩
    rw [hw4] at KR B4
    have hRl := HT.out.1.lt
    have HW := hidH (inW_impl w3.heap.size y k A2 c2 A3 c3 A4 c4 w w4 HRD.out (btr HT.out.2 B4) HT.out.2.size (wr_nil KR) hz)
    unfold Wrote at HW
    obtain ⟨L, hL⟩ : ∃ L, (piC y k).Body = L := ⟨_, rfl⟩
    rw [hL] at HW
    have HL := hidH hL
    replace HT := hidH (And.intro (HT.out.1.below B4) (btr HT.out.2 B4))
    have HR := hidH hRl
    clear hz KR B4 hRl hL
    go_wp2_with fail
    refine HW.out.mono ?_
    rintro e w5 ⟨rfl, hw, hb, _⟩
    replace HT := hidH (And.intro (show Blk w5 w.heap.size 77 _ from (hb.block _ HR.out).trans HT.out.1) (HT.out.2.trans (hb.mono (Nat.le_of_lt HR.out))))
    have HE := hidH (emptyG_any y k A2 c2 A3 c3 A4 c4 w5)
    have HWR := hidH hw
    clear HW hw hb hw4
    go_wp2_with fail
    refine HE.out.mono ?_
    rintro e w6 ⟨kk, ff, rfl, hkk, hff, b6⟩
    have HKF := hidH (And.intro hkk hff)
    clear hkk hff
    obtain ⟨v, KW, OW⟩ := HWR.out.below b6
    obtain ⟨A9, c9, e9, ob9, k9, m9⟩ := own_ob OW
    subst e9
    have hs6 := KW.lt
    have K6 := HT.out.1.below b6
    have HB6 := hidH (HT.out.2.trans (b6.mono HT.out.2.size))
    have B7 := bal (Below.refl w6.heap.size w6) (.cells #[.int .i64 kk, .int .i64 ff, .slice none 0 0] 75)
    have K7 := Blk.new w6 75 #[.int .i64 kk, .int .i64 ff, .slice none 0 0]
    have KW7 := KW.below B7
    have KR7 := K6.below B7
    obtain ⟨n9, hn9⟩ : ∃ n, L.length = n := ⟨_, rfl⟩
    have HOB := hidH (show OwV (w3.heap.size + 1) w6.heap.size (w6.alloc (.cells #[.int .i64 kk, .int .i64 ff, .slice none 0 0] 75)) (.bs L) (.slice A9 n9 c9) by rw [← hn9]; exact (ob9.owv (Nat.le_refl _) ⟨k9, m9⟩).below B7)
    rw [hn9] at KW7
    have x0 := KR7.cell 0
    have x1 := KR7.cell 1
    have x2 := KR7.cell 2
    have x3 := KR7.cell 3
    have f0 := KR7.frozen 0
    have f1 := KR7.frozen 1
    have f2 := KR7.frozen 2
    have f3 := KR7.frozen 3
    have y0 := K7.cell 0
    have y1 := K7.cell 1
    have y2 := K7.cell 2
    have g2 := K7.frozen 2
    have z0 := KW7.cell 0
    simp only [List.getElem?_toArray, List.getElem?_cons_succ, List.getElem?_cons_zero] at x0 x1 x2 x3 y0 y1 y2 z0
    have l1 := KR7.lt
    have l2 := K7.lt
    have l3 := KW7.lt
    have HB7 := hidH (btr HB6.out B7)
    obtain ⟨w7, hw7⟩ : ∃ w7, w6.alloc (.cells #[.int .i64 kk, .int .i64 ff, .slice none 0 0] 75) = w7 := ⟨_, rfl⟩
    rw [hw7] at x0 x1 x2 x3 f0 f1 f2 f3 y0 y1 y2 g2 z0 l1 l2 l3 HB7 HOB
    have HS := hidH (And.intro hs6 (And.intro K6.lt HR.out))
    have ne1 : w.heap.size ≠ w6.heap.size := by have := K6.lt; omega
    have ne2 : w3.heap.size ≠ w6.heap.size := by omega
    have ne3 : w3.heap.size ≠ w.heap.size := by have := HR.out; omega
    clear HE HWR b6 KW OW ob9 k9 m9 hs6 K6 B7 K7 KW7 KR7 hn9 HB6
    go_wp2
    have hle : w.heap.size ≤ w6.heap.size := by have := HS.out; omega
    exact bodyPost_ret (v := .agg #[.int .i64 0, .int .i64 kk, .int .i64 ff, .slice A9 n9 c9]) (by simp [results, Try.results70, go_sem, x0, x1, x2, x3]) rfl ⟨_, rfl, by
      have e : (piR y k).vs = [.int 0, .int kk, .int ff, .bs L] := by rw [piR, crOf, if_pos HZ.out, ← HL.out, HKF.out.1, HKF.out.2]; rfl
      rw [e]
      refine OwN.int 0 (OwN.int _ (OwN.int _ ((OwN.cons (B := w3.heap.size + 1) (C := w6.heap.size) (D := w6.heap.size) ?_ (OwN.nil (by simp [World.setCell]; omega)) (by have := HS.out; omega) (Nat.le_refl _)).mono (by have := HS.out; omega) (by simp [World.setCell]; omega) (Nat.le_refl _))))
      iterate 4 (refine OwV.win (B' := w.heap.size) (C' := w.heap.size + 1) ?_ (set_win _ _ _ _) (.inr (by have := HS.out; omega)))
      repeat (refine OwV.win (B' := w6.heap.size) (C' := w6.heap.size + 1) ?_ (set_win _ _ _ _) (.inl (Nat.le_refl _)))
      exact HOB.out, by
      repeat (refine bst ?_ (by first | exact Nat.le_refl _ | exact hle) _)
      exact HB7.out⟩
  · have hne : (piF y k != 0) = true := by rw [bne_iff_ne]; exact hz
    have HZ := hidH hz
    obtain ⟨F, hF⟩ : ∃ F, piF y k = F := ⟨_, rfl⟩
    have HEQ := hidH hF
    rw [hF] at hne ⊢
    have x0 := HT.out.1.cell 0
    have x1 := HT.out.1.cell 1
    have x2 := HT.out.1.cell 2
    have x3 := HT.out.1.cell 3
    simp only [List.getElem?_toArray, List.getElem?_cons_succ, List.getElem?_cons_zero] at x0 x1 x2 x3
    have f0 := HT.out.1.frozen 0
    have f1 := HT.out.1.frozen 1
    have f2 := HT.out.1.frozen 2
    have f3 := HT.out.1.frozen 3
    have hr := HT.out.1.lt
    clear hz hF
    go_wp2
    exact bodyPost_ret (v := .agg #[.int .i64 F, .int .i64 0, .int .i64 0, .slice none 0 0]) (by simp [results, Try.results70, go_sem, x0, x1, x2, x3]) rfl ⟨_, rfl, by
      have e : (piR y k).vs = [.int F, .int 0, .int 0, .bs []] := by rw [piR, crOf, if_neg HZ.out, HEQ.out]; rfl
      rw [e]
      exact (OwN.int F (OwN.int 0 (OwN.int 0 (OwN.empty _ (Nat.le_refl _))))), bst (bst (bst (bst HT.out.2 (Nat.le_refl _) _) (Nat.le_refl _) _) (Nat.le_refl _) _) (Nat.le_refl _) _⟩
set_option maxRecDepth 100000 in
set_option maxHeartbeats 2000000 in
theorem pi_impl (y : InitM) (k : Int) (vs : List Value) (u : World) (h : RdA u y.vs vs) (_ : WfA y.vs) (_ : tot.totL y.vs ≤ 1048576) : Calls Try.prog 49 #[.agg vs.toArray, .int .i64 k] u (Res u (piR y k).vs) := by
  obtain ⟨A2, c2, A3, c3, A4, c4, rfl⟩ := shape_Init h
  have K1 := (Blk.new u 37 #[.int .i64 y.Tag, .int .i64 y.Tsn, .slice A2 y.Random.length c2, .slice A3 y.Addrs.length c3, .slice A4 y.Cookie.length c4]).alloc (.cells #[.int .i64 0, .int .i64 0, .int .i64 0, .slice none 0 0] 77)
  have R1 := Blk.new (u.alloc (.cells #[.int .i64 y.Tag, .int .i64 y.Tsn, .slice A2 y.Random.length c2, .slice A3 y.Addrs.length c3, .slice A4 y.Cookie.length c4] 37)) 77 #[.int .i64 0, .int .i64 0, .int .i64 0, .slice none 0 0]
  have B1 := bal (bal (Below.refl u.heap.size u) (.cells #[.int .i64 y.Tag, .int .i64 y.Tsn, .slice A2 y.Random.length c2, .slice A3 y.Addrs.length c3, .slice A4 y.Cookie.length c4] 37)) (.cells #[.int .i64 0, .int .i64 0, .int .i64 0, .slice none 0 0] 77)
  rw [World.size_alloc] at R1
  obtain ⟨w1, hw1⟩ : ∃ w1, (u.alloc (.cells #[.int .i64 y.Tag, .int .i64 y.Tsn, .slice A2 y.Random.length c2, .slice A3 y.Addrs.length c3, .slice A4 y.Cookie.length c4] 37)).alloc (.cells #[.int .i64 0, .int .i64 0, .int .i64 0, .slice none 0 0] 77) = w1 := ⟨_, rfl⟩
  rw [hw1] at K1 R1 B1
  have HC := hidH (pcG_any y k A2 c2 A3 c3 A4 c4 w1 (RdA.below B1 h))
  have HT := hidH (And.intro R1 B1)
  have k0 := K1.cell 0
  have k1 := K1.cell 1
  have k2 := K1.cell 2
  have k3 := K1.cell 3
  have k4 := K1.cell 4
  simp only [List.getElem?_toArray, List.getElem?_cons_succ, List.getElem?_cons_zero] at k0 k1 k2 k3 k4
  have hlt := K1.lt
  obtain ⟨z, hz⟩ : ∃ z, piR y k = z := ⟨_, rfl⟩
  rw [hz] at HC ⊢
  clear h K1 R1 B1 hz
  go_enter Try.func49, Try.ntmps49
  go_wp2_with fail
  refine HC.out.mono ?_
  rintro e w3 ⟨vs, rfl, O3, b3⟩
  obtain ⟨A9, c9, rfl⟩ := shape_ChunkResult O3.rd
  have R4 := HT.out.1.below b3
  have x0 := R4.cell 0
  have x1 := R4.cell 1
  have x2 := R4.cell 2
  have x3 := R4.cell 3
  have f0 := R4.frozen 0
  have f1 := R4.frozen 1
  have f2 := R4.frozen 2
  have f3 := R4.frozen 3
  simp only [List.getElem?_toArray, List.getElem?_cons_succ, List.getElem?_cons_zero] at x0 x1 x2 x3
  have hr := R4.lt
  have hr1 := HT.out.1.lt
  have HO := hidH O3
  have HB := hidH (btr HT.out.2 b3)
  clear HC O3 b3 R4 k0 k1 k2 k3 k4 hlt
  go_wp2
  have PF : ∀ a b c' e : Value, OwN u.heap.size ((((w3.setCell ⟨u.heap.size + 1, 0, none⟩ a).setCell ⟨u.heap.size + 1, 1, none⟩ b).setCell ⟨u.heap.size + 1, 2, none⟩ c').setCell ⟨u.heap.size + 1, 3, none⟩ e).heap.size ((((w3.setCell ⟨u.heap.size + 1, 0, none⟩ a).setCell ⟨u.heap.size + 1, 1, none⟩ b).setCell ⟨u.heap.size + 1, 2, none⟩ c').setCell ⟨u.heap.size + 1, 3, none⟩ e) z.vs _ := fun a b c' e =>
    ((((HO.out.win (set_win _ (u.heap.size + 1) 0 a) (.inr (by omega))).win (set_win _ (u.heap.size + 1) 1 b) (.inr (by omega))).win (set_win _ (u.heap.size + 1) 2 c') (.inr (by omega))).win (set_win _ (u.heap.size + 1) 3 e) (.inr (by omega))).mono (by omega) (by simp [World.setCell]) (Nat.le_refl _)
  exact bodyPost_ret (v := .agg #[.int .i64 z.Code, .int .i64 z.Chunk_Kind, .int .i64 z.Chunk_Flags, .slice A9 z.Chunk_Body.length c9]) (by simp [results, Try.results49, go_sem, x0, x1, x2, x3]) rfl ⟨_, rfl, PF _ _ _ _, bst (bst (bst (bst HB.out (Nat.le_succ _) _) (Nat.le_succ _) _) (Nat.le_succ _) _) (Nat.le_succ _) _⟩
end Go.Proofs.Ytjjileefdjjijaa
