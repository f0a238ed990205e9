/- Chapter 6: VectorOf, the model's. -/
import Derived.Test.YtjjileefdjjijaaS6VR
import Derived.Test.YtjjileefdjjijaaS5I
import Derived.Test.YtjjileefdjjijaaS6J
namespace Go.Proofs.Ytjjileefdjjijaa
open Go.RowKit Go.Deep

theorem vecR_ok {y : InitM} (h : inF y = 0) : (vecR y).vs = [.int 0, .bs (pk y.Tag ++ y.Random)] := by rw [vecR, if_pos h]; rfl
theorem vecR_no {y : InitM} (h : inF y ≠ 0) : (vecR y).vs = [.int (inF y), .bs []] := by rw [vecR, if_neg h]; rfl
set_option maxRecDepth 100000 in
set_option maxHeartbeats 4000000 in
theorem l6Vector_any (g o : Nat) (y : InitM) (w : World) (hg : g < w.heap.size) (h : RdL w y.vs g o) (hf : inF y = 0) :
    Calls Try.prog 47 #[.pointer (some ⟨g, o, none⟩)] w (OwnB w (pk y.Tag ++ y.Random)) := by
  obtain ⟨A2, c2, A3, c3, A4, c4, q0, q1, q2, q3, q4, h2, h3, h4⟩ := mem_Init h
  obtain ⟨⟨a1, a2⟩, ⟨b1, b2⟩, ⟨d1, d2, d3⟩, had, d4⟩ := inF_zero hf
  have t0 : 0 ≤ y.Tag := by omega
  have HI2 := hidH (bsOf h2)
  have HQ := hidH (And.intro q0 q2)
  have HD := hidH d1
  clear h q0 q1 q2 q3 q4 h2 h3 h4 d1 d2 d3 d4 had hf b1 b2 a1
  go_enter Try.func47, Try.ntmps47
  go_wp2_with fail
  refine wp_region_any (by kernel_rfl) ?_
  refine regV1 _ _ g o y A2 c2 w w.drew t0 a2 (by have := HD.out; omega) HQ.out.1 HQ.out.2 HI2.out hg (Nat.le_refl _) (by kernel_rfl) (by kernel_rfl) (by kernel_rfl) rfl (fun h => h) (fun h => h) (fun h => h) (Below.refl _ _).drew (Nat.le_refl _) ?_
  intros
  rename_i W hO hS h10
  have HO := hidH hO
  have O10 := hidH h10
  clear hO hS h10
  go_wp2
  go_ret
  refine ⟨_, rfl, ?_, HO.out⟩
  have e : (pk y.Tag ++ y.Random).length = 4 + y.Random.length := by simp [pk]; omega
  rw [e]
  exact O10.out
set_option maxRecDepth 100000 in
set_option maxHeartbeats 4000000 in
theorem vec_spec (y : InitM) (vs : List Value) (u : World) (h : RdA u y.vs vs) (_ : WfA y.vs) (_ : tot.totL y.vs ≤ 1048576) : Calls Try.prog 15 #[.agg vs.toArray] u (Res u (vecR y).vs) := by
  obtain ⟨A2, c2, A3, c3, A4, c4, rfl⟩ := shape_Init h
  have K1 := (Blk.new u 37 #[.int .i64 y.Tag, .int .i64 y.Tsn, .slice A2 y.Random.length c2, .slice A3 y.Addrs.length c3, .slice A4 y.Cookie.length c4]).alloc (.cells #[.int .i64 0, .slice none 0 0] 35)
  have R1 := Blk.new (u.alloc (.cells #[.int .i64 y.Tag, .int .i64 y.Tsn, .slice A2 y.Random.length c2, .slice A3 y.Addrs.length c3, .slice A4 y.Cookie.length c4] 37)) 35 #[.int .i64 0, .slice none 0 0]
  have B1 := bal (bal (Below.refl u.heap.size u) (.cells #[.int .i64 y.Tag, .int .i64 y.Tsn, .slice A2 y.Random.length c2, .slice A3 y.Addrs.length c3, .slice A4 y.Cookie.length c4] 37)) (.cells #[.int .i64 0, .slice none 0 0] 35)
  rw [World.size_alloc] at R1
  obtain ⟨w1, hw1⟩ : ∃ w1, (u.alloc (.cells #[.int .i64 y.Tag, .int .i64 y.Tsn, .slice A2 y.Random.length c2, .slice A3 y.Addrs.length c3, .slice A4 y.Cookie.length c4] 37)).alloc (.cells #[.int .i64 0, .slice none 0 0] 35) = w1 := ⟨_, rfl⟩
  have hs1 : w1.heap.size = u.heap.size + 1 + 1 := by rw [← hw1]; simp
  rw [hw1] at K1 R1 B1
  have hlt := K1.lt
  have HM := hidH (show RdL w1 y.vs u.heap.size 0 from RdL.of_cells (RdA.below B1 h) (fun k hk => by rw [Nat.zero_add, K1.cell]; exact arr_get _ k))
  have HB := hidH B1
  have HR := hidH R1
  have HS := hidH hs1
  have HW := hidH hw1
  clear h K1 R1 B1 hs1 hw1
  have hFA := hidH (inF_any u.heap.size 0 y w1 hlt HM.out)
  by_cases hz : inF y = 0
  · have HV := hidH (vecR_ok hz)
    have HF := hidH hz
    rw [hz] at hFA
    clear hz
    go_enter Try.func15, Try.ntmps15
    go_wp2_with fail
    rw [HW.out]
    refine hFA.out.mono ?_
    rintro e w3 ⟨rfl, b3⟩
    have HM3 := hidH (RdL.below b3 _ hlt HM.out)
    have HB3 := hidH (btr HB.out b3)
    have HR3 := hidH (HR.out.below b3)
    have hlt3 := Nat.lt_of_lt_of_le hlt b3.size
    have HZ3 := hidH b3.size
    have HC := hidH (l6Vector_any u.heap.size 0 y w3 hlt3 HM3.out HF.out)
    clear b3 hFA HM3 hlt3
    go_wp2_with fail
    refine HC.out.mono ?_
    rintro e w2 ⟨v2, rfl, o2, b2⟩
    obtain ⟨A5, c5, e5, ob5, k5, m5⟩ := own_ob o2
    obtain ⟨n9, hn9⟩ : ∃ n9, (pk y.Tag ++ y.Random).length = n9 := ⟨_, rfl⟩
    rw [hn9] at e5
    subst e5
    have HOB := hidH (show OwV w3.heap.size w2.heap.size w2 (.bs (pk y.Tag ++ y.Random)) (.slice A5 n9 c5) by rw [← hn9]; exact ob5.owv (Nat.le_refl _) ⟨k5, m5⟩)
    have R2 := HR3.out.below b2
    have HB2 := hidH (btr HB3.out b2)
    have HZ := hidH b2.size
    have x0 := R2.cell 0
    have x1 := R2.cell 1
    have f0 := R2.frozen 0
    have f1 := R2.frozen 1
    simp only [List.getElem?_toArray, List.getElem?_cons_succ, List.getElem?_cons_zero] at x0 x1
    have hr := R2.lt
    clear o2 b2 ob5 k5 m5 hn9 R2 HC
    go_wp2
    exact bodyPost_ret (v := .agg #[.int .i64 0, .slice A5 n9 c5]) (by simp [results, Try.results15, go_sem, x0, x1]) rfl ⟨_, rfl, by
      rw [HV.out]
      refine OwN.int 0 ((OwN.cons (B := w3.heap.size) (C := w2.heap.size) (D := w2.heap.size) ?_ (OwN.nil (by simp [World.setCell])) (by have := HZ.out; omega) (Nat.le_refl _)).mono (by have := HB3.out.size; omega) (by simp [World.setCell]) (Nat.le_refl _))
      iterate 2 (refine OwV.win (B' := u.heap.size + 1) (C' := u.heap.size + 1 + 1) ?_ (set_win _ _ _ _) (.inr (by have := HS.out; have := HZ3.out; omega)))
      exact HOB.out, by
      iterate 2 (refine bst ?_ (Nat.le_succ _) _)
      exact HB2.out⟩
  · have HV := hidH (vecR_no hz)
    obtain ⟨F, hF⟩ : ∃ F, inF y = F := ⟨_, rfl⟩
    rw [hF] at hFA hz HV
    have hne : (F != 0) = true := by rw [bne_iff_ne]; exact hz
    clear hz hF
    go_enter Try.func15, Try.ntmps15
    go_wp2_with fail
    rw [HW.out]
    refine hFA.out.mono ?_
    rintro e w3 ⟨rfl, b3⟩
    have HB3 := hidH (btr HB.out b3)
    have R3 := HR.out.below b3
    have x0 := R3.cell 0
    have x1 := R3.cell 1
    have f0 := R3.frozen 0
    have f1 := R3.frozen 1
    simp only [List.getElem?_toArray, List.getElem?_cons_succ, List.getElem?_cons_zero] at x0 x1
    have hr := R3.lt
    clear b3 hFA R3
    go_wp2
    exact bodyPost_ret (v := .agg #[.int .i64 F, .slice none 0 0]) (by simp [results, Try.results15, go_sem, x0, x1]) rfl ⟨_, rfl, by rw [HV.out]; exact OwN.int F (OwN.nb (OwN.nil (Nat.le_refl _))), bst (bst HB3.out (Nat.le_succ _) _) (Nat.le_succ _) _⟩
end Go.Proofs.Ytjjileefdjjijaa
