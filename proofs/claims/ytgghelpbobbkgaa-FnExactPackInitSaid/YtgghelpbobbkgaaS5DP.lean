/- The model's chapter 5: PackData. -/
import Derived.Test.YtgghelpbobbkgaaS5DI
namespace Go.Proofs.Ytgghelpbobbkgaa
open Go.RowKit Go.Deep

set_option maxHeartbeats 400000 in
theorem l5Bad_any (c : Int) (w : World) : Calls Try.prog 43 #[.int .i64 c] w fun e w' => e = .returned (.agg #[.int .i64 c, .int .i64 0, .int .i64 0, .slice none 0 0]) ∧ w.alloc (.cells #[.int .i64 c, .int .i64 0, .int .i64 0, .slice none 0 0] 29) = w' := by
  go_enter Try.func43, Try.ntmps43
  go_wp2
  exact bodyPost_ret (v := .agg #[.int .i64 c, .int .i64 0, .int .i64 0, .slice none 0 0]) (by simp [results, Try.results43, go_sem]) rfl ⟨rfl, rfl⟩
set_option maxRecDepth 100000 in
set_option maxHeartbeats 2000000 in
theorem pd_spec (y : DataM) (vs : List Value) (u : World) (h : RdA u y.vs vs) (hw : WfA y.vs) (ht : tot.totL y.vs ≤ 1048576) : Calls Try.prog 9 #[.agg vs.toArray] u (Res u (pdR y).vs) := by
  obtain ⟨A6, c6, rfl⟩ := shape_Data h
  have K1 := (Blk.new u 31 #[.int .i64 y.Tsn, .int .i64 y.Stream, .int .i64 y.Seq, .bool y.First, .bool y.Last, .bool y.Unordered, .slice A6 y.Piece.length c6]).alloc (.cells #[.int .i64 0, .int .i64 0, .int .i64 0, .slice none 0 0] 29)
  have R1 := Blk.new (u.alloc (.cells #[.int .i64 y.Tsn, .int .i64 y.Stream, .int .i64 y.Seq, .bool y.First, .bool y.Last, .bool y.Unordered, .slice A6 y.Piece.length c6] 31)) 29 #[.int .i64 0, .int .i64 0, .int .i64 0, .slice none 0 0]
  have B1 := bal (bal (Below.refl u.heap.size u) (.cells #[.int .i64 y.Tsn, .int .i64 y.Stream, .int .i64 y.Seq, .bool y.First, .bool y.Last, .bool y.Unordered, .slice A6 y.Piece.length c6] 31)) (.cells #[.int .i64 0, .int .i64 0, .int .i64 0, .slice none 0 0] 29)
  rw [World.size_alloc] at R1
  obtain ⟨w1, hw1⟩ : ∃ w1, (u.alloc (.cells #[.int .i64 y.Tsn, .int .i64 y.Stream, .int .i64 y.Seq, .bool y.First, .bool y.Last, .bool y.Unordered, .slice A6 y.Piece.length c6] 31)).alloc (.cells #[.int .i64 0, .int .i64 0, .int .i64 0, .slice none 0 0] 29) = w1 := ⟨_, rfl⟩
  rw [hw1] at K1 R1 B1
  have hlt := K1.lt
  have M1 : RdL w1 y.vs u.heap.size 0 := RdL.of_cells (RdA.below B1 h) (fun k hk => by rw [Nat.zero_add, K1.cell]; exact arr_get _ k)
  have HW1 := hidH hw1
  have HM := hidH M1
  have HB := hidH B1
  have HR := hidH R1
  have HWF := hidH hw
  have HT := hidH ht
  clear hw1 h K1 R1 B1 M1 hw ht
  go_enter Try.func9, Try.ntmps9
  go_wp2_with fail
  rw [HW1.out]
  refine (pdF_any u.heap.size 0 y w1 HM.out).mono ?_
  rintro e w3 ⟨rfl, b3⟩
  have HM3 := hidH (RdL.below b3 _ hlt HM.out)
  have HB3 := hidH (btr HB.out b3)
  have HR3 := hidH (HR.out.below b3)
  have hlt3 := Nat.lt_of_lt_of_le hlt b3.size
  clear HM HB HR b3 HW1 hlt
  by_cases hz : pdF y = 0
  · have HZ := hidH hz
    have HC := hidH (l5Data_any u.heap.size 0 y w3 hlt3 HM3.out (pdF_zero hz).1.1 (pdF_zero hz).1.2 (pdF_zero hz).2.1.1 (by have := (pdF_zero hz).2.1.2; omega) (pdF_zero hz).2.2.1.1 (by have := (pdF_zero hz).2.2.1.2; omega) (by have := (pdF_zero hz).2.2.2.2; omega))
    rw [hz]
    clear hz HM3 hlt3
    go_wp2_with fail
    refine HC.out.mono ?_
    rintro e w4 ⟨vs, rfl, O4, b4⟩
    obtain ⟨A9, c9, rfl⟩ := shape_Chunk O4.rd
    have R4 := HR3.out.below b4
    have hr3 := HR3.out.lt
    have x0 := R4.cell 0
    have x1 := R4.cell 1
    have x2 := R4.cell 2
    have x3 := R4.cell 3
    have f0 := R4.frozen 0
    have f1 := R4.frozen 1
    have f2 := R4.frozen 2
    have f3 := R4.frozen 3
    simp only [List.getElem?_toArray, List.getElem?_cons_succ, List.getElem?_cons_zero] at x0 x1 x2 x3
    have hr := R4.lt
    have HO := hidH O4
    have HB4 := hidH (btr HB3.out b4)
    clear R4 O4 b4 HC
    go_wp2
    have PF : ∀ a b c' d : Value, OwN u.heap.size ((((w4.setCell ⟨u.heap.size + 1, 0, none⟩ a).setCell ⟨u.heap.size + 1, 1, none⟩ b).setCell ⟨u.heap.size + 1, 2, none⟩ c').setCell ⟨u.heap.size + 1, 3, none⟩ d).heap.size ((((w4.setCell ⟨u.heap.size + 1, 0, none⟩ a).setCell ⟨u.heap.size + 1, 1, none⟩ b).setCell ⟨u.heap.size + 1, 2, none⟩ c').setCell ⟨u.heap.size + 1, 3, none⟩ d) _ _ := fun a b c' d =>
      OwN.int 0 (((((HO.out.win (set_win _ (u.heap.size + 1) 0 a) (.inr (by omega))).win (set_win _ (u.heap.size + 1) 1 b) (.inr (by omega))).win (set_win _ (u.heap.size + 1) 2 c') (.inr (by omega))).win (set_win _ (u.heap.size + 1) 3 d) (.inr (by omega))).mono (by omega) (by simp [World.setCell]) (Nat.le_refl _))
    exact bodyPost_ret (v := .agg #[.int .i64 0, .int .i64 (pdC y).Kind, .int .i64 (pdC y).Flags, .slice A9 (pdC y).Body.length c9]) (by simp [results, Try.results9, go_sem, x0, x1, x2, x3]) rfl ⟨_, rfl, by
      have e : (pdR y).vs = .int 0 :: (pdC y).vs := by rw [pdR, crOf, if_pos HZ.out]; rfl
      rw [e]
      exact PF _ _ _ _, bst (bst (bst (bst HB4.out (Nat.le_succ _) _) (Nat.le_succ _) _) (Nat.le_succ _) _) (Nat.le_succ _) _⟩
  · have hne : (pdF y != 0) = true := by rw [bne_iff_ne]; exact hz
    have HZ := hidH hz
    obtain ⟨F, hF⟩ : ∃ F, pdF y = F := ⟨_, rfl⟩
    have HF := hidH hF
    rw [hF] at hne ⊢
    clear hz hF HM3
    go_wp2_with fail
    refine (l5Bad_any F w3).mono ?_
    rintro e w4 ⟨rfl, h4⟩
    have b4 : Below w3.heap.size w3 w4 := by rw [← h4]; exact bal (Below.refl _ _) _
    have R4 := HR3.out.below b4
    have HB4 := hidH (btr HB3.out b4)
    have x0 := R4.cell 0
    have x1 := R4.cell 1
    have x2 := R4.cell 2
    have x3 := R4.cell 3
    simp only [List.getElem?_toArray, List.getElem?_cons_succ, List.getElem?_cons_zero] at x0 x1 x2 x3
    have f0 := R4.frozen 0
    have f1 := R4.frozen 1
    have f2 := R4.frozen 2
    have f3 := R4.frozen 3
    have hr := R4.lt
    clear h4 b4 R4
    go_wp2
    exact bodyPost_ret (v := .agg #[.int .i64 F, .int .i64 0, .int .i64 0, .slice none 0 0]) (by simp [results, Try.results9, go_sem, x0, x1, x2, x3]) rfl ⟨_, rfl, by
      have e : (pdR y).vs = [.int F, .int 0, .int 0, .bs []] := by rw [pdR, crOf, if_neg HZ.out, HF.out]; rfl
      rw [e]
      exact (OwN.int F (OwN.int 0 (OwN.int 0 (OwN.empty _ (Nat.le_refl _))))), bst (bst (bst (bst HB4.out (Nat.le_succ _) _) (Nat.le_succ _) _) (Nat.le_succ _) _) (Nat.le_succ _) _⟩
end Go.Proofs.Ytgghelpbobbkgaa
