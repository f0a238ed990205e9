/- The model's chapter 5: data: l5Data, PackData. -/
import Derived.Test.YtgghelpbobbkgaaS5DR
namespace Go.Proofs.Ytgghelpbobbkgaa
open Go.RowKit Go.Deep

set_option maxRecDepth 100000 in
set_option maxHeartbeats 8000000 in
theorem l5Data_any (g o : Nat) (y : DataM) (w : World) (hg : g < w.heap.size) (h : RdL w y.vs g o) (ht0 : 0 ≤ y.Tsn) (ht1 : y.Tsn ≤ 4294967295) (hs0 : 0 ≤ y.Stream) (hs1 : y.Stream < 65536) (hz0 : 0 ≤ y.Seq) (hz1 : y.Seq < 65536) (hpl : y.Piece.length ≤ 1000) :
    Calls Try.prog 44 #[.pointer (some ⟨g, o, none⟩)] w (Res w (pdC y).vs) := by
  obtain ⟨A, c, q0, q1, q2, q3, q4, q5, q6, hA⟩ := mem_Data h
  have HP := hidH (bsOf hA)
  have HK := hidH (fun f : Int => show Below w.heap.size w ((w.alloc (.cells #[.int .i64 0, .int .i64 0, .slice none 0 0] 27)).alloc (.cells #[.int .i64 0, .int .i64 f, .slice none 0 0] 27)).drew ∧
      Blk ((w.alloc (.cells #[.int .i64 0, .int .i64 0, .slice none 0 0] 27)).alloc (.cells #[.int .i64 0, .int .i64 f, .slice none 0 0] 27)).drew w.heap.size 27 #[.int .i64 0, .int .i64 0, .slice none 0 0] ∧
      Blk ((w.alloc (.cells #[.int .i64 0, .int .i64 0, .slice none 0 0] 27)).alloc (.cells #[.int .i64 0, .int .i64 f, .slice none 0 0] 27)).drew (w.heap.size + 1) 27 #[.int .i64 0, .int .i64 f, .slice none 0 0] from
    have b := bal (bal (Below.refl w.heap.size w) (.cells #[.int .i64 0, .int .i64 0, .slice none 0 0] 27)) (.cells #[.int .i64 0, .int .i64 f, .slice none 0 0] 27)
    ⟨b.drew, ((Blk.new w _ _).alloc _).below (Below.refl _ _).drew, by
      have := (Blk.new (w.alloc (.cells #[.int .i64 0, .int .i64 0, .slice none 0 0] 27)) 27 #[.int .i64 0, .int .i64 f, .slice none 0 0]).below (Below.refl _ _).drew
      rwa [World.size_alloc] at this⟩)
  have HQ := hidH (And.intro q0 (And.intro q1 (And.intro q2 q6)))
  have HF := hidH (show (pdC y).Flags = bitN y.Last 1 + bitN y.First 2 + bitN y.Unordered 4 from rfl)
  have HPL := hidH hpl
  clear h hA q0 q1 q2 q6 hpl
  rcases Bool.eq_false_or_eq_true y.Last with a1 | a1 <;> rcases Bool.eq_false_or_eq_true y.First with a2 | a2 <;> rcases Bool.eq_false_or_eq_true y.Unordered with a3 | a3
  all_goals
    rw [a2] at q3
    rw [a1] at q4
    rw [a3] at q5
    rw [a1, a2, a3] at HF
    go_enter Try.func44, Try.ntmps44
    go_wp2_with fail
    refine wp_region_any (by kernel_rfl) ?_
    refine regD8 _ _ _ _ _ _ _ _ _ _ _ _ _ _ _ _ _ _ _ _ _ _ _ _ g o (w.heap.size + 1) w.heap.size w.heap.size _ _ _ _ y _ ht0 ht1 hs0 hs1 hz0 hz1 (((HK.out _).1.cell (p := ⟨g, o, none⟩) hg).trans HQ.out.1) (((HK.out _).1.cell (p := ⟨g, o + 1, none⟩) hg).trans HQ.out.2.1) (((HK.out _).1.cell (p := ⟨g, o + 2, none⟩) hg).trans HQ.out.2.2.1) hg (HK.out _).1.size (Nat.le_succ _) (HK.out _).2.2.lt (HK.out _).2.1.lt (by omega) (by kernel_rfl) (by kernel_rfl) (by kernel_rfl) rfl (fun h => h) (fun h => h) (fun h => h) (fun h => h) (fun h => h) (fun h => h) (fun h => h) (fun h => h) (fun h => h) (fun h => h) (fun h => h) (fun h => h) (fun h => h) (fun h => h) (fun h => h) (Below.refl _ _) (Nat.le_refl _) (HK.out _).2.1 (fun _ => (HK.out _).2.2) ?_
    intros
    rename_i W hO hS hR0 h16 h18
    have hb0 : ((w.alloc (.cells #[.int .i64 0, .int .i64 0, .slice none 0 0] 27)).alloc (.cells #[.int .i64 0, .int .i64 0, .slice none 0 0] 27)).drew.heap.size = w.heap.size + 2 := by show (World.alloc _ _).heap.size = _; simp only [World.size_alloc]
    have hbf : ∀ f : Int, ((w.alloc (.cells #[.int .i64 0, .int .i64 0, .slice none 0 0] 27)).alloc (.cells #[.int .i64 0, .int .i64 f, .slice none 0 0] 27)).drew.heap.size = w.heap.size + 2 := fun f => by show (World.alloc _ _).heap.size = _; simp only [World.size_alloc]
    rw [hbf] at h16 hS
    have hOw : Below w.heap.size w W := (HK.out _).1.trans hO
    obtain ⟨A4, c4, e4, _, _, _⟩ := own_ob (d := pk y.Tsn ++ pairL y.Stream ++ pairL y.Seq) h16
    subst e4
    have HOW := hidH hOw.drew
    have HSW := hidH (show w.heap.size + 2 ≤ W.drew.heap.size from hS)
    have HRW := hidH (hR0.below (Below.refl _ _).drew)
    have HCW := hidH (h18.below (Below.refl _ _).drew)
    have HXW := hidH (own_below0 h16 (Below.refl _ _).drew)
    clear hO hS hR0 h16 h18 hOw hb0 hbf
    go_wp2_with fail
    refine wp_region_any (by kernel_rfl) ?_
    refine regD9 _ _ _ _ _ _ _ _ _ _ _ _ _ _ _ _ _ _ _ _ _ _ _ _ _ _ _ _ _ _ _ _ _ _ _ _ _ _ _ _ _ _ g o (w.heap.size + 1) w.heap.size (w.heap.size + 2) _ _ _ _ y A4 A c4 c w HQ.out.2.2.2 HP.out HPL.out hg (by omega) (by omega) (by omega) (by omega) (by omega) (by kernel_rfl) (by kernel_rfl) (by kernel_rfl) rfl (fun h => h) (fun h => h) (fun h => h) HOW.out HSW.out HRW.out (fun _ => HCW.out) (fun _ => HXW.out) ?_
    intros
    rename_i W2 hO2 hS2 hR2 h6 h8
    have hl : (pk y.Tsn ++ pairL y.Stream ++ pairL y.Seq ++ y.Piece).length = 8 + y.Piece.length := by simp [pk, pairL] <;> omega
    rw [← hl] at h6
    obtain ⟨A5, c5, e5, ob5, k5, m5⟩ := own_ob h6
    subst e5
    obtain ⟨L, hL⟩ : ∃ L, pk y.Tsn ++ pairL y.Stream ++ pairL y.Seq ++ y.Piece = L := ⟨_, rfl⟩
    have HL := hidH (show (pdC y).Body = L from hL)
    rw [hL] at h8 ob5 k5
    have x0 := hR2.cell 0
    have x1 := hR2.cell 1
    have x2 := hR2.cell 2
    have f0 := hR2.frozen 0
    have f1 := hR2.frozen 1
    have f2 := hR2.frozen 2
    have y0 := h8.cell 0
    have y1 := h8.cell 1
    have y2 := h8.cell 2
    simp only [List.getElem?_toArray, List.getElem?_cons_succ, List.getElem?_cons_zero] at x0 x1 x2 y0 y1 y2
    have hr := hR2.lt
    have hc := h8.lt
    have HOB := hidH (ob5.owv (Nat.le_refl _) ⟨k5, m5⟩)
    have HO2 := hidH hO2
    clear hO2 hS2 hR2 h6 h8 hl hL ob5 k5 m5
    go_wp2
    have PF : ∀ a b c' : Value, OwN w.heap.size (((W2.setCell ⟨w.heap.size, 0, none⟩ a).setCell ⟨w.heap.size, 1, none⟩ b).setCell ⟨w.heap.size, 2, none⟩ c').heap.size (((W2.setCell ⟨w.heap.size, 0, none⟩ a).setCell ⟨w.heap.size, 1, none⟩ b).setCell ⟨w.heap.size, 2, none⟩ c') _ _ := fun a b c' =>
      OwN.int 0 (OwN.int (pdC y).Flags ((OwN.cons (((HOB.out.win (set_win _ w.heap.size 0 a) (.inr (by omega))).win (set_win _ w.heap.size 1 b) (.inr (by omega))).win (set_win _ w.heap.size 2 c') (.inr (by omega))) (OwN.nil (B := W2.heap.size) (C := W2.heap.size) (by simp [World.setCell])) (by omega) (Nat.le_refl _)).mono (by omega) (by simp [World.setCell]) (Nat.le_refl _)))
    have hfl := HF.out
    simp only [bitN, if_true, if_false, Bool.false_eq_true, Int.reduceAdd] at hfl
    exact bodyPost_ret (v := .agg #[.int .i64 0, .int .i64 ((pdC y).Flags), .slice A5 L.length c5]) (by simp [results, Try.results44, go_sem, x0, x1, x2, hfl]) rfl ⟨_, rfl, by
      show OwN _ _ _ [.int 0, .int (pdC y).Flags, .bs (pdC y).Body] _
      rw [HL.out]
      exact PF _ _ _, bst (bst (bst HO2.out (Nat.le_refl _) _) (Nat.le_refl _) _) (Nat.le_refl _) _⟩
end Go.Proofs.Ytgghelpbobbkgaa
