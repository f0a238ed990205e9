/- The program's byteReader: answer. -/
import Derived.Test.YtgghelpbobbkgaaDoorRd5N
namespace Go.Proofs.YtgghelpbobbkgaaDoor
open Go.RowKit Go.Deep

theorem getD_drop0 (l : List Int) (k : Nat) : (l.drop k).getD 0 0 = l.getD k 0 := by rw [← getD_drop, Nat.add_zero]
theorem cnt_drop {l : List Int} {k : Nat} : cntOk l k ↔ cntOk (l.drop k) 0 := by
  unfold cntOk cntN
  rw [List.length_drop, getD_drop0]
  omega
theorem cntN_drop (l : List Int) (k : Nat) : cntN l k = cntN (l.drop k) 0 := by
  unfold cntN
  rw [getD_drop0]
theorem cntL_drop {l : List Int} {k : Nat} : cntL l k = cntL (l.drop k) 0 := by
  unfold cntL
  rw [← cntN_drop, List.drop_drop]
set_option maxRecDepth 100000 in
set_option maxHeartbeats 4000000 in
theorem answer_ok (r : Nat) (l : List Int) (w : World) (ty : TypeId) (pv : Value) (h : RE w r ty pv l) (h4 : cntOk l 4) (hm : l.length ≤ 4000000) :
    Calls Tryd.prog 139 #[.pointer (some ⟨r, 0, none⟩)] w (StRes r (rawV l).vs w) := by
  have K1 := Blk.new w 63 #[.int .i64 0, .slice none 0 0]
  have B1 := bal (Below.refl w.heap.size w) (.cells #[.int .i64 0, .slice none 0 0] 63)
  obtain ⟨w1, hw1⟩ : ∃ w1, w.alloc (.cells #[.int .i64 0, .slice none 0 0] 63) = w1 := ⟨_, rfl⟩
  have hs1 : w1.heap.size = w.heap.size + 1 := by rw [← hw1]; simp
  rw [hw1] at K1 B1
  have hrl := h.rd.lt
  have HT := hidH (And.intro (word_ok r l w1 ty pv (h.below B1) (by have := h4.1; omega)) (And.intro K1 (Win.of_below (B := r) (C := r + 1) B1)))
  have HS := hidH (And.intro hs1 hrl)
  have HW1 := hidH hw1
  have HL := hidH (And.intro (cnt_drop.1 h4) hm)
  clear h K1 B1 hs1 hrl hw1 h4 hm
  go_enter Tryd.func139, Tryd.ntmps139
  go_wp2_with fail
  rw [HW1.out]
  refine HT.out.1.mono ?_
  rintro e w2 ⟨rfl, h2, hw⟩
  replace HT := hidH (And.intro (hw.blk HT.out.2.1 (.inr (by have := HS.out; omega))) (HT.out.2.2.trans hw))
  have HC := hidH (numbers_ok r (l.drop 4) w2 ty pv h2 HL.out.1 (by have := HL.out.2; rw [List.length_drop]; omega))
  have HZ := hidH hw.size
  obtain ⟨x0, hx0⟩ : ∃ x, atW l 0 = x := ⟨_, rfl⟩
  have HX0 := hidH hx0
  rw [hx0]
  obtain ⟨P, hP⟩ : ∃ P, cntL (l.drop 4) 0 = P := ⟨_, rfl⟩
  have HP := hidH hP
  rw [hP] at HC
  clear h2 hw hx0 hP
  go_wp2_with fail
  refine HC.out.mono ?_
  rintro e w5 ⟨A, c, rfl, hO, _, hw⟩
  have K5 := hw.blk HT.out.1 (.inr (by have := HS.out; omega))
  have HW5 := hidH (HT.out.2.trans hw)
  have HOB := hidH hO
  have HSZ := hidH hw.size
  have hr5 := K5.lt
  have y0 := K5.cell 0
  have y1 := K5.cell 1
  have f0 := K5.frozen 0
  have f1 := K5.frozen 1
  simp only [List.getElem?_toArray, List.getElem?_cons_succ, List.getElem?_cons_zero] at y0 y1
  clear HC hO hw K5 HT
  go_wp2
  have hlo : w.heap.size + 1 ≤ w2.heap.size := by have := HS.out; have := HZ.out; omega
  exact bodyPost_ret (v := .agg #[.int .i64 x0, .slice A P.length c]) (by simp [results, Tryd.results139, go_sem, y0, y1]) rfl ⟨_, rfl, by
    have e : (rawV l).vs = [.int x0, .is P] := by
      simp only [rawV, AnswerM.vs]
      rw [HX0.out, cntL_drop, HP.out]
    rw [e]
    refine OwN.int x0 ((OwN.cons (B := w2.heap.size) (C := w5.heap.size) (D := w5.heap.size) ?_ (OwN.nil (by simp [World.setCell])) (by have := HSZ.out; omega) (Nat.le_refl _)).mono (by omega) (by simp [World.setCell]) (Nat.le_refl _))
    iterate 2 (refine OwV.win (B' := w.heap.size) (C' := w.heap.size + 1) ?_ (set_win _ _ _ _) (.inr hlo))
    exact HOB.out, by
    refine HW5.out.andBelow5 ?_
    iterate 2 (refine bsc ?_ (Nat.le_refl _) _)
    exact Below.refl _ _⟩
set_option maxRecDepth 100000 in
set_option maxHeartbeats 4000000 in
theorem answer_bad (r : Nat) (l : List Int) (w : World) (ty : TypeId) (pv : Value) (h : RE w r ty pv l) (h4 : ¬ cntOk l 4) (hm : l.length ≤ 4000000) :
    Calls Tryd.prog 139 #[.pointer (some ⟨r, 0, none⟩)] w fun e w' => e = PanE (.iface ty pv) ∧ Win r (r + 1) w w' := by
  have B1 := bal (Below.refl w.heap.size w) (.cells #[.int .i64 0, .slice none 0 0] 63)
  obtain ⟨w1, hw1⟩ : ∃ w1, w.alloc (.cells #[.int .i64 0, .slice none 0 0] 63) = w1 := ⟨_, rfl⟩
  rw [hw1] at B1
  have H1 := h.below B1
  have HW1 := hidH hw1
  have W1 := hidH (Win.of_below (B := r) (C := r + 1) B1)
  have hun : PanE (.iface ty pv) = .panicked [{ v := .iface ty pv, recovered := false }] := rfl
  rw [hun]
  have HUN := hidH hun
  clear hun
  clear h B1 hw1
  by_cases hw4 : l.length < 4
  · have HC := hidH (word_bad r l w1 ty pv H1 hw4)
    rw [HUN.out] at HC
    clear H1 h4 hw4
    go_enter Tryd.func139, Tryd.ntmps139
    go_wp2_with fail
    rw [HW1.out]
    refine HC.out.mono ?_
    rintro e w2 ⟨rfl, hw⟩
    have W2 := hidH (W1.out.trans hw)
    clear HC hw HW1 W1
    go_wp2
    exact ⟨rfl, rfl, W2.out⟩
  · have HC := hidH (word_ok r l w1 ty pv H1 (by omega))
    have HL := hidH (And.intro (show ¬ cntOk (l.drop 4) 0 from fun q => h4 (cnt_drop.2 q)) hm)
    clear H1 h4 hw4
    go_enter Tryd.func139, Tryd.ntmps139
    go_wp2_with fail
    rw [HW1.out]
    refine HC.out.mono ?_
    rintro e w2 ⟨rfl, h2, hw⟩
    have W2 := hidH (W1.out.trans hw)
    have HD := hidH (numbers_bad r (l.drop 4) w2 ty pv h2 HL.out.1 (by have := HL.out.2; rw [List.length_drop]; omega))
    rw [HUN.out] at HD
    clear HC hw HW1 W1 h2
    go_wp2_with fail
    refine HD.out.mono ?_
    rintro e w3 ⟨rfl, hw⟩
    have W3 := hidH (W2.out.trans hw)
    clear HD hw W2
    go_wp2
    exact ⟨rfl, rfl, W3.out⟩
end Go.Proofs.YtgghelpbobbkgaaDoor
