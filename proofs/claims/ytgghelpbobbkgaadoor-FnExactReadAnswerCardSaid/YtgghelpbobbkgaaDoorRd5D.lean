/- The program's byteReader: data. -/
import Derived.Test.YtgghelpbobbkgaaDoorRd5
namespace Go.Proofs.YtgghelpbobbkgaaDoor
open Go.RowKit Go.Deep

/-- What a reader of a struct leaves. -/
def StRes (r : Nat) (xs : List V) (w : World) (e : Ending) (w' : World) : Prop := ∃ vs : List Value, e = .returned (.agg vs.toArray) ∧ OwN w.heap.size w'.heap.size w' xs vs ∧ Win r (r + 1) w w'
def bitF (f k : Int) : Bool := bits BinOp.and IntKind.i64 f k != 0
theorem bitF_low (f : Int) (h0 : 0 ≤ f) (h1 : f ≤ 7) : bitF f 2 = decide (f / 2 % 2 = 1) ∧ bitF f 1 = decide (f % 2 = 1) ∧ bitF f 4 = decide (f / 4 % 2 = 1) := by
  have : f = 0 ∨ f = 1 ∨ f = 2 ∨ f = 3 ∨ f = 4 ∨ f = 5 ∨ f = 6 ∨ f = 7 := by omega
  rcases this with rfl | rfl | rfl | rfl | rfl | rfl | rfl | rfl <;> decide
def rdY (f : Int) (l : List Int) : DataM := ⟨atW l 0, pairAt l 4, pairAt l 6, bitF f 2, bitF f 1, bitF f 4, l.drop 8⟩
theorem atW_w5 {d : List Int} (hd : Bytes d) (k : Nat) : 0 ≤ atW d k ∧ atW d k ≤ 4294967295 := by
  have p := hd.get k
  have q := hd.get (k + 1)
  have r := hd.get (k + 2)
  have s := hd.get (k + 3)
  unfold atW
  omega
set_option maxRecDepth 100000 in
set_option maxHeartbeats 4000000 in
theorem data_ok (r : Nat) (f : Int) (l : List Int) (w : World) (ty : TypeId) (pv : Value) (h : RE w r ty pv l) (h8 : 8 ≤ l.length) (hm : l.length ≤ 4000000) :
    Calls Tryd.prog 135 #[.pointer (some ⟨r, 0, none⟩), .int .i64 f] w (StRes r (rdY f l).vs w) := by
  have K1 := Blk.new w 25 #[.int .i64 0, .int .i64 0, .int .i64 0, .bool false, .bool false, .bool false, .slice none 0 0]
  have B1 := bal (Below.refl w.heap.size w) (.cells #[.int .i64 0, .int .i64 0, .int .i64 0, .bool false, .bool false, .bool false, .slice none 0 0] 25)
  obtain ⟨w1, hw1⟩ : ∃ w1, w.alloc (.cells #[.int .i64 0, .int .i64 0, .int .i64 0, .bool false, .bool false, .bool false, .slice none 0 0] 25) = w1 := ⟨_, rfl⟩
  have hs1 : w1.heap.size = w.heap.size + 1 := by rw [← hw1]; simp
  rw [hw1] at K1 B1
  have hrl := h.rd.lt
  have HT := hidH (And.intro (word_ok r l w1 ty pv (h.below B1) (by omega)) (And.intro K1 (Win.of_below (B := r) (C := r + 1) B1)))
  have HS := hidH (And.intro hs1 hrl)
  have HW1 := hidH hw1
  have HL := hidH (And.intro h8 hm)
  obtain ⟨b2, hb2⟩ : ∃ b, bitF f 2 = b := ⟨_, rfl⟩
  obtain ⟨b1, hb1⟩ : ∃ b, bitF f 1 = b := ⟨_, rfl⟩
  obtain ⟨b4, hb4⟩ : ∃ b, bitF f 4 = b := ⟨_, rfl⟩
  have HBB := hidH (And.intro hb2 (And.intro hb1 hb4))
  unfold bitF at hb2 hb1 hb4
  clear h K1 B1 hs1 hrl hw1 h8 hm
  go_enter Tryd.func135, Tryd.ntmps135
  go_wp2_with fail
  rw [HW1.out]
  refine HT.out.1.mono ?_
  rintro e w2 ⟨rfl, h2, hw⟩
  replace HT := hidH (And.intro (hw.blk HT.out.2.1 (.inr (by have := HS.out; omega))) (HT.out.2.2.trans hw))
  have HC := hidH (pair_ok' r (l.drop 4) w2 ty pv h2 (by have := HL.out; rw [List.length_drop]; omega))
  have HZ := hidH hw.size
  obtain ⟨x0, hx0⟩ : ∃ x, atW l 0 = x := ⟨_, rfl⟩
  have HX0 := hidH hx0
  rw [hx0]
  clear h2 hw hx0
  go_wp2_with fail
  refine HC.out.mono ?_
  rintro e w3 ⟨rfl, h3, hw, hs⟩
  replace HT := hidH (And.intro (hw.blk HT.out.1 (.inr (by have := HS.out; omega))) (HT.out.2.trans hw))
  have HC3 := hidH (pair_ok' r ((l.drop 4).drop 2) w3 ty pv h3 (by have := HL.out; rw [List.length_drop, List.length_drop]; omega))
  have HZ3 := hidH (hs ▸ HZ.out)
  obtain ⟨x1, hx1⟩ : ∃ x, pairAt (l.drop 4) 0 = x := ⟨_, rfl⟩
  have HX1 := hidH hx1
  rw [hx1]
  clear HC h3 hw hs hx1 HZ
  go_wp2_with fail
  refine HC3.out.mono ?_
  rintro e w4 ⟨rfl, h4, hw, hs⟩
  replace HT := hidH (And.intro (hw.blk HT.out.1 (.inr (by have := HS.out; omega))) (HT.out.2.trans hw))
  have HC4 := hidH (copiedRest_ok r (((l.drop 4).drop 2).drop 2) w4 ty pv h4 (by have := HL.out; rw [List.length_drop, List.length_drop, List.length_drop]; omega))
  have HZ4 := hidH (hs ▸ HZ3.out)
  obtain ⟨x2, hx2⟩ : ∃ x, pairAt ((l.drop 4).drop 2) 0 = x := ⟨_, rfl⟩
  have HX2 := hidH hx2
  rw [hx2]
  obtain ⟨P, hP⟩ : ∃ P, ((l.drop 4).drop 2).drop 2 = P := ⟨_, rfl⟩
  have HP := hidH hP
  rw [hP] at HC4
  clear HC3 h4 hw hs hx2 hP HZ3
  go_wp2_with fail
  refine HC4.out.mono ?_
  rintro e w5 ⟨A, c, rfl, hO, _, hw⟩
  have K5 := hw.blk HT.out.1 (.inr (by have := HS.out; omega))
  have HW5 := hidH (HT.out.2.trans hw)
  have HOB := hidH hO
  have hsz := hw.size
  have hr5 := K5.lt
  have y0 := K5.cell 0
  have y1 := K5.cell 1
  have y2 := K5.cell 2
  have y3 := K5.cell 3
  have y4 := K5.cell 4
  have y5 := K5.cell 5
  have y6 := K5.cell 6
  have f0 := K5.frozen 0
  have f1 := K5.frozen 1
  have f2 := K5.frozen 2
  have f3 := K5.frozen 3
  have f4 := K5.frozen 4
  have f5 := K5.frozen 5
  have f6 := K5.frozen 6
  simp only [List.getElem?_toArray, List.getElem?_cons_succ, List.getElem?_cons_zero] at y0 y1 y2 y3 y4 y5 y6
  have HSZ := hidH hsz
  clear HC4 hO hw K5 HT hsz
  go_wp2
  have hlo : w.heap.size + 1 ≤ w4.heap.size := by have := HS.out; have := HZ4.out; omega
  exact bodyPost_ret (v := .agg #[.int .i64 x0, .int .i64 x1, .int .i64 x2, .bool b2, .bool b1, .bool b4, .slice A P.length c]) (by simp [results, Tryd.results135, go_sem, y0, y1, y2, y3, y4, y5, y6]) rfl ⟨_, rfl, by
    have e : (rdY f l).vs = [.int x0, .int x1, .int x2, .bool b2, .bool b1, .bool b4, .bs P] := by
      simp only [rdY, DataM.vs]
      rw [HBB.out.1, HBB.out.2.1, HBB.out.2.2, HX0.out, pairAt_drop l 4, HX1.out, pairAt_drop l 6, show l.drop 6 = (l.drop 4).drop 2 by rw [List.drop_drop], HX2.out, show l.drop 8 = ((l.drop 4).drop 2).drop 2 by rw [List.drop_drop, List.drop_drop], HP.out]
    rw [e]
    refine OwN.int x0 (OwN.int x1 (OwN.int x2 (OwN.bool b2 (OwN.bool b1 (OwN.bool b4 ((OwN.cons (B := w4.heap.size) (C := w5.heap.size) (D := w5.heap.size) ?_ (OwN.nil (by simp [World.setCell])) (by have := HSZ.out; omega) (Nat.le_refl _)).mono (by omega) (by simp [World.setCell]) (Nat.le_refl _)))))))
    iterate 7 (refine OwV.win (B' := w.heap.size) (C' := w.heap.size + 1) ?_ (set_win _ _ _ _) (.inr hlo))
    exact HOB.out, by
    refine HW5.out.andBelow5 ?_
    iterate 7 (refine bsc ?_ (Nat.le_refl _) _)
    exact Below.refl _ _⟩
set_option maxRecDepth 100000 in
set_option maxHeartbeats 4000000 in
theorem data_bad (r : Nat) (f : Int) (l : List Int) (w : World) (ty : TypeId) (pv : Value) (h : RE w r ty pv l) (h8 : l.length < 8) :
    Calls Tryd.prog 135 #[.pointer (some ⟨r, 0, none⟩), .int .i64 f] w fun e w' => e = PanE (.iface ty pv) ∧ Win r (r + 1) w w' := by
  have B1 := bal (Below.refl w.heap.size w) (.cells #[.int .i64 0, .int .i64 0, .int .i64 0, .bool false, .bool false, .bool false, .slice none 0 0] 25)
  obtain ⟨w1, hw1⟩ : ∃ w1, w.alloc (.cells #[.int .i64 0, .int .i64 0, .int .i64 0, .bool false, .bool false, .bool false, .slice none 0 0] 25) = w1 := ⟨_, rfl⟩
  rw [hw1] at B1
  have H1 := h.below B1
  have HW1 := hidH hw1
  have W1 := hidH (Win.of_below (B := r) (C := r + 1) B1)
  have hun : PanE (.iface ty pv) = .panicked [{ v := .iface ty pv, recovered := false }] := rfl
  rw [hun]
  have HUN := hidH hun
  clear h B1 hw1 hun
  by_cases h4 : l.length < 4
  · have HC := hidH (word_bad r l w1 ty pv H1 h4)
    rw [HUN.out] at HC
    clear H1 h4 h8
    go_enter Tryd.func135, Tryd.ntmps135
    go_wp2_with fail
    rw [HW1.out]
    refine HC.out.mono ?_
    rintro e w2 ⟨rfl, hw⟩
    have W2 := hidH (W1.out.trans hw)
    clear HC hw HW1 W1
    go_wp2
    exact ⟨rfl, rfl, W2.out⟩
  · have HC := hidH (word_ok r l w1 ty pv H1 (by omega))
    have HL := hidH (And.intro h4 h8)
    clear H1 h4 h8
    by_cases h6 : l.length < 6
    · go_enter Tryd.func135, Tryd.ntmps135
      go_wp2_with fail
      rw [HW1.out]
      refine HC.out.mono ?_
      rintro e w2 ⟨rfl, h2, hw⟩
      have W2 := hidH (W1.out.trans hw)
      have HD := hidH (pair_bad r (l.drop 4) w2 ty pv h2 (by have := HL.out; rw [List.length_drop]; omega))
      rw [HUN.out] at HD
      clear HC hw HW1 W1 h2 h6
      go_wp2_with fail
      refine HD.out.mono ?_
      rintro e w3 ⟨rfl, hw⟩
      have W3 := hidH (W2.out.trans hw)
      clear HD hw W2
      go_wp2
      exact ⟨rfl, rfl, W3.out⟩
    · have H6 := hidH h6
      clear h6
      go_enter Tryd.func135, Tryd.ntmps135
      go_wp2_with fail
      rw [HW1.out]
      refine HC.out.mono ?_
      rintro e w2 ⟨rfl, h2, hw⟩
      have W2 := hidH (W1.out.trans hw)
      have HD := hidH (pair_ok' r (l.drop 4) w2 ty pv h2 (by have := HL.out; have := H6.out; rw [List.length_drop]; omega))
      clear HC hw HW1 W1 h2
      go_wp2_with fail
      refine HD.out.mono ?_
      rintro e w3 ⟨rfl, h3, hw, _⟩
      have W3 := hidH (W2.out.trans hw)
      have HD3 := hidH (pair_bad r ((l.drop 4).drop 2) w3 ty pv h3 (by have := HL.out; rw [List.length_drop, List.length_drop]; omega))
      rw [HUN.out] at HD3
      clear HD hw W2 h3
      go_wp2_with fail
      refine HD3.out.mono ?_
      rintro e w4 ⟨rfl, hw⟩
      have W4 := hidH (W3.out.trans hw)
      clear HD3 hw W3
      go_wp2
      exact ⟨rfl, rfl, W4.out⟩
end Go.Proofs.YtgghelpbobbkgaaDoor
