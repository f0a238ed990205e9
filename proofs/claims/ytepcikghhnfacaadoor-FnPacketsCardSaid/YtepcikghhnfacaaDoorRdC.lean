/- The program's byteReader: chunk. -/
import Derived.Test.YtepcikghhnfacaaDoorJb2
import Derived.Test.YtepcikghhnfacaaDoorRdR
namespace Go.Proofs.YtepcikghhnfacaaDoor
open Go.RowKit Go.Deep

theorem RE.far {B C : Nat} {w w' : World} {r : Nat} {ty : TypeId} {pv : Value} {l : List Int} (h : RE w r ty pv l) (hw : Win B C w w') (hr : r < B) : RE w' r ty pv l := by
  obtain ⟨⟨A, c, h1, h2, h3, h4, h5⟩, he, h0, hb⟩ := h
  have hlt := h1.lt
  exact ⟨⟨A, c, hw.blk h1 (.inl hr), bs_win h2 hw (fun b off e => .inl (by have := h5 _ e; simp at this; omega)), h3, h4, h5⟩, (hw.cell (p := ⟨0, 0, none⟩) (by show 0 < _; omega) (.inl (by show 0 < _; omega))).trans he, h0, hb⟩
theorem Win.andBelow {B C : Nat} {a b c : World} (h : Win B C a b) (k : Below a.heap.size b c) : Win B C a c :=
  ⟨k.os.trans h.os, k.tape.trans h.tape, k.output.trans h.output, Nat.le_trans h.size k.size, fun x hx ho => (k.block x hx).trans (h.block x hx ho), fun q hq => (k.frozen hq).trans (h.frozen q hq)⟩
theorem Blk.set3 {w : World} {g : Nat} {t : TypeId} {a b c : Value} (h : Blk w g t #[a, b, c]) (v : Value) : Blk (w.setCell ⟨g, 2, none⟩ v) g t #[a, b, v] := by
  have h1 := heap_setCell_same w g 2 _ _ v h
  unfold Blk
  rw [h1]
  rfl
set_option maxRecDepth 100000 in
set_option maxHeartbeats 4000000 in
theorem chunk_ok (r : Nat) (x0 x1 x2 x3 : Int) (rest : List Int) (m : Nat) (w : World) (ty : TypeId) (pv : Value) (h : RE w r ty pv (x0 :: x1 :: x2 :: x3 :: rest)) (hsz : x2 * 256 + x3 = (m : Int) + 4) (hm : m + chPad m ≤ rest.length) (hrl : rest.length ≤ 1000) :
    Calls Tryd.prog 77 #[.pointer (some ⟨r, 0, none⟩)] w fun e w' => ∃ A c b, e = .returned (.agg #[.int .i64 x0, .int .i64 x1, .slice A (rest.take m).length c]) ∧ Tb w' b A (rest.take m) ∧ (rest.take m = [] ∨ w.heap.size ≤ b ∧ b < w'.heap.size) ∧ RE w' r ty pv (rest.drop (m + chPad m)) ∧ Win r (r + 1) w w' ∧ w.heap.size < w'.heap.size := by
  have hlm : (rest.take m).length = m := by rw [List.length_take]; omega
  have hrlt := h.rd.lt
  have K1 := Blk.new w 49 #[.int .i64 0, .int .i64 0, .slice none 0 0]
  have B1 := bal (Below.refl w.heap.size w) (.cells #[.int .i64 0, .int .i64 0, .slice none 0 0] 49)
  have H1 := h.below (bal (Below.refl _ w) (.cells #[.int .i64 0, .int .i64 0, .slice none 0 0] 49))
  obtain ⟨w1, hw1⟩ : ∃ w1, w.alloc (.cells #[.int .i64 0, .int .i64 0, .slice none 0 0] 49) = w1 := ⟨_, rfl⟩
  have hs1 : w1.heap.size = w.heap.size + 1 := by rw [← hw1]; simp
  rw [hw1] at K1 B1 H1
  have HW1 := hidH hw1
  have HN1 := hidH (number_ok r x0 _ w1 ty pv H1)
  have KR := hidH K1
  have W1 := hidH (Win.of_below (B := r) (C := r + 1) B1)
  have HSZ := hidH hsz
  have HLM := hidH hlm
  have HM := hidH (And.intro hm hrl)
  have hmI : (m : Int) ≤ 1000 := by omega
  have HS := hidH (And.intro hs1 hrlt)
  have hpd : ((chPad m : Nat) : Int) < 4 := by unfold chPad; omega
  clear h K1 B1 H1 hw1 hsz hlm hm hrl hs1 hrlt
  go_enter Tryd.func77, Tryd.ntmps77
  go_wp2_with fail
  rw [HW1.out]
  refine HN1.out.mono ?_
  rintro e w2 ⟨rfl, h2, hw2, hs2⟩
  have HN2 := hidH (number_ok r x1 _ w2 ty pv h2)
  have W2 := hidH (W1.out.trans hw2)
  have KR2 := hidH (hw2.blk KR.out (.inr HS.out.2))
  have HS2 := hidH hs2
  clear h2 hw2 hs2 HN1 HW1 KR W1
  go_wp2_with fail
  refine HN2.out.mono ?_
  rintro e w3 ⟨rfl, h3, hw3, hs3⟩
  have W3 := hidH (W2.out.trans hw3)
  have KR3 := KR2.out
  have KR3 := hidH (hw3.blk KR3 (.inr HS.out.2))
  have hg3 : w3.heap.size = w.heap.size + 1 := by have := HS.out; have := HS2.out; omega
  have K4 := Blk.new w3 49 #[.int .i64 x0, .int .i64 x1, .slice none 0 0]
  have B4 := bal (Below.refl w3.heap.size w3) (.cells #[.int .i64 x0, .int .i64 x1, .slice none 0 0] 49)
  have H4 := h3.below B4
  have KR4 := KR3.out.below B4
  obtain ⟨w4, hw4⟩ : ∃ w4, w3.alloc (.cells #[.int .i64 x0, .int .i64 x1, .slice none 0 0] 49) = w4 := ⟨_, rfl⟩
  have hs4 : w4.heap.size = w3.heap.size + 1 := by rw [← hw4]; simp
  rw [hw4] at K4 B4 H4 KR4
  have HW4 := hidH hw4
  have HP := hidH (pair_ok r x2 x3 rest w4 ty pv H4)
  have W4 := hidH (W3.out.trans (Win.of_below B4))
  have KG := hidH K4
  have KR4 := hidH KR4
  have HS4 := hidH (And.intro hg3 hs4)
  clear h3 hw3 hs3 HN2 W2 KR2 HS2 W3 KR3 K4 B4 H4 hw4 hs4 hg3
  go_wp2_with fail
  rw [HW4.out]
  refine HP.out.mono ?_
  rintro e w5 ⟨rfl, h5, hw5, hs5⟩
  rw [HSZ.out]
  have W5 := hidH (W4.out.trans hw5)
  have KG5 := hidH (hw5.blk KG.out (.inr (by have := HS.out; have := HS4.out; omega)))
  have KR5 := hidH (hw5.blk KR4.out (.inr HS.out.2))
  have HT := hidH (take_ok r m rest w5 h5.rd (by have := HM.out; omega))
  have H5 := hidH h5
  have HS5 := hidH hs5
  clear h5 hw5 hs5 HP HW4 W4 KG KR4
  have ha : (m : Int) + 4 - 4 = (m : Int) := by omega
  go_wp2_with fail
  try rw [ha]
  refine HT.out.mono ?_
  rintro e w6 ⟨A6, c6, rfl, hA6, hc6, hf6, hr6, hw6, hs6⟩
  have hl6 : m = (rest.take m).length := HLM.out.symm
  have HCL := hidH (clone_any A6 (rest.take m) c6 w6 hA6 (by rw [← hl6]; omega))
  rw [← hl6] at HCL
  have H6 := hidH (H5.out.turn hw6 hr6 (fun y hy => List.mem_of_mem_drop hy))
  have W6 := hidH (W5.out.trans hw6)
  have KG6 := hidH (hw6.blk KG5.out (.inr (by have := HS.out; have := HS4.out; omega)))
  have KR6 := hidH (hw6.blk KR5.out (.inr HS.out.2))
  have HS6 := hidH (hs6.trans HS5.out)
  clear HT hA6 hc6 hf6 hr6 hw6 hs6 H5 W5 KG5 KR5 HS5 hl6 ha
  go_wp2_with fail
  refine HCL.out.mono ?_
  rintro e w7 ⟨v7, rfl, o7, b7⟩
  have o7' : w7.ownsRow w6.heap.size 5 1 v7 (rest.take m).length ((rest.take m).map (Value.int .u8)) := o7
  obtain ⟨A7, c7, b, hv7, hT7, hb7⟩ := own_tb o7'
  subst hv7
  have HT7 := hidH (And.intro hT7 hb7)
  have H7 := hidH (H6.out.below b7)
  have W7 := hidH (W6.out.trans (Win.of_below b7))
  have KG7 := KG6.out.below b7
  have KR7 := hidH (KR6.out.below b7)
  have HS7 := hidH b7.size
  have x2c := KG7.cell 2
  simp only [List.getElem?_toArray, List.getElem?_cons_succ, List.getElem?_cons_zero] at x2c
  have f2 := KG7.frozen 2
  have KGH := hidH KG7
  have hlm2 : (rest.take m).length = m := HLM.out
  rw [hlm2]
  have hlt7 := KG7.lt
  have HPZ := hidH (fun u => padz_any A7 m c7 u (by omega))
  clear HCL o7 o7' b7 hT7 hb7 H6 W6 KG6 KR6 KG7 hlm2
  go_wp2_with fail
  have S8 := win_set w7 w3.heap.size 2 (.slice A7 m c7)
  have K8 := KGH.out.set3 (.slice A7 m c7)
  have hgr : r < w3.heap.size := by have := HS.out; have := HS4.out; omega
  have H8 := H7.out.far S8 hgr
  have KR8 := S8.blk KR7.out (.inl (by have := HS4.out; omega))
  have T8 := HT7.out.1.win S8 (HT7.out.2.imp id (fun q => .inr (by have := HS4.out; have := HS6.out; omega)))
  have W8 := W7.out.andBelow ((Below.refl w.heap.size w7).setCell (p := ⟨w3.heap.size, 2, none⟩) (by have := HS4.out; show w.heap.size ≤ w3.heap.size; omega) (.slice A7 m c7))
  obtain ⟨w8, hw8⟩ : ∃ w8, w7.setCell ⟨w3.heap.size, 2, none⟩ (.slice A7 m c7) = w8 := ⟨_, rfl⟩
  have hs8 : w8.heap.size = w7.heap.size := by rw [← hw8]; simp [World.setCell]
  rw [hw8] at K8 H8 KR8 T8 W8 ⊢
  have HT8 := hidH (take_ok r (chPad m) (rest.drop m) w8 H8.rd (by rw [List.length_drop]; have := HM.out; omega))
  have HH8 := hidH H8
  have HX8 := hidH (And.intro K8 (And.intro KR8 (And.intro T8 (And.intro W8 hs8))))
  clear S8 K8 hgr H8 KR8 T8 W8 hw8 hs8 x2c f2 hlt7 KGH H7 KR7 W7
  refine (HPZ.out _).mono ?_
  rintro e w8' ⟨rfl, rfl⟩
  obtain ⟨pd, hpe⟩ : ∃ pd, chPad m = pd := ⟨_, rfl⟩
  rw [hpe] at HT8 hpd HM ⊢
  have HPE := hidH hpe
  clear HPZ hpe
  go_wp2_with fail
  refine HT8.out.mono ?_
  rintro e w9 ⟨A9, c9, rfl, _, _, _, hr9, hw9, hs9⟩
  have H9 := hidH (HH8.out.turn hw9 hr9 (fun y hy => List.mem_of_mem_drop hy))
  have K9 := hw9.blk HX8.out.1 (.inr (by have := HS.out; have := HS4.out; omega))
  have KR9 := hw9.blk HX8.out.2.1 (.inr (by have := HS.out; omega))
  have T9 := hidH (HX8.out.2.2.1.win hw9 (HT7.out.2.imp id (fun q => .inr (by have := HS.out; have := HS4.out; have := HS6.out; omega))))
  have W9 := hidH (HX8.out.2.2.2.1.trans hw9)
  have HS9 := hidH (hs9.trans HX8.out.2.2.2.2)
  obtain ⟨p0, p1, p2, pz⟩ := K9.three
  obtain ⟨y0, y1, y2, yz⟩ := KR9.three
  have f0 := KR9.frozen 0
  have f1 := KR9.frozen 1
  have f2 := KR9.frozen 2
  clear hr9 hw9 hs9 HT8 HH8 HX8 K9 KR9
  go_wp2
  have HB10 : Below w.heap.size w9 (((w9.setCell ⟨w.heap.size, 0, none⟩ (.int .i64 x0)).setCell ⟨w.heap.size, 1, none⟩ (.int .i64 x1)).setCell ⟨w.heap.size, 2, none⟩ (.slice A7 m c7)) :=
    (((Below.refl w.heap.size w9).setCell (p := ⟨w.heap.size, 0, none⟩) (Nat.le_refl _) _).setCell (p := ⟨w.heap.size, 1, none⟩) (Nat.le_refl _) _).setCell (p := ⟨w.heap.size, 2, none⟩) (Nat.le_refl _) _
  have HB10 := hidH HB10
  have ww := fun (u : World) (o : Nat) (v : Value) => win_set u w.heap.size o v
  have HFIN := hidH (And.intro (((T9.out.win (ww _ 0 (.int .i64 x0)) (HT7.out.2.imp id (fun q => .inr (by have := HS.out; have := HS4.out; have := HS6.out; omega)))).win (ww _ 1 (.int .i64 x1)) (HT7.out.2.imp id (fun q => .inr (by have := HS.out; have := HS4.out; have := HS6.out; omega)))).win (ww _ 2 (.slice A7 m c7)) (HT7.out.2.imp id (fun q => .inr (by have := HS.out; have := HS4.out; have := HS6.out; omega))))
    (((H9.out.far (ww _ 0 (.int .i64 x0)) HS.out.2).far (ww _ 1 (.int .i64 x1)) HS.out.2).far (ww _ 2 (.slice A7 m c7)) HS.out.2))
  clear ww
  exact bodyPost_ret (v := .agg #[.int .i64 x0, .int .i64 x1, .slice A7 m c7]) (by simp [results, Tryd.results77, go_sem, y0, y1, y2]) rfl ⟨A7, c7, b, by rw [HLM.out], HFIN.out.1, HT7.out.2.imp id (fun q => ⟨by have := HS.out; have := HS4.out; have := HS6.out; omega, by simp only [World.setCell, Array.size_modify] at *; have := HS9.out; have := HS7.out; omega⟩), by have := HFIN.out.2; rw [List.drop_drop] at this; rw [HPE.out]; exact this, W9.out.andBelow HB10.out, by simp only [World.setCell, Array.size_modify]; have := HS9.out; have := HS7.out; have := HS.out; have := HS4.out; have := HS6.out; omega⟩
/-- What cannot be read ahead of a chunk's body. -/
def badHead (l : List Int) : Prop := l.length < 4 ∨ pairV l < 4 ∨ (l.length : Int) < pairV l ∨ l.length < (pairV l).toNat + chPad ((pairV l).toNat - 4)
set_option maxRecDepth 100000 in
set_option maxHeartbeats 4000000 in
theorem chunk_bad (r : Nat) (l : List Int) (w : World) (ty : TypeId) (pv : Value) (h : RE w r ty pv l) (hbad : badHead l) (hrl : l.length ≤ 1000) :
    Calls Tryd.prog 77 #[.pointer (some ⟨r, 0, none⟩)] w fun e w' => e = PanE (.iface ty pv) ∧ Win r (r + 1) w w' := by
  have hrlt := h.rd.lt
  have B1 := bal (Below.refl w.heap.size w) (.cells #[.int .i64 0, .int .i64 0, .slice none 0 0] 49)
  have H1 := h.below (bal (Below.refl _ w) (.cells #[.int .i64 0, .int .i64 0, .slice none 0 0] 49))
  obtain ⟨w1, hw1⟩ : ∃ w1, w.alloc (.cells #[.int .i64 0, .int .i64 0, .slice none 0 0] 49) = w1 := ⟨_, rfl⟩
  have hs1 : w1.heap.size = w.heap.size + 1 := by rw [← hw1]; simp
  rw [hw1] at B1 H1
  have HW1 := hidH hw1
  have W1 := hidH (Win.of_below (B := r) (C := r + 1) B1)
  have HS := hidH (And.intro hs1 hrlt)
  have hun : PanE (.iface ty pv) = .panicked [{ v := .iface ty pv, recovered := false }] := rfl
  rw [hun]
  have HUN := hidH hun
  clear h B1 hw1 hs1 hrlt hun
  rcases l with _ | ⟨x0, l⟩
  · have HN1 := hidH (number_bad r w1 ty pv H1)
    rw [HUN.out] at HN1
    clear H1
    go_enter Tryd.func77, Tryd.ntmps77
    go_wp2_with fail
    rw [HW1.out]
    refine HN1.out.mono ?_
    rintro e w2 ⟨rfl, rfl⟩
    clear HN1 HW1
    go_wp2
    exact ⟨rfl, rfl, W1.out⟩
  · have HN1 := hidH (number_ok r x0 _ w1 ty pv H1)
    clear H1
    rcases l with _ | ⟨x1, l⟩
    · go_enter Tryd.func77, Tryd.ntmps77
      go_wp2_with fail
      rw [HW1.out]
      refine HN1.out.mono ?_
      rintro e w2 ⟨rfl, h2, hw2, hs2⟩
      have HN2 := hidH (number_bad r w2 ty pv h2)
      rw [HUN.out] at HN2
      have W2 := hidH (W1.out.trans hw2)
      clear h2 hw2 hs2 HN1 HW1 W1
      go_wp2_with fail
      refine HN2.out.mono ?_
      rintro e w3 ⟨rfl, rfl⟩
      clear HN2
      go_wp2
      exact ⟨rfl, rfl, W2.out⟩
    · go_enter Tryd.func77, Tryd.ntmps77
      go_wp2_with fail
      rw [HW1.out]
      refine HN1.out.mono ?_
      rintro e w2 ⟨rfl, h2, hw2, hs2⟩
      have HN2 := hidH (number_ok r x1 l w2 ty pv h2)
      have W2 := hidH (W1.out.trans hw2)
      have HS2 := hidH hs2
      clear h2 hw2 hs2 HN1 HW1 W1
      go_wp2_with fail
      refine HN2.out.mono ?_
      rintro e w3 ⟨rfl, h3, hw3, hs3⟩
      have W3 := hidH (W2.out.trans hw3)
      have hg3 : w3.heap.size = w.heap.size + 1 := by have := HS.out; have := HS2.out; omega
      have B4 := bal (Below.refl w3.heap.size w3) (.cells #[.int .i64 x0, .int .i64 x1, .slice none 0 0] 49)
      have H4 := h3.below B4
      have K4 := Blk.new w3 49 #[.int .i64 x0, .int .i64 x1, .slice none 0 0]
      obtain ⟨w4, hw4⟩ : ∃ w4, w3.alloc (.cells #[.int .i64 x0, .int .i64 x1, .slice none 0 0] 49) = w4 := ⟨_, rfl⟩
      have hs4 : w4.heap.size = w3.heap.size + 1 := by rw [← hw4]; simp
      rw [hw4] at B4 H4 K4
      have HW4 := hidH hw4
      have W4 := hidH (W3.out.trans (Win.of_below B4))
      have HS4 := hidH (And.intro hg3 hs4)
      have KG := hidH K4
      clear h3 hw3 hs3 HN2 W2 HS2 W3 B4 hw4 hs4 hg3 K4
      by_cases h2l : l.length < 2
      · have HP := hidH (pair_bad r l w4 ty pv H4 h2l)
        rw [HUN.out] at HP
        clear H4 h2l
        go_wp2_with fail
        rw [HW4.out]
        refine HP.out.mono ?_
        rintro e w5 ⟨rfl, hw5⟩
        have W5 := hidH (W4.out.trans hw5)
        clear HP hw5 W4
        go_wp2
        exact ⟨rfl, rfl, W5.out⟩
      · obtain ⟨x2, x3, rest, rfl⟩ : ∃ a b s, l = a :: b :: s := by
          rcases l with _ | ⟨a, _ | ⟨b, s⟩⟩
          · simp at h2l
          · simp at h2l
          · exact ⟨a, b, s, rfl⟩
        have HP := hidH (pair_ok r x2 x3 rest w4 ty pv H4)
        have h22 := H4.by_ x2 (by simp)
        have h23 := H4.by_ x3 (by simp)
        have hpv : pairV (x0 :: x1 :: x2 :: x3 :: rest) = x2 * 256 + x3 := rfl
        obtain ⟨z, hz⟩ : ∃ z, x2 * 256 + x3 = z := ⟨_, rfl⟩
        have hz0 : 0 ≤ z ∧ z ≤ 65535 := by omega
        have hrl2 : rest.length ≤ 1000 := by simp at hrl; omega
        unfold badHead at hbad
        rw [hpv, hz] at hbad
        simp only [List.length_cons] at hbad
        rw [hz] at HP
        have hbad2 : (z - 4 < 0 ∨ (rest.length : Int) < z - 4) ∨ (0 ≤ z - 4 ∧ z - 4 ≤ (rest.length : Int) ∧ rest.length < (z - 4).toNat + chPad (z - 4).toNat) := by
          by_cases q : z - 4 < 0 ∨ (rest.length : Int) < z - 4
          · exact .inl q
          · refine .inr ⟨by omega, by omega, ?_⟩
            rcases hbad with h | h | h | h
            · omega
            · omega
            · omega
            · have e1 : z.toNat - 4 = (z - 4).toNat := by omega
              rw [e1] at h
              omega
        clear H4 hbad h22 h23 hpv hz hrl h2l
        obtain ⟨hz0, hz1⟩ := hz0
        rcases hbad2 with hb | ⟨hb0, hb1, hb2⟩
        · have HTB := hidH (fun (u : World) (hu : RE u r ty pv rest) => take_bad r (z - 4) rest u ty pv hu.rd hb hu.e)
          rw [HUN.out] at HTB
          clear hb
          go_wp2_with fail
          rw [HW4.out]
          refine HP.out.mono ?_
          rintro e w5 ⟨rfl, h5, hw5, hs5⟩
          have W5 := hidH (W4.out.trans hw5)
          have HT := hidH (HTB.out w5 h5)
          clear HP hw5 W4 h5 HTB hs5
          go_wp2_with fail
          refine HT.out.mono ?_
          rintro e w6 ⟨rfl, rfl⟩
          clear HT
          go_wp2
          exact ⟨rfl, rfl, W5.out⟩
        · obtain ⟨m, hm⟩ : ∃ m : Nat, z - 4 = (m : Int) := ⟨(z - 4).toNat, by omega⟩
          rw [hm, Int.toNat_natCast] at hb2
          rw [hm] at hb1
          have hmI : (m : Int) ≤ 1000 := by omega
          have HM := hidH (And.intro hm (And.intro hb1 (And.intro hb2 hrl2)))
          have hpd : ((chPad m : Nat) : Int) < 4 := by unfold chPad; omega
          clear hm hb1 hb2 hb0 hrl2
          go_wp2_with fail
          rw [HW4.out]
          refine HP.out.mono ?_
          rintro e w5 ⟨rfl, h5, hw5, hs5⟩
          have W5 := hidH (W4.out.trans hw5)
          have KG5 := hidH (hw5.blk KG.out (.inr (by have := HS.out; have := HS4.out; omega)))
          have HT := hidH (take_ok r m rest w5 h5.rd (by have := HM.out.2.1; omega))
          have H5 := hidH h5
          have HS5 := hidH hs5
          clear h5 hw5 hs5 HP HW4 W4 KG
          go_wp2_with fail
          try rw [HM.out.1]
          refine HT.out.mono ?_
          rintro e w6 ⟨A6, c6, rfl, hA6, hc6, hf6, hr6, hw6, hs6⟩
          have hl6 : m = (rest.take m).length := by rw [List.length_take]; have := HM.out.2.1; omega
          have HLM := hidH hl6.symm
          have HCL := hidH (clone_any A6 (rest.take m) c6 w6 hA6 (by rw [← hl6]; omega))
          rw [← hl6] at HCL
          have H6 := hidH (H5.out.turn hw6 hr6 (fun y hy => List.mem_of_mem_drop hy))
          have W6 := hidH (W5.out.trans hw6)
          have KG6 := hidH (hw6.blk KG5.out (.inr (by have := HS.out; have := HS4.out; omega)))
          have HS6 := hidH (hs6.trans HS5.out)
          clear HT hA6 hc6 hf6 hr6 hw6 hs6 H5 W5 KG5 HS5 hl6
          go_wp2_with fail
          refine HCL.out.mono ?_
          rintro e w7 ⟨v7, rfl, o7, b7⟩
          have o7' : w7.ownsRow w6.heap.size 5 1 v7 (rest.take m).length ((rest.take m).map (Value.int .u8)) := o7
          obtain ⟨A7, c7, b, hv7, hT7, hb7⟩ := own_tb o7'
          subst hv7
          have H7 := hidH (H6.out.below b7)
          have W7 := hidH (W6.out.trans (Win.of_below b7))
          have KG7 := KG6.out.below b7
          have x2c := KG7.cell 2
          simp only [List.getElem?_toArray, List.getElem?_cons_succ, List.getElem?_cons_zero] at x2c
          have f2 := KG7.frozen 2
          rw [HLM.out]
          have hlt7 := KG7.lt
          have HPZ := hidH (fun u => padz_any A7 m c7 u (by omega))
          clear HCL o7 o7' b7 hT7 hb7 H6 W6 KG6 KG7
          go_wp2_with fail
          have S8 := win_set w7 w3.heap.size 2 (.slice A7 m c7)
          have hgr : r < w3.heap.size := by have := HS.out; have := HS4.out; omega
          have H8 := H7.out.far S8 hgr
          have W8 := W7.out.andBelow ((Below.refl w.heap.size w7).setCell (p := ⟨w3.heap.size, 2, none⟩) (by have := HS4.out; show w.heap.size ≤ w3.heap.size; omega) (.slice A7 m c7))
          obtain ⟨w8, hw8⟩ : ∃ w8, w7.setCell ⟨w3.heap.size, 2, none⟩ (.slice A7 m c7) = w8 := ⟨_, rfl⟩
          rw [hw8] at H8 W8 ⊢
          have HT8 := hidH (take_bad r ((chPad m : Nat) : Int) (rest.drop m) w8 ty pv H8.rd (.inr (by rw [List.length_drop]; have := HM.out.2.2.1; have := HM.out.2.1; omega)) H8.e)
          rw [HUN.out] at HT8
          have HW8 := hidH W8
          clear S8 hgr H8 W8 hw8 x2c f2 hlt7 H7 W7
          refine (HPZ.out _).mono ?_
          rintro e w8' ⟨rfl, rfl⟩
          clear HPZ
          go_wp2_with fail
          refine HT8.out.mono ?_
          rintro e w9 ⟨rfl, rfl⟩
          clear HT8
          go_wp2
          exact ⟨rfl, rfl, HW8.out⟩
end Go.Proofs.YtepcikghhnfacaaDoor
