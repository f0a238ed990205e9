import Derived.Test.YtjjileefdjjijaaDoorMa7

/- The program's byteReader: data. -/
namespace Go.Proofs.YtjjileefdjjijaaDoor
open Go.RowKit Go.Deep

/-- What a reader of a struct leaves. -/
def StRes (r : Nat) (xs : List V) (w : World) (e : Ending) (w' : World) : Prop := ∃ vs : List Value, e = .returned (.agg vs.toArray) ∧ OwN w.heap.size w'.heap.size w' xs vs ∧ Win r (r + 1) w w'
def bitF (f k : Int) : Bool := bits BinOp.and IntKind.i64 f k != 0
theorem bitF_low (f : Int) (h0 : 0 ≤ f) (h1 : f ≤ 7) : bitF f 2 = decide (f / 2 % 2 = 1) ∧ bitF f 1 = decide (f % 2 = 1) ∧ bitF f 4 = decide (f / 4 % 2 = 1) := by
  have : f = 0 ∨ f = 1 ∨ f = 2 ∨ f = 3 ∨ f = 4 ∨ f = 5 ∨ f = 6 ∨ f = 7 := by omega
  rcases this with rfl | rfl | rfl | rfl | rfl | rfl | rfl | rfl <;> decide
def rdY (f : Int) (l : List Int) : DataM := ⟨atW l 0, pairAt l 4, pairAt l 6, bitF f 2, bitF f 1, bitF f 4, l.drop 8⟩
theorem atW_w5 {d : List Int} (hd : Bytes d) (k : Nat) : 0 ≤ atW d k ∧ atW d k ≤ 4294967295 := by
  have p := hd.get k
  have q := hd.get (k + 1)
  have r := hd.get (k + 2)
  have s := hd.get (k + 3)
  unfold atW
  omega
set_option maxRecDepth 100000 in
set_option maxHeartbeats 4000000 in
theorem data_ok (r : Nat) (f : Int) (l : List Int) (w : World) (ty : TypeId) (pv : Value) (h : RE w r ty pv l) (h8 : 8 ≤ l.length) (hm : l.length ≤ 4000000) :
    Calls Tryd.prog 127 #[.pointer (some ⟨r, 0, none⟩), .int .i64 f] w (StRes r (rdY f l).vs w) := by
  have K1 := Blk.new w 25 #[.int .i64 0, .int .i64 0, .int .i64 0, .bool false, .bool false, .bool false, .slice none 0 0]
  have B1 := bal (Below.refl w.heap.size w) (.cells #[.int .i64 0, .int .i64 0, .int .i64 0, .bool false, .bool false, .bool false, .slice none 0 0] 25)
  obtain ⟨w1, hw1⟩ : ∃ w1, w.alloc (.cells #[.int .i64 0, .int .i64 0, .int .i64 0, .bool false, .bool false, .bool false, .slice none 0 0] 25) = w1 := ⟨_, rfl⟩
  have hs1 : w1.heap.size = w.heap.size + 1 := by rw [← hw1]; simp
  rw [hw1] at K1 B1
  have hrl := h.rd.lt
  have HT := hidH (And.intro (word_ok r l w1 ty pv (h.below B1) (by omega)) (And.intro K1 (Win.of_below (B := r) (C := r + 1) B1)))
  have HS := hidH (And.intro hs1 hrl)
  have HW1 := hidH hw1
  have HL := hidH (And.intro h8 hm)
  obtain ⟨b2, hb2⟩ : ∃ b, bitF f 2 = b := ⟨_, rfl⟩
  obtain ⟨b1, hb1⟩ : ∃ b, bitF f 1 = b := ⟨_, rfl⟩
  obtain ⟨b4, hb4⟩ : ∃ b, bitF f 4 = b := ⟨_, rfl⟩
  have HBB := hidH (And.intro hb2 (And.intro hb1 hb4))
  unfold bitF at hb2 hb1 hb4
  clear h K1 B1 hs1 hrl hw1 h8 hm
  go_enter Tryd.func127, Tryd.ntmps127
  go_wp2_with fail
  rw [HW1.out]
  refine HT.out.1.mono ?_
  rintro e w2 ⟨rfl, h2, hw⟩
  replace HT := hidH (And.intro (hw.blk HT.out.2.1 (.inr (by have := HS.out; omega))) (HT.out.2.2.trans hw))
  have HC := hidH (pair_ok' r (l.drop 4) w2 ty pv h2 (by have := HL.out; rw [List.length_drop]; omega))
  have HZ := hidH hw.size
  obtain ⟨x0, hx0⟩ : ∃ x, atW l 0 = x := ⟨_, rfl⟩
  have HX0 := hidH hx0
  rw [hx0]
  clear h2 hw hx0
  go_wp2_with fail
  refine HC.out.mono ?_
  rintro e w3 ⟨rfl, h3, hw, hs⟩
  replace HT := hidH (And.intro (hw.blk HT.out.1 (.inr (by have := HS.out; omega))) (HT.out.2.trans hw))
  have HC3 := hidH (pair_ok' r ((l.drop 4).drop 2) w3 ty pv h3 (by have := HL.out; rw [List.length_drop, List.length_drop]; omega))
  have HZ3 := hidH (hs ▸ HZ.out)
  obtain ⟨x1, hx1⟩ : ∃ x, pairAt (l.drop 4) 0 = x := ⟨_, rfl⟩
  have HX1 := hidH hx1
  rw [hx1]
  clear HC h3 hw hs hx1 HZ
  go_wp2_with fail
  refine HC3.out.mono ?_
  rintro e w4 ⟨rfl, h4, hw, hs⟩
  replace HT := hidH (And.intro (hw.blk HT.out.1 (.inr (by have := HS.out; omega))) (HT.out.2.trans hw))
  have HC4 := hidH (copiedRest_ok r (((l.drop 4).drop 2).drop 2) w4 ty pv h4 (by have := HL.out; rw [List.length_drop, List.length_drop, List.length_drop]; omega))
  have HZ4 := hidH (hs ▸ HZ3.out)
  obtain ⟨x2, hx2⟩ : ∃ x, pairAt ((l.drop 4).drop 2) 0 = x := ⟨_, rfl⟩
  have HX2 := hidH hx2
  rw [hx2]
  obtain ⟨P, hP⟩ : ∃ P, ((l.drop 4).drop 2).drop 2 = P := ⟨_, rfl⟩
  have HP := hidH hP
  rw [hP] at HC4
  clear HC3 h4 hw hs hx2 hP HZ3
  go_wp2_with fail
  refine HC4.out.mono ?_
  rintro e w5 ⟨A, c, rfl, hO, _, hw⟩
  have K5 := hw.blk HT.out.1 (.inr (by have := HS.out; omega))
  have HW5 := hidH (HT.out.2.trans hw)
  have HOB := hidH hO
  have hsz := hw.size
  have hr5 := K5.lt
  have y0 := K5.cell 0
  have y1 := K5.cell 1
  have y2 := K5.cell 2
  have y3 := K5.cell 3
  have y4 := K5.cell 4
  have y5 := K5.cell 5
  have y6 := K5.cell 6
  have f0 := K5.frozen 0
  have f1 := K5.frozen 1
  have f2 := K5.frozen 2
  have f3 := K5.frozen 3
  have f4 := K5.frozen 4
  have f5 := K5.frozen 5
  have f6 := K5.frozen 6
  simp only [List.getElem?_toArray, List.getElem?_cons_succ, List.getElem?_cons_zero] at y0 y1 y2 y3 y4 y5 y6
  have HSZ := hidH hsz
  clear HC4 hO hw K5 HT hsz
  go_wp2
  have hlo : w.heap.size + 1 ≤ w4.heap.size := by have := HS.out; have := HZ4.out; omega
  exact bodyPost_ret (v := .agg #[.int .i64 x0, .int .i64 x1, .int .i64 x2, .bool b2, .bool b1, .bool b4, .slice A P.length c]) (by simp [results, Tryd.results127, go_sem, y0, y1, y2, y3, y4, y5, y6]) rfl ⟨_, rfl, by
    have e : (rdY f l).vs = [.int x0, .int x1, .int x2, .bool b2, .bool b1, .bool b4, .bs P] := by
      simp only [rdY, DataM.vs]
      rw [HBB.out.1, HBB.out.2.1, HBB.out.2.2, HX0.out, pairAt_drop l 4, HX1.out, pairAt_drop l 6, show l.drop 6 = (l.drop 4).drop 2 by rw [List.drop_drop], HX2.out, show l.drop 8 = ((l.drop 4).drop 2).drop 2 by rw [List.drop_drop, List.drop_drop], HP.out]
    rw [e]
    refine OwN.int x0 (OwN.int x1 (OwN.int x2 (OwN.bool b2 (OwN.bool b1 (OwN.bool b4 ((OwN.cons (B := w4.heap.size) (C := w5.heap.size) (D := w5.heap.size) ?_ (OwN.nil (by simp [World.setCell])) (by have := HSZ.out; omega) (Nat.le_refl _)).mono (by omega) (by simp [World.setCell]) (Nat.le_refl _)))))))
    iterate 7 (refine OwV.win (B' := w.heap.size) (C' := w.heap.size + 1) ?_ (set_win _ _ _ _) (.inr hlo))
    exact HOB.out, by
    refine HW5.out.andBelow5 ?_
    iterate 7 (refine bsc ?_ (Nat.le_refl _) _)
    exact Below.refl _ _⟩
set_option maxRecDepth 100000 in
set_option maxHeartbeats 4000000 in
theorem data_bad (r : Nat) (f : Int) (l : List Int) (w : World) (ty : TypeId) (pv : Value) (h : RE w r ty pv l) (h8 : l.length < 8) :
    Calls Tryd.prog 127 #[.pointer (some ⟨r, 0, none⟩), .int .i64 f] w fun e w' => e = PanE (.iface ty pv) ∧ Win r (r + 1) w w' := by
  have B1 := bal (Below.refl w.heap.size w) (.cells #[.int .i64 0, .int .i64 0, .int .i64 0, .bool false, .bool false, .bool false, .slice none 0 0] 25)
  obtain ⟨w1, hw1⟩ : ∃ w1, w.alloc (.cells #[.int .i64 0, .int .i64 0, .int .i64 0, .bool false, .bool false, .bool false, .slice none 0 0] 25) = w1 := ⟨_, rfl⟩
  rw [hw1] at B1
  have H1 := h.below B1
  have HW1 := hidH hw1
  have W1 := hidH (Win.of_below (B := r) (C := r + 1) B1)
  have hun : PanE (.iface ty pv) = .panicked [{ v := .iface ty pv, recovered := false }] := rfl
  rw [hun]
  have HUN := hidH hun
  clear h B1 hw1 hun
  by_cases h4 : l.length < 4
  · have HC := hidH (word_bad r l w1 ty pv H1 h4)
    rw [HUN.out] at HC
    clear H1 h4 h8
    go_enter Tryd.func127, Tryd.ntmps127
    go_wp2_with fail
    rw [HW1.out]
    refine HC.out.mono ?_
    rintro e w2 ⟨rfl, hw⟩
    have W2 := hidH (W1.out.trans hw)
    clear HC hw HW1 W1
    go_wp2
    exact ⟨rfl, rfl, W2.out⟩
  · have HC := hidH (word_ok r l w1 ty pv H1 (by omega))
    have HL := hidH (And.intro h4 h8)
    clear H1 h4 h8
    by_cases h6 : l.length < 6
    · go_enter Tryd.func127, Tryd.ntmps127
      go_wp2_with fail
      rw [HW1.out]
      refine HC.out.mono ?_
      rintro e w2 ⟨rfl, h2, hw⟩
      have W2 := hidH (W1.out.trans hw)
      have HD := hidH (pair_bad r (l.drop 4) w2 ty pv h2 (by have := HL.out; rw [List.length_drop]; omega))
      rw [HUN.out] at HD
      clear HC hw HW1 W1 h2 h6
      go_wp2_with fail
      refine HD.out.mono ?_
      rintro e w3 ⟨rfl, hw⟩
      have W3 := hidH (W2.out.trans hw)
      clear HD hw W2
      go_wp2
      exact ⟨rfl, rfl, W3.out⟩
    · have H6 := hidH h6
      clear h6
      go_enter Tryd.func127, Tryd.ntmps127
      go_wp2_with fail
      rw [HW1.out]
      refine HC.out.mono ?_
      rintro e w2 ⟨rfl, h2, hw⟩
      have W2 := hidH (W1.out.trans hw)
      have HD := hidH (pair_ok' r (l.drop 4) w2 ty pv h2 (by have := HL.out; have := H6.out; rw [List.length_drop]; omega))
      clear HC hw HW1 W1 h2
      go_wp2_with fail
      refine HD.out.mono ?_
      rintro e w3 ⟨rfl, h3, hw, _⟩
      have W3 := hidH (W2.out.trans hw)
      have HD3 := hidH (pair_bad r ((l.drop 4).drop 2) w3 ty pv h3 (by have := HL.out; rw [List.length_drop, List.length_drop]; omega))
      rw [HUN.out] at HD3
      clear HD hw W2 h3
      go_wp2_with fail
      refine HD3.out.mono ?_
      rintro e w4 ⟨rfl, hw⟩
      have W4 := hidH (W3.out.trans hw)
      clear HD3 hw W3
      go_wp2
      exact ⟨rfl, rfl, W4.out⟩
end Go.Proofs.YtjjileefdjjijaaDoor

/- The program's byteReader: numbers, answer. -/
namespace Go.Proofs.YtjjileefdjjijaaDoor
open Go.RowKit Go.Deep

theorem RE.belowB {w w' : World} {r B : Nat} {ty : TypeId} {pv : Value} {l : List Int} (h : RE w r ty pv l) (hb : Below B w w') (hr : r < B) : RE w' r ty pv l := by
  obtain ⟨A, c, h1, h2, h3, h4, h5⟩ := h.rd
  have hK : Blk w' r 159 #[.slice A l.length c] := (hb.block r hr).trans h1
  refine ⟨⟨A, c, hK, ?_, h3, h4, h5⟩, (hb.cell (p := ⟨0, 0, none⟩) (Nat.lt_trans h.pos hr)).trans h.e, h.pos, h.by_⟩
  rcases h2 with h2 | ⟨b, off, e, hlt, h2⟩
  · exact .inl h2
  · have hbr := h5 _ e
    exact .inr ⟨b, off, e, Nat.lt_of_lt_of_le hlt hb.size, fun j hj => (hb.cell (p := ⟨b, off + j, none⟩) (Nat.lt_trans hbr hr)).trans (h2 j hj)⟩
def NumRes (r : Nat) (ty : TypeId) (pv : Value) (d rest : List Int) (w : World) (e : Ending) (w' : World) : Prop :=
  ∃ A c, e = .returned (.slice A d.length c) ∧ OwV w.heap.size w'.heap.size w' (.is d) (.slice A d.length c) ∧ RE w' r ty pv rest ∧ Win r (r + 1) w w'
/-- The numbers so far. -/
def NumSt (r : Nat) (ty : TypeId) (pv : Value) (L : List Int) (w : World) (j : Nat) (v : Value) (wr : World) : Prop :=
  wr.ownsRow w.heap.size 2 1 v j ((L.take j).map (Value.int .i64)) ∧ RE wr r ty pv (L.drop j) ∧ Win r (r + 1) w wr
theorem take_getD {L : List Int} {j : Nat} (hj : j < L.length) : L.take (j + 1) = L.take j ++ [(L.drop j).getD 0 0] := by
  rw [List.take_add_one, List.getElem?_eq_getElem hj, Option.toList_some, List.getD_eq_getElem?_getD, List.getElem?_drop, Nat.add_zero, List.getElem?_eq_getElem hj, Option.getD_some]
theorem num_turn {r : Nat} {ty : TypeId} {pv : Value} {L : List Int} {w wr w2 w3 : World} {j : Nat} {v v3 : Value} {o : Obj} (hr : r < w.heap.size) (h : NumSt r ty pv L w j v wr) (hj : j < L.length) (h2 : RE w2 r ty pv ((L.drop j).drop 1)) (hw : Win r (r + 1) wr w2)
    (o3 : w3.ownsRow w.heap.size 2 1 v3 (j + 1) ((L.take j).map (Value.int .i64) ++ [.int .i64 ((L.drop j).getD 0 0)])) (g3 : (w2.alloc o).grownBy w3 v.ownBlock) : NumSt r ty pv L w (j + 1) v3 w3 := by
  have hown := (own_kept h.1 hw hr)
  have hsz : w.heap.size ≤ w2.heap.size := Nat.le_trans h.2.2.size hw.size
  have BB : Below w.heap.size w2 w3 := ((bal (Below.refl w2.heap.size w2) o).mono hsz).trans ((Below.refl w.heap.size (w2.alloc o)).grown g3 (by simp; omega) (fun x hx => (hown.lt x hx).1))
  refine ⟨by rw [take_getD hj]; simpa using o3, ?_, (h.2.2.trans hw).andBelow5 BB⟩
  rw [show L.drop (j + 1) = (L.drop j).drop 1 by rw [List.drop_drop]]
  exact h2.belowB BB hr
set_option maxRecDepth 100000 in
set_option maxHeartbeats 2000000 in
theorem numbers_ok (r : Nat) (l : List Int) (w : World) (ty : TypeId) (pv : Value) (h : RE w r ty pv l) (hc : cntOk l 0) (hm : l.length ≤ 4000000) :
    Calls Tryd.prog 140 #[.pointer (some ⟨r, 0, none⟩)] w (NumRes r ty pv (cntL l 0) (l.drop (1 + cntN l 0)) w) := by
  obtain ⟨hc1, hc2⟩ := hc
  have hrl := h.rd.lt
  have HN := hidH (number_ok' r l w ty pv h hc1)
  obtain ⟨b0, b1⟩ := h.by_.get 0
  have hx : l.getD 0 0 = ((cntN l 0 : Nat) : Int) := by unfold cntN; omega
  rw [hx] at HN
  obtain ⟨n, hn⟩ : ∃ n, cntN l 0 = n := ⟨_, rfl⟩
  rw [hn] at HN hc2 ⊢
  have HD := hidH (show cntL l 0 = (l.drop 1).take n by unfold cntL; rw [hn])
  have hnI : (n : Int) ≤ 255 := by omega
  obtain ⟨L, hL⟩ : ∃ L, l.drop 1 = L := ⟨_, rfl⟩
  have HLL := hidH hL
  have hll : n ≤ L.length := by rw [← hL, List.length_drop]; omega
  rw [hL] at HN HD
  have HM := hidH (And.intro hll hm)
  clear h hc1 hc2 hx hn hL b0 b1 hm hll
  go_enter Tryd.func140, Tryd.ntmps140
  go_wp2_with fail
  refine HN.out.mono ?_
  rintro e w2 ⟨rfl, h2, hw, hs⟩
  have HS := hidH (show NumSt r ty pv L w 0 (.slice none 0 0) w2 from ⟨World.ownsRow_nil _ _ _ _, by rw [List.drop_zero]; exact h2, hw⟩)
  clear HN h2 hw hs
  go_wp2
  go_loopw [3, 6] (fun v i wr => ∃ j : Nat, j ≤ n ∧ i = .int .i64 j ∧ NumSt r ty pv L w j v wr) (fun _ i _ => n - (intOf i).toNat)
  case atStart => exact ⟨0, by omega, rfl, HS.out⟩
  case round =>
    obtain ⟨j, hj, rfl, hst⟩ := hrel
    by_cases hlt : j < n
    · have hj1 : (j : Int) < (n : Int) := by omega
      have hjl : j < L.length := by have := HM.out; omega
      have HN := hidH (number_ok' r (L.drop j) wr ty pv hst.2.1 (by rw [List.length_drop]; omega))
      obtain ⟨x, hx⟩ : ∃ x, (L.drop j).getD 0 0 = x := ⟨_, rfl⟩
      rw [hx] at HN
      have HX := hidH hx
      have HST := hidH hst
      clear hst hx
      go_wp2_with fail
      refine HN.out.mono ?_
      rintro e w3 ⟨rfl, h3, hw, hs⟩
      have ow := hidH ((own_kept HST.out.1 hw hrl))
      have hsz : w.heap.size ≤ w3.heap.size := Nat.le_trans HST.out.2.2.size hw.size
      have HR := hidH (And.intro h3 hw)
      have hq := Blk.new w3 2 #[.int .i64 x]
      have hsz2 : w.heap.size ≤ (w3.alloc (.cells #[.int .i64 x] 2)).heap.size := by simp; omega
      have ow2 := hidH (own_below0 ow.out (bal (Below.refl _ _) (.cells #[.int .i64 x] 2)))
      clear HN h3 hw hs
      go_wp2_with (at_builtin; refine wpList_append_i1 rfl _ _ rfl w.heap.size _ _ _ rfl ow2.out w3.heap.size _ x rfl hq (by have := HM.out; omega) hsz2 ?_)
      intro v4 w4 o4 g4
      have HT := hidH (num_turn hrl HST.out hjl HR.out.1 HR.out.2 (by rw [HX.out, List.map_take]; exact o4) g4)
      clear o4 g4 hq ow ow2 HR
      go_wp2
      go_roundw
      case rel => exact ⟨j + 1, by omega, by go_num, HT.out⟩
      case measure => simp [intOf]; omega
    · obtain rfl : j = n := by omega
      have hl2 : (L.take j).length = j := by rw [List.length_take]; have := HM.out; omega
      obtain ⟨A, c, e, ob, k1, k2⟩ := own_oiN hst.1 hl2
      have HOB := hidH (ob.owv (Nat.le_refl _) ⟨k1, k2⟩)
      have HR := hidH hst.2
      subst e
      have HL2 := hidH hl2
      clear hst ob k1 k2 hlt hj hl2
      go_wp2
      go_ret
      refine ⟨A, c, ?_, by rw [HD.out]; exact HOB.out, ?_, HR.out.2⟩
      · rw [HD.out, HL2.out]; rfl
      · rw [← List.drop_drop, HLL.out]; exact HR.out.1
set_option maxRecDepth 100000 in
set_option maxHeartbeats 2000000 in
theorem numbers_bad (r : Nat) (l : List Int) (w : World) (ty : TypeId) (pv : Value) (h : RE w r ty pv l) (hc : ¬ cntOk l 0) (hm : l.length ≤ 4000000) :
    Calls Tryd.prog 140 #[.pointer (some ⟨r, 0, none⟩)] w fun e w' => e = PanE (.iface ty pv) ∧ Win r (r + 1) w w' := by
  have hun : PanE (.iface ty pv) = .panicked [{ v := .iface ty pv, recovered := false }] := rfl
  rw [hun]
  have HUN := hidH hun
  have hrl := h.rd.lt
  clear hun
  by_cases h0 : l.length = 0
  · obtain rfl := List.eq_nil_of_length_eq_zero h0
    have HN := hidH (number_bad r w ty pv h)
    rw [HUN.out] at HN
    clear h h0 hc hm
    go_enter Tryd.func140, Tryd.ntmps140
    go_wp2_with fail
    refine HN.out.mono ?_
    rintro e w2 ⟨rfl, rfl⟩
    clear HN
    go_wp2
    exact ⟨rfl, rfl, Win.refl _ _ _⟩
  · have HN := hidH (number_ok' r l w ty pv h (by omega))
    obtain ⟨b0, b1⟩ := h.by_.get 0
    have hx : l.getD 0 0 = ((cntN l 0 : Nat) : Int) := by unfold cntN; omega
    rw [hx] at HN
    have hc2 : l.length < 1 + cntN l 0 := by
      rcases Nat.lt_or_ge l.length (1 + cntN l 0) with q | q
      · exact q
      · exact absurd ⟨by omega, by omega⟩ hc
    obtain ⟨n, hn⟩ : ∃ n, cntN l 0 = n := ⟨_, rfl⟩
    have hnI : (n : Int) ≤ 255 := by rw [← hn]; omega
    rw [hn] at HN hc2
    obtain ⟨L, hL⟩ : ∃ L, l.drop 1 = L := ⟨_, rfl⟩
    have hll : L.length < n := by rw [← hL, List.length_drop]; omega
    rw [hL] at HN
    have HM := hidH (And.intro hll hm)
    clear h hx hn hL b0 b1 hc hc2 h0 hll hm
    go_enter Tryd.func140, Tryd.ntmps140
    go_wp2_with fail
    refine HN.out.mono ?_
    rintro e w2 ⟨rfl, h2, hw, hs⟩
    have HS := hidH (show NumSt r ty pv L w 0 (.slice none 0 0) w2 from ⟨World.ownsRow_nil _ _ _ _, by rw [List.drop_zero]; exact h2, hw⟩)
    clear HN h2 hw hs
    go_wp2
    go_loopw [3, 6] (fun v i wr => ∃ j : Nat, j ≤ L.length ∧ i = .int .i64 j ∧ NumSt r ty pv L w j v wr) (fun _ i _ => L.length - (intOf i).toNat)
    case atStart => exact ⟨0, by omega, rfl, HS.out⟩
    case round =>
      obtain ⟨j, hj, rfl, hst⟩ := hrel
      have hj1 : (j : Int) < (n : Int) := by have := HM.out; omega
      by_cases hjl : j < L.length
      · have HN := hidH (number_ok' r (L.drop j) wr ty pv hst.2.1 (by rw [List.length_drop]; omega))
        obtain ⟨x, hx⟩ : ∃ x, (L.drop j).getD 0 0 = x := ⟨_, rfl⟩
        rw [hx] at HN
        have HX := hidH hx
        have HST := hidH hst
        clear hst hx
        go_wp2_with fail
        refine HN.out.mono ?_
        rintro e w3 ⟨rfl, h3, hw, hs⟩
        have ow := hidH ((own_kept HST.out.1 hw hrl))
        have hsz : w.heap.size ≤ w3.heap.size := Nat.le_trans HST.out.2.2.size hw.size
        have HR := hidH (And.intro h3 hw)
        have hq := Blk.new w3 2 #[.int .i64 x]
        have hsz2 : w.heap.size ≤ (w3.alloc (.cells #[.int .i64 x] 2)).heap.size := by simp; omega
        have ow2 := hidH (own_below0 ow.out (bal (Below.refl _ _) (.cells #[.int .i64 x] 2)))
        clear HN h3 hw hs
        go_wp2_with (at_builtin; refine wpList_append_i1 rfl _ _ rfl w.heap.size _ _ _ rfl ow2.out w3.heap.size _ x rfl hq (by have := HM.out; omega) hsz2 ?_)
        intro v4 w4 o4 g4
        have HT := hidH (num_turn hrl HST.out hjl HR.out.1 HR.out.2 (by rw [HX.out, List.map_take]; exact o4) g4)
        clear o4 g4 hq ow ow2 HR
        go_wp2
        go_roundw
        case rel => exact ⟨j + 1, by omega, by go_num, HT.out⟩
        case measure => simp [intOf]; omega
      · obtain rfl : j = L.length := by omega
        have hre := hst.2.1
        rw [List.drop_length] at hre
        have HN := hidH (number_bad r wr ty pv hre)
        rw [HUN.out] at HN
        have HW := hidH hst.2.2
        clear hst hre hjl hj
        go_wp2_with fail
        refine HN.out.mono ?_
        rintro e w3 ⟨rfl, rfl⟩
        clear HN
        go_wp2
        exact ⟨rfl, rfl, HW.out⟩
end Go.Proofs.YtjjileefdjjijaaDoor

/- The program's byteReader: answer. -/
namespace Go.Proofs.YtjjileefdjjijaaDoor
open Go.RowKit Go.Deep

theorem getD_drop0 (l : List Int) (k : Nat) : (l.drop k).getD 0 0 = l.getD k 0 := by rw [← getD_drop, Nat.add_zero]
theorem cnt_drop {l : List Int} {k : Nat} : cntOk l k ↔ cntOk (l.drop k) 0 := by
  unfold cntOk cntN
  rw [List.length_drop, getD_drop0]
  omega
theorem cntN_drop (l : List Int) (k : Nat) : cntN l k = cntN (l.drop k) 0 := by
  unfold cntN
  rw [getD_drop0]
theorem cntL_drop {l : List Int} {k : Nat} : cntL l k = cntL (l.drop k) 0 := by
  unfold cntL
  rw [← cntN_drop, List.drop_drop]
set_option maxRecDepth 100000 in
set_option maxHeartbeats 4000000 in
theorem answer_ok (r : Nat) (l : List Int) (w : World) (ty : TypeId) (pv : Value) (h : RE w r ty pv l) (h4 : cntOk l 4) (hm : l.length ≤ 4000000) :
    Calls Tryd.prog 131 #[.pointer (some ⟨r, 0, none⟩)] w (StRes r (rawV l).vs w) := by
  have K1 := Blk.new w 63 #[.int .i64 0, .slice none 0 0]
  have B1 := bal (Below.refl w.heap.size w) (.cells #[.int .i64 0, .slice none 0 0] 63)
  obtain ⟨w1, hw1⟩ : ∃ w1, w.alloc (.cells #[.int .i64 0, .slice none 0 0] 63) = w1 := ⟨_, rfl⟩
  have hs1 : w1.heap.size = w.heap.size + 1 := by rw [← hw1]; simp
  rw [hw1] at K1 B1
  have hrl := h.rd.lt
  have HT := hidH (And.intro (word_ok r l w1 ty pv (h.below B1) (by have := h4.1; omega)) (And.intro K1 (Win.of_below (B := r) (C := r + 1) B1)))
  have HS := hidH (And.intro hs1 hrl)
  have HW1 := hidH hw1
  have HL := hidH (And.intro (cnt_drop.1 h4) hm)
  clear h K1 B1 hs1 hrl hw1 h4 hm
  go_enter Tryd.func131, Tryd.ntmps131
  go_wp2_with fail
  rw [HW1.out]
  refine HT.out.1.mono ?_
  rintro e w2 ⟨rfl, h2, hw⟩
  replace HT := hidH (And.intro (hw.blk HT.out.2.1 (.inr (by have := HS.out; omega))) (HT.out.2.2.trans hw))
  have HC := hidH (numbers_ok r (l.drop 4) w2 ty pv h2 HL.out.1 (by have := HL.out.2; rw [List.length_drop]; omega))
  have HZ := hidH hw.size
  obtain ⟨x0, hx0⟩ : ∃ x, atW l 0 = x := ⟨_, rfl⟩
  have HX0 := hidH hx0
  rw [hx0]
  obtain ⟨P, hP⟩ : ∃ P, cntL (l.drop 4) 0 = P := ⟨_, rfl⟩
  have HP := hidH hP
  rw [hP] at HC
  clear h2 hw hx0 hP
  go_wp2_with fail
  refine HC.out.mono ?_
  rintro e w5 ⟨A, c, rfl, hO, _, hw⟩
  have K5 := hw.blk HT.out.1 (.inr (by have := HS.out; omega))
  have HW5 := hidH (HT.out.2.trans hw)
  have HOB := hidH hO
  have HSZ := hidH hw.size
  have hr5 := K5.lt
  have y0 := K5.cell 0
  have y1 := K5.cell 1
  have f0 := K5.frozen 0
  have f1 := K5.frozen 1
  simp only [List.getElem?_toArray, List.getElem?_cons_succ, List.getElem?_cons_zero] at y0 y1
  clear HC hO hw K5 HT
  go_wp2
  have hlo : w.heap.size + 1 ≤ w2.heap.size := by have := HS.out; have := HZ.out; omega
  exact bodyPost_ret (v := .agg #[.int .i64 x0, .slice A P.length c]) (by simp [results, Tryd.results131, go_sem, y0, y1]) rfl ⟨_, rfl, by
    have e : (rawV l).vs = [.int x0, .is P] := by
      simp only [rawV, AnswerM.vs]
      rw [HX0.out, cntL_drop, HP.out]
    rw [e]
    refine OwN.int x0 ((OwN.cons (B := w2.heap.size) (C := w5.heap.size) (D := w5.heap.size) ?_ (OwN.nil (by simp [World.setCell])) (by have := HSZ.out; omega) (Nat.le_refl _)).mono (by omega) (by simp [World.setCell]) (Nat.le_refl _))
    iterate 2 (refine OwV.win (B' := w.heap.size) (C' := w.heap.size + 1) ?_ (set_win _ _ _ _) (.inr hlo))
    exact HOB.out, by
    refine HW5.out.andBelow5 ?_
    iterate 2 (refine bsc ?_ (Nat.le_refl _) _)
    exact Below.refl _ _⟩
set_option maxRecDepth 100000 in
set_option maxHeartbeats 4000000 in
theorem answer_bad (r : Nat) (l : List Int) (w : World) (ty : TypeId) (pv : Value) (h : RE w r ty pv l) (h4 : ¬ cntOk l 4) (hm : l.length ≤ 4000000) :
    Calls Tryd.prog 131 #[.pointer (some ⟨r, 0, none⟩)] w fun e w' => e = PanE (.iface ty pv) ∧ Win r (r + 1) w w' := by
  have B1 := bal (Below.refl w.heap.size w) (.cells #[.int .i64 0, .slice none 0 0] 63)
  obtain ⟨w1, hw1⟩ : ∃ w1, w.alloc (.cells #[.int .i64 0, .slice none 0 0] 63) = w1 := ⟨_, rfl⟩
  rw [hw1] at B1
  have H1 := h.below B1
  have HW1 := hidH hw1
  have W1 := hidH (Win.of_below (B := r) (C := r + 1) B1)
  have hun : PanE (.iface ty pv) = .panicked [{ v := .iface ty pv, recovered := false }] := rfl
  rw [hun]
  have HUN := hidH hun
  clear hun
  clear h B1 hw1
  by_cases hw4 : l.length < 4
  · have HC := hidH (word_bad r l w1 ty pv H1 hw4)
    rw [HUN.out] at HC
    clear H1 h4 hw4
    go_enter Tryd.func131, Tryd.ntmps131
    go_wp2_with fail
    rw [HW1.out]
    refine HC.out.mono ?_
    rintro e w2 ⟨rfl, hw⟩
    have W2 := hidH (W1.out.trans hw)
    clear HC hw HW1 W1
    go_wp2
    exact ⟨rfl, rfl, W2.out⟩
  · have HC := hidH (word_ok r l w1 ty pv H1 (by omega))
    have HL := hidH (And.intro (show ¬ cntOk (l.drop 4) 0 from fun q => h4 (cnt_drop.2 q)) hm)
    clear H1 h4 hw4
    go_enter Tryd.func131, Tryd.ntmps131
    go_wp2_with fail
    rw [HW1.out]
    refine HC.out.mono ?_
    rintro e w2 ⟨rfl, h2, hw⟩
    have W2 := hidH (W1.out.trans hw)
    have HD := hidH (numbers_bad r (l.drop 4) w2 ty pv h2 HL.out.1 (by have := HL.out.2; rw [List.length_drop]; omega))
    rw [HUN.out] at HD
    clear HC hw HW1 W1 h2
    go_wp2_with fail
    refine HD.out.mono ?_
    rintro e w3 ⟨rfl, hw⟩
    have W3 := hidH (W2.out.trans hw)
    clear HD hw W2
    go_wp2
    exact ⟨rfl, rfl, W3.out⟩
end Go.Proofs.YtjjileefdjjijaaDoor
