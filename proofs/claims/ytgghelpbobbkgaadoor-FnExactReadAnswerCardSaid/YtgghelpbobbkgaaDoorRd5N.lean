/- The program's byteReader: numbers, answer. -/
import Derived.Test.YtgghelpbobbkgaaDoorRd5D
namespace Go.Proofs.YtgghelpbobbkgaaDoor
open Go.RowKit Go.Deep

theorem RE.belowB {w w' : World} {r B : Nat} {ty : TypeId} {pv : Value} {l : List Int} (h : RE w r ty pv l) (hb : Below B w w') (hr : r < B) : RE w' r ty pv l := by
  obtain ⟨A, c, h1, h2, h3, h4, h5⟩ := h.rd
  have hK : Blk w' r 163 #[.slice A l.length c] := (hb.block r hr).trans h1
  refine ⟨⟨A, c, hK, ?_, h3, h4, h5⟩, (hb.cell (p := ⟨0, 0, none⟩) (Nat.lt_trans h.pos hr)).trans h.e, h.pos, h.by_⟩
  rcases h2 with h2 | ⟨b, off, e, hlt, h2⟩
  · exact .inl h2
  · have hbr := h5 _ e
    exact .inr ⟨b, off, e, Nat.lt_of_lt_of_le hlt hb.size, fun j hj => (hb.cell (p := ⟨b, off + j, none⟩) (Nat.lt_trans hbr hr)).trans (h2 j hj)⟩
def NumRes (r : Nat) (ty : TypeId) (pv : Value) (d rest : List Int) (w : World) (e : Ending) (w' : World) : Prop :=
  ∃ A c, e = .returned (.slice A d.length c) ∧ OwV w.heap.size w'.heap.size w' (.is d) (.slice A d.length c) ∧ RE w' r ty pv rest ∧ Win r (r + 1) w w'
/-- The numbers so far. -/
def NumSt (r : Nat) (ty : TypeId) (pv : Value) (L : List Int) (w : World) (j : Nat) (v : Value) (wr : World) : Prop :=
  wr.ownsRow w.heap.size 2 1 v j ((L.take j).map (Value.int .i64)) ∧ RE wr r ty pv (L.drop j) ∧ Win r (r + 1) w wr
theorem take_getD {L : List Int} {j : Nat} (hj : j < L.length) : L.take (j + 1) = L.take j ++ [(L.drop j).getD 0 0] := by
  rw [List.take_add_one, List.getElem?_eq_getElem hj, Option.toList_some, List.getD_eq_getElem?_getD, List.getElem?_drop, Nat.add_zero, List.getElem?_eq_getElem hj, Option.getD_some]
theorem num_turn {r : Nat} {ty : TypeId} {pv : Value} {L : List Int} {w wr w2 w3 : World} {j : Nat} {v v3 : Value} {o : Obj} (hr : r < w.heap.size) (h : NumSt r ty pv L w j v wr) (hj : j < L.length) (h2 : RE w2 r ty pv ((L.drop j).drop 1)) (hw : Win r (r + 1) wr w2)
    (o3 : w3.ownsRow w.heap.size 2 1 v3 (j + 1) ((L.take j).map (Value.int .i64) ++ [.int .i64 ((L.drop j).getD 0 0)])) (g3 : (w2.alloc o).grownBy w3 v.ownBlock) : NumSt r ty pv L w (j + 1) v3 w3 := by
  have hown := (own_kept h.1 hw hr)
  have hsz : w.heap.size ≤ w2.heap.size := Nat.le_trans h.2.2.size hw.size
  have BB : Below w.heap.size w2 w3 := ((bal (Below.refl w2.heap.size w2) o).mono hsz).trans ((Below.refl w.heap.size (w2.alloc o)).grown g3 (by simp; omega) (fun x hx => (hown.lt x hx).1))
  refine ⟨by rw [take_getD hj]; simpa using o3, ?_, (h.2.2.trans hw).andBelow5 BB⟩
  rw [show L.drop (j + 1) = (L.drop j).drop 1 by rw [List.drop_drop]]
  exact h2.belowB BB hr
set_option maxRecDepth 100000 in
set_option maxHeartbeats 2000000 in
theorem numbers_ok (r : Nat) (l : List Int) (w : World) (ty : TypeId) (pv : Value) (h : RE w r ty pv l) (hc : cntOk l 0) (hm : l.length ≤ 4000000) :
    Calls Tryd.prog 148 #[.pointer (some ⟨r, 0, none⟩)] w (NumRes r ty pv (cntL l 0) (l.drop (1 + cntN l 0)) w) := by
  obtain ⟨hc1, hc2⟩ := hc
  have hrl := h.rd.lt
  have HN := hidH (number_ok' r l w ty pv h hc1)
  obtain ⟨b0, b1⟩ := h.by_.get 0
  have hx : l.getD 0 0 = ((cntN l 0 : Nat) : Int) := by unfold cntN; omega
  rw [hx] at HN
  obtain ⟨n, hn⟩ : ∃ n, cntN l 0 = n := ⟨_, rfl⟩
  rw [hn] at HN hc2 ⊢
  have HD := hidH (show cntL l 0 = (l.drop 1).take n by unfold cntL; rw [hn])
  have hnI : (n : Int) ≤ 255 := by omega
  obtain ⟨L, hL⟩ : ∃ L, l.drop 1 = L := ⟨_, rfl⟩
  have HLL := hidH hL
  have hll : n ≤ L.length := by rw [← hL, List.length_drop]; omega
  rw [hL] at HN HD
  have HM := hidH (And.intro hll hm)
  clear h hc1 hc2 hx hn hL b0 b1 hm hll
  go_enter Tryd.func148, Tryd.ntmps148
  go_wp2_with fail
  refine HN.out.mono ?_
  rintro e w2 ⟨rfl, h2, hw, hs⟩
  have HS := hidH (show NumSt r ty pv L w 0 (.slice none 0 0) w2 from ⟨World.ownsRow_nil _ _ _ _, by rw [List.drop_zero]; exact h2, hw⟩)
  clear HN h2 hw hs
  go_wp2
  go_loopw [3, 6] (fun v i wr => ∃ j : Nat, j ≤ n ∧ i = .int .i64 j ∧ NumSt r ty pv L w j v wr) (fun _ i _ => n - (intOf i).toNat)
  case atStart => exact ⟨0, by omega, rfl, HS.out⟩
  case round =>
    obtain ⟨j, hj, rfl, hst⟩ := hrel
    by_cases hlt : j < n
    · have hj1 : (j : Int) < (n : Int) := by omega
      have hjl : j < L.length := by have := HM.out; omega
      have HN := hidH (number_ok' r (L.drop j) wr ty pv hst.2.1 (by rw [List.length_drop]; omega))
      obtain ⟨x, hx⟩ : ∃ x, (L.drop j).getD 0 0 = x := ⟨_, rfl⟩
      rw [hx] at HN
      have HX := hidH hx
      have HST := hidH hst
      clear hst hx
      go_wp2_with fail
      refine HN.out.mono ?_
      rintro e w3 ⟨rfl, h3, hw, hs⟩
      have ow := hidH ((own_kept HST.out.1 hw hrl))
      have hsz : w.heap.size ≤ w3.heap.size := Nat.le_trans HST.out.2.2.size hw.size
      have HR := hidH (And.intro h3 hw)
      have hq := Blk.new w3 2 #[.int .i64 x]
      have hsz2 : w.heap.size ≤ (w3.alloc (.cells #[.int .i64 x] 2)).heap.size := by simp; omega
      have ow2 := hidH (own_below0 ow.out (bal (Below.refl _ _) (.cells #[.int .i64 x] 2)))
      clear HN h3 hw hs
      go_wp2_with (at_builtin; refine wpList_append_i1 rfl _ _ rfl w.heap.size _ _ _ rfl ow2.out w3.heap.size _ x rfl hq (by have := HM.out; omega) hsz2 ?_)
      intro v4 w4 o4 g4
      have HT := hidH (num_turn hrl HST.out hjl HR.out.1 HR.out.2 (by rw [HX.out, List.map_take]; exact o4) g4)
      clear o4 g4 hq ow ow2 HR
      go_wp2
      go_roundw
      case rel => exact ⟨j + 1, by omega, by go_num, HT.out⟩
      case measure => simp [intOf]; omega
    · obtain rfl : j = n := by omega
      have hl2 : (L.take j).length = j := by rw [List.length_take]; have := HM.out; omega
      obtain ⟨A, c, e, ob, k1, k2⟩ := own_oiN hst.1 hl2
      have HOB := hidH (ob.owv (Nat.le_refl _) ⟨k1, k2⟩)
      have HR := hidH hst.2
      subst e
      have HL2 := hidH hl2
      clear hst ob k1 k2 hlt hj hl2
      go_wp2
      go_ret
      refine ⟨A, c, ?_, by rw [HD.out]; exact HOB.out, ?_, HR.out.2⟩
      · rw [HD.out, HL2.out]; rfl
      · rw [← List.drop_drop, HLL.out]; exact HR.out.1
set_option maxRecDepth 100000 in
set_option maxHeartbeats 2000000 in
theorem numbers_bad (r : Nat) (l : List Int) (w : World) (ty : TypeId) (pv : Value) (h : RE w r ty pv l) (hc : ¬ cntOk l 0) (hm : l.length ≤ 4000000) :
    Calls Tryd.prog 148 #[.pointer (some ⟨r, 0, none⟩)] w fun e w' => e = PanE (.iface ty pv) ∧ Win r (r + 1) w w' := by
  have hun : PanE (.iface ty pv) = .panicked [{ v := .iface ty pv, recovered := false }] := rfl
  rw [hun]
  have HUN := hidH hun
  have hrl := h.rd.lt
  clear hun
  by_cases h0 : l.length = 0
  · obtain rfl := List.eq_nil_of_length_eq_zero h0
    have HN := hidH (number_bad r w ty pv h)
    rw [HUN.out] at HN
    clear h h0 hc hm
    go_enter Tryd.func148, Tryd.ntmps148
    go_wp2_with fail
    refine HN.out.mono ?_
    rintro e w2 ⟨rfl, rfl⟩
    clear HN
    go_wp2
    exact ⟨rfl, rfl, Win.refl _ _ _⟩
  · have HN := hidH (number_ok' r l w ty pv h (by omega))
    obtain ⟨b0, b1⟩ := h.by_.get 0
    have hx : l.getD 0 0 = ((cntN l 0 : Nat) : Int) := by unfold cntN; omega
    rw [hx] at HN
    have hc2 : l.length < 1 + cntN l 0 := by
      rcases Nat.lt_or_ge l.length (1 + cntN l 0) with q | q
      · exact q
      · exact absurd ⟨by omega, by omega⟩ hc
    obtain ⟨n, hn⟩ : ∃ n, cntN l 0 = n := ⟨_, rfl⟩
    have hnI : (n : Int) ≤ 255 := by rw [← hn]; omega
    rw [hn] at HN hc2
    obtain ⟨L, hL⟩ : ∃ L, l.drop 1 = L := ⟨_, rfl⟩
    have hll : L.length < n := by rw [← hL, List.length_drop]; omega
    rw [hL] at HN
    have HM := hidH (And.intro hll hm)
    clear h hx hn hL b0 b1 hc hc2 h0 hll hm
    go_enter Tryd.func148, Tryd.ntmps148
    go_wp2_with fail
    refine HN.out.mono ?_
    rintro e w2 ⟨rfl, h2, hw, hs⟩
    have HS := hidH (show NumSt r ty pv L w 0 (.slice none 0 0) w2 from ⟨World.ownsRow_nil _ _ _ _, by rw [List.drop_zero]; exact h2, hw⟩)
    clear HN h2 hw hs
    go_wp2
    go_loopw [3, 6] (fun v i wr => ∃ j : Nat, j ≤ L.length ∧ i = .int .i64 j ∧ NumSt r ty pv L w j v wr) (fun _ i _ => L.length - (intOf i).toNat)
    case atStart => exact ⟨0, by omega, rfl, HS.out⟩
    case round =>
      obtain ⟨j, hj, rfl, hst⟩ := hrel
      have hj1 : (j : Int) < (n : Int) := by have := HM.out; omega
      by_cases hjl : j < L.length
      · have HN := hidH (number_ok' r (L.drop j) wr ty pv hst.2.1 (by rw [List.length_drop]; omega))
        obtain ⟨x, hx⟩ : ∃ x, (L.drop j).getD 0 0 = x := ⟨_, rfl⟩
        rw [hx] at HN
        have HX := hidH hx
        have HST := hidH hst
        clear hst hx
        go_wp2_with fail
        refine HN.out.mono ?_
        rintro e w3 ⟨rfl, h3, hw, hs⟩
        have ow := hidH ((own_kept HST.out.1 hw hrl))
        have hsz : w.heap.size ≤ w3.heap.size := Nat.le_trans HST.out.2.2.size hw.size
        have HR := hidH (And.intro h3 hw)
        have hq := Blk.new w3 2 #[.int .i64 x]
        have hsz2 : w.heap.size ≤ (w3.alloc (.cells #[.int .i64 x] 2)).heap.size := by simp; omega
        have ow2 := hidH (own_below0 ow.out (bal (Below.refl _ _) (.cells #[.int .i64 x] 2)))
        clear HN h3 hw hs
        go_wp2_with (at_builtin; refine wpList_append_i1 rfl _ _ rfl w.heap.size _ _ _ rfl ow2.out w3.heap.size _ x rfl hq (by have := HM.out; omega) hsz2 ?_)
        intro v4 w4 o4 g4
        have HT := hidH (num_turn hrl HST.out hjl HR.out.1 HR.out.2 (by rw [HX.out, List.map_take]; exact o4) g4)
        clear o4 g4 hq ow ow2 HR
        go_wp2
        go_roundw
        case rel => exact ⟨j + 1, by omega, by go_num, HT.out⟩
        case measure => simp [intOf]; omega
      · obtain rfl : j = L.length := by omega
        have hre := hst.2.1
        rw [List.drop_length] at hre
        have HN := hidH (number_bad r wr ty pv hre)
        rw [HUN.out] at HN
        have HW := hidH hst.2.2
        clear hst hre hjl hj
        go_wp2_with fail
        refine HN.out.mono ?_
        rintro e w3 ⟨rfl, rfl⟩
        clear HN
        go_wp2
        exact ⟨rfl, rfl, HW.out⟩
end Go.Proofs.YtgghelpbobbkgaaDoor
