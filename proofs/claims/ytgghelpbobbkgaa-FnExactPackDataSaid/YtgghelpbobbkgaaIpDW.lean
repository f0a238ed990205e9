/- The program's Data: write. -/
import Derived.Test.YtgghelpbobbkgaaIpD
namespace Go.Proofs.Ytgghelpbobbkgaa
open Go.RowKit Go.Deep

set_option maxRecDepth 100000 in
set_option maxHeartbeats 2000000 in
theorem pdW_impl (r : Nat) (y : DataM) (A : Option Addr) (c : Nat) (w0 w : World) (h : RdA w0 y.vs [.int .i64 y.Tsn, .int .i64 y.Stream, .int .i64 y.Seq, .bool y.First, .bool y.Last, .bool y.Unordered, .slice A y.Piece.length c]) (hb0 : Below w0.heap.size w0 w) (h0 : w0.heap.size ≤ r) (hr : WR w r []) (hf : pdF y = 0) :
    Calls Try.prog 103 #[.agg #[.int .i64 y.Tsn, .int .i64 y.Stream, .int .i64 y.Seq, .bool y.First, .bool y.Last, .bool y.Unordered, .slice A y.Piece.length c], .pointer (some ⟨r, 0, none⟩)] w (Wrote r (pdC y).Body w) := by
  obtain ⟨⟨a1, a2⟩, ⟨b1, b2⟩, ⟨c1, c2⟩, d1, d2⟩ := pdF_zero hf
  have h' : RdA w0 [.int y.Tsn, .int y.Stream, .int y.Seq, .bool y.First, .bool y.Last, .bool y.Unordered, .bs y.Piece] _ := h
  have hA0 := bsOf h'.tl.tl.tl.tl.tl.tl.hd
  have HA := hidH (And.intro (bs_below hA0 hb0) (bs_lo0 hA0 h0))
  have HRL := hidH hr.lt
  have hse : y.Seq ≤ 65535 := c2
  have hst : y.Stream ≤ 65535 := by omega
  have K1 := Blk.new w 31 #[.int .i64 y.Tsn, .int .i64 y.Stream, .int .i64 y.Seq, .bool y.First, .bool y.Last, .bool y.Unordered, .slice A y.Piece.length c]
  have B1 := bal (Below.refl w.heap.size w) (.cells #[.int .i64 y.Tsn, .int .i64 y.Stream, .int .i64 y.Seq, .bool y.First, .bool y.Last, .bool y.Unordered, .slice A y.Piece.length c] 31)
  obtain ⟨w1, hw1⟩ : ∃ w1, w.alloc (.cells #[.int .i64 y.Tsn, .int .i64 y.Stream, .int .i64 y.Seq, .bool y.First, .bool y.Last, .bool y.Unordered, .slice A y.Piece.length c] 31) = w1 := ⟨_, rfl⟩
  rw [hw1] at K1 B1
  have hne : w.heap.size ≠ r := by have := hr.lt; omega
  have HW1 := hidH hw1
  have HN := hidH hne
  have HT := hidH (And.intro (hr.below B1) (And.intro (B1.mono (Nat.le_of_lt hr.lt)) (And.intro (OthK.of_below (r := r) B1) K1)))
  clear hw1 K1 B1 hne hr
  clear h h' hA0 hb0 h0 hf
  go_enter Try.func103, Try.ntmps103
  have k0 := HT.out.2.2.2.cell 0
  simp only [List.getElem?_toArray, List.getElem?_cons_zero] at k0
  have hk := HT.out.2.2.2.lt
  have HP := hidH (wword_any r ([]) y.Tsn w1 HT.out.1 a1 a2 (by simp))
  unfold Wrote at HP
  go_wp2_with fail
  rw [HW1.out]
  go_wp2_with fail
  refine HP.out.mono ?_
  rintro e w2 ⟨rfl, hw, hb, ho⟩
  replace HT := hidH (And.intro hw (And.intro (HT.out.2.1.trans hb) (And.intro (OthK.trans HT.out.2.2.1 ho) (ho _ _ _ HN.out (by decide) HT.out.2.2.2))))
  clear HP hw hb ho k0 hk
  have k1 := HT.out.2.2.2.cell 1
  simp only [List.getElem?_toArray, List.getElem?_cons_succ, List.getElem?_cons_zero] at k1
  have hk := HT.out.2.2.2.lt
  have HP := hidH (wpair_any r ([] ++ pk y.Tsn) y.Stream w2 HT.out.1 b1 hst (by simp [pk]))
  unfold Wrote at HP
  go_wp2_with fail
  refine HP.out.mono ?_
  rintro e w3 ⟨rfl, hw, hb, ho⟩
  replace HT := hidH (And.intro hw (And.intro (HT.out.2.1.trans hb) (And.intro (OthK.trans HT.out.2.2.1 ho) (ho _ _ _ HN.out (by decide) HT.out.2.2.2))))
  clear HP hw hb ho k1 hk
  have k2 := HT.out.2.2.2.cell 2
  simp only [List.getElem?_toArray, List.getElem?_cons_succ, List.getElem?_cons_zero] at k2
  have hk := HT.out.2.2.2.lt
  have HP := hidH (wpair_any r ([] ++ pk y.Tsn ++ [y.Stream / 256, y.Stream % 256]) y.Seq w3 HT.out.1 c1 hse (by simp [pk]))
  unfold Wrote at HP
  go_wp2_with fail
  refine HP.out.mono ?_
  rintro e w4 ⟨rfl, hw, hb, ho⟩
  replace HT := hidH (And.intro hw (And.intro (HT.out.2.1.trans hb) (And.intro (OthK.trans HT.out.2.2.1 ho) (ho _ _ _ HN.out (by decide) HT.out.2.2.2))))
  clear HP hw hb ho k2 hk
  have HAB := hidH (bs_lo HA.out.1 HA.out.2 HT.out.2.1 HRL.out)
  have k6 := HT.out.2.2.2.cell 6
  simp only [List.getElem?_toArray, List.getElem?_cons_succ, List.getElem?_cons_zero] at k6
  have hk := HT.out.2.2.2.lt
  have HP := hidH (put_any r ([] ++ pk y.Tsn ++ [y.Stream / 256, y.Stream % 256] ++ [y.Seq / 256, y.Seq % 256]) y.Piece A c w4 HT.out.1 HAB.out (by simp [pk]; omega))
  unfold Wrote at HP
  go_wp2_with fail
  refine HP.out.mono ?_
  rintro e w5 ⟨rfl, hw, hb, ho⟩
  replace HT := hidH (And.intro hw (And.intro (HT.out.2.1.trans hb) (And.intro (OthK.trans HT.out.2.2.1 ho) (ho _ _ _ HN.out (by decide) HT.out.2.2.2))))
  clear HP hw hb ho k6 hk
  go_wp2
  exact bodyPost_ret (v := .tuple #[]) (by simp [results, Try.results103, go_sem]) rfl ⟨rfl, by simpa [pdC, pairL] using HT.out.1, HT.out.2.1, HT.out.2.2.1⟩
end Go.Proofs.Ytgghelpbobbkgaa
