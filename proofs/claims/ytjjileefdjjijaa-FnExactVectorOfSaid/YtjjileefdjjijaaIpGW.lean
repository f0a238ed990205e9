/- The program's greeting: write. -/
import Derived.Test.YtjjileefdjjijaaIpG
namespace Go.Proofs.Ytjjileefdjjijaa
open Go.RowKit Go.Deep

set_option maxRecDepth 100000 in
set_option maxHeartbeats 4000000 in
theorem inW_impl (r : Nat) (y : InitM) (k : Int) (A2 : Option Addr) (c2 : Nat) (A3 : Option Addr) (c3 : Nat) (A4 : Option Addr) (c4 : Nat) (w0 w : World) (h : RdA w0 y.vs [.int .i64 y.Tag, .int .i64 y.Tsn, .slice A2 y.Random.length c2, .slice A3 y.Addrs.length c3, .slice A4 y.Cookie.length c4]) (hb0 : Below w0.heap.size w0 w) (h0 : w0.heap.size ≤ r) (hr : WR w r []) (hf : piF y k = 0) :
    Calls Try.prog 122 #[.agg #[.int .i64 y.Tag, .int .i64 y.Tsn, .slice A2 y.Random.length c2, .slice A3 y.Addrs.length c3, .slice A4 y.Cookie.length c4, .int .i64 k], .pointer (some ⟨r, 0, none⟩)] w (Wrote r (piC y k).Body w) := by
  obtain ⟨⟨a1, a2⟩, ⟨b1, b2⟩, ⟨d1, d2, d3⟩, had, d4⟩ := inF_zero (piF_zero hf).2
  have h' : RdA w0 [.int y.Tag, .int y.Tsn, .bs y.Random, .is y.Addrs, .bs y.Cookie] _ := h
  have hA2 := bsOf h'.tl.tl.hd
  have hA3 := isOf h'.tl.tl.tl.hd
  have hA4 := bsOf h'.tl.tl.tl.tl.hd
  have HA2 := hidH (And.intro (bs_below hA2 hb0) (bs_lo0 hA2 h0))
  have HA3 := hidH (And.intro (is_below hA3 hb0) (is_lo0 hA3 h0))
  have HA4 := hidH (And.intro (bs_below hA4 hb0) (bs_lo0 hA4 h0))
  have HV := hidH (show ∀ j, j < y.Addrs.length → 0 ≤ y.Addrs.getD j 0 ∧ y.Addrs.getD j 0 ≤ 255 from fun j hj => by
    have := adF_zero _ _ had (y.Addrs.getD j 0) (by rw [List.getD_eq_getElem?_getD, List.getElem?_eq_getElem hj]; exact List.getElem_mem hj)
    omega)
  have HRL := hidH hr.lt
  have HD := hidH (And.intro d1 (And.intro d2 (And.intro d3 d4)))
  have d1I : (y.Random.length : Int) = 16 := by omega
  have d4I : (y.Cookie.length : Int) ≤ 100 := by omega
  have t0 : 0 ≤ y.Tag := by omega
  have K1 := Blk.new w 98 #[.int .i64 y.Tag, .int .i64 y.Tsn, .slice A2 y.Random.length c2, .slice A3 y.Addrs.length c3, .slice A4 y.Cookie.length c4, .int .i64 k]
  have B1 := bal (Below.refl w.heap.size w) (.cells #[.int .i64 y.Tag, .int .i64 y.Tsn, .slice A2 y.Random.length c2, .slice A3 y.Addrs.length c3, .slice A4 y.Cookie.length c4, .int .i64 k] 98)
  obtain ⟨w1, hw1⟩ : ∃ w1, w.alloc (.cells #[.int .i64 y.Tag, .int .i64 y.Tsn, .slice A2 y.Random.length c2, .slice A3 y.Addrs.length c3, .slice A4 y.Cookie.length c4, .int .i64 k] 98) = w1 := ⟨_, rfl⟩
  rw [hw1] at K1 B1
  have hne : w.heap.size ≠ r := by have := hr.lt; omega
  have HW1 := hidH hw1
  have HN := hidH hne
  have HT := hidH (And.intro (hr.below B1) (And.intro (B1.mono (Nat.le_of_lt hr.lt)) (And.intro (OthK.of_below (r := r) B1) K1)))
  clear hw1 K1 B1 hne hr
  clear h h' hA2 hA3 hA4 hb0 h0 hf had d1 d2 d3 d4 a1
  go_enter Try.func122, Try.ntmps122
  have k0 := HT.out.2.2.2.cell 0
  simp only [List.getElem?_toArray, List.getElem?_cons_zero] at k0
  have hk := HT.out.2.2.2.lt
  have HP := hidH (wword_any r ([]) y.Tag w1 HT.out.1 t0 a2 (by simp))
  unfold Wrote at HP
  go_wp2_with fail
  rw [HW1.out]
  go_wp2_with fail
  refine HP.out.mono ?_
  rintro e w2 ⟨rfl, hw, hb, ho⟩
  replace HT := hidH (And.intro hw (And.intro (HT.out.2.1.trans hb) (And.intro (OthK.trans HT.out.2.2.1 ho) (ho _ _ _ HN.out (by decide) HT.out.2.2.2))))
  clear HP hw hb ho k0 hk
  have k1 := HT.out.2.2.2.cell 1
  simp only [List.getElem?_toArray, List.getElem?_cons_succ, List.getElem?_cons_zero] at k1
  have hk := HT.out.2.2.2.lt
  have HP := hidH (wword_any r ([] ++ pk y.Tag) y.Tsn w2 HT.out.1 b1 b2 (by simp [pk]))
  unfold Wrote at HP
  go_wp2_with fail
  refine HP.out.mono ?_
  rintro e w3 ⟨rfl, hw, hb, ho⟩
  replace HT := hidH (And.intro hw (And.intro (HT.out.2.1.trans hb) (And.intro (OthK.trans HT.out.2.2.1 ho) (ho _ _ _ HN.out (by decide) HT.out.2.2.2))))
  clear HP hw hb ho k1 hk
  have HB2 := hidH (bs_lo HA2.out.1 HA2.out.2 HT.out.2.1 HRL.out)
  have k2 := HT.out.2.2.2.cell 2
  simp only [List.getElem?_toArray, List.getElem?_cons_succ, List.getElem?_cons_zero] at k2
  have hk := HT.out.2.2.2.lt
  have HP := hidH (put_any r ([] ++ pk y.Tag ++ pk y.Tsn) y.Random A2 c2 w3 HT.out.1 HB2.out (by have := HD.out; simp [pk]; omega))
  unfold Wrote at HP
  go_wp2_with fail
  refine HP.out.mono ?_
  rintro e w4 ⟨rfl, hw, hb, ho⟩
  replace HT := hidH (And.intro hw (And.intro (HT.out.2.1.trans hb) (And.intro (OthK.trans HT.out.2.2.1 ho) (ho _ _ _ HN.out (by decide) HT.out.2.2.2))))
  clear HP hw hb ho k2 hk
  have HB3 := hidH (is_lo HA3.out.1 HA3.out.2 HT.out.2.1 HRL.out)
  have k3 := HT.out.2.2.2.cell 3
  simp only [List.getElem?_toArray, List.getElem?_cons_succ, List.getElem?_cons_zero] at k3
  have hk := HT.out.2.2.2.lt
  have HP := hidH (wnumbers_any r ([] ++ pk y.Tag ++ pk y.Tsn ++ y.Random) y.Addrs A3 c3 w4 HT.out.1 HB3.out HA3.out.2 HV.out (by have := HD.out; simp [pk]; omega) (by have := HD.out; omega))
  unfold Wrote at HP
  go_wp2_with fail
  refine HP.out.mono ?_
  rintro e w5 ⟨rfl, hw, hb, ho⟩
  replace HT := hidH (And.intro hw (And.intro (HT.out.2.1.trans hb) (And.intro (OthK.trans HT.out.2.2.1 ho) (ho _ _ _ HN.out (by decide) HT.out.2.2.2))))
  clear HP hw hb ho k3 hk
  have k4 := HT.out.2.2.2.cell 4
  simp only [List.getElem?_toArray, List.getElem?_cons_succ, List.getElem?_cons_zero] at k4
  have hk := HT.out.2.2.2.lt
  have HP := hidH (wcount_any r ([] ++ pk y.Tag ++ pk y.Tsn ++ y.Random ++ ((y.Addrs.length : Int) :: y.Addrs)) (y.Cookie.length : Int) w5 HT.out.1 (by omega) (by omega) (by have := HD.out; simp [pk]; omega))
  unfold Wrote at HP
  go_wp2_with fail
  refine HP.out.mono ?_
  rintro e w6 ⟨rfl, hw, hb, ho⟩
  replace HT := hidH (And.intro hw (And.intro (HT.out.2.1.trans hb) (And.intro (OthK.trans HT.out.2.2.1 ho) (ho _ _ _ HN.out (by decide) HT.out.2.2.2))))
  clear HP hw hb ho k4 hk
  have HB4 := hidH (bs_lo HA4.out.1 HA4.out.2 HT.out.2.1 HRL.out)
  have k4 := HT.out.2.2.2.cell 4
  simp only [List.getElem?_toArray, List.getElem?_cons_succ, List.getElem?_cons_zero] at k4
  have hk := HT.out.2.2.2.lt
  have HP := hidH (put_any r ([] ++ pk y.Tag ++ pk y.Tsn ++ y.Random ++ ((y.Addrs.length : Int) :: y.Addrs) ++ [(y.Cookie.length : Int)]) y.Cookie A4 c4 w6 HT.out.1 HB4.out (by have := HD.out; simp [pk]; omega))
  unfold Wrote at HP
  go_wp2_with fail
  refine HP.out.mono ?_
  rintro e w7 ⟨rfl, hw, hb, ho⟩
  replace HT := hidH (And.intro hw (And.intro (HT.out.2.1.trans hb) (And.intro (OthK.trans HT.out.2.2.1 ho) (ho _ _ _ HN.out (by decide) HT.out.2.2.2))))
  clear HP hw hb ho k4 hk
  go_wp2
  exact bodyPost_ret (v := .tuple #[]) (by simp [results, Try.results122, go_sem]) rfl ⟨rfl, by simpa [piC, inL] using HT.out.1, HT.out.2.1, HT.out.2.2.1⟩
end Go.Proofs.Ytjjileefdjjijaa
