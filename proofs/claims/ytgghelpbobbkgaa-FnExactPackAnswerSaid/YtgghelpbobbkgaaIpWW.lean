/- The program's Answer: write. -/
import Derived.Test.YtgghelpbobbkgaaIpW
namespace Go.Proofs.Ytgghelpbobbkgaa
open Go.RowKit Go.Deep

set_option maxRecDepth 100000 in
set_option maxHeartbeats 2000000 in
theorem paW_impl (r : Nat) (y : AnswerM) (A : Option Addr) (c : Nat) (w0 w : World) (h : RdA w0 y.vs [.int .i64 y.Serial, .slice A y.Codes.length c]) (hb0 : Below w0.heap.size w0 w) (h0 : w0.heap.size ≤ r) (hr : WR w r []) (hf : paF y = 0) :
    Calls Try.prog 120 #[.agg #[.int .i64 y.Serial, .slice A y.Codes.length c], .pointer (some ⟨r, 0, none⟩)] w (Wrote r (paC y).Body w) := by
  obtain ⟨⟨a1, a2⟩, ⟨b1, b2⟩, hcs⟩ := paF_zero hf
  have h' : RdA w0 [.int y.Serial, .is y.Codes] _ := h
  have hA0 := isOf h'.tl.hd
  have HA := hidH (And.intro (is_below hA0 hb0) (is_lo0 hA0 h0))
  have HV := hidH (show ∀ j, j < y.Codes.length → 0 ≤ y.Codes.getD j 0 ∧ y.Codes.getD j 0 ≤ 255 from fun j hj => by have := hcs j hj; simp only [inB, Bool.and_eq_true, decide_eq_true_eq] at this; omega)
  have HRL := hidH hr.lt
  have K1 := Blk.new w 76 #[.int .i64 y.Serial, .slice A y.Codes.length c]
  have B1 := bal (Below.refl w.heap.size w) (.cells #[.int .i64 y.Serial, .slice A y.Codes.length c] 76)
  obtain ⟨w1, hw1⟩ : ∃ w1, w.alloc (.cells #[.int .i64 y.Serial, .slice A y.Codes.length c] 76) = w1 := ⟨_, rfl⟩
  rw [hw1] at K1 B1
  have hne : w.heap.size ≠ r := by have := hr.lt; omega
  have HW1 := hidH hw1
  have HN := hidH hne
  have HT := hidH (And.intro (hr.below B1) (And.intro (B1.mono (Nat.le_of_lt hr.lt)) (And.intro (OthK.of_below (r := r) B1) K1)))
  clear hw1 K1 B1 hne hr
  clear h h' hA0 hb0 h0 hf hcs
  go_enter Try.func120, Try.ntmps120
  have k0 := HT.out.2.2.2.cell 0
  simp only [List.getElem?_toArray, List.getElem?_cons_zero] at k0
  have hk := HT.out.2.2.2.lt
  have HP := hidH (wword_any r ([]) y.Serial w1 HT.out.1 a1 a2 (by simp))
  unfold Wrote at HP
  go_wp2_with fail
  rw [HW1.out]
  go_wp2_with fail
  refine HP.out.mono ?_
  rintro e w2 ⟨rfl, hw, hb, ho⟩
  replace HT := hidH (And.intro hw (And.intro (HT.out.2.1.trans hb) (And.intro (OthK.trans HT.out.2.2.1 ho) (ho _ _ _ HN.out (by decide) HT.out.2.2.2))))
  clear HP hw hb ho k0 hk
  have HAB := hidH (is_lo HA.out.1 HA.out.2 HT.out.2.1 HRL.out)
  have k1 := HT.out.2.2.2.cell 1
  simp only [List.getElem?_toArray, List.getElem?_cons_succ, List.getElem?_cons_zero] at k1
  have hk := HT.out.2.2.2.lt
  have HP := hidH (wnumbers_any r ([] ++ pk y.Serial) y.Codes A c w2 HT.out.1 HAB.out HA.out.2 HV.out (by simp [pk]) (by omega))
  unfold Wrote at HP
  go_wp2_with fail
  refine HP.out.mono ?_
  rintro e w3 ⟨rfl, hw, hb, ho⟩
  replace HT := hidH (And.intro hw (And.intro (HT.out.2.1.trans hb) (And.intro (OthK.trans HT.out.2.2.1 ho) (ho _ _ _ HN.out (by decide) HT.out.2.2.2))))
  clear HP hw hb ho k1 hk
  go_wp2
  exact bodyPost_ret (v := .tuple #[]) (by simp [results, Try.results120, go_sem]) rfl ⟨rfl, by simpa [paC] using HT.out.1, HT.out.2.1, HT.out.2.2.1⟩
end Go.Proofs.Ytgghelpbobbkgaa
