/- The program's Sack: write. -/
import Derived.Test.YtgghelpbobbkgaaIpK
namespace Go.Proofs.Ytgghelpbobbkgaa
open Go.RowKit Go.Deep

theorem ks_bnd : ∀ (a : Int) (r : List GapM), okGaps a r = true → ∀ x ∈ r, (0 ≤ x.From ∧ x.From ≤ 65535) ∧ (0 ≤ x.To ∧ x.To ≤ 65535)
  | _, [], _, _, hx => by simp at hx
  | a, z :: r, h, x, hx => by
    rw [okGaps_cons] at h
    simp only [inB, Bool.and_eq_true, decide_eq_true_eq] at h
    rcases List.mem_cons.1 hx with rfl | hx
    · omega
    · exact ks_bnd _ r h.2 x hx

set_option maxRecDepth 100000 in
set_option maxHeartbeats 4000000 in
theorem ksW_impl (r : Nat) (y : SackM) (A : Option Addr) (c : Nat) (w0 w : World) (h : RdA w0 y.vs [.int .i64 y.Cum, .slice A y.Gaps.length c]) (hb0 : Below w0.heap.size w0 w) (h0 : w0.heap.size ≤ r) (hr : WR w r []) (hf : ksF y = 0) :
    Calls Try.prog 112 #[.agg #[.int .i64 y.Cum, .slice A y.Gaps.length c], .pointer (some ⟨r, 0, none⟩)] w (Wrote r (ksC y).Body w) := by
  have hz := ksF_zero hf
  obtain ⟨a1, a2⟩ := hz.1
  have h' : RdA w0 [.int y.Cum, st_Gap y.Gaps] _ := h
  have HA := hidH (And.intro h'.tl.hd (And.intro hb0 h0))
  have HV := hidH (ks_bnd _ _ hz.2.2)
  have hn : y.Gaps.length ≤ 20 := by have := hz.2.1; omega
  have hnI : (y.Gaps.length : Int) ≤ 20 := by omega
  have HRL := hidH hr.lt
  have K1 := Blk.new w 45 #[.int .i64 y.Cum, .slice A y.Gaps.length c]
  have B1 := bal (Below.refl w.heap.size w) (.cells #[.int .i64 y.Cum, .slice A y.Gaps.length c] 45)
  obtain ⟨w1, hw1⟩ : ∃ w1, w.alloc (.cells #[.int .i64 y.Cum, .slice A y.Gaps.length c] 45) = w1 := ⟨_, rfl⟩
  rw [hw1] at K1 B1
  have hne : w.heap.size ≠ r := by have := hr.lt; omega
  have HW1 := hidH hw1
  have HN := hidH hne
  have HT := hidH (And.intro (hr.below B1) (And.intro (B1.mono (Nat.le_of_lt hr.lt)) (And.intro (OthK.of_below (r := r) B1) K1)))
  clear hw1 K1 B1 hne hr
  clear h h' hb0 h0 hf hz
  go_enter Try.func112, Try.ntmps112
  have k0 := HT.out.2.2.2.cell 0
  simp only [List.getElem?_toArray, List.getElem?_cons_zero] at k0
  have hk := HT.out.2.2.2.lt
  have HP := hidH (wword_any r ([]) y.Cum w1 HT.out.1 a1 a2 (by simp))
  unfold Wrote at HP
  go_wp2_with fail
  rw [HW1.out]
  go_wp2_with fail
  refine HP.out.mono ?_
  rintro e w2 ⟨rfl, hw, hb, ho⟩
  replace HT := hidH (And.intro hw (And.intro (HT.out.2.1.trans hb) (And.intro (OthK.trans HT.out.2.2.1 ho) (ho _ _ _ HN.out (by decide) HT.out.2.2.2))))
  clear HP hw hb ho k0 hk
  have k1 := HT.out.2.2.2.cell 1
  simp only [List.getElem?_toArray, List.getElem?_cons_succ, List.getElem?_cons_zero] at k1
  have hk := HT.out.2.2.2.lt
  have HP := hidH (wcount_any r ([] ++ pk y.Cum) (y.Gaps.length : Int) w2 HT.out.1 (by omega) (by omega) (by simp [pk]))
  unfold Wrote at HP
  go_wp2_with fail
  refine HP.out.mono ?_
  rintro e w3 ⟨rfl, hw, hb, ho⟩
  replace HT := hidH (And.intro hw (And.intro (HT.out.2.1.trans hb) (And.intro (OthK.trans HT.out.2.2.1 ho) (ho _ _ _ HN.out (by decide) HT.out.2.2.2))))
  clear HP hw hb ho k1 hk
  have k1 := HT.out.2.2.2.cell 1
  simp only [List.getElem?_toArray, List.getElem?_cons_succ, List.getElem?_cons_zero] at k1
  have hk := HT.out.2.2.2.lt
  go_wp2
  clear k1 hk
  go_loopw [18] (fun i wr => ∃ j : Nat, j ≤ y.Gaps.length ∧ i = .int .i64 j ∧ WR wr r (pk y.Cum ++ ((y.Gaps.length : Int) :: (y.Gaps.take j).flatMap gapL)) ∧ Below r w wr ∧ OthK r w wr) (fun i _ => y.Gaps.length - (intOf i).toNat)
  case atStart => exact ⟨0, by omega, rfl, by simpa using HT.out.1, HT.out.2.1, HT.out.2.2.1⟩
  case round =>
    obtain ⟨j, hj, rfl, hw, hb, ho⟩ := hrel
    by_cases hlt : j < y.Gaps.length
    · have hj0 : (0 : Int) ≤ (j : Int) := by omega
      have hj1 : (j : Int) < (y.Gaps.length : Int) := by omega
      obtain ⟨gb, ob, cb, eb, hgb, RB⟩ := Rd.row (f := GapM.vs) (W := 2) (fun _ => rfl) HA.out.1 hlt
      injection eb with eb1 eb2 eb3
      subst eb1 eb3
      obtain ⟨u0, p0, t0⟩ := RB 0 (.int y.Gaps[j].From) rfl
      obtain ⟨u1, p1, t1⟩ := RB 1 (.int y.Gaps[j].To) rfl
      have e0 := t0.int_out
      have e1 := t1.int_out
      subst e0 e1
      rw [Nat.add_zero] at p0
      have hbw : Below w0.heap.size w0 wr := HA.out.2.1.trans (hb.mono HA.out.2.2)
      replace p0 := (hbw.cell (p := ⟨gb, ob + j * 2, none⟩) hgb).trans p0
      replace p1 := (hbw.cell (p := ⟨gb, ob + j * 2 + 1, none⟩) hgb).trans p1
      obtain ⟨⟨v0, v1⟩, ⟨v2, v3⟩⟩ := HV.out y.Gaps[j] (List.getElem_mem hlt)
      obtain ⟨x1, hx1⟩ : ∃ k, y.Gaps[j].From = k := ⟨_, rfl⟩
      obtain ⟨x2, hx2⟩ : ∃ k, y.Gaps[j].To = k := ⟨_, rfl⟩
      have ht : (y.Gaps.take (j + 1)).flatMap gapL = (y.Gaps.take j).flatMap gapL ++ [x1 / 256, x1 % 256] ++ [x2 / 256, x2 % 256] := by
        rw [List.take_add_one, List.getElem?_eq_getElem hlt, Option.toList_some, List.flatMap_append]
        simp [gapL, pairL, hx1, hx2]
      rw [hx1] at p0 v0 v1
      rw [hx2] at p1 v2 v3
      have hlen : (pk y.Cum ++ ((y.Gaps.length : Int) :: (y.Gaps.take j).flatMap gapL)).length ≤ 200 := by simp [pk, -List.length_flatMap, gap_len, List.length_take]; omega
      obtain ⟨P, hP⟩ : ∃ P, pk y.Cum ++ ((y.Gaps.length : Int) :: (y.Gaps.take j).flatMap gapL) = P := ⟨_, rfl⟩
      have hPT : pk y.Cum ++ ((y.Gaps.length : Int) :: (y.Gaps.take (j + 1)).flatMap gapL) = P ++ [x1 / 256, x1 % 256] ++ [x2 / 256, x2 % 256] := by rw [ht, ← hP]; simp
      rw [hP] at hw hlen
      have HPT := hidH hPT
      have B5 := bal (Below.refl wr.heap.size wr) (.cells #[.int .i64 x1, .int .i64 x2] 128)
      have K5 := Blk.new wr 128 #[.int .i64 x1, .int .i64 x2]
      have hrl := hw.lt
      obtain ⟨w5, hw5⟩ : ∃ w5, wr.alloc (.cells #[.int .i64 x1, .int .i64 x2] 128) = w5 := ⟨_, rfl⟩
      rw [hw5] at B5 K5
      have HN5 := hidH (show wr.heap.size ≠ r by omega)
      have HC := hidH (wpair_any r P x1 w5 (hw.below B5) (by omega) (by omega) (by omega))
      unfold Wrote at HC
      have HT5 := hidH (And.intro (hb.trans (B5.mono (Nat.le_of_lt hrl))) (And.intro (OthK.trans ho (OthK.of_below (r := r) B5)) K5))
      have HLN := hidH hlen
      have c0 := K5.cell 0
      simp only [List.getElem?_toArray, List.getElem?_cons_zero] at c0
      have hk5 := K5.lt
      clear RB t0 t1 hx1 hx2 ht hP hPT hw hb ho hbw B5 K5 hlen
      go_wp2_with fail
      refine HC.out.mono ?_
      rintro e w6 ⟨rfl, hw, hb, ho⟩
      have K6 := ho _ _ _ HN5.out (by decide) HT5.out.2.2
      have HC2 := hidH (wpair_any r _ x2 w6 hw (by omega) (by omega) (by have := HLN.out; simp; omega))
      unfold Wrote at HC2
      have HT6 := hidH (And.intro (HT5.out.1.trans hb) (OthK.trans HT5.out.2.1 ho))
      have c1 := K6.cell 1
      simp only [List.getElem?_toArray, List.getElem?_cons_succ, List.getElem?_cons_zero] at c1
      have hk6 := K6.lt
      clear HC HT5 hw hb ho K6 c0
      go_wp2_with fail
      refine HC2.out.mono ?_
      rintro e w7 ⟨rfl, hw, hb, ho⟩
      have HR := hidH (show WR w7 r (pk y.Cum ++ ((y.Gaps.length : Int) :: (y.Gaps.take (j + 1)).flatMap gapL)) ∧ Below r w w7 ∧ OthK r w w7 from ⟨by rw [HPT.out]; exact hw, HT6.out.1.trans hb, OthK.trans HT6.out.2 ho⟩)
      clear HC2 HT6 hw hb ho
      go_wp2
      go_roundw
      case rel => exact ⟨j + 1, by omega, by go_num, HR.out⟩
      case measure => simp [intOf]; omega
    · obtain rfl : j = y.Gaps.length := by omega
      rw [List.take_length] at hw
      have HR := hidH (And.intro hw (And.intro hb ho))
      clear hw hb ho hlt hj
      go_wp2
      exact bodyPost_ret (v := .tuple #[]) (by simp [results, Try.results112, go_sem]) rfl ⟨rfl, HR.out⟩
end Go.Proofs.Ytgghelpbobbkgaa
