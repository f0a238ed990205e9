/- Chapter 10: SameSends, the model's. (WRITTEN BY tools/same10.py) -/
import Derived.Test.YthljdikcpdokdaaS10SA
namespace Go.Proofs.Ythljdikcpdokdaa
open Go.RowKit Go.Deep

set_option maxRecDepth 100000 in
set_option maxHeartbeats 2000000 in
theorem l1Same10_any (a b : List Int) (A B : Option Addr) (ca cb : Nat) (w : World) (hA : Is w A a) (hB : Is w B b) (hm : (a.length : Int) ≤ 1000000000000) :
    Calls Try.prog 131 #[.slice A a.length ca, .slice B b.length cb] w (EqG a b w) := by
  have HA := hidH (fun (u : World) (h : Below w.heap.size w u) => is_below hA h)
  have HB := hidH (fun (u : World) (h : Below w.heap.size w u) => is_below hB h)
  clear hA hB
  by_cases hl : a.length = b.length
  case neg =>
    have hl2 : ((a.length : Int) != (b.length : Int)) = true := by rw [bne_iff_ne]; omega
    have HX := hidH (show ¬ a = b from fun h => hl (by rw [h]))
    clear hl
    go_enter Try.func131, Try.ntmps131
    go_wp2
    go_ret
    exact ⟨false, rfl, ⟨(fun h => by cases h), fun h => absurd h HX.out⟩, Below.refl _ _⟩
  have HL := hidH hl
  rw [← hl]
  clear hl
  go_enter Try.func131, Try.ntmps131
  go_wp2
  go_loopw [5] (fun i wr => ∃ j : Nat, j ≤ a.length ∧ i = .int .i64 j ∧ (∀ t, t < j → a.getD t 0 = b.getD t 0) ∧ Below w.heap.size w wr) (fun i _ => a.length - (intOf i).toNat)
  case atStart => exact ⟨0, by omega, rfl, fun t ht => by omega, Below.refl _ _⟩
  case round =>
    obtain ⟨j, hj, rfl, hk, hB⟩ := hrel
    by_cases hlt : j < a.length
    · have hj0 : (0 : Int) ≤ (j : Int) := by omega
      have hj1 : (j : Int) < (a.length : Int) := by omega
      obtain ⟨g1, o1, e1, _, c1⟩ := is_at10 (HA.out wr hB) hlt
      obtain ⟨g2, o2, e2, _, c2⟩ := is_at10 (HB.out wr hB) (j := j) (by have := HL.out; omega)
      subst e1 e2
      obtain ⟨x, hx⟩ : ∃ x, a.getD j 0 = x := ⟨_, rfl⟩
      obtain ⟨y, hy⟩ : ∃ y, b.getD j 0 = y := ⟨_, rfl⟩
      rw [hx] at c1
      rw [hy] at c2
      have HB2 := hidH hB
      by_cases e : x = y
      · have f : (x != y) = false := by rw [bne_eq_false_iff_eq]; exact e
        have HK := hidH (show ∀ t, t < j + 1 → a.getD t 0 = b.getD t 0 from fun t ht => by
          by_cases e2 : t = j
          · subst e2; rw [hx, hy, e]
          · exact hk t (by omega))
        clear e hk hx hy hB
        go_wp2
        go_quiet (fail)
        go_wp2
        go_roundw
        case rel => exact ⟨j + 1, by omega, by go_num, HK.out, below_drewN HB2.out _⟩
        case measure => simp [intOf]; omega
      · have f : (x != y) = true := by rw [bne_iff_ne]; exact e
        have HX := hidH (show ¬ a = b from fun h => e (by rw [← hx, ← hy, h]))
        clear e hk hx hy hB
        go_wp2
        go_quiet (fail)
        go_wp2
        go_ret
        exact ⟨false, rfl, ⟨(fun h => by cases h), fun h => absurd h HX.out⟩, below_drewN HB2.out _⟩
    · obtain rfl : j = a.length := by omega
      have HX := hidH (show a = b from List.ext_getElem HL.out (fun t h1 h2 => by have := hk t h1; rwa [getD_at9 h1, getD_at9 h2] at this))
      have HB2 := hidH hB
      clear hk hlt hj hB
      go_wp2
      go_ret
      exact ⟨true, rfl, ⟨fun _ => HX.out, fun _ => rfl⟩, HB2.out⟩
set_option maxRecDepth 100000 in
set_option maxHeartbeats 8000000 in
theorem ss_specE (x y : SendM) (vs us : List Value) (w : World) (h : RdA w x.vs vs) (k : RdA w y.vs us) (hwx : WfA x.vs) (htx : tot.totL x.vs ≤ 1048576) (hwy : WfA y.vs) (hty : tot.totL y.vs ≤ 1048576) :
    Calls Try.prog 55 #[.agg vs.toArray, .agg us.toArray] w (EqG x y w) := by
  obtain ⟨X2, Xc2, X3, Xc3, rfl, i2, i3, m2, m3, _⟩ := send_sh h
  obtain ⟨Y2, Yc2, Y3, Yc3, rfl, j2, j3, n2, n3, _⟩ := send_sh k
  have tx := tot_send htx
  have ty := tot_send hty
  have HE1 := hidH (fun (u : World) (h : Below w.heap.size w u) => l1Same10_any x.Seqs y.Seqs X2 Y2 Xc2 Yc2 u (is_below i2 h) (is_below j2 h) (by omega))
  have HA := hidH (fun (u : World) (h : Below w.heap.size w u) => Rd.below h _ i3)
  have HB := hidH (fun (u : World) (h : Below w.heap.size w u) => Rd.below h _ j3)
  have HBA := hidH (wfb_Item hwx.2.2.2.1)
  have HB8 := hidH (wfb_Item hwy.2.2.2.1)
  have HIF := hidH (@send_eq x y)
  obtain ⟨w2, hw2⟩ : ∃ W, (w.alloc (.cells #[.int .i64 x.Next, .int .i64 x.Acked, .slice X2 x.Seqs.length Xc2, .slice X3 x.Items.length Xc3] 47)).alloc (.cells #[.int .i64 y.Next, .int .i64 y.Acked, .slice Y2 y.Seqs.length Yc2, .slice Y3 y.Items.length Yc3] 47) = W := ⟨_, rfl⟩
  have KX := (Blk.new w 47 #[.int .i64 x.Next, .int .i64 x.Acked, .slice X2 x.Seqs.length Xc2, .slice X3 x.Items.length Xc3]).alloc (.cells #[.int .i64 y.Next, .int .i64 y.Acked, .slice Y2 y.Seqs.length Yc2, .slice Y3 y.Items.length Yc3] 47)
  have KY := Blk.new (w.alloc (.cells #[.int .i64 x.Next, .int .i64 x.Acked, .slice X2 x.Seqs.length Xc2, .slice X3 x.Items.length Xc3] 47)) 47 #[.int .i64 y.Next, .int .i64 y.Acked, .slice Y2 y.Seqs.length Yc2, .slice Y3 y.Items.length Yc3]
  have B2 := bal (bal (Below.refl w.heap.size w) (.cells #[.int .i64 x.Next, .int .i64 x.Acked, .slice X2 x.Seqs.length Xc2, .slice X3 x.Items.length Xc3] 47)) (.cells #[.int .i64 y.Next, .int .i64 y.Acked, .slice Y2 y.Seqs.length Yc2, .slice Y3 y.Items.length Yc3] 47)
  rw [World.size_alloc] at KY
  rw [hw2] at KX KY B2
  have H2 := hidH hw2
  have HX := hidH KX
  have HY := hidH KY
  have HBB := hidH B2
  clear h k i2 i3 j2 j3 hw2 KX KY B2 m2 n2 n3 hwx htx hwy hty tx ty
  by_cases e0 : x.Next = y.Next
  case neg =>
    have f0 : (x.Next != y.Next) = true := by rw [bne_iff_ne]; exact e0
    have HN := hidH (show ¬ x = y from fun h => e0 (HIF.out.1 h).1)
    clear e0 HIF HE1
    go_enter Try.func55, Try.ntmps55
    go_wp2
    go_ret
    exact ⟨false, rfl, ⟨(fun h => by cases h), fun h => absurd h HN.out⟩, by rw [H2.out]; exact HBB.out⟩
  have f0 : (x.Next != y.Next) = false := by rw [bne_eq_false_iff_eq]; exact e0
  by_cases e1 : x.Acked = y.Acked
  case neg =>
    have f1 : (x.Acked != y.Acked) = true := by rw [bne_iff_ne]; exact e1
    have HN := hidH (show ¬ x = y from fun h => e1 (HIF.out.1 h).2.1)
    clear e0 e1 HIF HE1
    go_enter Try.func55, Try.ntmps55
    go_wp2
    go_ret
    exact ⟨false, rfl, ⟨(fun h => by cases h), fun h => absurd h HN.out⟩, by rw [H2.out]; exact HBB.out⟩
  have f1 : (x.Acked != y.Acked) = false := by rw [bne_eq_false_iff_eq]; exact e1
  have HC := hidH (And.intro e0 e1)
  clear e0 e1
  go_enter Try.func55, Try.ntmps55
  go_wp2_with fail
  rw [H2.out]
  refine (HE1.out _ HBB.out).mono ?_
  rintro e w3 ⟨b1, rfl, q1, b3⟩
  have HQ1 := hidH q1
  replace HX := hidH (HX.out.below b3)
  replace HY := hidH (HY.out.below b3)
  replace HBB := hidH (btr HBB.out b3)
  have px0 := HX.out.cell 0
  have px1 := HX.out.cell 1
  have px2 := HX.out.cell 2
  have px3 := HX.out.cell 3
  have py0 := HY.out.cell 0
  have py1 := HY.out.cell 1
  have py2 := HY.out.cell 2
  have py3 := HY.out.cell 3
  simp only [List.getElem?_toArray, List.getElem?_cons_succ, List.getElem?_cons_zero] at px0 px1 px2 px3 py0 py1 py2 py3
  have lpx := HX.out.lt
  have lpy := HY.out.lt
  clear q1 b3 HE1 H2
  cases b1
  case false =>
    have HN := hidH (show ¬ x = y from fun h => by have := HQ1.out.2 (HIF.out.1 h).2.2.1; cases this)
    clear HIF HQ1
    go_wp2
    go_ret
    exact ⟨false, rfl, ⟨(fun h => by cases h), fun h => absurd h HN.out⟩, HBB.out⟩
  by_cases hl : x.Items.length = y.Items.length
  case neg =>
    have hd : ((x.Items.length : Int) != (y.Items.length : Int)) = true := by rw [bne_iff_ne]; omega
    have HN := hidH (show ¬ x = y from fun h => hl (by rw [h]))
    clear hl HIF HQ1
    go_wp2
    go_ret
    exact ⟨false, rfl, ⟨(fun h => by cases h), fun h => absurd h HN.out⟩, HBB.out⟩
  have hd : ((x.Items.length : Int) != (y.Items.length : Int)) = false := by rw [bne_eq_false_iff_eq]; omega
  have HL := hidH hl
  clear hl
  go_wp2
  clear px0 px1 px2 px3 py0 py1 py2 py3 lpx lpy
  go_loopw [5] (fun i wr => ∃ j : Nat, j ≤ x.Items.length ∧ i = .int .i64 j ∧ (∀ t, t < j → x.Items[t]? = y.Items[t]?) ∧ Below w3.heap.size w3 wr) (fun i _ => x.Items.length - (intOf i).toNat)
  case atStart => exact ⟨0, by omega, rfl, fun t ht => by omega, Below.refl _ _⟩
  case round =>
    obtain ⟨j, hj, rfl, hEq, hBw⟩ := hrel
    have KXr := HX.out.below hBw
    have KYr := HY.out.below hBw
    have px3 := KXr.cell 3
    have py3 := KYr.cell 3
    simp only [List.getElem?_toArray, List.getElem?_cons_succ, List.getElem?_cons_zero] at px3 py3
    have lpx := KXr.lt
    have lpy := KYr.lt
    clear KXr KYr
    by_cases hlt : j < x.Items.length
    · have hj0 : (0 : Int) ≤ (j : Int) := by omega
      have hj1 : (j : Int) < (x.Items.length : Int) := by omega
      have hlb : j < y.Items.length := by have := HL.out; omega
      have hj2 : (j : Int) < (y.Items.length : Int) := by omega
      obtain ⟨ga, oa, c', A, cA, e, hga, c0, c1, c2, c3, c4, c5, c6, c7, c8, SA⟩ := at_Item (HA.out _ (btr HBB.out hBw)) hlt
      injection e with e1 e2 e3
      subst e1 e3
      obtain ⟨gb, ob, c', B, cB, e, hgb, d0, d1, d2, d3, d4, d5, d6, d7, d8, SB⟩ := at_Item (HB.out _ (btr HBB.out hBw)) hlb
      injection e with e1 e2 e3
      subst e1 e3
      have HC2 := hidH (fun n => l8Same_any x.Items[j].d y.Items[j].d A B cA cB ga (oa + j * 9) gb (ob + j * 9) (wr.drewN n) (((below_drewN (Below.refl _ _) n).cell (p := ⟨ga, oa + j * 9, none⟩) hga).trans c0) (((below_drewN (Below.refl _ _) n).cell (p := ⟨ga, oa + j * 9 + 1, none⟩) hga).trans c1) (((below_drewN (Below.refl _ _) n).cell (p := ⟨ga, oa + j * 9 + 2, none⟩) hga).trans c2) (((below_drewN (Below.refl _ _) n).cell (p := ⟨ga, oa + j * 9 + 3, none⟩) hga).trans c3) (((below_drewN (Below.refl _ _) n).cell (p := ⟨ga, oa + j * 9 + 4, none⟩) hga).trans c4) (((below_drewN (Below.refl _ _) n).cell (p := ⟨ga, oa + j * 9 + 5, none⟩) hga).trans c5) (((below_drewN (Below.refl _ _) n).cell (p := ⟨ga, oa + j * 9 + 6, none⟩) hga).trans c6) (((below_drewN (Below.refl _ _) n).cell (p := ⟨gb, ob + j * 9, none⟩) hgb).trans d0) (((below_drewN (Below.refl _ _) n).cell (p := ⟨gb, ob + j * 9 + 1, none⟩) hgb).trans d1) (((below_drewN (Below.refl _ _) n).cell (p := ⟨gb, ob + j * 9 + 2, none⟩) hgb).trans d2) (((below_drewN (Below.refl _ _) n).cell (p := ⟨gb, ob + j * 9 + 3, none⟩) hgb).trans d3) (((below_drewN (Below.refl _ _) n).cell (p := ⟨gb, ob + j * 9 + 4, none⟩) hgb).trans d4) (((below_drewN (Below.refl _ _) n).cell (p := ⟨gb, ob + j * 9 + 5, none⟩) hgb).trans d5) (((below_drewN (Below.refl _ _) n).cell (p := ⟨gb, ob + j * 9 + 6, none⟩) hgb).trans d6) (bs_below (bsOf SA) (below_drewN (Below.refl _ _) n)) (bs_below (bsOf SB) (below_drewN (Below.refl _ _) n)) (HBA.out _ (List.getElem_mem hlt)) (HB8.out _ (List.getElem_mem hlb)))
      have HNE := hidH (fun (h : ¬ x.Items[j] = y.Items[j]) => show ¬ (x = y) from fun e => by
        exact h (by subst e; rfl))
      have HEQ := hidH (fun (h : x.Items[j] = y.Items[j]) => show (∀ t, t < j + 1 → x.Items[t]? = y.Items[t]?) from fun t ht => by
        by_cases e : t = j
        · subst e; rw [List.getElem?_eq_getElem hlt, List.getElem?_eq_getElem hlb, h]
        · exact hEq t (by omega))
      obtain ⟨z, hz⟩ : ∃ z, x.Items[j] = z := ⟨_, rfl⟩
      obtain ⟨t, ht⟩ : ∃ t, y.Items[j] = t := ⟨_, rfl⟩
      rw [hz] at HC2 HNE HEQ c7 c8
      rw [ht] at HC2 HNE HEQ d7 d8
      have HIT := hidH (@item_eq z t)
      obtain ⟨r, hr⟩ : ∃ r, sameG z.d t.d = r := ⟨_, rfl⟩
      have HR := hidH (show r = true ↔ z.d = t.d by rw [← hr]; simp [sameG])
      simp only [hr] at HC2
      have HBW := hidH hBw
      clear hEq hBw hr SA SB hz ht c0 c1 c2 c3 c4 c5 c6 d0 d1 d2 d3 d4 d5 d6
      rcases r with _ | _
      · have HN := hidH (HNE.out (fun e => by have := HR.out.2 (HIT.out.1 e).1; cases this))
        go_wp2
        go_quiet ((go_at_call 132; exact Calls.quiet_of (HC2.out _)))
        go_wp2
        go_ret
        exact ⟨false, rfl, ⟨(fun h => by cases h), fun h => absurd h HN.out⟩, below_drewN (btr HBB.out HBW.out) _⟩
      by_cases s1 : z.Sent = t.Sent
      case neg =>
        have g1 : (z.Sent != t.Sent) = true := by rw [bne_iff_ne]; exact s1
        have HN := hidH (HNE.out (fun e => s1 (HIT.out.1 e).2.1))
        clear s1
        go_wp2
        go_quiet ((go_at_call 132; exact Calls.quiet_of (HC2.out _)))
        go_wp2
        go_ret
        exact ⟨false, rfl, ⟨(fun h => by cases h), fun h => absurd h HN.out⟩, below_drewN (btr HBB.out HBW.out) _⟩
      have g1 : (z.Sent != t.Sent) = false := by rw [bne_eq_false_iff_eq]; exact s1
      by_cases s2 : z.Due = t.Due
      case neg =>
        have g2 : (z.Due != t.Due) = true := by rw [bne_iff_ne]; exact s2
        have HN := hidH (HNE.out (fun e => s2 (HIT.out.1 e).2.2))
        clear s1 s2
        go_wp2
        go_quiet ((go_at_call 132; exact Calls.quiet_of (HC2.out _)))
        go_wp2
        go_ret
        exact ⟨false, rfl, ⟨(fun h => by cases h), fun h => absurd h HN.out⟩, below_drewN (btr HBB.out HBW.out) _⟩
      have g2 : (z.Due != t.Due) = false := by rw [bne_eq_false_iff_eq]; exact s2
      have HX2 := hidH (HEQ.out (HIT.out.2 ⟨HR.out.1 rfl, s1, s2⟩))
      clear s1 s2
      go_wp2
      go_quiet ((go_at_call 132; exact Calls.quiet_of (HC2.out _)))
      go_wp2
      exact ⟨⟨j + 1, by omega, by go_num, HX2.out, below_drewN HBW.out _⟩, by simp [intOf]; omega⟩
    · obtain rfl : j = x.Items.length := by omega
      have HE := hidH (show x.Items = y.Items from List.ext_getElem? fun t => by
        by_cases h : t < x.Items.length
        · exact hEq t h
        · have := HL.out
          rw [List.getElem?_eq_none (by omega), List.getElem?_eq_none (by omega)])
      have HBW := hidH hBw
      clear hEq hBw hlt hj
      go_wp2
      go_ret
      exact ⟨true, rfl, ⟨fun _ => HIF.out.2 ⟨HC.out.1, HC.out.2, HQ1.out.1 trivial, HE.out⟩, fun _ => rfl⟩, btr HBB.out HBW.out⟩
theorem ss_spec (x : SendM) (vs : List Value) (y : SendM) (us : List Value) (u : World) (h : RdA u x.vs vs) (hw : WfA x.vs) (ht : tot.totL x.vs ≤ 1048576) (h2 : RdA u y.vs us) (hw2 : WfA y.vs) (ht2 : tot.totL y.vs ≤ 1048576) :
    Calls Try.prog 55 #[.agg vs.toArray, .agg us.toArray] u (BolR (sameG x y) u) :=
  (ss_specE x y vs us u h h2 hw ht hw2 ht2).mono (fun _ _ h => h.bol)
end Go.Proofs.Ythljdikcpdokdaa
