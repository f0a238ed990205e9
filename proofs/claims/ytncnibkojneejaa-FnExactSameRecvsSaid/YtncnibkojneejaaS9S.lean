/- Chapter 9: SameRecvs, the program's and the model's. (WRITTEN BY tools/same9.py) -/
import Derived.Test.YtncnibkojneejaaS9F
import Derived.Test.YtncnibkojneejaaS8D
namespace Go.Proofs.Ytncnibkojneejaa
open Go.RowKit Go.Deep

theorem recv_eq {x y : RecvM} : x = y ↔ x.Cum = y.Cum ∧ x.Beyond = y.Beyond ∧ x.Pieces = y.Pieces ∧ x.Next = y.Next := by cases x; cases y; simp
theorem tot_recv {y : RecvM} (h : tot.totL y.vs ≤ 1048576) : y.Beyond.length ≤ 1048576 ∧ tot (st_Data y.Pieces) ≤ 1048576 ∧ y.Next.length ≤ 1048576 := by
  have e : tot.totL y.vs = 0 + (y.Beyond.length + (tot (st_Data y.Pieces) + (y.Next.length + 0))) := rfl
  omega
set_option maxRecDepth 100000 in
set_option maxHeartbeats 2000000 in
theorem equalI_any (a b : List Int) (A B : Option Addr) (ca cb : Nat) (w : World) (hA : Is w A a) (hB : Is w B b) (hm : (a.length : Int) ≤ 1000000000000) :
    Calls Try.prog 62 #[.slice A a.length ca, .slice B b.length cb] w (EqG a b w) := by
  have HA := hidH (fun (u : World) (h : Below w.heap.size w u) => is_below hA h)
  have HB := hidH (fun (u : World) (h : Below w.heap.size w u) => is_below hB h)
  clear hA hB
  by_cases hl : a.length = b.length
  case neg =>
    have hl2 : ((a.length : Int) != (b.length : Int)) = true := by rw [bne_iff_ne]; omega
    have HX := hidH (show ¬ a = b from fun h => hl (by rw [h]))
    clear hl
    go_enter Try.func62, Try.ntmps62
    go_wp2
    go_ret
    exact ⟨false, rfl, ⟨(fun h => by cases h), fun h => absurd h HX.out⟩, Below.refl _ _⟩
  have HL := hidH hl
  rw [← hl]
  clear hl
  go_enter Try.func62, Try.ntmps62
  go_wp2
  go_loopw [13] (fun i wr => ∃ j : Nat, j ≤ a.length ∧ i = .int .i64 j ∧ (∀ t, t < j → a.getD t 0 = b.getD t 0) ∧ Below w.heap.size w wr) (fun i _ => a.length - (intOf i).toNat)
  case atStart => exact ⟨0, by omega, rfl, fun t ht => by omega, Below.refl _ _⟩
  case round =>
    obtain ⟨j, hj, rfl, hk, hB⟩ := hrel
    by_cases hlt : j < a.length
    · have hj0 : (0 : Int) ≤ (j : Int) := by omega
      have hj1 : (j : Int) < (a.length : Int) := by omega
      obtain ⟨g1, o1, e1, _, c1⟩ := is_cell (HA.out wr hB) hlt
      obtain ⟨g2, o2, e2, _, c2⟩ := is_cell (HB.out wr hB) (j := j) (by have := HL.out; omega)
      subst e1 e2
      obtain ⟨x, hx⟩ : ∃ x, a.getD j 0 = x := ⟨_, rfl⟩
      obtain ⟨y, hy⟩ : ∃ y, b.getD j 0 = y := ⟨_, rfl⟩
      rw [hx] at c1
      rw [hy] at c2
      have HB2 := hidH hB
      by_cases e : x = y
      · have f : (x != y) = false := by rw [bne_eq_false_iff_eq]; exact e
        have HK := hidH (show ∀ t, t < j + 1 → a.getD t 0 = b.getD t 0 from fun t ht => by
          by_cases e2 : t = j
          · subst e2; rw [hx, hy, e]
          · exact hk t (by omega))
        clear e hk hx hy hB
        go_wp2
        go_quiet (fail)
        go_wp2
        go_roundw
        case rel => exact ⟨j + 1, by omega, by go_num, HK.out, below_drewN HB2.out _⟩
        case measure => simp [intOf]; omega
      · have f : (x != y) = true := by rw [bne_iff_ne]; exact e
        have HX := hidH (show ¬ a = b from fun h => e (by rw [← hx, ← hy, h]))
        clear e hk hx hy hB
        go_wp2
        go_quiet (fail)
        go_wp2
        go_ret
        exact ⟨false, rfl, ⟨(fun h => by cases h), fun h => absurd h HX.out⟩, below_drewN HB2.out _⟩
    · obtain rfl : j = a.length := by omega
      have HX := hidH (show a = b from List.ext_getElem HL.out (fun t h1 h2 => by have := hk t h1; rwa [getD_at h1, getD_at h2] at this))
      have HB2 := hidH hB
      clear hk hlt hj hB
      go_wp2
      go_ret
      exact ⟨true, rfl, ⟨fun _ => HX.out, fun _ => rfl⟩, HB2.out⟩
set_option maxRecDepth 100000 in
set_option maxHeartbeats 2000000 in
theorem l1Same_any (a b : List Int) (A B : Option Addr) (ca cb : Nat) (w : World) (hA : Is w A a) (hB : Is w B b) (hm : (a.length : Int) ≤ 1000000000000) :
    Calls Try.prog 60 #[.slice A a.length ca, .slice B b.length cb] w (EqG a b w) := by
  have HA := hidH (fun (u : World) (h : Below w.heap.size w u) => is_below hA h)
  have HB := hidH (fun (u : World) (h : Below w.heap.size w u) => is_below hB h)
  clear hA hB
  by_cases hl : a.length = b.length
  case neg =>
    have hl2 : ((a.length : Int) != (b.length : Int)) = true := by rw [bne_iff_ne]; omega
    have HX := hidH (show ¬ a = b from fun h => hl (by rw [h]))
    clear hl
    go_enter Try.func60, Try.ntmps60
    go_wp2
    go_ret
    exact ⟨false, rfl, ⟨(fun h => by cases h), fun h => absurd h HX.out⟩, Below.refl _ _⟩
  have HL := hidH hl
  rw [← hl]
  clear hl
  go_enter Try.func60, Try.ntmps60
  go_wp2
  go_loopw [5] (fun i wr => ∃ j : Nat, j ≤ a.length ∧ i = .int .i64 j ∧ (∀ t, t < j → a.getD t 0 = b.getD t 0) ∧ Below w.heap.size w wr) (fun i _ => a.length - (intOf i).toNat)
  case atStart => exact ⟨0, by omega, rfl, fun t ht => by omega, Below.refl _ _⟩
  case round =>
    obtain ⟨j, hj, rfl, hk, hB⟩ := hrel
    by_cases hlt : j < a.length
    · have hj0 : (0 : Int) ≤ (j : Int) := by omega
      have hj1 : (j : Int) < (a.length : Int) := by omega
      obtain ⟨g1, o1, e1, _, c1⟩ := is_cell (HA.out wr hB) hlt
      obtain ⟨g2, o2, e2, _, c2⟩ := is_cell (HB.out wr hB) (j := j) (by have := HL.out; omega)
      subst e1 e2
      obtain ⟨x, hx⟩ : ∃ x, a.getD j 0 = x := ⟨_, rfl⟩
      obtain ⟨y, hy⟩ : ∃ y, b.getD j 0 = y := ⟨_, rfl⟩
      rw [hx] at c1
      rw [hy] at c2
      have HB2 := hidH hB
      by_cases e : x = y
      · have f : (x != y) = false := by rw [bne_eq_false_iff_eq]; exact e
        have HK := hidH (show ∀ t, t < j + 1 → a.getD t 0 = b.getD t 0 from fun t ht => by
          by_cases e2 : t = j
          · subst e2; rw [hx, hy, e]
          · exact hk t (by omega))
        clear e hk hx hy hB
        go_wp2
        go_quiet (fail)
        go_wp2
        go_roundw
        case rel => exact ⟨j + 1, by omega, by go_num, HK.out, below_drewN HB2.out _⟩
        case measure => simp [intOf]; omega
      · have f : (x != y) = true := by rw [bne_iff_ne]; exact e
        have HX := hidH (show ¬ a = b from fun h => e (by rw [← hx, ← hy, h]))
        clear e hk hx hy hB
        go_wp2
        go_quiet (fail)
        go_wp2
        go_ret
        exact ⟨false, rfl, ⟨(fun h => by cases h), fun h => absurd h HX.out⟩, below_drewN HB2.out _⟩
    · obtain rfl : j = a.length := by omega
      have HX := hidH (show a = b from List.ext_getElem HL.out (fun t h1 h2 => by have := hk t h1; rwa [getD_at h1, getD_at h2] at this))
      have HB2 := hidH hB
      clear hk hlt hj hB
      go_wp2
      go_ret
      exact ⟨true, rfl, ⟨fun _ => HX.out, fun _ => rfl⟩, HB2.out⟩
set_option maxRecDepth 100000 in
set_option maxHeartbeats 4000000 in
theorem srv_implE (x y : RecvM) (vs us : List Value) (w : World) (h : RdA w x.vs vs) (k : RdA w y.vs us) (hwx : WfA x.vs) (htx : tot.totL x.vs ≤ 1048576) (hwy : WfA y.vs) (hty : tot.totL y.vs ≤ 1048576) :
    Calls Try.prog 29 #[.agg vs.toArray, .agg us.toArray] w (EqG x y w) := by
  obtain ⟨X1, Xc1, X2, Xc2, X3, Xc3, rfl, i1, i2, i3, m1, m2, m3⟩ := recv_sh h
  obtain ⟨Y1, Yc1, Y2, Yc2, Y3, Yc3, rfl, j1, j2, j3, n1, n2, n3⟩ := recv_sh k
  have tx := tot_recv htx
  have ty := tot_recv hty
  have HE1 := hidH (fun (u : World) (h : Below w.heap.size w u) => equalI_any x.Beyond y.Beyond X1 Y1 Xc1 Yc1 u (is_below i1 h) (is_below j1 h) (by omega))
  have HE2 := hidH (fun (u : World) (h : Below w.heap.size w u) => sds_impl x.Pieces _ y.Pieces _ u (Rd.below h _ i2) hwx.2.2.1 (by omega) (Rd.below h _ j2) hwy.2.2.1 (by omega))
  have HE3 := hidH (fun (u : World) (h : Below w.heap.size w u) => equalI_any x.Next y.Next X3 Y3 Xc3 Yc3 u (is_below i3 h) (is_below j3 h) (by omega))
  have HIF := hidH (@recv_eq x y)
  obtain ⟨w2, hw2⟩ : ∃ W, (w.alloc (.cells #[.int .i64 x.Cum, .slice X1 x.Beyond.length Xc1, .slice X2 x.Pieces.length Xc2, .slice X3 x.Next.length Xc3] 27)).alloc (.cells #[.int .i64 y.Cum, .slice Y1 y.Beyond.length Yc1, .slice Y2 y.Pieces.length Yc2, .slice Y3 y.Next.length Yc3] 27) = W := ⟨_, rfl⟩
  have KX := (Blk.new w 27 #[.int .i64 x.Cum, .slice X1 x.Beyond.length Xc1, .slice X2 x.Pieces.length Xc2, .slice X3 x.Next.length Xc3]).alloc (.cells #[.int .i64 y.Cum, .slice Y1 y.Beyond.length Yc1, .slice Y2 y.Pieces.length Yc2, .slice Y3 y.Next.length Yc3] 27)
  have KY := Blk.new (w.alloc (.cells #[.int .i64 x.Cum, .slice X1 x.Beyond.length Xc1, .slice X2 x.Pieces.length Xc2, .slice X3 x.Next.length Xc3] 27)) 27 #[.int .i64 y.Cum, .slice Y1 y.Beyond.length Yc1, .slice Y2 y.Pieces.length Yc2, .slice Y3 y.Next.length Yc3]
  have B2 := bal (bal (Below.refl w.heap.size w) (.cells #[.int .i64 x.Cum, .slice X1 x.Beyond.length Xc1, .slice X2 x.Pieces.length Xc2, .slice X3 x.Next.length Xc3] 27)) (.cells #[.int .i64 y.Cum, .slice Y1 y.Beyond.length Yc1, .slice Y2 y.Pieces.length Yc2, .slice Y3 y.Next.length Yc3] 27)
  rw [World.size_alloc] at KY
  rw [hw2] at KX KY B2
  have H2 := hidH hw2
  have HX := hidH KX
  have HY := hidH KY
  have HBB := hidH B2
  clear h k i1 i2 i3 j1 j2 j3 hw2 KX KY B2 m1 m2 m3 n1 n2 n3 hwx htx hwy hty tx ty
  by_cases e0 : x.Cum = y.Cum
  case neg =>
    have f0 : (x.Cum == y.Cum) = false := by rw [beq_eq_false_iff_ne]; exact e0
    have HN := hidH (show ¬ x = y from fun h => e0 (HIF.out.1 h).1)
    clear e0 HIF HE1 HE2 HE3
    go_enter Try.func29, Try.ntmps29
    go_wp2
    go_ret
    exact ⟨false, rfl, ⟨(fun h => by cases h), fun h => absurd h HN.out⟩, by rw [H2.out]; exact HBB.out⟩
  have f0 : (x.Cum == y.Cum) = true := by rw [beq_iff_eq]; exact e0
  have HC := hidH e0
  clear e0
  go_enter Try.func29, Try.ntmps29
  go_wp2_with fail
  rw [H2.out]
  refine (HE1.out _ HBB.out).mono ?_
  rintro e w3 ⟨b1, rfl, q1, b3⟩
  have HQ1 := hidH q1
  replace HX := hidH (HX.out.below b3)
  replace HY := hidH (HY.out.below b3)
  replace HBB := hidH (btr HBB.out b3)
  have px0 := HX.out.cell 0
  have px1 := HX.out.cell 1
  have px2 := HX.out.cell 2
  have px3 := HX.out.cell 3
  have py0 := HY.out.cell 0
  have py1 := HY.out.cell 1
  have py2 := HY.out.cell 2
  have py3 := HY.out.cell 3
  simp only [List.getElem?_toArray, List.getElem?_cons_succ, List.getElem?_cons_zero] at px0 px1 px2 px3 py0 py1 py2 py3
  have lx := HX.out.lt
  have ly := HY.out.lt
  clear q1 b3 HE1 H2
  cases b1
  case false =>
    have HN := hidH (show ¬ x = y from fun h => by have := HQ1.out.2 (HIF.out.1 h).2.1; cases this)
    clear HIF HE2 HE3 HQ1
    go_wp2
    go_ret
    exact ⟨false, rfl, ⟨(fun h => by cases h), fun h => absurd h HN.out⟩, HBB.out⟩
  go_wp2_with fail
  clear px0 px1 px2 px3 py0 py1 py2 py3 lx ly
  refine (HE2.out _ HBB.out).mono ?_
  rintro e w4 ⟨rfl, b4⟩
  obtain ⟨b2, hb2⟩ : ∃ b, sameG x.Pieces y.Pieces = b := ⟨_, rfl⟩
  rw [hb2]
  have HQ2 := hidH (show b2 = true ↔ x.Pieces = y.Pieces by rw [← hb2]; simp [sameG])
  replace HX := hidH (HX.out.below b4)
  replace HY := hidH (HY.out.below b4)
  replace HBB := hidH (btr HBB.out b4)
  have px0 := HX.out.cell 0
  have px1 := HX.out.cell 1
  have px2 := HX.out.cell 2
  have px3 := HX.out.cell 3
  have py0 := HY.out.cell 0
  have py1 := HY.out.cell 1
  have py2 := HY.out.cell 2
  have py3 := HY.out.cell 3
  simp only [List.getElem?_toArray, List.getElem?_cons_succ, List.getElem?_cons_zero] at px0 px1 px2 px3 py0 py1 py2 py3
  have lx := HX.out.lt
  have ly := HY.out.lt
  clear b4 HE2 hb2
  cases b2
  case false =>
    have HN := hidH (show ¬ x = y from fun h => by have := HQ2.out.2 (HIF.out.1 h).2.2.1; cases this)
    clear HIF HE3 HQ1 HQ2
    go_wp2
    go_ret
    exact ⟨false, rfl, ⟨(fun h => by cases h), fun h => absurd h HN.out⟩, HBB.out⟩
  go_wp2_with fail
  clear px0 px1 px2 px3 py0 py1 py2 py3 lx ly
  refine (HE3.out _ HBB.out).mono ?_
  rintro e w5 ⟨b3, rfl, q3, b5⟩
  have HQ3 := hidH q3
  replace HBB := hidH (btr HBB.out b5)
  clear b5 q3 HE3
  go_wp2
  go_ret
  exact ⟨b3, by cases b3 <;> rfl, ⟨fun h => HIF.out.2 ⟨HC.out, HQ1.out.1 trivial, HQ2.out.1 trivial, HQ3.out.1 h⟩, fun h => HQ3.out.2 (HIF.out.1 h).2.2.2⟩, HBB.out⟩
theorem srv_impl (x : RecvM) (vs : List Value) (y : RecvM) (us : List Value) (u : World) (h : RdA u x.vs vs) (hw : WfA x.vs) (ht : tot.totL x.vs ≤ 1048576) (h2 : RdA u y.vs us) (hw2 : WfA y.vs) (ht2 : tot.totL y.vs ≤ 1048576) :
    Calls Try.prog 29 #[.agg vs.toArray, .agg us.toArray] u (BolR (sameG x y) u) :=
  (srv_implE x y vs us u h h2 hw ht hw2 ht2).mono (fun _ _ h => h.bol)
set_option maxRecDepth 100000 in
set_option maxHeartbeats 4000000 in
theorem srv_specE (x y : RecvM) (vs us : List Value) (w : World) (h : RdA w x.vs vs) (k : RdA w y.vs us) (hwx : WfA x.vs) (htx : tot.totL x.vs ≤ 1048576) (hwy : WfA y.vs) (hty : tot.totL y.vs ≤ 1048576) :
    Calls Try.prog 28 #[.agg vs.toArray, .agg us.toArray] w (EqG x y w) := by
  obtain ⟨X1, Xc1, X2, Xc2, X3, Xc3, rfl, i1, i2, i3, m1, m2, m3⟩ := recv_sh h
  obtain ⟨Y1, Yc1, Y2, Yc2, Y3, Yc3, rfl, j1, j2, j3, n1, n2, n3⟩ := recv_sh k
  have tx := tot_recv htx
  have ty := tot_recv hty
  have HE1 := hidH (fun (u : World) (h : Below w.heap.size w u) => l1Same_any x.Beyond y.Beyond X1 Y1 Xc1 Yc1 u (is_below i1 h) (is_below j1 h) (by omega))
  have HE2 := hidH (fun (u : World) (h : Below w.heap.size w u) => sds_spec x.Pieces _ y.Pieces _ u (Rd.below h _ i2) hwx.2.2.1 (by omega) (Rd.below h _ j2) hwy.2.2.1 (by omega))
  have HE3 := hidH (fun (u : World) (h : Below w.heap.size w u) => l1Same_any x.Next y.Next X3 Y3 Xc3 Yc3 u (is_below i3 h) (is_below j3 h) (by omega))
  have HIF := hidH (@recv_eq x y)
  obtain ⟨w2, hw2⟩ : ∃ W, (w.alloc (.cells #[.int .i64 x.Cum, .slice X1 x.Beyond.length Xc1, .slice X2 x.Pieces.length Xc2, .slice X3 x.Next.length Xc3] 27)).alloc (.cells #[.int .i64 y.Cum, .slice Y1 y.Beyond.length Yc1, .slice Y2 y.Pieces.length Yc2, .slice Y3 y.Next.length Yc3] 27) = W := ⟨_, rfl⟩
  have KX := (Blk.new w 27 #[.int .i64 x.Cum, .slice X1 x.Beyond.length Xc1, .slice X2 x.Pieces.length Xc2, .slice X3 x.Next.length Xc3]).alloc (.cells #[.int .i64 y.Cum, .slice Y1 y.Beyond.length Yc1, .slice Y2 y.Pieces.length Yc2, .slice Y3 y.Next.length Yc3] 27)
  have KY := Blk.new (w.alloc (.cells #[.int .i64 x.Cum, .slice X1 x.Beyond.length Xc1, .slice X2 x.Pieces.length Xc2, .slice X3 x.Next.length Xc3] 27)) 27 #[.int .i64 y.Cum, .slice Y1 y.Beyond.length Yc1, .slice Y2 y.Pieces.length Yc2, .slice Y3 y.Next.length Yc3]
  have B2 := bal (bal (Below.refl w.heap.size w) (.cells #[.int .i64 x.Cum, .slice X1 x.Beyond.length Xc1, .slice X2 x.Pieces.length Xc2, .slice X3 x.Next.length Xc3] 27)) (.cells #[.int .i64 y.Cum, .slice Y1 y.Beyond.length Yc1, .slice Y2 y.Pieces.length Yc2, .slice Y3 y.Next.length Yc3] 27)
  rw [World.size_alloc] at KY
  rw [hw2] at KX KY B2
  have H2 := hidH hw2
  have HX := hidH KX
  have HY := hidH KY
  have HBB := hidH B2
  clear h k i1 i2 i3 j1 j2 j3 hw2 KX KY B2 m1 m2 m3 n1 n2 n3 hwx htx hwy hty tx ty
  by_cases e0 : x.Cum = y.Cum
  case neg =>
    have f0 : (x.Cum == y.Cum) = false := by rw [beq_eq_false_iff_ne]; exact e0
    have HN := hidH (show ¬ x = y from fun h => e0 (HIF.out.1 h).1)
    clear e0 HIF HE1 HE2 HE3
    go_enter Try.func28, Try.ntmps28
    go_wp2
    go_ret
    exact ⟨false, rfl, ⟨(fun h => by cases h), fun h => absurd h HN.out⟩, by rw [H2.out]; exact HBB.out⟩
  have f0 : (x.Cum == y.Cum) = true := by rw [beq_iff_eq]; exact e0
  have HC := hidH e0
  clear e0
  go_enter Try.func28, Try.ntmps28
  go_wp2_with fail
  rw [H2.out]
  refine (HE1.out _ HBB.out).mono ?_
  rintro e w3 ⟨b1, rfl, q1, b3⟩
  have HQ1 := hidH q1
  replace HX := hidH (HX.out.below b3)
  replace HY := hidH (HY.out.below b3)
  replace HBB := hidH (btr HBB.out b3)
  have px0 := HX.out.cell 0
  have px1 := HX.out.cell 1
  have px2 := HX.out.cell 2
  have px3 := HX.out.cell 3
  have py0 := HY.out.cell 0
  have py1 := HY.out.cell 1
  have py2 := HY.out.cell 2
  have py3 := HY.out.cell 3
  simp only [List.getElem?_toArray, List.getElem?_cons_succ, List.getElem?_cons_zero] at px0 px1 px2 px3 py0 py1 py2 py3
  have lx := HX.out.lt
  have ly := HY.out.lt
  clear q1 b3 HE1 H2
  cases b1
  case false =>
    have HN := hidH (show ¬ x = y from fun h => by have := HQ1.out.2 (HIF.out.1 h).2.1; cases this)
    clear HIF HE2 HE3 HQ1
    go_wp2
    go_ret
    exact ⟨false, rfl, ⟨(fun h => by cases h), fun h => absurd h HN.out⟩, HBB.out⟩
  go_wp2_with fail
  clear px0 px1 px2 px3 py0 py1 py2 py3 lx ly
  refine (HE2.out _ HBB.out).mono ?_
  rintro e w4 ⟨rfl, b4⟩
  obtain ⟨b2, hb2⟩ : ∃ b, sameG x.Pieces y.Pieces = b := ⟨_, rfl⟩
  rw [hb2]
  have HQ2 := hidH (show b2 = true ↔ x.Pieces = y.Pieces by rw [← hb2]; simp [sameG])
  replace HX := hidH (HX.out.below b4)
  replace HY := hidH (HY.out.below b4)
  replace HBB := hidH (btr HBB.out b4)
  have px0 := HX.out.cell 0
  have px1 := HX.out.cell 1
  have px2 := HX.out.cell 2
  have px3 := HX.out.cell 3
  have py0 := HY.out.cell 0
  have py1 := HY.out.cell 1
  have py2 := HY.out.cell 2
  have py3 := HY.out.cell 3
  simp only [List.getElem?_toArray, List.getElem?_cons_succ, List.getElem?_cons_zero] at px0 px1 px2 px3 py0 py1 py2 py3
  have lx := HX.out.lt
  have ly := HY.out.lt
  clear b4 HE2 hb2
  cases b2
  case false =>
    have HN := hidH (show ¬ x = y from fun h => by have := HQ2.out.2 (HIF.out.1 h).2.2.1; cases this)
    clear HIF HE3 HQ1 HQ2
    go_wp2
    go_ret
    exact ⟨false, rfl, ⟨(fun h => by cases h), fun h => absurd h HN.out⟩, HBB.out⟩
  go_wp2_with fail
  clear px0 px1 px2 px3 py0 py1 py2 py3 lx ly
  refine (HE3.out _ HBB.out).mono ?_
  rintro e w5 ⟨b3, rfl, q3, b5⟩
  have HQ3 := hidH q3
  replace HBB := hidH (btr HBB.out b5)
  clear b5 q3 HE3
  go_wp2
  go_ret
  exact ⟨b3, by cases b3 <;> rfl, ⟨fun h => HIF.out.2 ⟨HC.out, HQ1.out.1 trivial, HQ2.out.1 trivial, HQ3.out.1 h⟩, fun h => HQ3.out.2 (HIF.out.1 h).2.2.2⟩, HBB.out⟩
theorem srv_spec (x : RecvM) (vs : List Value) (y : RecvM) (us : List Value) (u : World) (h : RdA u x.vs vs) (hw : WfA x.vs) (ht : tot.totL x.vs ≤ 1048576) (h2 : RdA u y.vs us) (hw2 : WfA y.vs) (ht2 : tot.totL y.vs ≤ 1048576) :
    Calls Try.prog 28 #[.agg vs.toArray, .agg us.toArray] u (BolR (sameG x y) u) :=
  (srv_specE x y vs us u h h2 hw ht hw2 ht2).mono (fun _ _ h => h.bol)
end Go.Proofs.Ytncnibkojneejaa
