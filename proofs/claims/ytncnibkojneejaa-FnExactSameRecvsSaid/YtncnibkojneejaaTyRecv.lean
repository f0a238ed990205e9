/- A receiver and its result (WRITTEN BY tools/kinds.py) -/
import Derived.Test.YtncnibkojneejaaTyMsg
namespace Go.Proofs.Ytncnibkojneejaa
open Go.RowKit Go.Deep Go.ChangeShapes Go.WideShapes Go.ChangeAt

structure RecvM where
  Cum : Int
  Beyond : List Int
  Pieces : List DataM
  Next : List Int
def RecvM.vs (x : RecvM) : List V := [.int x.Cum, .is x.Beyond, st_Data x.Pieces, .is x.Next]
theorem shape_Recv {w : World} {n0 : Int} {l1 : List Int} {r2 : List DataM} {l3 : List Int} {vs : List Value} (h : RdA w [.int n0, .is l1, st_Data r2, .is l3] vs) : ∃ (A1 : Option Addr) (c1 : Nat) (A2 : Option Addr) (c2 : Nat) (A3 : Option Addr) (c3 : Nat), vs = [.int .i64 n0, .slice A1 l1.length c1, .slice A2 r2.length c2, .slice A3 l3.length c3] := by
  obtain ⟨q0, e0, t0⟩ := h.int_out
  subst e0
  obtain ⟨v1, q1, e1, h1, t1⟩ := t0.any_out
  obtain ⟨A1, c1, a1⟩ := h1.is_sh
  subst e1 a1
  obtain ⟨v2, q2, e2, h2, t2⟩ := t1.any_out
  obtain ⟨A2, c2, a2⟩ := st_Data_sh h2
  subst e2 a2
  obtain ⟨v3, q3, e3, h3, t3⟩ := t2.any_out
  obtain ⟨A3, c3, a3⟩ := h3.is_sh
  subst e3 a3
  have z := t3.nil_out
  subst z
  exact ⟨A1, c1, A2, c2, A3, c3, rfl⟩
set_option maxRecDepth 100000 in
set_option maxHeartbeats 1000000 in
theorem eq_Recv (n0 : Int) (l1 : List Int) (r2 : List DataM) (l3 : List Int) (v1 u1 v2 u2 v3 u3 : Value) (w : World) (hv1 : Rd w (.is l1) v1) (hv2 : Rd w (st_Data r2) v2) (hv3 : Rd w (.is l3) v3) (hu1 : Rd w (.is l1) u1) (hu2 : Rd w (st_Data r2) u2) (hu3 : Rd w (.is l3) u3) :
    Calls Try.prog 18 #[.agg #[.int .i64 n0, v1, v2, v3], .agg #[.int .i64 n0, u1, u2, u3]] w (EqR w) := by
  obtain ⟨A1, c1, rfl⟩ := hv1.is_sh
  obtain ⟨A2, c2, rfl⟩ := st_Data_sh hv2
  obtain ⟨A3, c3, rfl⟩ := hv3.is_sh
  obtain ⟨B1, d1, rfl⟩ := hu1.is_sh
  obtain ⟨B2, d2, rfl⟩ := st_Data_sh hu2
  obtain ⟨B3, d3, rfl⟩ := hu3.is_sh
  have K1 := (Blk.new w 27 #[.int .i64 n0, .slice A1 l1.length c1, .slice A2 r2.length c2, .slice A3 l3.length c3]).alloc (.cells #[.int .i64 n0, .slice B1 l1.length d1, .slice B2 r2.length d2, .slice B3 l3.length d3] 27)
  have K2 := Blk.new (w.alloc (.cells #[.int .i64 n0, .slice A1 l1.length c1, .slice A2 r2.length c2, .slice A3 l3.length c3] 27)) 27 #[.int .i64 n0, .slice B1 l1.length d1, .slice B2 r2.length d2, .slice B3 l3.length d3]
  have B0 := bal (bal (Below.refl w.heap.size w) (.cells #[.int .i64 n0, .slice A1 l1.length c1, .slice A2 r2.length c2, .slice A3 l3.length c3] 27)) (.cells #[.int .i64 n0, .slice B1 l1.length d1, .slice B2 r2.length d2, .slice B3 l3.length d3] 27)
  rw [World.size_alloc] at K2
  obtain ⟨W, hW⟩ : ∃ W, (w.alloc (.cells #[.int .i64 n0, .slice A1 l1.length c1, .slice A2 r2.length c2, .slice A3 l3.length c3] 27)).alloc (.cells #[.int .i64 n0, .slice B1 l1.length d1, .slice B2 r2.length d2, .slice B3 l3.length d3] 27) = W := ⟨_, rfl⟩
  rw [hW] at K1 K2 B0
  have HW := hidH hW
  have HB := hidH B0
  have HA := hidH K1
  have HC := hidH K2
  have HV1 := hidH (fun (u : World) (h : Below w.heap.size w u) => Rd.below h _ hv1)
  have HU1 := hidH (fun (u : World) (h : Below w.heap.size w u) => Rd.below h _ hu1)
  have HV2 := hidH (fun (u : World) (h : Below w.heap.size w u) => Rd.below h _ hv2)
  have HU2 := hidH (fun (u : World) (h : Below w.heap.size w u) => Rd.below h _ hu2)
  have HV3 := hidH (fun (u : World) (h : Below w.heap.size w u) => Rd.below h _ hv3)
  have HU3 := hidH (fun (u : World) (h : Below w.heap.size w u) => Rd.below h _ hu3)
  clear hW K1 K2 B0 hv1 hu1 hv2 hu2 hv3 hu3
  go_enter Try.func18, Try.ntmps18
  go_wp2_with fail
  rw [HW.out]
  refine (eqI_rd l1 _ _ _ (HV1.out _ HB.out) (HU1.out _ HB.out)).mono ?_
  rintro e w1 ⟨rfl, hb⟩
  replace HA := hidH (HA.out.below hb)
  replace HC := hidH (HC.out.below hb)
  replace HB := hidH (btr HB.out hb)
  clear hb
  have p2 := HA.out.cell 2
  have q2 := HC.out.cell 2
  simp only [List.getElem?_toArray, List.getElem?_cons_succ, List.getElem?_cons_zero] at p2 q2
  have gp := HA.out.lt
  have gq := HC.out.lt
  go_wp2_with fail
  clear p2 q2 gp gq
  refine (eqS_Data r2 _ _ _ (HV2.out _ HB.out) (HU2.out _ HB.out)).mono ?_
  rintro e w2 ⟨rfl, hb⟩
  replace HA := hidH (HA.out.below hb)
  replace HC := hidH (HC.out.below hb)
  replace HB := hidH (btr HB.out hb)
  clear hb
  have p3 := HA.out.cell 3
  have q3 := HC.out.cell 3
  simp only [List.getElem?_toArray, List.getElem?_cons_succ, List.getElem?_cons_zero] at p3 q3
  have gp := HA.out.lt
  have gq := HC.out.lt
  go_wp2_with fail
  clear p3 q3 gp gq
  refine (eqI_rd l3 _ _ _ (HV3.out _ HB.out) (HU3.out _ HB.out)).mono ?_
  rintro e w3 ⟨rfl, hb⟩
  replace HA := hidH (HA.out.below hb)
  replace HC := hidH (HC.out.below hb)
  replace HB := hidH (btr HB.out hb)
  clear hb
  go_wp2
  go_ret
  exact ⟨rfl, HB.out⟩
set_option maxRecDepth 100000 in
set_option maxHeartbeats 1000000 in
theorem mark_Recv (n0 : Int) (l1 : List Int) (r2 : List DataM) (l3 : List Int) (v1 v2 v3 : Value) (S : Fp) (k : Nat) (w : World) (hS : Sub S (Wn 0 w.heap.size)) (h : OwA w [.int n0, .is l1, st_Data r2, .is l3] S [.int .i64 n0, v1, v2, v3]) (hk : k + vcA [.int n0, .is l1, st_Data r2, .is l3] ≤ 1000000000000) :
    Calls Try.prog 25 #[.agg #[.int .i64 n0, v1, v2, v3], .int .i64 k] w (MkA [.int n0, .is l1, st_Data r2, .is l3] S [.int .i64 n0, v1, v2, v3] k w) := by
  have hr := h.rd
  have hv1 := hr.tl.hd
  have hv2 := hr.tl.tl.hd
  have hv3 := hr.tl.tl.tl.hd
  obtain ⟨A1, c1, rfl⟩ := hv1.is_sh
  obtain ⟨A2, c2, rfl⟩ := st_Data_sh hv2
  obtain ⟨A3, c3, rfl⟩ := hv3.is_sh
  clear hr hv1 hv2 hv3
  have K1 := Blk.new w 27 #[.int .i64 n0, .slice A1 l1.length c1, .slice A2 r2.length c2, .slice A3 l3.length c3]
  have B0 := bal (Below.refl w.heap.size w) (.cells #[.int .i64 n0, .slice A1 l1.length c1, .slice A2 r2.length c2, .slice A3 l3.length c3] 27)
  obtain ⟨W, hW⟩ : ∃ W, w.alloc (.cells #[.int .i64 n0, .slice A1 l1.length c1, .slice A2 r2.length c2, .slice A3 l3.length c3] 27) = W := ⟨_, rfl⟩
  rw [hW] at K1 B0
  have HW := hidH hW
  have HB := hidH B0
  have HA := hidH K1
  replace h := OwA.kept (Kept.of_below B0) h
  have hcnt : vcA [.int n0, .is l1, st_Data r2, .is l3] = cc (.is l1) + cc (st_Data r2) + cc (.is l3) := by simp only [vcA, vc, st_Data] <;> omega
  unfold MkA
  rw [hcnt] at hk ⊢
  obtain ⟨T0, s0, h, G0⟩ := OwA.step_int h
  have s0 := Sub.trans s0 hS
  have G0 := hidH G0
  obtain ⟨T1, s1, hO, G1⟩ := OwA.step (y := mkc (k) (.is l1)) h
  have s1 := Sub.trans s1 s0
  have HO := hidH hO
  have G1 := hidH G1
  clear hO h
  clear hW B0 K1
  go_enter Try.func25, Try.ntmps25
  go_wp2_with fail
  rw [HW.out]
  refine (markI_ow l1 T1 _ (k) _ HO.out (by omega)).mono ?_
  rintro e w1 ⟨rfl, hc, ho⟩
  replace HA := hidH (HA.out.chg hc s1)
  have HC0 := hidH hc
  obtain ⟨T2, s2, h, G2⟩ := G1.out _ hc ho
  have s2 := Sub.trans s2 s0
  have G2 := hidH G2
  clear HO hc ho
  obtain ⟨T3, s3, hO, G3⟩ := OwA.step (y := mkc (k + cc (.is l1)) (st_Data r2)) h
  have s3 := Sub.trans s3 s2
  have HO := hidH hO
  have G3 := hidH G3
  clear hO h
  have p2 := HA.out.cell 2
  simp only [List.getElem?_toArray, List.getElem?_cons_succ, List.getElem?_cons_zero] at p2
  have gp := HA.out.lt
  go_wp2_with fail
  clear p2 gp
  refine (markS_Data r2 T3 _ (k + cc (.is l1)) _ HO.out (by omega)).mono ?_
  rintro e w2 ⟨rfl, hc, ho⟩
  replace HA := hidH (HA.out.chg hc s3)
  have HC1 := hidH hc
  obtain ⟨T4, s4, h, G4⟩ := G3.out _ hc ho
  have s4 := Sub.trans s4 s2
  have G4 := hidH G4
  clear HO hc ho
  obtain ⟨T5, s5, hO, G5⟩ := OwA.step (y := mkc (k + cc (.is l1) + cc (st_Data r2)) (.is l3)) h
  have s5 := Sub.trans s5 s4
  have HO := hidH hO
  have G5 := hidH G5
  clear hO h
  have p3 := HA.out.cell 3
  simp only [List.getElem?_toArray, List.getElem?_cons_succ, List.getElem?_cons_zero] at p3
  have gp := HA.out.lt
  go_wp2_with fail
  clear p3 gp
  refine (markI_ow l3 T5 _ (k + cc (.is l1) + cc (st_Data r2)) _ HO.out (by omega)).mono ?_
  rintro e w3 ⟨rfl, hc, ho⟩
  replace HA := hidH (HA.out.chg hc s5)
  have HC2 := hidH hc
  obtain ⟨T6, s6, h, G6⟩ := G5.out _ hc ho
  have s6 := Sub.trans s6 s4
  have G6 := hidH G6
  clear HO hc ho
  obtain ⟨hc, h⟩ := OwA.nil_step h
  obtain ⟨hc, h⟩ := G6.out _ _ hc h
  obtain ⟨hc, h⟩ := G4.out _ _ hc h
  obtain ⟨hc, h⟩ := G2.out _ _ hc h
  obtain ⟨hc, h⟩ := G0.out _ _ hc h
  have HCC := hidH ((Chg.of_below HB.out).trans hc)
  have HO := hidH h
  clear hc h
  go_wp2
  go_ret
  refine ⟨ret_int (by omega), HCC.out, HO.out⟩
set_option maxRecDepth 100000 in
set_option maxHeartbeats 1000000 in
theorem held_Recv (n0 : Int) (l1 : List Int) (r2 : List DataM) (l3 : List Int) (v1 v2 v3 : Value) (k : Nat) (w : World) (hv1 : Rd w (mkc (k) (.is l1)) v1) (hv2 : Rd w (mkc (k + cc (.is l1)) (st_Data r2)) v2) (hv3 : Rd w (mkc (k + cc (.is l1) + cc (st_Data r2)) (.is l3)) v3) (hk : k + vcA [.int n0, .is l1, st_Data r2, .is l3] ≤ 1000000000000) :
    Calls Try.prog 53 #[.agg #[.int .i64 n0, v1, v2, v3], .int .i64 k] w (HeA [.int n0, .is l1, st_Data r2, .is l3] k w) := by
  obtain ⟨A1, n1, c1, rfl⟩ := mkc_is_sh hv1
  obtain ⟨A2, n2, c2, rfl⟩ := mkc_st_sh (x := st_Data r2) rfl hv2
  obtain ⟨A3, n3, c3, rfl⟩ := mkc_is_sh hv3
  have K1 := Blk.new w 27 #[.int .i64 n0, .slice A1 n1 c1, .slice A2 n2 c2, .slice A3 n3 c3]
  have B0 := bal (Below.refl w.heap.size w) (.cells #[.int .i64 n0, .slice A1 n1 c1, .slice A2 n2 c2, .slice A3 n3 c3] 27)
  obtain ⟨W, hW⟩ : ∃ W, w.alloc (.cells #[.int .i64 n0, .slice A1 n1 c1, .slice A2 n2 c2, .slice A3 n3 c3] 27) = W := ⟨_, rfl⟩
  rw [hW] at K1 B0
  have HW := hidH hW
  have HB := hidH B0
  have HA := hidH K1
  have hcnt : vcA [.int n0, .is l1, st_Data r2, .is l3] = cc (.is l1) + cc (st_Data r2) + cc (.is l3) := by simp only [vcA, vc, st_Data] <;> omega
  unfold HeA
  rw [hcnt] at hk ⊢
  have HV1 := hidH (fun (u : World) (h : Below w.heap.size w u) => Rd.below h _ hv1)
  have HV2 := hidH (fun (u : World) (h : Below w.heap.size w u) => Rd.below h _ hv2)
  have HV3 := hidH (fun (u : World) (h : Below w.heap.size w u) => Rd.below h _ hv3)
  clear hW K1 B0 hv1 hv2 hv3
  go_enter Try.func53, Try.ntmps53
  go_wp2_with fail
  rw [HW.out]
  refine (heldI_rd l1 _ (k) _ (HV1.out _ HB.out) (by omega)).mono ?_
  rintro e w1 ⟨rfl, hb⟩
  replace HA := hidH (HA.out.below hb)
  replace HB := hidH (btr HB.out hb)
  have hpos : ¬ (((k + cc (.is l1) : Nat) : Int) < 0) := by omega
  clear hb
  have p2 := HA.out.cell 2
  simp only [List.getElem?_toArray, List.getElem?_cons_succ, List.getElem?_cons_zero] at p2
  have gp := HA.out.lt
  go_wp2_with fail
  clear p2 gp
  refine (heldS_Data r2 _ (k + cc (.is l1)) _ (HV2.out _ HB.out) (by omega)).mono ?_
  rintro e w2 ⟨rfl, hb⟩
  replace HA := hidH (HA.out.below hb)
  replace HB := hidH (btr HB.out hb)
  have hpos : ¬ (((k + cc (.is l1) + cc (st_Data r2) : Nat) : Int) < 0) := by omega
  clear hb
  have p3 := HA.out.cell 3
  simp only [List.getElem?_toArray, List.getElem?_cons_succ, List.getElem?_cons_zero] at p3
  have gp := HA.out.lt
  go_wp2_with fail
  clear p3 gp
  refine (heldI_rd l3 _ (k + cc (.is l1) + cc (st_Data r2)) _ (HV3.out _ HB.out) (by omega)).mono ?_
  rintro e w3 ⟨rfl, hb⟩
  replace HA := hidH (HA.out.below hb)
  replace HB := hidH (btr HB.out hb)
  have hpos : ¬ (((k + cc (.is l1) + cc (st_Data r2) + cc (.is l3) : Nat) : Int) < 0) := by omega
  clear hb
  go_wp2
  go_ret
  refine ⟨ret_int (by omega), HB.out⟩
set_option maxRecDepth 100000 in
set_option maxHeartbeats 1000000 in
theorem sz_Recv (n0 : Int) (l1 : List Int) (r2 : List DataM) (l3 : List Int) (v1 v2 v3 : Value) (left : Int) (w : World) (hv1 : Rd w (.is l1) v1) (hv2 : Rd w (st_Data r2) v2) (hv3 : Rd w (.is l3) v3) (h0 : 0 ≤ left) (h1 : left ≤ 1048576) :
    Calls Try.prog 14 #[.agg #[.int .i64 n0, v1, v2, v3], .int .i64 left] w (SzR left (tot.totL [.int n0, .is l1, st_Data r2, .is l3]) w) := by
  obtain ⟨A1, c1, rfl⟩ := hv1.is_sh
  obtain ⟨A2, c2, rfl⟩ := st_Data_sh hv2
  obtain ⟨A3, c3, rfl⟩ := hv3.is_sh
  have K1 := Blk.new w 47 #[.int .i64 n0, .slice A1 l1.length c1, .slice A2 r2.length c2, .slice A3 l3.length c3]
  have B0 := bal (Below.refl w.heap.size w) (.cells #[.int .i64 n0, .slice A1 l1.length c1, .slice A2 r2.length c2, .slice A3 l3.length c3] 47)
  obtain ⟨W, hW⟩ : ∃ W, w.alloc (.cells #[.int .i64 n0, .slice A1 l1.length c1, .slice A2 r2.length c2, .slice A3 l3.length c3] 47) = W := ⟨_, rfl⟩
  rw [hW] at K1 B0
  have HW := hidH hW
  have HB := hidH B0
  have HA := hidH K1
  have hcnt : tot.totL [.int n0, .is l1, st_Data r2, .is l3] = tot (.is l1) + tot (st_Data r2) + tot (.is l3) := by simp only [tot.totL, tot, st_Data] <;> omega
  rw [hcnt]
  have HV1 := hidH (fun (u : World) (h : Below w.heap.size w u) => Rd.below h _ hv1)
  have HV2 := hidH (fun (u : World) (h : Below w.heap.size w u) => Rd.below h _ hv2)
  have HV3 := hidH (fun (u : World) (h : Below w.heap.size w u) => Rd.below h _ hv3)
  clear hW K1 B0 hcnt hv1 hv2 hv3
  go_enter Try.func14, Try.ntmps14
  go_wp2_with fail
  rw [HW.out]
  refine (szI_rd l1 _ left _ (HV1.out _ HB.out) (by omega) (by omega)).mono ?_
  rintro e w1 ⟨z0, rfl, hz0, hb⟩
  replace HA := hidH (HA.out.below hb)
  replace HB := hidH (btr HB.out hb)
  clear hb
  have HZ0 := hidH hz0
  have hzl0 := hz0.2.1
  clear hz0
  by_cases hn0 : z0 < 0
  · obtain rfl : z0 = -1 := by rcases HZ0.out.1 with h | h <;> omega
    clear hn0
    go_wp2
    go_ret
    exact ⟨-1, rfl, ⟨.inl rfl, by omega, fun h => by omega⟩, HB.out⟩
  · have hp0 : 0 ≤ z0 := by omega
    have p2 := HA.out.cell 2
    simp only [List.getElem?_toArray, List.getElem?_cons_succ, List.getElem?_cons_zero] at p2
    have gp := HA.out.lt
    go_wp2_with fail
    clear p2 gp
    refine (szS_Data r2 _ z0 _ (HV2.out _ HB.out) (by omega) (by omega)).mono ?_
    rintro e w2 ⟨z1, rfl, hz1, hb⟩
    replace HA := hidH (HA.out.below hb)
    replace HB := hidH (btr HB.out hb)
    clear hb
    have HZ1 := hidH hz1
    have hzl1 := hz1.2.1
    clear hz1
    by_cases hn1 : z1 < 0
    · obtain rfl : z1 = -1 := by rcases HZ1.out.1 with h | h <;> omega
      clear hn1
      go_wp2
      go_ret
      exact ⟨-1, rfl, ⟨.inl rfl, by omega, fun h => by omega⟩, HB.out⟩
    · have hp1 : 0 ≤ z1 := by omega
      have p3 := HA.out.cell 3
      simp only [List.getElem?_toArray, List.getElem?_cons_succ, List.getElem?_cons_zero] at p3
      have gp := HA.out.lt
      go_wp2_with fail
      clear p3 gp
      refine (szI_rd l3 _ z1 _ (HV3.out _ HB.out) (by omega) (by omega)).mono ?_
      rintro e w3 ⟨z2, rfl, hz2, hb⟩
      replace HA := hidH (HA.out.below hb)
      replace HB := hidH (btr HB.out hb)
      clear hb
      have HZ2 := hidH hz2
      have hzl2 := hz2.2.1
      clear hz2
      by_cases hn2 : z2 < 0
      · obtain rfl : z2 = -1 := by rcases HZ2.out.1 with h | h <;> omega
        clear hn2
        go_wp2
        go_ret
        exact ⟨-1, rfl, ⟨.inl rfl, by omega, fun h => by omega⟩, HB.out⟩
      · have hp2 : 0 ≤ z2 := by omega
        clear hzl0 hzl1 hzl2
        go_wp2
        go_ret
        exact ⟨z2, rfl, ⟨.inr hp2, by have := HZ0.out.2.1; have := HZ1.out.2.1; have := HZ2.out.2.1; omega, fun _ => by have := HZ0.out.2.2 hp0; have := HZ1.out.2.2 hp1; have := HZ2.out.2.2 hp2; omega⟩, HB.out⟩
set_option maxRecDepth 100000 in
set_option maxHeartbeats 1000000 in
theorem to_Recv (n0 : Int) (l1 : List Int) (r2 : List DataM) (l3 : List Int) (v1 v2 v3 : Value) (w : World) (hv1 : Rd w (.is l1) v1) (hv2 : Rd w (st_Data r2) v2) (hv3 : Rd w (.is l3) v3) (hm : tot.totL [.int n0, .is l1, st_Data r2, .is l3] ≤ 1048576) :
    Calls Try.prog 16 #[.agg #[.int .i64 n0, v1, v2, v3]] w (Res w [.int n0, .is l1, st_Data r2, .is l3]) := by
  obtain ⟨A1, c1, rfl⟩ := hv1.is_sh
  obtain ⟨A2, c2, rfl⟩ := st_Data_sh hv2
  obtain ⟨A3, c3, rfl⟩ := hv3.is_sh
  have KA := ((Blk.new w 47 #[.int .i64 n0, .slice A1 l1.length c1, .slice A2 r2.length c2, .slice A3 l3.length c3]).alloc (.cells #[.int .i64 0, .slice none 0 0, .slice none 0 0, .slice none 0 0] 27)).alloc (.cells #[.int .i64 n0, .slice none 0 0, .slice none 0 0, .slice none 0 0] 27)
  have KR := (Blk.new (w.alloc (.cells #[.int .i64 n0, .slice A1 l1.length c1, .slice A2 r2.length c2, .slice A3 l3.length c3] 47)) 27 #[.int .i64 0, .slice none 0 0, .slice none 0 0, .slice none 0 0]).alloc (.cells #[.int .i64 n0, .slice none 0 0, .slice none 0 0, .slice none 0 0] 27)
  have KV := Blk.new ((w.alloc (.cells #[.int .i64 n0, .slice A1 l1.length c1, .slice A2 r2.length c2, .slice A3 l3.length c3] 47)).alloc (.cells #[.int .i64 0, .slice none 0 0, .slice none 0 0, .slice none 0 0] 27)) 27 #[.int .i64 n0, .slice none 0 0, .slice none 0 0, .slice none 0 0]
  have B0 := bal (bal (bal (Below.refl w.heap.size w) (.cells #[.int .i64 n0, .slice A1 l1.length c1, .slice A2 r2.length c2, .slice A3 l3.length c3] 47)) (.cells #[.int .i64 0, .slice none 0 0, .slice none 0 0, .slice none 0 0] 27)) (.cells #[.int .i64 n0, .slice none 0 0, .slice none 0 0, .slice none 0 0] 27)
  have hsz : (((w.alloc (.cells #[.int .i64 n0, .slice A1 l1.length c1, .slice A2 r2.length c2, .slice A3 l3.length c3] 47)).alloc (.cells #[.int .i64 0, .slice none 0 0, .slice none 0 0, .slice none 0 0] 27)).alloc (.cells #[.int .i64 n0, .slice none 0 0, .slice none 0 0, .slice none 0 0] 27)).heap.size = w.heap.size + 1 + 1 + 1 := by simp only [World.size_alloc]
  simp only [World.size_alloc] at KR KV
  obtain ⟨w0, hW⟩ : ∃ W, ((w.alloc (.cells #[.int .i64 n0, .slice A1 l1.length c1, .slice A2 r2.length c2, .slice A3 l3.length c3] 47)).alloc (.cells #[.int .i64 0, .slice none 0 0, .slice none 0 0, .slice none 0 0] 27)).alloc (.cells #[.int .i64 n0, .slice none 0 0, .slice none 0 0, .slice none 0 0] 27) = W := ⟨_, rfl⟩
  rw [hW] at KA KR KV B0 hsz
  have HW := hidH hW
  have HB := hidH B0
  have HA := hidH KA
  have HR := hidH KR
  have HV := hidH KV
  have HZ := hidH hsz
  have hcnt : tot.totL [.int n0, .is l1, st_Data r2, .is l3] = tot (.is l1) + tot (st_Data r2) + tot (.is l3) := by simp only [tot.totL, tot, st_Data] <;> omega
  rw [hcnt] at hm
  have HM := hidH hm
  have HV1 := hidH (fun (u : World) (h : Below w.heap.size w u) => Rd.below h _ hv1)
  have HV2 := hidH (fun (u : World) (h : Below w.heap.size w u) => Rd.below h _ hv2)
  have HV3 := hidH (fun (u : World) (h : Below w.heap.size w u) => Rd.below h _ hv3)
  have es : ∀ (u : World) (p : Addr) (v : Value), (u.setCell p v).heap.size = u.heap.size := fun u p v => by simp [World.setCell]
  have HES := hidH es
  clear hW hm hcnt KA KR KV B0 hsz es hv1 hv2 hv3
  go_enter Try.func16, Try.ntmps16
  go_wp2_with fail
  rw [HW.out]
  have HB1 := hidH (HB.out)
  refine (toI_rd l1 _ _ (HV1.out _ HB1.out) (by have := HM.out; omega)).mono ?_
  rintro e w1 ⟨u1, rfl, O0, hb⟩
  obtain ⟨E1, e1, rfl⟩ := O0.rd.is_sh
  have HA1 := hidH ((HA.out).below hb)
  have HR1 := hidH ((HR.out).below hb)
  have HV1 : Hid (Blk w1 (w.heap.size + 1 + 1) 27 #[.int .i64 n0, .slice none 0 0, .slice none 0 0, .slice none 0 0]) := hidH (Blk.below (HV.out) hb)
  have HZ1 : Hid (w0.heap.size ≤ w1.heap.size) := hidH (by have := hb.size; simpa only [HES.out] using this)
  have O0 := hidH (show OwV w0.heap.size w1.heap.size w1 _ _ by simpa only [HES.out] using O0)
  have HG0 := hidH (show w0.heap.size ≤ w0.heap.size by exact Nat.le_refl _)
  have HZ00 := HZ1
  replace HB := hidH (btr HB1.out hb)
  clear HA HR HV HB1 hb HZ1
  have HA := HA1
  have HR := HR1
  have HV := HV1
  clear HA1 HR1 HV1
  have p2 := HA.out.cell 2
  simp only [List.getElem?_toArray, List.getElem?_cons_succ, List.getElem?_cons_zero] at p2
  have gp := HA.out.lt
  have y1 := HV.out.cell 1
  have f1 := HV.out.frozen 1
  simp only [List.getElem?_toArray, List.getElem?_cons_succ, List.getElem?_cons_zero] at y1
  have gv := HV.out.lt
  go_wp2_with fail
  clear p2 gp y1 f1 gv
  have HB1 := hidH (bst (HB.out) (p := ⟨w.heap.size + 1 + 1, 1, none⟩) (Nat.le_trans (Nat.le_succ _) (Nat.le_succ _)) (.slice E1 l1.length e1))
  refine (toS_Data r2 _ _ (HV2.out _ HB1.out) (by have := HM.out; omega)).mono ?_
  rintro e w2 ⟨u2, rfl, O1, hb⟩
  obtain ⟨E2, e2, rfl⟩ := st_Data_sh O1.rd
  have HA1 := hidH ((Blk.far (HA.out) (p := ⟨w.heap.size + 1 + 1, 1, none⟩) (by show w.heap.size + 1 + 1 ≠ _; omega) (.slice E1 l1.length e1)).below hb)
  have HR1 := hidH ((Blk.far (HR.out) (p := ⟨w.heap.size + 1 + 1, 1, none⟩) (by show w.heap.size + 1 + 1 ≠ _; omega) (.slice E1 l1.length e1)).below hb)
  have HV1 : Hid (Blk w2 (w.heap.size + 1 + 1) 27 #[.int .i64 n0, .slice E1 l1.length e1, .slice none 0 0, .slice none 0 0]) := hidH (Blk.below (Blk.put (HV.out) 1 (.slice E1 l1.length e1)) hb)
  have HZ1 : Hid (w1.heap.size ≤ w2.heap.size) := hidH (by have := hb.size; simpa only [HES.out] using this)
  replace O0 := hidH (((O0.out).win (set_win _ (w.heap.size + 1 + 1) 1 (.slice E1 l1.length e1)) (.inr (by have := HZ.out; have := HG0.out; omega))).below hb)
  have O1 := hidH (show OwV w1.heap.size w2.heap.size w2 _ _ by simpa only [HES.out] using O1)
  have HG1 := hidH (Nat.le_trans HG0.out HZ00.out)
  have HZ01 := HZ1
  replace HB := hidH (btr HB1.out hb)
  clear HA HR HV HB1 hb HZ1
  have HA := HA1
  have HR := HR1
  have HV := HV1
  clear HA1 HR1 HV1
  have p3 := HA.out.cell 3
  simp only [List.getElem?_toArray, List.getElem?_cons_succ, List.getElem?_cons_zero] at p3
  have gp := HA.out.lt
  have y2 := HV.out.cell 2
  have f2 := HV.out.frozen 2
  simp only [List.getElem?_toArray, List.getElem?_cons_succ, List.getElem?_cons_zero] at y2
  have gv := HV.out.lt
  go_wp2_with fail
  clear p3 gp y2 f2 gv
  have HB1 := hidH (bst (HB.out) (p := ⟨w.heap.size + 1 + 1, 2, none⟩) (Nat.le_trans (Nat.le_succ _) (Nat.le_succ _)) (.slice E2 r2.length e2))
  refine (toI_rd l3 _ _ (HV3.out _ HB1.out) (by have := HM.out; omega)).mono ?_
  rintro e w3 ⟨u3, rfl, O2, hb⟩
  obtain ⟨E3, e3, rfl⟩ := O2.rd.is_sh
  have HA1 := hidH ((Blk.far (HA.out) (p := ⟨w.heap.size + 1 + 1, 2, none⟩) (by show w.heap.size + 1 + 1 ≠ _; omega) (.slice E2 r2.length e2)).below hb)
  have HR1 := hidH ((Blk.far (HR.out) (p := ⟨w.heap.size + 1 + 1, 2, none⟩) (by show w.heap.size + 1 + 1 ≠ _; omega) (.slice E2 r2.length e2)).below hb)
  have HV1 : Hid (Blk w3 (w.heap.size + 1 + 1) 27 #[.int .i64 n0, .slice E1 l1.length e1, .slice E2 r2.length e2, .slice none 0 0]) := hidH (Blk.below (Blk.put (HV.out) 2 (.slice E2 r2.length e2)) hb)
  have HZ1 : Hid (w2.heap.size ≤ w3.heap.size) := hidH (by have := hb.size; simpa only [HES.out] using this)
  replace O0 := hidH (((O0.out).win (set_win _ (w.heap.size + 1 + 1) 2 (.slice E2 r2.length e2)) (.inr (by have := HZ.out; have := HG0.out; omega))).below hb)
  replace O1 := hidH (((O1.out).win (set_win _ (w.heap.size + 1 + 1) 2 (.slice E2 r2.length e2)) (.inr (by have := HZ.out; have := HG1.out; omega))).below hb)
  have O2 := hidH (show OwV w2.heap.size w3.heap.size w3 _ _ by simpa only [HES.out] using O2)
  have HG2 := hidH (Nat.le_trans HG1.out HZ01.out)
  have HZ02 := HZ1
  replace HB := hidH (btr HB1.out hb)
  clear HA HR HV HB1 hb HZ1
  have HA := HA1
  have HR := HR1
  have HV := HV1
  clear HA1 HR1 HV1
  have x0 := HR.out.cell 0
  have h0 := HR.out.frozen 0
  have y0 := HV.out.cell 0
  have f0 := HV.out.frozen 0
  have x1 := HR.out.cell 1
  have h1 := HR.out.frozen 1
  have y1 := HV.out.cell 1
  have f1 := HV.out.frozen 1
  have x2 := HR.out.cell 2
  have h2 := HR.out.frozen 2
  have y2 := HV.out.cell 2
  have f2 := HV.out.frozen 2
  have x3 := HR.out.cell 3
  have h3 := HR.out.frozen 3
  have y3 := HV.out.cell 3
  have f3 := HV.out.frozen 3
  simp only [List.getElem?_toArray, List.getElem?_cons_succ, List.getElem?_cons_zero] at x0 y0 x1 y1 x2 y2 x3 y3
  have gv := HV.out.lt
  have gr := HR.out.lt
  go_wp2
  have BF := bst (bst (bst (bst (bst (HB.out) (p := ⟨w.heap.size + 1 + 1, 3, none⟩) (by show w.heap.size ≤ w.heap.size + 1 + 1; omega) (.slice E3 l3.length e3)) (p := ⟨w.heap.size + 1, 0, none⟩) (by show w.heap.size ≤ w.heap.size + 1; omega) (.int .i64 n0)) (p := ⟨w.heap.size + 1, 1, none⟩) (by show w.heap.size ≤ w.heap.size + 1; omega) (.slice E1 l1.length e1)) (p := ⟨w.heap.size + 1, 2, none⟩) (by show w.heap.size ≤ w.heap.size + 1; omega) (.slice E2 r2.length e2)) (p := ⟨w.heap.size + 1, 3, none⟩) (by show w.heap.size ≤ w.heap.size + 1; omega) (.slice E3 l3.length e3)
  have P0 := (((((O0.out).win (set_win _ (w.heap.size + 1 + 1) 3 (.slice E3 l3.length e3)) (.inr (by have := HZ.out; have := HG0.out; omega))).win (set_win _ (w.heap.size + 1) 0 (.int .i64 n0)) (.inr (by have := HZ.out; have := HG0.out; omega))).win (set_win _ (w.heap.size + 1) 1 (.slice E1 l1.length e1)) (.inr (by have := HZ.out; have := HG0.out; omega))).win (set_win _ (w.heap.size + 1) 2 (.slice E2 r2.length e2)) (.inr (by have := HZ.out; have := HG0.out; omega))).win (set_win _ (w.heap.size + 1) 3 (.slice E3 l3.length e3)) (.inr (by have := HZ.out; have := HG0.out; omega))
  have P1 := (((((O1.out).win (set_win _ (w.heap.size + 1 + 1) 3 (.slice E3 l3.length e3)) (.inr (by have := HZ.out; have := HG1.out; omega))).win (set_win _ (w.heap.size + 1) 0 (.int .i64 n0)) (.inr (by have := HZ.out; have := HG1.out; omega))).win (set_win _ (w.heap.size + 1) 1 (.slice E1 l1.length e1)) (.inr (by have := HZ.out; have := HG1.out; omega))).win (set_win _ (w.heap.size + 1) 2 (.slice E2 r2.length e2)) (.inr (by have := HZ.out; have := HG1.out; omega))).win (set_win _ (w.heap.size + 1) 3 (.slice E3 l3.length e3)) (.inr (by have := HZ.out; have := HG1.out; omega))
  have P2 := (((((O2.out).win (set_win _ (w.heap.size + 1 + 1) 3 (.slice E3 l3.length e3)) (.inr (by have := HZ.out; have := HG2.out; omega))).win (set_win _ (w.heap.size + 1) 0 (.int .i64 n0)) (.inr (by have := HZ.out; have := HG2.out; omega))).win (set_win _ (w.heap.size + 1) 1 (.slice E1 l1.length e1)) (.inr (by have := HZ.out; have := HG2.out; omega))).win (set_win _ (w.heap.size + 1) 2 (.slice E2 r2.length e2)) (.inr (by have := HZ.out; have := HG2.out; omega))).win (set_win _ (w.heap.size + 1) 3 (.slice E3 l3.length e3)) (.inr (by have := HZ.out; have := HG2.out; omega))
  have es := HES.out
  have PF := OwN.int n0 (OwN.cons P0 (OwN.cons P1 (OwN.cons P2 (OwN.nil (B := w3.heap.size) (C := w3.heap.size) (by simp only [es]; exact Nat.le_refl _)) HZ02.out (Nat.le_refl _)) HZ01.out (HZ02.out)) HZ00.out (Nat.le_trans (HZ01.out) HZ02.out))
  exact bodyPost_ret (v := .agg #[.int .i64 n0, .slice E1 l1.length e1, .slice E2 r2.length e2, .slice E3 l3.length e3]) (by simp [results, Try.results16, go_sem, x0, x1, x2, x3]) rfl ⟨[.int .i64 n0, .slice E1 l1.length e1, .slice E2 r2.length e2, .slice E3 l3.length e3], rfl, PF.mono (by have := HB.out.size; have := HZ.out; omega) (by simp only [es]; exact Nat.le_refl _) (Nat.le_refl _), BF⟩
theorem eqA_Recv (y : RecvM) {vs us : List Value} {w : World} (h : RdA w y.vs vs) (k : RdA w y.vs us) : Calls Try.prog 18 #[.agg vs.toArray, .agg us.toArray] w (EqR w) := by
  obtain ⟨A1, c1, A2, c2, A3, c3, rfl⟩ := shape_Recv (h)
  obtain ⟨B1, d1, B2, d2, B3, d3, rfl⟩ := shape_Recv (k)
  exact eq_Recv y.Cum y.Beyond y.Pieces y.Next _ _ _ _ _ _ w h.tl.hd h.tl.tl.hd h.tl.tl.tl.hd k.tl.hd k.tl.tl.hd k.tl.tl.tl.hd
theorem markA_Recv (y : RecvM) {vs : List Value} {S : Fp} {k : Nat} {w : World} (hS : Sub S (Wn 0 w.heap.size)) (h : OwA w y.vs S vs) (hk : k + vcA y.vs ≤ 1000000000000) : Calls Try.prog 25 #[.agg vs.toArray, .int .i64 k] w (MkA y.vs S vs k w) := by
  obtain ⟨A1, c1, A2, c2, A3, c3, rfl⟩ := shape_Recv (h.rd)
  exact mark_Recv y.Cum y.Beyond y.Pieces y.Next _ _ _ S k w hS h hk
theorem heldA_Recv (y : RecvM) {vs : List Value} {k : Nat} {w : World} (h : RdA w (mkA k y.vs) vs) (hk : k + vcA y.vs ≤ 1000000000000) : Calls Try.prog 53 #[.agg vs.toArray, .int .i64 k] w (HeA y.vs k w) := by
  obtain ⟨q0, e0, t0⟩ := RdA.int_out (n := y.Cum) h
  subst e0
  obtain ⟨v1, q1, e1, h1, t1⟩ := RdA.any_out (x := mkc (k) (.is y.Beyond)) t0
  subst e1
  obtain ⟨v2, q2, e2, h2, t2⟩ := RdA.any_out (x := mkc (k + cc (.is y.Beyond)) (st_Data y.Pieces)) t1
  subst e2
  obtain ⟨v3, q3, e3, h3, t3⟩ := RdA.any_out (x := mkc (k + cc (.is y.Beyond) + cc (st_Data y.Pieces)) (.is y.Next)) t2
  subst e3
  have z := t3.nil_out
  subst z
  exact held_Recv y.Cum y.Beyond y.Pieces y.Next _ _ _ k w h1 h2 h3 hk
theorem szA_Recv (y : RecvM) {vs : List Value} {left : Int} {w : World} (h : RdA w y.vs vs) (h0 : 0 ≤ left) (h1 : left ≤ 1048576) : Calls Try.prog 14 #[.agg vs.toArray, .int .i64 left] w (SzR left (tot.totL y.vs) w) := by
  obtain ⟨A1, c1, A2, c2, A3, c3, rfl⟩ := shape_Recv (h)
  exact sz_Recv y.Cum y.Beyond y.Pieces y.Next _ _ _ left w h.tl.hd h.tl.tl.hd h.tl.tl.tl.hd h0 h1
theorem toA_Recv (y : RecvM) {vs : List Value} {w : World} (h : RdA w y.vs vs) (hm : tot.totL y.vs ≤ 1048576) : Calls Try.prog 16 #[.agg vs.toArray] w (Res w y.vs) := by
  obtain ⟨A1, c1, A2, c2, A3, c3, rfl⟩ := shape_Recv (h)
  exact to_Recv y.Cum y.Beyond y.Pieces y.Next _ _ _ w h.tl.hd h.tl.tl.hd h.tl.tl.tl.hd hm
theorem cnt_Recv (y : RecvM) (h : tot.totL y.vs ≤ 1048576) : vcA y.vs ≤ 1000000000 := by
  have cData := ccS_Data
  simp only [RecvM.vs, vcA, vc, tot.totL, tot, cc, st_Data] at *
  have d2 := cData y.Pieces
  omega
theorem mem_Recv {w : World} {g o : Nat} {y : RecvM} (h : RdL w y.vs g o) : ∃ (A1 : Option Addr) (c1 : Nat) (A2 : Option Addr) (c2 : Nat) (A3 : Option Addr) (c3 : Nat), w.cell? ⟨g, o, none⟩ = some (.int .i64 y.Cum) ∧ w.cell? ⟨g, o + 1, none⟩ = some (.slice A1 y.Beyond.length c1) ∧ w.cell? ⟨g, o + 2, none⟩ = some (.slice A2 y.Pieces.length c2) ∧ w.cell? ⟨g, o + 3, none⟩ = some (.slice A3 y.Next.length c3) ∧ Rd w (.is y.Beyond) (.slice A1 y.Beyond.length c1) ∧ Rd w (st_Data y.Pieces) (.slice A2 y.Pieces.length c2) ∧ Rd w (.is y.Next) (.slice A3 y.Next.length c3) := by
  obtain ⟨u0, p0, t0⟩ := h.get? 0 (.int y.Cum) rfl
  have e0 := t0.int_out
  subst e0
  obtain ⟨u1, p1, t1⟩ := h.get? 1 (.is y.Beyond) rfl
  obtain ⟨A1, c1, e1⟩ := t1.is_sh
  subst e1
  obtain ⟨u2, p2, t2⟩ := h.get? 2 (st_Data y.Pieces) rfl
  obtain ⟨A2, c2, e2⟩ := st_Data_sh t2
  subst e2
  obtain ⟨u3, p3, t3⟩ := h.get? 3 (.is y.Next) rfl
  obtain ⟨A3, c3, e3⟩ := t3.is_sh
  subst e3
  rw [Nat.add_zero] at p0
  exact ⟨A1, c1, A2, c2, A3, c3, p0, p1, p2, p3, t1, t2, t3⟩
section
variable {H : Type} {enc : TypeId × Value → H} {w : World} {base : Nat} {spare : Nat → Bool} {held : Bool}
theorem cells_Recv : Try.prog.cellsOf 47 = 4 := by kernel_rfl
theorem cells_Recv_0 : Try.prog.cellsOf 2 = 1 := by kernel_rfl
theorem cells_Recv_1 : Try.prog.cellsOf 24 = 1 := by kernel_rfl
theorem cells_Recv_2 : Try.prog.cellsOf 45 = 1 := by kernel_rfl
theorem cells_Recv_3 : Try.prog.cellsOf 24 = 1 := by kernel_rfl
set_option maxHeartbeats 1000000 in
theorem open_Recv {n : Nat} {cs : List Value} {x : DataW H × List MemPlace} (h : DataW.trod enc Try.prog w base spare held n 47 cs = some x) : ∃ y : RecvM, RdA w y.vs cs ∧ WfA y.vs := by
  obtain ⟨xs, m, _, _, hl, hlen, hf⟩ := DataW.trod_struct Try.underlying47 h
  rw [cells_Recv] at hl
  have hlen2 : xs.length = 4 := hlen
  obtain ⟨v0, v1, v2, v3, rfl⟩ := list_4 hl
  obtain ⟨y0, y1, y2, y3, rfl⟩ := list_4 hlen2
  have t0 : DataW.trod enc Try.prog w base spare held m 2 (([v0, v1, v2, v3].drop 0).take (Try.prog.cellsOf 2)) = _ := hf 0 _ rfl
  rw [cells_Recv_0] at t0
  replace t0 : DataW.trod enc Try.prog w base spare held m 2 [v0] = some y0 := t0
  have t1 : DataW.trod enc Try.prog w base spare held m 24 (([v0, v1, v2, v3].drop 1).take (Try.prog.cellsOf 24)) = _ := hf 1 _ rfl
  rw [cells_Recv_1] at t1
  replace t1 : DataW.trod enc Try.prog w base spare held m 24 [v1] = some y1 := t1
  have t2 : DataW.trod enc Try.prog w base spare held m 45 (([v0, v1, v2, v3].drop 2).take (Try.prog.cellsOf 45)) = _ := hf 2 _ rfl
  rw [cells_Recv_2] at t2
  replace t2 : DataW.trod enc Try.prog w base spare held m 45 [v2] = some y2 := t2
  have t3 : DataW.trod enc Try.prog w base spare held m 24 (([v0, v1, v2, v3].drop 3).take (Try.prog.cellsOf 24)) = _ := hf 3 _ rfl
  rw [cells_Recv_3] at t3
  replace t3 : DataW.trod enc Try.prog w base spare held m 24 [v3] = some y3 := t3
  obtain ⟨n0, e0, _, w0⟩ := DataW.trod_int Try.underlying2 t0
  simp only [List.cons.injEq, and_true] at e0
  subst e0
  obtain ⟨n1, r1, w1⟩ := open_is t1
  obtain ⟨n2, r2, w2⟩ := openS_Data t2
  obtain ⟨n3, r3, w3⟩ := open_is t3
  exact ⟨⟨n0, n1, n2, n3⟩, RdA.int_mk (RdA.any_mk r1 (RdA.any_mk r2 (RdA.any_mk r3 (RdA.nil_mk)))), ⟨wf_int w0, ⟨w1, ⟨w2, ⟨w3, trivial⟩⟩⟩⟩⟩
theorem opened_Recv {cs0 : Array Value} {d : DataW H} {pl : List MemPlace} (h : DataW.Trod enc Try.prog w base spare held 47 (.agg cs0) d pl) : ∃ (y : RecvM) (A1 : Option Addr) (c1 : Nat) (A2 : Option Addr) (c2 : Nat) (A3 : Option Addr) (c3 : Nat), cs0 = #[.int .i64 y.Cum, .slice A1 y.Beyond.length c1, .slice A2 y.Pieces.length c2, .slice A3 y.Next.length c3] ∧ RdA w y.vs [.int .i64 y.Cum, .slice A1 y.Beyond.length c1, .slice A2 y.Pieces.length c2, .slice A3 y.Next.length c3] ∧ WfA y.vs := by
  obtain ⟨fuel, hf⟩ := h
  obtain ⟨y, h1, h2⟩ := open_Recv hf
  have h3 := h1
  obtain ⟨A1, c1, A2, c2, A3, c3, e⟩ := shape_Recv h3
  rw [e] at h1
  refine ⟨y, A1, c1, A2, c2, A3, c3, ?_, h1, h2⟩
  simp only [Value.cells] at e
  exact Array.ext' (by simpa using e)
end
structure RecvResultM where
  Code : Int
  Recv_Cum : Int
  Recv_Beyond : List Int
  Recv_Pieces : List DataM
  Recv_Next : List Int
  Twice : Bool
  Messages : List MessageM
def RecvResultM.vs (x : RecvResultM) : List V := [.int x.Code, .int x.Recv_Cum, .is x.Recv_Beyond, st_Data x.Recv_Pieces, .is x.Recv_Next, .bool x.Twice, st_Message x.Messages]
theorem shape_RecvResult {w : World} {n0 : Int} {n1 : Int} {l2 : List Int} {r3 : List DataM} {l4 : List Int} {b5 : Bool} {r6 : List MessageM} {vs : List Value} (h : RdA w [.int n0, .int n1, .is l2, st_Data r3, .is l4, .bool b5, st_Message r6] vs) : ∃ (A2 : Option Addr) (c2 : Nat) (A3 : Option Addr) (c3 : Nat) (A4 : Option Addr) (c4 : Nat) (A6 : Option Addr) (c6 : Nat), vs = [.int .i64 n0, .int .i64 n1, .slice A2 l2.length c2, .slice A3 r3.length c3, .slice A4 l4.length c4, .bool b5, .slice A6 r6.length c6] := by
  obtain ⟨q0, e0, t0⟩ := h.int_out
  subst e0
  obtain ⟨q1, e1, t1⟩ := t0.int_out
  subst e1
  obtain ⟨v2, q2, e2, h2, t2⟩ := t1.any_out
  obtain ⟨A2, c2, a2⟩ := h2.is_sh
  subst e2 a2
  obtain ⟨v3, q3, e3, h3, t3⟩ := t2.any_out
  obtain ⟨A3, c3, a3⟩ := st_Data_sh h3
  subst e3 a3
  obtain ⟨v4, q4, e4, h4, t4⟩ := t3.any_out
  obtain ⟨A4, c4, a4⟩ := h4.is_sh
  subst e4 a4
  obtain ⟨q5, e5, t5⟩ := t4.bool_out
  subst e5
  obtain ⟨v6, q6, e6, h6, t6⟩ := t5.any_out
  obtain ⟨A6, c6, a6⟩ := st_Message_sh h6
  subst e6 a6
  have z := t6.nil_out
  subst z
  exact ⟨A2, c2, A3, c3, A4, c4, A6, c6, rfl⟩
set_option maxRecDepth 100000 in
set_option maxHeartbeats 1000000 in
theorem eq_RecvResult (n0 : Int) (n1 : Int) (l2 : List Int) (r3 : List DataM) (l4 : List Int) (b5 : Bool) (r6 : List MessageM) (v2 u2 v3 u3 v4 u4 v6 u6 : Value) (w : World) (hv2 : Rd w (.is l2) v2) (hv3 : Rd w (st_Data r3) v3) (hv4 : Rd w (.is l4) v4) (hv6 : Rd w (st_Message r6) v6) (hu2 : Rd w (.is l2) u2) (hu3 : Rd w (st_Data r3) u3) (hu4 : Rd w (.is l4) u4) (hu6 : Rd w (st_Message r6) u6) :
    Calls Try.prog 21 #[.agg #[.int .i64 n0, .int .i64 n1, v2, v3, v4, .bool b5, v6], .agg #[.int .i64 n0, .int .i64 n1, u2, u3, u4, .bool b5, u6]] w (EqR w) := by
  obtain ⟨A2, c2, rfl⟩ := hv2.is_sh
  obtain ⟨A3, c3, rfl⟩ := st_Data_sh hv3
  obtain ⟨A4, c4, rfl⟩ := hv4.is_sh
  obtain ⟨A6, c6, rfl⟩ := st_Message_sh hv6
  obtain ⟨B2, d2, rfl⟩ := hu2.is_sh
  obtain ⟨B3, d3, rfl⟩ := st_Data_sh hu3
  obtain ⟨B4, d4, rfl⟩ := hu4.is_sh
  obtain ⟨B6, d6, rfl⟩ := st_Message_sh hu6
  have K1 := (Blk.new w 55 #[.int .i64 n0, .int .i64 n1, .slice A2 l2.length c2, .slice A3 r3.length c3, .slice A4 l4.length c4, .bool b5, .slice A6 r6.length c6]).alloc (.cells #[.int .i64 n0, .int .i64 n1, .slice B2 l2.length d2, .slice B3 r3.length d3, .slice B4 l4.length d4, .bool b5, .slice B6 r6.length d6] 55)
  have K2 := Blk.new (w.alloc (.cells #[.int .i64 n0, .int .i64 n1, .slice A2 l2.length c2, .slice A3 r3.length c3, .slice A4 l4.length c4, .bool b5, .slice A6 r6.length c6] 55)) 55 #[.int .i64 n0, .int .i64 n1, .slice B2 l2.length d2, .slice B3 r3.length d3, .slice B4 l4.length d4, .bool b5, .slice B6 r6.length d6]
  have B0 := bal (bal (Below.refl w.heap.size w) (.cells #[.int .i64 n0, .int .i64 n1, .slice A2 l2.length c2, .slice A3 r3.length c3, .slice A4 l4.length c4, .bool b5, .slice A6 r6.length c6] 55)) (.cells #[.int .i64 n0, .int .i64 n1, .slice B2 l2.length d2, .slice B3 r3.length d3, .slice B4 l4.length d4, .bool b5, .slice B6 r6.length d6] 55)
  rw [World.size_alloc] at K2
  obtain ⟨W, hW⟩ : ∃ W, (w.alloc (.cells #[.int .i64 n0, .int .i64 n1, .slice A2 l2.length c2, .slice A3 r3.length c3, .slice A4 l4.length c4, .bool b5, .slice A6 r6.length c6] 55)).alloc (.cells #[.int .i64 n0, .int .i64 n1, .slice B2 l2.length d2, .slice B3 r3.length d3, .slice B4 l4.length d4, .bool b5, .slice B6 r6.length d6] 55) = W := ⟨_, rfl⟩
  rw [hW] at K1 K2 B0
  have HW := hidH hW
  have HB := hidH B0
  have HA := hidH K1
  have HC := hidH K2
  have HV2 := hidH (fun (u : World) (h : Below w.heap.size w u) => Rd.below h _ hv2)
  have HU2 := hidH (fun (u : World) (h : Below w.heap.size w u) => Rd.below h _ hu2)
  have HV3 := hidH (fun (u : World) (h : Below w.heap.size w u) => Rd.below h _ hv3)
  have HU3 := hidH (fun (u : World) (h : Below w.heap.size w u) => Rd.below h _ hu3)
  have HV4 := hidH (fun (u : World) (h : Below w.heap.size w u) => Rd.below h _ hv4)
  have HU4 := hidH (fun (u : World) (h : Below w.heap.size w u) => Rd.below h _ hu4)
  have HV6 := hidH (fun (u : World) (h : Below w.heap.size w u) => Rd.below h _ hv6)
  have HU6 := hidH (fun (u : World) (h : Below w.heap.size w u) => Rd.below h _ hu6)
  clear hW K1 K2 B0 hv2 hu2 hv3 hu3 hv4 hu4 hv6 hu6
  go_enter Try.func21, Try.ntmps21
  go_wp2_with fail
  rw [HW.out]
  refine (eq_Recv n1 l2 r3 l4 _ _ _ _ _ _ _ (HV2.out _ HB.out) (HV3.out _ HB.out) (HV4.out _ HB.out) (HU2.out _ HB.out) (HU3.out _ HB.out) (HU4.out _ HB.out)).mono ?_
  rintro e w1 ⟨rfl, hb⟩
  replace HA := hidH (HA.out.below hb)
  replace HC := hidH (HC.out.below hb)
  replace HB := hidH (btr HB.out hb)
  clear hb
  have p5 := HA.out.cell 5
  have p6 := HA.out.cell 6
  have q5 := HC.out.cell 5
  have q6 := HC.out.cell 6
  simp only [List.getElem?_toArray, List.getElem?_cons_succ, List.getElem?_cons_zero] at p5 p6 q5 q6
  have gp := HA.out.lt
  have gq := HC.out.lt
  go_wp2_with fail
  clear p5 p6 q5 q6 gp gq
  refine (eqS_Message r6 _ _ _ (HV6.out _ HB.out) (HU6.out _ HB.out)).mono ?_
  rintro e w2 ⟨rfl, hb⟩
  replace HA := hidH (HA.out.below hb)
  replace HC := hidH (HC.out.below hb)
  replace HB := hidH (btr HB.out hb)
  clear hb
  go_wp2
  go_ret
  exact ⟨rfl, HB.out⟩
set_option maxRecDepth 100000 in
set_option maxHeartbeats 1000000 in
theorem mark_RecvResult (n0 : Int) (n1 : Int) (l2 : List Int) (r3 : List DataM) (l4 : List Int) (b5 : Bool) (r6 : List MessageM) (v2 v3 v4 v6 : Value) (S : Fp) (k : Nat) (w : World) (hS : Sub S (Wn 0 w.heap.size)) (h : OwA w [.int n0, .int n1, .is l2, st_Data r3, .is l4, .bool b5, st_Message r6] S [.int .i64 n0, .int .i64 n1, v2, v3, v4, .bool b5, v6]) (hk : k + vcA [.int n0, .int n1, .is l2, st_Data r3, .is l4, .bool b5, st_Message r6] ≤ 1000000000000) :
    Calls Try.prog 22 #[.agg #[.int .i64 n0, .int .i64 n1, v2, v3, v4, .bool b5, v6], .int .i64 k] w (MkA [.int n0, .int n1, .is l2, st_Data r3, .is l4, .bool b5, st_Message r6] S [.int .i64 n0, .int .i64 n1, v2, v3, v4, .bool b5, v6] k w) := by
  have hr := h.rd
  have hv2 := hr.tl.tl.hd
  have hv3 := hr.tl.tl.tl.hd
  have hv4 := hr.tl.tl.tl.tl.hd
  have hv6 := hr.tl.tl.tl.tl.tl.tl.hd
  obtain ⟨A2, c2, rfl⟩ := hv2.is_sh
  obtain ⟨A3, c3, rfl⟩ := st_Data_sh hv3
  obtain ⟨A4, c4, rfl⟩ := hv4.is_sh
  obtain ⟨A6, c6, rfl⟩ := st_Message_sh hv6
  clear hr hv2 hv3 hv4 hv6
  have K1 := Blk.new w 55 #[.int .i64 n0, .int .i64 n1, .slice A2 l2.length c2, .slice A3 r3.length c3, .slice A4 l4.length c4, .bool b5, .slice A6 r6.length c6]
  have B0 := bal (Below.refl w.heap.size w) (.cells #[.int .i64 n0, .int .i64 n1, .slice A2 l2.length c2, .slice A3 r3.length c3, .slice A4 l4.length c4, .bool b5, .slice A6 r6.length c6] 55)
  obtain ⟨W, hW⟩ : ∃ W, w.alloc (.cells #[.int .i64 n0, .int .i64 n1, .slice A2 l2.length c2, .slice A3 r3.length c3, .slice A4 l4.length c4, .bool b5, .slice A6 r6.length c6] 55) = W := ⟨_, rfl⟩
  rw [hW] at K1 B0
  have HW := hidH hW
  have HB := hidH B0
  have HA := hidH K1
  replace h := OwA.kept (Kept.of_below B0) h
  have hcnt : vcA [.int n0, .int n1, .is l2, st_Data r3, .is l4, .bool b5, st_Message r6] = cc (.is l2) + cc (st_Data r3) + cc (.is l4) + cc (st_Message r6) := by simp only [vcA, vc, st_Data, st_Message] <;> omega
  unfold MkA
  rw [hcnt] at hk ⊢
  obtain ⟨T0, s0, h, G0⟩ := OwA.step_int h
  have s0 := Sub.trans s0 hS
  have G0 := hidH G0
  obtain ⟨T1, s1, hO, G1⟩ := OwA.step_app (xs := [.int n1, .is l2, st_Data r3, .is l4]) (vs := [.int .i64 n1, .slice A2 l2.length c2, .slice A3 r3.length c3, .slice A4 l4.length c4]) (ys := [.bool b5, st_Message r6]) (us := [.bool b5, .slice A6 r6.length c6]) (xs' := mkA (k) [.int n1, .is l2, st_Data r3, .is l4]) rfl h
  have s1 := Sub.trans s1 s0
  have HO := hidH hO
  have G1 := hidH G1
  clear hO h
  clear hW B0 K1
  go_enter Try.func22, Try.ntmps22
  go_wp2_with fail
  rw [HW.out]
  refine (mark_Recv n1 l2 r3 l4 _ _ _ T1 (k) _ (Sub.trans s1 (Wn.sub (Nat.le_refl _) (Nat.le_of_lt HA.out.lt))) HO.out (by have : vcA [.int n1, .is l2, st_Data r3, .is l4] = cc (.is l2) + cc (st_Data r3) + cc (.is l4) := (by simp only [vcA, vc, st_Data] <;> omega); omega)).mono ?_
  rintro e w1 ⟨rfl, hc, ho⟩
  replace HA := hidH (HA.out.chg hc s1)
  have HC0 := hidH hc
  obtain ⟨T2, s2, h, G2⟩ := G1.out _ hc ho
  have s2 := Sub.trans s2 s0
  have G2 := hidH G2
  clear HO hc ho
  have hvk : k + vcA [.int n1, .is l2, st_Data r3, .is l4] = k + cc (.is l2) + cc (st_Data r3) + cc (.is l4) := by
    have : vcA [.int n1, .is l2, st_Data r3, .is l4] = cc (.is l2) + cc (st_Data r3) + cc (.is l4) := (by simp only [vcA, vc, st_Data] <;> omega)
    omega
  rw [hvk]
  clear hvk
  obtain ⟨T3, s3, h, G3⟩ := OwA.step_bool h
  have s3 := Sub.trans s3 s2
  have G3 := hidH G3
  obtain ⟨T4, s4, hO, G4⟩ := OwA.step (y := mkc (k + cc (.is l2) + cc (st_Data r3) + cc (.is l4)) (st_Message r6)) h
  have s4 := Sub.trans s4 s3
  have HO := hidH hO
  have G4 := hidH G4
  clear hO h
  have p5 := HA.out.cell 5
  have p6 := HA.out.cell 6
  simp only [List.getElem?_toArray, List.getElem?_cons_succ, List.getElem?_cons_zero] at p5 p6
  have gp := HA.out.lt
  go_wp2_with fail
  clear p5 p6 gp
  refine (markS_Message r6 T4 _ (k + cc (.is l2) + cc (st_Data r3) + cc (.is l4)) _ HO.out (by omega)).mono ?_
  rintro e w2 ⟨rfl, hc, ho⟩
  replace HA := hidH (HA.out.chg hc s4)
  have HC1 := hidH hc
  obtain ⟨T5, s5, h, G5⟩ := G4.out _ hc ho
  have s5 := Sub.trans s5 s3
  have G5 := hidH G5
  clear HO hc ho
  obtain ⟨hc, h⟩ := OwA.nil_step h
  obtain ⟨hc, h⟩ := G5.out _ _ hc h
  obtain ⟨hc, h⟩ := G3.out _ _ hc h
  obtain ⟨hc, h⟩ := G2.out _ _ hc h
  obtain ⟨hc, h⟩ := G0.out _ _ hc h
  have HCC := hidH ((Chg.of_below HB.out).trans hc)
  have HO := hidH h
  clear hc h
  go_wp2
  go_ret
  refine ⟨ret_int (by omega), HCC.out, HO.out⟩
set_option maxRecDepth 100000 in
set_option maxHeartbeats 1000000 in
theorem held_RecvResult (n0 : Int) (n1 : Int) (l2 : List Int) (r3 : List DataM) (l4 : List Int) (b5 : Bool) (r6 : List MessageM) (v2 v3 v4 v6 : Value) (k : Nat) (w : World) (hv2 : Rd w (mkc (k) (.is l2)) v2) (hv3 : Rd w (mkc (k + cc (.is l2)) (st_Data r3)) v3) (hv4 : Rd w (mkc (k + cc (.is l2) + cc (st_Data r3)) (.is l4)) v4) (hv6 : Rd w (mkc (k + cc (.is l2) + cc (st_Data r3) + cc (.is l4)) (st_Message r6)) v6) (hk : k + vcA [.int n0, .int n1, .is l2, st_Data r3, .is l4, .bool b5, st_Message r6] ≤ 1000000000000) :
    Calls Try.prog 23 #[.agg #[.int .i64 n0, .int .i64 n1, v2, v3, v4, .bool b5, v6], .int .i64 k] w (HeA [.int n0, .int n1, .is l2, st_Data r3, .is l4, .bool b5, st_Message r6] k w) := by
  obtain ⟨A2, n2, c2, rfl⟩ := mkc_is_sh hv2
  obtain ⟨A3, n3, c3, rfl⟩ := mkc_st_sh (x := st_Data r3) rfl hv3
  obtain ⟨A4, n4, c4, rfl⟩ := mkc_is_sh hv4
  obtain ⟨A6, n6, c6, rfl⟩ := mkc_st_sh (x := st_Message r6) rfl hv6
  have K1 := Blk.new w 55 #[.int .i64 n0, .int .i64 n1, .slice A2 n2 c2, .slice A3 n3 c3, .slice A4 n4 c4, .bool b5, .slice A6 n6 c6]
  have B0 := bal (Below.refl w.heap.size w) (.cells #[.int .i64 n0, .int .i64 n1, .slice A2 n2 c2, .slice A3 n3 c3, .slice A4 n4 c4, .bool b5, .slice A6 n6 c6] 55)
  obtain ⟨W, hW⟩ : ∃ W, w.alloc (.cells #[.int .i64 n0, .int .i64 n1, .slice A2 n2 c2, .slice A3 n3 c3, .slice A4 n4 c4, .bool b5, .slice A6 n6 c6] 55) = W := ⟨_, rfl⟩
  rw [hW] at K1 B0
  have HW := hidH hW
  have HB := hidH B0
  have HA := hidH K1
  have hcnt : vcA [.int n0, .int n1, .is l2, st_Data r3, .is l4, .bool b5, st_Message r6] = cc (.is l2) + cc (st_Data r3) + cc (.is l4) + cc (st_Message r6) := by simp only [vcA, vc, st_Data, st_Message] <;> omega
  unfold HeA
  rw [hcnt] at hk ⊢
  have HV2 := hidH (fun (u : World) (h : Below w.heap.size w u) => Rd.below h _ hv2)
  have HV3 := hidH (fun (u : World) (h : Below w.heap.size w u) => Rd.below h _ hv3)
  have HV4 := hidH (fun (u : World) (h : Below w.heap.size w u) => Rd.below h _ hv4)
  have HV6 := hidH (fun (u : World) (h : Below w.heap.size w u) => Rd.below h _ hv6)
  clear hW K1 B0 hv2 hv3 hv4 hv6
  go_enter Try.func23, Try.ntmps23
  go_wp2_with fail
  rw [HW.out]
  refine (held_Recv n1 l2 r3 l4 _ _ _ (k) _ (HV2.out _ HB.out) (HV3.out _ HB.out) (HV4.out _ HB.out) (by have : vcA [.int n1, .is l2, st_Data r3, .is l4] = cc (.is l2) + cc (st_Data r3) + cc (.is l4) := (by simp only [vcA, vc, st_Data] <;> omega); omega)).mono ?_
  rintro e w1 ⟨rfl, hb⟩
  have hvk : k + vcA [.int n1, .is l2, st_Data r3, .is l4] = k + cc (.is l2) + cc (st_Data r3) + cc (.is l4) := by
    have : vcA [.int n1, .is l2, st_Data r3, .is l4] = cc (.is l2) + cc (st_Data r3) + cc (.is l4) := (by simp only [vcA, vc, st_Data] <;> omega)
    omega
  rw [hvk]
  clear hvk
  replace HA := hidH (HA.out.below hb)
  replace HB := hidH (btr HB.out hb)
  have hpos : ¬ (((k + cc (.is l2) + cc (st_Data r3) + cc (.is l4) : Nat) : Int) < 0) := by omega
  clear hb
  have p5 := HA.out.cell 5
  have p6 := HA.out.cell 6
  simp only [List.getElem?_toArray, List.getElem?_cons_succ, List.getElem?_cons_zero] at p5 p6
  have gp := HA.out.lt
  go_wp2_with fail
  clear p5 p6 gp
  refine (heldS_Message r6 _ (k + cc (.is l2) + cc (st_Data r3) + cc (.is l4)) _ (HV6.out _ HB.out) (by omega)).mono ?_
  rintro e w2 ⟨rfl, hb⟩
  replace HA := hidH (HA.out.below hb)
  replace HB := hidH (btr HB.out hb)
  have hpos : ¬ (((k + cc (.is l2) + cc (st_Data r3) + cc (.is l4) + cc (st_Message r6) : Nat) : Int) < 0) := by omega
  clear hb
  go_wp2
  go_ret
  refine ⟨ret_int (by omega), HB.out⟩
theorem eqA_RecvResult (y : RecvResultM) {vs us : List Value} {w : World} (h : RdA w y.vs vs) (k : RdA w y.vs us) : Calls Try.prog 21 #[.agg vs.toArray, .agg us.toArray] w (EqR w) := by
  obtain ⟨A2, c2, A3, c3, A4, c4, A6, c6, rfl⟩ := shape_RecvResult (h)
  obtain ⟨B2, d2, B3, d3, B4, d4, B6, d6, rfl⟩ := shape_RecvResult (k)
  exact eq_RecvResult y.Code y.Recv_Cum y.Recv_Beyond y.Recv_Pieces y.Recv_Next y.Twice y.Messages _ _ _ _ _ _ _ _ w h.tl.tl.hd h.tl.tl.tl.hd h.tl.tl.tl.tl.hd h.tl.tl.tl.tl.tl.tl.hd k.tl.tl.hd k.tl.tl.tl.hd k.tl.tl.tl.tl.hd k.tl.tl.tl.tl.tl.tl.hd
theorem markA_RecvResult (y : RecvResultM) {vs : List Value} {S : Fp} {k : Nat} {w : World} (hS : Sub S (Wn 0 w.heap.size)) (h : OwA w y.vs S vs) (hk : k + vcA y.vs ≤ 1000000000000) : Calls Try.prog 22 #[.agg vs.toArray, .int .i64 k] w (MkA y.vs S vs k w) := by
  obtain ⟨A2, c2, A3, c3, A4, c4, A6, c6, rfl⟩ := shape_RecvResult (h.rd)
  exact mark_RecvResult y.Code y.Recv_Cum y.Recv_Beyond y.Recv_Pieces y.Recv_Next y.Twice y.Messages _ _ _ _ S k w hS h hk
theorem heldA_RecvResult (y : RecvResultM) {vs : List Value} {k : Nat} {w : World} (h : RdA w (mkA k y.vs) vs) (hk : k + vcA y.vs ≤ 1000000000000) : Calls Try.prog 23 #[.agg vs.toArray, .int .i64 k] w (HeA y.vs k w) := by
  obtain ⟨q0, e0, t0⟩ := RdA.int_out (n := y.Code) h
  subst e0
  obtain ⟨q1, e1, t1⟩ := RdA.int_out (n := y.Recv_Cum) t0
  subst e1
  obtain ⟨v2, q2, e2, h2, t2⟩ := RdA.any_out (x := mkc (k) (.is y.Recv_Beyond)) t1
  subst e2
  obtain ⟨v3, q3, e3, h3, t3⟩ := RdA.any_out (x := mkc (k + cc (.is y.Recv_Beyond)) (st_Data y.Recv_Pieces)) t2
  subst e3
  obtain ⟨v4, q4, e4, h4, t4⟩ := RdA.any_out (x := mkc (k + cc (.is y.Recv_Beyond) + cc (st_Data y.Recv_Pieces)) (.is y.Recv_Next)) t3
  subst e4
  obtain ⟨q5, e5, t5⟩ := RdA.bool_out (b := y.Twice) t4
  subst e5
  obtain ⟨v6, q6, e6, h6, t6⟩ := RdA.any_out (x := mkc (k + cc (.is y.Recv_Beyond) + cc (st_Data y.Recv_Pieces) + cc (.is y.Recv_Next)) (st_Message y.Messages)) t5
  subst e6
  have z := t6.nil_out
  subst z
  exact held_RecvResult y.Code y.Recv_Cum y.Recv_Beyond y.Recv_Pieces y.Recv_Next y.Twice y.Messages _ _ _ _ k w h2 h3 h4 h6 hk
theorem cnt_RecvResult (y : RecvResultM) (h : tot.totL y.vs ≤ 1048576) : vcA y.vs ≤ 1000000000 := by
  have cData := ccS_Data
  have cMessage := ccS_Message
  simp only [RecvResultM.vs, vcA, vc, tot.totL, tot, cc, st_Data, st_Message] at *
  have d3 := cData y.Recv_Pieces
  have d6 := cMessage y.Messages
  omega
theorem mem_RecvResult {w : World} {g o : Nat} {y : RecvResultM} (h : RdL w y.vs g o) : ∃ (A2 : Option Addr) (c2 : Nat) (A3 : Option Addr) (c3 : Nat) (A4 : Option Addr) (c4 : Nat) (A6 : Option Addr) (c6 : Nat), w.cell? ⟨g, o, none⟩ = some (.int .i64 y.Code) ∧ w.cell? ⟨g, o + 1, none⟩ = some (.int .i64 y.Recv_Cum) ∧ w.cell? ⟨g, o + 2, none⟩ = some (.slice A2 y.Recv_Beyond.length c2) ∧ w.cell? ⟨g, o + 3, none⟩ = some (.slice A3 y.Recv_Pieces.length c3) ∧ w.cell? ⟨g, o + 4, none⟩ = some (.slice A4 y.Recv_Next.length c4) ∧ w.cell? ⟨g, o + 5, none⟩ = some (.bool y.Twice) ∧ w.cell? ⟨g, o + 6, none⟩ = some (.slice A6 y.Messages.length c6) ∧ Rd w (.is y.Recv_Beyond) (.slice A2 y.Recv_Beyond.length c2) ∧ Rd w (st_Data y.Recv_Pieces) (.slice A3 y.Recv_Pieces.length c3) ∧ Rd w (.is y.Recv_Next) (.slice A4 y.Recv_Next.length c4) ∧ Rd w (st_Message y.Messages) (.slice A6 y.Messages.length c6) := by
  obtain ⟨u0, p0, t0⟩ := h.get? 0 (.int y.Code) rfl
  have e0 := t0.int_out
  subst e0
  obtain ⟨u1, p1, t1⟩ := h.get? 1 (.int y.Recv_Cum) rfl
  have e1 := t1.int_out
  subst e1
  obtain ⟨u2, p2, t2⟩ := h.get? 2 (.is y.Recv_Beyond) rfl
  obtain ⟨A2, c2, e2⟩ := t2.is_sh
  subst e2
  obtain ⟨u3, p3, t3⟩ := h.get? 3 (st_Data y.Recv_Pieces) rfl
  obtain ⟨A3, c3, e3⟩ := st_Data_sh t3
  subst e3
  obtain ⟨u4, p4, t4⟩ := h.get? 4 (.is y.Recv_Next) rfl
  obtain ⟨A4, c4, e4⟩ := t4.is_sh
  subst e4
  obtain ⟨u5, p5, t5⟩ := h.get? 5 (.bool y.Twice) rfl
  have e5 := t5.bool_out
  subst e5
  obtain ⟨u6, p6, t6⟩ := h.get? 6 (st_Message y.Messages) rfl
  obtain ⟨A6, c6, e6⟩ := st_Message_sh t6
  subst e6
  rw [Nat.add_zero] at p0
  exact ⟨A2, c2, A3, c3, A4, c4, A6, c6, p0, p1, p2, p3, p4, p5, p6, t2, t3, t4, t6⟩
end Go.Proofs.Ytncnibkojneejaa
