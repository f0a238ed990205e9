/- Init, Answer and their results (WRITTEN BY tools/kinds.py) -/
import Derived.Test.YtjjileefdjjijaaUniO
namespace Go.Proofs.Ytjjileefdjjijaa
open Go.RowKit Go.Deep Go.ChangeShapes Go.WideShapes Go.ChangeAt

structure InitM where
  Tag : Int
  Tsn : Int
  Random : List Int
  Addrs : List Int
  Cookie : List Int
def InitM.vs (x : InitM) : List V := [.int x.Tag, .int x.Tsn, .bs x.Random, .is x.Addrs, .bs x.Cookie]
theorem shape_Init {w : World} {n0 : Int} {n1 : Int} {l2 : List Int} {l3 : List Int} {l4 : List Int} {vs : List Value} (h : RdA w [.int n0, .int n1, .bs l2, .is l3, .bs l4] vs) : ∃ (A2 : Option Addr) (c2 : Nat) (A3 : Option Addr) (c3 : Nat) (A4 : Option Addr) (c4 : Nat), vs = [.int .i64 n0, .int .i64 n1, .slice A2 l2.length c2, .slice A3 l3.length c3, .slice A4 l4.length c4] := by
  obtain ⟨q0, e0, t0⟩ := h.int_out
  subst e0
  obtain ⟨q1, e1, t1⟩ := t0.int_out
  subst e1
  obtain ⟨v2, q2, e2, h2, t2⟩ := t1.any_out
  obtain ⟨A2, c2, a2⟩ := h2.bs_sh
  subst e2 a2
  obtain ⟨v3, q3, e3, h3, t3⟩ := t2.any_out
  obtain ⟨A3, c3, a3⟩ := h3.is_sh
  subst e3 a3
  obtain ⟨v4, q4, e4, h4, t4⟩ := t3.any_out
  obtain ⟨A4, c4, a4⟩ := h4.bs_sh
  subst e4 a4
  have z := t4.nil_out
  subst z
  exact ⟨A2, c2, A3, c3, A4, c4, rfl⟩
set_option maxRecDepth 100000 in
set_option maxHeartbeats 1000000 in
theorem eq_Init (n0 : Int) (n1 : Int) (l2 : List Int) (l3 : List Int) (l4 : List Int) (v2 u2 v3 u3 v4 u4 : Value) (w : World) (hv2 : Rd w (.bs l2) v2) (hv3 : Rd w (.is l3) v3) (hv4 : Rd w (.bs l4) v4) (hu2 : Rd w (.bs l2) u2) (hu3 : Rd w (.is l3) u3) (hu4 : Rd w (.bs l4) u4) :
    Calls Try.prog 19 #[.agg #[.int .i64 n0, .int .i64 n1, v2, v3, v4], .agg #[.int .i64 n0, .int .i64 n1, u2, u3, u4]] w (EqR w) := by
  obtain ⟨A2, c2, rfl⟩ := hv2.bs_sh
  obtain ⟨A3, c3, rfl⟩ := hv3.is_sh
  obtain ⟨A4, c4, rfl⟩ := hv4.bs_sh
  obtain ⟨B2, d2, rfl⟩ := hu2.bs_sh
  obtain ⟨B3, d3, rfl⟩ := hu3.is_sh
  obtain ⟨B4, d4, rfl⟩ := hu4.bs_sh
  have K1 := (Blk.new w 37 #[.int .i64 n0, .int .i64 n1, .slice A2 l2.length c2, .slice A3 l3.length c3, .slice A4 l4.length c4]).alloc (.cells #[.int .i64 n0, .int .i64 n1, .slice B2 l2.length d2, .slice B3 l3.length d3, .slice B4 l4.length d4] 37)
  have K2 := Blk.new (w.alloc (.cells #[.int .i64 n0, .int .i64 n1, .slice A2 l2.length c2, .slice A3 l3.length c3, .slice A4 l4.length c4] 37)) 37 #[.int .i64 n0, .int .i64 n1, .slice B2 l2.length d2, .slice B3 l3.length d3, .slice B4 l4.length d4]
  have B0 := bal (bal (Below.refl w.heap.size w) (.cells #[.int .i64 n0, .int .i64 n1, .slice A2 l2.length c2, .slice A3 l3.length c3, .slice A4 l4.length c4] 37)) (.cells #[.int .i64 n0, .int .i64 n1, .slice B2 l2.length d2, .slice B3 l3.length d3, .slice B4 l4.length d4] 37)
  rw [World.size_alloc] at K2
  obtain ⟨W, hW⟩ : ∃ W, (w.alloc (.cells #[.int .i64 n0, .int .i64 n1, .slice A2 l2.length c2, .slice A3 l3.length c3, .slice A4 l4.length c4] 37)).alloc (.cells #[.int .i64 n0, .int .i64 n1, .slice B2 l2.length d2, .slice B3 l3.length d3, .slice B4 l4.length d4] 37) = W := ⟨_, rfl⟩
  rw [hW] at K1 K2 B0
  have HW := hidH hW
  have HB := hidH B0
  have HA := hidH K1
  have HC := hidH K2
  have HV2 := hidH (fun (u : World) (h : Below w.heap.size w u) => Rd.below h _ hv2)
  have HU2 := hidH (fun (u : World) (h : Below w.heap.size w u) => Rd.below h _ hu2)
  have HV3 := hidH (fun (u : World) (h : Below w.heap.size w u) => Rd.below h _ hv3)
  have HU3 := hidH (fun (u : World) (h : Below w.heap.size w u) => Rd.below h _ hu3)
  have HV4 := hidH (fun (u : World) (h : Below w.heap.size w u) => Rd.below h _ hv4)
  have HU4 := hidH (fun (u : World) (h : Below w.heap.size w u) => Rd.below h _ hu4)
  clear hW K1 K2 B0 hv2 hu2 hv3 hu3 hv4 hu4
  go_enter Try.func19, Try.ntmps19
  go_wp2_with fail
  rw [HW.out]
  refine (eqB_rd l2 _ _ _ (HV2.out _ HB.out) (HU2.out _ HB.out)).mono ?_
  rintro e w1 ⟨rfl, hb⟩
  replace HA := hidH (HA.out.below hb)
  replace HC := hidH (HC.out.below hb)
  replace HB := hidH (btr HB.out hb)
  clear hb
  have p3 := HA.out.cell 3
  have q3 := HC.out.cell 3
  simp only [List.getElem?_toArray, List.getElem?_cons_succ, List.getElem?_cons_zero] at p3 q3
  have gp := HA.out.lt
  have gq := HC.out.lt
  go_wp2_with fail
  clear p3 q3 gp gq
  refine (eqI_rd l3 _ _ _ (HV3.out _ HB.out) (HU3.out _ HB.out)).mono ?_
  rintro e w2 ⟨rfl, hb⟩
  replace HA := hidH (HA.out.below hb)
  replace HC := hidH (HC.out.below hb)
  replace HB := hidH (btr HB.out hb)
  clear hb
  have p4 := HA.out.cell 4
  have q4 := HC.out.cell 4
  simp only [List.getElem?_toArray, List.getElem?_cons_succ, List.getElem?_cons_zero] at p4 q4
  have gp := HA.out.lt
  have gq := HC.out.lt
  go_wp2_with fail
  clear p4 q4 gp gq
  refine (eqB_rd l4 _ _ _ (HV4.out _ HB.out) (HU4.out _ HB.out)).mono ?_
  rintro e w3 ⟨rfl, hb⟩
  replace HA := hidH (HA.out.below hb)
  replace HC := hidH (HC.out.below hb)
  replace HB := hidH (btr HB.out hb)
  clear hb
  go_wp2
  go_ret
  exact ⟨rfl, HB.out⟩
set_option maxRecDepth 100000 in
set_option maxHeartbeats 1000000 in
theorem mark_Init (n0 : Int) (n1 : Int) (l2 : List Int) (l3 : List Int) (l4 : List Int) (v2 v3 v4 : Value) (S : Fp) (k : Nat) (w : World) (hS : Sub S (Wn 0 w.heap.size)) (h : OwA w [.int n0, .int n1, .bs l2, .is l3, .bs l4] S [.int .i64 n0, .int .i64 n1, v2, v3, v4]) (hk : k + vcA [.int n0, .int n1, .bs l2, .is l3, .bs l4] ≤ 1000000000000) :
    Calls Try.prog 20 #[.agg #[.int .i64 n0, .int .i64 n1, v2, v3, v4], .int .i64 k] w (MkA [.int n0, .int n1, .bs l2, .is l3, .bs l4] S [.int .i64 n0, .int .i64 n1, v2, v3, v4] k w) := by
  have hr := h.rd
  have hv2 := hr.tl.tl.hd
  have hv3 := hr.tl.tl.tl.hd
  have hv4 := hr.tl.tl.tl.tl.hd
  obtain ⟨A2, c2, rfl⟩ := hv2.bs_sh
  obtain ⟨A3, c3, rfl⟩ := hv3.is_sh
  obtain ⟨A4, c4, rfl⟩ := hv4.bs_sh
  clear hr hv2 hv3 hv4
  have K1 := Blk.new w 37 #[.int .i64 n0, .int .i64 n1, .slice A2 l2.length c2, .slice A3 l3.length c3, .slice A4 l4.length c4]
  have B0 := bal (Below.refl w.heap.size w) (.cells #[.int .i64 n0, .int .i64 n1, .slice A2 l2.length c2, .slice A3 l3.length c3, .slice A4 l4.length c4] 37)
  obtain ⟨W, hW⟩ : ∃ W, w.alloc (.cells #[.int .i64 n0, .int .i64 n1, .slice A2 l2.length c2, .slice A3 l3.length c3, .slice A4 l4.length c4] 37) = W := ⟨_, rfl⟩
  rw [hW] at K1 B0
  have HW := hidH hW
  have HB := hidH B0
  have HA := hidH K1
  replace h := OwA.kept (Kept.of_below B0) h
  have hcnt : vcA [.int n0, .int n1, .bs l2, .is l3, .bs l4] = cc (.bs l2) + cc (.is l3) + cc (.bs l4) := by simp only [vcA, vc] <;> omega
  unfold MkA
  rw [hcnt] at hk ⊢
  obtain ⟨T0, s0, h, G0⟩ := OwA.step_int h
  have s0 := Sub.trans s0 hS
  have G0 := hidH G0
  obtain ⟨T1, s1, h, G1⟩ := OwA.step_int h
  have s1 := Sub.trans s1 s0
  have G1 := hidH G1
  obtain ⟨T2, s2, hO, G2⟩ := OwA.step (y := mkc (k) (.bs l2)) h
  have s2 := Sub.trans s2 s1
  have HO := hidH hO
  have G2 := hidH G2
  clear hO h
  clear hW B0 K1
  go_enter Try.func20, Try.ntmps20
  go_wp2_with fail
  rw [HW.out]
  refine (markB_ow l2 T2 _ (k) _ HO.out (by omega)).mono ?_
  rintro e w1 ⟨rfl, hc, ho⟩
  replace HA := hidH (HA.out.chg hc s2)
  have HC0 := hidH hc
  obtain ⟨T3, s3, h, G3⟩ := G2.out _ hc ho
  have s3 := Sub.trans s3 s1
  have G3 := hidH G3
  clear HO hc ho
  obtain ⟨T4, s4, hO, G4⟩ := OwA.step (y := mkc (k + cc (.bs l2)) (.is l3)) h
  have s4 := Sub.trans s4 s3
  have HO := hidH hO
  have G4 := hidH G4
  clear hO h
  have p3 := HA.out.cell 3
  simp only [List.getElem?_toArray, List.getElem?_cons_succ, List.getElem?_cons_zero] at p3
  have gp := HA.out.lt
  go_wp2_with fail
  clear p3 gp
  refine (markI_ow l3 T4 _ (k + cc (.bs l2)) _ HO.out (by omega)).mono ?_
  rintro e w2 ⟨rfl, hc, ho⟩
  replace HA := hidH (HA.out.chg hc s4)
  have HC1 := hidH hc
  obtain ⟨T5, s5, h, G5⟩ := G4.out _ hc ho
  have s5 := Sub.trans s5 s3
  have G5 := hidH G5
  clear HO hc ho
  obtain ⟨T6, s6, hO, G6⟩ := OwA.step (y := mkc (k + cc (.bs l2) + cc (.is l3)) (.bs l4)) h
  have s6 := Sub.trans s6 s5
  have HO := hidH hO
  have G6 := hidH G6
  clear hO h
  have p4 := HA.out.cell 4
  simp only [List.getElem?_toArray, List.getElem?_cons_succ, List.getElem?_cons_zero] at p4
  have gp := HA.out.lt
  go_wp2_with fail
  clear p4 gp
  refine (markB_ow l4 T6 _ (k + cc (.bs l2) + cc (.is l3)) _ HO.out (by omega)).mono ?_
  rintro e w3 ⟨rfl, hc, ho⟩
  replace HA := hidH (HA.out.chg hc s6)
  have HC2 := hidH hc
  obtain ⟨T7, s7, h, G7⟩ := G6.out _ hc ho
  have s7 := Sub.trans s7 s5
  have G7 := hidH G7
  clear HO hc ho
  obtain ⟨hc, h⟩ := OwA.nil_step h
  obtain ⟨hc, h⟩ := G7.out _ _ hc h
  obtain ⟨hc, h⟩ := G5.out _ _ hc h
  obtain ⟨hc, h⟩ := G3.out _ _ hc h
  obtain ⟨hc, h⟩ := G1.out _ _ hc h
  obtain ⟨hc, h⟩ := G0.out _ _ hc h
  have HCC := hidH ((Chg.of_below HB.out).trans hc)
  have HO := hidH h
  clear hc h
  go_wp2
  go_ret
  refine ⟨ret_int (by (try simp only [vcA, vc]) <;> omega), HCC.out, HO.out⟩
set_option maxRecDepth 100000 in
set_option maxHeartbeats 1000000 in
theorem sz_Init (n0 : Int) (n1 : Int) (l2 : List Int) (l3 : List Int) (l4 : List Int) (v2 v3 v4 : Value) (left : Int) (w : World) (hv2 : Rd w (.bs l2) v2) (hv3 : Rd w (.is l3) v3) (hv4 : Rd w (.bs l4) v4) (h0 : 0 ≤ left) (h1 : left ≤ 1048576) :
    Calls Try.prog 14 #[.agg #[.int .i64 n0, .int .i64 n1, v2, v3, v4], .int .i64 left] w (SzR left (tot.totL [.int n0, .int n1, .bs l2, .is l3, .bs l4]) w) := by
  obtain ⟨A2, c2, rfl⟩ := hv2.bs_sh
  obtain ⟨A3, c3, rfl⟩ := hv3.is_sh
  obtain ⟨A4, c4, rfl⟩ := hv4.bs_sh
  have K1 := Blk.new w 32 #[.int .i64 n0, .int .i64 n1, .slice A2 l2.length c2, .slice A3 l3.length c3, .slice A4 l4.length c4]
  have B0 := bal (Below.refl w.heap.size w) (.cells #[.int .i64 n0, .int .i64 n1, .slice A2 l2.length c2, .slice A3 l3.length c3, .slice A4 l4.length c4] 32)
  obtain ⟨W, hW⟩ : ∃ W, w.alloc (.cells #[.int .i64 n0, .int .i64 n1, .slice A2 l2.length c2, .slice A3 l3.length c3, .slice A4 l4.length c4] 32) = W := ⟨_, rfl⟩
  rw [hW] at K1 B0
  have HW := hidH hW
  have HB := hidH B0
  have HA := hidH K1
  have hcnt : tot.totL [.int n0, .int n1, .bs l2, .is l3, .bs l4] = tot (.bs l2) + tot (.is l3) + tot (.bs l4) := by simp only [tot.totL, tot] <;> omega
  rw [hcnt]
  have HV2 := hidH (fun (u : World) (h : Below w.heap.size w u) => Rd.below h _ hv2)
  have HV3 := hidH (fun (u : World) (h : Below w.heap.size w u) => Rd.below h _ hv3)
  have HV4 := hidH (fun (u : World) (h : Below w.heap.size w u) => Rd.below h _ hv4)
  clear hW K1 B0 hcnt hv2 hv3 hv4
  go_enter Try.func14, Try.ntmps14
  go_wp2_with fail
  rw [HW.out]
  refine (szB_rd l2 _ left _ (HV2.out _ HB.out) (by omega) (by omega)).mono ?_
  rintro e w1 ⟨z0, rfl, hz0, hb⟩
  replace HA := hidH (HA.out.below hb)
  replace HB := hidH (btr HB.out hb)
  clear hb
  have HZ0 := hidH hz0
  have hzl0 := hz0.2.1
  clear hz0
  by_cases hn0 : z0 < 0
  · obtain rfl : z0 = -1 := by rcases HZ0.out.1 with h | h <;> omega
    clear hn0
    go_wp2
    go_ret
    exact ⟨-1, rfl, ⟨.inl rfl, by omega, fun h => by omega⟩, HB.out⟩
  · have hp0 : 0 ≤ z0 := by omega
    have p3 := HA.out.cell 3
    simp only [List.getElem?_toArray, List.getElem?_cons_succ, List.getElem?_cons_zero] at p3
    have gp := HA.out.lt
    go_wp2_with fail
    clear p3 gp
    refine (szI_rd l3 _ z0 _ (HV3.out _ HB.out) (by omega) (by omega)).mono ?_
    rintro e w2 ⟨z1, rfl, hz1, hb⟩
    replace HA := hidH (HA.out.below hb)
    replace HB := hidH (btr HB.out hb)
    clear hb
    have HZ1 := hidH hz1
    have hzl1 := hz1.2.1
    clear hz1
    by_cases hn1 : z1 < 0
    · obtain rfl : z1 = -1 := by rcases HZ1.out.1 with h | h <;> omega
      clear hn1
      go_wp2
      go_ret
      exact ⟨-1, rfl, ⟨.inl rfl, by omega, fun h => by omega⟩, HB.out⟩
    · have hp1 : 0 ≤ z1 := by omega
      have p4 := HA.out.cell 4
      simp only [List.getElem?_toArray, List.getElem?_cons_succ, List.getElem?_cons_zero] at p4
      have gp := HA.out.lt
      go_wp2_with fail
      clear p4 gp
      refine (szB_rd l4 _ z1 _ (HV4.out _ HB.out) (by omega) (by omega)).mono ?_
      rintro e w3 ⟨z2, rfl, hz2, hb⟩
      replace HA := hidH (HA.out.below hb)
      replace HB := hidH (btr HB.out hb)
      clear hb
      have HZ2 := hidH hz2
      have hzl2 := hz2.2.1
      clear hz2
      by_cases hn2 : z2 < 0
      · obtain rfl : z2 = -1 := by rcases HZ2.out.1 with h | h <;> omega
        clear hn2
        go_wp2
        go_ret
        exact ⟨-1, rfl, ⟨.inl rfl, by omega, fun h => by omega⟩, HB.out⟩
      · have hp2 : 0 ≤ z2 := by omega
        clear hzl0 hzl1 hzl2
        go_wp2
        go_ret
        exact ⟨z2, rfl, ⟨.inr hp2, by have := HZ0.out.2.1; have := HZ1.out.2.1; have := HZ2.out.2.1; omega, fun _ => by have := HZ0.out.2.2 hp0; have := HZ1.out.2.2 hp1; have := HZ2.out.2.2 hp2; omega⟩, HB.out⟩
set_option maxRecDepth 100000 in
set_option maxHeartbeats 1000000 in
theorem to_Init (n0 : Int) (n1 : Int) (l2 : List Int) (l3 : List Int) (l4 : List Int) (v2 v3 v4 : Value) (w : World) (hv2 : Rd w (.bs l2) v2) (hv3 : Rd w (.is l3) v3) (hv4 : Rd w (.bs l4) v4) (hm : tot.totL [.int n0, .int n1, .bs l2, .is l3, .bs l4] ≤ 1048576) :
    Calls Try.prog 16 #[.agg #[.int .i64 n0, .int .i64 n1, v2, v3, v4]] w (Res w [.int n0, .int n1, .bs l2, .is l3, .bs l4]) := by
  obtain ⟨A2, c2, rfl⟩ := hv2.bs_sh
  obtain ⟨A3, c3, rfl⟩ := hv3.is_sh
  obtain ⟨A4, c4, rfl⟩ := hv4.bs_sh
  have KA := ((Blk.new w 32 #[.int .i64 n0, .int .i64 n1, .slice A2 l2.length c2, .slice A3 l3.length c3, .slice A4 l4.length c4]).alloc (.cells #[.int .i64 0, .int .i64 0, .slice none 0 0, .slice none 0 0, .slice none 0 0] 37)).alloc (.cells #[.int .i64 n0, .int .i64 n1, .slice none 0 0, .slice none 0 0, .slice none 0 0] 37)
  have KR := (Blk.new (w.alloc (.cells #[.int .i64 n0, .int .i64 n1, .slice A2 l2.length c2, .slice A3 l3.length c3, .slice A4 l4.length c4] 32)) 37 #[.int .i64 0, .int .i64 0, .slice none 0 0, .slice none 0 0, .slice none 0 0]).alloc (.cells #[.int .i64 n0, .int .i64 n1, .slice none 0 0, .slice none 0 0, .slice none 0 0] 37)
  have KV := Blk.new ((w.alloc (.cells #[.int .i64 n0, .int .i64 n1, .slice A2 l2.length c2, .slice A3 l3.length c3, .slice A4 l4.length c4] 32)).alloc (.cells #[.int .i64 0, .int .i64 0, .slice none 0 0, .slice none 0 0, .slice none 0 0] 37)) 37 #[.int .i64 n0, .int .i64 n1, .slice none 0 0, .slice none 0 0, .slice none 0 0]
  have B0 := bal (bal (bal (Below.refl w.heap.size w) (.cells #[.int .i64 n0, .int .i64 n1, .slice A2 l2.length c2, .slice A3 l3.length c3, .slice A4 l4.length c4] 32)) (.cells #[.int .i64 0, .int .i64 0, .slice none 0 0, .slice none 0 0, .slice none 0 0] 37)) (.cells #[.int .i64 n0, .int .i64 n1, .slice none 0 0, .slice none 0 0, .slice none 0 0] 37)
  have hsz : (((w.alloc (.cells #[.int .i64 n0, .int .i64 n1, .slice A2 l2.length c2, .slice A3 l3.length c3, .slice A4 l4.length c4] 32)).alloc (.cells #[.int .i64 0, .int .i64 0, .slice none 0 0, .slice none 0 0, .slice none 0 0] 37)).alloc (.cells #[.int .i64 n0, .int .i64 n1, .slice none 0 0, .slice none 0 0, .slice none 0 0] 37)).heap.size = w.heap.size + 1 + 1 + 1 := by simp only [World.size_alloc]
  simp only [World.size_alloc] at KR KV
  obtain ⟨w0, hW⟩ : ∃ W, ((w.alloc (.cells #[.int .i64 n0, .int .i64 n1, .slice A2 l2.length c2, .slice A3 l3.length c3, .slice A4 l4.length c4] 32)).alloc (.cells #[.int .i64 0, .int .i64 0, .slice none 0 0, .slice none 0 0, .slice none 0 0] 37)).alloc (.cells #[.int .i64 n0, .int .i64 n1, .slice none 0 0, .slice none 0 0, .slice none 0 0] 37) = W := ⟨_, rfl⟩
  rw [hW] at KA KR KV B0 hsz
  have HW := hidH hW
  have HB := hidH B0
  have HA := hidH KA
  have HR := hidH KR
  have HV := hidH KV
  have HZ := hidH hsz
  have hcnt : tot.totL [.int n0, .int n1, .bs l2, .is l3, .bs l4] = tot (.bs l2) + tot (.is l3) + tot (.bs l4) := by simp only [tot.totL, tot] <;> omega
  rw [hcnt] at hm
  have HM := hidH hm
  have HV2 := hidH (fun (u : World) (h : Below w.heap.size w u) => Rd.below h _ hv2)
  have HV3 := hidH (fun (u : World) (h : Below w.heap.size w u) => Rd.below h _ hv3)
  have HV4 := hidH (fun (u : World) (h : Below w.heap.size w u) => Rd.below h _ hv4)
  have es : ∀ (u : World) (p : Addr) (v : Value), (u.setCell p v).heap.size = u.heap.size := fun u p v => by simp [World.setCell]
  have HES := hidH es
  clear hW hm hcnt KA KR KV B0 hsz es hv2 hv3 hv4
  go_enter Try.func16, Try.ntmps16
  go_wp2_with fail
  rw [HW.out]
  have HB1 := hidH (HB.out)
  refine (toB_rd l2 _ _ (HV2.out _ HB1.out) (by have := HM.out; omega)).mono ?_
  rintro e w1 ⟨u2, rfl, O0, hb⟩
  obtain ⟨E2, e2, rfl⟩ := O0.rd.bs_sh
  have HA1 := hidH ((HA.out).below hb)
  have HR1 := hidH ((HR.out).below hb)
  have HV1 : Hid (Blk w1 (w.heap.size + 1 + 1) 37 #[.int .i64 n0, .int .i64 n1, .slice none 0 0, .slice none 0 0, .slice none 0 0]) := hidH (Blk.below (HV.out) hb)
  have HZ1 : Hid (w0.heap.size ≤ w1.heap.size) := hidH (by have := hb.size; simpa only [HES.out] using this)
  have O0 := hidH (show OwV w0.heap.size w1.heap.size w1 _ _ by simpa only [HES.out] using O0)
  have HG0 := hidH (show w0.heap.size ≤ w0.heap.size by exact Nat.le_refl _)
  have HZ00 := HZ1
  replace HB := hidH (btr HB1.out hb)
  clear HA HR HV HB1 hb HZ1
  have HA := HA1
  have HR := HR1
  have HV := HV1
  clear HA1 HR1 HV1
  have p3 := HA.out.cell 3
  simp only [List.getElem?_toArray, List.getElem?_cons_succ, List.getElem?_cons_zero] at p3
  have gp := HA.out.lt
  have y2 := HV.out.cell 2
  have f2 := HV.out.frozen 2
  simp only [List.getElem?_toArray, List.getElem?_cons_succ, List.getElem?_cons_zero] at y2
  have gv := HV.out.lt
  go_wp2_with fail
  clear p3 gp y2 f2 gv
  have HB1 := hidH (bst (HB.out) (p := ⟨w.heap.size + 1 + 1, 2, none⟩) (Nat.le_trans (Nat.le_succ _) (Nat.le_succ _)) (.slice E2 l2.length e2))
  refine (toI_rd l3 _ _ (HV3.out _ HB1.out) (by have := HM.out; omega)).mono ?_
  rintro e w2 ⟨u3, rfl, O1, hb⟩
  obtain ⟨E3, e3, rfl⟩ := O1.rd.is_sh
  have HA1 := hidH ((Blk.far (HA.out) (p := ⟨w.heap.size + 1 + 1, 2, none⟩) (by show w.heap.size + 1 + 1 ≠ _; omega) (.slice E2 l2.length e2)).below hb)
  have HR1 := hidH ((Blk.far (HR.out) (p := ⟨w.heap.size + 1 + 1, 2, none⟩) (by show w.heap.size + 1 + 1 ≠ _; omega) (.slice E2 l2.length e2)).below hb)
  have HV1 : Hid (Blk w2 (w.heap.size + 1 + 1) 37 #[.int .i64 n0, .int .i64 n1, .slice E2 l2.length e2, .slice none 0 0, .slice none 0 0]) := hidH (Blk.below (Blk.put (HV.out) 2 (.slice E2 l2.length e2)) hb)
  have HZ1 : Hid (w1.heap.size ≤ w2.heap.size) := hidH (by have := hb.size; simpa only [HES.out] using this)
  replace O0 := hidH (((O0.out).win (set_win _ (w.heap.size + 1 + 1) 2 (.slice E2 l2.length e2)) (.inr (by have := HZ.out; have := HG0.out; omega))).below hb)
  have O1 := hidH (show OwV w1.heap.size w2.heap.size w2 _ _ by simpa only [HES.out] using O1)
  have HG1 := hidH (Nat.le_trans HG0.out HZ00.out)
  have HZ01 := HZ1
  replace HB := hidH (btr HB1.out hb)
  clear HA HR HV HB1 hb HZ1
  have HA := HA1
  have HR := HR1
  have HV := HV1
  clear HA1 HR1 HV1
  have p4 := HA.out.cell 4
  simp only [List.getElem?_toArray, List.getElem?_cons_succ, List.getElem?_cons_zero] at p4
  have gp := HA.out.lt
  have y3 := HV.out.cell 3
  have f3 := HV.out.frozen 3
  simp only [List.getElem?_toArray, List.getElem?_cons_succ, List.getElem?_cons_zero] at y3
  have gv := HV.out.lt
  go_wp2_with fail
  clear p4 gp y3 f3 gv
  have HB1 := hidH (bst (HB.out) (p := ⟨w.heap.size + 1 + 1, 3, none⟩) (Nat.le_trans (Nat.le_succ _) (Nat.le_succ _)) (.slice E3 l3.length e3))
  refine (toB_rd l4 _ _ (HV4.out _ HB1.out) (by have := HM.out; omega)).mono ?_
  rintro e w3 ⟨u4, rfl, O2, hb⟩
  obtain ⟨E4, e4, rfl⟩ := O2.rd.bs_sh
  have HA1 := hidH ((Blk.far (HA.out) (p := ⟨w.heap.size + 1 + 1, 3, none⟩) (by show w.heap.size + 1 + 1 ≠ _; omega) (.slice E3 l3.length e3)).below hb)
  have HR1 := hidH ((Blk.far (HR.out) (p := ⟨w.heap.size + 1 + 1, 3, none⟩) (by show w.heap.size + 1 + 1 ≠ _; omega) (.slice E3 l3.length e3)).below hb)
  have HV1 : Hid (Blk w3 (w.heap.size + 1 + 1) 37 #[.int .i64 n0, .int .i64 n1, .slice E2 l2.length e2, .slice E3 l3.length e3, .slice none 0 0]) := hidH (Blk.below (Blk.put (HV.out) 3 (.slice E3 l3.length e3)) hb)
  have HZ1 : Hid (w2.heap.size ≤ w3.heap.size) := hidH (by have := hb.size; simpa only [HES.out] using this)
  replace O0 := hidH (((O0.out).win (set_win _ (w.heap.size + 1 + 1) 3 (.slice E3 l3.length e3)) (.inr (by have := HZ.out; have := HG0.out; omega))).below hb)
  replace O1 := hidH (((O1.out).win (set_win _ (w.heap.size + 1 + 1) 3 (.slice E3 l3.length e3)) (.inr (by have := HZ.out; have := HG1.out; omega))).below hb)
  have O2 := hidH (show OwV w2.heap.size w3.heap.size w3 _ _ by simpa only [HES.out] using O2)
  have HG2 := hidH (Nat.le_trans HG1.out HZ01.out)
  have HZ02 := HZ1
  replace HB := hidH (btr HB1.out hb)
  clear HA HR HV HB1 hb HZ1
  have HA := HA1
  have HR := HR1
  have HV := HV1
  clear HA1 HR1 HV1
  have x0 := HR.out.cell 0
  have h0 := HR.out.frozen 0
  have y0 := HV.out.cell 0
  have f0 := HV.out.frozen 0
  have x1 := HR.out.cell 1
  have h1 := HR.out.frozen 1
  have y1 := HV.out.cell 1
  have f1 := HV.out.frozen 1
  have x2 := HR.out.cell 2
  have h2 := HR.out.frozen 2
  have y2 := HV.out.cell 2
  have f2 := HV.out.frozen 2
  have x3 := HR.out.cell 3
  have h3 := HR.out.frozen 3
  have y3 := HV.out.cell 3
  have f3 := HV.out.frozen 3
  have x4 := HR.out.cell 4
  have h4 := HR.out.frozen 4
  have y4 := HV.out.cell 4
  have f4 := HV.out.frozen 4
  simp only [List.getElem?_toArray, List.getElem?_cons_succ, List.getElem?_cons_zero] at x0 y0 x1 y1 x2 y2 x3 y3 x4 y4
  have gv := HV.out.lt
  have gr := HR.out.lt
  go_wp2
  have BF := bst (bst (bst (bst (bst (bst (HB.out) (p := ⟨w.heap.size + 1 + 1, 4, none⟩) (by show w.heap.size ≤ w.heap.size + 1 + 1; omega) (.slice E4 l4.length e4)) (p := ⟨w.heap.size + 1, 0, none⟩) (by show w.heap.size ≤ w.heap.size + 1; omega) (.int .i64 n0)) (p := ⟨w.heap.size + 1, 1, none⟩) (by show w.heap.size ≤ w.heap.size + 1; omega) (.int .i64 n1)) (p := ⟨w.heap.size + 1, 2, none⟩) (by show w.heap.size ≤ w.heap.size + 1; omega) (.slice E2 l2.length e2)) (p := ⟨w.heap.size + 1, 3, none⟩) (by show w.heap.size ≤ w.heap.size + 1; omega) (.slice E3 l3.length e3)) (p := ⟨w.heap.size + 1, 4, none⟩) (by show w.heap.size ≤ w.heap.size + 1; omega) (.slice E4 l4.length e4)
  have P0 := ((((((O0.out).win (set_win _ (w.heap.size + 1 + 1) 4 (.slice E4 l4.length e4)) (.inr (by have := HZ.out; have := HG0.out; omega))).win (set_win _ (w.heap.size + 1) 0 (.int .i64 n0)) (.inr (by have := HZ.out; have := HG0.out; omega))).win (set_win _ (w.heap.size + 1) 1 (.int .i64 n1)) (.inr (by have := HZ.out; have := HG0.out; omega))).win (set_win _ (w.heap.size + 1) 2 (.slice E2 l2.length e2)) (.inr (by have := HZ.out; have := HG0.out; omega))).win (set_win _ (w.heap.size + 1) 3 (.slice E3 l3.length e3)) (.inr (by have := HZ.out; have := HG0.out; omega))).win (set_win _ (w.heap.size + 1) 4 (.slice E4 l4.length e4)) (.inr (by have := HZ.out; have := HG0.out; omega))
  have P1 := ((((((O1.out).win (set_win _ (w.heap.size + 1 + 1) 4 (.slice E4 l4.length e4)) (.inr (by have := HZ.out; have := HG1.out; omega))).win (set_win _ (w.heap.size + 1) 0 (.int .i64 n0)) (.inr (by have := HZ.out; have := HG1.out; omega))).win (set_win _ (w.heap.size + 1) 1 (.int .i64 n1)) (.inr (by have := HZ.out; have := HG1.out; omega))).win (set_win _ (w.heap.size + 1) 2 (.slice E2 l2.length e2)) (.inr (by have := HZ.out; have := HG1.out; omega))).win (set_win _ (w.heap.size + 1) 3 (.slice E3 l3.length e3)) (.inr (by have := HZ.out; have := HG1.out; omega))).win (set_win _ (w.heap.size + 1) 4 (.slice E4 l4.length e4)) (.inr (by have := HZ.out; have := HG1.out; omega))
  have P2 := ((((((O2.out).win (set_win _ (w.heap.size + 1 + 1) 4 (.slice E4 l4.length e4)) (.inr (by have := HZ.out; have := HG2.out; omega))).win (set_win _ (w.heap.size + 1) 0 (.int .i64 n0)) (.inr (by have := HZ.out; have := HG2.out; omega))).win (set_win _ (w.heap.size + 1) 1 (.int .i64 n1)) (.inr (by have := HZ.out; have := HG2.out; omega))).win (set_win _ (w.heap.size + 1) 2 (.slice E2 l2.length e2)) (.inr (by have := HZ.out; have := HG2.out; omega))).win (set_win _ (w.heap.size + 1) 3 (.slice E3 l3.length e3)) (.inr (by have := HZ.out; have := HG2.out; omega))).win (set_win _ (w.heap.size + 1) 4 (.slice E4 l4.length e4)) (.inr (by have := HZ.out; have := HG2.out; omega))
  have es := HES.out
  have PF := OwN.int n0 (OwN.int n1 (OwN.cons P0 (OwN.cons P1 (OwN.cons P2 (OwN.nil (B := w3.heap.size) (C := w3.heap.size) (by simp only [es]; exact Nat.le_refl _)) HZ02.out (Nat.le_refl _)) HZ01.out (HZ02.out)) HZ00.out (Nat.le_trans (HZ01.out) HZ02.out)))
  exact bodyPost_ret (v := .agg #[.int .i64 n0, .int .i64 n1, .slice E2 l2.length e2, .slice E3 l3.length e3, .slice E4 l4.length e4]) (by simp [results, Try.results16, go_sem, x0, x1, x2, x3, x4]) rfl ⟨[.int .i64 n0, .int .i64 n1, .slice E2 l2.length e2, .slice E3 l3.length e3, .slice E4 l4.length e4], rfl, PF.mono (by have := HB.out.size; have := HZ.out; omega) (by simp only [es]; exact Nat.le_refl _) (Nat.le_refl _), BF⟩
theorem eqA_Init (y : InitM) {vs us : List Value} {w : World} (h : RdA w y.vs vs) (k : RdA w y.vs us) : Calls Try.prog 19 #[.agg vs.toArray, .agg us.toArray] w (EqR w) := by
  obtain ⟨A2, c2, A3, c3, A4, c4, rfl⟩ := shape_Init (h)
  obtain ⟨B2, d2, B3, d3, B4, d4, rfl⟩ := shape_Init (k)
  exact eq_Init y.Tag y.Tsn y.Random y.Addrs y.Cookie _ _ _ _ _ _ w h.tl.tl.hd h.tl.tl.tl.hd h.tl.tl.tl.tl.hd k.tl.tl.hd k.tl.tl.tl.hd k.tl.tl.tl.tl.hd
theorem markA_Init (y : InitM) {vs : List Value} {S : Fp} {k : Nat} {w : World} (hS : Sub S (Wn 0 w.heap.size)) (h : OwA w y.vs S vs) (hk : k + vcA y.vs ≤ 1000000000000) : Calls Try.prog 20 #[.agg vs.toArray, .int .i64 k] w (MkA y.vs S vs k w) := by
  obtain ⟨A2, c2, A3, c3, A4, c4, rfl⟩ := shape_Init (h.rd)
  exact mark_Init y.Tag y.Tsn y.Random y.Addrs y.Cookie _ _ _ S k w hS h hk
theorem szA_Init (y : InitM) {vs : List Value} {left : Int} {w : World} (h : RdA w y.vs vs) (h0 : 0 ≤ left) (h1 : left ≤ 1048576) : Calls Try.prog 14 #[.agg vs.toArray, .int .i64 left] w (SzR left (tot.totL y.vs) w) := by
  obtain ⟨A2, c2, A3, c3, A4, c4, rfl⟩ := shape_Init (h)
  exact sz_Init y.Tag y.Tsn y.Random y.Addrs y.Cookie _ _ _ left w h.tl.tl.hd h.tl.tl.tl.hd h.tl.tl.tl.tl.hd h0 h1
theorem toA_Init (y : InitM) {vs : List Value} {w : World} (h : RdA w y.vs vs) (hm : tot.totL y.vs ≤ 1048576) : Calls Try.prog 16 #[.agg vs.toArray] w (Res w y.vs) := by
  obtain ⟨A2, c2, A3, c3, A4, c4, rfl⟩ := shape_Init (h)
  exact to_Init y.Tag y.Tsn y.Random y.Addrs y.Cookie _ _ _ w h.tl.tl.hd h.tl.tl.tl.hd h.tl.tl.tl.tl.hd hm
theorem cnt_Init (y : InitM) (h : tot.totL y.vs ≤ 1048576) : vcA y.vs ≤ 1000000000 := by
  simp only [InitM.vs, vcA, vc, tot.totL, tot, cc] at *
  omega
theorem mem_Init {w : World} {g o : Nat} {y : InitM} (h : RdL w y.vs g o) : ∃ (A2 : Option Addr) (c2 : Nat) (A3 : Option Addr) (c3 : Nat) (A4 : Option Addr) (c4 : Nat), w.cell? ⟨g, o, none⟩ = some (.int .i64 y.Tag) ∧ w.cell? ⟨g, o + 1, none⟩ = some (.int .i64 y.Tsn) ∧ w.cell? ⟨g, o + 2, none⟩ = some (.slice A2 y.Random.length c2) ∧ w.cell? ⟨g, o + 3, none⟩ = some (.slice A3 y.Addrs.length c3) ∧ w.cell? ⟨g, o + 4, none⟩ = some (.slice A4 y.Cookie.length c4) ∧ Rd w (.bs y.Random) (.slice A2 y.Random.length c2) ∧ Rd w (.is y.Addrs) (.slice A3 y.Addrs.length c3) ∧ Rd w (.bs y.Cookie) (.slice A4 y.Cookie.length c4) := by
  obtain ⟨u0, p0, t0⟩ := h.get? 0 (.int y.Tag) rfl
  have e0 := t0.int_out
  subst e0
  obtain ⟨u1, p1, t1⟩ := h.get? 1 (.int y.Tsn) rfl
  have e1 := t1.int_out
  subst e1
  obtain ⟨u2, p2, t2⟩ := h.get? 2 (.bs y.Random) rfl
  obtain ⟨A2, c2, e2⟩ := t2.bs_sh
  subst e2
  obtain ⟨u3, p3, t3⟩ := h.get? 3 (.is y.Addrs) rfl
  obtain ⟨A3, c3, e3⟩ := t3.is_sh
  subst e3
  obtain ⟨u4, p4, t4⟩ := h.get? 4 (.bs y.Cookie) rfl
  obtain ⟨A4, c4, e4⟩ := t4.bs_sh
  subst e4
  rw [Nat.add_zero] at p0
  exact ⟨A2, c2, A3, c3, A4, c4, p0, p1, p2, p3, p4, t2, t3, t4⟩
section
variable {H : Type} {enc : TypeId × Value → H} {w : World} {base : Nat} {spare : Nat → Bool} {held : Bool}
theorem cells_Init : Try.prog.cellsOf 32 = 5 := by kernel_rfl
theorem cells_Init_0 : Try.prog.cellsOf 2 = 1 := by kernel_rfl
theorem cells_Init_1 : Try.prog.cellsOf 2 = 1 := by kernel_rfl
theorem cells_Init_2 : Try.prog.cellsOf 29 = 1 := by kernel_rfl
theorem cells_Init_3 : Try.prog.cellsOf 30 = 1 := by kernel_rfl
theorem cells_Init_4 : Try.prog.cellsOf 29 = 1 := by kernel_rfl
set_option maxHeartbeats 1000000 in
theorem open_Init {n : Nat} {cs : List Value} {x : DataW H × List MemPlace} (h : DataW.trod enc Try.prog w base spare held n 32 cs = some x) : ∃ y : InitM, RdA w y.vs cs ∧ WfA y.vs := by
  obtain ⟨xs, m, _, _, hl, hlen, hf⟩ := DataW.trod_struct Try.underlying32 h
  rw [cells_Init] at hl
  have hlen2 : xs.length = 5 := hlen
  obtain ⟨v0, v1, v2, v3, v4, rfl⟩ := list_5 hl
  obtain ⟨y0, y1, y2, y3, y4, rfl⟩ := list_5 hlen2
  have t0 : DataW.trod enc Try.prog w base spare held m 2 (([v0, v1, v2, v3, v4].drop 0).take (Try.prog.cellsOf 2)) = _ := hf 0 _ rfl
  rw [cells_Init_0] at t0
  replace t0 : DataW.trod enc Try.prog w base spare held m 2 [v0] = some y0 := t0
  have t1 : DataW.trod enc Try.prog w base spare held m 2 (([v0, v1, v2, v3, v4].drop 1).take (Try.prog.cellsOf 2)) = _ := hf 1 _ rfl
  rw [cells_Init_1] at t1
  replace t1 : DataW.trod enc Try.prog w base spare held m 2 [v1] = some y1 := t1
  have t2 : DataW.trod enc Try.prog w base spare held m 29 (([v0, v1, v2, v3, v4].drop 2).take (Try.prog.cellsOf 29)) = _ := hf 2 _ rfl
  rw [cells_Init_2] at t2
  replace t2 : DataW.trod enc Try.prog w base spare held m 29 [v2] = some y2 := t2
  have t3 : DataW.trod enc Try.prog w base spare held m 30 (([v0, v1, v2, v3, v4].drop 3).take (Try.prog.cellsOf 30)) = _ := hf 3 _ rfl
  rw [cells_Init_3] at t3
  replace t3 : DataW.trod enc Try.prog w base spare held m 30 [v3] = some y3 := t3
  have t4 : DataW.trod enc Try.prog w base spare held m 29 (([v0, v1, v2, v3, v4].drop 4).take (Try.prog.cellsOf 29)) = _ := hf 4 _ rfl
  rw [cells_Init_4] at t4
  replace t4 : DataW.trod enc Try.prog w base spare held m 29 [v4] = some y4 := t4
  obtain ⟨n0, e0, _, w0⟩ := DataW.trod_int Try.underlying2 t0
  simp only [List.cons.injEq, and_true] at e0
  subst e0
  obtain ⟨n1, e1, _, w1⟩ := DataW.trod_int Try.underlying2 t1
  simp only [List.cons.injEq, and_true] at e1
  subst e1
  obtain ⟨n2, r2, w2⟩ := open_bs t2
  obtain ⟨n3, r3, w3⟩ := open_is t3
  obtain ⟨n4, r4, w4⟩ := open_bs t4
  exact ⟨⟨n0, n1, n2, n3, n4⟩, RdA.int_mk (RdA.int_mk (RdA.any_mk r2 (RdA.any_mk r3 (RdA.any_mk r4 (RdA.nil_mk))))), ⟨wf_int w0, ⟨wf_int w1, ⟨w2, ⟨w3, ⟨w4, trivial⟩⟩⟩⟩⟩⟩
theorem opened_Init {cs0 : Array Value} {d : DataW H} {pl : List MemPlace} (h : DataW.Trod enc Try.prog w base spare held 32 (.agg cs0) d pl) : ∃ (y : InitM) (A2 : Option Addr) (c2 : Nat) (A3 : Option Addr) (c3 : Nat) (A4 : Option Addr) (c4 : Nat), cs0 = #[.int .i64 y.Tag, .int .i64 y.Tsn, .slice A2 y.Random.length c2, .slice A3 y.Addrs.length c3, .slice A4 y.Cookie.length c4] ∧ RdA w y.vs [.int .i64 y.Tag, .int .i64 y.Tsn, .slice A2 y.Random.length c2, .slice A3 y.Addrs.length c3, .slice A4 y.Cookie.length c4] ∧ WfA y.vs := by
  obtain ⟨fuel, hf⟩ := h
  obtain ⟨y, h1, h2⟩ := open_Init hf
  have h3 := h1
  obtain ⟨A2, c2, A3, c3, A4, c4, e⟩ := shape_Init h3
  rw [e] at h1
  refine ⟨y, A2, c2, A3, c3, A4, c4, ?_, h1, h2⟩
  simp only [Value.cells] at e
  exact Array.ext' (by simpa using e)
end
structure InitResultM where
  Code : Int
  Init_Tag : Int
  Init_Tsn : Int
  Init_Random : List Int
  Init_Addrs : List Int
  Init_Cookie : List Int
def InitResultM.vs (x : InitResultM) : List V := [.int x.Code, .int x.Init_Tag, .int x.Init_Tsn, .bs x.Init_Random, .is x.Init_Addrs, .bs x.Init_Cookie]
theorem shape_InitResult {w : World} {n0 : Int} {n1 : Int} {n2 : Int} {l3 : List Int} {l4 : List Int} {l5 : List Int} {vs : List Value} (h : RdA w [.int n0, .int n1, .int n2, .bs l3, .is l4, .bs l5] vs) : ∃ (A3 : Option Addr) (c3 : Nat) (A4 : Option Addr) (c4 : Nat) (A5 : Option Addr) (c5 : Nat), vs = [.int .i64 n0, .int .i64 n1, .int .i64 n2, .slice A3 l3.length c3, .slice A4 l4.length c4, .slice A5 l5.length c5] := by
  obtain ⟨q0, e0, t0⟩ := h.int_out
  subst e0
  obtain ⟨q1, e1, t1⟩ := t0.int_out
  subst e1
  obtain ⟨q2, e2, t2⟩ := t1.int_out
  subst e2
  obtain ⟨v3, q3, e3, h3, t3⟩ := t2.any_out
  obtain ⟨A3, c3, a3⟩ := h3.bs_sh
  subst e3 a3
  obtain ⟨v4, q4, e4, h4, t4⟩ := t3.any_out
  obtain ⟨A4, c4, a4⟩ := h4.is_sh
  subst e4 a4
  obtain ⟨v5, q5, e5, h5, t5⟩ := t4.any_out
  obtain ⟨A5, c5, a5⟩ := h5.bs_sh
  subst e5 a5
  have z := t5.nil_out
  subst z
  exact ⟨A3, c3, A4, c4, A5, c5, rfl⟩
theorem cnt_InitResult (y : InitResultM) (h : tot.totL y.vs ≤ 1048576) : vcA y.vs ≤ 1000000000 := by
  simp only [InitResultM.vs, vcA, vc, tot.totL, tot, cc] at *
  omega
theorem mem_InitResult {w : World} {g o : Nat} {y : InitResultM} (h : RdL w y.vs g o) : ∃ (A3 : Option Addr) (c3 : Nat) (A4 : Option Addr) (c4 : Nat) (A5 : Option Addr) (c5 : Nat), w.cell? ⟨g, o, none⟩ = some (.int .i64 y.Code) ∧ w.cell? ⟨g, o + 1, none⟩ = some (.int .i64 y.Init_Tag) ∧ w.cell? ⟨g, o + 2, none⟩ = some (.int .i64 y.Init_Tsn) ∧ w.cell? ⟨g, o + 3, none⟩ = some (.slice A3 y.Init_Random.length c3) ∧ w.cell? ⟨g, o + 4, none⟩ = some (.slice A4 y.Init_Addrs.length c4) ∧ w.cell? ⟨g, o + 5, none⟩ = some (.slice A5 y.Init_Cookie.length c5) ∧ Rd w (.bs y.Init_Random) (.slice A3 y.Init_Random.length c3) ∧ Rd w (.is y.Init_Addrs) (.slice A4 y.Init_Addrs.length c4) ∧ Rd w (.bs y.Init_Cookie) (.slice A5 y.Init_Cookie.length c5) := by
  obtain ⟨u0, p0, t0⟩ := h.get? 0 (.int y.Code) rfl
  have e0 := t0.int_out
  subst e0
  obtain ⟨u1, p1, t1⟩ := h.get? 1 (.int y.Init_Tag) rfl
  have e1 := t1.int_out
  subst e1
  obtain ⟨u2, p2, t2⟩ := h.get? 2 (.int y.Init_Tsn) rfl
  have e2 := t2.int_out
  subst e2
  obtain ⟨u3, p3, t3⟩ := h.get? 3 (.bs y.Init_Random) rfl
  obtain ⟨A3, c3, e3⟩ := t3.bs_sh
  subst e3
  obtain ⟨u4, p4, t4⟩ := h.get? 4 (.is y.Init_Addrs) rfl
  obtain ⟨A4, c4, e4⟩ := t4.is_sh
  subst e4
  obtain ⟨u5, p5, t5⟩ := h.get? 5 (.bs y.Init_Cookie) rfl
  obtain ⟨A5, c5, e5⟩ := t5.bs_sh
  subst e5
  rw [Nat.add_zero] at p0
  exact ⟨A3, c3, A4, c4, A5, c5, p0, p1, p2, p3, p4, p5, t3, t4, t5⟩
structure AnswerM where
  Serial : Int
  Codes : List Int
def AnswerM.vs (x : AnswerM) : List V := [.int x.Serial, .is x.Codes]
theorem shape_Answer {w : World} {n0 : Int} {l1 : List Int} {vs : List Value} (h : RdA w [.int n0, .is l1] vs) : ∃ (A1 : Option Addr) (c1 : Nat), vs = [.int .i64 n0, .slice A1 l1.length c1] := by
  obtain ⟨q0, e0, t0⟩ := h.int_out
  subst e0
  obtain ⟨v1, q1, e1, h1, t1⟩ := t0.any_out
  obtain ⟨A1, c1, a1⟩ := h1.is_sh
  subst e1 a1
  have z := t1.nil_out
  subst z
  exact ⟨A1, c1, rfl⟩
theorem cnt_Answer (y : AnswerM) (h : tot.totL y.vs ≤ 1048576) : vcA y.vs ≤ 1000000000 := by
  simp only [AnswerM.vs, vcA, vc, tot.totL, tot, cc] at *
  omega
theorem mem_Answer {w : World} {g o : Nat} {y : AnswerM} (h : RdL w y.vs g o) : ∃ (A1 : Option Addr) (c1 : Nat), w.cell? ⟨g, o, none⟩ = some (.int .i64 y.Serial) ∧ w.cell? ⟨g, o + 1, none⟩ = some (.slice A1 y.Codes.length c1) ∧ Rd w (.is y.Codes) (.slice A1 y.Codes.length c1) := by
  obtain ⟨u0, p0, t0⟩ := h.get? 0 (.int y.Serial) rfl
  have e0 := t0.int_out
  subst e0
  obtain ⟨u1, p1, t1⟩ := h.get? 1 (.is y.Codes) rfl
  obtain ⟨A1, c1, e1⟩ := t1.is_sh
  subst e1
  rw [Nat.add_zero] at p0
  exact ⟨A1, c1, p0, p1, t1⟩
structure AnswerResultM where
  Code : Int
  Answer_Serial : Int
  Answer_Codes : List Int
def AnswerResultM.vs (x : AnswerResultM) : List V := [.int x.Code, .int x.Answer_Serial, .is x.Answer_Codes]
theorem shape_AnswerResult {w : World} {n0 : Int} {n1 : Int} {l2 : List Int} {vs : List Value} (h : RdA w [.int n0, .int n1, .is l2] vs) : ∃ (A2 : Option Addr) (c2 : Nat), vs = [.int .i64 n0, .int .i64 n1, .slice A2 l2.length c2] := by
  obtain ⟨q0, e0, t0⟩ := h.int_out
  subst e0
  obtain ⟨q1, e1, t1⟩ := t0.int_out
  subst e1
  obtain ⟨v2, q2, e2, h2, t2⟩ := t1.any_out
  obtain ⟨A2, c2, a2⟩ := h2.is_sh
  subst e2 a2
  have z := t2.nil_out
  subst z
  exact ⟨A2, c2, rfl⟩
theorem cnt_AnswerResult (y : AnswerResultM) (h : tot.totL y.vs ≤ 1048576) : vcA y.vs ≤ 1000000000 := by
  simp only [AnswerResultM.vs, vcA, vc, tot.totL, tot, cc] at *
  omega
theorem mem_AnswerResult {w : World} {g o : Nat} {y : AnswerResultM} (h : RdL w y.vs g o) : ∃ (A2 : Option Addr) (c2 : Nat), w.cell? ⟨g, o, none⟩ = some (.int .i64 y.Code) ∧ w.cell? ⟨g, o + 1, none⟩ = some (.int .i64 y.Answer_Serial) ∧ w.cell? ⟨g, o + 2, none⟩ = some (.slice A2 y.Answer_Codes.length c2) ∧ Rd w (.is y.Answer_Codes) (.slice A2 y.Answer_Codes.length c2) := by
  obtain ⟨u0, p0, t0⟩ := h.get? 0 (.int y.Code) rfl
  have e0 := t0.int_out
  subst e0
  obtain ⟨u1, p1, t1⟩ := h.get? 1 (.int y.Answer_Serial) rfl
  have e1 := t1.int_out
  subst e1
  obtain ⟨u2, p2, t2⟩ := h.get? 2 (.is y.Answer_Codes) rfl
  obtain ⟨A2, c2, e2⟩ := t2.is_sh
  subst e2
  rw [Nat.add_zero] at p0
  exact ⟨A2, c2, p0, p1, p2, t2⟩
end Go.Proofs.Ytjjileefdjjijaa
