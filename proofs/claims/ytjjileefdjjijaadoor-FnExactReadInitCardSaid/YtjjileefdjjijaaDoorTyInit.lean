/- Init, Answer and their results (WRITTEN BY tools/kinds.py) -/
import Derived.Test.YtjjileefdjjijaaDoorMa5
namespace Go.Proofs.YtjjileefdjjijaaDoor
open Go.RowKit Go.Deep Go.ChangeShapes Go.WideShapes Go.ChangeAt

structure InitM where
  Tag : Int
  Tsn : Int
  Random : List Int
  Addrs : List Int
  Cookie : List Int
def InitM.vs (x : InitM) : List V := [.int x.Tag, .int x.Tsn, .bs x.Random, .is x.Addrs, .bs x.Cookie]
theorem shape_Init {w : World} {n0 : Int} {n1 : Int} {l2 : List Int} {l3 : List Int} {l4 : List Int} {vs : List Value} (h : RdA w [.int n0, .int n1, .bs l2, .is l3, .bs l4] vs) : ∃ (A2 : Option Addr) (c2 : Nat) (A3 : Option Addr) (c3 : Nat) (A4 : Option Addr) (c4 : Nat), vs = [.int .i64 n0, .int .i64 n1, .slice A2 l2.length c2, .slice A3 l3.length c3, .slice A4 l4.length c4] := by
  obtain ⟨q0, e0, t0⟩ := h.int_out
  subst e0
  obtain ⟨q1, e1, t1⟩ := t0.int_out
  subst e1
  obtain ⟨v2, q2, e2, h2, t2⟩ := t1.any_out
  obtain ⟨A2, c2, a2⟩ := h2.bs_sh
  subst e2 a2
  obtain ⟨v3, q3, e3, h3, t3⟩ := t2.any_out
  obtain ⟨A3, c3, a3⟩ := h3.is_sh
  subst e3 a3
  obtain ⟨v4, q4, e4, h4, t4⟩ := t3.any_out
  obtain ⟨A4, c4, a4⟩ := h4.bs_sh
  subst e4 a4
  have z := t4.nil_out
  subst z
  exact ⟨A2, c2, A3, c3, A4, c4, rfl⟩
set_option maxRecDepth 100000 in
set_option maxHeartbeats 1000000 in
theorem eq_Init (n0 : Int) (n1 : Int) (l2 : List Int) (l3 : List Int) (l4 : List Int) (v2 u2 v3 u3 v4 u4 : Value) (w : World) (hv2 : Rd w (.bs l2) v2) (hv3 : Rd w (.is l3) v3) (hv4 : Rd w (.bs l4) v4) (hu2 : Rd w (.bs l2) u2) (hu3 : Rd w (.is l3) u3) (hu4 : Rd w (.bs l4) u4) :
    Calls Tryd.prog 95 #[.agg #[.int .i64 n0, .int .i64 n1, v2, v3, v4], .agg #[.int .i64 n0, .int .i64 n1, u2, u3, u4]] w (EqR w) := by
  obtain ⟨A2, c2, rfl⟩ := hv2.bs_sh
  obtain ⟨A3, c3, rfl⟩ := hv3.is_sh
  obtain ⟨A4, c4, rfl⟩ := hv4.bs_sh
  obtain ⟨B2, d2, rfl⟩ := hu2.bs_sh
  obtain ⟨B3, d3, rfl⟩ := hu3.is_sh
  obtain ⟨B4, d4, rfl⟩ := hu4.bs_sh
  have K1 := (Blk.new w 39 #[.int .i64 n0, .int .i64 n1, .slice A2 l2.length c2, .slice A3 l3.length c3, .slice A4 l4.length c4]).alloc (.cells #[.int .i64 n0, .int .i64 n1, .slice B2 l2.length d2, .slice B3 l3.length d3, .slice B4 l4.length d4] 39)
  have K2 := Blk.new (w.alloc (.cells #[.int .i64 n0, .int .i64 n1, .slice A2 l2.length c2, .slice A3 l3.length c3, .slice A4 l4.length c4] 39)) 39 #[.int .i64 n0, .int .i64 n1, .slice B2 l2.length d2, .slice B3 l3.length d3, .slice B4 l4.length d4]
  have B0 := bal (bal (Below.refl w.heap.size w) (.cells #[.int .i64 n0, .int .i64 n1, .slice A2 l2.length c2, .slice A3 l3.length c3, .slice A4 l4.length c4] 39)) (.cells #[.int .i64 n0, .int .i64 n1, .slice B2 l2.length d2, .slice B3 l3.length d3, .slice B4 l4.length d4] 39)
  rw [World.size_alloc] at K2
  obtain ⟨W, hW⟩ : ∃ W, (w.alloc (.cells #[.int .i64 n0, .int .i64 n1, .slice A2 l2.length c2, .slice A3 l3.length c3, .slice A4 l4.length c4] 39)).alloc (.cells #[.int .i64 n0, .int .i64 n1, .slice B2 l2.length d2, .slice B3 l3.length d3, .slice B4 l4.length d4] 39) = W := ⟨_, rfl⟩
  rw [hW] at K1 K2 B0
  have HW := hidH hW
  have HB := hidH B0
  have HA := hidH K1
  have HC := hidH K2
  have HV2 := hidH (fun (u : World) (h : Below w.heap.size w u) => Rd.below h _ hv2)
  have HU2 := hidH (fun (u : World) (h : Below w.heap.size w u) => Rd.below h _ hu2)
  have HV3 := hidH (fun (u : World) (h : Below w.heap.size w u) => Rd.below h _ hv3)
  have HU3 := hidH (fun (u : World) (h : Below w.heap.size w u) => Rd.below h _ hu3)
  have HV4 := hidH (fun (u : World) (h : Below w.heap.size w u) => Rd.below h _ hv4)
  have HU4 := hidH (fun (u : World) (h : Below w.heap.size w u) => Rd.below h _ hu4)
  clear hW K1 K2 B0 hv2 hu2 hv3 hu3 hv4 hu4
  go_enter Tryd.func95, Tryd.ntmps95
  go_wp2_with fail
  rw [HW.out]
  refine (eqB_rd l2 _ _ _ (HV2.out _ HB.out) (HU2.out _ HB.out)).mono ?_
  rintro e w1 ⟨rfl, hb⟩
  replace HA := hidH (HA.out.below hb)
  replace HC := hidH (HC.out.below hb)
  replace HB := hidH (btr HB.out hb)
  clear hb
  have p3 := HA.out.cell 3
  have q3 := HC.out.cell 3
  simp only [List.getElem?_toArray, List.getElem?_cons_succ, List.getElem?_cons_zero] at p3 q3
  have gp := HA.out.lt
  have gq := HC.out.lt
  go_wp2_with fail
  clear p3 q3 gp gq
  refine (eqI_rd l3 _ _ _ (HV3.out _ HB.out) (HU3.out _ HB.out)).mono ?_
  rintro e w2 ⟨rfl, hb⟩
  replace HA := hidH (HA.out.below hb)
  replace HC := hidH (HC.out.below hb)
  replace HB := hidH (btr HB.out hb)
  clear hb
  have p4 := HA.out.cell 4
  have q4 := HC.out.cell 4
  simp only [List.getElem?_toArray, List.getElem?_cons_succ, List.getElem?_cons_zero] at p4 q4
  have gp := HA.out.lt
  have gq := HC.out.lt
  go_wp2_with fail
  clear p4 q4 gp gq
  refine (eqB_rd l4 _ _ _ (HV4.out _ HB.out) (HU4.out _ HB.out)).mono ?_
  rintro e w3 ⟨rfl, hb⟩
  replace HA := hidH (HA.out.below hb)
  replace HC := hidH (HC.out.below hb)
  replace HB := hidH (btr HB.out hb)
  clear hb
  go_wp2
  go_ret
  exact ⟨rfl, HB.out⟩
set_option maxRecDepth 100000 in
set_option maxHeartbeats 1000000 in
theorem mark_Init (n0 : Int) (n1 : Int) (l2 : List Int) (l3 : List Int) (l4 : List Int) (v2 v3 v4 : Value) (S : Fp) (k : Nat) (w : World) (hS : Sub S (Wn 0 w.heap.size)) (h : OwA w [.int n0, .int n1, .bs l2, .is l3, .bs l4] S [.int .i64 n0, .int .i64 n1, v2, v3, v4]) (hk : k + vcA [.int n0, .int n1, .bs l2, .is l3, .bs l4] ≤ 1000000000000) :
    Calls Tryd.prog 96 #[.agg #[.int .i64 n0, .int .i64 n1, v2, v3, v4], .int .i64 k] w (MkA [.int n0, .int n1, .bs l2, .is l3, .bs l4] S [.int .i64 n0, .int .i64 n1, v2, v3, v4] k w) := by
  have hr := h.rd
  have hv2 := hr.tl.tl.hd
  have hv3 := hr.tl.tl.tl.hd
  have hv4 := hr.tl.tl.tl.tl.hd
  obtain ⟨A2, c2, rfl⟩ := hv2.bs_sh
  obtain ⟨A3, c3, rfl⟩ := hv3.is_sh
  obtain ⟨A4, c4, rfl⟩ := hv4.bs_sh
  clear hr hv2 hv3 hv4
  have K1 := Blk.new w 39 #[.int .i64 n0, .int .i64 n1, .slice A2 l2.length c2, .slice A3 l3.length c3, .slice A4 l4.length c4]
  have B0 := bal (Below.refl w.heap.size w) (.cells #[.int .i64 n0, .int .i64 n1, .slice A2 l2.length c2, .slice A3 l3.length c3, .slice A4 l4.length c4] 39)
  obtain ⟨W, hW⟩ : ∃ W, w.alloc (.cells #[.int .i64 n0, .int .i64 n1, .slice A2 l2.length c2, .slice A3 l3.length c3, .slice A4 l4.length c4] 39) = W := ⟨_, rfl⟩
  rw [hW] at K1 B0
  have HW := hidH hW
  have HB := hidH B0
  have HA := hidH K1
  replace h := OwA.kept (Kept.of_below B0) h
  have hcnt : vcA [.int n0, .int n1, .bs l2, .is l3, .bs l4] = cc (.bs l2) + cc (.is l3) + cc (.bs l4) := by simp only [vcA, vc] <;> omega
  unfold MkA
  rw [hcnt] at hk ⊢
  obtain ⟨T0, s0, h, G0⟩ := OwA.step_int h
  have s0 := Sub.trans s0 hS
  have G0 := hidH G0
  obtain ⟨T1, s1, h, G1⟩ := OwA.step_int h
  have s1 := Sub.trans s1 s0
  have G1 := hidH G1
  obtain ⟨T2, s2, hO, G2⟩ := OwA.step (y := mkc (k) (.bs l2)) h
  have s2 := Sub.trans s2 s1
  have HO := hidH hO
  have G2 := hidH G2
  clear hO h
  clear hW B0 K1
  go_enter Tryd.func96, Tryd.ntmps96
  go_wp2_with fail
  rw [HW.out]
  refine (markB_ow l2 T2 _ (k) _ HO.out (by omega)).mono ?_
  rintro e w1 ⟨rfl, hc, ho⟩
  replace HA := hidH (HA.out.chg hc s2)
  have HC0 := hidH hc
  obtain ⟨T3, s3, h, G3⟩ := G2.out _ hc ho
  have s3 := Sub.trans s3 s1
  have G3 := hidH G3
  clear HO hc ho
  obtain ⟨T4, s4, hO, G4⟩ := OwA.step (y := mkc (k + cc (.bs l2)) (.is l3)) h
  have s4 := Sub.trans s4 s3
  have HO := hidH hO
  have G4 := hidH G4
  clear hO h
  have p3 := HA.out.cell 3
  simp only [List.getElem?_toArray, List.getElem?_cons_succ, List.getElem?_cons_zero] at p3
  have gp := HA.out.lt
  go_wp2_with fail
  clear p3 gp
  refine (markI_ow l3 T4 _ (k + cc (.bs l2)) _ HO.out (by omega)).mono ?_
  rintro e w2 ⟨rfl, hc, ho⟩
  replace HA := hidH (HA.out.chg hc s4)
  have HC1 := hidH hc
  obtain ⟨T5, s5, h, G5⟩ := G4.out _ hc ho
  have s5 := Sub.trans s5 s3
  have G5 := hidH G5
  clear HO hc ho
  obtain ⟨T6, s6, hO, G6⟩ := OwA.step (y := mkc (k + cc (.bs l2) + cc (.is l3)) (.bs l4)) h
  have s6 := Sub.trans s6 s5
  have HO := hidH hO
  have G6 := hidH G6
  clear hO h
  have p4 := HA.out.cell 4
  simp only [List.getElem?_toArray, List.getElem?_cons_succ, List.getElem?_cons_zero] at p4
  have gp := HA.out.lt
  go_wp2_with fail
  clear p4 gp
  refine (markB_ow l4 T6 _ (k + cc (.bs l2) + cc (.is l3)) _ HO.out (by omega)).mono ?_
  rintro e w3 ⟨rfl, hc, ho⟩
  replace HA := hidH (HA.out.chg hc s6)
  have HC2 := hidH hc
  obtain ⟨T7, s7, h, G7⟩ := G6.out _ hc ho
  have s7 := Sub.trans s7 s5
  have G7 := hidH G7
  clear HO hc ho
  obtain ⟨hc, h⟩ := OwA.nil_step h
  obtain ⟨hc, h⟩ := G7.out _ _ hc h
  obtain ⟨hc, h⟩ := G5.out _ _ hc h
  obtain ⟨hc, h⟩ := G3.out _ _ hc h
  obtain ⟨hc, h⟩ := G1.out _ _ hc h
  obtain ⟨hc, h⟩ := G0.out _ _ hc h
  have HCC := hidH ((Chg.of_below HB.out).trans hc)
  have HO := hidH h
  clear hc h
  go_wp2
  go_ret
  refine ⟨ret_int (by (try simp only [vcA, vc]) <;> omega), HCC.out, HO.out⟩
set_option maxRecDepth 100000 in
set_option maxHeartbeats 1000000 in
theorem held_Init (n0 : Int) (n1 : Int) (l2 : List Int) (l3 : List Int) (l4 : List Int) (v2 v3 v4 : Value) (k : Nat) (w : World) (hv2 : Rd w (mkc (k) (.bs l2)) v2) (hv3 : Rd w (mkc (k + cc (.bs l2)) (.is l3)) v3) (hv4 : Rd w (mkc (k + cc (.bs l2) + cc (.is l3)) (.bs l4)) v4) (hk : k + vcA [.int n0, .int n1, .bs l2, .is l3, .bs l4] ≤ 1000000000000) :
    Calls Tryd.prog 97 #[.agg #[.int .i64 n0, .int .i64 n1, v2, v3, v4], .int .i64 k] w (HeA [.int n0, .int n1, .bs l2, .is l3, .bs l4] k w) := by
  obtain ⟨A2, n2, c2, rfl⟩ := mkc_bs_sh hv2
  obtain ⟨A3, n3, c3, rfl⟩ := mkc_is_sh hv3
  obtain ⟨A4, n4, c4, rfl⟩ := mkc_bs_sh hv4
  have K1 := Blk.new w 39 #[.int .i64 n0, .int .i64 n1, .slice A2 n2 c2, .slice A3 n3 c3, .slice A4 n4 c4]
  have B0 := bal (Below.refl w.heap.size w) (.cells #[.int .i64 n0, .int .i64 n1, .slice A2 n2 c2, .slice A3 n3 c3, .slice A4 n4 c4] 39)
  obtain ⟨W, hW⟩ : ∃ W, w.alloc (.cells #[.int .i64 n0, .int .i64 n1, .slice A2 n2 c2, .slice A3 n3 c3, .slice A4 n4 c4] 39) = W := ⟨_, rfl⟩
  rw [hW] at K1 B0
  have HW := hidH hW
  have HB := hidH B0
  have HA := hidH K1
  have hcnt : vcA [.int n0, .int n1, .bs l2, .is l3, .bs l4] = cc (.bs l2) + cc (.is l3) + cc (.bs l4) := by simp only [vcA, vc] <;> omega
  unfold HeA
  rw [hcnt] at hk ⊢
  have HV2 := hidH (fun (u : World) (h : Below w.heap.size w u) => Rd.below h _ hv2)
  have HV3 := hidH (fun (u : World) (h : Below w.heap.size w u) => Rd.below h _ hv3)
  have HV4 := hidH (fun (u : World) (h : Below w.heap.size w u) => Rd.below h _ hv4)
  clear hW K1 B0 hv2 hv3 hv4
  go_enter Tryd.func97, Tryd.ntmps97
  go_wp2_with fail
  rw [HW.out]
  refine (heldB_rd l2 _ (k) _ (HV2.out _ HB.out) (by omega)).mono ?_
  rintro e w1 ⟨rfl, hb⟩
  replace HA := hidH (HA.out.below hb)
  replace HB := hidH (btr HB.out hb)
  have hpos : ¬ (((k + cc (.bs l2) : Nat) : Int) < 0) := by omega
  clear hb
  have p3 := HA.out.cell 3
  simp only [List.getElem?_toArray, List.getElem?_cons_succ, List.getElem?_cons_zero] at p3
  have gp := HA.out.lt
  go_wp2_with fail
  clear p3 gp
  refine (heldI_rd l3 _ (k + cc (.bs l2)) _ (HV3.out _ HB.out) (by omega)).mono ?_
  rintro e w2 ⟨rfl, hb⟩
  replace HA := hidH (HA.out.below hb)
  replace HB := hidH (btr HB.out hb)
  have hpos : ¬ (((k + cc (.bs l2) + cc (.is l3) : Nat) : Int) < 0) := by omega
  clear hb
  have p4 := HA.out.cell 4
  simp only [List.getElem?_toArray, List.getElem?_cons_succ, List.getElem?_cons_zero] at p4
  have gp := HA.out.lt
  go_wp2_with fail
  clear p4 gp
  refine (heldB_rd l4 _ (k + cc (.bs l2) + cc (.is l3)) _ (HV4.out _ HB.out) (by omega)).mono ?_
  rintro e w3 ⟨rfl, hb⟩
  replace HA := hidH (HA.out.below hb)
  replace HB := hidH (btr HB.out hb)
  have hpos : ¬ (((k + cc (.bs l2) + cc (.is l3) + cc (.bs l4) : Nat) : Int) < 0) := by omega
  clear hb
  go_wp2
  go_ret
  refine ⟨ret_int (by (try simp only [vcA, vc]) <;> omega), HB.out⟩
theorem eqA_Init (y : InitM) {vs us : List Value} {w : World} (h : RdA w y.vs vs) (k : RdA w y.vs us) : Calls Tryd.prog 95 #[.agg vs.toArray, .agg us.toArray] w (EqR w) := by
  obtain ⟨A2, c2, A3, c3, A4, c4, rfl⟩ := shape_Init (h)
  obtain ⟨B2, d2, B3, d3, B4, d4, rfl⟩ := shape_Init (k)
  exact eq_Init y.Tag y.Tsn y.Random y.Addrs y.Cookie _ _ _ _ _ _ w h.tl.tl.hd h.tl.tl.tl.hd h.tl.tl.tl.tl.hd k.tl.tl.hd k.tl.tl.tl.hd k.tl.tl.tl.tl.hd
theorem markA_Init (y : InitM) {vs : List Value} {S : Fp} {k : Nat} {w : World} (hS : Sub S (Wn 0 w.heap.size)) (h : OwA w y.vs S vs) (hk : k + vcA y.vs ≤ 1000000000000) : Calls Tryd.prog 96 #[.agg vs.toArray, .int .i64 k] w (MkA y.vs S vs k w) := by
  obtain ⟨A2, c2, A3, c3, A4, c4, rfl⟩ := shape_Init (h.rd)
  exact mark_Init y.Tag y.Tsn y.Random y.Addrs y.Cookie _ _ _ S k w hS h hk
theorem heldA_Init (y : InitM) {vs : List Value} {k : Nat} {w : World} (h : RdA w (mkA k y.vs) vs) (hk : k + vcA y.vs ≤ 1000000000000) : Calls Tryd.prog 97 #[.agg vs.toArray, .int .i64 k] w (HeA y.vs k w) := by
  obtain ⟨q0, e0, t0⟩ := RdA.int_out (n := y.Tag) h
  subst e0
  obtain ⟨q1, e1, t1⟩ := RdA.int_out (n := y.Tsn) t0
  subst e1
  obtain ⟨v2, q2, e2, h2, t2⟩ := RdA.any_out (x := mkc (k) (.bs y.Random)) t1
  subst e2
  obtain ⟨v3, q3, e3, h3, t3⟩ := RdA.any_out (x := mkc (k + cc (.bs y.Random)) (.is y.Addrs)) t2
  subst e3
  obtain ⟨v4, q4, e4, h4, t4⟩ := RdA.any_out (x := mkc (k + cc (.bs y.Random) + cc (.is y.Addrs)) (.bs y.Cookie)) t3
  subst e4
  have z := t4.nil_out
  subst z
  exact held_Init y.Tag y.Tsn y.Random y.Addrs y.Cookie _ _ _ k w h2 h3 h4 hk
theorem cnt_Init (y : InitM) (h : tot.totL y.vs ≤ 1048576) : vcA y.vs ≤ 1000000000 := by
  simp only [InitM.vs, vcA, vc, tot.totL, tot, cc] at *
  omega
theorem mem_Init {w : World} {g o : Nat} {y : InitM} (h : RdL w y.vs g o) : ∃ (A2 : Option Addr) (c2 : Nat) (A3 : Option Addr) (c3 : Nat) (A4 : Option Addr) (c4 : Nat), w.cell? ⟨g, o, none⟩ = some (.int .i64 y.Tag) ∧ w.cell? ⟨g, o + 1, none⟩ = some (.int .i64 y.Tsn) ∧ w.cell? ⟨g, o + 2, none⟩ = some (.slice A2 y.Random.length c2) ∧ w.cell? ⟨g, o + 3, none⟩ = some (.slice A3 y.Addrs.length c3) ∧ w.cell? ⟨g, o + 4, none⟩ = some (.slice A4 y.Cookie.length c4) ∧ Rd w (.bs y.Random) (.slice A2 y.Random.length c2) ∧ Rd w (.is y.Addrs) (.slice A3 y.Addrs.length c3) ∧ Rd w (.bs y.Cookie) (.slice A4 y.Cookie.length c4) := by
  obtain ⟨u0, p0, t0⟩ := h.get? 0 (.int y.Tag) rfl
  have e0 := t0.int_out
  subst e0
  obtain ⟨u1, p1, t1⟩ := h.get? 1 (.int y.Tsn) rfl
  have e1 := t1.int_out
  subst e1
  obtain ⟨u2, p2, t2⟩ := h.get? 2 (.bs y.Random) rfl
  obtain ⟨A2, c2, e2⟩ := t2.bs_sh
  subst e2
  obtain ⟨u3, p3, t3⟩ := h.get? 3 (.is y.Addrs) rfl
  obtain ⟨A3, c3, e3⟩ := t3.is_sh
  subst e3
  obtain ⟨u4, p4, t4⟩ := h.get? 4 (.bs y.Cookie) rfl
  obtain ⟨A4, c4, e4⟩ := t4.bs_sh
  subst e4
  rw [Nat.add_zero] at p0
  exact ⟨A2, c2, A3, c3, A4, c4, p0, p1, p2, p3, p4, t2, t3, t4⟩
structure InitResultM where
  Code : Int
  Init_Tag : Int
  Init_Tsn : Int
  Init_Random : List Int
  Init_Addrs : List Int
  Init_Cookie : List Int
def InitResultM.vs (x : InitResultM) : List V := [.int x.Code, .int x.Init_Tag, .int x.Init_Tsn, .bs x.Init_Random, .is x.Init_Addrs, .bs x.Init_Cookie]
theorem shape_InitResult {w : World} {n0 : Int} {n1 : Int} {n2 : Int} {l3 : List Int} {l4 : List Int} {l5 : List Int} {vs : List Value} (h : RdA w [.int n0, .int n1, .int n2, .bs l3, .is l4, .bs l5] vs) : ∃ (A3 : Option Addr) (c3 : Nat) (A4 : Option Addr) (c4 : Nat) (A5 : Option Addr) (c5 : Nat), vs = [.int .i64 n0, .int .i64 n1, .int .i64 n2, .slice A3 l3.length c3, .slice A4 l4.length c4, .slice A5 l5.length c5] := by
  obtain ⟨q0, e0, t0⟩ := h.int_out
  subst e0
  obtain ⟨q1, e1, t1⟩ := t0.int_out
  subst e1
  obtain ⟨q2, e2, t2⟩ := t1.int_out
  subst e2
  obtain ⟨v3, q3, e3, h3, t3⟩ := t2.any_out
  obtain ⟨A3, c3, a3⟩ := h3.bs_sh
  subst e3 a3
  obtain ⟨v4, q4, e4, h4, t4⟩ := t3.any_out
  obtain ⟨A4, c4, a4⟩ := h4.is_sh
  subst e4 a4
  obtain ⟨v5, q5, e5, h5, t5⟩ := t4.any_out
  obtain ⟨A5, c5, a5⟩ := h5.bs_sh
  subst e5 a5
  have z := t5.nil_out
  subst z
  exact ⟨A3, c3, A4, c4, A5, c5, rfl⟩
set_option maxRecDepth 100000 in
set_option maxHeartbeats 1000000 in
theorem eq_InitResult (n0 : Int) (n1 : Int) (n2 : Int) (l3 : List Int) (l4 : List Int) (l5 : List Int) (v3 u3 v4 u4 v5 u5 : Value) (w : World) (hv3 : Rd w (.bs l3) v3) (hv4 : Rd w (.is l4) v4) (hv5 : Rd w (.bs l5) v5) (hu3 : Rd w (.bs l3) u3) (hu4 : Rd w (.is l4) u4) (hu5 : Rd w (.bs l5) u5) :
    Calls Tryd.prog 46 #[.agg #[.int .i64 n0, .int .i64 n1, .int .i64 n2, v3, v4, v5], .agg #[.int .i64 n0, .int .i64 n1, .int .i64 n2, u3, u4, u5]] w (EqR w) := by
  obtain ⟨A3, c3, rfl⟩ := hv3.bs_sh
  obtain ⟨A4, c4, rfl⟩ := hv4.is_sh
  obtain ⟨A5, c5, rfl⟩ := hv5.bs_sh
  obtain ⟨B3, d3, rfl⟩ := hu3.bs_sh
  obtain ⟨B4, d4, rfl⟩ := hu4.is_sh
  obtain ⟨B5, d5, rfl⟩ := hu5.bs_sh
  have K1 := (Blk.new w 54 #[.int .i64 n0, .int .i64 n1, .int .i64 n2, .slice A3 l3.length c3, .slice A4 l4.length c4, .slice A5 l5.length c5]).alloc (.cells #[.int .i64 n0, .int .i64 n1, .int .i64 n2, .slice B3 l3.length d3, .slice B4 l4.length d4, .slice B5 l5.length d5] 54)
  have K2 := Blk.new (w.alloc (.cells #[.int .i64 n0, .int .i64 n1, .int .i64 n2, .slice A3 l3.length c3, .slice A4 l4.length c4, .slice A5 l5.length c5] 54)) 54 #[.int .i64 n0, .int .i64 n1, .int .i64 n2, .slice B3 l3.length d3, .slice B4 l4.length d4, .slice B5 l5.length d5]
  have B0 := bal (bal (Below.refl w.heap.size w) (.cells #[.int .i64 n0, .int .i64 n1, .int .i64 n2, .slice A3 l3.length c3, .slice A4 l4.length c4, .slice A5 l5.length c5] 54)) (.cells #[.int .i64 n0, .int .i64 n1, .int .i64 n2, .slice B3 l3.length d3, .slice B4 l4.length d4, .slice B5 l5.length d5] 54)
  rw [World.size_alloc] at K2
  obtain ⟨W, hW⟩ : ∃ W, (w.alloc (.cells #[.int .i64 n0, .int .i64 n1, .int .i64 n2, .slice A3 l3.length c3, .slice A4 l4.length c4, .slice A5 l5.length c5] 54)).alloc (.cells #[.int .i64 n0, .int .i64 n1, .int .i64 n2, .slice B3 l3.length d3, .slice B4 l4.length d4, .slice B5 l5.length d5] 54) = W := ⟨_, rfl⟩
  rw [hW] at K1 K2 B0
  have HW := hidH hW
  have HB := hidH B0
  have HA := hidH K1
  have HC := hidH K2
  have HV3 := hidH (fun (u : World) (h : Below w.heap.size w u) => Rd.below h _ hv3)
  have HU3 := hidH (fun (u : World) (h : Below w.heap.size w u) => Rd.below h _ hu3)
  have HV4 := hidH (fun (u : World) (h : Below w.heap.size w u) => Rd.below h _ hv4)
  have HU4 := hidH (fun (u : World) (h : Below w.heap.size w u) => Rd.below h _ hu4)
  have HV5 := hidH (fun (u : World) (h : Below w.heap.size w u) => Rd.below h _ hv5)
  have HU5 := hidH (fun (u : World) (h : Below w.heap.size w u) => Rd.below h _ hu5)
  clear hW K1 K2 B0 hv3 hu3 hv4 hu4 hv5 hu5
  go_enter Tryd.func46, Tryd.ntmps46
  go_wp2_with fail
  rw [HW.out]
  refine (eq_Init n1 n2 l3 l4 l5 _ _ _ _ _ _ _ (HV3.out _ HB.out) (HV4.out _ HB.out) (HV5.out _ HB.out) (HU3.out _ HB.out) (HU4.out _ HB.out) (HU5.out _ HB.out)).mono ?_
  rintro e w1 ⟨rfl, hb⟩
  replace HA := hidH (HA.out.below hb)
  replace HC := hidH (HC.out.below hb)
  replace HB := hidH (btr HB.out hb)
  clear hb
  go_wp2
  go_ret
  exact ⟨rfl, HB.out⟩
set_option maxRecDepth 100000 in
set_option maxHeartbeats 1000000 in
theorem mark_InitResult (n0 : Int) (n1 : Int) (n2 : Int) (l3 : List Int) (l4 : List Int) (l5 : List Int) (v3 v4 v5 : Value) (S : Fp) (k : Nat) (w : World) (hS : Sub S (Wn 0 w.heap.size)) (h : OwA w [.int n0, .int n1, .int n2, .bs l3, .is l4, .bs l5] S [.int .i64 n0, .int .i64 n1, .int .i64 n2, v3, v4, v5]) (hk : k + vcA [.int n0, .int n1, .int n2, .bs l3, .is l4, .bs l5] ≤ 1000000000000) :
    Calls Tryd.prog 47 #[.agg #[.int .i64 n0, .int .i64 n1, .int .i64 n2, v3, v4, v5], .int .i64 k] w (MkA [.int n0, .int n1, .int n2, .bs l3, .is l4, .bs l5] S [.int .i64 n0, .int .i64 n1, .int .i64 n2, v3, v4, v5] k w) := by
  have hr := h.rd
  have hv3 := hr.tl.tl.tl.hd
  have hv4 := hr.tl.tl.tl.tl.hd
  have hv5 := hr.tl.tl.tl.tl.tl.hd
  obtain ⟨A3, c3, rfl⟩ := hv3.bs_sh
  obtain ⟨A4, c4, rfl⟩ := hv4.is_sh
  obtain ⟨A5, c5, rfl⟩ := hv5.bs_sh
  clear hr hv3 hv4 hv5
  have K1 := Blk.new w 54 #[.int .i64 n0, .int .i64 n1, .int .i64 n2, .slice A3 l3.length c3, .slice A4 l4.length c4, .slice A5 l5.length c5]
  have B0 := bal (Below.refl w.heap.size w) (.cells #[.int .i64 n0, .int .i64 n1, .int .i64 n2, .slice A3 l3.length c3, .slice A4 l4.length c4, .slice A5 l5.length c5] 54)
  obtain ⟨W, hW⟩ : ∃ W, w.alloc (.cells #[.int .i64 n0, .int .i64 n1, .int .i64 n2, .slice A3 l3.length c3, .slice A4 l4.length c4, .slice A5 l5.length c5] 54) = W := ⟨_, rfl⟩
  rw [hW] at K1 B0
  have HW := hidH hW
  have HB := hidH B0
  have HA := hidH K1
  replace h := OwA.kept (Kept.of_below B0) h
  have hcnt : vcA [.int n0, .int n1, .int n2, .bs l3, .is l4, .bs l5] = cc (.bs l3) + cc (.is l4) + cc (.bs l5) := by simp only [vcA, vc] <;> omega
  unfold MkA
  rw [hcnt] at hk ⊢
  obtain ⟨T0, s0, h, G0⟩ := OwA.step_int h
  have s0 := Sub.trans s0 hS
  have G0 := hidH G0
  obtain ⟨T1, s1, hO, G1⟩ := OwA.step_app (xs := [.int n1, .int n2, .bs l3, .is l4, .bs l5]) (vs := [.int .i64 n1, .int .i64 n2, .slice A3 l3.length c3, .slice A4 l4.length c4, .slice A5 l5.length c5]) (ys := []) (us := []) (xs' := mkA (k) [.int n1, .int n2, .bs l3, .is l4, .bs l5]) rfl h
  have s1 := Sub.trans s1 s0
  have HO := hidH hO
  have G1 := hidH G1
  clear hO h
  clear hW B0 K1
  go_enter Tryd.func47, Tryd.ntmps47
  go_wp2_with fail
  rw [HW.out]
  refine (mark_Init n1 n2 l3 l4 l5 _ _ _ T1 (k) _ (Sub.trans s1 (Wn.sub (Nat.le_refl _) (Nat.le_of_lt HA.out.lt))) HO.out (by have : vcA [.int n1, .int n2, .bs l3, .is l4, .bs l5] = cc (.bs l3) + cc (.is l4) + cc (.bs l5) := (by simp only [vcA, vc] <;> omega); omega)).mono ?_
  rintro e w1 ⟨rfl, hc, ho⟩
  replace HA := hidH (HA.out.chg hc s1)
  have HC0 := hidH hc
  obtain ⟨T2, s2, h, G2⟩ := G1.out _ hc ho
  have s2 := Sub.trans s2 s0
  have G2 := hidH G2
  clear HO hc ho
  obtain ⟨hc, h⟩ := OwA.nil_step h
  obtain ⟨hc, h⟩ := G2.out _ _ hc h
  obtain ⟨hc, h⟩ := G0.out _ _ hc h
  have HCC := hidH ((Chg.of_below HB.out).trans hc)
  have HO := hidH h
  clear hc h
  go_wp2
  go_ret
  refine ⟨ret_int (by (try simp only [vcA, vc]) <;> omega), HCC.out, HO.out⟩
set_option maxRecDepth 100000 in
set_option maxHeartbeats 1000000 in
theorem held_InitResult (n0 : Int) (n1 : Int) (n2 : Int) (l3 : List Int) (l4 : List Int) (l5 : List Int) (v3 v4 v5 : Value) (k : Nat) (w : World) (hv3 : Rd w (mkc (k) (.bs l3)) v3) (hv4 : Rd w (mkc (k + cc (.bs l3)) (.is l4)) v4) (hv5 : Rd w (mkc (k + cc (.bs l3) + cc (.is l4)) (.bs l5)) v5) (hk : k + vcA [.int n0, .int n1, .int n2, .bs l3, .is l4, .bs l5] ≤ 1000000000000) :
    Calls Tryd.prog 48 #[.agg #[.int .i64 n0, .int .i64 n1, .int .i64 n2, v3, v4, v5], .int .i64 k] w (HeA [.int n0, .int n1, .int n2, .bs l3, .is l4, .bs l5] k w) := by
  obtain ⟨A3, n3, c3, rfl⟩ := mkc_bs_sh hv3
  obtain ⟨A4, n4, c4, rfl⟩ := mkc_is_sh hv4
  obtain ⟨A5, n5, c5, rfl⟩ := mkc_bs_sh hv5
  have K1 := Blk.new w 54 #[.int .i64 n0, .int .i64 n1, .int .i64 n2, .slice A3 n3 c3, .slice A4 n4 c4, .slice A5 n5 c5]
  have B0 := bal (Below.refl w.heap.size w) (.cells #[.int .i64 n0, .int .i64 n1, .int .i64 n2, .slice A3 n3 c3, .slice A4 n4 c4, .slice A5 n5 c5] 54)
  obtain ⟨W, hW⟩ : ∃ W, w.alloc (.cells #[.int .i64 n0, .int .i64 n1, .int .i64 n2, .slice A3 n3 c3, .slice A4 n4 c4, .slice A5 n5 c5] 54) = W := ⟨_, rfl⟩
  rw [hW] at K1 B0
  have HW := hidH hW
  have HB := hidH B0
  have HA := hidH K1
  have hcnt : vcA [.int n0, .int n1, .int n2, .bs l3, .is l4, .bs l5] = cc (.bs l3) + cc (.is l4) + cc (.bs l5) := by simp only [vcA, vc] <;> omega
  unfold HeA
  rw [hcnt] at hk ⊢
  have HV3 := hidH (fun (u : World) (h : Below w.heap.size w u) => Rd.below h _ hv3)
  have HV4 := hidH (fun (u : World) (h : Below w.heap.size w u) => Rd.below h _ hv4)
  have HV5 := hidH (fun (u : World) (h : Below w.heap.size w u) => Rd.below h _ hv5)
  clear hW K1 B0 hv3 hv4 hv5
  go_enter Tryd.func48, Tryd.ntmps48
  go_wp2_with fail
  rw [HW.out]
  refine (held_Init n1 n2 l3 l4 l5 _ _ _ (k) _ (HV3.out _ HB.out) (HV4.out _ HB.out) (HV5.out _ HB.out) (by have : vcA [.int n1, .int n2, .bs l3, .is l4, .bs l5] = cc (.bs l3) + cc (.is l4) + cc (.bs l5) := (by simp only [vcA, vc] <;> omega); omega)).mono ?_
  rintro e w1 ⟨rfl, hb⟩
  replace HA := hidH (HA.out.below hb)
  replace HB := hidH (btr HB.out hb)
  have hpos : ¬ (((k + vcA [.int n1, .int n2, .bs l3, .is l4, .bs l5] : Nat) : Int) < 0) := by omega
  clear hb
  go_wp2
  go_ret
  refine ⟨ret_int (by (try simp only [vcA, vc]) <;> omega), HB.out⟩
theorem eqA_InitResult (y : InitResultM) {vs us : List Value} {w : World} (h : RdA w y.vs vs) (k : RdA w y.vs us) : Calls Tryd.prog 46 #[.agg vs.toArray, .agg us.toArray] w (EqR w) := by
  obtain ⟨A3, c3, A4, c4, A5, c5, rfl⟩ := shape_InitResult (h)
  obtain ⟨B3, d3, B4, d4, B5, d5, rfl⟩ := shape_InitResult (k)
  exact eq_InitResult y.Code y.Init_Tag y.Init_Tsn y.Init_Random y.Init_Addrs y.Init_Cookie _ _ _ _ _ _ w h.tl.tl.tl.hd h.tl.tl.tl.tl.hd h.tl.tl.tl.tl.tl.hd k.tl.tl.tl.hd k.tl.tl.tl.tl.hd k.tl.tl.tl.tl.tl.hd
theorem markA_InitResult (y : InitResultM) {vs : List Value} {S : Fp} {k : Nat} {w : World} (hS : Sub S (Wn 0 w.heap.size)) (h : OwA w y.vs S vs) (hk : k + vcA y.vs ≤ 1000000000000) : Calls Tryd.prog 47 #[.agg vs.toArray, .int .i64 k] w (MkA y.vs S vs k w) := by
  obtain ⟨A3, c3, A4, c4, A5, c5, rfl⟩ := shape_InitResult (h.rd)
  exact mark_InitResult y.Code y.Init_Tag y.Init_Tsn y.Init_Random y.Init_Addrs y.Init_Cookie _ _ _ S k w hS h hk
theorem heldA_InitResult (y : InitResultM) {vs : List Value} {k : Nat} {w : World} (h : RdA w (mkA k y.vs) vs) (hk : k + vcA y.vs ≤ 1000000000000) : Calls Tryd.prog 48 #[.agg vs.toArray, .int .i64 k] w (HeA y.vs k w) := by
  obtain ⟨q0, e0, t0⟩ := RdA.int_out (n := y.Code) h
  subst e0
  obtain ⟨q1, e1, t1⟩ := RdA.int_out (n := y.Init_Tag) t0
  subst e1
  obtain ⟨q2, e2, t2⟩ := RdA.int_out (n := y.Init_Tsn) t1
  subst e2
  obtain ⟨v3, q3, e3, h3, t3⟩ := RdA.any_out (x := mkc (k) (.bs y.Init_Random)) t2
  subst e3
  obtain ⟨v4, q4, e4, h4, t4⟩ := RdA.any_out (x := mkc (k + cc (.bs y.Init_Random)) (.is y.Init_Addrs)) t3
  subst e4
  obtain ⟨v5, q5, e5, h5, t5⟩ := RdA.any_out (x := mkc (k + cc (.bs y.Init_Random) + cc (.is y.Init_Addrs)) (.bs y.Init_Cookie)) t4
  subst e5
  have z := t5.nil_out
  subst z
  exact held_InitResult y.Code y.Init_Tag y.Init_Tsn y.Init_Random y.Init_Addrs y.Init_Cookie _ _ _ k w h3 h4 h5 hk
theorem cnt_InitResult (y : InitResultM) (h : tot.totL y.vs ≤ 1048576) : vcA y.vs ≤ 1000000000 := by
  simp only [InitResultM.vs, vcA, vc, tot.totL, tot, cc] at *
  omega
theorem mem_InitResult {w : World} {g o : Nat} {y : InitResultM} (h : RdL w y.vs g o) : ∃ (A3 : Option Addr) (c3 : Nat) (A4 : Option Addr) (c4 : Nat) (A5 : Option Addr) (c5 : Nat), w.cell? ⟨g, o, none⟩ = some (.int .i64 y.Code) ∧ w.cell? ⟨g, o + 1, none⟩ = some (.int .i64 y.Init_Tag) ∧ w.cell? ⟨g, o + 2, none⟩ = some (.int .i64 y.Init_Tsn) ∧ w.cell? ⟨g, o + 3, none⟩ = some (.slice A3 y.Init_Random.length c3) ∧ w.cell? ⟨g, o + 4, none⟩ = some (.slice A4 y.Init_Addrs.length c4) ∧ w.cell? ⟨g, o + 5, none⟩ = some (.slice A5 y.Init_Cookie.length c5) ∧ Rd w (.bs y.Init_Random) (.slice A3 y.Init_Random.length c3) ∧ Rd w (.is y.Init_Addrs) (.slice A4 y.Init_Addrs.length c4) ∧ Rd w (.bs y.Init_Cookie) (.slice A5 y.Init_Cookie.length c5) := by
  obtain ⟨u0, p0, t0⟩ := h.get? 0 (.int y.Code) rfl
  have e0 := t0.int_out
  subst e0
  obtain ⟨u1, p1, t1⟩ := h.get? 1 (.int y.Init_Tag) rfl
  have e1 := t1.int_out
  subst e1
  obtain ⟨u2, p2, t2⟩ := h.get? 2 (.int y.Init_Tsn) rfl
  have e2 := t2.int_out
  subst e2
  obtain ⟨u3, p3, t3⟩ := h.get? 3 (.bs y.Init_Random) rfl
  obtain ⟨A3, c3, e3⟩ := t3.bs_sh
  subst e3
  obtain ⟨u4, p4, t4⟩ := h.get? 4 (.is y.Init_Addrs) rfl
  obtain ⟨A4, c4, e4⟩ := t4.is_sh
  subst e4
  obtain ⟨u5, p5, t5⟩ := h.get? 5 (.bs y.Init_Cookie) rfl
  obtain ⟨A5, c5, e5⟩ := t5.bs_sh
  subst e5
  rw [Nat.add_zero] at p0
  exact ⟨A3, c3, A4, c4, A5, c5, p0, p1, p2, p3, p4, p5, t3, t4, t5⟩
structure AnswerM where
  Serial : Int
  Codes : List Int
def AnswerM.vs (x : AnswerM) : List V := [.int x.Serial, .is x.Codes]
theorem shape_Answer {w : World} {n0 : Int} {l1 : List Int} {vs : List Value} (h : RdA w [.int n0, .is l1] vs) : ∃ (A1 : Option Addr) (c1 : Nat), vs = [.int .i64 n0, .slice A1 l1.length c1] := by
  obtain ⟨q0, e0, t0⟩ := h.int_out
  subst e0
  obtain ⟨v1, q1, e1, h1, t1⟩ := t0.any_out
  obtain ⟨A1, c1, a1⟩ := h1.is_sh
  subst e1 a1
  have z := t1.nil_out
  subst z
  exact ⟨A1, c1, rfl⟩
theorem cnt_Answer (y : AnswerM) (h : tot.totL y.vs ≤ 1048576) : vcA y.vs ≤ 1000000000 := by
  simp only [AnswerM.vs, vcA, vc, tot.totL, tot, cc] at *
  omega
theorem mem_Answer {w : World} {g o : Nat} {y : AnswerM} (h : RdL w y.vs g o) : ∃ (A1 : Option Addr) (c1 : Nat), w.cell? ⟨g, o, none⟩ = some (.int .i64 y.Serial) ∧ w.cell? ⟨g, o + 1, none⟩ = some (.slice A1 y.Codes.length c1) ∧ Rd w (.is y.Codes) (.slice A1 y.Codes.length c1) := by
  obtain ⟨u0, p0, t0⟩ := h.get? 0 (.int y.Serial) rfl
  have e0 := t0.int_out
  subst e0
  obtain ⟨u1, p1, t1⟩ := h.get? 1 (.is y.Codes) rfl
  obtain ⟨A1, c1, e1⟩ := t1.is_sh
  subst e1
  rw [Nat.add_zero] at p0
  exact ⟨A1, c1, p0, p1, t1⟩
structure AnswerResultM where
  Code : Int
  Answer_Serial : Int
  Answer_Codes : List Int
def AnswerResultM.vs (x : AnswerResultM) : List V := [.int x.Code, .int x.Answer_Serial, .is x.Answer_Codes]
theorem shape_AnswerResult {w : World} {n0 : Int} {n1 : Int} {l2 : List Int} {vs : List Value} (h : RdA w [.int n0, .int n1, .is l2] vs) : ∃ (A2 : Option Addr) (c2 : Nat), vs = [.int .i64 n0, .int .i64 n1, .slice A2 l2.length c2] := by
  obtain ⟨q0, e0, t0⟩ := h.int_out
  subst e0
  obtain ⟨q1, e1, t1⟩ := t0.int_out
  subst e1
  obtain ⟨v2, q2, e2, h2, t2⟩ := t1.any_out
  obtain ⟨A2, c2, a2⟩ := h2.is_sh
  subst e2 a2
  have z := t2.nil_out
  subst z
  exact ⟨A2, c2, rfl⟩
theorem cnt_AnswerResult (y : AnswerResultM) (h : tot.totL y.vs ≤ 1048576) : vcA y.vs ≤ 1000000000 := by
  simp only [AnswerResultM.vs, vcA, vc, tot.totL, tot, cc] at *
  omega
theorem mem_AnswerResult {w : World} {g o : Nat} {y : AnswerResultM} (h : RdL w y.vs g o) : ∃ (A2 : Option Addr) (c2 : Nat), w.cell? ⟨g, o, none⟩ = some (.int .i64 y.Code) ∧ w.cell? ⟨g, o + 1, none⟩ = some (.int .i64 y.Answer_Serial) ∧ w.cell? ⟨g, o + 2, none⟩ = some (.slice A2 y.Answer_Codes.length c2) ∧ Rd w (.is y.Answer_Codes) (.slice A2 y.Answer_Codes.length c2) := by
  obtain ⟨u0, p0, t0⟩ := h.get? 0 (.int y.Code) rfl
  have e0 := t0.int_out
  subst e0
  obtain ⟨u1, p1, t1⟩ := h.get? 1 (.int y.Answer_Serial) rfl
  have e1 := t1.int_out
  subst e1
  obtain ⟨u2, p2, t2⟩ := h.get? 2 (.is y.Answer_Codes) rfl
  obtain ⟨A2, c2, e2⟩ := t2.is_sh
  subst e2
  rw [Nat.add_zero] at p0
  exact ⟨A2, c2, p0, p1, p2, t2⟩
end Go.Proofs.YtjjileefdjjijaaDoor
