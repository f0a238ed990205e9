/- BytesResult (WRITTEN BY tools/kinds.py) -/
import Derived.Test.YtjjileefdjjijaaUniR
namespace Go.Proofs.Ytjjileefdjjijaa
open Go.RowKit Go.Deep Go.ChangeShapes Go.WideShapes Go.ChangeAt

structure BytesResultM where
  Code : Int
  Bytes : List Int
def BytesResultM.vs (x : BytesResultM) : List V := [.int x.Code, .bs x.Bytes]
theorem shape_BytesResult {w : World} {n0 : Int} {l1 : List Int} {vs : List Value} (h : RdA w [.int n0, .bs l1] vs) : ∃ (A1 : Option Addr) (c1 : Nat), vs = [.int .i64 n0, .slice A1 l1.length c1] := by
  obtain ⟨q0, e0, t0⟩ := h.int_out
  subst e0
  obtain ⟨v1, q1, e1, h1, t1⟩ := t0.any_out
  obtain ⟨A1, c1, a1⟩ := h1.bs_sh
  subst e1 a1
  have z := t1.nil_out
  subst z
  exact ⟨A1, c1, rfl⟩
set_option maxRecDepth 100000 in
set_option maxHeartbeats 1000000 in
theorem eq_BytesResult (n0 : Int) (l1 : List Int) (v1 u1 : Value) (w : World) (hv1 : Rd w (.bs l1) v1) (hu1 : Rd w (.bs l1) u1) :
    Calls Try.prog 18 #[.agg #[.int .i64 n0, v1], .agg #[.int .i64 n0, u1]] w (EqR w) := by
  obtain ⟨A1, c1, rfl⟩ := hv1.bs_sh
  obtain ⟨B1, d1, rfl⟩ := hu1.bs_sh
  have K1 := (Blk.new w 35 #[.int .i64 n0, .slice A1 l1.length c1]).alloc (.cells #[.int .i64 n0, .slice B1 l1.length d1] 35)
  have K2 := Blk.new (w.alloc (.cells #[.int .i64 n0, .slice A1 l1.length c1] 35)) 35 #[.int .i64 n0, .slice B1 l1.length d1]
  have B0 := bal (bal (Below.refl w.heap.size w) (.cells #[.int .i64 n0, .slice A1 l1.length c1] 35)) (.cells #[.int .i64 n0, .slice B1 l1.length d1] 35)
  rw [World.size_alloc] at K2
  obtain ⟨W, hW⟩ : ∃ W, (w.alloc (.cells #[.int .i64 n0, .slice A1 l1.length c1] 35)).alloc (.cells #[.int .i64 n0, .slice B1 l1.length d1] 35) = W := ⟨_, rfl⟩
  rw [hW] at K1 K2 B0
  have HW := hidH hW
  have HB := hidH B0
  have HA := hidH K1
  have HC := hidH K2
  have HV1 := hidH (fun (u : World) (h : Below w.heap.size w u) => Rd.below h _ hv1)
  have HU1 := hidH (fun (u : World) (h : Below w.heap.size w u) => Rd.below h _ hu1)
  clear hW K1 K2 B0 hv1 hu1
  go_enter Try.func18, Try.ntmps18
  go_wp2_with fail
  rw [HW.out]
  refine (eqB_rd l1 _ _ _ (HV1.out _ HB.out) (HU1.out _ HB.out)).mono ?_
  rintro e w1 ⟨rfl, hb⟩
  replace HA := hidH (HA.out.below hb)
  replace HC := hidH (HC.out.below hb)
  replace HB := hidH (btr HB.out hb)
  clear hb
  go_wp2
  go_ret
  exact ⟨rfl, HB.out⟩
set_option maxRecDepth 100000 in
set_option maxHeartbeats 1000000 in
theorem mark_BytesResult (n0 : Int) (l1 : List Int) (v1 : Value) (S : Fp) (k : Nat) (w : World) (hS : Sub S (Wn 0 w.heap.size)) (h : OwA w [.int n0, .bs l1] S [.int .i64 n0, v1]) (hk : k + vcA [.int n0, .bs l1] ≤ 1000000000000) :
    Calls Try.prog 21 #[.agg #[.int .i64 n0, v1], .int .i64 k] w (MkA [.int n0, .bs l1] S [.int .i64 n0, v1] k w) := by
  have hr := h.rd
  have hv1 := hr.tl.hd
  obtain ⟨A1, c1, rfl⟩ := hv1.bs_sh
  clear hr hv1
  have K1 := Blk.new w 35 #[.int .i64 n0, .slice A1 l1.length c1]
  have B0 := bal (Below.refl w.heap.size w) (.cells #[.int .i64 n0, .slice A1 l1.length c1] 35)
  obtain ⟨W, hW⟩ : ∃ W, w.alloc (.cells #[.int .i64 n0, .slice A1 l1.length c1] 35) = W := ⟨_, rfl⟩
  rw [hW] at K1 B0
  have HW := hidH hW
  have HB := hidH B0
  have HA := hidH K1
  replace h := OwA.kept (Kept.of_below B0) h
  have hcnt : vcA [.int n0, .bs l1] = cc (.bs l1) := by simp only [vcA, vc] <;> omega
  unfold MkA
  rw [hcnt] at hk ⊢
  obtain ⟨T0, s0, h, G0⟩ := OwA.step_int h
  have s0 := Sub.trans s0 hS
  have G0 := hidH G0
  obtain ⟨T1, s1, hO, G1⟩ := OwA.step (y := mkc (k) (.bs l1)) h
  have s1 := Sub.trans s1 s0
  have HO := hidH hO
  have G1 := hidH G1
  clear hO h
  clear hW B0 K1
  go_enter Try.func21, Try.ntmps21
  go_wp2_with fail
  rw [HW.out]
  refine (markB_ow l1 T1 _ (k) _ HO.out (by omega)).mono ?_
  rintro e w1 ⟨rfl, hc, ho⟩
  replace HA := hidH (HA.out.chg hc s1)
  have HC0 := hidH hc
  obtain ⟨T2, s2, h, G2⟩ := G1.out _ hc ho
  have s2 := Sub.trans s2 s0
  have G2 := hidH G2
  clear HO hc ho
  obtain ⟨hc, h⟩ := OwA.nil_step h
  obtain ⟨hc, h⟩ := G2.out _ _ hc h
  obtain ⟨hc, h⟩ := G0.out _ _ hc h
  have HCC := hidH ((Chg.of_below HB.out).trans hc)
  have HO := hidH h
  clear hc h
  go_wp2
  go_ret
  exact ⟨rfl, HCC.out, HO.out⟩
set_option maxRecDepth 100000 in
set_option maxHeartbeats 1000000 in
theorem held_BytesResult (n0 : Int) (l1 : List Int) (v1 : Value) (k : Nat) (w : World) (hv1 : Rd w (mkc (k) (.bs l1)) v1) (hk : k + vcA [.int n0, .bs l1] ≤ 1000000000000) :
    Calls Try.prog 22 #[.agg #[.int .i64 n0, v1], .int .i64 k] w (HeA [.int n0, .bs l1] k w) := by
  obtain ⟨A1, n1, c1, rfl⟩ := mkc_bs_sh hv1
  have K1 := Blk.new w 35 #[.int .i64 n0, .slice A1 n1 c1]
  have B0 := bal (Below.refl w.heap.size w) (.cells #[.int .i64 n0, .slice A1 n1 c1] 35)
  obtain ⟨W, hW⟩ : ∃ W, w.alloc (.cells #[.int .i64 n0, .slice A1 n1 c1] 35) = W := ⟨_, rfl⟩
  rw [hW] at K1 B0
  have HW := hidH hW
  have HB := hidH B0
  have HA := hidH K1
  have hcnt : vcA [.int n0, .bs l1] = cc (.bs l1) := by simp only [vcA, vc] <;> omega
  unfold HeA
  rw [hcnt] at hk ⊢
  have HV1 := hidH (fun (u : World) (h : Below w.heap.size w u) => Rd.below h _ hv1)
  clear hW K1 B0 hv1
  go_enter Try.func22, Try.ntmps22
  go_wp2_with fail
  rw [HW.out]
  refine (heldB_rd l1 _ (k) _ (HV1.out _ HB.out) (by omega)).mono ?_
  rintro e w1 ⟨rfl, hb⟩
  replace HA := hidH (HA.out.below hb)
  replace HB := hidH (btr HB.out hb)
  have hpos : ¬ (((k + cc (.bs l1) : Nat) : Int) < 0) := by omega
  clear hb
  go_wp2
  go_ret
  exact ⟨rfl, HB.out⟩
theorem eqA_BytesResult (y : BytesResultM) {vs us : List Value} {w : World} (h : RdA w y.vs vs) (k : RdA w y.vs us) : Calls Try.prog 18 #[.agg vs.toArray, .agg us.toArray] w (EqR w) := by
  obtain ⟨A1, c1, rfl⟩ := shape_BytesResult (h)
  obtain ⟨B1, d1, rfl⟩ := shape_BytesResult (k)
  exact eq_BytesResult y.Code y.Bytes _ _ w h.tl.hd k.tl.hd
theorem markA_BytesResult (y : BytesResultM) {vs : List Value} {S : Fp} {k : Nat} {w : World} (hS : Sub S (Wn 0 w.heap.size)) (h : OwA w y.vs S vs) (hk : k + vcA y.vs ≤ 1000000000000) : Calls Try.prog 21 #[.agg vs.toArray, .int .i64 k] w (MkA y.vs S vs k w) := by
  obtain ⟨A1, c1, rfl⟩ := shape_BytesResult (h.rd)
  exact mark_BytesResult y.Code y.Bytes _ S k w hS h hk
theorem heldA_BytesResult (y : BytesResultM) {vs : List Value} {k : Nat} {w : World} (h : RdA w (mkA k y.vs) vs) (hk : k + vcA y.vs ≤ 1000000000000) : Calls Try.prog 22 #[.agg vs.toArray, .int .i64 k] w (HeA y.vs k w) := by
  obtain ⟨q0, e0, t0⟩ := RdA.int_out (n := y.Code) h
  subst e0
  obtain ⟨v1, q1, e1, h1, t1⟩ := RdA.any_out (x := mkc (k) (.bs y.Bytes)) t0
  subst e1
  have z := t1.nil_out
  subst z
  exact held_BytesResult y.Code y.Bytes _ k w h1 hk
theorem cnt_BytesResult (y : BytesResultM) (h : tot.totL y.vs ≤ 1048576) : vcA y.vs ≤ 1000000000 := by
  simp only [BytesResultM.vs, vcA, vc, tot.totL, tot, cc] at *
  omega
theorem mem_BytesResult {w : World} {g o : Nat} {y : BytesResultM} (h : RdL w y.vs g o) : ∃ (A1 : Option Addr) (c1 : Nat), w.cell? ⟨g, o, none⟩ = some (.int .i64 y.Code) ∧ w.cell? ⟨g, o + 1, none⟩ = some (.slice A1 y.Bytes.length c1) ∧ Rd w (.bs y.Bytes) (.slice A1 y.Bytes.length c1) := by
  obtain ⟨u0, p0, t0⟩ := h.get? 0 (.int y.Code) rfl
  have e0 := t0.int_out
  subst e0
  obtain ⟨u1, p1, t1⟩ := h.get? 1 (.bs y.Bytes) rfl
  obtain ⟨A1, c1, e1⟩ := t1.bs_sh
  subst e1
  rw [Nat.add_zero] at p0
  exact ⟨A1, c1, p0, p1, t1⟩
end Go.Proofs.Ytjjileefdjjijaa
