/- Secret and its results (WRITTEN BY tools/kinds.py) -/
import Derived.Test.YtjjileefdjjijaaUniO
namespace Go.Proofs.Ytjjileefdjjijaa
open Go.RowKit Go.Deep Go.ChangeShapes Go.WideShapes Go.ChangeAt

structure SecretM where
  Id : Int
  Bytes : List Int
def SecretM.vs (x : SecretM) : List V := [.int x.Id, .bs x.Bytes]
theorem shape_Secret {w : World} {n0 : Int} {l1 : List Int} {vs : List Value} (h : RdA w [.int n0, .bs l1] vs) : ∃ (A1 : Option Addr) (c1 : Nat), vs = [.int .i64 n0, .slice A1 l1.length c1] := by
  obtain ⟨q0, e0, t0⟩ := h.int_out
  subst e0
  obtain ⟨v1, q1, e1, h1, t1⟩ := t0.any_out
  obtain ⟨A1, c1, a1⟩ := h1.bs_sh
  subst e1 a1
  have z := t1.nil_out
  subst z
  exact ⟨A1, c1, rfl⟩
set_option maxRecDepth 100000 in
set_option maxHeartbeats 1000000 in
theorem eq_Secret (n0 : Int) (l1 : List Int) (v1 u1 : Value) (w : World) (hv1 : Rd w (.bs l1) v1) (hu1 : Rd w (.bs l1) u1) :
    Calls Try.prog 36 #[.agg #[.int .i64 n0, v1], .agg #[.int .i64 n0, u1]] w (EqR w) := by
  obtain ⟨A1, c1, rfl⟩ := hv1.bs_sh
  obtain ⟨B1, d1, rfl⟩ := hu1.bs_sh
  have K1 := (Blk.new w 58 #[.int .i64 n0, .slice A1 l1.length c1]).alloc (.cells #[.int .i64 n0, .slice B1 l1.length d1] 58)
  have K2 := Blk.new (w.alloc (.cells #[.int .i64 n0, .slice A1 l1.length c1] 58)) 58 #[.int .i64 n0, .slice B1 l1.length d1]
  have B0 := bal (bal (Below.refl w.heap.size w) (.cells #[.int .i64 n0, .slice A1 l1.length c1] 58)) (.cells #[.int .i64 n0, .slice B1 l1.length d1] 58)
  rw [World.size_alloc] at K2
  obtain ⟨W, hW⟩ : ∃ W, (w.alloc (.cells #[.int .i64 n0, .slice A1 l1.length c1] 58)).alloc (.cells #[.int .i64 n0, .slice B1 l1.length d1] 58) = W := ⟨_, rfl⟩
  rw [hW] at K1 K2 B0
  have HW := hidH hW
  have HB := hidH B0
  have HA := hidH K1
  have HC := hidH K2
  have HV1 := hidH (fun (u : World) (h : Below w.heap.size w u) => Rd.below h _ hv1)
  have HU1 := hidH (fun (u : World) (h : Below w.heap.size w u) => Rd.below h _ hu1)
  clear hW K1 K2 B0 hv1 hu1
  go_enter Try.func36, Try.ntmps36
  go_wp2_with fail
  rw [HW.out]
  refine (eqB_rd l1 _ _ _ (HV1.out _ HB.out) (HU1.out _ HB.out)).mono ?_
  rintro e w1 ⟨rfl, hb⟩
  replace HA := hidH (HA.out.below hb)
  replace HC := hidH (HC.out.below hb)
  replace HB := hidH (btr HB.out hb)
  clear hb
  go_wp2
  go_ret
  exact ⟨rfl, HB.out⟩
set_option maxRecDepth 100000 in
set_option maxHeartbeats 1000000 in
theorem mark_Secret (n0 : Int) (l1 : List Int) (v1 : Value) (S : Fp) (k : Nat) (w : World) (hS : Sub S (Wn 0 w.heap.size)) (h : OwA w [.int n0, .bs l1] S [.int .i64 n0, v1]) (hk : k + vcA [.int n0, .bs l1] ≤ 1000000000000) :
    Calls Try.prog 37 #[.agg #[.int .i64 n0, v1], .int .i64 k] w (MkA [.int n0, .bs l1] S [.int .i64 n0, v1] k w) := by
  have hr := h.rd
  have hv1 := hr.tl.hd
  obtain ⟨A1, c1, rfl⟩ := hv1.bs_sh
  clear hr hv1
  have K1 := Blk.new w 58 #[.int .i64 n0, .slice A1 l1.length c1]
  have B0 := bal (Below.refl w.heap.size w) (.cells #[.int .i64 n0, .slice A1 l1.length c1] 58)
  obtain ⟨W, hW⟩ : ∃ W, w.alloc (.cells #[.int .i64 n0, .slice A1 l1.length c1] 58) = W := ⟨_, rfl⟩
  rw [hW] at K1 B0
  have HW := hidH hW
  have HB := hidH B0
  have HA := hidH K1
  replace h := OwA.kept (Kept.of_below B0) h
  have hcnt : vcA [.int n0, .bs l1] = cc (.bs l1) := by simp only [vcA, vc] <;> omega
  unfold MkA
  rw [hcnt] at hk ⊢
  obtain ⟨T0, s0, h, G0⟩ := OwA.step_int h
  have s0 := Sub.trans s0 hS
  have G0 := hidH G0
  obtain ⟨T1, s1, hO, G1⟩ := OwA.step (y := mkc (k) (.bs l1)) h
  have s1 := Sub.trans s1 s0
  have HO := hidH hO
  have G1 := hidH G1
  clear hO h
  clear hW B0 K1
  go_enter Try.func37, Try.ntmps37
  go_wp2_with fail
  rw [HW.out]
  refine (markB_ow l1 T1 _ (k) _ HO.out (by omega)).mono ?_
  rintro e w1 ⟨rfl, hc, ho⟩
  replace HA := hidH (HA.out.chg hc s1)
  have HC0 := hidH hc
  obtain ⟨T2, s2, h, G2⟩ := G1.out _ hc ho
  have s2 := Sub.trans s2 s0
  have G2 := hidH G2
  clear HO hc ho
  obtain ⟨hc, h⟩ := OwA.nil_step h
  obtain ⟨hc, h⟩ := G2.out _ _ hc h
  obtain ⟨hc, h⟩ := G0.out _ _ hc h
  have HCC := hidH ((Chg.of_below HB.out).trans hc)
  have HO := hidH h
  clear hc h
  go_wp2
  go_ret
  exact ⟨rfl, HCC.out, HO.out⟩
set_option maxRecDepth 100000 in
set_option maxHeartbeats 1000000 in
theorem sz_Secret (n0 : Int) (l1 : List Int) (v1 : Value) (left : Int) (w : World) (hv1 : Rd w (.bs l1) v1) (h0 : 0 ≤ left) (h1 : left ≤ 1048576) :
    Calls Try.prog 31 #[.agg #[.int .i64 n0, v1], .int .i64 left] w (SzR left (tot.totL [.int n0, .bs l1]) w) := by
  obtain ⟨A1, c1, rfl⟩ := hv1.bs_sh
  have K1 := Blk.new w 53 #[.int .i64 n0, .slice A1 l1.length c1]
  have B0 := bal (Below.refl w.heap.size w) (.cells #[.int .i64 n0, .slice A1 l1.length c1] 53)
  obtain ⟨W, hW⟩ : ∃ W, w.alloc (.cells #[.int .i64 n0, .slice A1 l1.length c1] 53) = W := ⟨_, rfl⟩
  rw [hW] at K1 B0
  have HW := hidH hW
  have HB := hidH B0
  have HA := hidH K1
  have hcnt : tot.totL [.int n0, .bs l1] = tot (.bs l1) := by simp only [tot.totL, tot] <;> omega
  rw [hcnt]
  have HV1 := hidH (fun (u : World) (h : Below w.heap.size w u) => Rd.below h _ hv1)
  clear hW K1 B0 hcnt hv1
  go_enter Try.func31, Try.ntmps31
  go_wp2_with fail
  rw [HW.out]
  refine (szB_rd l1 _ left _ (HV1.out _ HB.out) (by omega) (by omega)).mono ?_
  rintro e w1 ⟨z0, rfl, hz0, hb⟩
  replace HA := hidH (HA.out.below hb)
  replace HB := hidH (btr HB.out hb)
  clear hb
  have HZ0 := hidH hz0
  have hzl0 := hz0.2.1
  clear hz0
  by_cases hn0 : z0 < 0
  · obtain rfl : z0 = -1 := by rcases HZ0.out.1 with h | h <;> omega
    clear hn0
    go_wp2
    go_ret
    exact ⟨-1, rfl, ⟨.inl rfl, by omega, fun h => by omega⟩, HB.out⟩
  · have hp0 : 0 ≤ z0 := by omega
    clear hzl0
    go_wp2
    go_ret
    exact ⟨z0, rfl, ⟨.inr hp0, by have := HZ0.out.2.1; omega, fun _ => by have := HZ0.out.2.2 hp0; omega⟩, HB.out⟩
set_option maxRecDepth 100000 in
set_option maxHeartbeats 1000000 in
theorem to_Secret (n0 : Int) (l1 : List Int) (v1 : Value) (w : World) (hv1 : Rd w (.bs l1) v1) (hm : tot.totL [.int n0, .bs l1] ≤ 1048576) :
    Calls Try.prog 33 #[.agg #[.int .i64 n0, v1]] w (Res w [.int n0, .bs l1]) := by
  obtain ⟨A1, c1, rfl⟩ := hv1.bs_sh
  have KA := ((Blk.new w 53 #[.int .i64 n0, .slice A1 l1.length c1]).alloc (.cells #[.int .i64 0, .slice none 0 0] 58)).alloc (.cells #[.int .i64 n0, .slice none 0 0] 58)
  have KR := (Blk.new (w.alloc (.cells #[.int .i64 n0, .slice A1 l1.length c1] 53)) 58 #[.int .i64 0, .slice none 0 0]).alloc (.cells #[.int .i64 n0, .slice none 0 0] 58)
  have KV := Blk.new ((w.alloc (.cells #[.int .i64 n0, .slice A1 l1.length c1] 53)).alloc (.cells #[.int .i64 0, .slice none 0 0] 58)) 58 #[.int .i64 n0, .slice none 0 0]
  have B0 := bal (bal (bal (Below.refl w.heap.size w) (.cells #[.int .i64 n0, .slice A1 l1.length c1] 53)) (.cells #[.int .i64 0, .slice none 0 0] 58)) (.cells #[.int .i64 n0, .slice none 0 0] 58)
  have hsz : (((w.alloc (.cells #[.int .i64 n0, .slice A1 l1.length c1] 53)).alloc (.cells #[.int .i64 0, .slice none 0 0] 58)).alloc (.cells #[.int .i64 n0, .slice none 0 0] 58)).heap.size = w.heap.size + 1 + 1 + 1 := by simp only [World.size_alloc]
  simp only [World.size_alloc] at KR KV
  obtain ⟨w0, hW⟩ : ∃ W, ((w.alloc (.cells #[.int .i64 n0, .slice A1 l1.length c1] 53)).alloc (.cells #[.int .i64 0, .slice none 0 0] 58)).alloc (.cells #[.int .i64 n0, .slice none 0 0] 58) = W := ⟨_, rfl⟩
  rw [hW] at KA KR KV B0 hsz
  have HW := hidH hW
  have HB := hidH B0
  have HA := hidH KA
  have HR := hidH KR
  have HV := hidH KV
  have HZ := hidH hsz
  have hcnt : tot.totL [.int n0, .bs l1] = tot (.bs l1) := by simp only [tot.totL, tot] <;> omega
  rw [hcnt] at hm
  have HM := hidH hm
  have HV1 := hidH (fun (u : World) (h : Below w.heap.size w u) => Rd.below h _ hv1)
  have es : ∀ (u : World) (p : Addr) (v : Value), (u.setCell p v).heap.size = u.heap.size := fun u p v => by simp [World.setCell]
  have HES := hidH es
  clear hW hm hcnt KA KR KV B0 hsz es hv1
  go_enter Try.func33, Try.ntmps33
  go_wp2_with fail
  rw [HW.out]
  have HB1 := hidH (HB.out)
  refine (toB_rd l1 _ _ (HV1.out _ HB1.out) (by have := HM.out; omega)).mono ?_
  rintro e w1 ⟨u1, rfl, O0, hb⟩
  obtain ⟨E1, e1, rfl⟩ := O0.rd.bs_sh
  have HA1 := hidH ((HA.out).below hb)
  have HR1 := hidH ((HR.out).below hb)
  have HV1 : Hid (Blk w1 (w.heap.size + 1 + 1) 58 #[.int .i64 n0, .slice none 0 0]) := hidH (Blk.below (HV.out) hb)
  have HZ1 : Hid (w0.heap.size ≤ w1.heap.size) := hidH (by have := hb.size; simpa only [HES.out] using this)
  have O0 := hidH (show OwV w0.heap.size w1.heap.size w1 _ _ by simpa only [HES.out] using O0)
  have HG0 := hidH (show w0.heap.size ≤ w0.heap.size by exact Nat.le_refl _)
  have HZ00 := HZ1
  replace HB := hidH (btr HB1.out hb)
  clear HA HR HV HB1 hb HZ1
  have HA := HA1
  have HR := HR1
  have HV := HV1
  clear HA1 HR1 HV1
  have x0 := HR.out.cell 0
  have h0 := HR.out.frozen 0
  have y0 := HV.out.cell 0
  have f0 := HV.out.frozen 0
  have x1 := HR.out.cell 1
  have h1 := HR.out.frozen 1
  have y1 := HV.out.cell 1
  have f1 := HV.out.frozen 1
  simp only [List.getElem?_toArray, List.getElem?_cons_succ, List.getElem?_cons_zero] at x0 y0 x1 y1
  have gv := HV.out.lt
  have gr := HR.out.lt
  go_wp2
  have BF := bst (bst (bst (HB.out) (p := ⟨w.heap.size + 1 + 1, 1, none⟩) (by show w.heap.size ≤ w.heap.size + 1 + 1; omega) (.slice E1 l1.length e1)) (p := ⟨w.heap.size + 1, 0, none⟩) (by show w.heap.size ≤ w.heap.size + 1; omega) (.int .i64 n0)) (p := ⟨w.heap.size + 1, 1, none⟩) (by show w.heap.size ≤ w.heap.size + 1; omega) (.slice E1 l1.length e1)
  have P0 := (((O0.out).win (set_win _ (w.heap.size + 1 + 1) 1 (.slice E1 l1.length e1)) (.inr (by have := HZ.out; have := HG0.out; omega))).win (set_win _ (w.heap.size + 1) 0 (.int .i64 n0)) (.inr (by have := HZ.out; have := HG0.out; omega))).win (set_win _ (w.heap.size + 1) 1 (.slice E1 l1.length e1)) (.inr (by have := HZ.out; have := HG0.out; omega))
  have es := HES.out
  have PF := OwN.int n0 (OwN.cons P0 (OwN.nil (B := w1.heap.size) (C := w1.heap.size) (by simp only [es]; exact Nat.le_refl _)) HZ00.out (Nat.le_refl _))
  exact bodyPost_ret (v := .agg #[.int .i64 n0, .slice E1 l1.length e1]) (by simp [results, Try.results33, go_sem, x0, x1]) rfl ⟨[.int .i64 n0, .slice E1 l1.length e1], rfl, PF.mono (by have := HB.out.size; have := HZ.out; omega) (by simp only [es]; exact Nat.le_refl _) (Nat.le_refl _), BF⟩
theorem eqA_Secret (y : SecretM) {vs us : List Value} {w : World} (h : RdA w y.vs vs) (k : RdA w y.vs us) : Calls Try.prog 36 #[.agg vs.toArray, .agg us.toArray] w (EqR w) := by
  obtain ⟨A1, c1, rfl⟩ := shape_Secret (h)
  obtain ⟨B1, d1, rfl⟩ := shape_Secret (k)
  exact eq_Secret y.Id y.Bytes _ _ w h.tl.hd k.tl.hd
theorem markA_Secret (y : SecretM) {vs : List Value} {S : Fp} {k : Nat} {w : World} (hS : Sub S (Wn 0 w.heap.size)) (h : OwA w y.vs S vs) (hk : k + vcA y.vs ≤ 1000000000000) : Calls Try.prog 37 #[.agg vs.toArray, .int .i64 k] w (MkA y.vs S vs k w) := by
  obtain ⟨A1, c1, rfl⟩ := shape_Secret (h.rd)
  exact mark_Secret y.Id y.Bytes _ S k w hS h hk
theorem szA_Secret (y : SecretM) {vs : List Value} {left : Int} {w : World} (h : RdA w y.vs vs) (h0 : 0 ≤ left) (h1 : left ≤ 1048576) : Calls Try.prog 31 #[.agg vs.toArray, .int .i64 left] w (SzR left (tot.totL y.vs) w) := by
  obtain ⟨A1, c1, rfl⟩ := shape_Secret (h)
  exact sz_Secret y.Id y.Bytes _ left w h.tl.hd h0 h1
theorem toA_Secret (y : SecretM) {vs : List Value} {w : World} (h : RdA w y.vs vs) (hm : tot.totL y.vs ≤ 1048576) : Calls Try.prog 33 #[.agg vs.toArray] w (Res w y.vs) := by
  obtain ⟨A1, c1, rfl⟩ := shape_Secret (h)
  exact to_Secret y.Id y.Bytes _ w h.tl.hd hm
theorem cnt_Secret (y : SecretM) (h : tot.totL y.vs ≤ 1048576) : vcA y.vs ≤ 1000000000 := by
  simp only [SecretM.vs, vcA, vc, tot.totL, tot, cc] at *
  omega
theorem mem_Secret {w : World} {g o : Nat} {y : SecretM} (h : RdL w y.vs g o) : ∃ (A1 : Option Addr) (c1 : Nat), w.cell? ⟨g, o, none⟩ = some (.int .i64 y.Id) ∧ w.cell? ⟨g, o + 1, none⟩ = some (.slice A1 y.Bytes.length c1) ∧ Rd w (.bs y.Bytes) (.slice A1 y.Bytes.length c1) := by
  obtain ⟨u0, p0, t0⟩ := h.get? 0 (.int y.Id) rfl
  have e0 := t0.int_out
  subst e0
  obtain ⟨u1, p1, t1⟩ := h.get? 1 (.bs y.Bytes) rfl
  obtain ⟨A1, c1, e1⟩ := t1.bs_sh
  subst e1
  rw [Nat.add_zero] at p0
  exact ⟨A1, c1, p0, p1, t1⟩
section
variable {H : Type} {enc : TypeId × Value → H} {w : World} {base : Nat} {spare : Nat → Bool} {held : Bool}
theorem cells_Secret : Try.prog.cellsOf 53 = 2 := by kernel_rfl
theorem cells_Secret_0 : Try.prog.cellsOf 2 = 1 := by kernel_rfl
theorem cells_Secret_1 : Try.prog.cellsOf 29 = 1 := by kernel_rfl
set_option maxHeartbeats 1000000 in
theorem open_Secret {n : Nat} {cs : List Value} {x : DataW H × List MemPlace} (h : DataW.trod enc Try.prog w base spare held n 53 cs = some x) : ∃ y : SecretM, RdA w y.vs cs ∧ WfA y.vs := by
  obtain ⟨xs, m, _, _, hl, hlen, hf⟩ := DataW.trod_struct Try.underlying53 h
  rw [cells_Secret] at hl
  have hlen2 : xs.length = 2 := hlen
  obtain ⟨v0, v1, rfl⟩ := list_2 hl
  obtain ⟨y0, y1, rfl⟩ := list_2 hlen2
  have t0 : DataW.trod enc Try.prog w base spare held m 2 (([v0, v1].drop 0).take (Try.prog.cellsOf 2)) = _ := hf 0 _ rfl
  rw [cells_Secret_0] at t0
  replace t0 : DataW.trod enc Try.prog w base spare held m 2 [v0] = some y0 := t0
  have t1 : DataW.trod enc Try.prog w base spare held m 29 (([v0, v1].drop 1).take (Try.prog.cellsOf 29)) = _ := hf 1 _ rfl
  rw [cells_Secret_1] at t1
  replace t1 : DataW.trod enc Try.prog w base spare held m 29 [v1] = some y1 := t1
  obtain ⟨n0, e0, _, w0⟩ := DataW.trod_int Try.underlying2 t0
  simp only [List.cons.injEq, and_true] at e0
  subst e0
  obtain ⟨n1, r1, w1⟩ := open_bs t1
  exact ⟨⟨n0, n1⟩, RdA.int_mk (RdA.any_mk r1 (RdA.nil_mk)), ⟨wf_int w0, ⟨w1, trivial⟩⟩⟩
theorem opened_Secret {cs0 : Array Value} {d : DataW H} {pl : List MemPlace} (h : DataW.Trod enc Try.prog w base spare held 53 (.agg cs0) d pl) : ∃ (y : SecretM) (A1 : Option Addr) (c1 : Nat), cs0 = #[.int .i64 y.Id, .slice A1 y.Bytes.length c1] ∧ RdA w y.vs [.int .i64 y.Id, .slice A1 y.Bytes.length c1] ∧ WfA y.vs := by
  obtain ⟨fuel, hf⟩ := h
  obtain ⟨y, h1, h2⟩ := open_Secret hf
  have h3 := h1
  obtain ⟨A1, c1, e⟩ := shape_Secret h3
  rw [e] at h1
  refine ⟨y, A1, c1, ?_, h1, h2⟩
  simp only [Value.cells] at e
  exact Array.ext' (by simpa using e)
end
def st_Secret (r : List SecretM) : V := .st r.length (r.flatMap SecretM.vs)
theorem st_Secret_sh {w : World} {r : List SecretM} {v : Value} (h : Rd w (st_Secret r) v) : ∃ A c, v = .slice A r.length c := Rd.st_sh h
set_option maxRecDepth 100000 in
set_option maxHeartbeats 2000000 in
theorem eqS_Secret (r : List SecretM) (v u : Value) (w : World) (hv : Rd w (st_Secret r) v) (hu : Rd w (st_Secret r) u) :
    Calls Try.prog 13 #[v, u] w (EqR w) := by
  obtain ⟨A, c, rfl⟩ := st_Secret_sh hv
  obtain ⟨B, d, rfl⟩ := st_Secret_sh hu
  have hm : (r.length : Int) ≤ 9223372036854775807 := Rd.st_len hv
  have HV := hidH (fun (u : World) (h : Below w.heap.size w u) => Rd.below h _ hv)
  have HU := hidH (fun (u : World) (h : Below w.heap.size w u) => Rd.below h _ hu)
  clear hv hu
  go_enter Try.func13, Try.ntmps13
  go_wp2
  go_loopw [5] (fun i wr => ∃ j : Nat, j ≤ r.length ∧ i = .int .i64 j ∧ Below w.heap.size w wr) (fun i _ => r.length - (intOf i).toNat)
  case atStart => exact ⟨0, by omega, rfl, Below.refl _ _⟩
  case round =>
    obtain ⟨j, hj, rfl, hBw⟩ := hrel
    by_cases hlt : j < r.length
    · have hj0 : (0 : Int) ≤ (j : Int) := by omega
      have hj1 : (j : Int) < (r.length : Int) := by omega
      have bd := (Below.refl wr.heap.size wr).drew
      have hBW := btr hBw bd
      obtain ⟨ga, oa, ca, ea, hga, RA⟩ := Rd.row (f := SecretM.vs) (W := 2) (fun _ => rfl) (HV.out _ hBW) hlt
      obtain ⟨gb, ob, cb, eb, hgb, RB⟩ := Rd.row (f := SecretM.vs) (W := 2) (fun _ => rfl) (HU.out _ hBW) hlt
      injection ea with ea1 ea2 ea3
      subst ea1 ea3
      injection eb with eb1 eb2 eb3
      subst eb1 eb3
      obtain ⟨pu0, p0, pt0⟩ := RA 0 (.int r[j].Id) rfl
      have pe0 := pt0.int_out
      subst pe0
      rw [Nat.add_zero] at p0
      obtain ⟨pu1, p1, pt1⟩ := RA 1 (.bs r[j].Bytes) rfl
      obtain ⟨A1, An1, pe1⟩ := pt1.bs_sh
      subst pe1
      obtain ⟨qu0, q0, qt0⟩ := RB 0 (.int r[j].Id) rfl
      have qe0 := qt0.int_out
      subst qe0
      rw [Nat.add_zero] at q0
      obtain ⟨qu1, q1, qt1⟩ := RB 1 (.bs r[j].Bytes) rfl
      obtain ⟨B1, Bn1, qe1⟩ := qt1.bs_sh
      subst qe1
      have HE := hidH (eq_Secret r[j].Id r[j].Bytes _ _ wr.drew pt1 qt1)
      have HBW := hidH hBW
      clear RA RB hBW hBw bd pt0 qt0 pt1 qt1
      go_wp2
      go_still_tail 8, (by kernel_rfl)
      change wpList _ _ _ _ _ wr.drew
      go_wp2_with fail
      refine HE.out.mono ?_
      rintro e w3 ⟨rfl, b3⟩
      have B3 := hidH (btr HBW.out b3)
      clear HE HBW b3 p0 q0 p1 q1
      go_wp2
      go_roundw
      case rel => exact ⟨j + 1, by omega, by go_num, B3.out⟩
      case measure => simp [intOf]; omega
    · have HBW := hidH hBw
      have hd : ¬ ((j : Int) < (r.length : Int)) := by omega
      clear hBw hlt hj
      go_wp2
      go_ret
      exact ⟨rfl, HBW.out⟩
set_option maxRecDepth 100000 in
set_option maxHeartbeats 2000000 in
theorem markS_Secret (r : List SecretM) (S : Fp) (v : Value) (k : Nat) (w : World) (h : Ow w (st_Secret r) S v) (hk : k + cc (st_Secret r) ≤ 1000000000000) :
    Calls Try.prog 30 #[v, .int .i64 k] w (MkR (st_Secret r) S v k w) := by
  unfold st_Secret at h hk ⊢
  unfold Ow at h
  obtain ⟨A, c, rfl, hc, h⟩ := h
  have hm := hc.len
  unfold MkR
  rcases h with ⟨h0, _⟩ | ⟨g, o, rfl, hg, h⟩
  · obtain rfl := List.eq_nil_of_length_eq_zero h0
    have HC := hidH hc
    clear h0 hc
    go_enter Try.func30, Try.ntmps30
    go_wp2
    go_loopw [1, 5] (fun v i wr => v = .int .i64 k ∧ i = .int .i64 0 ∧ wr = w) (fun _ _ _ => 0)
    case atStart => exact ⟨rfl, rfl, rfl⟩
    case round =>
      obtain ⟨rfl, rfl, rfl⟩ := hrel
      go_wp2
      go_ret
      refine ⟨ret_int (by simp [cc, cc.ccL]), Chg.refl _ _, ?_⟩
      simp only [mkc]
      unfold Ow
      exact ⟨A, c, rfl, HC.out, .inl ⟨rfl, rfl⟩⟩
  · have M0 := hidH (MkSt.start (k := k) h hg)
    have HC := hidH hc
    have HKL := hidH (kRow_le k SecretM.vs r)
    have HK := hidH hk
    clear hc h
    go_enter Try.func30, Try.ntmps30
    go_wp2
    go_loopw [1, 5] (fun v i wr => ∃ j : Nat, j ≤ r.length ∧ v = .int .i64 ((kRow k SecretM.vs r j : Nat) : Int) ∧ i = .int .i64 j ∧ MkSt w S g o k ((r.take j).flatMap SecretM.vs) ((r.drop j).flatMap SecretM.vs) wr) (fun _ i _ => r.length - (intOf i).toNat)
    case atStart => exact ⟨0, Nat.zero_le _, by rw [kRow_zero], rfl, M0.out⟩
    case round =>
      obtain ⟨j, hj, rfl, rfl, hM⟩ := hrel
      by_cases hlt : j < r.length
      · have hj0 : (0 : Int) ≤ (j : Int) := by omega
        have hj1 : (j : Int) < (r.length : Int) := by omega
        have hkl := HKL.out (j + 1)
        have hks := kRow_succ k SecretM.vs r j hlt
        have hk2 := HK.out
        have hrow : cc.ccL (SecretM.vs r[j]) = 1 + cc (.bs r[j].Bytes) := by simp only [SecretM.vs, cc.ccL, cc] <;> omega
        have hp : ((r.take j).flatMap SecretM.vs).length = j * 2 := take_len (f := SecretM.vs) (fun _ => rfl) r j (by omega)
        have he := flat_take SecretM.vs r j hlt
        rw [flat_drop SecretM.vs r j hlt] at hM
        replace hM : MkSt w S g o k ((r.take j).flatMap SecretM.vs) ((.int r[j].Id) :: (.bs r[j].Bytes) :: (r.drop (j + 1)).flatMap SecretM.vs) wr := hM
        obtain ⟨y, hy⟩ : ∃ y, kRow k SecretM.vs r j = y := ⟨_, rfl⟩
        rw [hy] at hks ⊢
        unfold kRow at hy
        have hyb : (y : Int) + 1 + (cc (.bs r[j].Bytes) : Int) + 0 ≤ 1000000000000 := by omega
        obtain ⟨pre, hpre⟩ : ∃ pre, (r.take j).flatMap SecretM.vs = pre := ⟨_, rfl⟩
        obtain ⟨post, hpost⟩ : ∃ post, (r.drop (j + 1)).flatMap SecretM.vs = post := ⟨_, rfl⟩
        rw [hpre] at hM hy hp he
        rw [hpost] at hM
        have HPO := hidH hpost
        have HKS := hidH hks
        have HE := hidH he
        have HY := hidH hy
        have HP := hidH hp
        have HRO := hidH hrow
        have HYB := hidH hyb
        clear hpost hks he hy hp hpre hrow hkl hk2 hyb
        have hyI : (y : Int) ≤ 1000000000000 := by have := HYB.out; omega
        obtain ⟨⟨x0, p0⟩, f0, hM⟩ := hM.num (o + j * 2) (by rw [HP.out]) ((y : Int)) (by rw [HY.out])
        obtain ⟨u1, S1, p1, ho1, hN⟩ := hM.at_ (o + j * 2 + 1) (by simp only [List.length_append, List.length_cons, List.length_nil, HP.out]; omega) (y + 1) (by rw [← HY.out]; simp only [ccL_append, cc.ccL, cc]; omega)
        have HO := hidH ho1
        have HN := hidH hN
        clear ho1 hN hM
        go_wp2_with fail
        rw [show ((y : Int) + 1) = ((y + 1 : Nat) : Int) by omega]
        refine (markB_ow r[j].Bytes S1 u1 (y + 1) _ HO.out (by have := HYB.out; omega)).mono ?_
        rintro e v1 ⟨rfl, hc1, ho1⟩
        have hM := HN.out _ hc1 ho1
        clear HO HN hc1 ho1 p1 p0 f0
        have hb1 : (((y + 1 + cc (.bs r[j].Bytes) : Nat) : Int)) ≤ 1000000000000 := by have := HYB.out; omega
        rw [show (pre ++ [.int r[j].Id]) ++ [.bs r[j].Bytes] = (r.take (j + 1)).flatMap SecretM.vs from (by rw [HE.out]; simp [SecretM.vs])] at hM
        rw [← HPO.out] at hM
        have HM := hidH hM
        clear hM
        go_wp2
        go_roundw
        case rel => exact ⟨j + 1, by omega, by rw [HKS.out, HRO.out]; exact congrArg (Value.int .i64) (by omega), by go_num, HM.out⟩
        case measure => simp [intOf]; omega
      · obtain rfl : j = r.length := by omega
        rw [List.take_length, List.drop_length] at hM
        have HM := hidH (MkSt.done hM HC.out)
        have hka := kRow_all k SecretM.vs r
        clear hM hlt hj
        go_wp2
        go_ret
        exact ⟨ret_int (by rw [hka]), HM.out.1, HM.out.2⟩
set_option maxRecDepth 100000 in
set_option maxHeartbeats 2000000 in
theorem heldS_Secret (r : List SecretM) (v : Value) (k : Nat) (w : World) (h : Rd w (mkc k (st_Secret r)) v) (hk : k + cc (st_Secret r) ≤ 1000000000000) :
    Calls Try.prog 62 #[v, .int .i64 k] w (HeR (st_Secret r) k w) := by
  unfold st_Secret at h hk ⊢
  have h2 := h
  simp only [mkc] at h2
  have hm : (r.length : Int) ≤ 9223372036854775807 := Rd.st_len h2
  obtain ⟨A, c, rfl⟩ := h2.st_sh
  clear h2
  have HV := hidH (fun (u : World) (h3 : Below w.heap.size w u) => Rd.below h3 _ h)
  have HKL := hidH (kRow_le k SecretM.vs r)
  have HK := hidH hk
  unfold HeR
  clear h
  go_enter Try.func62, Try.ntmps62
  go_wp2
  go_loopw [1, 5] (fun v i wr => ∃ j : Nat, j ≤ r.length ∧ v = .int .i64 ((kRow k SecretM.vs r j : Nat) : Int) ∧ i = .int .i64 j ∧ Below w.heap.size w wr) (fun _ i _ => r.length - (intOf i).toNat)
  case atStart => exact ⟨0, Nat.zero_le _, by rw [kRow_zero], rfl, Below.refl _ _⟩
  case round =>
    obtain ⟨j, hj, rfl, rfl, hB⟩ := hrel
    by_cases hlt : j < r.length
    · have hj0 : (0 : Int) ≤ (j : Int) := by omega
      have hj1 : (j : Int) < (r.length : Int) := by omega
      have hkl := HKL.out (j + 1)
      have hks := kRow_succ k SecretM.vs r j hlt
      have hk2 := HK.out
      have hrow : cc.ccL (SecretM.vs r[j]) = 1 + cc (.bs r[j].Bytes) := by simp only [SecretM.vs, cc.ccL, cc] <;> omega
      obtain ⟨g, o, ca, ea, hg, RA⟩ := Rd.rowmk (f := SecretM.vs) (W := 2) (fun _ => rfl) (HV.out _ hB) hlt
      injection ea with ea1 ea2 ea3
      subst ea1 ea3
      obtain ⟨y, hy⟩ : ∃ y, kRow k SecretM.vs r j = y := ⟨_, rfl⟩
      rw [hy] at hks ⊢
      unfold kRow at hy
      rw [hy] at RA
      obtain ⟨pu0, p0, pt0⟩ := RA 0 (.int ((y : Nat) : Int)) rfl
      have pe0 := pt0.int_out
      subst pe0
      clear pt0
      rw [Nat.add_zero] at p0
      obtain ⟨pu1, p1, pt1⟩ := RA 1 (mkc (y + 1) (.bs r[j].Bytes)) rfl
      have HV1 := hidH (fun (u : World) (h3 : Below wr.heap.size wr u) => Rd.below h3 _ pt1)
      clear pt1
      have hyb : (y : Int) + 1 + (cc (.bs r[j].Bytes) : Int) + 0 ≤ 1000000000000 := by omega
      have HYB := hidH hyb
      have hyI : (y : Int) ≤ 1000000000000 := by omega
      have HKS := hidH hks
      have HRO := hidH hrow
      have HBW := hidH hB
      clear RA hB hks hrow hkl hk2 hy hyb
      go_wp2_with fail
      rw [show ((y : Int) + 1) = ((y + 1 : Nat) : Int) by omega]
      refine (heldB_rd r[j].Bytes _ (y + 1) _ (HV1.out _ (Below.refl _ _)) (by have := HYB.out; omega)).mono ?_
      rintro e v1 ⟨rfl, hb⟩
      have HB := hidH hb
      replace HBW := hidH (btr HBW.out hb)
      replace hg := Nat.lt_of_lt_of_le hg hb.size
      clear hb
      have hpos1 : ¬ ((((y + 1 + cc (.bs r[j].Bytes) : Nat) : Int)) < 0) := by omega
      have hbd1 : (((y + 1 + cc (.bs r[j].Bytes) : Nat) : Int)) ≤ 1000000000000 := by have := HYB.out; omega
      go_wp2
      go_roundw
      case rel => exact ⟨j + 1, by omega, by rw [HKS.out, HRO.out]; exact congrArg (Value.int .i64) (by omega), by go_num, HBW.out⟩
      case measure => simp [intOf]; omega
    · obtain rfl : j = r.length := by omega
      have HBW := hidH hB
      have hka := kRow_all k SecretM.vs r
      clear hB hlt hj
      go_wp2
      go_ret
      exact ⟨ret_int (by rw [hka]), HBW.out⟩
set_option maxRecDepth 100000 in
set_option maxHeartbeats 2000000 in
theorem szS_Secret (r : List SecretM) (v : Value) (left : Int) (w : World) (hv : Rd w (st_Secret r) v) (h0 : 0 ≤ left) (h1 : left ≤ 1048576) :
    Calls Try.prog 9 #[v, .int .i64 left] w (SzR left (tot (st_Secret r)) w) := by
  have hn : (r.length : Int) ≤ 9223372036854775807 := Rd.st_len hv
  obtain ⟨A, c, rfl⟩ := st_Secret_sh hv
  have HV := hidH (fun (u : World) (h3 : Below w.heap.size w u) => Rd.below h3 _ hv)
  have HT := hidH (tRow_all SecretM.vs r)
  rw [show tot (st_Secret r) = r.length + tRow SecretM.vs r r.length from (tRow_all _ _).symm]
  clear hv
  by_cases hl : left - (r.length : Int) < 0
  · go_enter Try.func9, Try.ntmps9
    go_wp2
    go_ret
    exact ⟨-1, rfl, ⟨.inl rfl, by omega, fun h => by omega⟩, Below.refl _ _⟩
  · have hl0 : 0 ≤ left - (r.length : Int) := by omega
    clear hl
    go_enter Try.func9, Try.ntmps9
    go_wp2
    go_loopw [1, 5] (fun t i wr => ∃ (j : Nat) (z : Int), j ≤ r.length ∧ i = .int .i64 j ∧ t = .int .i64 z ∧ 0 ≤ z ∧ z + (tRow SecretM.vs r j : Int) + (r.length : Int) ≤ left ∧ Below w.heap.size w wr) (fun _ i _ => r.length - (intOf i).toNat)
    case atStart => exact ⟨0, left - (r.length : Int), by omega, rfl, rfl, hl0, by rw [tRow_zero]; omega, Below.refl _ _⟩
    case round =>
      obtain ⟨j, z, hj, rfl, rfl, hz0, hz1, hB⟩ := hrel
      by_cases hlt : j < r.length
      · have hj0 : (0 : Int) ≤ (j : Int) := by omega
        have hj1 : (j : Int) < (r.length : Int) := by omega
        have hz2 : z ≤ 1048576 := by omega
        obtain ⟨g, o, ca, ea, hg, RA⟩ := Rd.row (f := SecretM.vs) (W := 2) (fun _ => rfl) (HV.out _ hB) hlt
        injection ea with ea1 ea2 ea3
        subst ea1 ea3
        obtain ⟨pu0, p0, pt0⟩ := RA 0 (.int r[j].Id) rfl
        have pe0 := pt0.int_out
        subst pe0
        rw [Nat.add_zero] at p0
        obtain ⟨pu1, p1, pt1⟩ := RA 1 (.bs r[j].Bytes) rfl
        obtain ⟨A1, An1, pe1⟩ := pt1.bs_sh
        subst pe1
        have HS := hidH (sz_Secret r[j].Id r[j].Bytes _ z wr pt1 hz0 hz2)
        have hts := tRow_succ SecretM.vs r j hlt
        have HTS := hidH hts
        have HBW := hidH hB
        have HZ1 := hidH hz1
        clear RA hB hz1 hts pt0 pt1
        go_wp2_with fail
        refine HS.out.mono ?_
        rintro e w3 ⟨z3, rfl, hz3, b3⟩
        have B3 := hidH (btr HBW.out b3)
        have HZ3 := hidH hz3
        clear HS b3 HBW hz3 p0 p1
        by_cases hneg : z3 < 0
        · obtain rfl : z3 = -1 := by rcases HZ3.out.1 with h | h <;> omega
          clear hneg
          go_wp2
          go_ret
          exact ⟨-1, rfl, ⟨.inl rfl, by omega, fun h => by omega⟩, B3.out⟩
        · have hpos : 0 ≤ z3 := by omega
          clear hneg
          go_wp2
          go_roundw
          case rel => exact ⟨j + 1, z3, by omega, by go_num, rfl, hpos, by have := HTS.out; have := HZ1.out; have := HZ3.out.2.2 hpos; simp only [SecretM.vs] at *; omega, B3.out⟩
          case measure => simp [intOf]; omega
      · obtain rfl : j = r.length := by omega
        have HBW := hidH hB
        have HZ1 := hidH hz1
        clear hB hlt hj hz1
        go_wp2
        go_ret
        exact ⟨z, rfl, ⟨.inr hz0, by have := HZ1.out; omega, fun _ => by have := HZ1.out; omega⟩, HBW.out⟩
theorem info_Secret : (Try.prog.info? 58).map (fun i => (i.zero, i.size, i.bytes)) = some (some (.agg #[.int .i64 0, .slice none 0 0]), 2, 32) := by kernel_rfl
set_option maxRecDepth 100000 in
set_option maxHeartbeats 2000000 in
theorem toS_Secret (r : List SecretM) (v : Value) (w : World) (hv : Rd w (st_Secret r) v) (hm : tot (st_Secret r) ≤ 1048576) :
    Calls Try.prog 11 #[v] w (ResV w (st_Secret r)) := by
  obtain ⟨A, c, rfl⟩ := st_Secret_sh hv
  have HT := hidH hm
  have hnn : r.length ≤ 1048576 := by rw [st_Secret, ← tRow_all] at hm; omega
  have hnI : (r.length : Int) ≤ 1048576 := by omega
  obtain ⟨i0, hi, hz0, hz1, hz2⟩ := info_parts info_Secret
  have HI := hidH (And.intro hi (And.intro hz0 (And.intro hz1 hz2)))
  have HV := hidH (fun (u : World) (h3 : Below w.heap.size w u) => Rd.below h3 _ hv)
  clear hi hz0 hz1 hz2 hv hm
  go_enter Try.func11, Try.ntmps11
  go_wp2_with (refine wpList_make_full _ rfl _ _ _ rfl w.heap.size 58 i0 _ 2 Try.underlying25 HI.out.1 HI.out.2.1 HI.out.2.2.1 .i64 .i64 _ _ r.length rfl rfl rfl rfl (by rw [HI.out.2.2.2]; omega) (by unfold maxLen; omega) (Nat.le_refl _) ?_)
  intro w1 o1 g1
  have F0 := hidH (fillL0 o1 ((Below.refl w.heap.size w).grown g1 (Nat.le_refl _) (fun k hk => by cases hk)) (Nat.le_refl _))
  clear o1 g1
  go_wp2
  go_loopw [4] (fun i wr => ∃ j : Nat, j ≤ r.length ∧ i = .int .i64 j ∧ FillL w w.heap.size (r.length * 2) ((r.take j).flatMap SecretM.vs) wr) (fun i _ => r.length - (intOf i).toNat)
  case atStart => exact ⟨0, by omega, rfl, F0.out⟩
  case round =>
    obtain ⟨j, hj, rfl, hF⟩ := hrel
    by_cases hlt : j < r.length
    · have hj0 : (0 : Int) ≤ (j : Int) := by omega
      have hj1 : (j : Int) < (r.length : Int) := by omega
      obtain ⟨g, o, ca, ea, hg, RA⟩ := Rd.row (f := SecretM.vs) (W := 2) (fun _ => rfl) (HV.out _ hF.old) hlt
      injection ea with ea1 ea2 ea3
      subst ea1 ea3
      obtain ⟨pu0, p0, pt0⟩ := RA 0 (.int r[j].Id) rfl
      have pe0 := pt0.int_out
      subst pe0
      rw [Nat.add_zero] at p0
      obtain ⟨pu1, p1, pt1⟩ := RA 1 (.bs r[j].Bytes) rfl
      obtain ⟨A1, An1, pe1⟩ := pt1.bs_sh
      subst pe1
      have HS := hidH (to_Secret r[j].Id r[j].Bytes _ wr pt1 (Nat.le_trans (row_tot SecretM.vs r j hlt) HT.out))
      have hp : ((r.take j).flatMap SecretM.vs).length = j * 2 := take_len (f := SecretM.vs) (fun _ => rfl) r j (by omega)
      have HP := hidH hp
      have HE := hidH (flat_take SecretM.vs r j hlt)
      have HF := hidH hF
      clear RA hF hp pt0 pt1
      go_wp2_with fail
      refine HS.out.mono ?_
      rintro e w3 ⟨vs, rfl, O3, b3⟩
      obtain ⟨E1, e1, rfl⟩ := shape_Secret O3.rd
      have hgl := HF.out.lt
      obtain ⟨m0, n0⟩ := HF.out.room (j * 2) (by omega)
      replace n0 := (b3.cell (p := ⟨w.heap.size, _, none⟩) hgl).trans n0
      have f0 := (b3.frozen (p := ⟨w.heap.size, j * 2, none⟩) hgl).trans (HF.out.fz _)
      obtain ⟨m1, n1⟩ := HF.out.room (j * 2 + 1) (by omega)
      replace n1 := (b3.cell (p := ⟨w.heap.size, _, none⟩) hgl).trans n1
      have f1 := (b3.frozen (p := ⟨w.heap.size, j * 2 + 1, none⟩) hgl).trans (HF.out.fz _)
      have ST := hidH (HF.out.step b3 O3 (by rw [HP.out]; simp only [List.length_cons, List.length_nil]; omega) rfl (j * 2) HP.out.symm)
      clear HS O3 b3 HF hgl p0 p1
      go_wp2
      go_roundw
      case rel => exact ⟨j + 1, by omega, by go_num, by rw [HE.out]; exact ST.out⟩
      case measure => simp [intOf]; omega
    · obtain rfl : j = r.length := by omega
      rw [List.take_length] at hF
      have HD := hidH (FillL.done (n := r.length) hF (Caps.same (by omega)))
      have HO := hidH hF.old
      clear hF hlt hj
      go_wp2
      go_ret
      exact ⟨_, rfl, HD.out, HO.out⟩
theorem ccS_Secret (r : List SecretM) : cc.ccL (r.flatMap SecretM.vs) ≤ 3 * (r.length + tot.totL (r.flatMap SecretM.vs)) := by
  induction r with
  | nil => simp [cc.ccL]
  | cons x xs ih =>
    rw [List.flatMap_cons, ccL_append, totL_append, List.length_cons]
    have : cc.ccL (SecretM.vs x) ≤ 3 * (1 + tot.totL (SecretM.vs x)) := by
      simp only [SecretM.vs, cc.ccL, cc, tot.totL, tot]
      omega
    omega
section
variable {H : Type} {enc : TypeId × Value → H} {w : World} {base : Nat} {spare : Nat → Bool} {held : Bool}
theorem openS_Secret {n : Nat} {v : Value} {x : DataW H × List MemPlace} (h : DataW.trod enc Try.prog w base spare held n 22 [v] = some x) : ∃ r : List SecretM, Rd w (st_Secret r) v ∧ WfV (st_Secret r) :=
  open_st (f := SecretM.vs) (W := 2) (fun _ => rfl) (by decide) Try.underlying22 (by kernel_rfl) (fun _ _ _ h => open_Secret h) h
end
structure SecretsResultM where
  Code : Int
  Lst : List SecretM
def SecretsResultM.vs (x : SecretsResultM) : List V := [.int x.Code, st_Secret x.Lst]
theorem shape_SecretsResult {w : World} {n0 : Int} {r1 : List SecretM} {vs : List Value} (h : RdA w [.int n0, st_Secret r1] vs) : ∃ (A1 : Option Addr) (c1 : Nat), vs = [.int .i64 n0, .slice A1 r1.length c1] := by
  obtain ⟨q0, e0, t0⟩ := h.int_out
  subst e0
  obtain ⟨v1, q1, e1, h1, t1⟩ := t0.any_out
  obtain ⟨A1, c1, a1⟩ := st_Secret_sh h1
  subst e1 a1
  have z := t1.nil_out
  subst z
  exact ⟨A1, c1, rfl⟩
set_option maxRecDepth 100000 in
set_option maxHeartbeats 1000000 in
theorem eq_SecretsResult (n0 : Int) (r1 : List SecretM) (v1 u1 : Value) (w : World) (hv1 : Rd w (st_Secret r1) v1) (hu1 : Rd w (st_Secret r1) u1) :
    Calls Try.prog 35 #[.agg #[.int .i64 n0, v1], .agg #[.int .i64 n0, u1]] w (EqR w) := by
  obtain ⟨A1, c1, rfl⟩ := st_Secret_sh hv1
  obtain ⟨B1, d1, rfl⟩ := st_Secret_sh hu1
  have K1 := (Blk.new w 56 #[.int .i64 n0, .slice A1 r1.length c1]).alloc (.cells #[.int .i64 n0, .slice B1 r1.length d1] 56)
  have K2 := Blk.new (w.alloc (.cells #[.int .i64 n0, .slice A1 r1.length c1] 56)) 56 #[.int .i64 n0, .slice B1 r1.length d1]
  have B0 := bal (bal (Below.refl w.heap.size w) (.cells #[.int .i64 n0, .slice A1 r1.length c1] 56)) (.cells #[.int .i64 n0, .slice B1 r1.length d1] 56)
  rw [World.size_alloc] at K2
  obtain ⟨W, hW⟩ : ∃ W, (w.alloc (.cells #[.int .i64 n0, .slice A1 r1.length c1] 56)).alloc (.cells #[.int .i64 n0, .slice B1 r1.length d1] 56) = W := ⟨_, rfl⟩
  rw [hW] at K1 K2 B0
  have HW := hidH hW
  have HB := hidH B0
  have HA := hidH K1
  have HC := hidH K2
  have HV1 := hidH (fun (u : World) (h : Below w.heap.size w u) => Rd.below h _ hv1)
  have HU1 := hidH (fun (u : World) (h : Below w.heap.size w u) => Rd.below h _ hu1)
  clear hW K1 K2 B0 hv1 hu1
  go_enter Try.func35, Try.ntmps35
  go_wp2_with fail
  rw [HW.out]
  refine (eqS_Secret r1 _ _ _ (HV1.out _ HB.out) (HU1.out _ HB.out)).mono ?_
  rintro e w1 ⟨rfl, hb⟩
  replace HA := hidH (HA.out.below hb)
  replace HC := hidH (HC.out.below hb)
  replace HB := hidH (btr HB.out hb)
  clear hb
  go_wp2
  go_ret
  exact ⟨rfl, HB.out⟩
set_option maxRecDepth 100000 in
set_option maxHeartbeats 1000000 in
theorem mark_SecretsResult (n0 : Int) (r1 : List SecretM) (v1 : Value) (S : Fp) (k : Nat) (w : World) (hS : Sub S (Wn 0 w.heap.size)) (h : OwA w [.int n0, st_Secret r1] S [.int .i64 n0, v1]) (hk : k + vcA [.int n0, st_Secret r1] ≤ 1000000000000) :
    Calls Try.prog 38 #[.agg #[.int .i64 n0, v1], .int .i64 k] w (MkA [.int n0, st_Secret r1] S [.int .i64 n0, v1] k w) := by
  have hr := h.rd
  have hv1 := hr.tl.hd
  obtain ⟨A1, c1, rfl⟩ := st_Secret_sh hv1
  clear hr hv1
  have K1 := Blk.new w 56 #[.int .i64 n0, .slice A1 r1.length c1]
  have B0 := bal (Below.refl w.heap.size w) (.cells #[.int .i64 n0, .slice A1 r1.length c1] 56)
  obtain ⟨W, hW⟩ : ∃ W, w.alloc (.cells #[.int .i64 n0, .slice A1 r1.length c1] 56) = W := ⟨_, rfl⟩
  rw [hW] at K1 B0
  have HW := hidH hW
  have HB := hidH B0
  have HA := hidH K1
  replace h := OwA.kept (Kept.of_below B0) h
  have hcnt : vcA [.int n0, st_Secret r1] = cc (st_Secret r1) := by simp only [vcA, vc, st_Secret] <;> omega
  unfold MkA
  rw [hcnt] at hk ⊢
  obtain ⟨T0, s0, h, G0⟩ := OwA.step_int h
  have s0 := Sub.trans s0 hS
  have G0 := hidH G0
  obtain ⟨T1, s1, hO, G1⟩ := OwA.step (y := mkc (k) (st_Secret r1)) h
  have s1 := Sub.trans s1 s0
  have HO := hidH hO
  have G1 := hidH G1
  clear hO h
  clear hW B0 K1
  go_enter Try.func38, Try.ntmps38
  go_wp2_with fail
  rw [HW.out]
  refine (markS_Secret r1 T1 _ (k) _ HO.out (by omega)).mono ?_
  rintro e w1 ⟨rfl, hc, ho⟩
  replace HA := hidH (HA.out.chg hc s1)
  have HC0 := hidH hc
  obtain ⟨T2, s2, h, G2⟩ := G1.out _ hc ho
  have s2 := Sub.trans s2 s0
  have G2 := hidH G2
  clear HO hc ho
  obtain ⟨hc, h⟩ := OwA.nil_step h
  obtain ⟨hc, h⟩ := G2.out _ _ hc h
  obtain ⟨hc, h⟩ := G0.out _ _ hc h
  have HCC := hidH ((Chg.of_below HB.out).trans hc)
  have HO := hidH h
  clear hc h
  go_wp2
  go_ret
  exact ⟨rfl, HCC.out, HO.out⟩
set_option maxRecDepth 100000 in
set_option maxHeartbeats 1000000 in
theorem held_SecretsResult (n0 : Int) (r1 : List SecretM) (v1 : Value) (k : Nat) (w : World) (hv1 : Rd w (mkc (k) (st_Secret r1)) v1) (hk : k + vcA [.int n0, st_Secret r1] ≤ 1000000000000) :
    Calls Try.prog 39 #[.agg #[.int .i64 n0, v1], .int .i64 k] w (HeA [.int n0, st_Secret r1] k w) := by
  obtain ⟨A1, n1, c1, rfl⟩ := mkc_st_sh (x := st_Secret r1) rfl hv1
  have K1 := Blk.new w 56 #[.int .i64 n0, .slice A1 n1 c1]
  have B0 := bal (Below.refl w.heap.size w) (.cells #[.int .i64 n0, .slice A1 n1 c1] 56)
  obtain ⟨W, hW⟩ : ∃ W, w.alloc (.cells #[.int .i64 n0, .slice A1 n1 c1] 56) = W := ⟨_, rfl⟩
  rw [hW] at K1 B0
  have HW := hidH hW
  have HB := hidH B0
  have HA := hidH K1
  have hcnt : vcA [.int n0, st_Secret r1] = cc (st_Secret r1) := by simp only [vcA, vc, st_Secret] <;> omega
  unfold HeA
  rw [hcnt] at hk ⊢
  have HV1 := hidH (fun (u : World) (h : Below w.heap.size w u) => Rd.below h _ hv1)
  clear hW K1 B0 hv1
  go_enter Try.func39, Try.ntmps39
  go_wp2_with fail
  rw [HW.out]
  refine (heldS_Secret r1 _ (k) _ (HV1.out _ HB.out) (by omega)).mono ?_
  rintro e w1 ⟨rfl, hb⟩
  replace HA := hidH (HA.out.below hb)
  replace HB := hidH (btr HB.out hb)
  have hpos : ¬ (((k + cc (st_Secret r1) : Nat) : Int) < 0) := by omega
  clear hb
  go_wp2
  go_ret
  exact ⟨rfl, HB.out⟩
theorem eqA_SecretsResult (y : SecretsResultM) {vs us : List Value} {w : World} (h : RdA w y.vs vs) (k : RdA w y.vs us) : Calls Try.prog 35 #[.agg vs.toArray, .agg us.toArray] w (EqR w) := by
  obtain ⟨A1, c1, rfl⟩ := shape_SecretsResult (h)
  obtain ⟨B1, d1, rfl⟩ := shape_SecretsResult (k)
  exact eq_SecretsResult y.Code y.Lst _ _ w h.tl.hd k.tl.hd
theorem markA_SecretsResult (y : SecretsResultM) {vs : List Value} {S : Fp} {k : Nat} {w : World} (hS : Sub S (Wn 0 w.heap.size)) (h : OwA w y.vs S vs) (hk : k + vcA y.vs ≤ 1000000000000) : Calls Try.prog 38 #[.agg vs.toArray, .int .i64 k] w (MkA y.vs S vs k w) := by
  obtain ⟨A1, c1, rfl⟩ := shape_SecretsResult (h.rd)
  exact mark_SecretsResult y.Code y.Lst _ S k w hS h hk
theorem heldA_SecretsResult (y : SecretsResultM) {vs : List Value} {k : Nat} {w : World} (h : RdA w (mkA k y.vs) vs) (hk : k + vcA y.vs ≤ 1000000000000) : Calls Try.prog 39 #[.agg vs.toArray, .int .i64 k] w (HeA y.vs k w) := by
  obtain ⟨q0, e0, t0⟩ := RdA.int_out (n := y.Code) h
  subst e0
  obtain ⟨v1, q1, e1, h1, t1⟩ := RdA.any_out (x := mkc (k) (st_Secret y.Lst)) t0
  subst e1
  have z := t1.nil_out
  subst z
  exact held_SecretsResult y.Code y.Lst _ k w h1 hk
theorem cnt_SecretsResult (y : SecretsResultM) (h : tot.totL y.vs ≤ 1048576) : vcA y.vs ≤ 1000000000 := by
  have cSecret := ccS_Secret
  simp only [SecretsResultM.vs, vcA, vc, tot.totL, tot, cc, st_Secret] at *
  have d1 := cSecret y.Lst
  omega
theorem mem_SecretsResult {w : World} {g o : Nat} {y : SecretsResultM} (h : RdL w y.vs g o) : ∃ (A1 : Option Addr) (c1 : Nat), w.cell? ⟨g, o, none⟩ = some (.int .i64 y.Code) ∧ w.cell? ⟨g, o + 1, none⟩ = some (.slice A1 y.Lst.length c1) ∧ Rd w (st_Secret y.Lst) (.slice A1 y.Lst.length c1) := by
  obtain ⟨u0, p0, t0⟩ := h.get? 0 (.int y.Code) rfl
  have e0 := t0.int_out
  subst e0
  obtain ⟨u1, p1, t1⟩ := h.get? 1 (st_Secret y.Lst) rfl
  obtain ⟨A1, c1, e1⟩ := st_Secret_sh t1
  subst e1
  rw [Nat.add_zero] at p0
  exact ⟨A1, c1, p0, p1, t1⟩
end Go.Proofs.Ytjjileefdjjijaa
