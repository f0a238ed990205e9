/- Sack, Asconf and their results (WRITTEN BY tools/kinds.py) -/
import Derived.Test.YtncnibkojneejaaUniO
namespace Go.Proofs.Ytncnibkojneejaa
open Go.RowKit Go.Deep Go.ChangeShapes Go.WideShapes Go.ChangeAt

structure GapM where
  From : Int
  To : Int
def GapM.vs (x : GapM) : List V := [.int x.From, .int x.To]
theorem shape_Gap {w : World} {n0 : Int} {n1 : Int} {vs : List Value} (h : RdA w [.int n0, .int n1] vs) : vs = [.int .i64 n0, .int .i64 n1] := by
  obtain ⟨q0, e0, t0⟩ := h.int_out
  subst e0
  obtain ⟨q1, e1, t1⟩ := t0.int_out
  subst e1
  have z := t1.nil_out
  subst z
  exact rfl
set_option maxRecDepth 100000 in
set_option maxHeartbeats 1000000 in
theorem eq_Gap (n0 : Int) (n1 : Int) (w : World)   :
    Calls Try.prog 97 #[.agg #[.int .i64 n0, .int .i64 n1], .agg #[.int .i64 n0, .int .i64 n1]] w (EqR w) := by
  go_enter Try.func97, Try.ntmps97
  go_wp2
  go_ret
  exact ⟨rfl, bal (bal (Below.refl _ _) _) _⟩
theorem eqA_Gap (y : GapM) {vs us : List Value} {w : World} (h : RdA w y.vs vs) (k : RdA w y.vs us) : Calls Try.prog 97 #[.agg vs.toArray, .agg us.toArray] w (EqR w) := by
  obtain rfl := shape_Gap (h)
  obtain rfl := shape_Gap (k)
  exact eq_Gap y.From y.To  w  
theorem mem_Gap {w : World} {g o : Nat} {y : GapM} (h : RdL w y.vs g o) : w.cell? ⟨g, o, none⟩ = some (.int .i64 y.From) ∧ w.cell? ⟨g, o + 1, none⟩ = some (.int .i64 y.To) := by
  obtain ⟨u0, p0, t0⟩ := h.get? 0 (.int y.From) rfl
  have e0 := t0.int_out
  subst e0
  obtain ⟨u1, p1, t1⟩ := h.get? 1 (.int y.To) rfl
  have e1 := t1.int_out
  subst e1
  rw [Nat.add_zero] at p0
  exact ⟨p0, p1⟩
def st_Gap (r : List GapM) : V := .st r.length (r.flatMap GapM.vs)
theorem st_Gap_sh {w : World} {r : List GapM} {v : Value} (h : Rd w (st_Gap r) v) : ∃ A c, v = .slice A r.length c := Rd.st_sh h
set_option maxRecDepth 100000 in
set_option maxHeartbeats 2000000 in
theorem eqS_Gap (r : List GapM) (v u : Value) (w : World) (hv : Rd w (st_Gap r) v) (hu : Rd w (st_Gap r) u) :
    Calls Try.prog 77 #[v, u] w (EqR w) := by
  obtain ⟨A, c, rfl⟩ := st_Gap_sh hv
  obtain ⟨B, d, rfl⟩ := st_Gap_sh hu
  have hm : (r.length : Int) ≤ 9223372036854775807 := Rd.st_len hv
  have HV := hidH (fun (u : World) (h : Below w.heap.size w u) => Rd.below h _ hv)
  have HU := hidH (fun (u : World) (h : Below w.heap.size w u) => Rd.below h _ hu)
  clear hv hu
  go_enter Try.func77, Try.ntmps77
  go_wp2
  go_loopw [5] (fun i wr => ∃ j : Nat, j ≤ r.length ∧ i = .int .i64 j ∧ Below w.heap.size w wr) (fun i _ => r.length - (intOf i).toNat)
  case atStart => exact ⟨0, by omega, rfl, Below.refl _ _⟩
  case round =>
    obtain ⟨j, hj, rfl, hBw⟩ := hrel
    by_cases hlt : j < r.length
    · have hj0 : (0 : Int) ≤ (j : Int) := by omega
      have hj1 : (j : Int) < (r.length : Int) := by omega
      have bd := (Below.refl wr.heap.size wr).drew
      have hBW := btr hBw bd
      obtain ⟨ga, oa, ca, ea, hga, RA⟩ := Rd.row (f := GapM.vs) (W := 2) (fun _ => rfl) (HV.out _ hBW) hlt
      obtain ⟨gb, ob, cb, eb, hgb, RB⟩ := Rd.row (f := GapM.vs) (W := 2) (fun _ => rfl) (HU.out _ hBW) hlt
      injection ea with ea1 ea2 ea3
      subst ea1 ea3
      injection eb with eb1 eb2 eb3
      subst eb1 eb3
      obtain ⟨pu0, p0, pt0⟩ := RA 0 (.int r[j].From) rfl
      have pe0 := pt0.int_out
      subst pe0
      rw [Nat.add_zero] at p0
      obtain ⟨pu1, p1, pt1⟩ := RA 1 (.int r[j].To) rfl
      have pe1 := pt1.int_out
      subst pe1
      obtain ⟨qu0, q0, qt0⟩ := RB 0 (.int r[j].From) rfl
      have qe0 := qt0.int_out
      subst qe0
      rw [Nat.add_zero] at q0
      obtain ⟨qu1, q1, qt1⟩ := RB 1 (.int r[j].To) rfl
      have qe1 := qt1.int_out
      subst qe1
      have HE := hidH (eq_Gap r[j].From r[j].To wr.drew  )
      have HBW := hidH hBW
      clear RA RB hBW hBw bd pt0 qt0 pt1 qt1
      go_wp2
      go_still_tail 8, (by kernel_rfl)
      change wpList _ _ _ _ _ wr.drew
      go_wp2_with fail
      refine HE.out.mono ?_
      rintro e w3 ⟨rfl, b3⟩
      have B3 := hidH (btr HBW.out b3)
      clear HE HBW b3 p0 q0 p1 q1
      go_wp2
      go_roundw
      case rel => exact ⟨j + 1, by omega, by go_num, B3.out⟩
      case measure => simp [intOf]; omega
    · have HBW := hidH hBw
      have hd : ¬ ((j : Int) < (r.length : Int)) := by omega
      clear hBw hlt hj
      go_wp2
      go_ret
      exact ⟨rfl, HBW.out⟩
set_option maxRecDepth 100000 in
set_option maxHeartbeats 2000000 in
theorem markS_Gap (r : List GapM) (S : Fp) (v : Value) (k : Nat) (w : World) (h : Ow w (st_Gap r) S v) (hk : k + cc (st_Gap r) ≤ 1000000000000) :
    Calls Try.prog 78 #[v, .int .i64 k] w (MkR (st_Gap r) S v k w) := by
  unfold st_Gap at h hk ⊢
  unfold Ow at h
  obtain ⟨A, c, rfl, hc, h⟩ := h
  have hm := hc.len
  unfold MkR
  rcases h with ⟨h0, _⟩ | ⟨g, o, rfl, hg, h⟩
  · obtain rfl := List.eq_nil_of_length_eq_zero h0
    have HC := hidH hc
    clear h0 hc
    go_enter Try.func78, Try.ntmps78
    go_wp2
    go_loopw [1, 5] (fun v i wr => v = .int .i64 k ∧ i = .int .i64 0 ∧ wr = w) (fun _ _ _ => 0)
    case atStart => exact ⟨rfl, rfl, rfl⟩
    case round =>
      obtain ⟨rfl, rfl, rfl⟩ := hrel
      go_wp2
      go_ret
      refine ⟨ret_int (by simp [cc, cc.ccL]), Chg.refl _ _, ?_⟩
      simp only [mkc]
      unfold Ow
      exact ⟨A, c, rfl, HC.out, .inl ⟨rfl, rfl⟩⟩
  · have M0 := hidH (MkSt.start (k := k) h hg)
    have HC := hidH hc
    have HKL := hidH (kRow_le k GapM.vs r)
    have HK := hidH hk
    clear hc h
    go_enter Try.func78, Try.ntmps78
    go_wp2
    go_loopw [1, 5] (fun v i wr => ∃ j : Nat, j ≤ r.length ∧ v = .int .i64 ((kRow k GapM.vs r j : Nat) : Int) ∧ i = .int .i64 j ∧ MkSt w S g o k ((r.take j).flatMap GapM.vs) ((r.drop j).flatMap GapM.vs) wr) (fun _ i _ => r.length - (intOf i).toNat)
    case atStart => exact ⟨0, Nat.zero_le _, by rw [kRow_zero], rfl, M0.out⟩
    case round =>
      obtain ⟨j, hj, rfl, rfl, hM⟩ := hrel
      by_cases hlt : j < r.length
      · have hj0 : (0 : Int) ≤ (j : Int) := by omega
        have hj1 : (j : Int) < (r.length : Int) := by omega
        have hkl := HKL.out (j + 1)
        have hks := kRow_succ k GapM.vs r j hlt
        have hk2 := HK.out
        have hrow : cc.ccL (GapM.vs r[j]) = 1 + 1 := by simp only [GapM.vs, cc.ccL, cc] <;> omega
        have hp : ((r.take j).flatMap GapM.vs).length = j * 2 := take_len (f := GapM.vs) (fun _ => rfl) r j (by omega)
        have he := flat_take GapM.vs r j hlt
        rw [flat_drop GapM.vs r j hlt] at hM
        replace hM : MkSt w S g o k ((r.take j).flatMap GapM.vs) ((.int r[j].From) :: (.int r[j].To) :: (r.drop (j + 1)).flatMap GapM.vs) wr := hM
        obtain ⟨y, hy⟩ : ∃ y, kRow k GapM.vs r j = y := ⟨_, rfl⟩
        rw [hy] at hks ⊢
        unfold kRow at hy
        have hyb : (y : Int) + 1 + 1 + 0 ≤ 1000000000000 := by omega
        obtain ⟨pre, hpre⟩ : ∃ pre, (r.take j).flatMap GapM.vs = pre := ⟨_, rfl⟩
        obtain ⟨post, hpost⟩ : ∃ post, (r.drop (j + 1)).flatMap GapM.vs = post := ⟨_, rfl⟩
        rw [hpre] at hM hy hp he
        rw [hpost] at hM
        have HPO := hidH hpost
        have HKS := hidH hks
        have HE := hidH he
        have HY := hidH hy
        have HP := hidH hp
        have HRO := hidH hrow
        have HYB := hidH hyb
        clear hpost hks he hy hp hpre hrow hkl hk2 hyb
        have hyI : (y : Int) ≤ 1000000000000 := by have := HYB.out; omega
        obtain ⟨⟨x0, p0⟩, f0, hM⟩ := hM.num (o + j * 2) (by rw [HP.out]) ((y : Int)) (by rw [HY.out])
        obtain ⟨⟨x1, p1⟩, f1, hM⟩ := hM.num (o + j * 2 + 1) (by simp only [List.length_append, List.length_cons, List.length_nil, HP.out]; omega) ((y : Int) + 1) (by rw [← HY.out]; simp only [ccL_append, cc.ccL, cc]; omega)
        rw [show (pre ++ [.int r[j].From]) ++ [.int r[j].To] = (r.take (j + 1)).flatMap GapM.vs from (by rw [HE.out]; simp [GapM.vs])] at hM
        rw [← HPO.out] at hM
        have HM := hidH hM
        clear hM
        go_wp2
        go_roundw
        case rel => exact ⟨j + 1, by omega, by rw [HKS.out, HRO.out]; exact congrArg (Value.int .i64) (by omega), by go_num, HM.out⟩
        case measure => simp [intOf]; omega
      · obtain rfl : j = r.length := by omega
        rw [List.take_length, List.drop_length] at hM
        have HM := hidH (MkSt.done hM HC.out)
        have hka := kRow_all k GapM.vs r
        clear hM hlt hj
        go_wp2
        go_ret
        exact ⟨ret_int (by rw [hka]), HM.out.1, HM.out.2⟩
set_option maxRecDepth 100000 in
set_option maxHeartbeats 2000000 in
theorem heldS_Gap (r : List GapM) (v : Value) (k : Nat) (w : World) (h : Rd w (mkc k (st_Gap r)) v) (hk : k + cc (st_Gap r) ≤ 1000000000000) :
    Calls Try.prog 79 #[v, .int .i64 k] w (HeR (st_Gap r) k w) := by
  unfold st_Gap at h hk ⊢
  have h2 := h
  simp only [mkc] at h2
  have hm : (r.length : Int) ≤ 9223372036854775807 := Rd.st_len h2
  obtain ⟨A, c, rfl⟩ := h2.st_sh
  clear h2
  have HV := hidH (fun (u : World) (h3 : Below w.heap.size w u) => Rd.below h3 _ h)
  have HKL := hidH (kRow_le k GapM.vs r)
  have HK := hidH hk
  unfold HeR
  clear h
  go_enter Try.func79, Try.ntmps79
  go_wp2
  go_loopw [1, 5] (fun v i wr => ∃ j : Nat, j ≤ r.length ∧ v = .int .i64 ((kRow k GapM.vs r j : Nat) : Int) ∧ i = .int .i64 j ∧ Below w.heap.size w wr) (fun _ i _ => r.length - (intOf i).toNat)
  case atStart => exact ⟨0, Nat.zero_le _, by rw [kRow_zero], rfl, Below.refl _ _⟩
  case round =>
    obtain ⟨j, hj, rfl, rfl, hB⟩ := hrel
    by_cases hlt : j < r.length
    · have hj0 : (0 : Int) ≤ (j : Int) := by omega
      have hj1 : (j : Int) < (r.length : Int) := by omega
      have hkl := HKL.out (j + 1)
      have hks := kRow_succ k GapM.vs r j hlt
      have hk2 := HK.out
      have hrow : cc.ccL (GapM.vs r[j]) = 1 + 1 := by simp only [GapM.vs, cc.ccL, cc] <;> omega
      obtain ⟨g, o, ca, ea, hg, RA⟩ := Rd.rowmk (f := GapM.vs) (W := 2) (fun _ => rfl) (HV.out _ hB) hlt
      injection ea with ea1 ea2 ea3
      subst ea1 ea3
      obtain ⟨y, hy⟩ : ∃ y, kRow k GapM.vs r j = y := ⟨_, rfl⟩
      rw [hy] at hks ⊢
      unfold kRow at hy
      rw [hy] at RA
      obtain ⟨pu0, p0, pt0⟩ := RA 0 (.int ((y : Nat) : Int)) rfl
      have pe0 := pt0.int_out
      subst pe0
      clear pt0
      rw [Nat.add_zero] at p0
      obtain ⟨pu1, p1, pt1⟩ := RA 1 (.int ((y + 1 : Nat) : Int)) rfl
      have pe1 := pt1.int_out
      subst pe1
      clear pt1
      rw [show ((y + 1 : Nat) : Int) = (y : Int) + 1 by omega] at p1
      have hyb : (y : Int) + 1 + 1 + 0 ≤ 1000000000000 := by omega
      have HYB := hidH hyb
      have hyI : (y : Int) ≤ 1000000000000 := by omega
      have HKS := hidH hks
      have HRO := hidH hrow
      have HBW := hidH hB
      clear RA hB hks hrow hkl hk2 hy hyb
      go_wp2
      go_roundw
      case rel => exact ⟨j + 1, by omega, by rw [HKS.out, HRO.out]; exact congrArg (Value.int .i64) (by omega), by go_num, HBW.out⟩
      case measure => simp [intOf]; omega
    · obtain rfl : j = r.length := by omega
      have HBW := hidH hB
      have hka := kRow_all k GapM.vs r
      clear hB hlt hj
      go_wp2
      go_ret
      exact ⟨ret_int (by rw [hka]), HBW.out⟩
theorem ccS_Gap (r : List GapM) : cc.ccL (r.flatMap GapM.vs) ≤ 3 * (r.length + tot.totL (r.flatMap GapM.vs)) := by
  induction r with
  | nil => simp [cc.ccL]
  | cons x xs ih =>
    rw [List.flatMap_cons, ccL_append, totL_append, List.length_cons]
    have : cc.ccL (GapM.vs x) ≤ 3 * (1 + tot.totL (GapM.vs x)) := by
      simp only [GapM.vs, cc.ccL, cc, tot.totL, tot]
      omega
    omega
structure SackM where
  Cum : Int
  Gaps : List GapM
def SackM.vs (x : SackM) : List V := [.int x.Cum, st_Gap x.Gaps]
theorem shape_Sack {w : World} {n0 : Int} {r1 : List GapM} {vs : List Value} (h : RdA w [.int n0, st_Gap r1] vs) : ∃ (A1 : Option Addr) (c1 : Nat), vs = [.int .i64 n0, .slice A1 r1.length c1] := by
  obtain ⟨q0, e0, t0⟩ := h.int_out
  subst e0
  obtain ⟨v1, q1, e1, h1, t1⟩ := t0.any_out
  obtain ⟨A1, c1, a1⟩ := st_Gap_sh h1
  subst e1 a1
  have z := t1.nil_out
  subst z
  exact ⟨A1, c1, rfl⟩
set_option maxRecDepth 100000 in
set_option maxHeartbeats 1000000 in
theorem eq_Sack (n0 : Int) (r1 : List GapM) (v1 u1 : Value) (w : World) (hv1 : Rd w (st_Gap r1) v1) (hu1 : Rd w (st_Gap r1) u1) :
    Calls Try.prog 55 #[.agg #[.int .i64 n0, v1], .agg #[.int .i64 n0, u1]] w (EqR w) := by
  obtain ⟨A1, c1, rfl⟩ := st_Gap_sh hv1
  obtain ⟨B1, d1, rfl⟩ := st_Gap_sh hu1
  have K1 := (Blk.new w 31 #[.int .i64 n0, .slice A1 r1.length c1]).alloc (.cells #[.int .i64 n0, .slice B1 r1.length d1] 31)
  have K2 := Blk.new (w.alloc (.cells #[.int .i64 n0, .slice A1 r1.length c1] 31)) 31 #[.int .i64 n0, .slice B1 r1.length d1]
  have B0 := bal (bal (Below.refl w.heap.size w) (.cells #[.int .i64 n0, .slice A1 r1.length c1] 31)) (.cells #[.int .i64 n0, .slice B1 r1.length d1] 31)
  rw [World.size_alloc] at K2
  obtain ⟨W, hW⟩ : ∃ W, (w.alloc (.cells #[.int .i64 n0, .slice A1 r1.length c1] 31)).alloc (.cells #[.int .i64 n0, .slice B1 r1.length d1] 31) = W := ⟨_, rfl⟩
  rw [hW] at K1 K2 B0
  have HW := hidH hW
  have HB := hidH B0
  have HA := hidH K1
  have HC := hidH K2
  have HV1 := hidH (fun (u : World) (h : Below w.heap.size w u) => Rd.below h _ hv1)
  have HU1 := hidH (fun (u : World) (h : Below w.heap.size w u) => Rd.below h _ hu1)
  clear hW K1 K2 B0 hv1 hu1
  go_enter Try.func55, Try.ntmps55
  go_wp2_with fail
  rw [HW.out]
  refine (eqS_Gap r1 _ _ _ (HV1.out _ HB.out) (HU1.out _ HB.out)).mono ?_
  rintro e w1 ⟨rfl, hb⟩
  replace HA := hidH (HA.out.below hb)
  replace HC := hidH (HC.out.below hb)
  replace HB := hidH (btr HB.out hb)
  clear hb
  go_wp2
  go_ret
  exact ⟨rfl, HB.out⟩
set_option maxRecDepth 100000 in
set_option maxHeartbeats 1000000 in
theorem mark_Sack (n0 : Int) (r1 : List GapM) (v1 : Value) (S : Fp) (k : Nat) (w : World) (hS : Sub S (Wn 0 w.heap.size)) (h : OwA w [.int n0, st_Gap r1] S [.int .i64 n0, v1]) (hk : k + vcA [.int n0, st_Gap r1] ≤ 1000000000000) :
    Calls Try.prog 58 #[.agg #[.int .i64 n0, v1], .int .i64 k] w (MkA [.int n0, st_Gap r1] S [.int .i64 n0, v1] k w) := by
  have hr := h.rd
  have hv1 := hr.tl.hd
  obtain ⟨A1, c1, rfl⟩ := st_Gap_sh hv1
  clear hr hv1
  have K1 := Blk.new w 31 #[.int .i64 n0, .slice A1 r1.length c1]
  have B0 := bal (Below.refl w.heap.size w) (.cells #[.int .i64 n0, .slice A1 r1.length c1] 31)
  obtain ⟨W, hW⟩ : ∃ W, w.alloc (.cells #[.int .i64 n0, .slice A1 r1.length c1] 31) = W := ⟨_, rfl⟩
  rw [hW] at K1 B0
  have HW := hidH hW
  have HB := hidH B0
  have HA := hidH K1
  replace h := OwA.kept (Kept.of_below B0) h
  have hcnt : vcA [.int n0, st_Gap r1] = cc (st_Gap r1) := by simp only [vcA, vc, st_Gap] <;> omega
  unfold MkA
  rw [hcnt] at hk ⊢
  obtain ⟨T0, s0, h, G0⟩ := OwA.step_int h
  have s0 := Sub.trans s0 hS
  have G0 := hidH G0
  obtain ⟨T1, s1, hO, G1⟩ := OwA.step (y := mkc (k) (st_Gap r1)) h
  have s1 := Sub.trans s1 s0
  have HO := hidH hO
  have G1 := hidH G1
  clear hO h
  clear hW B0 K1
  go_enter Try.func58, Try.ntmps58
  go_wp2_with fail
  rw [HW.out]
  refine (markS_Gap r1 T1 _ (k) _ HO.out (by omega)).mono ?_
  rintro e w1 ⟨rfl, hc, ho⟩
  replace HA := hidH (HA.out.chg hc s1)
  have HC0 := hidH hc
  obtain ⟨T2, s2, h, G2⟩ := G1.out _ hc ho
  have s2 := Sub.trans s2 s0
  have G2 := hidH G2
  clear HO hc ho
  obtain ⟨hc, h⟩ := OwA.nil_step h
  obtain ⟨hc, h⟩ := G2.out _ _ hc h
  obtain ⟨hc, h⟩ := G0.out _ _ hc h
  have HCC := hidH ((Chg.of_below HB.out).trans hc)
  have HO := hidH h
  clear hc h
  go_wp2
  go_ret
  exact ⟨rfl, HCC.out, HO.out⟩
set_option maxRecDepth 100000 in
set_option maxHeartbeats 1000000 in
theorem held_Sack (n0 : Int) (r1 : List GapM) (v1 : Value) (k : Nat) (w : World) (hv1 : Rd w (mkc (k) (st_Gap r1)) v1) (hk : k + vcA [.int n0, st_Gap r1] ≤ 1000000000000) :
    Calls Try.prog 59 #[.agg #[.int .i64 n0, v1], .int .i64 k] w (HeA [.int n0, st_Gap r1] k w) := by
  obtain ⟨A1, n1, c1, rfl⟩ := mkc_st_sh (x := st_Gap r1) rfl hv1
  have K1 := Blk.new w 31 #[.int .i64 n0, .slice A1 n1 c1]
  have B0 := bal (Below.refl w.heap.size w) (.cells #[.int .i64 n0, .slice A1 n1 c1] 31)
  obtain ⟨W, hW⟩ : ∃ W, w.alloc (.cells #[.int .i64 n0, .slice A1 n1 c1] 31) = W := ⟨_, rfl⟩
  rw [hW] at K1 B0
  have HW := hidH hW
  have HB := hidH B0
  have HA := hidH K1
  have hcnt : vcA [.int n0, st_Gap r1] = cc (st_Gap r1) := by simp only [vcA, vc, st_Gap] <;> omega
  unfold HeA
  rw [hcnt] at hk ⊢
  have HV1 := hidH (fun (u : World) (h : Below w.heap.size w u) => Rd.below h _ hv1)
  clear hW K1 B0 hv1
  go_enter Try.func59, Try.ntmps59
  go_wp2_with fail
  rw [HW.out]
  refine (heldS_Gap r1 _ (k) _ (HV1.out _ HB.out) (by omega)).mono ?_
  rintro e w1 ⟨rfl, hb⟩
  replace HA := hidH (HA.out.below hb)
  replace HB := hidH (btr HB.out hb)
  have hpos : ¬ (((k + cc (st_Gap r1) : Nat) : Int) < 0) := by omega
  clear hb
  go_wp2
  go_ret
  exact ⟨rfl, HB.out⟩
theorem eqA_Sack (y : SackM) {vs us : List Value} {w : World} (h : RdA w y.vs vs) (k : RdA w y.vs us) : Calls Try.prog 55 #[.agg vs.toArray, .agg us.toArray] w (EqR w) := by
  obtain ⟨A1, c1, rfl⟩ := shape_Sack (h)
  obtain ⟨B1, d1, rfl⟩ := shape_Sack (k)
  exact eq_Sack y.Cum y.Gaps _ _ w h.tl.hd k.tl.hd
theorem markA_Sack (y : SackM) {vs : List Value} {S : Fp} {k : Nat} {w : World} (hS : Sub S (Wn 0 w.heap.size)) (h : OwA w y.vs S vs) (hk : k + vcA y.vs ≤ 1000000000000) : Calls Try.prog 58 #[.agg vs.toArray, .int .i64 k] w (MkA y.vs S vs k w) := by
  obtain ⟨A1, c1, rfl⟩ := shape_Sack (h.rd)
  exact mark_Sack y.Cum y.Gaps _ S k w hS h hk
theorem heldA_Sack (y : SackM) {vs : List Value} {k : Nat} {w : World} (h : RdA w (mkA k y.vs) vs) (hk : k + vcA y.vs ≤ 1000000000000) : Calls Try.prog 59 #[.agg vs.toArray, .int .i64 k] w (HeA y.vs k w) := by
  obtain ⟨q0, e0, t0⟩ := RdA.int_out (n := y.Cum) h
  subst e0
  obtain ⟨v1, q1, e1, h1, t1⟩ := RdA.any_out (x := mkc (k) (st_Gap y.Gaps)) t0
  subst e1
  have z := t1.nil_out
  subst z
  exact held_Sack y.Cum y.Gaps _ k w h1 hk
theorem cnt_Sack (y : SackM) (h : tot.totL y.vs ≤ 1048576) : vcA y.vs ≤ 1000000000 := by
  have cGap := ccS_Gap
  simp only [SackM.vs, vcA, vc, tot.totL, tot, cc, st_Gap] at *
  have d1 := cGap y.Gaps
  omega
theorem mem_Sack {w : World} {g o : Nat} {y : SackM} (h : RdL w y.vs g o) : ∃ (A1 : Option Addr) (c1 : Nat), w.cell? ⟨g, o, none⟩ = some (.int .i64 y.Cum) ∧ w.cell? ⟨g, o + 1, none⟩ = some (.slice A1 y.Gaps.length c1) ∧ Rd w (st_Gap y.Gaps) (.slice A1 y.Gaps.length c1) := by
  obtain ⟨u0, p0, t0⟩ := h.get? 0 (.int y.Cum) rfl
  have e0 := t0.int_out
  subst e0
  obtain ⟨u1, p1, t1⟩ := h.get? 1 (st_Gap y.Gaps) rfl
  obtain ⟨A1, c1, e1⟩ := st_Gap_sh t1
  subst e1
  rw [Nat.add_zero] at p0
  exact ⟨A1, c1, p0, p1, t1⟩
structure SackResultM where
  Code : Int
  Sack_Cum : Int
  Sack_Gaps : List GapM
def SackResultM.vs (x : SackResultM) : List V := [.int x.Code, .int x.Sack_Cum, st_Gap x.Sack_Gaps]
theorem shape_SackResult {w : World} {n0 : Int} {n1 : Int} {r2 : List GapM} {vs : List Value} (h : RdA w [.int n0, .int n1, st_Gap r2] vs) : ∃ (A2 : Option Addr) (c2 : Nat), vs = [.int .i64 n0, .int .i64 n1, .slice A2 r2.length c2] := by
  obtain ⟨q0, e0, t0⟩ := h.int_out
  subst e0
  obtain ⟨q1, e1, t1⟩ := t0.int_out
  subst e1
  obtain ⟨v2, q2, e2, h2, t2⟩ := t1.any_out
  obtain ⟨A2, c2, a2⟩ := st_Gap_sh h2
  subst e2 a2
  have z := t2.nil_out
  subst z
  exact ⟨A2, c2, rfl⟩
set_option maxRecDepth 100000 in
set_option maxHeartbeats 1000000 in
theorem eq_SackResult (n0 : Int) (n1 : Int) (r2 : List GapM) (v2 u2 : Value) (w : World) (hv2 : Rd w (st_Gap r2) v2) (hu2 : Rd w (st_Gap r2) u2) :
    Calls Try.prog 24 #[.agg #[.int .i64 n0, .int .i64 n1, v2], .agg #[.int .i64 n0, .int .i64 n1, u2]] w (EqR w) := by
  obtain ⟨A2, c2, rfl⟩ := st_Gap_sh hv2
  obtain ⟨B2, d2, rfl⟩ := st_Gap_sh hu2
  have K1 := (Blk.new w 33 #[.int .i64 n0, .int .i64 n1, .slice A2 r2.length c2]).alloc (.cells #[.int .i64 n0, .int .i64 n1, .slice B2 r2.length d2] 33)
  have K2 := Blk.new (w.alloc (.cells #[.int .i64 n0, .int .i64 n1, .slice A2 r2.length c2] 33)) 33 #[.int .i64 n0, .int .i64 n1, .slice B2 r2.length d2]
  have B0 := bal (bal (Below.refl w.heap.size w) (.cells #[.int .i64 n0, .int .i64 n1, .slice A2 r2.length c2] 33)) (.cells #[.int .i64 n0, .int .i64 n1, .slice B2 r2.length d2] 33)
  rw [World.size_alloc] at K2
  obtain ⟨W, hW⟩ : ∃ W, (w.alloc (.cells #[.int .i64 n0, .int .i64 n1, .slice A2 r2.length c2] 33)).alloc (.cells #[.int .i64 n0, .int .i64 n1, .slice B2 r2.length d2] 33) = W := ⟨_, rfl⟩
  rw [hW] at K1 K2 B0
  have HW := hidH hW
  have HB := hidH B0
  have HA := hidH K1
  have HC := hidH K2
  have HV2 := hidH (fun (u : World) (h : Below w.heap.size w u) => Rd.below h _ hv2)
  have HU2 := hidH (fun (u : World) (h : Below w.heap.size w u) => Rd.below h _ hu2)
  clear hW K1 K2 B0 hv2 hu2
  go_enter Try.func24, Try.ntmps24
  go_wp2_with fail
  rw [HW.out]
  refine (eq_Sack n1 r2 _ _ _ (HV2.out _ HB.out) (HU2.out _ HB.out)).mono ?_
  rintro e w1 ⟨rfl, hb⟩
  replace HA := hidH (HA.out.below hb)
  replace HC := hidH (HC.out.below hb)
  replace HB := hidH (btr HB.out hb)
  clear hb
  go_wp2
  go_ret
  exact ⟨rfl, HB.out⟩
set_option maxRecDepth 100000 in
set_option maxHeartbeats 1000000 in
theorem mark_SackResult (n0 : Int) (n1 : Int) (r2 : List GapM) (v2 : Value) (S : Fp) (k : Nat) (w : World) (hS : Sub S (Wn 0 w.heap.size)) (h : OwA w [.int n0, .int n1, st_Gap r2] S [.int .i64 n0, .int .i64 n1, v2]) (hk : k + vcA [.int n0, .int n1, st_Gap r2] ≤ 1000000000000) :
    Calls Try.prog 26 #[.agg #[.int .i64 n0, .int .i64 n1, v2], .int .i64 k] w (MkA [.int n0, .int n1, st_Gap r2] S [.int .i64 n0, .int .i64 n1, v2] k w) := by
  have hr := h.rd
  have hv2 := hr.tl.tl.hd
  obtain ⟨A2, c2, rfl⟩ := st_Gap_sh hv2
  clear hr hv2
  have K1 := Blk.new w 33 #[.int .i64 n0, .int .i64 n1, .slice A2 r2.length c2]
  have B0 := bal (Below.refl w.heap.size w) (.cells #[.int .i64 n0, .int .i64 n1, .slice A2 r2.length c2] 33)
  obtain ⟨W, hW⟩ : ∃ W, w.alloc (.cells #[.int .i64 n0, .int .i64 n1, .slice A2 r2.length c2] 33) = W := ⟨_, rfl⟩
  rw [hW] at K1 B0
  have HW := hidH hW
  have HB := hidH B0
  have HA := hidH K1
  replace h := OwA.kept (Kept.of_below B0) h
  have hcnt : vcA [.int n0, .int n1, st_Gap r2] = cc (st_Gap r2) := by simp only [vcA, vc, st_Gap] <;> omega
  unfold MkA
  rw [hcnt] at hk ⊢
  obtain ⟨T0, s0, h, G0⟩ := OwA.step_int h
  have s0 := Sub.trans s0 hS
  have G0 := hidH G0
  obtain ⟨T1, s1, hO, G1⟩ := OwA.step_app (xs := [.int n1, st_Gap r2]) (vs := [.int .i64 n1, .slice A2 r2.length c2]) (ys := []) (us := []) (xs' := mkA (k) [.int n1, st_Gap r2]) rfl h
  have s1 := Sub.trans s1 s0
  have HO := hidH hO
  have G1 := hidH G1
  clear hO h
  clear hW B0 K1
  go_enter Try.func26, Try.ntmps26
  go_wp2_with fail
  rw [HW.out]
  refine (mark_Sack n1 r2 _ T1 (k) _ (Sub.trans s1 (Wn.sub (Nat.le_refl _) (Nat.le_of_lt HA.out.lt))) HO.out (by have : vcA [.int n1, st_Gap r2] = cc (st_Gap r2) := (by simp only [vcA, vc, st_Gap] <;> omega); omega)).mono ?_
  rintro e w1 ⟨rfl, hc, ho⟩
  replace HA := hidH (HA.out.chg hc s1)
  have HC0 := hidH hc
  obtain ⟨T2, s2, h, G2⟩ := G1.out _ hc ho
  have s2 := Sub.trans s2 s0
  have G2 := hidH G2
  clear HO hc ho
  obtain ⟨hc, h⟩ := OwA.nil_step h
  obtain ⟨hc, h⟩ := G2.out _ _ hc h
  obtain ⟨hc, h⟩ := G0.out _ _ hc h
  have HCC := hidH ((Chg.of_below HB.out).trans hc)
  have HO := hidH h
  clear hc h
  go_wp2
  go_ret
  refine ⟨ret_int (by (try simp only [vcA, vc, st_Gap]) <;> omega), HCC.out, HO.out⟩
set_option maxRecDepth 100000 in
set_option maxHeartbeats 1000000 in
theorem held_SackResult (n0 : Int) (n1 : Int) (r2 : List GapM) (v2 : Value) (k : Nat) (w : World) (hv2 : Rd w (mkc (k) (st_Gap r2)) v2) (hk : k + vcA [.int n0, .int n1, st_Gap r2] ≤ 1000000000000) :
    Calls Try.prog 27 #[.agg #[.int .i64 n0, .int .i64 n1, v2], .int .i64 k] w (HeA [.int n0, .int n1, st_Gap r2] k w) := by
  obtain ⟨A2, n2, c2, rfl⟩ := mkc_st_sh (x := st_Gap r2) rfl hv2
  have K1 := Blk.new w 33 #[.int .i64 n0, .int .i64 n1, .slice A2 n2 c2]
  have B0 := bal (Below.refl w.heap.size w) (.cells #[.int .i64 n0, .int .i64 n1, .slice A2 n2 c2] 33)
  obtain ⟨W, hW⟩ : ∃ W, w.alloc (.cells #[.int .i64 n0, .int .i64 n1, .slice A2 n2 c2] 33) = W := ⟨_, rfl⟩
  rw [hW] at K1 B0
  have HW := hidH hW
  have HB := hidH B0
  have HA := hidH K1
  have hcnt : vcA [.int n0, .int n1, st_Gap r2] = cc (st_Gap r2) := by simp only [vcA, vc, st_Gap] <;> omega
  unfold HeA
  rw [hcnt] at hk ⊢
  have HV2 := hidH (fun (u : World) (h : Below w.heap.size w u) => Rd.below h _ hv2)
  clear hW K1 B0 hv2
  go_enter Try.func27, Try.ntmps27
  go_wp2_with fail
  rw [HW.out]
  refine (held_Sack n1 r2 _ (k) _ (HV2.out _ HB.out) (by have : vcA [.int n1, st_Gap r2] = cc (st_Gap r2) := (by simp only [vcA, vc, st_Gap] <;> omega); omega)).mono ?_
  rintro e w1 ⟨rfl, hb⟩
  replace HA := hidH (HA.out.below hb)
  replace HB := hidH (btr HB.out hb)
  have hpos : ¬ (((k + vcA [.int n1, st_Gap r2] : Nat) : Int) < 0) := by omega
  clear hb
  go_wp2
  go_ret
  refine ⟨ret_int (by (try simp only [vcA, vc, st_Gap]) <;> omega), HB.out⟩
theorem eqA_SackResult (y : SackResultM) {vs us : List Value} {w : World} (h : RdA w y.vs vs) (k : RdA w y.vs us) : Calls Try.prog 24 #[.agg vs.toArray, .agg us.toArray] w (EqR w) := by
  obtain ⟨A2, c2, rfl⟩ := shape_SackResult (h)
  obtain ⟨B2, d2, rfl⟩ := shape_SackResult (k)
  exact eq_SackResult y.Code y.Sack_Cum y.Sack_Gaps _ _ w h.tl.tl.hd k.tl.tl.hd
theorem markA_SackResult (y : SackResultM) {vs : List Value} {S : Fp} {k : Nat} {w : World} (hS : Sub S (Wn 0 w.heap.size)) (h : OwA w y.vs S vs) (hk : k + vcA y.vs ≤ 1000000000000) : Calls Try.prog 26 #[.agg vs.toArray, .int .i64 k] w (MkA y.vs S vs k w) := by
  obtain ⟨A2, c2, rfl⟩ := shape_SackResult (h.rd)
  exact mark_SackResult y.Code y.Sack_Cum y.Sack_Gaps _ S k w hS h hk
theorem heldA_SackResult (y : SackResultM) {vs : List Value} {k : Nat} {w : World} (h : RdA w (mkA k y.vs) vs) (hk : k + vcA y.vs ≤ 1000000000000) : Calls Try.prog 27 #[.agg vs.toArray, .int .i64 k] w (HeA y.vs k w) := by
  obtain ⟨q0, e0, t0⟩ := RdA.int_out (n := y.Code) h
  subst e0
  obtain ⟨q1, e1, t1⟩ := RdA.int_out (n := y.Sack_Cum) t0
  subst e1
  obtain ⟨v2, q2, e2, h2, t2⟩ := RdA.any_out (x := mkc (k) (st_Gap y.Sack_Gaps)) t1
  subst e2
  have z := t2.nil_out
  subst z
  exact held_SackResult y.Code y.Sack_Cum y.Sack_Gaps _ k w h2 hk
theorem cnt_SackResult (y : SackResultM) (h : tot.totL y.vs ≤ 1048576) : vcA y.vs ≤ 1000000000 := by
  have cGap := ccS_Gap
  simp only [SackResultM.vs, vcA, vc, tot.totL, tot, cc, st_Gap] at *
  have d2 := cGap y.Sack_Gaps
  omega
theorem mem_SackResult {w : World} {g o : Nat} {y : SackResultM} (h : RdL w y.vs g o) : ∃ (A2 : Option Addr) (c2 : Nat), w.cell? ⟨g, o, none⟩ = some (.int .i64 y.Code) ∧ w.cell? ⟨g, o + 1, none⟩ = some (.int .i64 y.Sack_Cum) ∧ w.cell? ⟨g, o + 2, none⟩ = some (.slice A2 y.Sack_Gaps.length c2) ∧ Rd w (st_Gap y.Sack_Gaps) (.slice A2 y.Sack_Gaps.length c2) := by
  obtain ⟨u0, p0, t0⟩ := h.get? 0 (.int y.Code) rfl
  have e0 := t0.int_out
  subst e0
  obtain ⟨u1, p1, t1⟩ := h.get? 1 (.int y.Sack_Cum) rfl
  have e1 := t1.int_out
  subst e1
  obtain ⟨u2, p2, t2⟩ := h.get? 2 (st_Gap y.Sack_Gaps) rfl
  obtain ⟨A2, c2, e2⟩ := st_Gap_sh t2
  subst e2
  rw [Nat.add_zero] at p0
  exact ⟨A2, c2, p0, p1, p2, t2⟩
structure AddrOpM where
  Kind : Int
  Addr : Int
def AddrOpM.vs (x : AddrOpM) : List V := [.int x.Kind, .int x.Addr]
theorem shape_AddrOp {w : World} {n0 : Int} {n1 : Int} {vs : List Value} (h : RdA w [.int n0, .int n1] vs) : vs = [.int .i64 n0, .int .i64 n1] := by
  obtain ⟨q0, e0, t0⟩ := h.int_out
  subst e0
  obtain ⟨q1, e1, t1⟩ := t0.int_out
  subst e1
  have z := t1.nil_out
  subst z
  exact rfl
theorem mem_AddrOp {w : World} {g o : Nat} {y : AddrOpM} (h : RdL w y.vs g o) : w.cell? ⟨g, o, none⟩ = some (.int .i64 y.Kind) ∧ w.cell? ⟨g, o + 1, none⟩ = some (.int .i64 y.Addr) := by
  obtain ⟨u0, p0, t0⟩ := h.get? 0 (.int y.Kind) rfl
  have e0 := t0.int_out
  subst e0
  obtain ⟨u1, p1, t1⟩ := h.get? 1 (.int y.Addr) rfl
  have e1 := t1.int_out
  subst e1
  rw [Nat.add_zero] at p0
  exact ⟨p0, p1⟩
def st_AddrOp (r : List AddrOpM) : V := .st r.length (r.flatMap AddrOpM.vs)
theorem st_AddrOp_sh {w : World} {r : List AddrOpM} {v : Value} (h : Rd w (st_AddrOp r) v) : ∃ A c, v = .slice A r.length c := Rd.st_sh h
theorem ccS_AddrOp (r : List AddrOpM) : cc.ccL (r.flatMap AddrOpM.vs) ≤ 3 * (r.length + tot.totL (r.flatMap AddrOpM.vs)) := by
  induction r with
  | nil => simp [cc.ccL]
  | cons x xs ih =>
    rw [List.flatMap_cons, ccL_append, totL_append, List.length_cons]
    have : cc.ccL (AddrOpM.vs x) ≤ 3 * (1 + tot.totL (AddrOpM.vs x)) := by
      simp only [AddrOpM.vs, cc.ccL, cc, tot.totL, tot]
      omega
    omega
structure AsconfM where
  Serial : Int
  Ops : List AddrOpM
def AsconfM.vs (x : AsconfM) : List V := [.int x.Serial, st_AddrOp x.Ops]
theorem shape_Asconf {w : World} {n0 : Int} {r1 : List AddrOpM} {vs : List Value} (h : RdA w [.int n0, st_AddrOp r1] vs) : ∃ (A1 : Option Addr) (c1 : Nat), vs = [.int .i64 n0, .slice A1 r1.length c1] := by
  obtain ⟨q0, e0, t0⟩ := h.int_out
  subst e0
  obtain ⟨v1, q1, e1, h1, t1⟩ := t0.any_out
  obtain ⟨A1, c1, a1⟩ := st_AddrOp_sh h1
  subst e1 a1
  have z := t1.nil_out
  subst z
  exact ⟨A1, c1, rfl⟩
theorem cnt_Asconf (y : AsconfM) (h : tot.totL y.vs ≤ 1048576) : vcA y.vs ≤ 1000000000 := by
  have cAddrOp := ccS_AddrOp
  simp only [AsconfM.vs, vcA, vc, tot.totL, tot, cc, st_AddrOp] at *
  have d1 := cAddrOp y.Ops
  omega
theorem mem_Asconf {w : World} {g o : Nat} {y : AsconfM} (h : RdL w y.vs g o) : ∃ (A1 : Option Addr) (c1 : Nat), w.cell? ⟨g, o, none⟩ = some (.int .i64 y.Serial) ∧ w.cell? ⟨g, o + 1, none⟩ = some (.slice A1 y.Ops.length c1) ∧ Rd w (st_AddrOp y.Ops) (.slice A1 y.Ops.length c1) := by
  obtain ⟨u0, p0, t0⟩ := h.get? 0 (.int y.Serial) rfl
  have e0 := t0.int_out
  subst e0
  obtain ⟨u1, p1, t1⟩ := h.get? 1 (st_AddrOp y.Ops) rfl
  obtain ⟨A1, c1, e1⟩ := st_AddrOp_sh t1
  subst e1
  rw [Nat.add_zero] at p0
  exact ⟨A1, c1, p0, p1, t1⟩
structure AsconfResultM where
  Code : Int
  Asconf_Serial : Int
  Asconf_Ops : List AddrOpM
def AsconfResultM.vs (x : AsconfResultM) : List V := [.int x.Code, .int x.Asconf_Serial, st_AddrOp x.Asconf_Ops]
theorem shape_AsconfResult {w : World} {n0 : Int} {n1 : Int} {r2 : List AddrOpM} {vs : List Value} (h : RdA w [.int n0, .int n1, st_AddrOp r2] vs) : ∃ (A2 : Option Addr) (c2 : Nat), vs = [.int .i64 n0, .int .i64 n1, .slice A2 r2.length c2] := by
  obtain ⟨q0, e0, t0⟩ := h.int_out
  subst e0
  obtain ⟨q1, e1, t1⟩ := t0.int_out
  subst e1
  obtain ⟨v2, q2, e2, h2, t2⟩ := t1.any_out
  obtain ⟨A2, c2, a2⟩ := st_AddrOp_sh h2
  subst e2 a2
  have z := t2.nil_out
  subst z
  exact ⟨A2, c2, rfl⟩
theorem cnt_AsconfResult (y : AsconfResultM) (h : tot.totL y.vs ≤ 1048576) : vcA y.vs ≤ 1000000000 := by
  have cAddrOp := ccS_AddrOp
  simp only [AsconfResultM.vs, vcA, vc, tot.totL, tot, cc, st_AddrOp] at *
  have d2 := cAddrOp y.Asconf_Ops
  omega
theorem mem_AsconfResult {w : World} {g o : Nat} {y : AsconfResultM} (h : RdL w y.vs g o) : ∃ (A2 : Option Addr) (c2 : Nat), w.cell? ⟨g, o, none⟩ = some (.int .i64 y.Code) ∧ w.cell? ⟨g, o + 1, none⟩ = some (.int .i64 y.Asconf_Serial) ∧ w.cell? ⟨g, o + 2, none⟩ = some (.slice A2 y.Asconf_Ops.length c2) ∧ Rd w (st_AddrOp y.Asconf_Ops) (.slice A2 y.Asconf_Ops.length c2) := by
  obtain ⟨u0, p0, t0⟩ := h.get? 0 (.int y.Code) rfl
  have e0 := t0.int_out
  subst e0
  obtain ⟨u1, p1, t1⟩ := h.get? 1 (.int y.Asconf_Serial) rfl
  have e1 := t1.int_out
  subst e1
  obtain ⟨u2, p2, t2⟩ := h.get? 2 (st_AddrOp y.Asconf_Ops) rfl
  obtain ⟨A2, c2, e2⟩ := st_AddrOp_sh t2
  subst e2
  rw [Nat.add_zero] at p0
  exact ⟨A2, c2, p0, p1, p2, t2⟩
end Go.Proofs.Ytncnibkojneejaa
