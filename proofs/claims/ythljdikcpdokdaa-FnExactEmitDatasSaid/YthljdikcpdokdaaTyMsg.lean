/- Lists of pieces, messages, their results (WRITTEN BY tools/kinds.py) -/
import Derived.Test.YthljdikcpdokdaaTyData
namespace Go.Proofs.Ythljdikcpdokdaa
open Go.RowKit Go.Deep Go.ChangeShapes Go.WideShapes Go.ChangeAt

def st_Data (r : List DataM) : V := .st r.length (r.flatMap DataM.vs)
theorem st_Data_sh {w : World} {r : List DataM} {v : Value} (h : Rd w (st_Data r) v) : ∃ A c, v = .slice A r.length c := Rd.st_sh h
set_option maxRecDepth 100000 in
set_option maxHeartbeats 2000000 in
theorem eqS_Data (r : List DataM) (v u : Value) (w : World) (hv : Rd w (st_Data r) v) (hu : Rd w (st_Data r) u) :
    Calls Try.prog 117 #[v, u] w (EqR w) := by
  obtain ⟨A, c, rfl⟩ := st_Data_sh hv
  obtain ⟨B, d, rfl⟩ := st_Data_sh hu
  have hm : (r.length : Int) ≤ 9223372036854775807 := Rd.st_len hv
  have HV := hidH (fun (u : World) (h : Below w.heap.size w u) => Rd.below h _ hv)
  have HU := hidH (fun (u : World) (h : Below w.heap.size w u) => Rd.below h _ hu)
  clear hv hu
  go_enter Try.func117, Try.ntmps117
  go_wp2
  go_loopw [5] (fun i wr => ∃ j : Nat, j ≤ r.length ∧ i = .int .i64 j ∧ Below w.heap.size w wr) (fun i _ => r.length - (intOf i).toNat)
  case atStart => exact ⟨0, by omega, rfl, Below.refl _ _⟩
  case round =>
    obtain ⟨j, hj, rfl, hBw⟩ := hrel
    by_cases hlt : j < r.length
    · have hj0 : (0 : Int) ≤ (j : Int) := by omega
      have hj1 : (j : Int) < (r.length : Int) := by omega
      have bd := (Below.refl wr.heap.size wr).drew
      have hBW := btr hBw bd
      obtain ⟨ga, oa, ca, ea, hga, RA⟩ := Rd.row (f := DataM.vs) (W := 7) (fun _ => rfl) (HV.out _ hBW) hlt
      obtain ⟨gb, ob, cb, eb, hgb, RB⟩ := Rd.row (f := DataM.vs) (W := 7) (fun _ => rfl) (HU.out _ hBW) hlt
      injection ea with ea1 ea2 ea3
      subst ea1 ea3
      injection eb with eb1 eb2 eb3
      subst eb1 eb3
      obtain ⟨pu0, p0, pt0⟩ := RA 0 (.int r[j].Tsn) rfl
      have pe0 := pt0.int_out
      subst pe0
      rw [Nat.add_zero] at p0
      obtain ⟨pu1, p1, pt1⟩ := RA 1 (.int r[j].Stream) rfl
      have pe1 := pt1.int_out
      subst pe1
      obtain ⟨pu2, p2, pt2⟩ := RA 2 (.int r[j].Seq) rfl
      have pe2 := pt2.int_out
      subst pe2
      obtain ⟨pu3, p3, pt3⟩ := RA 3 (.bool r[j].First) rfl
      have pe3 := pt3.bool_out
      subst pe3
      obtain ⟨pu4, p4, pt4⟩ := RA 4 (.bool r[j].Last) rfl
      have pe4 := pt4.bool_out
      subst pe4
      obtain ⟨pu5, p5, pt5⟩ := RA 5 (.bool r[j].Unordered) rfl
      have pe5 := pt5.bool_out
      subst pe5
      obtain ⟨pu6, p6, pt6⟩ := RA 6 (.bs r[j].Piece) rfl
      obtain ⟨A6, An6, pe6⟩ := pt6.bs_sh
      subst pe6
      obtain ⟨qu0, q0, qt0⟩ := RB 0 (.int r[j].Tsn) rfl
      have qe0 := qt0.int_out
      subst qe0
      rw [Nat.add_zero] at q0
      obtain ⟨qu1, q1, qt1⟩ := RB 1 (.int r[j].Stream) rfl
      have qe1 := qt1.int_out
      subst qe1
      obtain ⟨qu2, q2, qt2⟩ := RB 2 (.int r[j].Seq) rfl
      have qe2 := qt2.int_out
      subst qe2
      obtain ⟨qu3, q3, qt3⟩ := RB 3 (.bool r[j].First) rfl
      have qe3 := qt3.bool_out
      subst qe3
      obtain ⟨qu4, q4, qt4⟩ := RB 4 (.bool r[j].Last) rfl
      have qe4 := qt4.bool_out
      subst qe4
      obtain ⟨qu5, q5, qt5⟩ := RB 5 (.bool r[j].Unordered) rfl
      have qe5 := qt5.bool_out
      subst qe5
      obtain ⟨qu6, q6, qt6⟩ := RB 6 (.bs r[j].Piece) rfl
      obtain ⟨B6, Bn6, qe6⟩ := qt6.bs_sh
      subst qe6
      have HE := hidH (eq_Data r[j].Tsn r[j].Stream r[j].Seq r[j].First r[j].Last r[j].Unordered r[j].Piece _ _ wr.drew pt6 qt6)
      have HBW := hidH hBW
      clear RA RB hBW hBw bd pt0 qt0 pt1 qt1 pt2 qt2 pt3 qt3 pt4 qt4 pt5 qt5 pt6 qt6
      go_wp2
      go_still_tail 8, (by kernel_rfl)
      change wpList _ _ _ _ _ wr.drew
      go_wp2_with fail
      refine HE.out.mono ?_
      rintro e w3 ⟨rfl, b3⟩
      have B3 := hidH (btr HBW.out b3)
      clear HE HBW b3 p0 q0 p1 q1 p2 q2 p3 q3 p4 q4 p5 q5 p6 q6
      go_wp2
      go_roundw
      case rel => exact ⟨j + 1, by omega, by go_num, B3.out⟩
      case measure => simp [intOf]; omega
    · have HBW := hidH hBw
      have hd : ¬ ((j : Int) < (r.length : Int)) := by omega
      clear hBw hlt hj
      go_wp2
      go_ret
      exact ⟨rfl, HBW.out⟩
set_option maxRecDepth 100000 in
set_option maxHeartbeats 2000000 in
theorem markS_Data (r : List DataM) (S : Fp) (v : Value) (k : Nat) (w : World) (h : Ow w (st_Data r) S v) (hk : k + cc (st_Data r) ≤ 1000000000000) :
    Calls Try.prog 118 #[v, .int .i64 k] w (MkR (st_Data r) S v k w) := by
  unfold st_Data at h hk ⊢
  unfold Ow at h
  obtain ⟨A, c, rfl, hc, h⟩ := h
  have hm := hc.len
  unfold MkR
  rcases h with ⟨h0, _⟩ | ⟨g, o, rfl, hg, h⟩
  · obtain rfl := List.eq_nil_of_length_eq_zero h0
    have HC := hidH hc
    clear h0 hc
    go_enter Try.func118, Try.ntmps118
    go_wp2
    go_loopw [1, 5] (fun v i wr => v = .int .i64 k ∧ i = .int .i64 0 ∧ wr = w) (fun _ _ _ => 0)
    case atStart => exact ⟨rfl, rfl, rfl⟩
    case round =>
      obtain ⟨rfl, rfl, rfl⟩ := hrel
      go_wp2
      go_ret
      refine ⟨ret_int (by simp [cc, cc.ccL]), Chg.refl _ _, ?_⟩
      simp only [mkc]
      unfold Ow
      exact ⟨A, c, rfl, HC.out, .inl ⟨rfl, rfl⟩⟩
  · have M0 := hidH (MkSt.start (k := k) h hg)
    have HC := hidH hc
    have HKL := hidH (kRow_le k DataM.vs r)
    have HK := hidH hk
    clear hc h
    go_enter Try.func118, Try.ntmps118
    go_wp2
    go_loopw [1, 5] (fun v i wr => ∃ j : Nat, j ≤ r.length ∧ v = .int .i64 ((kRow k DataM.vs r j : Nat) : Int) ∧ i = .int .i64 j ∧ MkSt w S g o k ((r.take j).flatMap DataM.vs) ((r.drop j).flatMap DataM.vs) wr) (fun _ i _ => r.length - (intOf i).toNat)
    case atStart => exact ⟨0, Nat.zero_le _, by rw [kRow_zero], rfl, M0.out⟩
    case round =>
      obtain ⟨j, hj, rfl, rfl, hM⟩ := hrel
      by_cases hlt : j < r.length
      · have hj0 : (0 : Int) ≤ (j : Int) := by omega
        have hj1 : (j : Int) < (r.length : Int) := by omega
        have hkl := HKL.out (j + 1)
        have hks := kRow_succ k DataM.vs r j hlt
        have hk2 := HK.out
        have hrow : cc.ccL (DataM.vs r[j]) = 1 + 1 + 1 + 1 + 1 + 1 + cc (.bs r[j].Piece) := by simp only [DataM.vs, cc.ccL, cc] <;> omega
        have hp : ((r.take j).flatMap DataM.vs).length = j * 7 := take_len (f := DataM.vs) (fun _ => rfl) r j (by omega)
        have he := flat_take DataM.vs r j hlt
        rw [flat_drop DataM.vs r j hlt] at hM
        replace hM : MkSt w S g o k ((r.take j).flatMap DataM.vs) ((.int r[j].Tsn) :: (.int r[j].Stream) :: (.int r[j].Seq) :: (.bool r[j].First) :: (.bool r[j].Last) :: (.bool r[j].Unordered) :: (.bs r[j].Piece) :: (r.drop (j + 1)).flatMap DataM.vs) wr := hM
        obtain ⟨y, hy⟩ : ∃ y, kRow k DataM.vs r j = y := ⟨_, rfl⟩
        rw [hy] at hks ⊢
        unfold kRow at hy
        have hyb : (y : Int) + 1 + 1 + 1 + 1 + 1 + 1 + (cc (.bs r[j].Piece) : Int) + 0 ≤ 1000000000000 := by omega
        obtain ⟨pre, hpre⟩ : ∃ pre, (r.take j).flatMap DataM.vs = pre := ⟨_, rfl⟩
        obtain ⟨post, hpost⟩ : ∃ post, (r.drop (j + 1)).flatMap DataM.vs = post := ⟨_, rfl⟩
        rw [hpre] at hM hy hp he
        rw [hpost] at hM
        have HPO := hidH hpost
        have HKS := hidH hks
        have HE := hidH he
        have HY := hidH hy
        have HP := hidH hp
        have HRO := hidH hrow
        have HYB := hidH hyb
        clear hpost hks he hy hp hpre hrow hkl hk2 hyb
        have hyI : (y : Int) ≤ 1000000000000 := by have := HYB.out; omega
        obtain ⟨⟨x0, p0⟩, f0, hM⟩ := hM.num (o + j * 7) (by rw [HP.out]) ((y : Int)) (by rw [HY.out])
        obtain ⟨⟨x1, p1⟩, f1, hM⟩ := hM.num (o + j * 7 + 1) (by simp only [List.length_append, List.length_cons, List.length_nil, HP.out]; omega) ((y : Int) + 1) (by rw [← HY.out]; simp only [ccL_append, cc.ccL, cc]; omega)
        obtain ⟨⟨x2, p2⟩, f2, hM⟩ := hM.num (o + j * 7 + 2) (by simp only [List.length_append, List.length_cons, List.length_nil, HP.out]; omega) ((y : Int) + 1 + 1) (by rw [← HY.out]; simp only [ccL_append, cc.ccL, cc]; omega)
        obtain ⟨⟨x3, p3⟩, f3, hM⟩ := hM.boo (o + j * 7 + 3) (by simp only [List.length_append, List.length_cons, List.length_nil, HP.out]; omega) ((y : Int) + 1 + 1 + 1) (by rw [← HY.out]; simp only [ccL_append, cc.ccL, cc]; omega)
        obtain ⟨⟨x4, p4⟩, f4, hM⟩ := hM.boo (o + j * 7 + 4) (by simp only [List.length_append, List.length_cons, List.length_nil, HP.out]; omega) ((y : Int) + 1 + 1 + 1 + 1) (by rw [← HY.out]; simp only [ccL_append, cc.ccL, cc]; omega)
        obtain ⟨⟨x5, p5⟩, f5, hM⟩ := hM.boo (o + j * 7 + 5) (by simp only [List.length_append, List.length_cons, List.length_nil, HP.out]; omega) ((y : Int) + 1 + 1 + 1 + 1 + 1) (by rw [← HY.out]; simp only [ccL_append, cc.ccL, cc]; omega)
        obtain ⟨u6, S6, p6, ho6, hN⟩ := hM.at_ (o + j * 7 + 6) (by simp only [List.length_append, List.length_cons, List.length_nil, HP.out]; omega) (y + 6) (by rw [← HY.out]; simp only [ccL_append, cc.ccL, cc]; omega)
        have HO := hidH ho6
        have HN := hidH hN
        clear ho6 hN hM
        go_wp2_with fail
        rw [show ((y : Int) + 1 + 1 + 1 + 1 + 1 + 1) = ((y + 6 : Nat) : Int) by omega]
        refine (markB_ow r[j].Piece S6 u6 (y + 6) _ HO.out (by have := HYB.out; omega)).mono ?_
        rintro e v6 ⟨rfl, hc6, ho6⟩
        have hM := HN.out _ hc6 ho6
        clear HO HN hc6 ho6 p6 p0 f0 p1 f1 p2 f2 p3 f3 p4 f4 p5 f5
        have hb6 : (((y + 6 + cc (.bs r[j].Piece) : Nat) : Int)) ≤ 1000000000000 := by have := HYB.out; omega
        rw [show ((((((pre ++ [.int r[j].Tsn]) ++ [.int r[j].Stream]) ++ [.int r[j].Seq]) ++ [.bool r[j].First]) ++ [.bool r[j].Last]) ++ [.bool r[j].Unordered]) ++ [.bs r[j].Piece] = (r.take (j + 1)).flatMap DataM.vs from (by rw [HE.out]; simp [DataM.vs])] at hM
        rw [← HPO.out] at hM
        have HM := hidH hM
        clear hM
        go_wp2
        go_roundw
        case rel => exact ⟨j + 1, by omega, by rw [HKS.out, HRO.out]; exact congrArg (Value.int .i64) (by omega), by go_num, HM.out⟩
        case measure => simp [intOf]; omega
      · obtain rfl : j = r.length := by omega
        rw [List.take_length, List.drop_length] at hM
        have HM := hidH (MkSt.done hM HC.out)
        have hka := kRow_all k DataM.vs r
        clear hM hlt hj
        go_wp2
        go_ret
        exact ⟨ret_int (by rw [hka]), HM.out.1, HM.out.2⟩
set_option maxRecDepth 100000 in
set_option maxHeartbeats 2000000 in
theorem heldS_Data (r : List DataM) (v : Value) (k : Nat) (w : World) (h : Rd w (mkc k (st_Data r)) v) (hk : k + cc (st_Data r) ≤ 1000000000000) :
    Calls Try.prog 120 #[v, .int .i64 k] w (HeR (st_Data r) k w) := by
  unfold st_Data at h hk ⊢
  have h2 := h
  simp only [mkc] at h2
  have hm : (r.length : Int) ≤ 9223372036854775807 := Rd.st_len h2
  obtain ⟨A, c, rfl⟩ := h2.st_sh
  clear h2
  have HV := hidH (fun (u : World) (h3 : Below w.heap.size w u) => Rd.below h3 _ h)
  have HKL := hidH (kRow_le k DataM.vs r)
  have HK := hidH hk
  unfold HeR
  clear h
  go_enter Try.func120, Try.ntmps120
  go_wp2
  go_loopw [1, 5] (fun v i wr => ∃ j : Nat, j ≤ r.length ∧ v = .int .i64 ((kRow k DataM.vs r j : Nat) : Int) ∧ i = .int .i64 j ∧ Below w.heap.size w wr) (fun _ i _ => r.length - (intOf i).toNat)
  case atStart => exact ⟨0, Nat.zero_le _, by rw [kRow_zero], rfl, Below.refl _ _⟩
  case round =>
    obtain ⟨j, hj, rfl, rfl, hB⟩ := hrel
    by_cases hlt : j < r.length
    · have hj0 : (0 : Int) ≤ (j : Int) := by omega
      have hj1 : (j : Int) < (r.length : Int) := by omega
      have hkl := HKL.out (j + 1)
      have hks := kRow_succ k DataM.vs r j hlt
      have hk2 := HK.out
      have hrow : cc.ccL (DataM.vs r[j]) = 1 + 1 + 1 + 1 + 1 + 1 + cc (.bs r[j].Piece) := by simp only [DataM.vs, cc.ccL, cc] <;> omega
      obtain ⟨g, o, ca, ea, hg, RA⟩ := Rd.rowmk (f := DataM.vs) (W := 7) (fun _ => rfl) (HV.out _ hB) hlt
      injection ea with ea1 ea2 ea3
      subst ea1 ea3
      obtain ⟨y, hy⟩ : ∃ y, kRow k DataM.vs r j = y := ⟨_, rfl⟩
      rw [hy] at hks ⊢
      unfold kRow at hy
      rw [hy] at RA
      obtain ⟨pu0, p0, pt0⟩ := RA 0 (.int ((y : Nat) : Int)) rfl
      have pe0 := pt0.int_out
      subst pe0
      clear pt0
      rw [Nat.add_zero] at p0
      obtain ⟨pu1, p1, pt1⟩ := RA 1 (.int ((y + 1 : Nat) : Int)) rfl
      have pe1 := pt1.int_out
      subst pe1
      clear pt1
      rw [show ((y + 1 : Nat) : Int) = (y : Int) + 1 by omega] at p1
      obtain ⟨pu2, p2, pt2⟩ := RA 2 (.int ((y + 2 : Nat) : Int)) rfl
      have pe2 := pt2.int_out
      subst pe2
      clear pt2
      rw [show ((y + 2 : Nat) : Int) = (y : Int) + 1 + 1 by omega] at p2
      obtain ⟨pu3, p3, pt3⟩ := RA 3 (.bool (decide (((y + 3 : Nat) : Int) % 3 = 0))) rfl
      have pe3 := pt3.bool_out
      subst pe3
      clear pt3
      rw [show ((y + 3 : Nat) : Int) = (y : Int) + 1 + 1 + 1 by omega] at p3
      rw [dec3] at p3
      have fb3 := bne3 ((y : Int) + 1 + 1 + 1)
      obtain ⟨pu4, p4, pt4⟩ := RA 4 (.bool (decide (((y + 4 : Nat) : Int) % 3 = 0))) rfl
      have pe4 := pt4.bool_out
      subst pe4
      clear pt4
      rw [show ((y + 4 : Nat) : Int) = (y : Int) + 1 + 1 + 1 + 1 by omega] at p4
      rw [dec3] at p4
      have fb4 := bne3 ((y : Int) + 1 + 1 + 1 + 1)
      obtain ⟨pu5, p5, pt5⟩ := RA 5 (.bool (decide (((y + 5 : Nat) : Int) % 3 = 0))) rfl
      have pe5 := pt5.bool_out
      subst pe5
      clear pt5
      rw [show ((y + 5 : Nat) : Int) = (y : Int) + 1 + 1 + 1 + 1 + 1 by omega] at p5
      rw [dec3] at p5
      have fb5 := bne3 ((y : Int) + 1 + 1 + 1 + 1 + 1)
      obtain ⟨pu6, p6, pt6⟩ := RA 6 (mkc (y + 6) (.bs r[j].Piece)) rfl
      have HV6 := hidH (fun (u : World) (h3 : Below wr.heap.size wr u) => Rd.below h3 _ pt6)
      clear pt6
      have hyb : (y : Int) + 1 + 1 + 1 + 1 + 1 + 1 + (cc (.bs r[j].Piece) : Int) + 0 ≤ 1000000000000 := by omega
      have HYB := hidH hyb
      have hyI : (y : Int) ≤ 1000000000000 := by omega
      have HKS := hidH hks
      have HRO := hidH hrow
      have HBW := hidH hB
      clear RA hB hks hrow hkl hk2 hy hyb
      go_wp2_with fail
      rw [show ((y : Int) + 1 + 1 + 1 + 1 + 1 + 1) = ((y + 6 : Nat) : Int) by omega]
      refine (heldB_rd r[j].Piece _ (y + 6) _ (HV6.out _ (Below.refl _ _)) (by have := HYB.out; omega)).mono ?_
      rintro e v6 ⟨rfl, hb⟩
      have HB := hidH hb
      replace HBW := hidH (btr HBW.out hb)
      replace hg := Nat.lt_of_lt_of_le hg hb.size
      clear hb
      have hpos6 : ¬ ((((y + 6 + cc (.bs r[j].Piece) : Nat) : Int)) < 0) := by omega
      have hbd6 : (((y + 6 + cc (.bs r[j].Piece) : Nat) : Int)) ≤ 1000000000000 := by have := HYB.out; omega
      go_wp2
      go_roundw
      case rel => exact ⟨j + 1, by omega, by rw [HKS.out, HRO.out]; exact congrArg (Value.int .i64) (by omega), by go_num, HBW.out⟩
      case measure => simp [intOf]; omega
    · obtain rfl : j = r.length := by omega
      have HBW := hidH hB
      have hka := kRow_all k DataM.vs r
      clear hB hlt hj
      go_wp2
      go_ret
      exact ⟨ret_int (by rw [hka]), HBW.out⟩
theorem ccS_Data (r : List DataM) : cc.ccL (r.flatMap DataM.vs) ≤ 8 * (r.length + tot.totL (r.flatMap DataM.vs)) := by
  induction r with
  | nil => simp [cc.ccL]
  | cons x xs ih =>
    rw [List.flatMap_cons, ccL_append, totL_append, List.length_cons]
    have : cc.ccL (DataM.vs x) ≤ 8 * (1 + tot.totL (DataM.vs x)) := by
      simp only [DataM.vs, cc.ccL, cc, tot.totL, tot]
      omega
    omega
structure DatasResultM where
  Code : Int
  Datas : List DataM
def DatasResultM.vs (x : DatasResultM) : List V := [.int x.Code, st_Data x.Datas]
theorem shape_DatasResult {w : World} {n0 : Int} {r1 : List DataM} {vs : List Value} (h : RdA w [.int n0, st_Data r1] vs) : ∃ (A1 : Option Addr) (c1 : Nat), vs = [.int .i64 n0, .slice A1 r1.length c1] := by
  obtain ⟨q0, e0, t0⟩ := h.int_out
  subst e0
  obtain ⟨v1, q1, e1, h1, t1⟩ := t0.any_out
  obtain ⟨A1, c1, a1⟩ := st_Data_sh h1
  subst e1 a1
  have z := t1.nil_out
  subst z
  exact ⟨A1, c1, rfl⟩
theorem cnt_DatasResult (y : DatasResultM) (h : tot.totL y.vs ≤ 1048576) : vcA y.vs ≤ 1000000000 := by
  have cData := ccS_Data
  simp only [DatasResultM.vs, vcA, vc, tot.totL, tot, cc, st_Data] at *
  have d1 := cData y.Datas
  omega
theorem mem_DatasResult {w : World} {g o : Nat} {y : DatasResultM} (h : RdL w y.vs g o) : ∃ (A1 : Option Addr) (c1 : Nat), w.cell? ⟨g, o, none⟩ = some (.int .i64 y.Code) ∧ w.cell? ⟨g, o + 1, none⟩ = some (.slice A1 y.Datas.length c1) ∧ Rd w (st_Data y.Datas) (.slice A1 y.Datas.length c1) := by
  obtain ⟨u0, p0, t0⟩ := h.get? 0 (.int y.Code) rfl
  have e0 := t0.int_out
  subst e0
  obtain ⟨u1, p1, t1⟩ := h.get? 1 (st_Data y.Datas) rfl
  obtain ⟨A1, c1, e1⟩ := st_Data_sh t1
  subst e1
  rw [Nat.add_zero] at p0
  exact ⟨A1, c1, p0, p1, t1⟩
structure MessageM where
  Stream : Int
  Unordered : Bool
  Bytes : List Int
def MessageM.vs (x : MessageM) : List V := [.int x.Stream, .bool x.Unordered, .bs x.Bytes]
theorem shape_Message {w : World} {n0 : Int} {b1 : Bool} {l2 : List Int} {vs : List Value} (h : RdA w [.int n0, .bool b1, .bs l2] vs) : ∃ (A2 : Option Addr) (c2 : Nat), vs = [.int .i64 n0, .bool b1, .slice A2 l2.length c2] := by
  obtain ⟨q0, e0, t0⟩ := h.int_out
  subst e0
  obtain ⟨q1, e1, t1⟩ := t0.bool_out
  subst e1
  obtain ⟨v2, q2, e2, h2, t2⟩ := t1.any_out
  obtain ⟨A2, c2, a2⟩ := h2.bs_sh
  subst e2 a2
  have z := t2.nil_out
  subst z
  exact ⟨A2, c2, rfl⟩
set_option maxRecDepth 100000 in
set_option maxHeartbeats 1000000 in
theorem eq_Message (n0 : Int) (b1 : Bool) (l2 : List Int) (v2 u2 : Value) (w : World) (hv2 : Rd w (.bs l2) v2) (hu2 : Rd w (.bs l2) u2) :
    Calls Try.prog 46 #[.agg #[.int .i64 n0, .bool b1, v2], .agg #[.int .i64 n0, .bool b1, u2]] w (EqR w) := by
  obtain ⟨A2, c2, rfl⟩ := hv2.bs_sh
  obtain ⟨B2, d2, rfl⟩ := hu2.bs_sh
  have K1 := (Blk.new w 57 #[.int .i64 n0, .bool b1, .slice A2 l2.length c2]).alloc (.cells #[.int .i64 n0, .bool b1, .slice B2 l2.length d2] 57)
  have K2 := Blk.new (w.alloc (.cells #[.int .i64 n0, .bool b1, .slice A2 l2.length c2] 57)) 57 #[.int .i64 n0, .bool b1, .slice B2 l2.length d2]
  have B0 := bal (bal (Below.refl w.heap.size w) (.cells #[.int .i64 n0, .bool b1, .slice A2 l2.length c2] 57)) (.cells #[.int .i64 n0, .bool b1, .slice B2 l2.length d2] 57)
  rw [World.size_alloc] at K2
  obtain ⟨W, hW⟩ : ∃ W, (w.alloc (.cells #[.int .i64 n0, .bool b1, .slice A2 l2.length c2] 57)).alloc (.cells #[.int .i64 n0, .bool b1, .slice B2 l2.length d2] 57) = W := ⟨_, rfl⟩
  rw [hW] at K1 K2 B0
  have HW := hidH hW
  have HB := hidH B0
  have HA := hidH K1
  have HC := hidH K2
  have HV2 := hidH (fun (u : World) (h : Below w.heap.size w u) => Rd.below h _ hv2)
  have HU2 := hidH (fun (u : World) (h : Below w.heap.size w u) => Rd.below h _ hu2)
  clear hW K1 K2 B0 hv2 hu2
  go_enter Try.func46, Try.ntmps46
  go_wp2_with fail
  rw [HW.out]
  refine (eqB_rd l2 _ _ _ (HV2.out _ HB.out) (HU2.out _ HB.out)).mono ?_
  rintro e w1 ⟨rfl, hb⟩
  replace HA := hidH (HA.out.below hb)
  replace HC := hidH (HC.out.below hb)
  replace HB := hidH (btr HB.out hb)
  clear hb
  go_wp2
  go_ret
  exact ⟨rfl, HB.out⟩
set_option maxRecDepth 100000 in
set_option maxHeartbeats 1000000 in
theorem mark_Message (n0 : Int) (b1 : Bool) (l2 : List Int) (v2 : Value) (S : Fp) (k : Nat) (w : World) (hS : Sub S (Wn 0 w.heap.size)) (h : OwA w [.int n0, .bool b1, .bs l2] S [.int .i64 n0, .bool b1, v2]) (hk : k + vcA [.int n0, .bool b1, .bs l2] ≤ 1000000000000) :
    Calls Try.prog 48 #[.agg #[.int .i64 n0, .bool b1, v2], .int .i64 k] w (MkA [.int n0, .bool b1, .bs l2] S [.int .i64 n0, .bool b1, v2] k w) := by
  have hr := h.rd
  have hv2 := hr.tl.tl.hd
  obtain ⟨A2, c2, rfl⟩ := hv2.bs_sh
  clear hr hv2
  have K1 := Blk.new w 57 #[.int .i64 n0, .bool b1, .slice A2 l2.length c2]
  have B0 := bal (Below.refl w.heap.size w) (.cells #[.int .i64 n0, .bool b1, .slice A2 l2.length c2] 57)
  obtain ⟨W, hW⟩ : ∃ W, w.alloc (.cells #[.int .i64 n0, .bool b1, .slice A2 l2.length c2] 57) = W := ⟨_, rfl⟩
  rw [hW] at K1 B0
  have HW := hidH hW
  have HB := hidH B0
  have HA := hidH K1
  replace h := OwA.kept (Kept.of_below B0) h
  have hcnt : vcA [.int n0, .bool b1, .bs l2] = cc (.bs l2) := by simp only [vcA, vc] <;> omega
  unfold MkA
  rw [hcnt] at hk ⊢
  obtain ⟨T0, s0, h, G0⟩ := OwA.step_int h
  have s0 := Sub.trans s0 hS
  have G0 := hidH G0
  obtain ⟨T1, s1, h, G1⟩ := OwA.step_bool h
  have s1 := Sub.trans s1 s0
  have G1 := hidH G1
  obtain ⟨T2, s2, hO, G2⟩ := OwA.step (y := mkc (k) (.bs l2)) h
  have s2 := Sub.trans s2 s1
  have HO := hidH hO
  have G2 := hidH G2
  clear hO h
  clear hW B0 K1
  go_enter Try.func48, Try.ntmps48
  go_wp2_with fail
  rw [HW.out]
  refine (markB_ow l2 T2 _ (k) _ HO.out (by omega)).mono ?_
  rintro e w1 ⟨rfl, hc, ho⟩
  replace HA := hidH (HA.out.chg hc s2)
  have HC0 := hidH hc
  obtain ⟨T3, s3, h, G3⟩ := G2.out _ hc ho
  have s3 := Sub.trans s3 s1
  have G3 := hidH G3
  clear HO hc ho
  obtain ⟨hc, h⟩ := OwA.nil_step h
  obtain ⟨hc, h⟩ := G3.out _ _ hc h
  obtain ⟨hc, h⟩ := G1.out _ _ hc h
  obtain ⟨hc, h⟩ := G0.out _ _ hc h
  have HCC := hidH ((Chg.of_below HB.out).trans hc)
  have HO := hidH h
  clear hc h
  go_wp2
  go_ret
  exact ⟨rfl, HCC.out, HO.out⟩
set_option maxRecDepth 100000 in
set_option maxHeartbeats 1000000 in
theorem sz_Message (n0 : Int) (b1 : Bool) (l2 : List Int) (v2 : Value) (left : Int) (w : World) (hv2 : Rd w (.bs l2) v2) (h0 : 0 ≤ left) (h1 : left ≤ 1048576) :
    Calls Try.prog 44 #[.agg #[.int .i64 n0, .bool b1, v2], .int .i64 left] w (SzR left (tot.totL [.int n0, .bool b1, .bs l2]) w) := by
  obtain ⟨A2, c2, rfl⟩ := hv2.bs_sh
  have K1 := Blk.new w 81 #[.int .i64 n0, .bool b1, .slice A2 l2.length c2]
  have B0 := bal (Below.refl w.heap.size w) (.cells #[.int .i64 n0, .bool b1, .slice A2 l2.length c2] 81)
  obtain ⟨W, hW⟩ : ∃ W, w.alloc (.cells #[.int .i64 n0, .bool b1, .slice A2 l2.length c2] 81) = W := ⟨_, rfl⟩
  rw [hW] at K1 B0
  have HW := hidH hW
  have HB := hidH B0
  have HA := hidH K1
  have hcnt : tot.totL [.int n0, .bool b1, .bs l2] = tot (.bs l2) := by simp only [tot.totL, tot] <;> omega
  rw [hcnt]
  have HV2 := hidH (fun (u : World) (h : Below w.heap.size w u) => Rd.below h _ hv2)
  clear hW K1 B0 hcnt hv2
  go_enter Try.func44, Try.ntmps44
  go_wp2_with fail
  rw [HW.out]
  refine (szB_rd l2 _ left _ (HV2.out _ HB.out) (by omega) (by omega)).mono ?_
  rintro e w1 ⟨z0, rfl, hz0, hb⟩
  replace HA := hidH (HA.out.below hb)
  replace HB := hidH (btr HB.out hb)
  clear hb
  have HZ0 := hidH hz0
  have hzl0 := hz0.2.1
  clear hz0
  by_cases hn0 : z0 < 0
  · obtain rfl : z0 = -1 := by rcases HZ0.out.1 with h | h <;> omega
    clear hn0
    go_wp2
    go_ret
    exact ⟨-1, rfl, ⟨.inl rfl, by omega, fun h => by omega⟩, HB.out⟩
  · have hp0 : 0 ≤ z0 := by omega
    clear hzl0
    go_wp2
    go_ret
    exact ⟨z0, rfl, ⟨.inr hp0, by have := HZ0.out.2.1; omega, fun _ => by have := HZ0.out.2.2 hp0; omega⟩, HB.out⟩
set_option maxRecDepth 100000 in
set_option maxHeartbeats 1000000 in
theorem to_Message (n0 : Int) (b1 : Bool) (l2 : List Int) (v2 : Value) (w : World) (hv2 : Rd w (.bs l2) v2) (hm : tot.totL [.int n0, .bool b1, .bs l2] ≤ 1048576) :
    Calls Try.prog 45 #[.agg #[.int .i64 n0, .bool b1, v2]] w (Res w [.int n0, .bool b1, .bs l2]) := by
  obtain ⟨A2, c2, rfl⟩ := hv2.bs_sh
  have KA := ((Blk.new w 81 #[.int .i64 n0, .bool b1, .slice A2 l2.length c2]).alloc (.cells #[.int .i64 0, .bool false, .slice none 0 0] 57)).alloc (.cells #[.int .i64 n0, .bool b1, .slice none 0 0] 57)
  have KR := (Blk.new (w.alloc (.cells #[.int .i64 n0, .bool b1, .slice A2 l2.length c2] 81)) 57 #[.int .i64 0, .bool false, .slice none 0 0]).alloc (.cells #[.int .i64 n0, .bool b1, .slice none 0 0] 57)
  have KV := Blk.new ((w.alloc (.cells #[.int .i64 n0, .bool b1, .slice A2 l2.length c2] 81)).alloc (.cells #[.int .i64 0, .bool false, .slice none 0 0] 57)) 57 #[.int .i64 n0, .bool b1, .slice none 0 0]
  have B0 := bal (bal (bal (Below.refl w.heap.size w) (.cells #[.int .i64 n0, .bool b1, .slice A2 l2.length c2] 81)) (.cells #[.int .i64 0, .bool false, .slice none 0 0] 57)) (.cells #[.int .i64 n0, .bool b1, .slice none 0 0] 57)
  have hsz : (((w.alloc (.cells #[.int .i64 n0, .bool b1, .slice A2 l2.length c2] 81)).alloc (.cells #[.int .i64 0, .bool false, .slice none 0 0] 57)).alloc (.cells #[.int .i64 n0, .bool b1, .slice none 0 0] 57)).heap.size = w.heap.size + 1 + 1 + 1 := by simp only [World.size_alloc]
  simp only [World.size_alloc] at KR KV
  obtain ⟨w0, hW⟩ : ∃ W, ((w.alloc (.cells #[.int .i64 n0, .bool b1, .slice A2 l2.length c2] 81)).alloc (.cells #[.int .i64 0, .bool false, .slice none 0 0] 57)).alloc (.cells #[.int .i64 n0, .bool b1, .slice none 0 0] 57) = W := ⟨_, rfl⟩
  rw [hW] at KA KR KV B0 hsz
  have HW := hidH hW
  have HB := hidH B0
  have HA := hidH KA
  have HR := hidH KR
  have HV := hidH KV
  have HZ := hidH hsz
  have hcnt : tot.totL [.int n0, .bool b1, .bs l2] = tot (.bs l2) := by simp only [tot.totL, tot] <;> omega
  rw [hcnt] at hm
  have HM := hidH hm
  have HV2 := hidH (fun (u : World) (h : Below w.heap.size w u) => Rd.below h _ hv2)
  have es : ∀ (u : World) (p : Addr) (v : Value), (u.setCell p v).heap.size = u.heap.size := fun u p v => by simp [World.setCell]
  have HES := hidH es
  clear hW hm hcnt KA KR KV B0 hsz es hv2
  go_enter Try.func45, Try.ntmps45
  go_wp2_with fail
  rw [HW.out]
  have HB1 := hidH (HB.out)
  refine (toB_rd l2 _ _ (HV2.out _ HB1.out) (by have := HM.out; omega)).mono ?_
  rintro e w1 ⟨u2, rfl, O0, hb⟩
  obtain ⟨E2, e2, rfl⟩ := O0.rd.bs_sh
  have HA1 := hidH ((HA.out).below hb)
  have HR1 := hidH ((HR.out).below hb)
  have HV1 : Hid (Blk w1 (w.heap.size + 1 + 1) 57 #[.int .i64 n0, .bool b1, .slice none 0 0]) := hidH (Blk.below (HV.out) hb)
  have HZ1 : Hid (w0.heap.size ≤ w1.heap.size) := hidH (by have := hb.size; simpa only [HES.out] using this)
  have O0 := hidH (show OwV w0.heap.size w1.heap.size w1 _ _ by simpa only [HES.out] using O0)
  have HG0 := hidH (show w0.heap.size ≤ w0.heap.size by exact Nat.le_refl _)
  have HZ00 := HZ1
  replace HB := hidH (btr HB1.out hb)
  clear HA HR HV HB1 hb HZ1
  have HA := HA1
  have HR := HR1
  have HV := HV1
  clear HA1 HR1 HV1
  have x0 := HR.out.cell 0
  have h0 := HR.out.frozen 0
  have y0 := HV.out.cell 0
  have f0 := HV.out.frozen 0
  have x1 := HR.out.cell 1
  have h1 := HR.out.frozen 1
  have y1 := HV.out.cell 1
  have f1 := HV.out.frozen 1
  have x2 := HR.out.cell 2
  have h2 := HR.out.frozen 2
  have y2 := HV.out.cell 2
  have f2 := HV.out.frozen 2
  simp only [List.getElem?_toArray, List.getElem?_cons_succ, List.getElem?_cons_zero] at x0 y0 x1 y1 x2 y2
  have gv := HV.out.lt
  have gr := HR.out.lt
  go_wp2
  have BF := bst (bst (bst (bst (HB.out) (p := ⟨w.heap.size + 1 + 1, 2, none⟩) (by show w.heap.size ≤ w.heap.size + 1 + 1; omega) (.slice E2 l2.length e2)) (p := ⟨w.heap.size + 1, 0, none⟩) (by show w.heap.size ≤ w.heap.size + 1; omega) (.int .i64 n0)) (p := ⟨w.heap.size + 1, 1, none⟩) (by show w.heap.size ≤ w.heap.size + 1; omega) (.bool b1)) (p := ⟨w.heap.size + 1, 2, none⟩) (by show w.heap.size ≤ w.heap.size + 1; omega) (.slice E2 l2.length e2)
  have P0 := ((((O0.out).win (set_win _ (w.heap.size + 1 + 1) 2 (.slice E2 l2.length e2)) (.inr (by have := HZ.out; have := HG0.out; omega))).win (set_win _ (w.heap.size + 1) 0 (.int .i64 n0)) (.inr (by have := HZ.out; have := HG0.out; omega))).win (set_win _ (w.heap.size + 1) 1 (.bool b1)) (.inr (by have := HZ.out; have := HG0.out; omega))).win (set_win _ (w.heap.size + 1) 2 (.slice E2 l2.length e2)) (.inr (by have := HZ.out; have := HG0.out; omega))
  have es := HES.out
  have PF := OwN.int n0 (OwN.bool b1 (OwN.cons P0 (OwN.nil (B := w1.heap.size) (C := w1.heap.size) (by simp only [es]; exact Nat.le_refl _)) HZ00.out (Nat.le_refl _)))
  exact bodyPost_ret (v := .agg #[.int .i64 n0, .bool b1, .slice E2 l2.length e2]) (by simp [results, Try.results45, go_sem, x0, x1, x2]) rfl ⟨[.int .i64 n0, .bool b1, .slice E2 l2.length e2], rfl, PF.mono (by have := HB.out.size; have := HZ.out; omega) (by simp only [es]; exact Nat.le_refl _) (Nat.le_refl _), BF⟩
theorem eqA_Message (y : MessageM) {vs us : List Value} {w : World} (h : RdA w y.vs vs) (k : RdA w y.vs us) : Calls Try.prog 46 #[.agg vs.toArray, .agg us.toArray] w (EqR w) := by
  obtain ⟨A2, c2, rfl⟩ := shape_Message (h)
  obtain ⟨B2, d2, rfl⟩ := shape_Message (k)
  exact eq_Message y.Stream y.Unordered y.Bytes _ _ w h.tl.tl.hd k.tl.tl.hd
theorem markA_Message (y : MessageM) {vs : List Value} {S : Fp} {k : Nat} {w : World} (hS : Sub S (Wn 0 w.heap.size)) (h : OwA w y.vs S vs) (hk : k + vcA y.vs ≤ 1000000000000) : Calls Try.prog 48 #[.agg vs.toArray, .int .i64 k] w (MkA y.vs S vs k w) := by
  obtain ⟨A2, c2, rfl⟩ := shape_Message (h.rd)
  exact mark_Message y.Stream y.Unordered y.Bytes _ S k w hS h hk
theorem szA_Message (y : MessageM) {vs : List Value} {left : Int} {w : World} (h : RdA w y.vs vs) (h0 : 0 ≤ left) (h1 : left ≤ 1048576) : Calls Try.prog 44 #[.agg vs.toArray, .int .i64 left] w (SzR left (tot.totL y.vs) w) := by
  obtain ⟨A2, c2, rfl⟩ := shape_Message (h)
  exact sz_Message y.Stream y.Unordered y.Bytes _ left w h.tl.tl.hd h0 h1
theorem toA_Message (y : MessageM) {vs : List Value} {w : World} (h : RdA w y.vs vs) (hm : tot.totL y.vs ≤ 1048576) : Calls Try.prog 45 #[.agg vs.toArray] w (Res w y.vs) := by
  obtain ⟨A2, c2, rfl⟩ := shape_Message (h)
  exact to_Message y.Stream y.Unordered y.Bytes _ w h.tl.tl.hd hm
theorem cnt_Message (y : MessageM) (h : tot.totL y.vs ≤ 1048576) : vcA y.vs ≤ 1000000000 := by
  simp only [MessageM.vs, vcA, vc, tot.totL, tot, cc] at *
  omega
theorem mem_Message {w : World} {g o : Nat} {y : MessageM} (h : RdL w y.vs g o) : ∃ (A2 : Option Addr) (c2 : Nat), w.cell? ⟨g, o, none⟩ = some (.int .i64 y.Stream) ∧ w.cell? ⟨g, o + 1, none⟩ = some (.bool y.Unordered) ∧ w.cell? ⟨g, o + 2, none⟩ = some (.slice A2 y.Bytes.length c2) ∧ Rd w (.bs y.Bytes) (.slice A2 y.Bytes.length c2) := by
  obtain ⟨u0, p0, t0⟩ := h.get? 0 (.int y.Stream) rfl
  have e0 := t0.int_out
  subst e0
  obtain ⟨u1, p1, t1⟩ := h.get? 1 (.bool y.Unordered) rfl
  have e1 := t1.bool_out
  subst e1
  obtain ⟨u2, p2, t2⟩ := h.get? 2 (.bs y.Bytes) rfl
  obtain ⟨A2, c2, e2⟩ := t2.bs_sh
  subst e2
  rw [Nat.add_zero] at p0
  exact ⟨A2, c2, p0, p1, p2, t2⟩
section
variable {H : Type} {enc : TypeId × Value → H} {w : World} {base : Nat} {spare : Nat → Bool} {held : Bool}
theorem cells_Message : Try.prog.cellsOf 81 = 3 := by kernel_rfl
theorem cells_Message_0 : Try.prog.cellsOf 2 = 1 := by kernel_rfl
theorem cells_Message_1 : Try.prog.cellsOf 4 = 1 := by kernel_rfl
theorem cells_Message_2 : Try.prog.cellsOf 22 = 1 := by kernel_rfl
set_option maxHeartbeats 1000000 in
theorem open_Message {n : Nat} {cs : List Value} {x : DataW H × List MemPlace} (h : DataW.trod enc Try.prog w base spare held n 81 cs = some x) : ∃ y : MessageM, RdA w y.vs cs ∧ WfA y.vs := by
  obtain ⟨xs, m, _, _, hl, hlen, hf⟩ := DataW.trod_struct Try.underlying81 h
  rw [cells_Message] at hl
  have hlen2 : xs.length = 3 := hlen
  obtain ⟨v0, v1, v2, rfl⟩ := list_3 hl
  obtain ⟨y0, y1, y2, rfl⟩ := list_3 hlen2
  have t0 : DataW.trod enc Try.prog w base spare held m 2 (([v0, v1, v2].drop 0).take (Try.prog.cellsOf 2)) = _ := hf 0 _ rfl
  rw [cells_Message_0] at t0
  replace t0 : DataW.trod enc Try.prog w base spare held m 2 [v0] = some y0 := t0
  have t1 : DataW.trod enc Try.prog w base spare held m 4 (([v0, v1, v2].drop 1).take (Try.prog.cellsOf 4)) = _ := hf 1 _ rfl
  rw [cells_Message_1] at t1
  replace t1 : DataW.trod enc Try.prog w base spare held m 4 [v1] = some y1 := t1
  have t2 : DataW.trod enc Try.prog w base spare held m 22 (([v0, v1, v2].drop 2).take (Try.prog.cellsOf 22)) = _ := hf 2 _ rfl
  rw [cells_Message_2] at t2
  replace t2 : DataW.trod enc Try.prog w base spare held m 22 [v2] = some y2 := t2
  obtain ⟨n0, e0, _, w0⟩ := DataW.trod_int Try.underlying2 t0
  simp only [List.cons.injEq, and_true] at e0
  subst e0
  obtain ⟨n1, e1, _⟩ := DataW.trod_bool Try.underlying4 t1
  simp only [List.cons.injEq, and_true] at e1
  subst e1
  obtain ⟨n2, r2, w2⟩ := open_bs t2
  exact ⟨⟨n0, n1, n2⟩, RdA.int_mk (RdA.bool_mk (RdA.any_mk r2 (RdA.nil_mk))), ⟨wf_int w0, ⟨trivial, ⟨w2, trivial⟩⟩⟩⟩
theorem opened_Message {cs0 : Array Value} {d : DataW H} {pl : List MemPlace} (h : DataW.Trod enc Try.prog w base spare held 81 (.agg cs0) d pl) : ∃ (y : MessageM) (A2 : Option Addr) (c2 : Nat), cs0 = #[.int .i64 y.Stream, .bool y.Unordered, .slice A2 y.Bytes.length c2] ∧ RdA w y.vs [.int .i64 y.Stream, .bool y.Unordered, .slice A2 y.Bytes.length c2] ∧ WfA y.vs := by
  obtain ⟨fuel, hf⟩ := h
  obtain ⟨y, h1, h2⟩ := open_Message hf
  have h3 := h1
  obtain ⟨A2, c2, e⟩ := shape_Message h3
  rw [e] at h1
  refine ⟨y, A2, c2, ?_, h1, h2⟩
  simp only [Value.cells] at e
  exact Array.ext' (by simpa using e)
end
def st_Message (r : List MessageM) : V := .st r.length (r.flatMap MessageM.vs)
theorem st_Message_sh {w : World} {r : List MessageM} {v : Value} (h : Rd w (st_Message r) v) : ∃ A c, v = .slice A r.length c := Rd.st_sh h
theorem ccS_Message (r : List MessageM) : cc.ccL (r.flatMap MessageM.vs) ≤ 4 * (r.length + tot.totL (r.flatMap MessageM.vs)) := by
  induction r with
  | nil => simp [cc.ccL]
  | cons x xs ih =>
    rw [List.flatMap_cons, ccL_append, totL_append, List.length_cons]
    have : cc.ccL (MessageM.vs x) ≤ 4 * (1 + tot.totL (MessageM.vs x)) := by
      simp only [MessageM.vs, cc.ccL, cc, tot.totL, tot]
      omega
    omega
structure MessageResultM where
  Code : Int
  Message_Stream : Int
  Message_Unordered : Bool
  Message_Bytes : List Int
def MessageResultM.vs (x : MessageResultM) : List V := [.int x.Code, .int x.Message_Stream, .bool x.Message_Unordered, .bs x.Message_Bytes]
theorem shape_MessageResult {w : World} {n0 : Int} {n1 : Int} {b2 : Bool} {l3 : List Int} {vs : List Value} (h : RdA w [.int n0, .int n1, .bool b2, .bs l3] vs) : ∃ (A3 : Option Addr) (c3 : Nat), vs = [.int .i64 n0, .int .i64 n1, .bool b2, .slice A3 l3.length c3] := by
  obtain ⟨q0, e0, t0⟩ := h.int_out
  subst e0
  obtain ⟨q1, e1, t1⟩ := t0.int_out
  subst e1
  obtain ⟨q2, e2, t2⟩ := t1.bool_out
  subst e2
  obtain ⟨v3, q3, e3, h3, t3⟩ := t2.any_out
  obtain ⟨A3, c3, a3⟩ := h3.bs_sh
  subst e3 a3
  have z := t3.nil_out
  subst z
  exact ⟨A3, c3, rfl⟩
theorem cnt_MessageResult (y : MessageResultM) (h : tot.totL y.vs ≤ 1048576) : vcA y.vs ≤ 1000000000 := by
  simp only [MessageResultM.vs, vcA, vc, tot.totL, tot, cc] at *
  omega
theorem mem_MessageResult {w : World} {g o : Nat} {y : MessageResultM} (h : RdL w y.vs g o) : ∃ (A3 : Option Addr) (c3 : Nat), w.cell? ⟨g, o, none⟩ = some (.int .i64 y.Code) ∧ w.cell? ⟨g, o + 1, none⟩ = some (.int .i64 y.Message_Stream) ∧ w.cell? ⟨g, o + 2, none⟩ = some (.bool y.Message_Unordered) ∧ w.cell? ⟨g, o + 3, none⟩ = some (.slice A3 y.Message_Bytes.length c3) ∧ Rd w (.bs y.Message_Bytes) (.slice A3 y.Message_Bytes.length c3) := by
  obtain ⟨u0, p0, t0⟩ := h.get? 0 (.int y.Code) rfl
  have e0 := t0.int_out
  subst e0
  obtain ⟨u1, p1, t1⟩ := h.get? 1 (.int y.Message_Stream) rfl
  have e1 := t1.int_out
  subst e1
  obtain ⟨u2, p2, t2⟩ := h.get? 2 (.bool y.Message_Unordered) rfl
  have e2 := t2.bool_out
  subst e2
  obtain ⟨u3, p3, t3⟩ := h.get? 3 (.bs y.Message_Bytes) rfl
  obtain ⟨A3, c3, e3⟩ := t3.bs_sh
  subst e3
  rw [Nat.add_zero] at p0
  exact ⟨A3, c3, p0, p1, p2, p3, t3⟩
end Go.Proofs.Ythljdikcpdokdaa
