/- Lists of pieces, messages, their results (WRITTEN BY tools/kinds.py) -/
import Derived.Test.YtncnibkojneejaaTyData
namespace Go.Proofs.Ytncnibkojneejaa
open Go.RowKit Go.Deep Go.ChangeShapes Go.WideShapes Go.ChangeAt

def st_Data (r : List DataM) : V := .st r.length (r.flatMap DataM.vs)
theorem st_Data_sh {w : World} {r : List DataM} {v : Value} (h : Rd w (st_Data r) v) : ∃ A c, v = .slice A r.length c := Rd.st_sh h
set_option maxRecDepth 100000 in
set_option maxHeartbeats 2000000 in
theorem eqS_Data (r : List DataM) (v u : Value) (w : World) (hv : Rd w (st_Data r) v) (hu : Rd w (st_Data r) u) :
    Calls Try.prog 49 #[v, u] w (EqR w) := by
  obtain ⟨A, c, rfl⟩ := st_Data_sh hv
  obtain ⟨B, d, rfl⟩ := st_Data_sh hu
  have hm : (r.length : Int) ≤ 9223372036854775807 := Rd.st_len hv
  have HV := hidH (fun (u : World) (h : Below w.heap.size w u) => Rd.below h _ hv)
  have HU := hidH (fun (u : World) (h : Below w.heap.size w u) => Rd.below h _ hu)
  clear hv hu
  go_enter Try.func49, Try.ntmps49
  go_wp2
  go_loopw [5] (fun i wr => ∃ j : Nat, j ≤ r.length ∧ i = .int .i64 j ∧ Below w.heap.size w wr) (fun i _ => r.length - (intOf i).toNat)
  case atStart => exact ⟨0, by omega, rfl, Below.refl _ _⟩
  case round =>
    obtain ⟨j, hj, rfl, hBw⟩ := hrel
    by_cases hlt : j < r.length
    · have hj0 : (0 : Int) ≤ (j : Int) := by omega
      have hj1 : (j : Int) < (r.length : Int) := by omega
      have bd := (Below.refl wr.heap.size wr).drew
      have hBW := btr hBw bd
      obtain ⟨ga, oa, ca, ea, hga, RA⟩ := Rd.row (f := DataM.vs) (W := 7) (fun _ => rfl) (HV.out _ hBW) hlt
      obtain ⟨gb, ob, cb, eb, hgb, RB⟩ := Rd.row (f := DataM.vs) (W := 7) (fun _ => rfl) (HU.out _ hBW) hlt
      injection ea with ea1 ea2 ea3
      subst ea1 ea3
      injection eb with eb1 eb2 eb3
      subst eb1 eb3
      obtain ⟨pu0, p0, pt0⟩ := RA 0 (.int r[j].Tsn) rfl
      have pe0 := pt0.int_out
      subst pe0
      rw [Nat.add_zero] at p0
      obtain ⟨pu1, p1, pt1⟩ := RA 1 (.int r[j].Stream) rfl
      have pe1 := pt1.int_out
      subst pe1
      obtain ⟨pu2, p2, pt2⟩ := RA 2 (.int r[j].Seq) rfl
      have pe2 := pt2.int_out
      subst pe2
      obtain ⟨pu3, p3, pt3⟩ := RA 3 (.bool r[j].First) rfl
      have pe3 := pt3.bool_out
      subst pe3
      obtain ⟨pu4, p4, pt4⟩ := RA 4 (.bool r[j].Last) rfl
      have pe4 := pt4.bool_out
      subst pe4
      obtain ⟨pu5, p5, pt5⟩ := RA 5 (.bool r[j].Unordered) rfl
      have pe5 := pt5.bool_out
      subst pe5
      obtain ⟨pu6, p6, pt6⟩ := RA 6 (.bs r[j].Piece) rfl
      obtain ⟨A6, An6, pe6⟩ := pt6.bs_sh
      subst pe6
      obtain ⟨qu0, q0, qt0⟩ := RB 0 (.int r[j].Tsn) rfl
      have qe0 := qt0.int_out
      subst qe0
      rw [Nat.add_zero] at q0
      obtain ⟨qu1, q1, qt1⟩ := RB 1 (.int r[j].Stream) rfl
      have qe1 := qt1.int_out
      subst qe1
      obtain ⟨qu2, q2, qt2⟩ := RB 2 (.int r[j].Seq) rfl
      have qe2 := qt2.int_out
      subst qe2
      obtain ⟨qu3, q3, qt3⟩ := RB 3 (.bool r[j].First) rfl
      have qe3 := qt3.bool_out
      subst qe3
      obtain ⟨qu4, q4, qt4⟩ := RB 4 (.bool r[j].Last) rfl
      have qe4 := qt4.bool_out
      subst qe4
      obtain ⟨qu5, q5, qt5⟩ := RB 5 (.bool r[j].Unordered) rfl
      have qe5 := qt5.bool_out
      subst qe5
      obtain ⟨qu6, q6, qt6⟩ := RB 6 (.bs r[j].Piece) rfl
      obtain ⟨B6, Bn6, qe6⟩ := qt6.bs_sh
      subst qe6
      have HE := hidH (eq_Data r[j].Tsn r[j].Stream r[j].Seq r[j].First r[j].Last r[j].Unordered r[j].Piece _ _ wr.drew pt6 qt6)
      have HBW := hidH hBW
      clear RA RB hBW hBw bd pt0 qt0 pt1 qt1 pt2 qt2 pt3 qt3 pt4 qt4 pt5 qt5 pt6 qt6
      go_wp2
      go_still_tail 8, (by kernel_rfl)
      change wpList _ _ _ _ _ wr.drew
      go_wp2_with fail
      refine HE.out.mono ?_
      rintro e w3 ⟨rfl, b3⟩
      have B3 := hidH (btr HBW.out b3)
      clear HE HBW b3 p0 q0 p1 q1 p2 q2 p3 q3 p4 q4 p5 q5 p6 q6
      go_wp2
      go_roundw
      case rel => exact ⟨j + 1, by omega, by go_num, B3.out⟩
      case measure => simp [intOf]; omega
    · have HBW := hidH hBw
      have hd : ¬ ((j : Int) < (r.length : Int)) := by omega
      clear hBw hlt hj
      go_wp2
      go_ret
      exact ⟨rfl, HBW.out⟩
set_option maxRecDepth 100000 in
set_option maxHeartbeats 2000000 in
theorem markS_Data (r : List DataM) (S : Fp) (v : Value) (k : Nat) (w : World) (h : Ow w (st_Data r) S v) (hk : k + cc (st_Data r) ≤ 1000000000000) :
    Calls Try.prog 57 #[v, .int .i64 k] w (MkR (st_Data r) S v k w) := by
  unfold st_Data at h hk ⊢
  unfold Ow at h
  obtain ⟨A, c, rfl, hc, h⟩ := h
  have hm := hc.len
  unfold MkR
  rcases h with ⟨h0, _⟩ | ⟨g, o, rfl, hg, h⟩
  · obtain rfl := List.eq_nil_of_length_eq_zero h0
    have HC := hidH hc
    clear h0 hc
    go_enter Try.func57, Try.ntmps57
    go_wp2
    go_loopw [1, 5] (fun v i wr => v = .int .i64 k ∧ i = .int .i64 0 ∧ wr = w) (fun _ _ _ => 0)
    case atStart => exact ⟨rfl, rfl, rfl⟩
    case round =>
      obtain ⟨rfl, rfl, rfl⟩ := hrel
      go_wp2
      go_ret
      refine ⟨ret_int (by simp [cc, cc.ccL]), Chg.refl _ _, ?_⟩
      simp only [mkc]
      unfold Ow
      exact ⟨A, c, rfl, HC.out, .inl ⟨rfl, rfl⟩⟩
  · have M0 := hidH (MkSt.start (k := k) h hg)
    have HC := hidH hc
    have HKL := hidH (kRow_le k DataM.vs r)
    have HK := hidH hk
    clear hc h
    go_enter Try.func57, Try.ntmps57
    go_wp2
    go_loopw [1, 5] (fun v i wr => ∃ j : Nat, j ≤ r.length ∧ v = .int .i64 ((kRow k DataM.vs r j : Nat) : Int) ∧ i = .int .i64 j ∧ MkSt w S g o k ((r.take j).flatMap DataM.vs) ((r.drop j).flatMap DataM.vs) wr) (fun _ i _ => r.length - (intOf i).toNat)
    case atStart => exact ⟨0, Nat.zero_le _, by rw [kRow_zero], rfl, M0.out⟩
    case round =>
      obtain ⟨j, hj, rfl, rfl, hM⟩ := hrel
      by_cases hlt : j < r.length
      · have hj0 : (0 : Int) ≤ (j : Int) := by omega
        have hj1 : (j : Int) < (r.length : Int) := by omega
        have hkl := HKL.out (j + 1)
        have hks := kRow_succ k DataM.vs r j hlt
        have hk2 := HK.out
        have hrow : cc.ccL (DataM.vs r[j]) = 1 + 1 + 1 + 1 + 1 + 1 + cc (.bs r[j].Piece) := by simp only [DataM.vs, cc.ccL, cc] <;> omega
        have hp : ((r.take j).flatMap DataM.vs).length = j * 7 := take_len (f := DataM.vs) (fun _ => rfl) r j (by omega)
        have he := flat_take DataM.vs r j hlt
        rw [flat_drop DataM.vs r j hlt] at hM
        replace hM : MkSt w S g o k ((r.take j).flatMap DataM.vs) ((.int r[j].Tsn) :: (.int r[j].Stream) :: (.int r[j].Seq) :: (.bool r[j].First) :: (.bool r[j].Last) :: (.bool r[j].Unordered) :: (.bs r[j].Piece) :: (r.drop (j + 1)).flatMap DataM.vs) wr := hM
        obtain ⟨y, hy⟩ : ∃ y, kRow k DataM.vs r j = y := ⟨_, rfl⟩
        rw [hy] at hks ⊢
        unfold kRow at hy
        have hyb : (y : Int) + 1 + 1 + 1 + 1 + 1 + 1 + (cc (.bs r[j].Piece) : Int) + 0 ≤ 1000000000000 := by omega
        obtain ⟨pre, hpre⟩ : ∃ pre, (r.take j).flatMap DataM.vs = pre := ⟨_, rfl⟩
        obtain ⟨post, hpost⟩ : ∃ post, (r.drop (j + 1)).flatMap DataM.vs = post := ⟨_, rfl⟩
        rw [hpre] at hM hy hp he
        rw [hpost] at hM
        have HPO := hidH hpost
        have HKS := hidH hks
        have HE := hidH he
        have HY := hidH hy
        have HP := hidH hp
        have HRO := hidH hrow
        have HYB := hidH hyb
        clear hpost hks he hy hp hpre hrow hkl hk2 hyb
        have hyI : (y : Int) ≤ 1000000000000 := by have := HYB.out; omega
        obtain ⟨⟨x0, p0⟩, f0, hM⟩ := hM.num (o + j * 7) (by rw [HP.out]) ((y : Int)) (by rw [HY.out])
        obtain ⟨⟨x1, p1⟩, f1, hM⟩ := hM.num (o + j * 7 + 1) (by simp only [List.length_append, List.length_cons, List.length_nil, HP.out]; omega) ((y : Int) + 1) (by rw [← HY.out]; simp only [ccL_append, cc.ccL, cc]; omega)
        obtain ⟨⟨x2, p2⟩, f2, hM⟩ := hM.num (o + j * 7 + 2) (by simp only [List.length_append, List.length_cons, List.length_nil, HP.out]; omega) ((y : Int) + 1 + 1) (by rw [← HY.out]; simp only [ccL_append, cc.ccL, cc]; omega)
        obtain ⟨⟨x3, p3⟩, f3, hM⟩ := hM.boo (o + j * 7 + 3) (by simp only [List.length_append, List.length_cons, List.length_nil, HP.out]; omega) ((y : Int) + 1 + 1 + 1) (by rw [← HY.out]; simp only [ccL_append, cc.ccL, cc]; omega)
        obtain ⟨⟨x4, p4⟩, f4, hM⟩ := hM.boo (o + j * 7 + 4) (by simp only [List.length_append, List.length_cons, List.length_nil, HP.out]; omega) ((y : Int) + 1 + 1 + 1 + 1) (by rw [← HY.out]; simp only [ccL_append, cc.ccL, cc]; omega)
        obtain ⟨⟨x5, p5⟩, f5, hM⟩ := hM.boo (o + j * 7 + 5) (by simp only [List.length_append, List.length_cons, List.length_nil, HP.out]; omega) ((y : Int) + 1 + 1 + 1 + 1 + 1) (by rw [← HY.out]; simp only [ccL_append, cc.ccL, cc]; omega)
        obtain ⟨u6, S6, p6, ho6, hN⟩ := hM.at_ (o + j * 7 + 6) (by simp only [List.length_append, List.length_cons, List.length_nil, HP.out]; omega) (y + 6) (by rw [← HY.out]; simp only [ccL_append, cc.ccL, cc]; omega)
        have HO := hidH ho6
        have HN := hidH hN
        clear ho6 hN hM
        go_wp2_with fail
        rw [show ((y : Int) + 1 + 1 + 1 + 1 + 1 + 1) = ((y + 6 : Nat) : Int) by omega]
        refine (markB_ow r[j].Piece S6 u6 (y + 6) _ HO.out (by have := HYB.out; omega)).mono ?_
        rintro e v6 ⟨rfl, hc6, ho6⟩
        have hM := HN.out _ hc6 ho6
        clear HO HN hc6 ho6 p6 p0 f0 p1 f1 p2 f2 p3 f3 p4 f4 p5 f5
        have hb6 : (((y + 6 + cc (.bs r[j].Piece) : Nat) : Int)) ≤ 1000000000000 := by have := HYB.out; omega
        rw [show ((((((pre ++ [.int r[j].Tsn]) ++ [.int r[j].Stream]) ++ [.int r[j].Seq]) ++ [.bool r[j].First]) ++ [.bool r[j].Last]) ++ [.bool r[j].Unordered]) ++ [.bs r[j].Piece] = (r.take (j + 1)).flatMap DataM.vs from (by rw [HE.out]; simp [DataM.vs])] at hM
        rw [← HPO.out] at hM
        have HM := hidH hM
        clear hM
        go_wp2
        go_roundw
        case rel => exact ⟨j + 1, by omega, by rw [HKS.out, HRO.out]; exact congrArg (Value.int .i64) (by omega), by go_num, HM.out⟩
        case measure => simp [intOf]; omega
      · obtain rfl : j = r.length := by omega
        rw [List.take_length, List.drop_length] at hM
        have HM := hidH (MkSt.done hM HC.out)
        have hka := kRow_all k DataM.vs r
        clear hM hlt hj
        go_wp2
        go_ret
        exact ⟨ret_int (by rw [hka]), HM.out.1, HM.out.2⟩
set_option maxRecDepth 100000 in
set_option maxHeartbeats 2000000 in
theorem heldS_Data (r : List DataM) (v : Value) (k : Nat) (w : World) (h : Rd w (mkc k (st_Data r)) v) (hk : k + cc (st_Data r) ≤ 1000000000000) :
    Calls Try.prog 75 #[v, .int .i64 k] w (HeR (st_Data r) k w) := by
  unfold st_Data at h hk ⊢
  have h2 := h
  simp only [mkc] at h2
  have hm : (r.length : Int) ≤ 9223372036854775807 := Rd.st_len h2
  obtain ⟨A, c, rfl⟩ := h2.st_sh
  clear h2
  have HV := hidH (fun (u : World) (h3 : Below w.heap.size w u) => Rd.below h3 _ h)
  have HKL := hidH (kRow_le k DataM.vs r)
  have HK := hidH hk
  unfold HeR
  clear h
  go_enter Try.func75, Try.ntmps75
  go_wp2
  go_loopw [1, 5] (fun v i wr => ∃ j : Nat, j ≤ r.length ∧ v = .int .i64 ((kRow k DataM.vs r j : Nat) : Int) ∧ i = .int .i64 j ∧ Below w.heap.size w wr) (fun _ i _ => r.length - (intOf i).toNat)
  case atStart => exact ⟨0, Nat.zero_le _, by rw [kRow_zero], rfl, Below.refl _ _⟩
  case round =>
    obtain ⟨j, hj, rfl, rfl, hB⟩ := hrel
    by_cases hlt : j < r.length
    · have hj0 : (0 : Int) ≤ (j : Int) := by omega
      have hj1 : (j : Int) < (r.length : Int) := by omega
      have hkl := HKL.out (j + 1)
      have hks := kRow_succ k DataM.vs r j hlt
      have hk2 := HK.out
      have hrow : cc.ccL (DataM.vs r[j]) = 1 + 1 + 1 + 1 + 1 + 1 + cc (.bs r[j].Piece) := by simp only [DataM.vs, cc.ccL, cc] <;> omega
      obtain ⟨g, o, ca, ea, hg, RA⟩ := Rd.rowmk (f := DataM.vs) (W := 7) (fun _ => rfl) (HV.out _ hB) hlt
      injection ea with ea1 ea2 ea3
      subst ea1 ea3
      obtain ⟨y, hy⟩ : ∃ y, kRow k DataM.vs r j = y := ⟨_, rfl⟩
      rw [hy] at hks ⊢
      unfold kRow at hy
      rw [hy] at RA
      obtain ⟨pu0, p0, pt0⟩ := RA 0 (.int ((y : Nat) : Int)) rfl
      have pe0 := pt0.int_out
      subst pe0
      clear pt0
      rw [Nat.add_zero] at p0
      obtain ⟨pu1, p1, pt1⟩ := RA 1 (.int ((y + 1 : Nat) : Int)) rfl
      have pe1 := pt1.int_out
      subst pe1
      clear pt1
      rw [show ((y + 1 : Nat) : Int) = (y : Int) + 1 by omega] at p1
      obtain ⟨pu2, p2, pt2⟩ := RA 2 (.int ((y + 2 : Nat) : Int)) rfl
      have pe2 := pt2.int_out
      subst pe2
      clear pt2
      rw [show ((y + 2 : Nat) : Int) = (y : Int) + 1 + 1 by omega] at p2
      obtain ⟨pu3, p3, pt3⟩ := RA 3 (.bool (decide (((y + 3 : Nat) : Int) % 3 = 0))) rfl
      have pe3 := pt3.bool_out
      subst pe3
      clear pt3
      rw [show ((y + 3 : Nat) : Int) = (y : Int) + 1 + 1 + 1 by omega] at p3
      rw [dec3] at p3
      have fb3 := bne3 ((y : Int) + 1 + 1 + 1)
      obtain ⟨pu4, p4, pt4⟩ := RA 4 (.bool (decide (((y + 4 : Nat) : Int) % 3 = 0))) rfl
      have pe4 := pt4.bool_out
      subst pe4
      clear pt4
      rw [show ((y + 4 : Nat) : Int) = (y : Int) + 1 + 1 + 1 + 1 by omega] at p4
      rw [dec3] at p4
      have fb4 := bne3 ((y : Int) + 1 + 1 + 1 + 1)
      obtain ⟨pu5, p5, pt5⟩ := RA 5 (.bool (decide (((y + 5 : Nat) : Int) % 3 = 0))) rfl
      have pe5 := pt5.bool_out
      subst pe5
      clear pt5
      rw [show ((y + 5 : Nat) : Int) = (y : Int) + 1 + 1 + 1 + 1 + 1 by omega] at p5
      rw [dec3] at p5
      have fb5 := bne3 ((y : Int) + 1 + 1 + 1 + 1 + 1)
      obtain ⟨pu6, p6, pt6⟩ := RA 6 (mkc (y + 6) (.bs r[j].Piece)) rfl
      have HV6 := hidH (fun (u : World) (h3 : Below wr.heap.size wr u) => Rd.below h3 _ pt6)
      clear pt6
      have hyb : (y : Int) + 1 + 1 + 1 + 1 + 1 + 1 + (cc (.bs r[j].Piece) : Int) + 0 ≤ 1000000000000 := by omega
      have HYB := hidH hyb
      have hyI : (y : Int) ≤ 1000000000000 := by omega
      have HKS := hidH hks
      have HRO := hidH hrow
      have HBW := hidH hB
      clear RA hB hks hrow hkl hk2 hy hyb
      go_wp2_with fail
      rw [show ((y : Int) + 1 + 1 + 1 + 1 + 1 + 1) = ((y + 6 : Nat) : Int) by omega]
      refine (heldB_rd r[j].Piece _ (y + 6) _ (HV6.out _ (Below.refl _ _)) (by have := HYB.out; omega)).mono ?_
      rintro e v6 ⟨rfl, hb⟩
      have HB := hidH hb
      replace HBW := hidH (btr HBW.out hb)
      replace hg := Nat.lt_of_lt_of_le hg hb.size
      clear hb
      have hpos6 : ¬ ((((y + 6 + cc (.bs r[j].Piece) : Nat) : Int)) < 0) := by omega
      have hbd6 : (((y + 6 + cc (.bs r[j].Piece) : Nat) : Int)) ≤ 1000000000000 := by have := HYB.out; omega
      go_wp2
      go_roundw
      case rel => exact ⟨j + 1, by omega, by rw [HKS.out, HRO.out]; exact congrArg (Value.int .i64) (by omega), by go_num, HBW.out⟩
      case measure => simp [intOf]; omega
    · obtain rfl : j = r.length := by omega
      have HBW := hidH hB
      have hka := kRow_all k DataM.vs r
      clear hB hlt hj
      go_wp2
      go_ret
      exact ⟨ret_int (by rw [hka]), HBW.out⟩
set_option maxRecDepth 100000 in
set_option maxHeartbeats 2000000 in
theorem szS_Data (r : List DataM) (v : Value) (left : Int) (w : World) (hv : Rd w (st_Data r) v) (h0 : 0 ≤ left) (h1 : left ≤ 1048576) :
    Calls Try.prog 36 #[v, .int .i64 left] w (SzR left (tot (st_Data r)) w) := by
  have hn : (r.length : Int) ≤ 9223372036854775807 := Rd.st_len hv
  obtain ⟨A, c, rfl⟩ := st_Data_sh hv
  have HV := hidH (fun (u : World) (h3 : Below w.heap.size w u) => Rd.below h3 _ hv)
  have HT := hidH (tRow_all DataM.vs r)
  rw [show tot (st_Data r) = r.length + tRow DataM.vs r r.length from (tRow_all _ _).symm]
  clear hv
  by_cases hl : left - (r.length : Int) < 0
  · go_enter Try.func36, Try.ntmps36
    go_wp2
    go_ret
    exact ⟨-1, rfl, ⟨.inl rfl, by omega, fun h => by omega⟩, Below.refl _ _⟩
  · have hl0 : 0 ≤ left - (r.length : Int) := by omega
    clear hl
    go_enter Try.func36, Try.ntmps36
    go_wp2
    go_loopw [1, 5] (fun t i wr => ∃ (j : Nat) (z : Int), j ≤ r.length ∧ i = .int .i64 j ∧ t = .int .i64 z ∧ 0 ≤ z ∧ z + (tRow DataM.vs r j : Int) + (r.length : Int) ≤ left ∧ Below w.heap.size w wr) (fun _ i _ => r.length - (intOf i).toNat)
    case atStart => exact ⟨0, left - (r.length : Int), by omega, rfl, rfl, hl0, by rw [tRow_zero]; omega, Below.refl _ _⟩
    case round =>
      obtain ⟨j, z, hj, rfl, rfl, hz0, hz1, hB⟩ := hrel
      by_cases hlt : j < r.length
      · have hj0 : (0 : Int) ≤ (j : Int) := by omega
        have hj1 : (j : Int) < (r.length : Int) := by omega
        have hz2 : z ≤ 1048576 := by omega
        obtain ⟨g, o, ca, ea, hg, RA⟩ := Rd.row (f := DataM.vs) (W := 7) (fun _ => rfl) (HV.out _ hB) hlt
        injection ea with ea1 ea2 ea3
        subst ea1 ea3
        obtain ⟨pu0, p0, pt0⟩ := RA 0 (.int r[j].Tsn) rfl
        have pe0 := pt0.int_out
        subst pe0
        rw [Nat.add_zero] at p0
        obtain ⟨pu1, p1, pt1⟩ := RA 1 (.int r[j].Stream) rfl
        have pe1 := pt1.int_out
        subst pe1
        obtain ⟨pu2, p2, pt2⟩ := RA 2 (.int r[j].Seq) rfl
        have pe2 := pt2.int_out
        subst pe2
        obtain ⟨pu3, p3, pt3⟩ := RA 3 (.bool r[j].First) rfl
        have pe3 := pt3.bool_out
        subst pe3
        obtain ⟨pu4, p4, pt4⟩ := RA 4 (.bool r[j].Last) rfl
        have pe4 := pt4.bool_out
        subst pe4
        obtain ⟨pu5, p5, pt5⟩ := RA 5 (.bool r[j].Unordered) rfl
        have pe5 := pt5.bool_out
        subst pe5
        obtain ⟨pu6, p6, pt6⟩ := RA 6 (.bs r[j].Piece) rfl
        obtain ⟨A6, An6, pe6⟩ := pt6.bs_sh
        subst pe6
        have HS := hidH (sz_Data r[j].Tsn r[j].Stream r[j].Seq r[j].First r[j].Last r[j].Unordered r[j].Piece _ z wr pt6 hz0 hz2)
        have hts := tRow_succ DataM.vs r j hlt
        have HTS := hidH hts
        have HBW := hidH hB
        have HZ1 := hidH hz1
        clear RA hB hz1 hts pt0 pt1 pt2 pt3 pt4 pt5 pt6
        go_wp2_with fail
        refine HS.out.mono ?_
        rintro e w3 ⟨z3, rfl, hz3, b3⟩
        have B3 := hidH (btr HBW.out b3)
        have HZ3 := hidH hz3
        clear HS b3 HBW hz3 p0 p1 p2 p3 p4 p5 p6
        by_cases hneg : z3 < 0
        · obtain rfl : z3 = -1 := by rcases HZ3.out.1 with h | h <;> omega
          clear hneg
          go_wp2
          go_ret
          exact ⟨-1, rfl, ⟨.inl rfl, by omega, fun h => by omega⟩, B3.out⟩
        · have hpos : 0 ≤ z3 := by omega
          clear hneg
          go_wp2
          go_roundw
          case rel => exact ⟨j + 1, z3, by omega, by go_num, rfl, hpos, by have := HTS.out; have := HZ1.out; have := HZ3.out.2.2 hpos; simp only [DataM.vs] at *; omega, B3.out⟩
          case measure => simp [intOf]; omega
      · obtain rfl : j = r.length := by omega
        have HBW := hidH hB
        have HZ1 := hidH hz1
        clear hB hlt hj hz1
        go_wp2
        go_ret
        exact ⟨z, rfl, ⟨.inr hz0, by have := HZ1.out; omega, fun _ => by have := HZ1.out; omega⟩, HBW.out⟩
theorem info_Data : (Try.prog.info? 76).map (fun i => (i.zero, i.size, i.bytes)) = some (some (.agg #[.int .i64 0, .int .i64 0, .int .i64 0, .bool false, .bool false, .bool false, .slice none 0 0]), 7, 56) := by kernel_rfl
set_option maxRecDepth 100000 in
set_option maxHeartbeats 2000000 in
theorem toS_Data (r : List DataM) (v : Value) (w : World) (hv : Rd w (st_Data r) v) (hm : tot (st_Data r) ≤ 1048576) :
    Calls Try.prog 44 #[v] w (ResV w (st_Data r)) := by
  obtain ⟨A, c, rfl⟩ := st_Data_sh hv
  have HT := hidH hm
  have hnn : r.length ≤ 1048576 := by rw [st_Data, ← tRow_all] at hm; omega
  have hnI : (r.length : Int) ≤ 1048576 := by omega
  obtain ⟨i0, hi, hz0, hz1, hz2⟩ := info_parts info_Data
  have HI := hidH (And.intro hi (And.intro hz0 (And.intro hz1 hz2)))
  have HV := hidH (fun (u : World) (h3 : Below w.heap.size w u) => Rd.below h3 _ hv)
  clear hi hz0 hz1 hz2 hv hm
  go_enter Try.func44, Try.ntmps44
  go_wp2_with (refine wpList_make_full _ rfl _ _ _ rfl w.heap.size 76 i0 _ 7 Try.underlying25 HI.out.1 HI.out.2.1 HI.out.2.2.1 .i64 .i64 _ _ r.length rfl rfl rfl rfl (by rw [HI.out.2.2.2]; omega) (by unfold maxLen; omega) (Nat.le_refl _) ?_)
  intro w1 o1 g1
  have F0 := hidH (fillL0 o1 ((Below.refl w.heap.size w).grown g1 (Nat.le_refl _) (fun k hk => by cases hk)) (Nat.le_refl _))
  clear o1 g1
  go_wp2
  go_loopw [4] (fun i wr => ∃ j : Nat, j ≤ r.length ∧ i = .int .i64 j ∧ FillL w w.heap.size (r.length * 7) ((r.take j).flatMap DataM.vs) wr) (fun i _ => r.length - (intOf i).toNat)
  case atStart => exact ⟨0, by omega, rfl, F0.out⟩
  case round =>
    obtain ⟨j, hj, rfl, hF⟩ := hrel
    by_cases hlt : j < r.length
    · have hj0 : (0 : Int) ≤ (j : Int) := by omega
      have hj1 : (j : Int) < (r.length : Int) := by omega
      obtain ⟨g, o, ca, ea, hg, RA⟩ := Rd.row (f := DataM.vs) (W := 7) (fun _ => rfl) (HV.out _ hF.old) hlt
      injection ea with ea1 ea2 ea3
      subst ea1 ea3
      obtain ⟨pu0, p0, pt0⟩ := RA 0 (.int r[j].Tsn) rfl
      have pe0 := pt0.int_out
      subst pe0
      rw [Nat.add_zero] at p0
      obtain ⟨pu1, p1, pt1⟩ := RA 1 (.int r[j].Stream) rfl
      have pe1 := pt1.int_out
      subst pe1
      obtain ⟨pu2, p2, pt2⟩ := RA 2 (.int r[j].Seq) rfl
      have pe2 := pt2.int_out
      subst pe2
      obtain ⟨pu3, p3, pt3⟩ := RA 3 (.bool r[j].First) rfl
      have pe3 := pt3.bool_out
      subst pe3
      obtain ⟨pu4, p4, pt4⟩ := RA 4 (.bool r[j].Last) rfl
      have pe4 := pt4.bool_out
      subst pe4
      obtain ⟨pu5, p5, pt5⟩ := RA 5 (.bool r[j].Unordered) rfl
      have pe5 := pt5.bool_out
      subst pe5
      obtain ⟨pu6, p6, pt6⟩ := RA 6 (.bs r[j].Piece) rfl
      obtain ⟨A6, An6, pe6⟩ := pt6.bs_sh
      subst pe6
      have HS := hidH (to_Data r[j].Tsn r[j].Stream r[j].Seq r[j].First r[j].Last r[j].Unordered r[j].Piece _ wr pt6 (Nat.le_trans (row_tot DataM.vs r j hlt) HT.out))
      have hp : ((r.take j).flatMap DataM.vs).length = j * 7 := take_len (f := DataM.vs) (fun _ => rfl) r j (by omega)
      have HP := hidH hp
      have HE := hidH (flat_take DataM.vs r j hlt)
      have HF := hidH hF
      clear RA hF hp pt0 pt1 pt2 pt3 pt4 pt5 pt6
      go_wp2_with fail
      refine HS.out.mono ?_
      rintro e w3 ⟨vs, rfl, O3, b3⟩
      obtain ⟨E6, e6, rfl⟩ := shape_Data O3.rd
      have hgl := HF.out.lt
      obtain ⟨m0, n0⟩ := HF.out.room (j * 7) (by omega)
      replace n0 := (b3.cell (p := ⟨w.heap.size, _, none⟩) hgl).trans n0
      have f0 := (b3.frozen (p := ⟨w.heap.size, j * 7, none⟩) hgl).trans (HF.out.fz _)
      obtain ⟨m1, n1⟩ := HF.out.room (j * 7 + 1) (by omega)
      replace n1 := (b3.cell (p := ⟨w.heap.size, _, none⟩) hgl).trans n1
      have f1 := (b3.frozen (p := ⟨w.heap.size, j * 7 + 1, none⟩) hgl).trans (HF.out.fz _)
      obtain ⟨m2, n2⟩ := HF.out.room (j * 7 + 2) (by omega)
      replace n2 := (b3.cell (p := ⟨w.heap.size, _, none⟩) hgl).trans n2
      have f2 := (b3.frozen (p := ⟨w.heap.size, j * 7 + 2, none⟩) hgl).trans (HF.out.fz _)
      obtain ⟨m3, n3⟩ := HF.out.room (j * 7 + 3) (by omega)
      replace n3 := (b3.cell (p := ⟨w.heap.size, _, none⟩) hgl).trans n3
      have f3 := (b3.frozen (p := ⟨w.heap.size, j * 7 + 3, none⟩) hgl).trans (HF.out.fz _)
      obtain ⟨m4, n4⟩ := HF.out.room (j * 7 + 4) (by omega)
      replace n4 := (b3.cell (p := ⟨w.heap.size, _, none⟩) hgl).trans n4
      have f4 := (b3.frozen (p := ⟨w.heap.size, j * 7 + 4, none⟩) hgl).trans (HF.out.fz _)
      obtain ⟨m5, n5⟩ := HF.out.room (j * 7 + 5) (by omega)
      replace n5 := (b3.cell (p := ⟨w.heap.size, _, none⟩) hgl).trans n5
      have f5 := (b3.frozen (p := ⟨w.heap.size, j * 7 + 5, none⟩) hgl).trans (HF.out.fz _)
      obtain ⟨m6, n6⟩ := HF.out.room (j * 7 + 6) (by omega)
      replace n6 := (b3.cell (p := ⟨w.heap.size, _, none⟩) hgl).trans n6
      have f6 := (b3.frozen (p := ⟨w.heap.size, j * 7 + 6, none⟩) hgl).trans (HF.out.fz _)
      have ST := hidH (HF.out.step b3 O3 (by rw [HP.out]; simp only [List.length_cons, List.length_nil]; omega) rfl (j * 7) HP.out.symm)
      clear HS O3 b3 HF hgl p0 p1 p2 p3 p4 p5 p6
      go_wp2
      go_roundw
      case rel => exact ⟨j + 1, by omega, by go_num, by rw [HE.out]; exact ST.out⟩
      case measure => simp [intOf]; omega
    · obtain rfl : j = r.length := by omega
      rw [List.take_length] at hF
      have HD := hidH (FillL.done (n := r.length) hF (Caps.same (by omega)))
      have HO := hidH hF.old
      clear hF hlt hj
      go_wp2
      go_ret
      exact ⟨_, rfl, HD.out, HO.out⟩
theorem ccS_Data (r : List DataM) : cc.ccL (r.flatMap DataM.vs) ≤ 8 * (r.length + tot.totL (r.flatMap DataM.vs)) := by
  induction r with
  | nil => simp [cc.ccL]
  | cons x xs ih =>
    rw [List.flatMap_cons, ccL_append, totL_append, List.length_cons]
    have : cc.ccL (DataM.vs x) ≤ 8 * (1 + tot.totL (DataM.vs x)) := by
      simp only [DataM.vs, cc.ccL, cc, tot.totL, tot]
      omega
    omega
section
variable {H : Type} {enc : TypeId × Value → H} {w : World} {base : Nat} {spare : Nat → Bool} {held : Bool}
theorem openS_Data {n : Nat} {v : Value} {x : DataW H × List MemPlace} (h : DataW.trod enc Try.prog w base spare held n 45 [v] = some x) : ∃ r : List DataM, Rd w (st_Data r) v ∧ WfV (st_Data r) :=
  open_st (f := DataM.vs) (W := 7) (fun _ => rfl) (by decide) Try.underlying45 (by kernel_rfl) (fun _ _ _ h => open_Data h) h
end
structure DatasResultM where
  Code : Int
  Datas : List DataM
def DatasResultM.vs (x : DatasResultM) : List V := [.int x.Code, st_Data x.Datas]
theorem shape_DatasResult {w : World} {n0 : Int} {r1 : List DataM} {vs : List Value} (h : RdA w [.int n0, st_Data r1] vs) : ∃ (A1 : Option Addr) (c1 : Nat), vs = [.int .i64 n0, .slice A1 r1.length c1] := by
  obtain ⟨q0, e0, t0⟩ := h.int_out
  subst e0
  obtain ⟨v1, q1, e1, h1, t1⟩ := t0.any_out
  obtain ⟨A1, c1, a1⟩ := st_Data_sh h1
  subst e1 a1
  have z := t1.nil_out
  subst z
  exact ⟨A1, c1, rfl⟩
theorem cnt_DatasResult (y : DatasResultM) (h : tot.totL y.vs ≤ 1048576) : vcA y.vs ≤ 1000000000 := by
  have cData := ccS_Data
  simp only [DatasResultM.vs, vcA, vc, tot.totL, tot, cc, st_Data] at *
  have d1 := cData y.Datas
  omega
theorem mem_DatasResult {w : World} {g o : Nat} {y : DatasResultM} (h : RdL w y.vs g o) : ∃ (A1 : Option Addr) (c1 : Nat), w.cell? ⟨g, o, none⟩ = some (.int .i64 y.Code) ∧ w.cell? ⟨g, o + 1, none⟩ = some (.slice A1 y.Datas.length c1) ∧ Rd w (st_Data y.Datas) (.slice A1 y.Datas.length c1) := by
  obtain ⟨u0, p0, t0⟩ := h.get? 0 (.int y.Code) rfl
  have e0 := t0.int_out
  subst e0
  obtain ⟨u1, p1, t1⟩ := h.get? 1 (st_Data y.Datas) rfl
  obtain ⟨A1, c1, e1⟩ := st_Data_sh t1
  subst e1
  rw [Nat.add_zero] at p0
  exact ⟨A1, c1, p0, p1, t1⟩
structure MessageM where
  Stream : Int
  Unordered : Bool
  Bytes : List Int
def MessageM.vs (x : MessageM) : List V := [.int x.Stream, .bool x.Unordered, .bs x.Bytes]
theorem shape_Message {w : World} {n0 : Int} {b1 : Bool} {l2 : List Int} {vs : List Value} (h : RdA w [.int n0, .bool b1, .bs l2] vs) : ∃ (A2 : Option Addr) (c2 : Nat), vs = [.int .i64 n0, .bool b1, .slice A2 l2.length c2] := by
  obtain ⟨q0, e0, t0⟩ := h.int_out
  subst e0
  obtain ⟨q1, e1, t1⟩ := t0.bool_out
  subst e1
  obtain ⟨v2, q2, e2, h2, t2⟩ := t1.any_out
  obtain ⟨A2, c2, a2⟩ := h2.bs_sh
  subst e2 a2
  have z := t2.nil_out
  subst z
  exact ⟨A2, c2, rfl⟩
set_option maxRecDepth 100000 in
set_option maxHeartbeats 1000000 in
theorem eq_Message (n0 : Int) (b1 : Bool) (l2 : List Int) (v2 u2 : Value) (w : World) (hv2 : Rd w (.bs l2) v2) (hu2 : Rd w (.bs l2) u2) :
    Calls Try.prog 72 #[.agg #[.int .i64 n0, .bool b1, v2], .agg #[.int .i64 n0, .bool b1, u2]] w (EqR w) := by
  obtain ⟨A2, c2, rfl⟩ := hv2.bs_sh
  obtain ⟨B2, d2, rfl⟩ := hu2.bs_sh
  have K1 := (Blk.new w 107 #[.int .i64 n0, .bool b1, .slice A2 l2.length c2]).alloc (.cells #[.int .i64 n0, .bool b1, .slice B2 l2.length d2] 107)
  have K2 := Blk.new (w.alloc (.cells #[.int .i64 n0, .bool b1, .slice A2 l2.length c2] 107)) 107 #[.int .i64 n0, .bool b1, .slice B2 l2.length d2]
  have B0 := bal (bal (Below.refl w.heap.size w) (.cells #[.int .i64 n0, .bool b1, .slice A2 l2.length c2] 107)) (.cells #[.int .i64 n0, .bool b1, .slice B2 l2.length d2] 107)
  rw [World.size_alloc] at K2
  obtain ⟨W, hW⟩ : ∃ W, (w.alloc (.cells #[.int .i64 n0, .bool b1, .slice A2 l2.length c2] 107)).alloc (.cells #[.int .i64 n0, .bool b1, .slice B2 l2.length d2] 107) = W := ⟨_, rfl⟩
  rw [hW] at K1 K2 B0
  have HW := hidH hW
  have HB := hidH B0
  have HA := hidH K1
  have HC := hidH K2
  have HV2 := hidH (fun (u : World) (h : Below w.heap.size w u) => Rd.below h _ hv2)
  have HU2 := hidH (fun (u : World) (h : Below w.heap.size w u) => Rd.below h _ hu2)
  clear hW K1 K2 B0 hv2 hu2
  go_enter Try.func72, Try.ntmps72
  go_wp2_with fail
  rw [HW.out]
  refine (eqB_rd l2 _ _ _ (HV2.out _ HB.out) (HU2.out _ HB.out)).mono ?_
  rintro e w1 ⟨rfl, hb⟩
  replace HA := hidH (HA.out.below hb)
  replace HC := hidH (HC.out.below hb)
  replace HB := hidH (btr HB.out hb)
  clear hb
  go_wp2
  go_ret
  exact ⟨rfl, HB.out⟩
theorem eqA_Message (y : MessageM) {vs us : List Value} {w : World} (h : RdA w y.vs vs) (k : RdA w y.vs us) : Calls Try.prog 72 #[.agg vs.toArray, .agg us.toArray] w (EqR w) := by
  obtain ⟨A2, c2, rfl⟩ := shape_Message (h)
  obtain ⟨B2, d2, rfl⟩ := shape_Message (k)
  exact eq_Message y.Stream y.Unordered y.Bytes _ _ w h.tl.tl.hd k.tl.tl.hd
theorem cnt_Message (y : MessageM) (h : tot.totL y.vs ≤ 1048576) : vcA y.vs ≤ 1000000000 := by
  simp only [MessageM.vs, vcA, vc, tot.totL, tot, cc] at *
  omega
theorem mem_Message {w : World} {g o : Nat} {y : MessageM} (h : RdL w y.vs g o) : ∃ (A2 : Option Addr) (c2 : Nat), w.cell? ⟨g, o, none⟩ = some (.int .i64 y.Stream) ∧ w.cell? ⟨g, o + 1, none⟩ = some (.bool y.Unordered) ∧ w.cell? ⟨g, o + 2, none⟩ = some (.slice A2 y.Bytes.length c2) ∧ Rd w (.bs y.Bytes) (.slice A2 y.Bytes.length c2) := by
  obtain ⟨u0, p0, t0⟩ := h.get? 0 (.int y.Stream) rfl
  have e0 := t0.int_out
  subst e0
  obtain ⟨u1, p1, t1⟩ := h.get? 1 (.bool y.Unordered) rfl
  have e1 := t1.bool_out
  subst e1
  obtain ⟨u2, p2, t2⟩ := h.get? 2 (.bs y.Bytes) rfl
  obtain ⟨A2, c2, e2⟩ := t2.bs_sh
  subst e2
  rw [Nat.add_zero] at p0
  exact ⟨A2, c2, p0, p1, p2, t2⟩
def st_Message (r : List MessageM) : V := .st r.length (r.flatMap MessageM.vs)
theorem st_Message_sh {w : World} {r : List MessageM} {v : Value} (h : Rd w (st_Message r) v) : ∃ A c, v = .slice A r.length c := Rd.st_sh h
set_option maxRecDepth 100000 in
set_option maxHeartbeats 2000000 in
theorem eqS_Message (r : List MessageM) (v u : Value) (w : World) (hv : Rd w (st_Message r) v) (hu : Rd w (st_Message r) u) :
    Calls Try.prog 51 #[v, u] w (EqR w) := by
  obtain ⟨A, c, rfl⟩ := st_Message_sh hv
  obtain ⟨B, d, rfl⟩ := st_Message_sh hu
  have hm : (r.length : Int) ≤ 9223372036854775807 := Rd.st_len hv
  have HV := hidH (fun (u : World) (h : Below w.heap.size w u) => Rd.below h _ hv)
  have HU := hidH (fun (u : World) (h : Below w.heap.size w u) => Rd.below h _ hu)
  clear hv hu
  go_enter Try.func51, Try.ntmps51
  go_wp2
  go_loopw [5] (fun i wr => ∃ j : Nat, j ≤ r.length ∧ i = .int .i64 j ∧ Below w.heap.size w wr) (fun i _ => r.length - (intOf i).toNat)
  case atStart => exact ⟨0, by omega, rfl, Below.refl _ _⟩
  case round =>
    obtain ⟨j, hj, rfl, hBw⟩ := hrel
    by_cases hlt : j < r.length
    · have hj0 : (0 : Int) ≤ (j : Int) := by omega
      have hj1 : (j : Int) < (r.length : Int) := by omega
      have bd := (Below.refl wr.heap.size wr).drew
      have hBW := btr hBw bd
      obtain ⟨ga, oa, ca, ea, hga, RA⟩ := Rd.row (f := MessageM.vs) (W := 3) (fun _ => rfl) (HV.out _ hBW) hlt
      obtain ⟨gb, ob, cb, eb, hgb, RB⟩ := Rd.row (f := MessageM.vs) (W := 3) (fun _ => rfl) (HU.out _ hBW) hlt
      injection ea with ea1 ea2 ea3
      subst ea1 ea3
      injection eb with eb1 eb2 eb3
      subst eb1 eb3
      obtain ⟨pu0, p0, pt0⟩ := RA 0 (.int r[j].Stream) rfl
      have pe0 := pt0.int_out
      subst pe0
      rw [Nat.add_zero] at p0
      obtain ⟨pu1, p1, pt1⟩ := RA 1 (.bool r[j].Unordered) rfl
      have pe1 := pt1.bool_out
      subst pe1
      obtain ⟨pu2, p2, pt2⟩ := RA 2 (.bs r[j].Bytes) rfl
      obtain ⟨A2, An2, pe2⟩ := pt2.bs_sh
      subst pe2
      obtain ⟨qu0, q0, qt0⟩ := RB 0 (.int r[j].Stream) rfl
      have qe0 := qt0.int_out
      subst qe0
      rw [Nat.add_zero] at q0
      obtain ⟨qu1, q1, qt1⟩ := RB 1 (.bool r[j].Unordered) rfl
      have qe1 := qt1.bool_out
      subst qe1
      obtain ⟨qu2, q2, qt2⟩ := RB 2 (.bs r[j].Bytes) rfl
      obtain ⟨B2, Bn2, qe2⟩ := qt2.bs_sh
      subst qe2
      have HE := hidH (eq_Message r[j].Stream r[j].Unordered r[j].Bytes _ _ wr.drew pt2 qt2)
      have HBW := hidH hBW
      clear RA RB hBW hBw bd pt0 qt0 pt1 qt1 pt2 qt2
      go_wp2
      go_still_tail 8, (by kernel_rfl)
      change wpList _ _ _ _ _ wr.drew
      go_wp2_with fail
      refine HE.out.mono ?_
      rintro e w3 ⟨rfl, b3⟩
      have B3 := hidH (btr HBW.out b3)
      clear HE HBW b3 p0 q0 p1 q1 p2 q2
      go_wp2
      go_roundw
      case rel => exact ⟨j + 1, by omega, by go_num, B3.out⟩
      case measure => simp [intOf]; omega
    · have HBW := hidH hBw
      have hd : ¬ ((j : Int) < (r.length : Int)) := by omega
      clear hBw hlt hj
      go_wp2
      go_ret
      exact ⟨rfl, HBW.out⟩
set_option maxRecDepth 100000 in
set_option maxHeartbeats 2000000 in
theorem markS_Message (r : List MessageM) (S : Fp) (v : Value) (k : Nat) (w : World) (h : Ow w (st_Message r) S v) (hk : k + cc (st_Message r) ≤ 1000000000000) :
    Calls Try.prog 52 #[v, .int .i64 k] w (MkR (st_Message r) S v k w) := by
  unfold st_Message at h hk ⊢
  unfold Ow at h
  obtain ⟨A, c, rfl, hc, h⟩ := h
  have hm := hc.len
  unfold MkR
  rcases h with ⟨h0, _⟩ | ⟨g, o, rfl, hg, h⟩
  · obtain rfl := List.eq_nil_of_length_eq_zero h0
    have HC := hidH hc
    clear h0 hc
    go_enter Try.func52, Try.ntmps52
    go_wp2
    go_loopw [1, 5] (fun v i wr => v = .int .i64 k ∧ i = .int .i64 0 ∧ wr = w) (fun _ _ _ => 0)
    case atStart => exact ⟨rfl, rfl, rfl⟩
    case round =>
      obtain ⟨rfl, rfl, rfl⟩ := hrel
      go_wp2
      go_ret
      refine ⟨ret_int (by simp [cc, cc.ccL]), Chg.refl _ _, ?_⟩
      simp only [mkc]
      unfold Ow
      exact ⟨A, c, rfl, HC.out, .inl ⟨rfl, rfl⟩⟩
  · have M0 := hidH (MkSt.start (k := k) h hg)
    have HC := hidH hc
    have HKL := hidH (kRow_le k MessageM.vs r)
    have HK := hidH hk
    clear hc h
    go_enter Try.func52, Try.ntmps52
    go_wp2
    go_loopw [1, 5] (fun v i wr => ∃ j : Nat, j ≤ r.length ∧ v = .int .i64 ((kRow k MessageM.vs r j : Nat) : Int) ∧ i = .int .i64 j ∧ MkSt w S g o k ((r.take j).flatMap MessageM.vs) ((r.drop j).flatMap MessageM.vs) wr) (fun _ i _ => r.length - (intOf i).toNat)
    case atStart => exact ⟨0, Nat.zero_le _, by rw [kRow_zero], rfl, M0.out⟩
    case round =>
      obtain ⟨j, hj, rfl, rfl, hM⟩ := hrel
      by_cases hlt : j < r.length
      · have hj0 : (0 : Int) ≤ (j : Int) := by omega
        have hj1 : (j : Int) < (r.length : Int) := by omega
        have hkl := HKL.out (j + 1)
        have hks := kRow_succ k MessageM.vs r j hlt
        have hk2 := HK.out
        have hrow : cc.ccL (MessageM.vs r[j]) = 1 + 1 + cc (.bs r[j].Bytes) := by simp only [MessageM.vs, cc.ccL, cc] <;> omega
        have hp : ((r.take j).flatMap MessageM.vs).length = j * 3 := take_len (f := MessageM.vs) (fun _ => rfl) r j (by omega)
        have he := flat_take MessageM.vs r j hlt
        rw [flat_drop MessageM.vs r j hlt] at hM
        replace hM : MkSt w S g o k ((r.take j).flatMap MessageM.vs) ((.int r[j].Stream) :: (.bool r[j].Unordered) :: (.bs r[j].Bytes) :: (r.drop (j + 1)).flatMap MessageM.vs) wr := hM
        obtain ⟨y, hy⟩ : ∃ y, kRow k MessageM.vs r j = y := ⟨_, rfl⟩
        rw [hy] at hks ⊢
        unfold kRow at hy
        have hyb : (y : Int) + 1 + 1 + (cc (.bs r[j].Bytes) : Int) + 0 ≤ 1000000000000 := by omega
        obtain ⟨pre, hpre⟩ : ∃ pre, (r.take j).flatMap MessageM.vs = pre := ⟨_, rfl⟩
        obtain ⟨post, hpost⟩ : ∃ post, (r.drop (j + 1)).flatMap MessageM.vs = post := ⟨_, rfl⟩
        rw [hpre] at hM hy hp he
        rw [hpost] at hM
        have HPO := hidH hpost
        have HKS := hidH hks
        have HE := hidH he
        have HY := hidH hy
        have HP := hidH hp
        have HRO := hidH hrow
        have HYB := hidH hyb
        clear hpost hks he hy hp hpre hrow hkl hk2 hyb
        have hyI : (y : Int) ≤ 1000000000000 := by have := HYB.out; omega
        obtain ⟨⟨x0, p0⟩, f0, hM⟩ := hM.num (o + j * 3) (by rw [HP.out]) ((y : Int)) (by rw [HY.out])
        obtain ⟨⟨x1, p1⟩, f1, hM⟩ := hM.boo (o + j * 3 + 1) (by simp only [List.length_append, List.length_cons, List.length_nil, HP.out]; omega) ((y : Int) + 1) (by rw [← HY.out]; simp only [ccL_append, cc.ccL, cc]; omega)
        obtain ⟨u2, S2, p2, ho2, hN⟩ := hM.at_ (o + j * 3 + 2) (by simp only [List.length_append, List.length_cons, List.length_nil, HP.out]; omega) (y + 2) (by rw [← HY.out]; simp only [ccL_append, cc.ccL, cc]; omega)
        have HO := hidH ho2
        have HN := hidH hN
        clear ho2 hN hM
        go_wp2_with fail
        rw [show ((y : Int) + 1 + 1) = ((y + 2 : Nat) : Int) by omega]
        refine (markB_ow r[j].Bytes S2 u2 (y + 2) _ HO.out (by have := HYB.out; omega)).mono ?_
        rintro e v2 ⟨rfl, hc2, ho2⟩
        have hM := HN.out _ hc2 ho2
        clear HO HN hc2 ho2 p2 p0 f0 p1 f1
        have hb2 : (((y + 2 + cc (.bs r[j].Bytes) : Nat) : Int)) ≤ 1000000000000 := by have := HYB.out; omega
        rw [show ((pre ++ [.int r[j].Stream]) ++ [.bool r[j].Unordered]) ++ [.bs r[j].Bytes] = (r.take (j + 1)).flatMap MessageM.vs from (by rw [HE.out]; simp [MessageM.vs])] at hM
        rw [← HPO.out] at hM
        have HM := hidH hM
        clear hM
        go_wp2
        go_roundw
        case rel => exact ⟨j + 1, by omega, by rw [HKS.out, HRO.out]; exact congrArg (Value.int .i64) (by omega), by go_num, HM.out⟩
        case measure => simp [intOf]; omega
      · obtain rfl : j = r.length := by omega
        rw [List.take_length, List.drop_length] at hM
        have HM := hidH (MkSt.done hM HC.out)
        have hka := kRow_all k MessageM.vs r
        clear hM hlt hj
        go_wp2
        go_ret
        exact ⟨ret_int (by rw [hka]), HM.out.1, HM.out.2⟩
set_option maxRecDepth 100000 in
set_option maxHeartbeats 2000000 in
theorem heldS_Message (r : List MessageM) (v : Value) (k : Nat) (w : World) (h : Rd w (mkc k (st_Message r)) v) (hk : k + cc (st_Message r) ≤ 1000000000000) :
    Calls Try.prog 54 #[v, .int .i64 k] w (HeR (st_Message r) k w) := by
  unfold st_Message at h hk ⊢
  have h2 := h
  simp only [mkc] at h2
  have hm : (r.length : Int) ≤ 9223372036854775807 := Rd.st_len h2
  obtain ⟨A, c, rfl⟩ := h2.st_sh
  clear h2
  have HV := hidH (fun (u : World) (h3 : Below w.heap.size w u) => Rd.below h3 _ h)
  have HKL := hidH (kRow_le k MessageM.vs r)
  have HK := hidH hk
  unfold HeR
  clear h
  go_enter Try.func54, Try.ntmps54
  go_wp2
  go_loopw [1, 5] (fun v i wr => ∃ j : Nat, j ≤ r.length ∧ v = .int .i64 ((kRow k MessageM.vs r j : Nat) : Int) ∧ i = .int .i64 j ∧ Below w.heap.size w wr) (fun _ i _ => r.length - (intOf i).toNat)
  case atStart => exact ⟨0, Nat.zero_le _, by rw [kRow_zero], rfl, Below.refl _ _⟩
  case round =>
    obtain ⟨j, hj, rfl, rfl, hB⟩ := hrel
    by_cases hlt : j < r.length
    · have hj0 : (0 : Int) ≤ (j : Int) := by omega
      have hj1 : (j : Int) < (r.length : Int) := by omega
      have hkl := HKL.out (j + 1)
      have hks := kRow_succ k MessageM.vs r j hlt
      have hk2 := HK.out
      have hrow : cc.ccL (MessageM.vs r[j]) = 1 + 1 + cc (.bs r[j].Bytes) := by simp only [MessageM.vs, cc.ccL, cc] <;> omega
      obtain ⟨g, o, ca, ea, hg, RA⟩ := Rd.rowmk (f := MessageM.vs) (W := 3) (fun _ => rfl) (HV.out _ hB) hlt
      injection ea with ea1 ea2 ea3
      subst ea1 ea3
      obtain ⟨y, hy⟩ : ∃ y, kRow k MessageM.vs r j = y := ⟨_, rfl⟩
      rw [hy] at hks ⊢
      unfold kRow at hy
      rw [hy] at RA
      obtain ⟨pu0, p0, pt0⟩ := RA 0 (.int ((y : Nat) : Int)) rfl
      have pe0 := pt0.int_out
      subst pe0
      clear pt0
      rw [Nat.add_zero] at p0
      obtain ⟨pu1, p1, pt1⟩ := RA 1 (.bool (decide (((y + 1 : Nat) : Int) % 3 = 0))) rfl
      have pe1 := pt1.bool_out
      subst pe1
      clear pt1
      rw [show ((y + 1 : Nat) : Int) = (y : Int) + 1 by omega] at p1
      rw [dec3] at p1
      have fb1 := bne3 ((y : Int) + 1)
      obtain ⟨pu2, p2, pt2⟩ := RA 2 (mkc (y + 2) (.bs r[j].Bytes)) rfl
      have HV2 := hidH (fun (u : World) (h3 : Below wr.heap.size wr u) => Rd.below h3 _ pt2)
      clear pt2
      have hyb : (y : Int) + 1 + 1 + (cc (.bs r[j].Bytes) : Int) + 0 ≤ 1000000000000 := by omega
      have HYB := hidH hyb
      have hyI : (y : Int) ≤ 1000000000000 := by omega
      have HKS := hidH hks
      have HRO := hidH hrow
      have HBW := hidH hB
      clear RA hB hks hrow hkl hk2 hy hyb
      go_wp2_with fail
      rw [show ((y : Int) + 1 + 1) = ((y + 2 : Nat) : Int) by omega]
      refine (heldB_rd r[j].Bytes _ (y + 2) _ (HV2.out _ (Below.refl _ _)) (by have := HYB.out; omega)).mono ?_
      rintro e v2 ⟨rfl, hb⟩
      have HB := hidH hb
      replace HBW := hidH (btr HBW.out hb)
      replace hg := Nat.lt_of_lt_of_le hg hb.size
      clear hb
      have hpos2 : ¬ ((((y + 2 + cc (.bs r[j].Bytes) : Nat) : Int)) < 0) := by omega
      have hbd2 : (((y + 2 + cc (.bs r[j].Bytes) : Nat) : Int)) ≤ 1000000000000 := by have := HYB.out; omega
      go_wp2
      go_roundw
      case rel => exact ⟨j + 1, by omega, by rw [HKS.out, HRO.out]; exact congrArg (Value.int .i64) (by omega), by go_num, HBW.out⟩
      case measure => simp [intOf]; omega
    · obtain rfl : j = r.length := by omega
      have HBW := hidH hB
      have hka := kRow_all k MessageM.vs r
      clear hB hlt hj
      go_wp2
      go_ret
      exact ⟨ret_int (by rw [hka]), HBW.out⟩
theorem ccS_Message (r : List MessageM) : cc.ccL (r.flatMap MessageM.vs) ≤ 4 * (r.length + tot.totL (r.flatMap MessageM.vs)) := by
  induction r with
  | nil => simp [cc.ccL]
  | cons x xs ih =>
    rw [List.flatMap_cons, ccL_append, totL_append, List.length_cons]
    have : cc.ccL (MessageM.vs x) ≤ 4 * (1 + tot.totL (MessageM.vs x)) := by
      simp only [MessageM.vs, cc.ccL, cc, tot.totL, tot]
      omega
    omega
structure MessageResultM where
  Code : Int
  Message_Stream : Int
  Message_Unordered : Bool
  Message_Bytes : List Int
def MessageResultM.vs (x : MessageResultM) : List V := [.int x.Code, .int x.Message_Stream, .bool x.Message_Unordered, .bs x.Message_Bytes]
theorem shape_MessageResult {w : World} {n0 : Int} {n1 : Int} {b2 : Bool} {l3 : List Int} {vs : List Value} (h : RdA w [.int n0, .int n1, .bool b2, .bs l3] vs) : ∃ (A3 : Option Addr) (c3 : Nat), vs = [.int .i64 n0, .int .i64 n1, .bool b2, .slice A3 l3.length c3] := by
  obtain ⟨q0, e0, t0⟩ := h.int_out
  subst e0
  obtain ⟨q1, e1, t1⟩ := t0.int_out
  subst e1
  obtain ⟨q2, e2, t2⟩ := t1.bool_out
  subst e2
  obtain ⟨v3, q3, e3, h3, t3⟩ := t2.any_out
  obtain ⟨A3, c3, a3⟩ := h3.bs_sh
  subst e3 a3
  have z := t3.nil_out
  subst z
  exact ⟨A3, c3, rfl⟩
theorem cnt_MessageResult (y : MessageResultM) (h : tot.totL y.vs ≤ 1048576) : vcA y.vs ≤ 1000000000 := by
  simp only [MessageResultM.vs, vcA, vc, tot.totL, tot, cc] at *
  omega
theorem mem_MessageResult {w : World} {g o : Nat} {y : MessageResultM} (h : RdL w y.vs g o) : ∃ (A3 : Option Addr) (c3 : Nat), w.cell? ⟨g, o, none⟩ = some (.int .i64 y.Code) ∧ w.cell? ⟨g, o + 1, none⟩ = some (.int .i64 y.Message_Stream) ∧ w.cell? ⟨g, o + 2, none⟩ = some (.bool y.Message_Unordered) ∧ w.cell? ⟨g, o + 3, none⟩ = some (.slice A3 y.Message_Bytes.length c3) ∧ Rd w (.bs y.Message_Bytes) (.slice A3 y.Message_Bytes.length c3) := by
  obtain ⟨u0, p0, t0⟩ := h.get? 0 (.int y.Code) rfl
  have e0 := t0.int_out
  subst e0
  obtain ⟨u1, p1, t1⟩ := h.get? 1 (.int y.Message_Stream) rfl
  have e1 := t1.int_out
  subst e1
  obtain ⟨u2, p2, t2⟩ := h.get? 2 (.bool y.Message_Unordered) rfl
  have e2 := t2.bool_out
  subst e2
  obtain ⟨u3, p3, t3⟩ := h.get? 3 (.bs y.Message_Bytes) rfl
  obtain ⟨A3, c3, e3⟩ := t3.bs_sh
  subst e3
  rw [Nat.add_zero] at p0
  exact ⟨A3, c3, p0, p1, p2, p3, t3⟩
end Go.Proofs.Ytncnibkojneejaa
