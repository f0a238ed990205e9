import Derived.Test.YthljdikcpdokdaaNa2
import Derived.Test.YthljdikcpdokdaaNa5

/- Sack, Asconf and their results (WRITTEN BY tools/kinds.py) -/
namespace Go.Proofs.Ythljdikcpdokdaa
open Go.RowKit Go.Deep Go.ChangeShapes Go.WideShapes Go.ChangeAt

structure GapM where
  From : Int
  To : Int
def GapM.vs (x : GapM) : List V := [.int x.From, .int x.To]
theorem shape_Gap {w : World} {n0 : Int} {n1 : Int} {vs : List Value} (h : RdA w [.int n0, .int n1] vs) : vs = [.int .i64 n0, .int .i64 n1] := by
  obtain ⟨q0, e0, t0⟩ := h.int_out
  subst e0
  obtain ⟨q1, e1, t1⟩ := t0.int_out
  subst e1
  have z := t1.nil_out
  subst z
  exact rfl
set_option maxRecDepth 100000 in
set_option maxHeartbeats 1000000 in
theorem eq_Gap (n0 : Int) (n1 : Int) (w : World)   :
    Calls Try.prog 171 #[.agg #[.int .i64 n0, .int .i64 n1], .agg #[.int .i64 n0, .int .i64 n1]] w (EqR w) := by
  go_enter Try.func171, Try.ntmps171
  go_wp2
  go_ret
  exact ⟨rfl, bal (bal (Below.refl _ _) _) _⟩
set_option maxRecDepth 100000 in
set_option maxHeartbeats 1000000 in
theorem to_Gap (n0 : Int) (n1 : Int) (w : World)  :
    Calls Try.prog 170 #[.agg #[.int .i64 n0, .int .i64 n1]] w (Res w [.int n0, .int n1]) := by
  go_enter Try.func170, Try.ntmps170
  go_wp2
  exact bodyPost_ret (v := .agg #[.int .i64 n0, .int .i64 n1]) (by simp [results, Try.results170, go_sem]) rfl ⟨_, rfl, (OwN.int n0 (OwN.int n1 (OwN.nil (B := w.heap.size) (C := w.heap.size) (by simp only [World.size_alloc]; omega)))).mono (Nat.le_refl _) (by simp only [World.size_alloc]; omega) (Nat.le_refl _), bal (bal (bal (Below.refl _ _) _) _) _⟩
theorem eqA_Gap (y : GapM) {vs us : List Value} {w : World} (h : RdA w y.vs vs) (k : RdA w y.vs us) : Calls Try.prog 171 #[.agg vs.toArray, .agg us.toArray] w (EqR w) := by
  obtain rfl := shape_Gap (h)
  obtain rfl := shape_Gap (k)
  exact eq_Gap y.From y.To  w  
theorem toA_Gap (y : GapM) {vs : List Value} {w : World} (h : RdA w y.vs vs) : Calls Try.prog 170 #[.agg vs.toArray] w (Res w y.vs) := by
  obtain rfl := shape_Gap (h)
  exact to_Gap y.From y.To  w 
theorem mem_Gap {w : World} {g o : Nat} {y : GapM} (h : RdL w y.vs g o) : w.cell? ⟨g, o, none⟩ = some (.int .i64 y.From) ∧ w.cell? ⟨g, o + 1, none⟩ = some (.int .i64 y.To) := by
  obtain ⟨u0, p0, t0⟩ := h.get? 0 (.int y.From) rfl
  have e0 := t0.int_out
  subst e0
  obtain ⟨u1, p1, t1⟩ := h.get? 1 (.int y.To) rfl
  have e1 := t1.int_out
  subst e1
  rw [Nat.add_zero] at p0
  exact ⟨p0, p1⟩
section
variable {H : Type} {enc : TypeId × Value → H} {w : World} {base : Nat} {spare : Nat → Bool} {held : Bool}
theorem cells_Gap : Try.prog.cellsOf 204 = 2 := by kernel_rfl
theorem cells_Gap_0 : Try.prog.cellsOf 2 = 1 := by kernel_rfl
theorem cells_Gap_1 : Try.prog.cellsOf 2 = 1 := by kernel_rfl
set_option maxHeartbeats 1000000 in
theorem open_Gap {n : Nat} {cs : List Value} {x : DataW H × List MemPlace} (h : DataW.trod enc Try.prog w base spare held n 204 cs = some x) : ∃ y : GapM, RdA w y.vs cs ∧ WfA y.vs := by
  obtain ⟨xs, m, _, _, hl, hlen, hf⟩ := DataW.trod_struct Try.underlying204 h
  rw [cells_Gap] at hl
  have hlen2 : xs.length = 2 := hlen
  obtain ⟨v0, v1, rfl⟩ := list_2 hl
  obtain ⟨y0, y1, rfl⟩ := list_2 hlen2
  have t0 : DataW.trod enc Try.prog w base spare held m 2 (([v0, v1].drop 0).take (Try.prog.cellsOf 2)) = _ := hf 0 _ rfl
  rw [cells_Gap_0] at t0
  replace t0 : DataW.trod enc Try.prog w base spare held m 2 [v0] = some y0 := t0
  have t1 : DataW.trod enc Try.prog w base spare held m 2 (([v0, v1].drop 1).take (Try.prog.cellsOf 2)) = _ := hf 1 _ rfl
  rw [cells_Gap_1] at t1
  replace t1 : DataW.trod enc Try.prog w base spare held m 2 [v1] = some y1 := t1
  obtain ⟨n0, e0, _, w0⟩ := DataW.trod_int Try.underlying2 t0
  simp only [List.cons.injEq, and_true] at e0
  subst e0
  obtain ⟨n1, e1, _, w1⟩ := DataW.trod_int Try.underlying2 t1
  simp only [List.cons.injEq, and_true] at e1
  subst e1
  exact ⟨⟨n0, n1⟩, RdA.int_mk (RdA.int_mk (RdA.nil_mk)), ⟨wf_int w0, ⟨wf_int w1, trivial⟩⟩⟩
theorem opened_Gap {cs0 : Array Value} {d : DataW H} {pl : List MemPlace} (h : DataW.Trod enc Try.prog w base spare held 204 (.agg cs0) d pl) : ∃ (y : GapM) , cs0 = #[.int .i64 y.From, .int .i64 y.To] ∧ RdA w y.vs [.int .i64 y.From, .int .i64 y.To] ∧ WfA y.vs := by
  obtain ⟨fuel, hf⟩ := h
  obtain ⟨y, h1, h2⟩ := open_Gap hf
  have h3 := h1
  obtain e := shape_Gap h3
  rw [e] at h1
  refine ⟨y, ?_, h1, h2⟩
  simp only [Value.cells] at e
  exact Array.ext' (by simpa using e)
end
def st_Gap (r : List GapM) : V := .st r.length (r.flatMap GapM.vs)
theorem st_Gap_sh {w : World} {r : List GapM} {v : Value} (h : Rd w (st_Gap r) v) : ∃ A c, v = .slice A r.length c := Rd.st_sh h
set_option maxRecDepth 100000 in
set_option maxHeartbeats 2000000 in
theorem eqS_Gap (r : List GapM) (v u : Value) (w : World) (hv : Rd w (st_Gap r) v) (hu : Rd w (st_Gap r) u) :
    Calls Try.prog 129 #[v, u] w (EqR w) := by
  obtain ⟨A, c, rfl⟩ := st_Gap_sh hv
  obtain ⟨B, d, rfl⟩ := st_Gap_sh hu
  have hm : (r.length : Int) ≤ 9223372036854775807 := Rd.st_len hv
  have HV := hidH (fun (u : World) (h : Below w.heap.size w u) => Rd.below h _ hv)
  have HU := hidH (fun (u : World) (h : Below w.heap.size w u) => Rd.below h _ hu)
  clear hv hu
  go_enter Try.func129, Try.ntmps129
  go_wp2
  go_loopw [5] (fun i wr => ∃ j : Nat, j ≤ r.length ∧ i = .int .i64 j ∧ Below w.heap.size w wr) (fun i _ => r.length - (intOf i).toNat)
  case atStart => exact ⟨0, by omega, rfl, Below.refl _ _⟩
  case round =>
    obtain ⟨j, hj, rfl, hBw⟩ := hrel
    by_cases hlt : j < r.length
    · have hj0 : (0 : Int) ≤ (j : Int) := by omega
      have hj1 : (j : Int) < (r.length : Int) := by omega
      have bd := (Below.refl wr.heap.size wr).drew
      have hBW := btr hBw bd
      obtain ⟨ga, oa, ca, ea, hga, RA⟩ := Rd.row (f := GapM.vs) (W := 2) (fun _ => rfl) (HV.out _ hBW) hlt
      obtain ⟨gb, ob, cb, eb, hgb, RB⟩ := Rd.row (f := GapM.vs) (W := 2) (fun _ => rfl) (HU.out _ hBW) hlt
      injection ea with ea1 ea2 ea3
      subst ea1 ea3
      injection eb with eb1 eb2 eb3
      subst eb1 eb3
      obtain ⟨pu0, p0, pt0⟩ := RA 0 (.int r[j].From) rfl
      have pe0 := pt0.int_out
      subst pe0
      rw [Nat.add_zero] at p0
      obtain ⟨pu1, p1, pt1⟩ := RA 1 (.int r[j].To) rfl
      have pe1 := pt1.int_out
      subst pe1
      obtain ⟨qu0, q0, qt0⟩ := RB 0 (.int r[j].From) rfl
      have qe0 := qt0.int_out
      subst qe0
      rw [Nat.add_zero] at q0
      obtain ⟨qu1, q1, qt1⟩ := RB 1 (.int r[j].To) rfl
      have qe1 := qt1.int_out
      subst qe1
      have HE := hidH (eq_Gap r[j].From r[j].To wr.drew  )
      have HBW := hidH hBW
      clear RA RB hBW hBw bd pt0 qt0 pt1 qt1
      go_wp2
      go_still_tail 8, (by kernel_rfl)
      change wpList _ _ _ _ _ wr.drew
      go_wp2_with fail
      refine HE.out.mono ?_
      rintro e w3 ⟨rfl, b3⟩
      have B3 := hidH (btr HBW.out b3)
      clear HE HBW b3 p0 q0 p1 q1
      go_wp2
      go_roundw
      case rel => exact ⟨j + 1, by omega, by go_num, B3.out⟩
      case measure => simp [intOf]; omega
    · have HBW := hidH hBw
      have hd : ¬ ((j : Int) < (r.length : Int)) := by omega
      clear hBw hlt hj
      go_wp2
      go_ret
      exact ⟨rfl, HBW.out⟩
set_option maxRecDepth 100000 in
set_option maxHeartbeats 2000000 in
theorem markS_Gap (r : List GapM) (S : Fp) (v : Value) (k : Nat) (w : World) (h : Ow w (st_Gap r) S v) (hk : k + cc (st_Gap r) ≤ 1000000000000) :
    Calls Try.prog 130 #[v, .int .i64 k] w (MkR (st_Gap r) S v k w) := by
  unfold st_Gap at h hk ⊢
  unfold Ow at h
  obtain ⟨A, c, rfl, hc, h⟩ := h
  have hm := hc.len
  unfold MkR
  rcases h with ⟨h0, _⟩ | ⟨g, o, rfl, hg, h⟩
  · obtain rfl := List.eq_nil_of_length_eq_zero h0
    have HC := hidH hc
    clear h0 hc
    go_enter Try.func130, Try.ntmps130
    go_wp2
    go_loopw [1, 5] (fun v i wr => v = .int .i64 k ∧ i = .int .i64 0 ∧ wr = w) (fun _ _ _ => 0)
    case atStart => exact ⟨rfl, rfl, rfl⟩
    case round =>
      obtain ⟨rfl, rfl, rfl⟩ := hrel
      go_wp2
      go_ret
      refine ⟨ret_int (by simp [cc, cc.ccL]), Chg.refl _ _, ?_⟩
      simp only [mkc]
      unfold Ow
      exact ⟨A, c, rfl, HC.out, .inl ⟨rfl, rfl⟩⟩
  · have M0 := hidH (MkSt.start (k := k) h hg)
    have HC := hidH hc
    have HKL := hidH (kRow_le k GapM.vs r)
    have HK := hidH hk
    clear hc h
    go_enter Try.func130, Try.ntmps130
    go_wp2
    go_loopw [1, 5] (fun v i wr => ∃ j : Nat, j ≤ r.length ∧ v = .int .i64 ((kRow k GapM.vs r j : Nat) : Int) ∧ i = .int .i64 j ∧ MkSt w S g o k ((r.take j).flatMap GapM.vs) ((r.drop j).flatMap GapM.vs) wr) (fun _ i _ => r.length - (intOf i).toNat)
    case atStart => exact ⟨0, Nat.zero_le _, by rw [kRow_zero], rfl, M0.out⟩
    case round =>
      obtain ⟨j, hj, rfl, rfl, hM⟩ := hrel
      by_cases hlt : j < r.length
      · have hj0 : (0 : Int) ≤ (j : Int) := by omega
        have hj1 : (j : Int) < (r.length : Int) := by omega
        have hkl := HKL.out (j + 1)
        have hks := kRow_succ k GapM.vs r j hlt
        have hk2 := HK.out
        have hrow : cc.ccL (GapM.vs r[j]) = 1 + 1 := by simp only [GapM.vs, cc.ccL, cc] <;> omega
        have hp : ((r.take j).flatMap GapM.vs).length = j * 2 := take_len (f := GapM.vs) (fun _ => rfl) r j (by omega)
        have he := flat_take GapM.vs r j hlt
        rw [flat_drop GapM.vs r j hlt] at hM
        replace hM : MkSt w S g o k ((r.take j).flatMap GapM.vs) ((.int r[j].From) :: (.int r[j].To) :: (r.drop (j + 1)).flatMap GapM.vs) wr := hM
        obtain ⟨y, hy⟩ : ∃ y, kRow k GapM.vs r j = y := ⟨_, rfl⟩
        rw [hy] at hks ⊢
        unfold kRow at hy
        have hyb : (y : Int) + 1 + 1 + 0 ≤ 1000000000000 := by omega
        obtain ⟨pre, hpre⟩ : ∃ pre, (r.take j).flatMap GapM.vs = pre := ⟨_, rfl⟩
        obtain ⟨post, hpost⟩ : ∃ post, (r.drop (j + 1)).flatMap GapM.vs = post := ⟨_, rfl⟩
        rw [hpre] at hM hy hp he
        rw [hpost] at hM
        have HPO := hidH hpost
        have HKS := hidH hks
        have HE := hidH he
        have HY := hidH hy
        have HP := hidH hp
        have HRO := hidH hrow
        have HYB := hidH hyb
        clear hpost hks he hy hp hpre hrow hkl hk2 hyb
        have hyI : (y : Int) ≤ 1000000000000 := by have := HYB.out; omega
        obtain ⟨⟨x0, p0⟩, f0, hM⟩ := hM.num (o + j * 2) (by rw [HP.out]) ((y : Int)) (by rw [HY.out])
        obtain ⟨⟨x1, p1⟩, f1, hM⟩ := hM.num (o + j * 2 + 1) (by simp only [List.length_append, List.length_cons, List.length_nil, HP.out]; omega) ((y : Int) + 1) (by rw [← HY.out]; simp only [ccL_append, cc.ccL, cc]; omega)
        rw [show (pre ++ [.int r[j].From]) ++ [.int r[j].To] = (r.take (j + 1)).flatMap GapM.vs from (by rw [HE.out]; simp [GapM.vs])] at hM
        rw [← HPO.out] at hM
        have HM := hidH hM
        clear hM
        go_wp2
        go_roundw
        case rel => exact ⟨j + 1, by omega, by rw [HKS.out, HRO.out]; exact congrArg (Value.int .i64) (by omega), by go_num, HM.out⟩
        case measure => simp [intOf]; omega
      · obtain rfl : j = r.length := by omega
        rw [List.take_length, List.drop_length] at hM
        have HM := hidH (MkSt.done hM HC.out)
        have hka := kRow_all k GapM.vs r
        clear hM hlt hj
        go_wp2
        go_ret
        exact ⟨ret_int (by rw [hka]), HM.out.1, HM.out.2⟩
set_option maxRecDepth 100000 in
set_option maxHeartbeats 2000000 in
theorem szS_Gap (r : List GapM) (v : Value) (left : Int) (w : World) (hv : Rd w (st_Gap r) v) (h0 : 0 ≤ left) (h1 : left ≤ 1048576) :
    Calls Try.prog 127 #[v, .int .i64 left] w (SzR left (tot (st_Gap r)) w) := by
  have hn : (r.length : Int) ≤ 9223372036854775807 := Rd.st_len hv
  obtain ⟨A, c, rfl⟩ := st_Gap_sh hv
  have ht : tot (st_Gap r) = r.length := by
    rw [st_Gap, ← tRow_all]
    have : ∀ j, j ≤ r.length → tRow GapM.vs r j = 0 := by
      intro j hj
      induction j with
      | zero => exact tRow_zero _ _
      | succ j ih => rw [tRow_succ _ _ _ (by omega), ih (by omega)]; rfl
    rw [this _ (Nat.le_refl _)]; omega
  rw [ht]
  clear ht hv
  by_cases h : left - (r.length : Int) < 0
  · go_enter Try.func127, Try.ntmps127
    go_wp2
    go_ret
    exact ⟨-1, rfl, ⟨.inl rfl, by omega, fun h => by omega⟩, Below.refl _ _⟩
  · have h2 : 0 ≤ left - (r.length : Int) := by omega
    clear h
    go_enter Try.func127, Try.ntmps127
    go_wp2
    go_ret
    exact ⟨_, rfl, ⟨.inr h2, by omega, fun _ => by omega⟩, Below.refl _ _⟩
theorem info_Gap : (Try.prog.info? 36).map (fun i => (i.zero, i.size, i.bytes)) = some (some (.agg #[.int .i64 0, .int .i64 0]), 2, 16) := by kernel_rfl
set_option maxRecDepth 100000 in
set_option maxHeartbeats 2000000 in
theorem toS_Gap (r : List GapM) (v : Value) (w : World) (hv : Rd w (st_Gap r) v) (hm : tot (st_Gap r) ≤ 1048576) :
    Calls Try.prog 128 #[v] w (ResV w (st_Gap r)) := by
  obtain ⟨A, c, rfl⟩ := st_Gap_sh hv
  have HT := hidH hm
  have hnn : r.length ≤ 1048576 := by rw [st_Gap, ← tRow_all] at hm; omega
  have hnI : (r.length : Int) ≤ 1048576 := by omega
  obtain ⟨i0, hi, hz0, hz1, hz2⟩ := info_parts info_Gap
  have HI := hidH (And.intro hi (And.intro hz0 (And.intro hz1 hz2)))
  have HV := hidH (fun (u : World) (h3 : Below w.heap.size w u) => Rd.below h3 _ hv)
  clear hi hz0 hz1 hz2 hv hm
  go_enter Try.func128, Try.ntmps128
  go_wp2_with (refine wpList_make_full _ rfl _ _ _ rfl w.heap.size 36 i0 _ 2 Try.underlying29 HI.out.1 HI.out.2.1 HI.out.2.2.1 .i64 .i64 _ _ r.length rfl rfl rfl rfl (by rw [HI.out.2.2.2]; omega) (by unfold maxLen; omega) (Nat.le_refl _) ?_)
  intro w1 o1 g1
  have F0 := hidH (fillL0 o1 ((Below.refl w.heap.size w).grown g1 (Nat.le_refl _) (fun k hk => by cases hk)) (Nat.le_refl _))
  clear o1 g1
  go_wp2
  go_loopw [4] (fun i wr => ∃ j : Nat, j ≤ r.length ∧ i = .int .i64 j ∧ FillL w w.heap.size (r.length * 2) ((r.take j).flatMap GapM.vs) wr) (fun i _ => r.length - (intOf i).toNat)
  case atStart => exact ⟨0, by omega, rfl, F0.out⟩
  case round =>
    obtain ⟨j, hj, rfl, hF⟩ := hrel
    by_cases hlt : j < r.length
    · have hj0 : (0 : Int) ≤ (j : Int) := by omega
      have hj1 : (j : Int) < (r.length : Int) := by omega
      obtain ⟨g, o, ca, ea, hg, RA⟩ := Rd.row (f := GapM.vs) (W := 2) (fun _ => rfl) (HV.out _ hF.old) hlt
      injection ea with ea1 ea2 ea3
      subst ea1 ea3
      obtain ⟨pu0, p0, pt0⟩ := RA 0 (.int r[j].From) rfl
      have pe0 := pt0.int_out
      subst pe0
      rw [Nat.add_zero] at p0
      obtain ⟨pu1, p1, pt1⟩ := RA 1 (.int r[j].To) rfl
      have pe1 := pt1.int_out
      subst pe1
      have HS := hidH (to_Gap r[j].From r[j].To wr )
      have hp : ((r.take j).flatMap GapM.vs).length = j * 2 := take_len (f := GapM.vs) (fun _ => rfl) r j (by omega)
      have HP := hidH hp
      have HE := hidH (flat_take GapM.vs r j hlt)
      have HF := hidH hF
      clear RA hF hp pt0 pt1
      go_wp2_with fail
      refine HS.out.mono ?_
      rintro e w3 ⟨vs, rfl, O3, b3⟩
      obtain rfl := shape_Gap O3.rd
      have hgl := HF.out.lt
      obtain ⟨m0, n0⟩ := HF.out.room (j * 2) (by omega)
      replace n0 := (b3.cell (p := ⟨w.heap.size, _, none⟩) hgl).trans n0
      have f0 := (b3.frozen (p := ⟨w.heap.size, j * 2, none⟩) hgl).trans (HF.out.fz _)
      obtain ⟨m1, n1⟩ := HF.out.room (j * 2 + 1) (by omega)
      replace n1 := (b3.cell (p := ⟨w.heap.size, _, none⟩) hgl).trans n1
      have f1 := (b3.frozen (p := ⟨w.heap.size, j * 2 + 1, none⟩) hgl).trans (HF.out.fz _)
      have ST := hidH (HF.out.step b3 O3 (by rw [HP.out]; simp only [List.length_cons, List.length_nil]; omega) rfl (j * 2) HP.out.symm)
      clear HS O3 b3 HF hgl p0 p1
      go_wp2
      go_roundw
      case rel => exact ⟨j + 1, by omega, by go_num, by rw [HE.out]; exact ST.out⟩
      case measure => simp [intOf]; omega
    · obtain rfl : j = r.length := by omega
      rw [List.take_length] at hF
      have HD := hidH (FillL.done (n := r.length) hF (Caps.same (by omega)))
      have HO := hidH hF.old
      clear hF hlt hj
      go_wp2
      go_ret
      exact ⟨_, rfl, HD.out, HO.out⟩
theorem ccS_Gap (r : List GapM) : cc.ccL (r.flatMap GapM.vs) ≤ 3 * (r.length + tot.totL (r.flatMap GapM.vs)) := by
  induction r with
  | nil => simp [cc.ccL]
  | cons x xs ih =>
    rw [List.flatMap_cons, ccL_append, totL_append, List.length_cons]
    have : cc.ccL (GapM.vs x) ≤ 3 * (1 + tot.totL (GapM.vs x)) := by
      simp only [GapM.vs, cc.ccL, cc, tot.totL, tot]
      omega
    omega
section
variable {H : Type} {enc : TypeId × Value → H} {w : World} {base : Nat} {spare : Nat → Bool} {held : Bool}
theorem openS_Gap {n : Nat} {v : Value} {x : DataW H × List MemPlace} (h : DataW.trod enc Try.prog w base spare held n 89 [v] = some x) : ∃ r : List GapM, Rd w (st_Gap r) v ∧ WfV (st_Gap r) :=
  open_st (f := GapM.vs) (W := 2) (fun _ => rfl) (by decide) Try.underlying89 (by kernel_rfl) (fun _ _ _ h => open_Gap h) h
end
structure SackM where
  Cum : Int
  Gaps : List GapM
def SackM.vs (x : SackM) : List V := [.int x.Cum, st_Gap x.Gaps]
theorem shape_Sack {w : World} {n0 : Int} {r1 : List GapM} {vs : List Value} (h : RdA w [.int n0, st_Gap r1] vs) : ∃ (A1 : Option Addr) (c1 : Nat), vs = [.int .i64 n0, .slice A1 r1.length c1] := by
  obtain ⟨q0, e0, t0⟩ := h.int_out
  subst e0
  obtain ⟨v1, q1, e1, h1, t1⟩ := t0.any_out
  obtain ⟨A1, c1, a1⟩ := st_Gap_sh h1
  subst e1 a1
  have z := t1.nil_out
  subst z
  exact ⟨A1, c1, rfl⟩
set_option maxRecDepth 100000 in
set_option maxHeartbeats 1000000 in
theorem eq_Sack (n0 : Int) (r1 : List GapM) (v1 u1 : Value) (w : World) (hv1 : Rd w (st_Gap r1) v1) (hu1 : Rd w (st_Gap r1) u1) :
    Calls Try.prog 51 #[.agg #[.int .i64 n0, v1], .agg #[.int .i64 n0, u1]] w (EqR w) := by
  obtain ⟨A1, c1, rfl⟩ := st_Gap_sh hv1
  obtain ⟨B1, d1, rfl⟩ := st_Gap_sh hu1
  have K1 := (Blk.new w 31 #[.int .i64 n0, .slice A1 r1.length c1]).alloc (.cells #[.int .i64 n0, .slice B1 r1.length d1] 31)
  have K2 := Blk.new (w.alloc (.cells #[.int .i64 n0, .slice A1 r1.length c1] 31)) 31 #[.int .i64 n0, .slice B1 r1.length d1]
  have B0 := bal (bal (Below.refl w.heap.size w) (.cells #[.int .i64 n0, .slice A1 r1.length c1] 31)) (.cells #[.int .i64 n0, .slice B1 r1.length d1] 31)
  rw [World.size_alloc] at K2
  obtain ⟨W, hW⟩ : ∃ W, (w.alloc (.cells #[.int .i64 n0, .slice A1 r1.length c1] 31)).alloc (.cells #[.int .i64 n0, .slice B1 r1.length d1] 31) = W := ⟨_, rfl⟩
  rw [hW] at K1 K2 B0
  have HW := hidH hW
  have HB := hidH B0
  have HA := hidH K1
  have HC := hidH K2
  have HV1 := hidH (fun (u : World) (h : Below w.heap.size w u) => Rd.below h _ hv1)
  have HU1 := hidH (fun (u : World) (h : Below w.heap.size w u) => Rd.below h _ hu1)
  clear hW K1 K2 B0 hv1 hu1
  go_enter Try.func51, Try.ntmps51
  go_wp2_with fail
  rw [HW.out]
  refine (eqS_Gap r1 _ _ _ (HV1.out _ HB.out) (HU1.out _ HB.out)).mono ?_
  rintro e w1 ⟨rfl, hb⟩
  replace HA := hidH (HA.out.below hb)
  replace HC := hidH (HC.out.below hb)
  replace HB := hidH (btr HB.out hb)
  clear hb
  go_wp2
  go_ret
  exact ⟨rfl, HB.out⟩
set_option maxRecDepth 100000 in
set_option maxHeartbeats 1000000 in
theorem mark_Sack (n0 : Int) (r1 : List GapM) (v1 : Value) (S : Fp) (k : Nat) (w : World) (hS : Sub S (Wn 0 w.heap.size)) (h : OwA w [.int n0, st_Gap r1] S [.int .i64 n0, v1]) (hk : k + vcA [.int n0, st_Gap r1] ≤ 1000000000000) :
    Calls Try.prog 52 #[.agg #[.int .i64 n0, v1], .int .i64 k] w (MkA [.int n0, st_Gap r1] S [.int .i64 n0, v1] k w) := by
  have hr := h.rd
  have hv1 := hr.tl.hd
  obtain ⟨A1, c1, rfl⟩ := st_Gap_sh hv1
  clear hr hv1
  have K1 := Blk.new w 31 #[.int .i64 n0, .slice A1 r1.length c1]
  have B0 := bal (Below.refl w.heap.size w) (.cells #[.int .i64 n0, .slice A1 r1.length c1] 31)
  obtain ⟨W, hW⟩ : ∃ W, w.alloc (.cells #[.int .i64 n0, .slice A1 r1.length c1] 31) = W := ⟨_, rfl⟩
  rw [hW] at K1 B0
  have HW := hidH hW
  have HB := hidH B0
  have HA := hidH K1
  replace h := OwA.kept (Kept.of_below B0) h
  have hcnt : vcA [.int n0, st_Gap r1] = cc (st_Gap r1) := by simp only [vcA, vc, st_Gap] <;> omega
  unfold MkA
  rw [hcnt] at hk ⊢
  obtain ⟨T0, s0, h, G0⟩ := OwA.step_int h
  have s0 := Sub.trans s0 hS
  have G0 := hidH G0
  obtain ⟨T1, s1, hO, G1⟩ := OwA.step (y := mkc (k) (st_Gap r1)) h
  have s1 := Sub.trans s1 s0
  have HO := hidH hO
  have G1 := hidH G1
  clear hO h
  clear hW B0 K1
  go_enter Try.func52, Try.ntmps52
  go_wp2_with fail
  rw [HW.out]
  refine (markS_Gap r1 T1 _ (k) _ HO.out (by omega)).mono ?_
  rintro e w1 ⟨rfl, hc, ho⟩
  replace HA := hidH (HA.out.chg hc s1)
  have HC0 := hidH hc
  obtain ⟨T2, s2, h, G2⟩ := G1.out _ hc ho
  have s2 := Sub.trans s2 s0
  have G2 := hidH G2
  clear HO hc ho
  obtain ⟨hc, h⟩ := OwA.nil_step h
  obtain ⟨hc, h⟩ := G2.out _ _ hc h
  obtain ⟨hc, h⟩ := G0.out _ _ hc h
  have HCC := hidH ((Chg.of_below HB.out).trans hc)
  have HO := hidH h
  clear hc h
  go_wp2
  go_ret
  exact ⟨rfl, HCC.out, HO.out⟩
set_option maxRecDepth 100000 in
set_option maxHeartbeats 1000000 in
theorem sz_Sack (n0 : Int) (r1 : List GapM) (v1 : Value) (left : Int) (w : World) (hv1 : Rd w (st_Gap r1) v1) (h0 : 0 ≤ left) (h1 : left ≤ 1048576) :
    Calls Try.prog 49 #[.agg #[.int .i64 n0, v1], .int .i64 left] w (SzR left (tot.totL [.int n0, st_Gap r1]) w) := by
  obtain ⟨A1, c1, rfl⟩ := st_Gap_sh hv1
  have K1 := Blk.new w 91 #[.int .i64 n0, .slice A1 r1.length c1]
  have B0 := bal (Below.refl w.heap.size w) (.cells #[.int .i64 n0, .slice A1 r1.length c1] 91)
  obtain ⟨W, hW⟩ : ∃ W, w.alloc (.cells #[.int .i64 n0, .slice A1 r1.length c1] 91) = W := ⟨_, rfl⟩
  rw [hW] at K1 B0
  have HW := hidH hW
  have HB := hidH B0
  have HA := hidH K1
  have hcnt : tot.totL [.int n0, st_Gap r1] = tot (st_Gap r1) := by simp only [tot.totL, tot, st_Gap] <;> omega
  rw [hcnt]
  have HV1 := hidH (fun (u : World) (h : Below w.heap.size w u) => Rd.below h _ hv1)
  clear hW K1 B0 hcnt hv1
  go_enter Try.func49, Try.ntmps49
  go_wp2_with fail
  rw [HW.out]
  refine (szS_Gap r1 _ left _ (HV1.out _ HB.out) (by omega) (by omega)).mono ?_
  rintro e w1 ⟨z0, rfl, hz0, hb⟩
  replace HA := hidH (HA.out.below hb)
  replace HB := hidH (btr HB.out hb)
  clear hb
  have HZ0 := hidH hz0
  have hzl0 := hz0.2.1
  clear hz0
  by_cases hn0 : z0 < 0
  · obtain rfl : z0 = -1 := by rcases HZ0.out.1 with h | h <;> omega
    clear hn0
    go_wp2
    go_ret
    exact ⟨-1, rfl, ⟨.inl rfl, by omega, fun h => by omega⟩, HB.out⟩
  · have hp0 : 0 ≤ z0 := by omega
    clear hzl0
    go_wp2
    go_ret
    exact ⟨z0, rfl, ⟨.inr hp0, by have := HZ0.out.2.1; omega, fun _ => by have := HZ0.out.2.2 hp0; omega⟩, HB.out⟩
set_option maxRecDepth 100000 in
set_option maxHeartbeats 1000000 in
theorem to_Sack (n0 : Int) (r1 : List GapM) (v1 : Value) (w : World) (hv1 : Rd w (st_Gap r1) v1) (hm : tot.totL [.int n0, st_Gap r1] ≤ 1048576) :
    Calls Try.prog 50 #[.agg #[.int .i64 n0, v1]] w (Res w [.int n0, st_Gap r1]) := by
  obtain ⟨A1, c1, rfl⟩ := st_Gap_sh hv1
  have KA := ((Blk.new w 91 #[.int .i64 n0, .slice A1 r1.length c1]).alloc (.cells #[.int .i64 0, .slice none 0 0] 31)).alloc (.cells #[.int .i64 n0, .slice none 0 0] 31)
  have KR := (Blk.new (w.alloc (.cells #[.int .i64 n0, .slice A1 r1.length c1] 91)) 31 #[.int .i64 0, .slice none 0 0]).alloc (.cells #[.int .i64 n0, .slice none 0 0] 31)
  have KV := Blk.new ((w.alloc (.cells #[.int .i64 n0, .slice A1 r1.length c1] 91)).alloc (.cells #[.int .i64 0, .slice none 0 0] 31)) 31 #[.int .i64 n0, .slice none 0 0]
  have B0 := bal (bal (bal (Below.refl w.heap.size w) (.cells #[.int .i64 n0, .slice A1 r1.length c1] 91)) (.cells #[.int .i64 0, .slice none 0 0] 31)) (.cells #[.int .i64 n0, .slice none 0 0] 31)
  have hsz : (((w.alloc (.cells #[.int .i64 n0, .slice A1 r1.length c1] 91)).alloc (.cells #[.int .i64 0, .slice none 0 0] 31)).alloc (.cells #[.int .i64 n0, .slice none 0 0] 31)).heap.size = w.heap.size + 1 + 1 + 1 := by simp only [World.size_alloc]
  simp only [World.size_alloc] at KR KV
  obtain ⟨w0, hW⟩ : ∃ W, ((w.alloc (.cells #[.int .i64 n0, .slice A1 r1.length c1] 91)).alloc (.cells #[.int .i64 0, .slice none 0 0] 31)).alloc (.cells #[.int .i64 n0, .slice none 0 0] 31) = W := ⟨_, rfl⟩
  rw [hW] at KA KR KV B0 hsz
  have HW := hidH hW
  have HB := hidH B0
  have HA := hidH KA
  have HR := hidH KR
  have HV := hidH KV
  have HZ := hidH hsz
  have hcnt : tot.totL [.int n0, st_Gap r1] = tot (st_Gap r1) := by simp only [tot.totL, tot, st_Gap] <;> omega
  rw [hcnt] at hm
  have HM := hidH hm
  have HV1 := hidH (fun (u : World) (h : Below w.heap.size w u) => Rd.below h _ hv1)
  have es : ∀ (u : World) (p : Addr) (v : Value), (u.setCell p v).heap.size = u.heap.size := fun u p v => by simp [World.setCell]
  have HES := hidH es
  clear hW hm hcnt KA KR KV B0 hsz es hv1
  go_enter Try.func50, Try.ntmps50
  go_wp2_with fail
  rw [HW.out]
  have HB1 := hidH (HB.out)
  refine (toS_Gap r1 _ _ (HV1.out _ HB1.out) (by have := HM.out; omega)).mono ?_
  rintro e w1 ⟨u1, rfl, O0, hb⟩
  obtain ⟨E1, e1, rfl⟩ := st_Gap_sh O0.rd
  have HA1 := hidH ((HA.out).below hb)
  have HR1 := hidH ((HR.out).below hb)
  have HV1 : Hid (Blk w1 (w.heap.size + 1 + 1) 31 #[.int .i64 n0, .slice none 0 0]) := hidH (Blk.below (HV.out) hb)
  have HZ1 : Hid (w0.heap.size ≤ w1.heap.size) := hidH (by have := hb.size; simpa only [HES.out] using this)
  have O0 := hidH (show OwV w0.heap.size w1.heap.size w1 _ _ by simpa only [HES.out] using O0)
  have HG0 := hidH (show w0.heap.size ≤ w0.heap.size by exact Nat.le_refl _)
  have HZ00 := HZ1
  replace HB := hidH (btr HB1.out hb)
  clear HA HR HV HB1 hb HZ1
  have HA := HA1
  have HR := HR1
  have HV := HV1
  clear HA1 HR1 HV1
  have x0 := HR.out.cell 0
  have h0 := HR.out.frozen 0
  have y0 := HV.out.cell 0
  have f0 := HV.out.frozen 0
  have x1 := HR.out.cell 1
  have h1 := HR.out.frozen 1
  have y1 := HV.out.cell 1
  have f1 := HV.out.frozen 1
  simp only [List.getElem?_toArray, List.getElem?_cons_succ, List.getElem?_cons_zero] at x0 y0 x1 y1
  have gv := HV.out.lt
  have gr := HR.out.lt
  go_wp2
  have BF := bst (bst (bst (HB.out) (p := ⟨w.heap.size + 1 + 1, 1, none⟩) (by show w.heap.size ≤ w.heap.size + 1 + 1; omega) (.slice E1 r1.length e1)) (p := ⟨w.heap.size + 1, 0, none⟩) (by show w.heap.size ≤ w.heap.size + 1; omega) (.int .i64 n0)) (p := ⟨w.heap.size + 1, 1, none⟩) (by show w.heap.size ≤ w.heap.size + 1; omega) (.slice E1 r1.length e1)
  have P0 := (((O0.out).win (set_win _ (w.heap.size + 1 + 1) 1 (.slice E1 r1.length e1)) (.inr (by have := HZ.out; have := HG0.out; omega))).win (set_win _ (w.heap.size + 1) 0 (.int .i64 n0)) (.inr (by have := HZ.out; have := HG0.out; omega))).win (set_win _ (w.heap.size + 1) 1 (.slice E1 r1.length e1)) (.inr (by have := HZ.out; have := HG0.out; omega))
  have es := HES.out
  have PF := OwN.int n0 (OwN.cons P0 (OwN.nil (B := w1.heap.size) (C := w1.heap.size) (by simp only [es]; exact Nat.le_refl _)) HZ00.out (Nat.le_refl _))
  exact bodyPost_ret (v := .agg #[.int .i64 n0, .slice E1 r1.length e1]) (by simp [results, Try.results50, go_sem, x0, x1]) rfl ⟨[.int .i64 n0, .slice E1 r1.length e1], rfl, PF.mono (by have := HB.out.size; have := HZ.out; omega) (by simp only [es]; exact Nat.le_refl _) (Nat.le_refl _), BF⟩
theorem eqA_Sack (y : SackM) {vs us : List Value} {w : World} (h : RdA w y.vs vs) (k : RdA w y.vs us) : Calls Try.prog 51 #[.agg vs.toArray, .agg us.toArray] w (EqR w) := by
  obtain ⟨A1, c1, rfl⟩ := shape_Sack (h)
  obtain ⟨B1, d1, rfl⟩ := shape_Sack (k)
  exact eq_Sack y.Cum y.Gaps _ _ w h.tl.hd k.tl.hd
theorem markA_Sack (y : SackM) {vs : List Value} {S : Fp} {k : Nat} {w : World} (hS : Sub S (Wn 0 w.heap.size)) (h : OwA w y.vs S vs) (hk : k + vcA y.vs ≤ 1000000000000) : Calls Try.prog 52 #[.agg vs.toArray, .int .i64 k] w (MkA y.vs S vs k w) := by
  obtain ⟨A1, c1, rfl⟩ := shape_Sack (h.rd)
  exact mark_Sack y.Cum y.Gaps _ S k w hS h hk
theorem szA_Sack (y : SackM) {vs : List Value} {left : Int} {w : World} (h : RdA w y.vs vs) (h0 : 0 ≤ left) (h1 : left ≤ 1048576) : Calls Try.prog 49 #[.agg vs.toArray, .int .i64 left] w (SzR left (tot.totL y.vs) w) := by
  obtain ⟨A1, c1, rfl⟩ := shape_Sack (h)
  exact sz_Sack y.Cum y.Gaps _ left w h.tl.hd h0 h1
theorem toA_Sack (y : SackM) {vs : List Value} {w : World} (h : RdA w y.vs vs) (hm : tot.totL y.vs ≤ 1048576) : Calls Try.prog 50 #[.agg vs.toArray] w (Res w y.vs) := by
  obtain ⟨A1, c1, rfl⟩ := shape_Sack (h)
  exact to_Sack y.Cum y.Gaps _ w h.tl.hd hm
theorem cnt_Sack (y : SackM) (h : tot.totL y.vs ≤ 1048576) : vcA y.vs ≤ 1000000000 := by
  have cGap := ccS_Gap
  simp only [SackM.vs, vcA, vc, tot.totL, tot, cc, st_Gap] at *
  have d1 := cGap y.Gaps
  omega
theorem mem_Sack {w : World} {g o : Nat} {y : SackM} (h : RdL w y.vs g o) : ∃ (A1 : Option Addr) (c1 : Nat), w.cell? ⟨g, o, none⟩ = some (.int .i64 y.Cum) ∧ w.cell? ⟨g, o + 1, none⟩ = some (.slice A1 y.Gaps.length c1) ∧ Rd w (st_Gap y.Gaps) (.slice A1 y.Gaps.length c1) := by
  obtain ⟨u0, p0, t0⟩ := h.get? 0 (.int y.Cum) rfl
  have e0 := t0.int_out
  subst e0
  obtain ⟨u1, p1, t1⟩ := h.get? 1 (st_Gap y.Gaps) rfl
  obtain ⟨A1, c1, e1⟩ := st_Gap_sh t1
  subst e1
  rw [Nat.add_zero] at p0
  exact ⟨A1, c1, p0, p1, t1⟩
section
variable {H : Type} {enc : TypeId × Value → H} {w : World} {base : Nat} {spare : Nat → Bool} {held : Bool}
theorem cells_Sack : Try.prog.cellsOf 91 = 2 := by kernel_rfl
theorem cells_Sack_0 : Try.prog.cellsOf 2 = 1 := by kernel_rfl
theorem cells_Sack_1 : Try.prog.cellsOf 89 = 1 := by kernel_rfl
set_option maxHeartbeats 1000000 in
theorem open_Sack {n : Nat} {cs : List Value} {x : DataW H × List MemPlace} (h : DataW.trod enc Try.prog w base spare held n 91 cs = some x) : ∃ y : SackM, RdA w y.vs cs ∧ WfA y.vs := by
  obtain ⟨xs, m, _, _, hl, hlen, hf⟩ := DataW.trod_struct Try.underlying91 h
  rw [cells_Sack] at hl
  have hlen2 : xs.length = 2 := hlen
  obtain ⟨v0, v1, rfl⟩ := list_2 hl
  obtain ⟨y0, y1, rfl⟩ := list_2 hlen2
  have t0 : DataW.trod enc Try.prog w base spare held m 2 (([v0, v1].drop 0).take (Try.prog.cellsOf 2)) = _ := hf 0 _ rfl
  rw [cells_Sack_0] at t0
  replace t0 : DataW.trod enc Try.prog w base spare held m 2 [v0] = some y0 := t0
  have t1 : DataW.trod enc Try.prog w base spare held m 89 (([v0, v1].drop 1).take (Try.prog.cellsOf 89)) = _ := hf 1 _ rfl
  rw [cells_Sack_1] at t1
  replace t1 : DataW.trod enc Try.prog w base spare held m 89 [v1] = some y1 := t1
  obtain ⟨n0, e0, _, w0⟩ := DataW.trod_int Try.underlying2 t0
  simp only [List.cons.injEq, and_true] at e0
  subst e0
  obtain ⟨n1, r1, w1⟩ := openS_Gap t1
  exact ⟨⟨n0, n1⟩, RdA.int_mk (RdA.any_mk r1 (RdA.nil_mk)), ⟨wf_int w0, ⟨w1, trivial⟩⟩⟩
theorem opened_Sack {cs0 : Array Value} {d : DataW H} {pl : List MemPlace} (h : DataW.Trod enc Try.prog w base spare held 91 (.agg cs0) d pl) : ∃ (y : SackM) (A1 : Option Addr) (c1 : Nat), cs0 = #[.int .i64 y.Cum, .slice A1 y.Gaps.length c1] ∧ RdA w y.vs [.int .i64 y.Cum, .slice A1 y.Gaps.length c1] ∧ WfA y.vs := by
  obtain ⟨fuel, hf⟩ := h
  obtain ⟨y, h1, h2⟩ := open_Sack hf
  have h3 := h1
  obtain ⟨A1, c1, e⟩ := shape_Sack h3
  rw [e] at h1
  refine ⟨y, A1, c1, ?_, h1, h2⟩
  simp only [Value.cells] at e
  exact Array.ext' (by simpa using e)
end
structure SackResultM where
  Code : Int
  Sack_Cum : Int
  Sack_Gaps : List GapM
def SackResultM.vs (x : SackResultM) : List V := [.int x.Code, .int x.Sack_Cum, st_Gap x.Sack_Gaps]
theorem shape_SackResult {w : World} {n0 : Int} {n1 : Int} {r2 : List GapM} {vs : List Value} (h : RdA w [.int n0, .int n1, st_Gap r2] vs) : ∃ (A2 : Option Addr) (c2 : Nat), vs = [.int .i64 n0, .int .i64 n1, .slice A2 r2.length c2] := by
  obtain ⟨q0, e0, t0⟩ := h.int_out
  subst e0
  obtain ⟨q1, e1, t1⟩ := t0.int_out
  subst e1
  obtain ⟨v2, q2, e2, h2, t2⟩ := t1.any_out
  obtain ⟨A2, c2, a2⟩ := st_Gap_sh h2
  subst e2 a2
  have z := t2.nil_out
  subst z
  exact ⟨A2, c2, rfl⟩
theorem cnt_SackResult (y : SackResultM) (h : tot.totL y.vs ≤ 1048576) : vcA y.vs ≤ 1000000000 := by
  have cGap := ccS_Gap
  simp only [SackResultM.vs, vcA, vc, tot.totL, tot, cc, st_Gap] at *
  have d2 := cGap y.Sack_Gaps
  omega
theorem mem_SackResult {w : World} {g o : Nat} {y : SackResultM} (h : RdL w y.vs g o) : ∃ (A2 : Option Addr) (c2 : Nat), w.cell? ⟨g, o, none⟩ = some (.int .i64 y.Code) ∧ w.cell? ⟨g, o + 1, none⟩ = some (.int .i64 y.Sack_Cum) ∧ w.cell? ⟨g, o + 2, none⟩ = some (.slice A2 y.Sack_Gaps.length c2) ∧ Rd w (st_Gap y.Sack_Gaps) (.slice A2 y.Sack_Gaps.length c2) := by
  obtain ⟨u0, p0, t0⟩ := h.get? 0 (.int y.Code) rfl
  have e0 := t0.int_out
  subst e0
  obtain ⟨u1, p1, t1⟩ := h.get? 1 (.int y.Sack_Cum) rfl
  have e1 := t1.int_out
  subst e1
  obtain ⟨u2, p2, t2⟩ := h.get? 2 (st_Gap y.Sack_Gaps) rfl
  obtain ⟨A2, c2, e2⟩ := st_Gap_sh t2
  subst e2
  rw [Nat.add_zero] at p0
  exact ⟨A2, c2, p0, p1, p2, t2⟩
structure AddrOpM where
  Kind : Int
  Addr : Int
def AddrOpM.vs (x : AddrOpM) : List V := [.int x.Kind, .int x.Addr]
theorem shape_AddrOp {w : World} {n0 : Int} {n1 : Int} {vs : List Value} (h : RdA w [.int n0, .int n1] vs) : vs = [.int .i64 n0, .int .i64 n1] := by
  obtain ⟨q0, e0, t0⟩ := h.int_out
  subst e0
  obtain ⟨q1, e1, t1⟩ := t0.int_out
  subst e1
  have z := t1.nil_out
  subst z
  exact rfl
theorem mem_AddrOp {w : World} {g o : Nat} {y : AddrOpM} (h : RdL w y.vs g o) : w.cell? ⟨g, o, none⟩ = some (.int .i64 y.Kind) ∧ w.cell? ⟨g, o + 1, none⟩ = some (.int .i64 y.Addr) := by
  obtain ⟨u0, p0, t0⟩ := h.get? 0 (.int y.Kind) rfl
  have e0 := t0.int_out
  subst e0
  obtain ⟨u1, p1, t1⟩ := h.get? 1 (.int y.Addr) rfl
  have e1 := t1.int_out
  subst e1
  rw [Nat.add_zero] at p0
  exact ⟨p0, p1⟩
def st_AddrOp (r : List AddrOpM) : V := .st r.length (r.flatMap AddrOpM.vs)
theorem st_AddrOp_sh {w : World} {r : List AddrOpM} {v : Value} (h : Rd w (st_AddrOp r) v) : ∃ A c, v = .slice A r.length c := Rd.st_sh h
theorem ccS_AddrOp (r : List AddrOpM) : cc.ccL (r.flatMap AddrOpM.vs) ≤ 3 * (r.length + tot.totL (r.flatMap AddrOpM.vs)) := by
  induction r with
  | nil => simp [cc.ccL]
  | cons x xs ih =>
    rw [List.flatMap_cons, ccL_append, totL_append, List.length_cons]
    have : cc.ccL (AddrOpM.vs x) ≤ 3 * (1 + tot.totL (AddrOpM.vs x)) := by
      simp only [AddrOpM.vs, cc.ccL, cc, tot.totL, tot]
      omega
    omega
structure AsconfM where
  Serial : Int
  Ops : List AddrOpM
def AsconfM.vs (x : AsconfM) : List V := [.int x.Serial, st_AddrOp x.Ops]
theorem shape_Asconf {w : World} {n0 : Int} {r1 : List AddrOpM} {vs : List Value} (h : RdA w [.int n0, st_AddrOp r1] vs) : ∃ (A1 : Option Addr) (c1 : Nat), vs = [.int .i64 n0, .slice A1 r1.length c1] := by
  obtain ⟨q0, e0, t0⟩ := h.int_out
  subst e0
  obtain ⟨v1, q1, e1, h1, t1⟩ := t0.any_out
  obtain ⟨A1, c1, a1⟩ := st_AddrOp_sh h1
  subst e1 a1
  have z := t1.nil_out
  subst z
  exact ⟨A1, c1, rfl⟩
theorem cnt_Asconf (y : AsconfM) (h : tot.totL y.vs ≤ 1048576) : vcA y.vs ≤ 1000000000 := by
  have cAddrOp := ccS_AddrOp
  simp only [AsconfM.vs, vcA, vc, tot.totL, tot, cc, st_AddrOp] at *
  have d1 := cAddrOp y.Ops
  omega
theorem mem_Asconf {w : World} {g o : Nat} {y : AsconfM} (h : RdL w y.vs g o) : ∃ (A1 : Option Addr) (c1 : Nat), w.cell? ⟨g, o, none⟩ = some (.int .i64 y.Serial) ∧ w.cell? ⟨g, o + 1, none⟩ = some (.slice A1 y.Ops.length c1) ∧ Rd w (st_AddrOp y.Ops) (.slice A1 y.Ops.length c1) := by
  obtain ⟨u0, p0, t0⟩ := h.get? 0 (.int y.Serial) rfl
  have e0 := t0.int_out
  subst e0
  obtain ⟨u1, p1, t1⟩ := h.get? 1 (st_AddrOp y.Ops) rfl
  obtain ⟨A1, c1, e1⟩ := st_AddrOp_sh t1
  subst e1
  rw [Nat.add_zero] at p0
  exact ⟨A1, c1, p0, p1, t1⟩
structure AsconfResultM where
  Code : Int
  Asconf_Serial : Int
  Asconf_Ops : List AddrOpM
def AsconfResultM.vs (x : AsconfResultM) : List V := [.int x.Code, .int x.Asconf_Serial, st_AddrOp x.Asconf_Ops]
theorem shape_AsconfResult {w : World} {n0 : Int} {n1 : Int} {r2 : List AddrOpM} {vs : List Value} (h : RdA w [.int n0, .int n1, st_AddrOp r2] vs) : ∃ (A2 : Option Addr) (c2 : Nat), vs = [.int .i64 n0, .int .i64 n1, .slice A2 r2.length c2] := by
  obtain ⟨q0, e0, t0⟩ := h.int_out
  subst e0
  obtain ⟨q1, e1, t1⟩ := t0.int_out
  subst e1
  obtain ⟨v2, q2, e2, h2, t2⟩ := t1.any_out
  obtain ⟨A2, c2, a2⟩ := st_AddrOp_sh h2
  subst e2 a2
  have z := t2.nil_out
  subst z
  exact ⟨A2, c2, rfl⟩
theorem cnt_AsconfResult (y : AsconfResultM) (h : tot.totL y.vs ≤ 1048576) : vcA y.vs ≤ 1000000000 := by
  have cAddrOp := ccS_AddrOp
  simp only [AsconfResultM.vs, vcA, vc, tot.totL, tot, cc, st_AddrOp] at *
  have d2 := cAddrOp y.Asconf_Ops
  omega
theorem mem_AsconfResult {w : World} {g o : Nat} {y : AsconfResultM} (h : RdL w y.vs g o) : ∃ (A2 : Option Addr) (c2 : Nat), w.cell? ⟨g, o, none⟩ = some (.int .i64 y.Code) ∧ w.cell? ⟨g, o + 1, none⟩ = some (.int .i64 y.Asconf_Serial) ∧ w.cell? ⟨g, o + 2, none⟩ = some (.slice A2 y.Asconf_Ops.length c2) ∧ Rd w (st_AddrOp y.Asconf_Ops) (.slice A2 y.Asconf_Ops.length c2) := by
  obtain ⟨u0, p0, t0⟩ := h.get? 0 (.int y.Code) rfl
  have e0 := t0.int_out
  subst e0
  obtain ⟨u1, p1, t1⟩ := h.get? 1 (.int y.Asconf_Serial) rfl
  have e1 := t1.int_out
  subst e1
  obtain ⟨u2, p2, t2⟩ := h.get? 2 (st_AddrOp y.Asconf_Ops) rfl
  obtain ⟨A2, c2, e2⟩ := st_AddrOp_sh t2
  subst e2
  rw [Nat.add_zero] at p0
  exact ⟨A2, c2, p0, p1, p2, t2⟩
end Go.Proofs.Ythljdikcpdokdaa

/- Chapter 5 on numbers: requests and acknowledgements; the model's l5Addr, l5AsconfFault, l5SackFault. -/
namespace Go.Proofs.Ythljdikcpdokdaa
open Go.RowKit Go.Deep

def okOp (x : AddrOpM) : Bool := inB x.Kind 1 3 && inB x.Addr 1 255
def qaF (y : AsconfM) : Int := if wB y.Serial then (if 1 ≤ y.Ops.length ∧ y.Ops.length ≤ 4 then (if y.Ops.all okOp then 0 else 3) else 2) else 3
def opL (x : AddrOpM) : List Int := [x.Kind, x.Addr]
def qaC (y : AsconfM) : ChunkM := ⟨193, 0, pk y.Serial ++ ((y.Ops.length : Int) :: y.Ops.flatMap opL)⟩
def qaR (y : AsconfM) : ChunkResultM := crOf (qaF y) (qaC y)
/-- The gaps behind a number, each one behind the other with a number between. -/
def okGaps : Int → List GapM → Bool
  | _, [] => true
  | a, x :: r => inB x.From 2 x.To && inB x.To 2 65535 && decide (a + 1 < x.From) && okGaps x.To r
theorem okGaps_cons (a : Int) (x : GapM) (r : List GapM) : okGaps a (x :: r) = (inB x.From 2 x.To && inB x.To 2 65535 && decide (a + 1 < x.From) && okGaps x.To r) := rfl
def ksF (y : SackM) : Int := if wB y.Cum then (if y.Gaps.length ≤ 20 then (if okGaps 0 y.Gaps then 0 else 1) else 2) else 3
def gapL (x : GapM) : List Int := pairL x.From ++ pairL x.To
def ksC (y : SackM) : ChunkM := ⟨3, 0, pk y.Cum ++ ((y.Gaps.length : Int) :: y.Gaps.flatMap gapL)⟩
def ksR (y : SackM) : ChunkResultM := crOf (ksF y) (ksC y)
theorem qaF_zero {y : AsconfM} (h : qaF y = 0) : (0 ≤ y.Serial ∧ y.Serial ≤ 4294967295) ∧ (1 ≤ y.Ops.length ∧ y.Ops.length ≤ 4) ∧ y.Ops.all okOp = true := by
  unfold qaF wB inB at h
  split at h
  · next h1 =>
    simp only [Bool.and_eq_true, decide_eq_true_eq] at h1
    split at h
    · next h2 =>
      split at h
      · next h3 => exact ⟨h1, h2, h3⟩
      · cases h
    · cases h
  · cases h
theorem ksF_zero {y : SackM} (h : ksF y = 0) : (0 ≤ y.Cum ∧ y.Cum ≤ 4294967295) ∧ y.Gaps.length ≤ 20 ∧ okGaps 0 y.Gaps = true := by
  unfold ksF wB inB at h
  split at h
  · next h1 =>
    simp only [Bool.and_eq_true, decide_eq_true_eq] at h1
    split at h
    · next h2 =>
      split at h
      · next h3 => exact ⟨h1, h2, h3⟩
      · cases h
    · cases h
  · cases h
theorem all_take {α : Type} {f : α → Bool} {l : List α} {j : Nat} (hj : j < l.length) (h : (l.take j).all f = true) (k : f l[j] = true) : (l.take (j + 1)).all f = true := by
  rw [List.take_add_one, List.getElem?_eq_getElem hj, Option.toList_some, List.all_append, h]
  simp [k]
theorem all_not {α : Type} {f : α → Bool} {l : List α} {j : Nat} (hj : j < l.length) (k : f l[j] = false) : ¬ l.all f = true := by
  intro h
  rw [List.all_eq_true] at h
  have := h _ (List.getElem_mem hj)
  rw [k] at this
  cases this
end Go.Proofs.Ythljdikcpdokdaa
