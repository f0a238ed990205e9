import Derived.Test.YtacdnednkglobaaTyData
import Derived.Test.YtacdnednkglobaaMa2
import Derived.Test.YtacdnednkglobaaMa0

/- Chunks, ChunksResult, AuthResult (WRITTEN BY tools/kinds.py) -/
namespace Go.Proofs.Ytacdnednkglobaa
open Go.RowKit Go.Deep Go.ChangeShapes Go.WideShapes Go.ChangeAt

def st_Chunk (r : List ChunkM) : V := .st r.length (r.flatMap ChunkM.vs)
theorem st_Chunk_sh {w : World} {r : List ChunkM} {v : Value} (h : Rd w (st_Chunk r) v) : ∃ A c, v = .slice A r.length c := Rd.st_sh h
set_option maxRecDepth 100000 in
set_option maxHeartbeats 2000000 in
theorem eqS_Chunk (r : List ChunkM) (v u : Value) (w : World) (hv : Rd w (st_Chunk r) v) (hu : Rd w (st_Chunk r) u) :
    Calls Try.prog 13 #[v, u] w (EqR w) := by
  obtain ⟨A, c, rfl⟩ := st_Chunk_sh hv
  obtain ⟨B, d, rfl⟩ := st_Chunk_sh hu
  have hm : (r.length : Int) ≤ 9223372036854775807 := Rd.st_len hv
  have HV := hidH (fun (u : World) (h : Below w.heap.size w u) => Rd.below h _ hv)
  have HU := hidH (fun (u : World) (h : Below w.heap.size w u) => Rd.below h _ hu)
  clear hv hu
  go_enter Try.func13, Try.ntmps13
  go_wp2
  go_loopw [5] (fun i wr => ∃ j : Nat, j ≤ r.length ∧ i = .int .i64 j ∧ Below w.heap.size w wr) (fun i _ => r.length - (intOf i).toNat)
  case atStart => exact ⟨0, by omega, rfl, Below.refl _ _⟩
  case round =>
    obtain ⟨j, hj, rfl, hBw⟩ := hrel
    by_cases hlt : j < r.length
    · have hj0 : (0 : Int) ≤ (j : Int) := by omega
      have hj1 : (j : Int) < (r.length : Int) := by omega
      have bd := (Below.refl wr.heap.size wr).drew
      have hBW := btr hBw bd
      obtain ⟨ga, oa, ca, ea, hga, RA⟩ := Rd.row (f := ChunkM.vs) (W := 3) (fun _ => rfl) (HV.out _ hBW) hlt
      obtain ⟨gb, ob, cb, eb, hgb, RB⟩ := Rd.row (f := ChunkM.vs) (W := 3) (fun _ => rfl) (HU.out _ hBW) hlt
      injection ea with ea1 ea2 ea3
      subst ea1 ea3
      injection eb with eb1 eb2 eb3
      subst eb1 eb3
      obtain ⟨pu0, p0, pt0⟩ := RA 0 (.int r[j].Kind) rfl
      have pe0 := pt0.int_out
      subst pe0
      rw [Nat.add_zero] at p0
      obtain ⟨pu1, p1, pt1⟩ := RA 1 (.int r[j].Flags) rfl
      have pe1 := pt1.int_out
      subst pe1
      obtain ⟨pu2, p2, pt2⟩ := RA 2 (.bs r[j].Body) rfl
      obtain ⟨A2, An2, pe2⟩ := pt2.bs_sh
      subst pe2
      obtain ⟨qu0, q0, qt0⟩ := RB 0 (.int r[j].Kind) rfl
      have qe0 := qt0.int_out
      subst qe0
      rw [Nat.add_zero] at q0
      obtain ⟨qu1, q1, qt1⟩ := RB 1 (.int r[j].Flags) rfl
      have qe1 := qt1.int_out
      subst qe1
      obtain ⟨qu2, q2, qt2⟩ := RB 2 (.bs r[j].Body) rfl
      obtain ⟨B2, Bn2, qe2⟩ := qt2.bs_sh
      subst qe2
      have HE := hidH (eq_Chunk r[j].Kind r[j].Flags r[j].Body _ _ wr.drew pt2 qt2)
      have HBW := hidH hBW
      clear RA RB hBW hBw bd pt0 qt0 pt1 qt1 pt2 qt2
      go_wp2
      go_still_tail 8, (by kernel_rfl)
      change wpList _ _ _ _ _ wr.drew
      go_wp2_with fail
      refine HE.out.mono ?_
      rintro e w3 ⟨rfl, b3⟩
      have B3 := hidH (btr HBW.out b3)
      clear HE HBW b3 p0 q0 p1 q1 p2 q2
      go_wp2
      go_roundw
      case rel => exact ⟨j + 1, by omega, by go_num, B3.out⟩
      case measure => simp [intOf]; omega
    · have HBW := hidH hBw
      have hd : ¬ ((j : Int) < (r.length : Int)) := by omega
      clear hBw hlt hj
      go_wp2
      go_ret
      exact ⟨rfl, HBW.out⟩
set_option maxRecDepth 100000 in
set_option maxHeartbeats 2000000 in
theorem markS_Chunk (r : List ChunkM) (S : Fp) (v : Value) (k : Nat) (w : World) (h : Ow w (st_Chunk r) S v) (hk : k + cc (st_Chunk r) ≤ 1000000000000) :
    Calls Try.prog 14 #[v, .int .i64 k] w (MkR (st_Chunk r) S v k w) := by
  unfold st_Chunk at h hk ⊢
  unfold Ow at h
  obtain ⟨A, c, rfl, hc, h⟩ := h
  have hm := hc.len
  unfold MkR
  rcases h with ⟨h0, _⟩ | ⟨g, o, rfl, hg, h⟩
  · obtain rfl := List.eq_nil_of_length_eq_zero h0
    have HC := hidH hc
    clear h0 hc
    go_enter Try.func14, Try.ntmps14
    go_wp2
    go_loopw [1, 5] (fun v i wr => v = .int .i64 k ∧ i = .int .i64 0 ∧ wr = w) (fun _ _ _ => 0)
    case atStart => exact ⟨rfl, rfl, rfl⟩
    case round =>
      obtain ⟨rfl, rfl, rfl⟩ := hrel
      go_wp2
      go_ret
      refine ⟨ret_int (by simp [cc, cc.ccL]), Chg.refl _ _, ?_⟩
      simp only [mkc]
      unfold Ow
      exact ⟨A, c, rfl, HC.out, .inl ⟨rfl, rfl⟩⟩
  · have M0 := hidH (MkSt.start (k := k) h hg)
    have HC := hidH hc
    have HKL := hidH (kRow_le k ChunkM.vs r)
    have HK := hidH hk
    clear hc h
    go_enter Try.func14, Try.ntmps14
    go_wp2
    go_loopw [1, 5] (fun v i wr => ∃ j : Nat, j ≤ r.length ∧ v = .int .i64 ((kRow k ChunkM.vs r j : Nat) : Int) ∧ i = .int .i64 j ∧ MkSt w S g o k ((r.take j).flatMap ChunkM.vs) ((r.drop j).flatMap ChunkM.vs) wr) (fun _ i _ => r.length - (intOf i).toNat)
    case atStart => exact ⟨0, Nat.zero_le _, by rw [kRow_zero], rfl, M0.out⟩
    case round =>
      obtain ⟨j, hj, rfl, rfl, hM⟩ := hrel
      by_cases hlt : j < r.length
      · have hj0 : (0 : Int) ≤ (j : Int) := by omega
        have hj1 : (j : Int) < (r.length : Int) := by omega
        have hkl := HKL.out (j + 1)
        have hks := kRow_succ k ChunkM.vs r j hlt
        have hk2 := HK.out
        have hrow : cc.ccL (ChunkM.vs r[j]) = 1 + 1 + cc (.bs r[j].Body) := by simp only [ChunkM.vs, cc.ccL, cc] <;> omega
        have hp : ((r.take j).flatMap ChunkM.vs).length = j * 3 := take_len (f := ChunkM.vs) (fun _ => rfl) r j (by omega)
        have he := flat_take ChunkM.vs r j hlt
        rw [flat_drop ChunkM.vs r j hlt] at hM
        replace hM : MkSt w S g o k ((r.take j).flatMap ChunkM.vs) ((.int r[j].Kind) :: (.int r[j].Flags) :: (.bs r[j].Body) :: (r.drop (j + 1)).flatMap ChunkM.vs) wr := hM
        obtain ⟨y, hy⟩ : ∃ y, kRow k ChunkM.vs r j = y := ⟨_, rfl⟩
        rw [hy] at hks ⊢
        unfold kRow at hy
        have hyb : (y : Int) + 1 + 1 + (cc (.bs r[j].Body) : Int) + 0 ≤ 1000000000000 := by omega
        obtain ⟨pre, hpre⟩ : ∃ pre, (r.take j).flatMap ChunkM.vs = pre := ⟨_, rfl⟩
        obtain ⟨post, hpost⟩ : ∃ post, (r.drop (j + 1)).flatMap ChunkM.vs = post := ⟨_, rfl⟩
        rw [hpre] at hM hy hp he
        rw [hpost] at hM
        have HPO := hidH hpost
        have HKS := hidH hks
        have HE := hidH he
        have HY := hidH hy
        have HP := hidH hp
        have HRO := hidH hrow
        have HYB := hidH hyb
        clear hpost hks he hy hp hpre hrow hkl hk2 hyb
        have hyI : (y : Int) ≤ 1000000000000 := by have := HYB.out; omega
        obtain ⟨⟨x0, p0⟩, f0, hM⟩ := hM.num (o + j * 3) (by rw [HP.out]) ((y : Int)) (by rw [HY.out])
        obtain ⟨⟨x1, p1⟩, f1, hM⟩ := hM.num (o + j * 3 + 1) (by simp only [List.length_append, List.length_cons, List.length_nil, HP.out]; omega) ((y : Int) + 1) (by rw [← HY.out]; simp only [ccL_append, cc.ccL, cc]; omega)
        obtain ⟨u2, S2, p2, ho2, hN⟩ := hM.at_ (o + j * 3 + 2) (by simp only [List.length_append, List.length_cons, List.length_nil, HP.out]; omega) (y + 2) (by rw [← HY.out]; simp only [ccL_append, cc.ccL, cc]; omega)
        have HO := hidH ho2
        have HN := hidH hN
        clear ho2 hN hM
        go_wp2_with fail
        rw [show ((y : Int) + 1 + 1) = ((y + 2 : Nat) : Int) by omega]
        refine (markB_ow r[j].Body S2 u2 (y + 2) _ HO.out (by have := HYB.out; omega)).mono ?_
        rintro e v2 ⟨rfl, hc2, ho2⟩
        have hM := HN.out _ hc2 ho2
        clear HO HN hc2 ho2 p2 p0 f0 p1 f1
        have hb2 : (((y + 2 + cc (.bs r[j].Body) : Nat) : Int)) ≤ 1000000000000 := by have := HYB.out; omega
        rw [show ((pre ++ [.int r[j].Kind]) ++ [.int r[j].Flags]) ++ [.bs r[j].Body] = (r.take (j + 1)).flatMap ChunkM.vs from (by rw [HE.out]; simp [ChunkM.vs])] at hM
        rw [← HPO.out] at hM
        have HM := hidH hM
        clear hM
        go_wp2
        go_roundw
        case rel => exact ⟨j + 1, by omega, by rw [HKS.out, HRO.out]; exact congrArg (Value.int .i64) (by omega), by go_num, HM.out⟩
        case measure => simp [intOf]; omega
      · obtain rfl : j = r.length := by omega
        rw [List.take_length, List.drop_length] at hM
        have HM := hidH (MkSt.done hM HC.out)
        have hka := kRow_all k ChunkM.vs r
        clear hM hlt hj
        go_wp2
        go_ret
        exact ⟨ret_int (by rw [hka]), HM.out.1, HM.out.2⟩
set_option maxRecDepth 100000 in
set_option maxHeartbeats 2000000 in
theorem heldS_Chunk (r : List ChunkM) (v : Value) (k : Nat) (w : World) (h : Rd w (mkc k (st_Chunk r)) v) (hk : k + cc (st_Chunk r) ≤ 1000000000000) :
    Calls Try.prog 39 #[v, .int .i64 k] w (HeR (st_Chunk r) k w) := by
  unfold st_Chunk at h hk ⊢
  have h2 := h
  simp only [mkc] at h2
  have hm : (r.length : Int) ≤ 9223372036854775807 := Rd.st_len h2
  obtain ⟨A, c, rfl⟩ := h2.st_sh
  clear h2
  have HV := hidH (fun (u : World) (h3 : Below w.heap.size w u) => Rd.below h3 _ h)
  have HKL := hidH (kRow_le k ChunkM.vs r)
  have HK := hidH hk
  unfold HeR
  clear h
  go_enter Try.func39, Try.ntmps39
  go_wp2
  go_loopw [1, 5] (fun v i wr => ∃ j : Nat, j ≤ r.length ∧ v = .int .i64 ((kRow k ChunkM.vs r j : Nat) : Int) ∧ i = .int .i64 j ∧ Below w.heap.size w wr) (fun _ i _ => r.length - (intOf i).toNat)
  case atStart => exact ⟨0, Nat.zero_le _, by rw [kRow_zero], rfl, Below.refl _ _⟩
  case round =>
    obtain ⟨j, hj, rfl, rfl, hB⟩ := hrel
    by_cases hlt : j < r.length
    · have hj0 : (0 : Int) ≤ (j : Int) := by omega
      have hj1 : (j : Int) < (r.length : Int) := by omega
      have hkl := HKL.out (j + 1)
      have hks := kRow_succ k ChunkM.vs r j hlt
      have hk2 := HK.out
      have hrow : cc.ccL (ChunkM.vs r[j]) = 1 + 1 + cc (.bs r[j].Body) := by simp only [ChunkM.vs, cc.ccL, cc] <;> omega
      obtain ⟨g, o, ca, ea, hg, RA⟩ := Rd.rowmk (f := ChunkM.vs) (W := 3) (fun _ => rfl) (HV.out _ hB) hlt
      injection ea with ea1 ea2 ea3
      subst ea1 ea3
      obtain ⟨y, hy⟩ : ∃ y, kRow k ChunkM.vs r j = y := ⟨_, rfl⟩
      rw [hy] at hks ⊢
      unfold kRow at hy
      rw [hy] at RA
      obtain ⟨pu0, p0, pt0⟩ := RA 0 (.int ((y : Nat) : Int)) rfl
      have pe0 := pt0.int_out
      subst pe0
      clear pt0
      rw [Nat.add_zero] at p0
      obtain ⟨pu1, p1, pt1⟩ := RA 1 (.int ((y + 1 : Nat) : Int)) rfl
      have pe1 := pt1.int_out
      subst pe1
      clear pt1
      rw [show ((y + 1 : Nat) : Int) = (y : Int) + 1 by omega] at p1
      obtain ⟨pu2, p2, pt2⟩ := RA 2 (mkc (y + 2) (.bs r[j].Body)) rfl
      have HV2 := hidH (fun (u : World) (h3 : Below wr.heap.size wr u) => Rd.below h3 _ pt2)
      clear pt2
      have hyb : (y : Int) + 1 + 1 + (cc (.bs r[j].Body) : Int) + 0 ≤ 1000000000000 := by omega
      have HYB := hidH hyb
      have hyI : (y : Int) ≤ 1000000000000 := by omega
      have HKS := hidH hks
      have HRO := hidH hrow
      have HBW := hidH hB
      clear RA hB hks hrow hkl hk2 hy hyb
      go_wp2_with fail
      rw [show ((y : Int) + 1 + 1) = ((y + 2 : Nat) : Int) by omega]
      refine (heldB_rd r[j].Body _ (y + 2) _ (HV2.out _ (Below.refl _ _)) (by have := HYB.out; omega)).mono ?_
      rintro e v2 ⟨rfl, hb⟩
      have HB := hidH hb
      replace HBW := hidH (btr HBW.out hb)
      replace hg := Nat.lt_of_lt_of_le hg hb.size
      clear hb
      have hpos2 : ¬ ((((y + 2 + cc (.bs r[j].Body) : Nat) : Int)) < 0) := by omega
      have hbd2 : (((y + 2 + cc (.bs r[j].Body) : Nat) : Int)) ≤ 1000000000000 := by have := HYB.out; omega
      go_wp2
      go_roundw
      case rel => exact ⟨j + 1, by omega, by rw [HKS.out, HRO.out]; exact congrArg (Value.int .i64) (by omega), by go_num, HBW.out⟩
      case measure => simp [intOf]; omega
    · obtain rfl : j = r.length := by omega
      have HBW := hidH hB
      have hka := kRow_all k ChunkM.vs r
      clear hB hlt hj
      go_wp2
      go_ret
      exact ⟨ret_int (by rw [hka]), HBW.out⟩
set_option maxRecDepth 100000 in
set_option maxHeartbeats 2000000 in
theorem szS_Chunk (r : List ChunkM) (v : Value) (left : Int) (w : World) (hv : Rd w (st_Chunk r) v) (h0 : 0 ≤ left) (h1 : left ≤ 1048576) :
    Calls Try.prog 8 #[v, .int .i64 left] w (SzR left (tot (st_Chunk r)) w) := by
  have hn : (r.length : Int) ≤ 9223372036854775807 := Rd.st_len hv
  obtain ⟨A, c, rfl⟩ := st_Chunk_sh hv
  have HV := hidH (fun (u : World) (h3 : Below w.heap.size w u) => Rd.below h3 _ hv)
  have HT := hidH (tRow_all ChunkM.vs r)
  rw [show tot (st_Chunk r) = r.length + tRow ChunkM.vs r r.length from (tRow_all _ _).symm]
  clear hv
  by_cases hl : left - (r.length : Int) < 0
  · go_enter Try.func8, Try.ntmps8
    go_wp2
    go_ret
    exact ⟨-1, rfl, ⟨.inl rfl, by omega, fun h => by omega⟩, Below.refl _ _⟩
  · have hl0 : 0 ≤ left - (r.length : Int) := by omega
    clear hl
    go_enter Try.func8, Try.ntmps8
    go_wp2
    go_loopw [1, 5] (fun t i wr => ∃ (j : Nat) (z : Int), j ≤ r.length ∧ i = .int .i64 j ∧ t = .int .i64 z ∧ 0 ≤ z ∧ z + (tRow ChunkM.vs r j : Int) + (r.length : Int) ≤ left ∧ Below w.heap.size w wr) (fun _ i _ => r.length - (intOf i).toNat)
    case atStart => exact ⟨0, left - (r.length : Int), by omega, rfl, rfl, hl0, by rw [tRow_zero]; omega, Below.refl _ _⟩
    case round =>
      obtain ⟨j, z, hj, rfl, rfl, hz0, hz1, hB⟩ := hrel
      by_cases hlt : j < r.length
      · have hj0 : (0 : Int) ≤ (j : Int) := by omega
        have hj1 : (j : Int) < (r.length : Int) := by omega
        have hz2 : z ≤ 1048576 := by omega
        obtain ⟨g, o, ca, ea, hg, RA⟩ := Rd.row (f := ChunkM.vs) (W := 3) (fun _ => rfl) (HV.out _ hB) hlt
        injection ea with ea1 ea2 ea3
        subst ea1 ea3
        obtain ⟨pu0, p0, pt0⟩ := RA 0 (.int r[j].Kind) rfl
        have pe0 := pt0.int_out
        subst pe0
        rw [Nat.add_zero] at p0
        obtain ⟨pu1, p1, pt1⟩ := RA 1 (.int r[j].Flags) rfl
        have pe1 := pt1.int_out
        subst pe1
        obtain ⟨pu2, p2, pt2⟩ := RA 2 (.bs r[j].Body) rfl
        obtain ⟨A2, An2, pe2⟩ := pt2.bs_sh
        subst pe2
        have HS := hidH (sz_Chunk r[j].Kind r[j].Flags r[j].Body _ z wr pt2 hz0 hz2)
        have hts := tRow_succ ChunkM.vs r j hlt
        have HTS := hidH hts
        have HBW := hidH hB
        have HZ1 := hidH hz1
        clear RA hB hz1 hts pt0 pt1 pt2
        go_wp2_with fail
        refine HS.out.mono ?_
        rintro e w3 ⟨z3, rfl, hz3, b3⟩
        have B3 := hidH (btr HBW.out b3)
        have HZ3 := hidH hz3
        clear HS b3 HBW hz3 p0 p1 p2
        by_cases hneg : z3 < 0
        · obtain rfl : z3 = -1 := by rcases HZ3.out.1 with h | h <;> omega
          clear hneg
          go_wp2
          go_ret
          exact ⟨-1, rfl, ⟨.inl rfl, by omega, fun h => by omega⟩, B3.out⟩
        · have hpos : 0 ≤ z3 := by omega
          clear hneg
          go_wp2
          go_roundw
          case rel => exact ⟨j + 1, z3, by omega, by go_num, rfl, hpos, by have := HTS.out; have := HZ1.out; have := HZ3.out.2.2 hpos; simp only [ChunkM.vs] at *; omega, B3.out⟩
          case measure => simp [intOf]; omega
      · obtain rfl : j = r.length := by omega
        have HBW := hidH hB
        have HZ1 := hidH hz1
        clear hB hlt hj hz1
        go_wp2
        go_ret
        exact ⟨z, rfl, ⟨.inr hz0, by have := HZ1.out; omega, fun _ => by have := HZ1.out; omega⟩, HBW.out⟩
theorem info_Chunk : (Try.prog.info? 51).map (fun i => (i.zero, i.size, i.bytes)) = some (some (.agg #[.int .i64 0, .int .i64 0, .slice none 0 0]), 3, 40) := by kernel_rfl
set_option maxRecDepth 100000 in
set_option maxHeartbeats 2000000 in
theorem toS_Chunk (r : List ChunkM) (v : Value) (w : World) (hv : Rd w (st_Chunk r) v) (hm : tot (st_Chunk r) ≤ 1048576) :
    Calls Try.prog 10 #[v] w (ResV w (st_Chunk r)) := by
  obtain ⟨A, c, rfl⟩ := st_Chunk_sh hv
  have HT := hidH hm
  have hnn : r.length ≤ 1048576 := by rw [st_Chunk, ← tRow_all] at hm; omega
  have hnI : (r.length : Int) ≤ 1048576 := by omega
  obtain ⟨i0, hi, hz0, hz1, hz2⟩ := info_parts info_Chunk
  have HI := hidH (And.intro hi (And.intro hz0 (And.intro hz1 hz2)))
  have HV := hidH (fun (u : World) (h3 : Below w.heap.size w u) => Rd.below h3 _ hv)
  clear hi hz0 hz1 hz2 hv hm
  go_enter Try.func10, Try.ntmps10
  go_wp2_with (refine wpList_make_full _ rfl _ _ _ rfl w.heap.size 51 i0 _ 3 Try.underlying29 HI.out.1 HI.out.2.1 HI.out.2.2.1 .i64 .i64 _ _ r.length rfl rfl rfl rfl (by rw [HI.out.2.2.2]; omega) (by unfold maxLen; omega) (Nat.le_refl _) ?_)
  intro w1 o1 g1
  have F0 := hidH (fillL0 o1 ((Below.refl w.heap.size w).grown g1 (Nat.le_refl _) (fun k hk => by cases hk)) (Nat.le_refl _))
  clear o1 g1
  go_wp2
  go_loopw [4] (fun i wr => ∃ j : Nat, j ≤ r.length ∧ i = .int .i64 j ∧ FillL w w.heap.size (r.length * 3) ((r.take j).flatMap ChunkM.vs) wr) (fun i _ => r.length - (intOf i).toNat)
  case atStart => exact ⟨0, by omega, rfl, F0.out⟩
  case round =>
    obtain ⟨j, hj, rfl, hF⟩ := hrel
    by_cases hlt : j < r.length
    · have hj0 : (0 : Int) ≤ (j : Int) := by omega
      have hj1 : (j : Int) < (r.length : Int) := by omega
      obtain ⟨g, o, ca, ea, hg, RA⟩ := Rd.row (f := ChunkM.vs) (W := 3) (fun _ => rfl) (HV.out _ hF.old) hlt
      injection ea with ea1 ea2 ea3
      subst ea1 ea3
      obtain ⟨pu0, p0, pt0⟩ := RA 0 (.int r[j].Kind) rfl
      have pe0 := pt0.int_out
      subst pe0
      rw [Nat.add_zero] at p0
      obtain ⟨pu1, p1, pt1⟩ := RA 1 (.int r[j].Flags) rfl
      have pe1 := pt1.int_out
      subst pe1
      obtain ⟨pu2, p2, pt2⟩ := RA 2 (.bs r[j].Body) rfl
      obtain ⟨A2, An2, pe2⟩ := pt2.bs_sh
      subst pe2
      have HS := hidH (to_Chunk r[j].Kind r[j].Flags r[j].Body _ wr pt2 (Nat.le_trans (row_tot ChunkM.vs r j hlt) HT.out))
      have hp : ((r.take j).flatMap ChunkM.vs).length = j * 3 := take_len (f := ChunkM.vs) (fun _ => rfl) r j (by omega)
      have HP := hidH hp
      have HE := hidH (flat_take ChunkM.vs r j hlt)
      have HF := hidH hF
      clear RA hF hp pt0 pt1 pt2
      go_wp2_with fail
      refine HS.out.mono ?_
      rintro e w3 ⟨vs, rfl, O3, b3⟩
      obtain ⟨E2, e2, rfl⟩ := shape_Chunk O3.rd
      have hgl := HF.out.lt
      obtain ⟨m0, n0⟩ := HF.out.room (j * 3) (by omega)
      replace n0 := (b3.cell (p := ⟨w.heap.size, _, none⟩) hgl).trans n0
      have f0 := (b3.frozen (p := ⟨w.heap.size, j * 3, none⟩) hgl).trans (HF.out.fz _)
      obtain ⟨m1, n1⟩ := HF.out.room (j * 3 + 1) (by omega)
      replace n1 := (b3.cell (p := ⟨w.heap.size, _, none⟩) hgl).trans n1
      have f1 := (b3.frozen (p := ⟨w.heap.size, j * 3 + 1, none⟩) hgl).trans (HF.out.fz _)
      obtain ⟨m2, n2⟩ := HF.out.room (j * 3 + 2) (by omega)
      replace n2 := (b3.cell (p := ⟨w.heap.size, _, none⟩) hgl).trans n2
      have f2 := (b3.frozen (p := ⟨w.heap.size, j * 3 + 2, none⟩) hgl).trans (HF.out.fz _)
      have ST := hidH (HF.out.step b3 O3 (by rw [HP.out]; simp only [List.length_cons, List.length_nil]; omega) rfl (j * 3) HP.out.symm)
      clear HS O3 b3 HF hgl p0 p1 p2
      go_wp2
      go_roundw
      case rel => exact ⟨j + 1, by omega, by go_num, by rw [HE.out]; exact ST.out⟩
      case measure => simp [intOf]; omega
    · obtain rfl : j = r.length := by omega
      rw [List.take_length] at hF
      have HD := hidH (FillL.done (n := r.length) hF (Caps.same (by omega)))
      have HO := hidH hF.old
      clear hF hlt hj
      go_wp2
      go_ret
      exact ⟨_, rfl, HD.out, HO.out⟩
theorem ccS_Chunk (r : List ChunkM) : cc.ccL (r.flatMap ChunkM.vs) ≤ 4 * (r.length + tot.totL (r.flatMap ChunkM.vs)) := by
  induction r with
  | nil => simp [cc.ccL]
  | cons x xs ih =>
    rw [List.flatMap_cons, ccL_append, totL_append, List.length_cons]
    have : cc.ccL (ChunkM.vs x) ≤ 4 * (1 + tot.totL (ChunkM.vs x)) := by
      simp only [ChunkM.vs, cc.ccL, cc, tot.totL, tot]
      omega
    omega
section
variable {H : Type} {enc : TypeId × Value → H} {w : World} {base : Nat} {spare : Nat → Bool} {held : Bool}
theorem openS_Chunk {n : Nat} {v : Value} {x : DataW H × List MemPlace} (h : DataW.trod enc Try.prog w base spare held n 23 [v] = some x) : ∃ r : List ChunkM, Rd w (st_Chunk r) v ∧ WfV (st_Chunk r) :=
  open_st (f := ChunkM.vs) (W := 3) (fun _ => rfl) (by decide) Try.underlying23 (by kernel_rfl) (fun _ _ _ h => open_Chunk h) h
end
structure ChunksResultM where
  Code : Int
  Chunks : List ChunkM
def ChunksResultM.vs (x : ChunksResultM) : List V := [.int x.Code, st_Chunk x.Chunks]
theorem shape_ChunksResult {w : World} {n0 : Int} {r1 : List ChunkM} {vs : List Value} (h : RdA w [.int n0, st_Chunk r1] vs) : ∃ (A1 : Option Addr) (c1 : Nat), vs = [.int .i64 n0, .slice A1 r1.length c1] := by
  obtain ⟨q0, e0, t0⟩ := h.int_out
  subst e0
  obtain ⟨v1, q1, e1, h1, t1⟩ := t0.any_out
  obtain ⟨A1, c1, a1⟩ := st_Chunk_sh h1
  subst e1 a1
  have z := t1.nil_out
  subst z
  exact ⟨A1, c1, rfl⟩
set_option maxRecDepth 100000 in
set_option maxHeartbeats 1000000 in
theorem eq_ChunksResult (n0 : Int) (r1 : List ChunkM) (v1 u1 : Value) (w : World) (hv1 : Rd w (st_Chunk r1) v1) (hu1 : Rd w (st_Chunk r1) u1) :
    Calls Try.prog 20 #[.agg #[.int .i64 n0, v1], .agg #[.int .i64 n0, u1]] w (EqR w) := by
  obtain ⟨A1, c1, rfl⟩ := st_Chunk_sh hv1
  obtain ⟨B1, d1, rfl⟩ := st_Chunk_sh hu1
  have K1 := (Blk.new w 37 #[.int .i64 n0, .slice A1 r1.length c1]).alloc (.cells #[.int .i64 n0, .slice B1 r1.length d1] 37)
  have K2 := Blk.new (w.alloc (.cells #[.int .i64 n0, .slice A1 r1.length c1] 37)) 37 #[.int .i64 n0, .slice B1 r1.length d1]
  have B0 := bal (bal (Below.refl w.heap.size w) (.cells #[.int .i64 n0, .slice A1 r1.length c1] 37)) (.cells #[.int .i64 n0, .slice B1 r1.length d1] 37)
  rw [World.size_alloc] at K2
  obtain ⟨W, hW⟩ : ∃ W, (w.alloc (.cells #[.int .i64 n0, .slice A1 r1.length c1] 37)).alloc (.cells #[.int .i64 n0, .slice B1 r1.length d1] 37) = W := ⟨_, rfl⟩
  rw [hW] at K1 K2 B0
  have HW := hidH hW
  have HB := hidH B0
  have HA := hidH K1
  have HC := hidH K2
  have HV1 := hidH (fun (u : World) (h : Below w.heap.size w u) => Rd.below h _ hv1)
  have HU1 := hidH (fun (u : World) (h : Below w.heap.size w u) => Rd.below h _ hu1)
  clear hW K1 K2 B0 hv1 hu1
  go_enter Try.func20, Try.ntmps20
  go_wp2_with fail
  rw [HW.out]
  refine (eqS_Chunk r1 _ _ _ (HV1.out _ HB.out) (HU1.out _ HB.out)).mono ?_
  rintro e w1 ⟨rfl, hb⟩
  replace HA := hidH (HA.out.below hb)
  replace HC := hidH (HC.out.below hb)
  replace HB := hidH (btr HB.out hb)
  clear hb
  go_wp2
  go_ret
  exact ⟨rfl, HB.out⟩
set_option maxRecDepth 100000 in
set_option maxHeartbeats 1000000 in
theorem mark_ChunksResult (n0 : Int) (r1 : List ChunkM) (v1 : Value) (S : Fp) (k : Nat) (w : World) (hS : Sub S (Wn 0 w.heap.size)) (h : OwA w [.int n0, st_Chunk r1] S [.int .i64 n0, v1]) (hk : k + vcA [.int n0, st_Chunk r1] ≤ 1000000000000) :
    Calls Try.prog 23 #[.agg #[.int .i64 n0, v1], .int .i64 k] w (MkA [.int n0, st_Chunk r1] S [.int .i64 n0, v1] k w) := by
  have hr := h.rd
  have hv1 := hr.tl.hd
  obtain ⟨A1, c1, rfl⟩ := st_Chunk_sh hv1
  clear hr hv1
  have K1 := Blk.new w 37 #[.int .i64 n0, .slice A1 r1.length c1]
  have B0 := bal (Below.refl w.heap.size w) (.cells #[.int .i64 n0, .slice A1 r1.length c1] 37)
  obtain ⟨W, hW⟩ : ∃ W, w.alloc (.cells #[.int .i64 n0, .slice A1 r1.length c1] 37) = W := ⟨_, rfl⟩
  rw [hW] at K1 B0
  have HW := hidH hW
  have HB := hidH B0
  have HA := hidH K1
  replace h := OwA.kept (Kept.of_below B0) h
  have hcnt : vcA [.int n0, st_Chunk r1] = cc (st_Chunk r1) := by simp only [vcA, vc, st_Chunk] <;> omega
  unfold MkA
  rw [hcnt] at hk ⊢
  obtain ⟨T0, s0, h, G0⟩ := OwA.step_int h
  have s0 := Sub.trans s0 hS
  have G0 := hidH G0
  obtain ⟨T1, s1, hO, G1⟩ := OwA.step (y := mkc (k) (st_Chunk r1)) h
  have s1 := Sub.trans s1 s0
  have HO := hidH hO
  have G1 := hidH G1
  clear hO h
  clear hW B0 K1
  go_enter Try.func23, Try.ntmps23
  go_wp2_with fail
  rw [HW.out]
  refine (markS_Chunk r1 T1 _ (k) _ HO.out (by omega)).mono ?_
  rintro e w1 ⟨rfl, hc, ho⟩
  replace HA := hidH (HA.out.chg hc s1)
  have HC0 := hidH hc
  obtain ⟨T2, s2, h, G2⟩ := G1.out _ hc ho
  have s2 := Sub.trans s2 s0
  have G2 := hidH G2
  clear HO hc ho
  obtain ⟨hc, h⟩ := OwA.nil_step h
  obtain ⟨hc, h⟩ := G2.out _ _ hc h
  obtain ⟨hc, h⟩ := G0.out _ _ hc h
  have HCC := hidH ((Chg.of_below HB.out).trans hc)
  have HO := hidH h
  clear hc h
  go_wp2
  go_ret
  exact ⟨rfl, HCC.out, HO.out⟩
set_option maxRecDepth 100000 in
set_option maxHeartbeats 1000000 in
theorem held_ChunksResult (n0 : Int) (r1 : List ChunkM) (v1 : Value) (k : Nat) (w : World) (hv1 : Rd w (mkc (k) (st_Chunk r1)) v1) (hk : k + vcA [.int n0, st_Chunk r1] ≤ 1000000000000) :
    Calls Try.prog 24 #[.agg #[.int .i64 n0, v1], .int .i64 k] w (HeA [.int n0, st_Chunk r1] k w) := by
  obtain ⟨A1, n1, c1, rfl⟩ := mkc_st_sh (x := st_Chunk r1) rfl hv1
  have K1 := Blk.new w 37 #[.int .i64 n0, .slice A1 n1 c1]
  have B0 := bal (Below.refl w.heap.size w) (.cells #[.int .i64 n0, .slice A1 n1 c1] 37)
  obtain ⟨W, hW⟩ : ∃ W, w.alloc (.cells #[.int .i64 n0, .slice A1 n1 c1] 37) = W := ⟨_, rfl⟩
  rw [hW] at K1 B0
  have HW := hidH hW
  have HB := hidH B0
  have HA := hidH K1
  have hcnt : vcA [.int n0, st_Chunk r1] = cc (st_Chunk r1) := by simp only [vcA, vc, st_Chunk] <;> omega
  unfold HeA
  rw [hcnt] at hk ⊢
  have HV1 := hidH (fun (u : World) (h : Below w.heap.size w u) => Rd.below h _ hv1)
  clear hW K1 B0 hv1
  go_enter Try.func24, Try.ntmps24
  go_wp2_with fail
  rw [HW.out]
  refine (heldS_Chunk r1 _ (k) _ (HV1.out _ HB.out) (by omega)).mono ?_
  rintro e w1 ⟨rfl, hb⟩
  replace HA := hidH (HA.out.below hb)
  replace HB := hidH (btr HB.out hb)
  have hpos : ¬ (((k + cc (st_Chunk r1) : Nat) : Int) < 0) := by omega
  clear hb
  go_wp2
  go_ret
  exact ⟨rfl, HB.out⟩
theorem eqA_ChunksResult (y : ChunksResultM) {vs us : List Value} {w : World} (h : RdA w y.vs vs) (k : RdA w y.vs us) : Calls Try.prog 20 #[.agg vs.toArray, .agg us.toArray] w (EqR w) := by
  obtain ⟨A1, c1, rfl⟩ := shape_ChunksResult (h)
  obtain ⟨B1, d1, rfl⟩ := shape_ChunksResult (k)
  exact eq_ChunksResult y.Code y.Chunks _ _ w h.tl.hd k.tl.hd
theorem markA_ChunksResult (y : ChunksResultM) {vs : List Value} {S : Fp} {k : Nat} {w : World} (hS : Sub S (Wn 0 w.heap.size)) (h : OwA w y.vs S vs) (hk : k + vcA y.vs ≤ 1000000000000) : Calls Try.prog 23 #[.agg vs.toArray, .int .i64 k] w (MkA y.vs S vs k w) := by
  obtain ⟨A1, c1, rfl⟩ := shape_ChunksResult (h.rd)
  exact mark_ChunksResult y.Code y.Chunks _ S k w hS h hk
theorem heldA_ChunksResult (y : ChunksResultM) {vs : List Value} {k : Nat} {w : World} (h : RdA w (mkA k y.vs) vs) (hk : k + vcA y.vs ≤ 1000000000000) : Calls Try.prog 24 #[.agg vs.toArray, .int .i64 k] w (HeA y.vs k w) := by
  obtain ⟨q0, e0, t0⟩ := RdA.int_out (n := y.Code) h
  subst e0
  obtain ⟨v1, q1, e1, h1, t1⟩ := RdA.any_out (x := mkc (k) (st_Chunk y.Chunks)) t0
  subst e1
  have z := t1.nil_out
  subst z
  exact held_ChunksResult y.Code y.Chunks _ k w h1 hk
theorem cnt_ChunksResult (y : ChunksResultM) (h : tot.totL y.vs ≤ 1048576) : vcA y.vs ≤ 1000000000 := by
  have cChunk := ccS_Chunk
  simp only [ChunksResultM.vs, vcA, vc, tot.totL, tot, cc, st_Chunk] at *
  have d1 := cChunk y.Chunks
  omega
theorem mem_ChunksResult {w : World} {g o : Nat} {y : ChunksResultM} (h : RdL w y.vs g o) : ∃ (A1 : Option Addr) (c1 : Nat), w.cell? ⟨g, o, none⟩ = some (.int .i64 y.Code) ∧ w.cell? ⟨g, o + 1, none⟩ = some (.slice A1 y.Chunks.length c1) ∧ Rd w (st_Chunk y.Chunks) (.slice A1 y.Chunks.length c1) := by
  obtain ⟨u0, p0, t0⟩ := h.get? 0 (.int y.Code) rfl
  have e0 := t0.int_out
  subst e0
  obtain ⟨u1, p1, t1⟩ := h.get? 1 (st_Chunk y.Chunks) rfl
  obtain ⟨A1, c1, e1⟩ := st_Chunk_sh t1
  subst e1
  rw [Nat.add_zero] at p0
  exact ⟨A1, c1, p0, p1, t1⟩
structure AuthResultM where
  Code : Int
  KeyId : Int
  From : Int
def AuthResultM.vs (x : AuthResultM) : List V := [.int x.Code, .int x.KeyId, .int x.From]
theorem shape_AuthResult {w : World} {n0 : Int} {n1 : Int} {n2 : Int} {vs : List Value} (h : RdA w [.int n0, .int n1, .int n2] vs) : vs = [.int .i64 n0, .int .i64 n1, .int .i64 n2] := by
  obtain ⟨q0, e0, t0⟩ := h.int_out
  subst e0
  obtain ⟨q1, e1, t1⟩ := t0.int_out
  subst e1
  obtain ⟨q2, e2, t2⟩ := t1.int_out
  subst e2
  have z := t2.nil_out
  subst z
  exact rfl
theorem mem_AuthResult {w : World} {g o : Nat} {y : AuthResultM} (h : RdL w y.vs g o) : w.cell? ⟨g, o, none⟩ = some (.int .i64 y.Code) ∧ w.cell? ⟨g, o + 1, none⟩ = some (.int .i64 y.KeyId) ∧ w.cell? ⟨g, o + 2, none⟩ = some (.int .i64 y.From) := by
  obtain ⟨u0, p0, t0⟩ := h.get? 0 (.int y.Code) rfl
  have e0 := t0.int_out
  subst e0
  obtain ⟨u1, p1, t1⟩ := h.get? 1 (.int y.KeyId) rfl
  have e1 := t1.int_out
  subst e1
  obtain ⟨u2, p2, t2⟩ := h.get? 2 (.int y.From) rfl
  have e2 := t2.int_out
  subst e2
  rw [Nat.add_zero] at p0
  exact ⟨p0, p1, p2⟩
end Go.Proofs.Ytacdnednkglobaa

/- What a call leaves that answers a number; a bool. The tree of a BytesResult. -/
namespace Go.Proofs.Ytacdnednkglobaa
open Go.RowKit Go.Deep

def IntR (n : Int) (w : World) (e : Ending) (w' : World) : Prop := e = .returned (.int .i64 n) ∧ Below w.heap.size w w'
def BolR (b : Bool) (w : World) (e : Ending) (w' : World) : Prop := e = .returned (.bool b) ∧ Below w.heap.size w w'
end Go.Proofs.Ytacdnednkglobaa

/- BytesResult (WRITTEN BY tools/kinds.py) -/
namespace Go.Proofs.Ytacdnednkglobaa
open Go.RowKit Go.Deep Go.ChangeShapes Go.WideShapes Go.ChangeAt

structure BytesResultM where
  Code : Int
  Bytes : List Int
def BytesResultM.vs (x : BytesResultM) : List V := [.int x.Code, .bs x.Bytes]
theorem shape_BytesResult {w : World} {n0 : Int} {l1 : List Int} {vs : List Value} (h : RdA w [.int n0, .bs l1] vs) : ∃ (A1 : Option Addr) (c1 : Nat), vs = [.int .i64 n0, .slice A1 l1.length c1] := by
  obtain ⟨q0, e0, t0⟩ := h.int_out
  subst e0
  obtain ⟨v1, q1, e1, h1, t1⟩ := t0.any_out
  obtain ⟨A1, c1, a1⟩ := h1.bs_sh
  subst e1 a1
  have z := t1.nil_out
  subst z
  exact ⟨A1, c1, rfl⟩
set_option maxRecDepth 100000 in
set_option maxHeartbeats 1000000 in
theorem eq_BytesResult (n0 : Int) (l1 : List Int) (v1 u1 : Value) (w : World) (hv1 : Rd w (.bs l1) v1) (hu1 : Rd w (.bs l1) u1) :
    Calls Try.prog 12 #[.agg #[.int .i64 n0, v1], .agg #[.int .i64 n0, u1]] w (EqR w) := by
  obtain ⟨A1, c1, rfl⟩ := hv1.bs_sh
  obtain ⟨B1, d1, rfl⟩ := hu1.bs_sh
  have K1 := (Blk.new w 27 #[.int .i64 n0, .slice A1 l1.length c1]).alloc (.cells #[.int .i64 n0, .slice B1 l1.length d1] 27)
  have K2 := Blk.new (w.alloc (.cells #[.int .i64 n0, .slice A1 l1.length c1] 27)) 27 #[.int .i64 n0, .slice B1 l1.length d1]
  have B0 := bal (bal (Below.refl w.heap.size w) (.cells #[.int .i64 n0, .slice A1 l1.length c1] 27)) (.cells #[.int .i64 n0, .slice B1 l1.length d1] 27)
  rw [World.size_alloc] at K2
  obtain ⟨W, hW⟩ : ∃ W, (w.alloc (.cells #[.int .i64 n0, .slice A1 l1.length c1] 27)).alloc (.cells #[.int .i64 n0, .slice B1 l1.length d1] 27) = W := ⟨_, rfl⟩
  rw [hW] at K1 K2 B0
  have HW := hidH hW
  have HB := hidH B0
  have HA := hidH K1
  have HC := hidH K2
  have HV1 := hidH (fun (u : World) (h : Below w.heap.size w u) => Rd.below h _ hv1)
  have HU1 := hidH (fun (u : World) (h : Below w.heap.size w u) => Rd.below h _ hu1)
  clear hW K1 K2 B0 hv1 hu1
  go_enter Try.func12, Try.ntmps12
  go_wp2_with fail
  rw [HW.out]
  refine (eqB_rd l1 _ _ _ (HV1.out _ HB.out) (HU1.out _ HB.out)).mono ?_
  rintro e w1 ⟨rfl, hb⟩
  replace HA := hidH (HA.out.below hb)
  replace HC := hidH (HC.out.below hb)
  replace HB := hidH (btr HB.out hb)
  clear hb
  go_wp2
  go_ret
  exact ⟨rfl, HB.out⟩
set_option maxRecDepth 100000 in
set_option maxHeartbeats 1000000 in
theorem mark_BytesResult (n0 : Int) (l1 : List Int) (v1 : Value) (S : Fp) (k : Nat) (w : World) (hS : Sub S (Wn 0 w.heap.size)) (h : OwA w [.int n0, .bs l1] S [.int .i64 n0, v1]) (hk : k + vcA [.int n0, .bs l1] ≤ 1000000000000) :
    Calls Try.prog 15 #[.agg #[.int .i64 n0, v1], .int .i64 k] w (MkA [.int n0, .bs l1] S [.int .i64 n0, v1] k w) := by
  have hr := h.rd
  have hv1 := hr.tl.hd
  obtain ⟨A1, c1, rfl⟩ := hv1.bs_sh
  clear hr hv1
  have K1 := Blk.new w 27 #[.int .i64 n0, .slice A1 l1.length c1]
  have B0 := bal (Below.refl w.heap.size w) (.cells #[.int .i64 n0, .slice A1 l1.length c1] 27)
  obtain ⟨W, hW⟩ : ∃ W, w.alloc (.cells #[.int .i64 n0, .slice A1 l1.length c1] 27) = W := ⟨_, rfl⟩
  rw [hW] at K1 B0
  have HW := hidH hW
  have HB := hidH B0
  have HA := hidH K1
  replace h := OwA.kept (Kept.of_below B0) h
  have hcnt : vcA [.int n0, .bs l1] = cc (.bs l1) := by simp only [vcA, vc] <;> omega
  unfold MkA
  rw [hcnt] at hk ⊢
  obtain ⟨T0, s0, h, G0⟩ := OwA.step_int h
  have s0 := Sub.trans s0 hS
  have G0 := hidH G0
  obtain ⟨T1, s1, hO, G1⟩ := OwA.step (y := mkc (k) (.bs l1)) h
  have s1 := Sub.trans s1 s0
  have HO := hidH hO
  have G1 := hidH G1
  clear hO h
  clear hW B0 K1
  go_enter Try.func15, Try.ntmps15
  go_wp2_with fail
  rw [HW.out]
  refine (markB_ow l1 T1 _ (k) _ HO.out (by omega)).mono ?_
  rintro e w1 ⟨rfl, hc, ho⟩
  replace HA := hidH (HA.out.chg hc s1)
  have HC0 := hidH hc
  obtain ⟨T2, s2, h, G2⟩ := G1.out _ hc ho
  have s2 := Sub.trans s2 s0
  have G2 := hidH G2
  clear HO hc ho
  obtain ⟨hc, h⟩ := OwA.nil_step h
  obtain ⟨hc, h⟩ := G2.out _ _ hc h
  obtain ⟨hc, h⟩ := G0.out _ _ hc h
  have HCC := hidH ((Chg.of_below HB.out).trans hc)
  have HO := hidH h
  clear hc h
  go_wp2
  go_ret
  exact ⟨rfl, HCC.out, HO.out⟩
set_option maxRecDepth 100000 in
set_option maxHeartbeats 1000000 in
theorem held_BytesResult (n0 : Int) (l1 : List Int) (v1 : Value) (k : Nat) (w : World) (hv1 : Rd w (mkc (k) (.bs l1)) v1) (hk : k + vcA [.int n0, .bs l1] ≤ 1000000000000) :
    Calls Try.prog 16 #[.agg #[.int .i64 n0, v1], .int .i64 k] w (HeA [.int n0, .bs l1] k w) := by
  obtain ⟨A1, n1, c1, rfl⟩ := mkc_bs_sh hv1
  have K1 := Blk.new w 27 #[.int .i64 n0, .slice A1 n1 c1]
  have B0 := bal (Below.refl w.heap.size w) (.cells #[.int .i64 n0, .slice A1 n1 c1] 27)
  obtain ⟨W, hW⟩ : ∃ W, w.alloc (.cells #[.int .i64 n0, .slice A1 n1 c1] 27) = W := ⟨_, rfl⟩
  rw [hW] at K1 B0
  have HW := hidH hW
  have HB := hidH B0
  have HA := hidH K1
  have hcnt : vcA [.int n0, .bs l1] = cc (.bs l1) := by simp only [vcA, vc] <;> omega
  unfold HeA
  rw [hcnt] at hk ⊢
  have HV1 := hidH (fun (u : World) (h : Below w.heap.size w u) => Rd.below h _ hv1)
  clear hW K1 B0 hv1
  go_enter Try.func16, Try.ntmps16
  go_wp2_with fail
  rw [HW.out]
  refine (heldB_rd l1 _ (k) _ (HV1.out _ HB.out) (by omega)).mono ?_
  rintro e w1 ⟨rfl, hb⟩
  replace HA := hidH (HA.out.below hb)
  replace HB := hidH (btr HB.out hb)
  have hpos : ¬ (((k + cc (.bs l1) : Nat) : Int) < 0) := by omega
  clear hb
  go_wp2
  go_ret
  exact ⟨rfl, HB.out⟩
theorem eqA_BytesResult (y : BytesResultM) {vs us : List Value} {w : World} (h : RdA w y.vs vs) (k : RdA w y.vs us) : Calls Try.prog 12 #[.agg vs.toArray, .agg us.toArray] w (EqR w) := by
  obtain ⟨A1, c1, rfl⟩ := shape_BytesResult (h)
  obtain ⟨B1, d1, rfl⟩ := shape_BytesResult (k)
  exact eq_BytesResult y.Code y.Bytes _ _ w h.tl.hd k.tl.hd
theorem markA_BytesResult (y : BytesResultM) {vs : List Value} {S : Fp} {k : Nat} {w : World} (hS : Sub S (Wn 0 w.heap.size)) (h : OwA w y.vs S vs) (hk : k + vcA y.vs ≤ 1000000000000) : Calls Try.prog 15 #[.agg vs.toArray, .int .i64 k] w (MkA y.vs S vs k w) := by
  obtain ⟨A1, c1, rfl⟩ := shape_BytesResult (h.rd)
  exact mark_BytesResult y.Code y.Bytes _ S k w hS h hk
theorem heldA_BytesResult (y : BytesResultM) {vs : List Value} {k : Nat} {w : World} (h : RdA w (mkA k y.vs) vs) (hk : k + vcA y.vs ≤ 1000000000000) : Calls Try.prog 16 #[.agg vs.toArray, .int .i64 k] w (HeA y.vs k w) := by
  obtain ⟨q0, e0, t0⟩ := RdA.int_out (n := y.Code) h
  subst e0
  obtain ⟨v1, q1, e1, h1, t1⟩ := RdA.any_out (x := mkc (k) (.bs y.Bytes)) t0
  subst e1
  have z := t1.nil_out
  subst z
  exact held_BytesResult y.Code y.Bytes _ k w h1 hk
theorem cnt_BytesResult (y : BytesResultM) (h : tot.totL y.vs ≤ 1048576) : vcA y.vs ≤ 1000000000 := by
  simp only [BytesResultM.vs, vcA, vc, tot.totL, tot, cc] at *
  omega
theorem mem_BytesResult {w : World} {g o : Nat} {y : BytesResultM} (h : RdL w y.vs g o) : ∃ (A1 : Option Addr) (c1 : Nat), w.cell? ⟨g, o, none⟩ = some (.int .i64 y.Code) ∧ w.cell? ⟨g, o + 1, none⟩ = some (.slice A1 y.Bytes.length c1) ∧ Rd w (.bs y.Bytes) (.slice A1 y.Bytes.length c1) := by
  obtain ⟨u0, p0, t0⟩ := h.get? 0 (.int y.Code) rfl
  have e0 := t0.int_out
  subst e0
  obtain ⟨u1, p1, t1⟩ := h.get? 1 (.bs y.Bytes) rfl
  obtain ⟨A1, c1, e1⟩ := t1.bs_sh
  subst e1
  rw [Nat.add_zero] at p0
  exact ⟨A1, c1, p0, p1, t1⟩
end Go.Proofs.Ytacdnednkglobaa

/- What SerialLess answers, the program's and the model's, and what the comparison of two IntResults answers. No condition. -/
namespace Go.Proofs.Ytacdnednkglobaa
open Go.RowKit

def lessB (a b : Int) : Bool := inB (gapV a b) 1 2147483647
theorem gapV_no {a b : Int} (h : ¬ (IsW a ∧ IsW b)) : gapV a b = 0 := by rw [gapV, if_neg h]
theorem addC_no {a b : Int} (h : ¬ (IsW a ∧ IsW b)) : addC a b = 3 := by rw [addC, if_neg h]
theorem addC_yes {a b : Int} (h : IsW a ∧ IsW b) : addC a b = 0 := by rw [addC, if_pos h]

end Go.Proofs.Ytacdnednkglobaa
