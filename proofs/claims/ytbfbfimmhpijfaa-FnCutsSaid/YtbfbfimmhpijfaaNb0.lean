import Derived.Test.YtbfbfimmhpijfaaNa9
import Derived.Test.YtbfbfimmhpijfaaNa3
import Derived.Test.YtbfbfimmhpijfaaNa1
import Derived.Test.YtbfbfimmhpijfaaUniR
import Derived.Test.YtbfbfimmhpijfaaNa2
import Derived.BigQuiet
import Derived.Test.YtbfbfimmhpijfaaWords

/- Chapter 8: the program's joinFault, JoinPieces. (WRITTEN BY tools/joinp8.py) -/
namespace Go.Proofs.Ytbfbfimmhpijfaa
open Go.RowKit Go.Deep

open Classical in
/-- joinFault's answer. -/
noncomputable def jfF (r : List DataM) : Int := if 1 ≤ r.length ∧ r.length ≤ 100 then (if pdsF r = 0 then (if whole r then 0 else 1) else pdsF r) else 2
theorem jfF_zero {r : List DataM} (h : jfF r = 0) : (1 ≤ r.length ∧ r.length ≤ 100) ∧ pdsF r = 0 ∧ whole r := by
  unfold jfF at h
  split at h
  · next h1 =>
    split at h
    · next h2 =>
      split at h
      · next h3 => exact ⟨h1, h2, h3⟩
      · cases h
    · next h2 => exact absurd h h2
  · cases h
theorem jfF_ne {r : List DataM} (h : jfF r ≠ 0) : jnR r = ⟨jfF r, 0, false, []⟩ := by
  refine jnR_bad ?_ h
  unfold jfF at h ⊢
  split at h
  · next h1 =>
    split at h
    · next h2 =>
      split at h
      · exact absurd rfl h
      · next h3 => rw [if_pos h1, if_pos h2, if_neg h3]; exact jnF_form h1 h2 h3
    · next h2 => rw [if_pos h1, if_neg h2]; exact jnF_data h1 h2
  · next h1 => rw [if_neg h1]; exact jnF_many h1
set_option maxRecDepth 100000 in
set_option maxHeartbeats 4000000 in
theorem jf_impl (r : List DataM) (v : Value) (u : World) (h : Rd u (st_Data r) v) : Calls Try.prog 54 #[v] u (IntR (jfF r) u) := by
  have hm : (r.length : Int) ≤ 9223372036854775807 := Rd.st_len h
  by_cases hlen : 1 ≤ r.length ∧ r.length ≤ 100
  case neg =>
    obtain ⟨A, c, rfl⟩ := st_Data_sh h
    have e : jfF r = 2 := by unfold jfF; rw [if_neg hlen]
    rw [e]
    by_cases hl1 : r.length < 1
    · have hl2 : ((r.length : Int) == 0) = true := by rw [beq_iff_eq]; omega
      clear h e hlen hl1
      go_enter Try.func54, Try.ntmps54
      go_wp2
      go_ret
      exact ⟨rfl, Below.refl _ _⟩
    · have hl2 : ((r.length : Int) == 0) = false := by rw [beq_eq_false_iff_ne]; omega
      have hl3 : (100 : Int) < (r.length : Int) := by omega
      clear h e hlen hl1
      go_enter Try.func54, Try.ntmps54
      go_wp2
      go_ret
      exact ⟨rfl, Below.refl _ _⟩
  obtain ⟨k, hk⟩ : ∃ k, r.length = k + 1 := ⟨r.length - 1, by omega⟩
  obtain ⟨ga, oa, c, e, hga, E0⟩ := el_Data h (j := 0) (by omega)
  rw [hk] at e
  subst e
  clear E0 hm
  have HEL := hidH (fun (j : Nat) (hj : j < r.length) (W : World) (hW : Below u.heap.size u W) => show ∃ x : DataM, r[j] = x ∧ ∃ A cA, W.cell? ⟨ga, oa + j * 7, none⟩ = some (.int .i64 x.Tsn) ∧ W.cell? ⟨ga, oa + j * 7 + 1, none⟩ = some (.int .i64 x.Stream) ∧ W.cell? ⟨ga, oa + j * 7 + 2, none⟩ = some (.int .i64 x.Seq) ∧ W.cell? ⟨ga, oa + j * 7 + 3, none⟩ = some (.bool x.First) ∧ W.cell? ⟨ga, oa + j * 7 + 4, none⟩ = some (.bool x.Last) ∧ W.cell? ⟨ga, oa + j * 7 + 5, none⟩ = some (.bool x.Unordered) ∧ W.cell? ⟨ga, oa + j * 7 + 6, none⟩ = some (.slice A x.Piece.length cA) ∧ RdA W x.vs [.int .i64 x.Tsn, .int .i64 x.Stream, .int .i64 x.Seq, .bool x.First, .bool x.Last, .bool x.Unordered, .slice A x.Piece.length cA] ∧ Bs W A x.Piece by
    obtain ⟨g', o', c', e, _, E⟩ := el_Data h hj
    injection e with e1 e2 e3
    injection e1 with e1
    injection e1 with e1 e4
    subst e1 e4
    obtain ⟨A, cA, z0, z1, z2, z3, z4, z5, z6, z⟩ := mem_Data (RdL.below hW _ hga E)
    exact ⟨r[j], rfl, A, cA, z0, z1, z2, z3, z4, z5, z6, RdA.int_mk (RdA.int_mk (RdA.int_mk (RdA.bool_mk (RdA.bool_mk (RdA.bool_mk (RdA.any_mk z RdA.nil_mk)))))), bsOf z⟩)
  have HH := hidH (fun (W : World) (hW : Below u.heap.size u W) => Rd.below hW _ h)
  have HLEN := hidH hlen
  have HK := hidH hk
  have hk1 : ((k : Int) + 1 == 0) = false := by rw [beq_eq_false_iff_ne]; omega
  have hk2 : ¬ ((100 : Int) < (k : Int) + 1) := by omega
  have hk3 : (k : Int) ≤ 100 := by omega
  clear h hlen hk
  go_enter Try.func54, Try.ntmps54
  go_wp2
  go_loopw [16] (fun i wr => ∃ j : Nat, j ≤ k + 1 ∧ i = .int .i64 j ∧ pdsF (r.take j) = 0 ∧ Below u.heap.size u wr) (fun i _ => k + 1 - (intOf i).toNat)
  case atStart => exact ⟨0, by omega, rfl, by simp [pdsF], Below.refl _ _⟩
  case round =>
    obtain ⟨j, hj, rfl, hP, hB⟩ := hrel
    by_cases hlt : j < k + 1
    · have hj0 : (0 : Int) ≤ (j : Int) := by omega
      have hj1 : (j : Int) < (k : Int) + 1 := by omega
      have hjr : j < r.length := by have := HK.out; omega
      obtain ⟨x, hx, A, cA, c0, c1, c2, c3, c4, c5, c6, RX, _⟩ := HEL.out j hjr wr hB
      have HT := hidH (pdsF_take r j hjr hP)
      have HN := hidH (fun (z : pdF r[j] ≠ 0) => show jfF r = pdF r[j] by
        have z2 := pdsF_first r j hjr hP z
        unfold jfF; rw [if_pos HLEN.out, if_neg (by rw [z2]; exact z), z2])
      rw [hx] at HT HN
      have B1 := hidH (bal (Below.refl wr.heap.size wr) (.cells #[.int .i64 x.Tsn, .int .i64 x.Stream, .int .i64 x.Seq, .bool x.First, .bool x.Last, .bool x.Unordered, .slice A x.Piece.length cA] 38))
      have HF := hidH (pdF_impl x _ _ (RdA.below B1.out RX))
      have HB := hidH (btr hB B1.out)
      obtain ⟨f, hf⟩ : ∃ f, pdF x = f := ⟨_, rfl⟩
      simp only [hf] at HF HT HN
      clear hP hB hf hx RX B1
      go_wp2_with fail
      refine HF.out.mono ?_
      rintro e w3 ⟨rfl, b3⟩
      have HB3 := hidH (btr HB.out b3)
      clear b3 HF HB c0 c1 c2 c3 c4 c5 c6
      by_cases hz : f = 0
      · have hz2 : (f != 0) = false := by rw [bne_eq_false_iff_eq]; exact hz
        have HZ := hidH (HT.out.trans hz)
        clear hz HN HT
        go_wp2
        go_roundw
        case rel => exact ⟨j + 1, by omega, by go_num, HZ.out, HB3.out⟩
        case measure => simp [intOf]; omega
      · have hz2 : (f != 0) = true := by rw [bne_iff_ne]; exact hz
        have HE := hidH (HN.out hz)
        clear hz HN HT
        go_wp2
        go_ret
        exact ⟨ret_int HE.out.symm, HB3.out⟩
    · obtain rfl : j = k + 1 := by omega
      have hP2 : pdsF r = 0 := by have := HK.out; rwa [← this, List.take_length] at hP
      have HW := hidH (areWhole_any r k _ wr (HH.out wr hB) HK.out (by have := HLEN.out; have := HK.out; omega) (pdsF_all r hP2))
      have HY := hidH (fun (t : whole r) => show jfF r = 0 by unfold jfF; rw [if_pos HLEN.out, if_pos hP2, if_pos t])
      have HN := hidH (fun (t : ¬ whole r) => show jfF r = 1 by unfold jfF; rw [if_pos HLEN.out, if_pos hP2, if_neg t])
      have HB := hidH hB
      clear hP hP2 hB hlt hj
      go_wp2_with fail
      refine HW.out.mono ?_
      rintro e w3 ⟨b, rfl, hb, b3⟩
      have HB3 := hidH (btr HB.out b3)
      have HV := hidH hb
      clear b3 hb HW HB
      cases b
      · have HE := hidH (HN.out (fun t => by have := HV.out.2 t; cases this))
        clear HV HY HN
        go_wp2
        go_ret
        exact ⟨ret_int HE.out.symm, HB3.out⟩
      · have HE := hidH (HY.out (HV.out.1 rfl))
        clear HV HY HN
        go_wp2
        go_ret
        exact ⟨ret_int HE.out.symm, HB3.out⟩
set_option maxRecDepth 100000 in
set_option maxHeartbeats 8000000 in
theorem jn_impl (r : List DataM) (v : Value) (u : World) (h : Rd u (st_Data r) v) (_ : WfV (st_Data r)) (_ : tot (st_Data r) ≤ 1048576) : Calls Try.prog 13 #[v] u (Res u (jnR r).vs) := by
  have B1 := bal (Below.refl u.heap.size u) (.cells #[.int .i64 0, .int .i64 0, .bool false, .slice none 0 0] 34)
  have R1 := Blk.new u 34 #[.int .i64 0, .int .i64 0, .bool false, .slice none 0 0]
  have s1 : (u.alloc (.cells #[.int .i64 0, .int .i64 0, .bool false, .slice none 0 0] 34)).heap.size = u.heap.size + 1 := World.size_alloc _ _
  obtain ⟨w1, hw1⟩ : ∃ w1, u.alloc (.cells #[.int .i64 0, .int .i64 0, .bool false, .slice none 0 0] 34) = w1 := ⟨_, rfl⟩
  rw [hw1] at B1 R1 s1
  have HW1 := hidH hw1
  have HB1 := hidH B1
  have HR1 := hidH R1
  have HJF := hidH (jf_impl r v w1 (Rd.below B1 _ h))
  clear hw1 B1 R1
  obtain ⟨F, hF⟩ : ∃ F, jfF r = F := ⟨_, rfl⟩
  rw [hF] at HJF
  have HFF := hidH hF
  by_cases hz : F = 0
  case neg =>
    have hz2 : (F != 0) = true := by rw [bne_iff_ne]; exact hz
    have HE := hidH (show jnR r = ⟨F, 0, false, []⟩ by rw [← HFF.out]; exact jfF_ne (by rw [HFF.out]; exact hz))
    obtain ⟨A, c, rfl⟩ := st_Data_sh h
    clear h hz hF
    go_enter Try.func13, Try.ntmps13
    go_wp2_with fail
    rw [HW1.out]
    refine HJF.out.mono ?_
    rintro e w3 ⟨rfl, b3⟩
    have HB3 := hidH (btr HB1.out b3)
    have R9 := HR1.out.below b3
    have x0 := R9.cell 0
    have x1 := R9.cell 1
    have x2 := R9.cell 2
    have x3 := R9.cell 3
    have v0 := R9.frozen 0
    have v1 := R9.frozen 1
    have v2 := R9.frozen 2
    have v3 := R9.frozen 3
    simp only [List.getElem?_toArray, List.getElem?_cons_succ, List.getElem?_cons_zero] at x0 x1 x2 x3
    have hr9 := R9.lt
    clear R9
    clear b3 HJF
    go_wp2
    exact bodyPost_ret (v := .agg #[.int .i64 F, .int .i64 0, .bool false, .slice none 0 0]) (by simp [results, Try.results13, go_sem, x0, x1, x2, x3]) rfl ⟨_, rfl, by rw [HE.out]; exact OwN.int _ (OwN.int 0 (OwN.bool false (OwN.empty _ (Nat.le_refl _)))), bst (bst (bst (bst HB3.out (Nat.le_refl _) _) (Nat.le_refl _) _) (Nat.le_refl _) _) (Nat.le_refl _) _⟩
  subst hz
  obtain ⟨hlen, hP, hwh⟩ := jfF_zero hF
  have hall := pdsF_all r hP
  have HJN := hidH (jnF_msg hlen hP hwh)
  obtain ⟨k, hk⟩ : ∃ k, r.length = k + 1 := ⟨r.length - 1, by omega⟩
  obtain ⟨ga, oa, c, e, hga, E0⟩ := el_Data h (j := 0) (by omega)
  rw [Nat.zero_mul, Nat.add_zero] at E0
  obtain ⟨p0, p1, p2, q1, p3, p4, p5, q5, p6, p7⟩ := mem_Data E0
  rw [hk] at e
  subst e
  have HEL := hidH (fun (j : Nat) (hj : j < r.length) (W : World) (hW : Below u.heap.size u W) => show ∃ x : DataM, r[j] = x ∧ ∃ A cA, W.cell? ⟨ga, oa + j * 7, none⟩ = some (.int .i64 x.Tsn) ∧ W.cell? ⟨ga, oa + j * 7 + 1, none⟩ = some (.int .i64 x.Stream) ∧ W.cell? ⟨ga, oa + j * 7 + 2, none⟩ = some (.int .i64 x.Seq) ∧ W.cell? ⟨ga, oa + j * 7 + 3, none⟩ = some (.bool x.First) ∧ W.cell? ⟨ga, oa + j * 7 + 4, none⟩ = some (.bool x.Last) ∧ W.cell? ⟨ga, oa + j * 7 + 5, none⟩ = some (.bool x.Unordered) ∧ W.cell? ⟨ga, oa + j * 7 + 6, none⟩ = some (.slice A x.Piece.length cA) ∧ RdA W x.vs [.int .i64 x.Tsn, .int .i64 x.Stream, .int .i64 x.Seq, .bool x.First, .bool x.Last, .bool x.Unordered, .slice A x.Piece.length cA] ∧ Bs W A x.Piece by
    obtain ⟨g', o', c', e, _, E⟩ := el_Data h hj
    injection e with e1 e2 e3
    injection e1 with e1
    injection e1 with e1 e4
    subst e1 e4
    obtain ⟨A, cA, z0, z1, z2, z3, z4, z5, z6, z⟩ := mem_Data (RdL.below hW _ hga E)
    exact ⟨r[j], rfl, A, cA, z0, z1, z2, z3, z4, z5, z6, RdA.int_mk (RdA.int_mk (RdA.int_mk (RdA.bool_mk (RdA.bool_mk (RdA.bool_mk (RdA.any_mk z RdA.nil_mk)))))), bsOf z⟩)
  have HPD := hidH (fun j hj => sub_len (r := r) (j := j) hall hlen.2 hj)
  have HK := hidH hk
  have hk3 : (k : Int) ≤ 100 := by omega
  have hn0 : (0 : Int) < ((k + 1 : Nat) : Int) := by omega
  have hs0 : r[0].Stream = (jnM r).Stream := by simp only [jnM]; rw [getD_at (by omega)]
  have hu0 : r[0].Unordered = (jnM r).Unordered := by simp only [jnM]; rw [getD_at (by omega)]
  have hl0 : r.flatMap DataM.Piece = (jnM r).Bytes := rfl
  rw [hs0] at q1
  rw [hu0] at q5
  have HOK := hidH (fun (z : msF (jnM r) = 0) => jnR_ok (HJN.out.trans z))
  have HNO := hidH (fun (z : msF (jnM r) ≠ 0) => jnR_bad HJN.out z)
  obtain ⟨M, hM⟩ : ∃ M, jnM r = M := ⟨_, rfl⟩
  simp only [hM] at q1 q5 hl0 HOK HNO
  have HL := hidH hl0
  clear p2 p3 p4 p5 p6 p7 E0
  clear hs0 hu0 hl0 hM HJN hwh hP hall hlen hF h hk
  go_enter Try.func13, Try.ntmps13
  go_wp2_with fail
  rw [HW1.out]
  refine HJF.out.mono ?_
  rintro e w3 ⟨rfl, b3⟩
  have hga3 : ga < w3.heap.size := by have := b3.size; omega
  have HB3 := hidH (btr HB1.out b3)
  have HR3 := hidH (HR1.out.below b3)
  have z1 := (HB3.out.cell (p := ⟨ga, oa + 1, none⟩) hga).trans q1
  have z5 := (HB3.out.cell (p := ⟨ga, oa + 5, none⟩) hga).trans q5
  have hs3 := b3.size
  clear b3 HJF q1 q5 HW1
  go_wp2_with fail
  refine wp_region_any (by kernel_rfl) ?_
  refine regJI _ _ _ _ _ _ _ _ w3 ga oa (k + 1) c M.Stream M.Unordered hga3 z1 z5 hn0 (by kernel_rfl) (by kernel_rfl) (by kernel_rfl) rfl (fun h => by cases h) (Below.refl _ _).drew ?_
  intros
  rename_i w4 b4 hT
  obtain ⟨g, rfl, KM, hgg⟩ := hT
  have hgu : u.heap.size < g := by omega
  have HM4 := hidH (MB.nil KM)
  have HB4 := hidH (btr HB3.out b4)
  have HR4 := hidH (HR3.out.below b4)
  clear KM b4 z1 z5 hga3 HB3 HR3
  go_wp2
  go_loopw [25] (fun i wr => ∃ j : Nat, j ≤ k + 1 ∧ i = .int .i64 j ∧ MB wr g M.Stream M.Unordered ((r.take j).flatMap DataM.Piece) ∧ Below g w4 wr) (fun i _ => k + 1 - (intOf i).toNat)
  case atStart => exact ⟨0, by omega, rfl, by simpa using HM4.out, Below.refl _ _⟩
  case round =>
    obtain ⟨j, hj, rfl, hMB, hBg⟩ := hrel
    by_cases hlt : j < k + 1
    · have hj0 : (0 : Int) ≤ (j : Int) := by omega
      have hj1 : (j : Int) < (k : Int) + 1 := by omega
      have hjr : j < r.length := by have := HK.out; omega
      have hBu := HB4.out.trans (hBg.mono (Nat.le_of_lt hgu))
      obtain ⟨x, hx, A, cA, c0, c1, c2, c3, c4, c5, c6, _, SX⟩ := HEL.out j hjr wr hBu
      have hlen := HPD.out j (by omega)
      have hlen2 := HPD.out (j + 1) hjr
      have hfl := take_fl hjr
      rw [hfl, List.length_append] at hlen2
      rw [hx] at hlen2 hfl
      obtain ⟨l, hl⟩ : ∃ l, (r.take j).flatMap DataM.Piece = l := ⟨_, rfl⟩
      rw [hl] at hMB hlen hlen2 hfl
      have HFL := hidH hfl
      have hsum : l.length + x.Piece.length ≤ 4000000 := by omega
      have HSUM := hidH hsum
      obtain ⟨v0, K0, O0⟩ := hMB
      have B1 := bal (Below.refl wr.heap.size wr) (.cells #[.int .i64 x.Tsn, .int .i64 x.Stream, .int .i64 x.Seq, .bool x.First, .bool x.Last, .bool x.Unordered, .slice A x.Piece.length cA] 38)
      have K1 := K0.below B1
      have HO1 := hidH (own_below0 O0 B1)
      have HSX := hidH (bs_below SX B1)
      have HBG := hidH (hBg.trans (B1.mono (Nat.le_of_lt K0.lt)))
      have hgl1 : g + 1 ≤ (wr.alloc (.cells #[.int .i64 x.Tsn, .int .i64 x.Stream, .int .i64 x.Seq, .bool x.First, .bool x.Last, .bool x.Unordered, .slice A x.Piece.length cA] 38)).heap.size := K1.lt
      have hglw := K0.lt
      have k0 := K1.cell 2
      simp only [List.getElem?_toArray, List.getElem?_cons_succ, List.getElem?_cons_zero] at k0
      have HK1 := hidH K1
      have HGL := hidH hgl1
      clear hx hl hfl hlen hlen2 hsum K0 O0 SX hBg hBu B1 K1 hgl1
      go_wp2_with (at_builtin; refine wpList_append_bs rfl _ _ rfl (g + 1) _ _ _ rfl HO1.out A x.Piece cA rfl HSX.out HSUM.out HGL.out ?_)
      intro v6 w6 o6 g6
      have BB : Below (g + 1) _ w6 := (Below.refl (g + 1) _).grown g6 HGL.out (fun y hy => (HO1.out.lt y hy).1)
      have K6 : Blk w6 g 25 _ := (BB.block g (Nat.lt_succ_self g)).trans HK1.out
      have HBG6 := hidH (HBG.out.trans (BB.mono (Nat.le_succ g)))
      have y0 := K6.cell 2
      have f0 := K6.frozen 2
      have hg6 := K6.lt
      simp only [List.getElem?_toArray, List.getElem?_cons_succ, List.getElem?_cons_zero] at y0
      have o7 : w6.ownsRow (g + 1) 5 1 v6 (l ++ x.Piece).length ((l ++ x.Piece).map (Value.int .u8)) := by simpa using o6
      obtain ⟨A6, c6', e6, _⟩ := own_ob o7
      have HO7 := hidH o7
      have HK6 := hidH K6
      obtain ⟨n6, hn6⟩ : ∃ n6, (l ++ x.Piece).length = n6 := ⟨_, rfl⟩
      rw [hn6] at e6
      subst e6
      have HFL2 := hidH (fun W (m : MB W g M.Stream M.Unordered (l ++ x.Piece)) => show MB W g M.Stream M.Unordered ((r.take (j + 1)).flatMap DataM.Piece) from by rw [HFL.out]; exact m)
      clear o6 g6 BB K6 o7 k0 HK1 HO1 HSX HBG HGL HFL hn6 c0 c1 c2 c3 c4 c5 c6
      go_wp2
      go_roundw
      case rel => exact ⟨j + 1, by omega, by go_num, HFL2.out _ ⟨_, HK6.out.put 2 _, own_kept HO7.out (set_win w6 g 2 _) (Nat.lt_succ_self g)⟩, HBG6.out.setCell (p := ⟨g, 2, none⟩) (Nat.le_refl g) _⟩
      case measure => simp [intOf]; omega
    · obtain rfl : j = k + 1 := by omega
      rw [← HK.out, List.take_length, HL.out] at hMB
      obtain ⟨A4, c4, KM, OM⟩ := hMB.own
      have R9 : Blk wr u.heap.size 34 #[.int .i64 0, .int .i64 0, .bool false, .slice none 0 0] := (hBg.block u.heap.size hgu).trans HR4.out
      have HB5 := hidH (HB4.out.trans (hBg.mono (Nat.le_of_lt hgu)))
      have HR5 := hidH R9
      have HOM := hidH OM
      have HKM := hidH KM
      have HMS := hidH (msFw_impl M [.int .i64 M.Stream, .bool M.Unordered, .slice A4 M.Bytes.length c4] wr (RdA.int_mk (RdA.bool_mk (RdA.any_mk OM.rd RdA.nil_mk))))
      have y0 := KM.cell 0
      have y1 := KM.cell 1
      have y2 := KM.cell 2
      simp only [List.getElem?_toArray, List.getElem?_cons_succ, List.getElem?_cons_zero] at y0 y1 y2
      have hgl := KM.lt
      clear R9 KM OM hMB hBg hlt hj
      go_wp2_with fail
      refine HMS.out.mono ?_
      rintro e w6 ⟨rfl, b6⟩
      have HO6 := hidH (HOM.out.below b6)
      have HB6 := hidH (btr HB5.out b6)
      have K6 := HKM.out.below b6
      clear y0 y1 y2
      have y0 := K6.cell 0
      have y1 := K6.cell 1
      have y2 := K6.cell 2
      simp only [List.getElem?_toArray, List.getElem?_cons_succ, List.getElem?_cons_zero] at y0 y1 y2
      have g6 := K6.lt
      clear K6
      have R9 := HR5.out.below b6
      have x0 := R9.cell 0
      have x1 := R9.cell 1
      have x2 := R9.cell 2
      have x3 := R9.cell 3
      have v0 := R9.frozen 0
      have v1 := R9.frozen 1
      have v2 := R9.frozen 2
      have v3 := R9.frozen 3
      simp only [List.getElem?_toArray, List.getElem?_cons_succ, List.getElem?_cons_zero] at x0 x1 x2 x3
      have hr9 := R9.lt
      clear R9
      have hsz6 := b6.size
      have hszw := HB5.out.size
      obtain ⟨f, hf⟩ : ∃ f, msF M = f := ⟨_, rfl⟩
      simp only [hf] at HOK HNO
      rw [hf]
      clear hf HMS
      by_cases hz : f = 0
      · have hz2 : (f != 0) = false := by rw [bne_eq_false_iff_eq]; exact hz
        have HE := hidH (HOK.out hz)
        clear hz HOK HNO b6
        go_wp2
        have PF : ∀ a b c d : Value, OwN u.heap.size ((((w6.setCell ⟨u.heap.size, 0, none⟩ a).setCell ⟨u.heap.size, 1, none⟩ b).setCell ⟨u.heap.size, 2, none⟩ c).setCell ⟨u.heap.size, 3, none⟩ d).heap.size ((((w6.setCell ⟨u.heap.size, 0, none⟩ a).setCell ⟨u.heap.size, 1, none⟩ b).setCell ⟨u.heap.size, 2, none⟩ c).setCell ⟨u.heap.size, 3, none⟩ d) (.int 0 :: M.vs) [.int .i64 0, .int .i64 M.Stream, .bool M.Unordered, .slice A4 M.Bytes.length c4] := fun a b c d =>
          OwN.int 0 (OwN.int _ (OwN.bool _ (OwN.cons (((((HO6.out.win (set_win _ u.heap.size 0 a) (.inr (by omega))).win (set_win _ u.heap.size 1 b) (.inr (by omega))).win (set_win _ u.heap.size 2 c) (.inr (by omega))).win (set_win _ u.heap.size 3 d) (.inr (by omega))).mono (B' := u.heap.size) (by omega) (by simp [World.setCell]; omega) (Nat.le_refl _)) (OwN.nil (Nat.le_refl _)) (by simp [World.setCell]; omega) (Nat.le_refl _))))
        exact bodyPost_ret (v := .agg #[.int .i64 0, .int .i64 M.Stream, .bool M.Unordered, .slice A4 M.Bytes.length c4]) (by simp [results, Try.results13, go_sem, x0, x1, x2, x3]) rfl ⟨_, rfl, by rw [HE.out]; exact PF _ _ _ _, bst (bst (bst (bst HB6.out (Nat.le_refl _) _) (Nat.le_refl _) _) (Nat.le_refl _) _) (Nat.le_refl _) _⟩
      · have hz2 : (f != 0) = true := by rw [bne_iff_ne]; exact hz
        have HE := hidH (HNO.out hz)
        clear hz HOK HNO b6
        go_wp2
        exact bodyPost_ret (v := .agg #[.int .i64 f, .int .i64 0, .bool false, .slice none 0 0]) (by simp [results, Try.results13, go_sem, x0, x1, x2, x3]) rfl ⟨_, rfl, by rw [HE.out]; exact OwN.int _ (OwN.int 0 (OwN.bool false (OwN.empty _ (Nat.le_refl _)))), bst (bst (bst (bst HB6.out (Nat.le_refl _) _) (Nat.le_refl _) _) (Nat.le_refl _) _) (Nat.le_refl _) _⟩
theorem jnR_len (r : List DataM) (_ : WfV (st_Data r)) (_ : tot (st_Data r) ≤ 1048576) : vcA (jnR r).vs ≤ 1000000000 := by
  by_cases h : jnF r = 0
  · rw [jnR_ok h]
    have h1 : 1 ≤ r.length ∧ r.length ≤ 100 := by
      by_cases c : 1 ≤ r.length ∧ r.length ≤ 100
      · exact c
      · rw [jnF_many c] at h; cases h
    have h2 : pdsF r = 0 := by
      by_cases c : pdsF r = 0
      · exact c
      · rw [jnF_data h1 c] at h; exact absurd h c
    have h3 := jn_len (pdsF_all r h2)
    simp only [MessageResultM.vs, vcA, vc, cc]
    have h4 : (jnM r).Bytes.length ≤ r.length * 100 := h3
    omega
  · rw [jnR_bad rfl h]; simp [MessageResultM.vs, vcA, vc, cc]
end Go.Proofs.Ytbfbfimmhpijfaa

/- Chapter 8: SameMessages, the program's and the model's. (WRITTEN BY tools/same8.py) -/
namespace Go.Proofs.Ytbfbfimmhpijfaa
open Go.RowKit Go.Deep

theorem at_Message {w : World} {r : List MessageM} {v : Value} (h : Rd w (st_Message r) v) {j : Nat} (hj : j < r.length) :
    ∃ g o c A cA, v = .slice (some ⟨g, o, none⟩) r.length c ∧ g < w.heap.size ∧ w.cell? ⟨g, o + j * 3, none⟩ = some (.int .i64 r[j].Stream) ∧ w.cell? ⟨g, o + j * 3 + 1, none⟩ = some (.bool r[j].Unordered) ∧ w.cell? ⟨g, o + j * 3 + 2, none⟩ = some (.slice A r[j].Bytes.length cA) ∧ Rd w (.bs r[j].Bytes) (.slice A r[j].Bytes.length cA) := by
  obtain ⟨gb, ob, cb, eb, hgb, RB⟩ := Rd.row (f := MessageM.vs) (W := 3) (fun _ => rfl) h hj
  obtain ⟨u0, p0, t0⟩ := RB 0 (.int r[j].Stream) rfl
  obtain ⟨u1, p1, t1⟩ := RB 1 (.bool r[j].Unordered) rfl
  obtain ⟨u2, p2, t2⟩ := RB 2 (.bs r[j].Bytes) rfl
  have e0 := t0.int_out
  subst e0
  have e1 := t1.bool_out
  subst e1
  rw [Nat.add_zero] at p0
  obtain ⟨A, cA, e⟩ := t2.bs_sh
  subst e
  exact ⟨gb, ob, cb, A, cA, eb, hgb, p0, p1, p2, t2⟩
theorem wfb_Message {r : List MessageM} (h : WfV (st_Message r)) : ∀ x ∈ r, Bytes x.Bytes := by
  intro x hx
  have h1 : WfA (r.flatMap MessageM.vs) := h
  induction r with
  | nil => simp at hx
  | cons y r ih =>
    rw [List.flatMap_cons] at h1
    have h2 : WfV (.int y.Stream) ∧ WfV (.bool y.Unordered) ∧ WfV (.bs y.Bytes) ∧ WfA (r.flatMap MessageM.vs) := h1
    rcases List.mem_cons.1 hx with rfl | hx
    · exact h2.2.2.1
    · exact ih h2.2.2.2 hx h2.2.2.2
set_option maxHeartbeats 1000000 in
theorem sameMessage_any (x y : MessageM) (A B : Option Addr) (ca cb : Nat) (w : World) (hA : Bs w A x.Bytes) (hB : Bs w B y.Bytes) (bx : Bytes x.Bytes) (by_ : Bytes y.Bytes) :
    Calls Try.prog 62 #[.agg #[.int .i64 x.Stream, .bool x.Unordered, .slice A x.Bytes.length ca], .agg #[.int .i64 y.Stream, .bool y.Unordered, .slice B y.Bytes.length cb]] w (EqG x y w) := by
  have B2 := bal (bal (Below.refl w.heap.size w) (.cells #[.int .i64 x.Stream, .bool x.Unordered, .slice A x.Bytes.length ca] 25)) (.cells #[.int .i64 y.Stream, .bool y.Unordered, .slice B y.Bytes.length cb] 25)
  have HE := hidH (fun u h1 h2 => bEqual_any A B x.Bytes y.Bytes ca cb u h1 h2 bx by_)
  have HB := hidH B2
  have HA1 := hidH (bs_below hA B2)
  have HB1 := hidH (bs_below hB B2)
  have HQ := hidH (@msg_eq x y)
  clear hA hB bx by_ B2
  by_cases e0 : x.Stream = y.Stream
  case neg =>
    have f0 : (x.Stream == y.Stream) = false := by rw [beq_eq_false_iff_ne]; exact e0
    have HX := hidH (show ¬ x = y from fun h => e0 (HQ.out.1 h).1)
    clear HQ e0
    go_enter Try.func62, Try.ntmps62
    go_wp2
    go_ret
    exact ⟨false, rfl, ⟨(fun h => by cases h), fun h => absurd h HX.out⟩, HB.out⟩
  have f0 : (x.Stream == y.Stream) = true := by rw [beq_iff_eq]; exact e0
  by_cases e1 : x.Unordered = y.Unordered
  case neg =>
    have f1 : (x.Unordered == y.Unordered) = false := by rw [beq_eq_false_iff_ne]; exact e1
    have HX := hidH (show ¬ x = y from fun h => e1 (HQ.out.1 h).2.1)
    clear HQ e0 e1
    go_enter Try.func62, Try.ntmps62
    go_wp2
    go_ret
    exact ⟨false, rfl, ⟨(fun h => by cases h), fun h => absurd h HX.out⟩, HB.out⟩
  have f1 : (x.Unordered == y.Unordered) = true := by rw [beq_iff_eq]; exact e1
  have HX := hidH (fun (h : x.Bytes = y.Bytes) => HQ.out.2 ⟨e0, e1, h⟩)
  have HY := hidH (fun (h : x = y) => (HQ.out.1 h).2.2)
  clear HQ e0 e1
  go_enter Try.func62, Try.ntmps62
  go_wp2_with fail
  refine (HE.out _ HA1.out HB1.out).mono ?_
  rintro e w3 ⟨rfl, rfl⟩
  clear HE
  obtain ⟨d, hd⟩ : ∃ d : Bool, decide (x.Bytes = y.Bytes) = d := ⟨_, rfl⟩
  rw [hd]
  have HD := hidH hd
  clear hd
  go_wp2
  go_ret
  refine ⟨d, by cases d <;> rfl, ⟨fun h => HX.out (by have := HD.out; rw [h] at this; exact of_decide_eq_true this), fun h => by rw [← HD.out]; exact decide_eq_true (HY.out h)⟩, HB.out⟩
set_option maxRecDepth 100000 in
set_option maxHeartbeats 2000000 in
theorem eqFunc_Message (a b : List MessageM) (v u : Value) (w : World) (hA : Rd w (st_Message a) v) (hB : Rd w (st_Message b) u) (ba : ∀ x ∈ a, Bytes x.Bytes) (bb : ∀ x ∈ b, Bytes x.Bytes) :
    Calls Try.prog 61 #[v, u, .func (.func 62) #[] #[]] w (EqG a b w) := by
  obtain ⟨PA, ca, rfl⟩ := st_Message_sh hA
  obtain ⟨PB, cb, rfl⟩ := st_Message_sh hB
  have hm : (a.length : Int) ≤ 9223372036854775807 := Rd.st_len hA
  have HA := hidH (fun (u : World) (h : Below w.heap.size w u) => Rd.below h _ hA)
  have HB := hidH (fun (u : World) (h : Below w.heap.size w u) => Rd.below h _ hB)
  have HBA := hidH ba
  have HBB := hidH bb
  clear hA hB ba bb
  by_cases hl : a.length = b.length
  · have hd : ((a.length : Int) != (b.length : Int)) = false := by rw [bne_eq_false_iff_eq]; omega
    have HL := hidH hl
    clear hl
    go_enter Try.func61, Try.ntmps61
    go_wp2
    go_loopw [17] (fun i wr => ∃ j : Nat, j ≤ a.length ∧ i = .int .i64 j ∧ (∀ t, t < j → a[t]? = b[t]?) ∧ Below w.heap.size w wr) (fun i _ => a.length - (intOf i).toNat)
    case atStart => exact ⟨0, by omega, rfl, fun t ht => by omega, Below.refl _ _⟩
    case round =>
      obtain ⟨j, hj, rfl, hEq, hBw⟩ := hrel
      by_cases hlt : j < a.length
      · have hj0 : (0 : Int) ≤ (j : Int) := by omega
        have hj1 : (j : Int) < (a.length : Int) := by omega
        have hlb : j < b.length := by have := HL.out; omega
        have hj2 : (j : Int) < (b.length : Int) := by omega
        obtain ⟨ga, oa, c', A, cA, e, hga, c0, c1, c2, SA⟩ := at_Message (HA.out _ hBw) hlt
        injection e with e1 e2 e3
        subst e1 e3
        obtain ⟨gb, ob, c', B, cB, e, hgb, b0, b1, b2, SB⟩ := at_Message (HB.out _ hBw) hlb
        injection e with e1 e2 e3
        subst e1 e3
        have B1 := bal (Below.refl wr.heap.size wr) (.cells #[.int .i64 a[j].Stream, .bool a[j].Unordered, .slice A a[j].Bytes.length cA] 25)
        have d0 := (B1.cell (p := ⟨gb, ob + j * 3, none⟩) hgb).trans b0
        have d1 := (B1.cell (p := ⟨gb, ob + j * 3 + 1, none⟩) hgb).trans b1
        have d2 := (B1.cell (p := ⟨gb, ob + j * 3 + 2, none⟩) hgb).trans b2
        have HNE := hidH (fun (h : a[j] ≠ b[j]) => show ¬ (a = b) from fun e => h (by subst e; rfl))
        have HEQ := hidH (fun (h : a[j] = b[j]) => show (∀ t, t < j + 1 → a[t]? = b[t]?) from fun t ht => by
          by_cases e : t = j
          · subst e; rw [List.getElem?_eq_getElem hlt, List.getElem?_eq_getElem hlb, h]
          · exact hEq t (by omega))
        have HSA := hidH (fun (u : World) (h1 : Bs u A a[j].Bytes) (h2 : Bs u B b[j].Bytes) => sameMessage_any a[j] b[j] A B cA cB u h1 h2 (HBA.out _ (List.getElem_mem hlt)) (HBB.out _ (List.getElem_mem hlb)))
        obtain ⟨x, hx⟩ : ∃ x, a[j] = x := ⟨_, rfl⟩
        obtain ⟨y, hy⟩ : ∃ y, b[j] = y := ⟨_, rfl⟩
        simp only [hx] at c0 c1 c2 d0 d1 d2 HSA HNE HEQ SA B1
        simp only [hy] at d0 d1 d2 HSA HNE HEQ SB
        have B2 := bal B1 (.cells #[.int .i64 y.Stream, .bool y.Unordered, .slice B y.Bytes.length cB] 25)
        have SA2 := hidH (bs_below (bsOf SA) B2)
        have SB2 := hidH (bs_below (bsOf SB) B2)
        have HBW := hidH (btr hBw B2)
        clear hEq hBw hx hy B1 B2 SA SB b0 b1 b2
        go_wp2_with fail
        refine (HSA.out _ SA2.out SB2.out).mono ?_
        rintro e w3 ⟨r, rfl, hr, b3⟩
        have HR := hidH hr
        have B3 := hidH (btr HBW.out b3)
        clear HSA SA2 SB2 hr b3 c0 c1 c2 d0 d1 d2
        rcases r with _ | _
        · go_wp2
          go_ret
          exact ⟨false, rfl, ⟨(fun h => by cases h), fun h => absurd h (HNE.out fun e => by have := HR.out.2 e; cases this)⟩, B3.out⟩
        · go_wp2
          go_roundw
          case rel => exact ⟨j + 1, by omega, by go_num, HEQ.out (HR.out.1 (by simp)), B3.out⟩
          case measure => simp [intOf]; omega
      · obtain rfl : j = a.length := by omega
        have HE := hidH (show a = b from List.ext_getElem? fun t => by
          by_cases h : t < a.length
          · exact hEq t h
          · have := HL.out
            rw [List.getElem?_eq_none (by omega), List.getElem?_eq_none (by omega)])
        have HBW := hidH hBw
        clear hEq hBw hlt hj
        go_wp2
        go_ret
        exact ⟨true, rfl, ⟨fun _ => HE.out, fun _ => rfl⟩, HBW.out⟩
  · have hd : ((a.length : Int) != (b.length : Int)) = true := by rw [bne_iff_ne]; omega
    have HL := hidH (show ¬ a = b from fun h => hl (by rw [h]))
    clear hl
    go_enter Try.func61, Try.ntmps61
    go_wp2
    go_ret
    exact ⟨false, rfl, ⟨(fun h => by cases h), fun h => absurd h HL.out⟩, Below.refl _ _⟩
set_option maxHeartbeats 1000000 in
theorem sms_impl (a : List MessageM) (v : Value) (b : List MessageM) (v2 : Value) (u : World) (h : Rd u (st_Message a) v) (hw : WfV (st_Message a)) (_ : tot (st_Message a) ≤ 1048576) (h2 : Rd u (st_Message b) v2) (hw2 : WfV (st_Message b)) (_ : tot (st_Message b) ≤ 1048576) :
    Calls Try.prog 18 #[v, v2] u (BolR (sameG a b) u) := by
  have HS := hidH (eqFunc_Message a b v v2 u h h2 (wfb_Message hw) (wfb_Message hw2))
  clear hw hw2
  obtain ⟨PA, ca, rfl⟩ := st_Message_sh h
  obtain ⟨PB, cb, rfl⟩ := st_Message_sh h2
  clear h h2
  go_enter Try.func18, Try.ntmps18
  go_wp2_with fail
  refine HS.out.mono ?_
  intro e w3 hE
  obtain ⟨rfl, h3⟩ := hE.bol
  have H3 := hidH h3
  clear hE h3
  go_wp2
  go_ret
  exact ⟨rfl, H3.out⟩
set_option maxRecDepth 100000 in
set_option maxHeartbeats 2000000 in
theorem smsE_spec (a b : List MessageM) (v u : Value) (w : World) (hA : Rd w (st_Message a) v) (hB : Rd w (st_Message b) u) (ba : ∀ x ∈ a, Bytes x.Bytes) (bb : ∀ x ∈ b, Bytes x.Bytes) :
    Calls Try.prog 34 #[v, u] w (EqG a b w) := by
  obtain ⟨PA, ca, rfl⟩ := st_Message_sh hA
  obtain ⟨PB, cb, rfl⟩ := st_Message_sh hB
  have hm : (a.length : Int) ≤ 9223372036854775807 := Rd.st_len hA
  have HA := hidH (fun (u : World) (h : Below w.heap.size w u) => Rd.below h _ hA)
  have HB := hidH (fun (u : World) (h : Below w.heap.size w u) => Rd.below h _ hB)
  have HBA := hidH ba
  have HBB := hidH bb
  clear hA hB ba bb
  by_cases hl : a.length = b.length
  · have hd : ((a.length : Int) != (b.length : Int)) = false := by rw [bne_eq_false_iff_eq]; omega
    have HL := hidH hl
    clear hl
    go_enter Try.func34, Try.ntmps34
    go_wp2
    go_loopw [5] (fun i wr => ∃ j : Nat, j ≤ a.length ∧ i = .int .i64 j ∧ (∀ t, t < j → a[t]? = b[t]?) ∧ Below w.heap.size w wr) (fun i _ => a.length - (intOf i).toNat)
    case atStart => exact ⟨0, by omega, rfl, fun t ht => by omega, Below.refl _ _⟩
    case round =>
      obtain ⟨j, hj, rfl, hEq, hBw⟩ := hrel
      by_cases hlt : j < a.length
      · have hj0 : (0 : Int) ≤ (j : Int) := by omega
        have hj1 : (j : Int) < (a.length : Int) := by omega
        have hlb : j < b.length := by have := HL.out; omega
        have hj2 : (j : Int) < (b.length : Int) := by omega
        obtain ⟨ga, oa, c', A, cA, e, hga, c0, c1, c2, SA⟩ := at_Message (HA.out _ hBw) hlt
        injection e with e1 e2 e3
        subst e1 e3
        obtain ⟨gb, ob, c', B, cB, e, hgb, d0, d1, d2, SB⟩ := at_Message (HB.out _ hBw) hlb
        injection e with e1 e2 e3
        subst e1 e3
        have HX := hidH (HBA.out _ (List.getElem_mem hlt))
        have HY := hidH (HBB.out _ (List.getElem_mem hlb))
        have h1 := fun n => conv_bs (wr.drewN n) A a[j].Bytes cA (bs_below (bsOf SA) (below_drewN (Below.refl _ _) n))
        have h2 := fun n => conv_bs (wr.drewN n) B b[j].Bytes cB (bs_below (bsOf SB) (below_drewN (Below.refl _ _) n))
        have HNE := hidH (fun (h : a[j] ≠ b[j]) => show ¬ (a = b) from fun e => h (by subst e; rfl))
        have HEQ := hidH (fun (h : a[j] = b[j]) => show (∀ t, t < j + 1 → a[t]? = b[t]?) from fun t ht => by
          by_cases e : t = j
          · subst e; rw [List.getElem?_eq_getElem hlt, List.getElem?_eq_getElem hlb, h]
          · exact hEq t (by omega))
        have HS := hidH (str_eqb HX.out HY.out)
        obtain ⟨x, hx⟩ : ∃ x, a[j] = x := ⟨_, rfl⟩
        obtain ⟨y, hy⟩ : ∃ y, b[j] = y := ⟨_, rfl⟩
        simp only [hx] at c0 c1 c2 h1 HX HNE HEQ HS
        simp only [hy] at d0 d1 d2 h2 HY HNE HEQ HS
        have HBW := hidH hBw
        have HQ := hidH (@msg_eq x y)
        clear hEq hBw hx hy SA SB
        by_cases e0 : x.Stream = y.Stream
        case neg =>
          have f0 : (x.Stream != y.Stream) = true := by rw [bne_iff_ne]; exact e0
          have HXY := hidH (HNE.out (fun h => e0 (HQ.out.1 h).1))
          clear HQ e0
          go_wp2
          go_quiet (fail)
          go_wp2
          go_ret
          exact ⟨false, rfl, ⟨(fun h => by cases h), fun h => absurd h HXY.out⟩, below_drewN HBW.out _⟩
        have f0 : (x.Stream != y.Stream) = false := by rw [bne_eq_false_iff_eq]; exact e0
        by_cases e1 : x.Unordered = y.Unordered
        case neg =>
          obtain ⟨p, hp⟩ : ∃ p, y.Unordered = p := ⟨_, rfl⟩
          have hq : x.Unordered = !p := by rw [hp] at e1; revert e1; cases x.Unordered <;> cases p <;> simp
          have HXY := hidH (HNE.out (fun h => e1 (HQ.out.1 h).2.1))
          rw [hp] at d1
          rw [hq] at c1
          clear HQ hp hq e0 e1
          cases p
          all_goals
            go_wp2
            go_quiet (fail)
            go_wp2
            go_ret
            exact ⟨false, rfl, ⟨(fun h => by cases h), fun h => absurd h HXY.out⟩, below_drewN HBW.out _⟩
        rw [e1] at c1
        by_cases e2 : x.Bytes = y.Bytes
        · have HXY := hidH (HQ.out.2 ⟨e0, e1, e2⟩)
          have f2 : ((strOfNums x.Bytes).toList == (strOfNums y.Bytes).toList) = true := by rw [HS.out, decide_eq_true e2]
          clear HQ e0 e1 e2
          go_wp2
          go_quiet (fail)
          go_wp2
          exact ⟨⟨j + 1, by omega, by go_num, HEQ.out HXY.out, below_drewN HBW.out _⟩, by simp [intOf]; omega⟩
        · have HXY := hidH (HNE.out (fun h => e2 (HQ.out.1 h).2.2))
          have f2 : ((strOfNums x.Bytes).toList == (strOfNums y.Bytes).toList) = false := by rw [HS.out, decide_eq_false e2]
          clear HQ e0 e1 e2
          go_wp2
          go_quiet (fail)
          go_wp2
          go_ret
          exact ⟨false, rfl, ⟨(fun h => by cases h), fun h => absurd h HXY.out⟩, below_drewN HBW.out _⟩
      · obtain rfl : j = a.length := by omega
        have HE := hidH (show a = b from List.ext_getElem? fun t => by
          by_cases h : t < a.length
          · exact hEq t h
          · have := HL.out
            rw [List.getElem?_eq_none (by omega), List.getElem?_eq_none (by omega)])
        have HBW := hidH hBw
        clear hEq hBw hlt hj
        go_wp2
        go_ret
        exact ⟨true, rfl, ⟨fun _ => HE.out, fun _ => rfl⟩, HBW.out⟩
  · have hd : ((a.length : Int) != (b.length : Int)) = true := by rw [bne_iff_ne]; omega
    have HL := hidH (show ¬ a = b from fun h => hl (by rw [h]))
    clear hl
    go_enter Try.func34, Try.ntmps34
    go_wp2
    go_ret
    exact ⟨false, rfl, ⟨(fun h => by cases h), fun h => absurd h HL.out⟩, Below.refl _ _⟩
theorem sms_spec (a : List MessageM) (v : Value) (b : List MessageM) (v2 : Value) (u : World) (h : Rd u (st_Message a) v) (hw : WfV (st_Message a)) (_ : tot (st_Message a) ≤ 1048576) (h2 : Rd u (st_Message b) v2) (hw2 : WfV (st_Message b)) (_ : tot (st_Message b) ≤ 1048576) :
    Calls Try.prog 34 #[v, v2] u (BolR (sameG a b) u) := (smsE_spec a b v v2 u h h2 (wfb_Message hw) (wfb_Message hw2)).mono (fun _ _ h => h.bol)
end Go.Proofs.Ytbfbfimmhpijfaa

/- The laws' lwBig. -/
namespace Go.Proofs.Ytbfbfimmhpijfaa
open Go.RowKit

set_option maxHeartbeats 400000 in
theorem big8_any (A : Option Addr) (n c : Nat) (w : World) : Calls Try.prog 9 #[.slice A n c] w fun e w' => e = .returned (.bool (decide ((1048576 : Int) < (n : Int)))) ∧ w = w' := by
  go_enter Try.func9, Try.ntmps9
  go_wp2
  go_ret
  exact ⟨rfl, rfl⟩
end Go.Proofs.Ytbfbfimmhpijfaa
