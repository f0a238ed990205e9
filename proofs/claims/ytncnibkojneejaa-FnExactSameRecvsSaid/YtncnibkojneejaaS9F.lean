/- Chapter 9: the program's RecvFault. -/
import Derived.Test.YtncnibkojneejaaS9PR
import Derived.Test.YtncnibkojneejaaUniR
import Derived.Test.YtncnibkojneejaaIpD
import Derived.Test.YtncnibkojneejaaAd5
import Derived.Test.YtncnibkojneejaaS8JF
import Derived.BigQuiet
namespace Go.Proofs.Ytncnibkojneejaa
open Go.RowKit Go.Deep

theorem ret_boo {a b : Bool} (h : a = b) : Ending.returned (.bool a) = .returned (.bool b) := by rw [h]
/-- A receiver's values, taken apart. -/
theorem recv_sh {y : RecvM} {vs : List Value} {u : World} (h : RdA u y.vs vs) : ∃ (A1 : Option Addr) (c1 : Nat) (A2 : Option Addr) (c2 : Nat) (A3 : Option Addr) (c3 : Nat), vs = [.int .i64 y.Cum, .slice A1 y.Beyond.length c1, .slice A2 y.Pieces.length c2, .slice A3 y.Next.length c3] ∧
    Is u A1 y.Beyond ∧ Rd u (st_Data y.Pieces) (.slice A2 y.Pieces.length c2) ∧ Is u A3 y.Next ∧ (y.Beyond.length : Int) ≤ 9223372036854775807 ∧ (y.Pieces.length : Int) ≤ 9223372036854775807 ∧ (y.Next.length : Int) ≤ 9223372036854775807 := by
  obtain ⟨A1, c1, A2, c2, A3, c3, rfl⟩ := shape_Recv h
  have h' : RdA u [.int y.Cum, .is y.Beyond, st_Data y.Pieces, .is y.Next] _ := h
  have k1 := h'.tl.hd
  have k2 := h'.tl.tl.hd
  have k3 := h'.tl.tl.tl.hd
  obtain ⟨B1, d1, e1, l1, i1⟩ := k1.is_out
  injection e1 with e1 _ _
  obtain ⟨B3, d3, e3, l3, i3⟩ := k3.is_out
  injection e3 with e3 _ _
  exact ⟨A1, c1, A2, c2, A3, c3, rfl, by rw [e1]; exact i1, k2, by rw [e3]; exact i3, l1.len, Rd.st_len k2, l3.len⟩
theorem is_cell {w : World} {A : Option Addr} {l : List Int} (h : Is w A l) {j : Nat} (hj : j < l.length) : ∃ b off, A = some ⟨b, off, none⟩ ∧ b < w.heap.size ∧ w.cell? ⟨b, off + j, none⟩ = some (.int .i64 (l.getD j 0)) := by
  rcases h with h | ⟨b, off, e, hb, h⟩
  · rw [h] at hj; simp at hj
  · exact ⟨b, off, e, hb, h j hj⟩
theorem fldI9 (c v : Int) (w : World) : (Instr.field 38 (.agg #[.int .i64 c, .int .i64 v]) 1).run Try.prog w = .ok (.int .i64 v) w := by kernel_rfl
set_option maxRecDepth 100000 in
set_option maxHeartbeats 400000 in
theorem dist_impl (c : Int) (A1 A2 A3 : Option Addr) (n1 n2 n3 c1 c2 c3 : Nat) (t : Int) (w : World) : Calls Try.prog 31 #[.agg #[.int .i64 c, .slice A1 n1 c1, .slice A2 n2 c2, .slice A3 n3 c3], .int .i64 t] w (IntR (gapV c t) w) := by
  have B1 := hidH (bal (Below.refl w.heap.size w) (.cells #[.int .i64 c, .slice A1 n1 c1, .slice A2 n2 c2, .slice A3 n3 c3] 27))
  have HB := hidH (fun (u : World) (h : Below w.heap.size w u) => bal h (.cells #[.int .i64 (addC c t), .int .i64 (gapV c t)] 38))
  go_enter Try.func31, Try.ntmps31
  go_wp2_with fail
  refine (gap_impl _ _ _).mono ?_
  rintro e w2 ⟨rfl, rfl⟩
  have f1 := fldI9
  go_wp2
  go_ret
  exact ⟨rfl, HB.out _ B1.out⟩
set_option maxRecDepth 100000 in
set_option maxHeartbeats 1000000 in
theorem arr_impl (c : Int) (A1 A2 A3 : Option Addr) (bey : List Int) (n2 n3 c1 c2 c3 : Nat) (t : Int) (w : World) (hA : Is w A1 bey) (hm : (bey.length : Int) ≤ 1000000) : Calls Try.prog 70 #[.agg #[.int .i64 c, .slice A1 bey.length c1, .slice A2 n2 c2, .slice A3 n3 c3], .int .i64 t] w (BolR (arrB c bey t) w) := by
  obtain ⟨w1, hw1⟩ : ∃ W, w.alloc (.cells #[.int .i64 c, .slice A1 bey.length c1, .slice A2 n2 c2, .slice A3 n3 c3] 27) = W := ⟨_, rfl⟩
  have KB := Blk.new w 27 #[.int .i64 c, .slice A1 bey.length c1, .slice A2 n2 c2, .slice A3 n3 c3]
  have B1 := bal (Below.refl w.heap.size w) (.cells #[.int .i64 c, .slice A1 bey.length c1, .slice A2 n2 c2, .slice A3 n3 c3] 27)
  rw [hw1] at KB B1
  obtain ⟨g, hg⟩ : ∃ g, w.heap.size = g := ⟨_, rfl⟩
  have HI := hidH (fun (u : World) (h : Below w.heap.size w u) => contains_any A1 bey c1 t u (is_below hA h) hm)
  have H1 := hidH hw1
  have HB := hidH B1
  have HK := hidH KB
  have hr := gapV_rng c t
  have HD := hidH (fun (u : World) => dist_impl c A1 A2 A3 bey.length n2 n3 c1 c2 c3 t u)
  obtain ⟨d, hd⟩ : ∃ d, gapV c t = d := ⟨_, rfl⟩
  have e : arrB c bey t = (!(inB d 1 2147483647) || decide (t ∈ bey)) := by rw [arrB, lessB, hd]
  rw [e]
  rw [hd] at hr HD
  clear e hd hA hw1 B1 KB hg
  go_enter Try.func70, Try.ntmps70
  go_wp2_with fail
  rw [H1.out]
  refine (HD.out _).mono ?_
  rintro e w2 ⟨rfl, b2⟩
  have HB2 := hidH (btr HB.out b2)
  have K2 := HK.out.below b2
  have p1 := K2.cell 1
  simp only [List.getElem?_toArray, List.getElem?_cons_succ, List.getElem?_cons_zero] at p1
  have gp := K2.lt
  clear b2 HD K2 HK H1 HB
  by_cases h0 : d = 0
  · have hz : (d == 0) = true := by rw [beq_iff_eq]; exact h0
    have HE := hidH (show (!(inB d 1 2147483647) || decide (t ∈ bey)) = true by rw [inB_lo (by omega)]; rfl)
    go_wp2
    go_ret
    exact ⟨ret_boo HE.out.symm, HB2.out⟩
  have hz : (d == 0) = false := by rw [beq_eq_false_iff_ne]; exact h0
  by_cases h1 : 2147483647 < d
  · have HE := hidH (show (!(inB d 1 2147483647) || decide (t ∈ bey)) = true by rw [inB_hi h1]; rfl)
    go_wp2
    go_ret
    exact ⟨ret_boo HE.out.symm, HB2.out⟩
  have HE := hidH (show (!(inB d 1 2147483647) || decide (t ∈ bey)) = decide (t ∈ bey) by rw [inB_yes (by omega) (by omega)]; rfl)
  go_wp2_with fail
  refine (HI.out _ HB2.out).mono ?_
  rintro e w3 ⟨rfl, rfl⟩
  go_wp2
  go_ret
  exact ⟨ret_boo (by rw [HE.out]; simp; intro h; omega), HB2.out⟩
set_option maxRecDepth 100000 in
set_option maxHeartbeats 2000000 in
theorem by_impl (y : RecvM) (vs : List Value) (u : World) (h : RdA u y.vs vs) : Calls Try.prog 45 #[.agg vs.toArray] u (IntR (byF y.Cum 1 y.Beyond) u) := by
  obtain ⟨A1, c1, A2, c2, A3, c3, rfl, hI, _, _, hm, _, _⟩ := recv_sh h
  clear h
  obtain ⟨w1, hw1⟩ : ∃ W, u.alloc (.cells #[.int .i64 y.Cum, .slice A1 y.Beyond.length c1, .slice A2 y.Pieces.length c2, .slice A3 y.Next.length c3] 27) = W := ⟨_, rfl⟩
  have KB := Blk.new u 27 #[.int .i64 y.Cum, .slice A1 y.Beyond.length c1, .slice A2 y.Pieces.length c2, .slice A3 y.Next.length c3]
  have B1 := bal (Below.refl u.heap.size u) (.cells #[.int .i64 y.Cum, .slice A1 y.Beyond.length c1, .slice A2 y.Pieces.length c2, .slice A3 y.Next.length c3] 27)
  rw [hw1] at KB B1
  have H1 := hidH hw1
  have HB := hidH B1
  have HK := hidH KB
  have HI := hidH (fun (W : World) (hW : Below u.heap.size u W) => is_below hI hW)
  have HDI := hidH (fun (t : Int) (W : World) => dist_impl y.Cum A1 A2 A3 y.Beyond.length y.Pieces.length y.Next.length c1 c2 c3 t W)
  clear hI hw1 KB B1
  go_enter Try.func45, Try.ntmps45
  go_wp2
  rw [H1.out]
  go_loopw [3, 10] (fun p i wr => ∃ (j : Nat) (a : Int), j ≤ y.Beyond.length ∧ p = .int .i64 a ∧ i = .int .i64 j ∧ Below w1.heap.size w1 wr ∧ byF y.Cum a (y.Beyond.drop j) = byF y.Cum 1 y.Beyond) (fun _ i _ => y.Beyond.length - (intOf i).toNat)
  case atStart => exact ⟨0, 1, by omega, rfl, rfl, Below.refl _ _, by simp⟩
  case round =>
    obtain ⟨j, a, hj, rfl, rfl, hBr, hk⟩ := hrel
    by_cases hlt : j < y.Beyond.length
    · have hj0 : (0 : Int) ≤ (j : Int) := by omega
      have hj1 : (j : Int) < (y.Beyond.length : Int) := by omega
      obtain ⟨b, off, eA, hb, hcell⟩ := is_cell (HI.out wr (btr HB.out hBr)) hlt
      obtain ⟨t, ht⟩ : ∃ t, y.Beyond.getD j 0 = t := ⟨_, rfl⟩
      rw [ht] at hcell
      have hs := byF_step y.Cum a hlt
      rw [hk, ht] at hs
      have HDT := hidH (fun W => HDI.out t W)
      obtain ⟨d, hd⟩ : ∃ d, gapV y.Cum t = d := ⟨_, rfl⟩
      rw [hd] at hs HDT
      have KR := HK.out.below hBr
      have r0 := KR.cell 0
      have r1 := KR.cell 1
      have r2 := KR.cell 2
      have r3 := KR.cell 3
      simp only [List.getElem?_toArray, List.getElem?_cons_succ, List.getElem?_cons_zero] at r0 r1 r2 r3
      have rl := KR.lt
      subst eA
      have HS := hidH hs
      have HBr := hidH hBr
      clear hs ht hd hk hBr KR
      by_cases hv : wB t = true
      · go_wp2_with (first | (go_at_call 33; refine (isWord_any _ _).mono ?_; rintro e w' ⟨rfl, rfl⟩))
        refine (HDT.out _).mono ?_
        rintro e w2 ⟨rfl, b2⟩
        have HB2 := hidH (btr HBr.out b2)
        clear b2 HDT r0 r1 r2 r3 HBr hcell
        by_cases h1 : d ≤ a
        · have HE := hidH (show byF y.Cum 1 y.Beyond = 1 by 
            rw [HS.out, hv, if_pos rfl]
            split
            · exact if_neg (by omega)
            · rfl)
          go_wp2
          go_ret
          exact ⟨ret_int HE.out.symm, btr HB.out HB2.out⟩
        · by_cases h2 : 16 < d
          · have HE := hidH (show byF y.Cum 1 y.Beyond = 1 by rw [HS.out, hv, if_pos rfl, if_neg (by omega)])
            go_wp2
            go_ret
            exact ⟨ret_int HE.out.symm, btr HB.out HB2.out⟩
          · have HE := hidH (show byF y.Cum d (y.Beyond.drop (j + 1)) = byF y.Cum 1 y.Beyond by rw [HS.out, hv, if_pos rfl, if_pos (by omega), if_pos (by omega)])
            go_wp2
            go_roundw
            case rel => exact ⟨j + 1, d, by omega, rfl, by go_num, HB2.out, HE.out⟩
            case measure => simp [intOf]; omega
      · have hv : wB t = false := by simpa using hv
        have HE := hidH (show byF y.Cum 1 y.Beyond = 3 by rw [HS.out, hv]; rfl)
        go_wp2_with (first | (go_at_call 33; refine (isWord_any _ _).mono ?_; rintro e w' ⟨rfl, rfl⟩))
        go_ret
        exact ⟨ret_int HE.out.symm, btr HB.out HBr.out⟩
    · obtain rfl : j = y.Beyond.length := by omega
      have HE := hidH (show byF y.Cum 1 y.Beyond = 0 by rw [← hk, List.drop_length]; rfl)
      have HBr := hidH hBr
      clear hk hlt hj hBr
      go_wp2
      go_ret
      exact ⟨ret_int HE.out.symm, btr HB.out HBr.out⟩
set_option maxRecDepth 100000 in
set_option maxHeartbeats 4000000 in
theorem ps_impl (y : RecvM) (vs : List Value) (u : World) (h : RdA u y.vs vs) (hm1 : (y.Beyond.length : Int) ≤ 1000000) (hm2 : (y.Pieces.length : Int) ≤ 1000000) : Calls Try.prog 46 #[.agg vs.toArray] u (IntR (psF y.Cum y.Beyond none y.Pieces) u) := by
  obtain ⟨A1, c1, A2, c2, A3, c3, rfl, hI, hP, _, _, _, _⟩ := recv_sh h
  clear h
  rcases A2 with _ | ⟨ga, oa, sp⟩
  case none =>
    have hn : y.Pieces.length = 0 := by
      rcases Nat.eq_zero_or_pos y.Pieces.length with h | h
      · exact h
      · obtain ⟨_, _, _, e, _⟩ := el_Data hP h
        cases e
    have HE := hidH (show psF y.Cum y.Beyond none y.Pieces = 0 by rw [List.length_eq_zero_iff.1 hn]; rfl)
    have B1 := hidH (bal (Below.refl u.heap.size u) (.cells #[.int .i64 y.Cum, .slice A1 y.Beyond.length c1, .slice none 0 c2, .slice A3 y.Next.length c3] 27))
    rw [hn]
    clear hI hP hn hm1 hm2
    go_enter Try.func46, Try.ntmps46
    go_wp2
    go_loopw [9] (fun i wr => i = .int .i64 0 ∧ Below u.heap.size u wr) (fun i _ => 0)
    case atStart => exact ⟨rfl, B1.out⟩
    case round =>
      obtain ⟨rfl, hB⟩ := hrel
      go_wp2
      go_ret
      exact ⟨ret_int HE.out.symm, hB⟩
  by_cases hn0 : y.Pieces.length = 0
  · have HE := hidH (show psF y.Cum y.Beyond none y.Pieces = 0 by rw [List.length_eq_zero_iff.1 hn0]; rfl)
    have B1 := hidH (bal (Below.refl u.heap.size u) (.cells #[.int .i64 y.Cum, .slice A1 y.Beyond.length c1, .slice (some ⟨ga, oa, sp⟩) 0 c2, .slice A3 y.Next.length c3] 27))
    rw [hn0]
    clear hI hP hn0 hm1 hm2
    go_enter Try.func46, Try.ntmps46
    go_wp2
    go_loopw [9] (fun i wr => i = .int .i64 0 ∧ Below u.heap.size u wr) (fun i _ => 0)
    case atStart => exact ⟨rfl, B1.out⟩
    case round =>
      obtain ⟨rfl, hB⟩ := hrel
      go_wp2
      go_ret
      exact ⟨ret_int HE.out.symm, hB⟩
  obtain ⟨g0, o0, c0, e0, hga, _⟩ := el_Data hP (j := 0) (by omega)
  injection e0 with e1 _ e5
  injection e1 with e1
  injection e1 with e1 e2 e3
  subst e1 e2 e3 e5
  obtain ⟨n, hn⟩ : ∃ n, y.Pieces.length = n := ⟨_, rfl⟩
  have HEL := hidH (fun (j : Nat) (hj : j < y.Pieces.length) (W : World) (hW : Below u.heap.size u W) => show ∃ x : DataM, y.Pieces[j]? = some x ∧ ∃ A cA, W.cell? ⟨ga, oa + j * 7, none⟩ = some (.int .i64 x.Tsn) ∧ W.cell? ⟨ga, oa + j * 7 + 1, none⟩ = some (.int .i64 x.Stream) ∧ W.cell? ⟨ga, oa + j * 7 + 2, none⟩ = some (.int .i64 x.Seq) ∧ W.cell? ⟨ga, oa + j * 7 + 3, none⟩ = some (.bool x.First) ∧ W.cell? ⟨ga, oa + j * 7 + 4, none⟩ = some (.bool x.Last) ∧ W.cell? ⟨ga, oa + j * 7 + 5, none⟩ = some (.bool x.Unordered) ∧ W.cell? ⟨ga, oa + j * 7 + 6, none⟩ = some (.slice A x.Piece.length cA) ∧ RdA W x.vs [.int .i64 x.Tsn, .int .i64 x.Stream, .int .i64 x.Seq, .bool x.First, .bool x.Last, .bool x.Unordered, .slice A x.Piece.length cA] from by
    obtain ⟨g', o', c', e, _, E⟩ := el_Data hP hj
    injection e with e1 e2 e3
    injection e1 with e1
    injection e1 with e1 e4
    subst e1 e4
    obtain ⟨A, cA, z0, z1, z2, z3, z4, z5, z6, z⟩ := mem_Data (RdL.below hW _ hga E)
    exact ⟨y.Pieces[j], List.getElem?_eq_getElem hj, A, cA, z0, z1, z2, z3, z4, z5, z6, RdA.int_mk (RdA.int_mk (RdA.int_mk (RdA.bool_mk (RdA.bool_mk (RdA.bool_mk (RdA.any_mk z RdA.nil_mk))))))⟩)
  obtain ⟨w1, hw1⟩ : ∃ W, u.alloc (.cells #[.int .i64 y.Cum, .slice A1 y.Beyond.length c1, .slice (some ⟨ga, oa, none⟩) y.Pieces.length c2, .slice A3 y.Next.length c3] 27) = W := ⟨_, rfl⟩
  have KB := Blk.new u 27 #[.int .i64 y.Cum, .slice A1 y.Beyond.length c1, .slice (some ⟨ga, oa, none⟩) y.Pieces.length c2, .slice A3 y.Next.length c3]
  have B1 := bal (Below.refl u.heap.size u) (.cells #[.int .i64 y.Cum, .slice A1 y.Beyond.length c1, .slice (some ⟨ga, oa, none⟩) y.Pieces.length c2, .slice A3 y.Next.length c3] 27)
  rw [hw1] at KB B1
  have H1 := hidH hw1
  have HB := hidH B1
  have HK := hidH KB
  have HA := hidH (fun (t : Int) (W : World) (hW : Below u.heap.size u W) => arr_impl y.Cum A1 (some ⟨ga, oa, none⟩) A3 y.Beyond y.Pieces.length y.Next.length c1 c2 c3 t W (is_below hI hW) hm1)
  obtain ⟨F, hF⟩ : ∃ F, psF y.Cum y.Beyond none y.Pieces = F := ⟨_, rfl⟩
  have HST := hidH (fun (j : Nat) (x : DataM) (hx : y.Pieces[j]? = some x) (h : psF y.Cum y.Beyond (prv y.Pieces j) (y.Pieces.drop j) = F) => show (F = if poF y.Cum y.Beyond (prv y.Pieces j) x = 0 then psF y.Cum y.Beyond (prv y.Pieces (j + 1)) (y.Pieces.drop (j + 1)) else poF y.Cum y.Beyond (prv y.Pieces j) x) from by
    obtain ⟨hj, e⟩ := List.getElem?_eq_some_iff.1 hx
    have := psF_step y.Cum y.Beyond hj (h.trans hF.symm)
    rw [hF, e] at this
    exact this)
  have HEND := hidH (fun (h : psF y.Cum y.Beyond (prv y.Pieces y.Pieces.length) (y.Pieces.drop y.Pieces.length) = F) => show F = 0 by rw [← h, List.drop_length]; rfl)
  have HGA := hidH hga
  rw [hF]
  have HS0 := hidH (show psF y.Cum y.Beyond (prv y.Pieces 0) (y.Pieces.drop 0) = F by rw [← hF]; rfl)
  clear hI hw1 KB B1 hP hF hga hn hm1
  go_enter Try.func46, Try.ntmps46
  go_wp2
  rw [H1.out]
  go_loopw [9] (fun i wr => ∃ j : Nat, j ≤ y.Pieces.length ∧ i = .int .i64 j ∧ Below w1.heap.size w1 wr ∧ psF y.Cum y.Beyond (prv y.Pieces j) (y.Pieces.drop j) = F) (fun i _ => y.Pieces.length - (intOf i).toNat)
  case atStart => exact ⟨0, by omega, rfl, Below.refl _ _, HS0.out⟩
  case round =>
    obtain ⟨j, hj, rfl, hBr, hk⟩ := hrel
    by_cases hlt : j < y.Pieces.length
    case neg =>
      obtain rfl : j = y.Pieces.length := by omega
      have HE := hidH (HEND.out hk)
      have HBr := hidH hBr
      clear hk hlt hj hBr
      go_wp2
      go_ret
      exact ⟨ret_int HE.out.symm, btr HB.out HBr.out⟩
    have hj0 : (0 : Int) ≤ (j : Int) := by omega
    have hj1 : (j : Int) < (y.Pieces.length : Int) := by omega
    obtain ⟨x, hx, A, cA, d0, d1, d2, d3, d4, d5, d6, RX⟩ := HEL.out j hlt wr (btr HB.out hBr)
    have hs := HST.out j x hx hk
    have HX := hidH hx
    have BW := bal (Below.refl wr.heap.size wr) (.cells #[.int .i64 x.Tsn, .int .i64 x.Stream, .int .i64 x.Seq, .bool x.First, .bool x.Last, .bool x.Unordered, .slice A x.Piece.length cA] 76)
    have HF := hidH (pdF_impl x _ _ (RdA.below BW RX))
    have KG := hidH (Blk.new wr 76 #[.int .i64 x.Tsn, .int .i64 x.Stream, .int .i64 x.Seq, .bool x.First, .bool x.Last, .bool x.Unordered, .slice A x.Piece.length cA])
    have KR := hidH ((HK.out.below hBr).below BW)
    have HBW := hidH (btr hBr BW)
    have HS := hidH hs
    clear hs hx hk RX BW hBr HK
    go_wp2_with fail
    refine HF.out.mono ?_
    rintro e w3 ⟨rfl, b3⟩
    have HB3 := hidH (btr HBW.out b3)
    replace KG := hidH (KG.out.below b3)
    replace KR := hidH (KR.out.below b3)
    clear b3 HF HBW d0 d1 d2 d3 d4 d5 d6
    by_cases hz : pdF x = 0
    case neg =>
      have hz2 : (pdF x != 0) = true := by rw [bne_iff_ne]; exact hz
      have HE := hidH (show F = pdF x by
        have e : poF y.Cum y.Beyond (prv y.Pieces j) x = pdF x := by rw [poF, if_neg hz]
        rw [HS.out, e, if_neg hz])
      obtain ⟨f, hf⟩ : ∃ f, pdF x = f := ⟨_, rfl⟩
      rw [hf] at hz2 HE ⊢
      clear hz HS hf
      go_wp2
      go_ret
      exact ⟨ret_int HE.out.symm, btr HB.out HB3.out⟩
    have hz2 : (pdF x != 0) = false := by rw [bne_eq_false_iff_eq]; exact hz
    have HP := hidH (show poF y.Cum y.Beyond (prv y.Pieces j) x = if ordB (prv y.Pieces j) x.Tsn then (if arrB y.Cum y.Beyond x.Tsn then 0 else 8) else 1 by rw [poF, if_pos hz])
    rw [hz]
    clear hz hz2
    have HQ := hidH (fun (o : ordB (prv y.Pieces j) x.Tsn = true) => show F = if arrB y.Cum y.Beyond x.Tsn then psF y.Cum y.Beyond (prv y.Pieces (j + 1)) (y.Pieces.drop (j + 1)) else 8 by
      rw [HS.out, HP.out, o, if_pos rfl]
      cases arrB y.Cum y.Beyond x.Tsn <;> rfl)
    have HN := hidH (fun (o : ordB (prv y.Pieces j) x.Tsn = false) => show F = 1 by rw [HS.out, HP.out, o]; rfl)
    have HAR := hidH (HA.out x.Tsn)
    clear HP HS
    have fin : ∀ W : World, Below w3.heap.size w3 W → ordB (prv y.Pieces j) x.Tsn = true → True := fun _ _ _ => trivial
    clear fin
    rcases Nat.eq_zero_or_pos j with hj00 | hjp
    · subst hj00
      have HQ1 := hidH (HQ.out rfl)
      clear HQ HN
      have r0 := KR.out.cell 0
      have r1 := KR.out.cell 1
      have r2 := KR.out.cell 2
      have r3 := KR.out.cell 3
      have g0 := KG.out.cell 0
      simp only [List.getElem?_toArray, List.getElem?_cons_succ, List.getElem?_cons_zero] at r0 r1 r2 r3 g0
      have rl := KR.out.lt
      have gl := KG.out.lt
      go_wp2
      go_quiet (fail)
      go_wp2_with fail
      refine (HAR.out _ (btr HB.out (below_drewN HB3.out _))).mono ?_
      rintro e w6 ⟨rfl, b6⟩
      have HB6 := hidH (btr (below_drewN HB3.out _) b6)
      clear b6 r0 r1 r2 r3 g0 rl gl HAR
      obtain ⟨b, hb⟩ : ∃ b, arrB y.Cum y.Beyond x.Tsn = b := ⟨_, rfl⟩
      rw [hb] at HQ1 ⊢
      clear hb
      cases b
      · have HE := hidH (show F = 8 from HQ1.out)
        clear HQ1
        go_wp2
        go_ret
        exact ⟨ret_int HE.out.symm, btr HB.out HB6.out⟩
      · have HE := hidH (show F = psF y.Cum y.Beyond (prv y.Pieces 1) (y.Pieces.drop 1) from HQ1.out)
        clear HQ1
        go_wp2
        go_roundw
        case rel => exact ⟨1, by omega, by go_num, HB6.out, HE.out.symm⟩
        case measure => simp [intOf]; omega
    · obtain ⟨i, rfl⟩ : ∃ i, j = i + 1 := ⟨j - 1, by omega⟩
      rw [show ((i + 1 : Nat) : Int) = (i : Int) + 1 by omega] at hj0 hj1 ⊢
      have hi0 : (0 : Int) ≤ (i : Int) := by omega
      have hi1 : (i : Int) < (y.Pieces.length : Int) := by omega
      have hgt : (0 : Int) < (i : Int) + 1 := by omega
      have him : (i : Int) ≤ 1000000000000 := by omega
      have hlti : i < y.Pieces.length := by omega
      obtain ⟨z, hz, B, cB, e0, _, _, _, _, _, _, _⟩ := HEL.out i hlti w3 (btr HB.out HB3.out)
      have HPV := hidH (show prv y.Pieces (i + 1) = some z.Tsn by rw [prv_succ hlti]; rw [List.getElem?_eq_getElem hlti] at hz; injection hz with hz; rw [hz])
      have hga3 : ga < w3.heap.size := Nat.lt_of_lt_of_le HGA.out (btr HB.out HB3.out).size
      obtain ⟨q, hq⟩ : ∃ q, z.Tsn = q := ⟨_, rfl⟩
      rw [hq] at e0 HPV
      have HO := hidH (show ordB (prv y.Pieces (i + 1)) x.Tsn = lessB q x.Tsn by rw [HPV.out]; rfl)
      clear hz hq hjp HPV
      go_wp2_with fail
      refine wp_region_any (by kernel_rfl) ?_
      refine regPF9 _ _ _ _ _ _ _ _ _ _ _ _ _ _ _ _ _ _ _ _ _ _ _ _ _ _ _ _ _ _ _ _ _ _ _ _ _ w3 y x q A A1 A3 cA c1 c2 c3 _ _ ga oa i hga3 e0 hi0 hi1 hgt him (by kernel_rfl) (by kernel_rfl) (by kernel_rfl) rfl (KR.out.below (Below.refl _ _).drew) (KG.out.below (Below.refl _ _).drew) (Below.refl _ _).drew ?_
      intros
      rename_i w5 b5
      have H45 := hidH b5
      have HBB := hidH (btr HB3.out b5)
      obtain ⟨o, ho⟩ : ∃ o, lessB q x.Tsn = o := ⟨_, rfl⟩
      rw [ho] at HO ⊢
      clear b5 ho e0 hga3
      cases o
      · have HE := hidH (HN.out HO.out)
        clear HN HQ HO
        go_wp2
        go_ret
        exact ⟨ret_int HE.out.symm, btr HB.out HBB.out⟩
      have HQ1 := hidH (HQ.out HO.out)
      clear HN HQ HO
      have K5 := KR.out.below H45.out
      have r0 := K5.cell 0
      have r1 := K5.cell 1
      have r2 := K5.cell 2
      have r3 := K5.cell 3
      have G5 := KG.out.below H45.out
      have g0 := G5.cell 0
      simp only [List.getElem?_toArray, List.getElem?_cons_succ, List.getElem?_cons_zero] at r0 r1 r2 r3 g0
      have rl := K5.lt
      have gl := G5.lt
      clear K5 G5
      go_wp2_with fail
      refine (HAR.out _ (btr HB.out HBB.out)).mono ?_
      rintro e w6 ⟨rfl, b6⟩
      have HB6 := hidH (btr HBB.out b6)
      clear b6 r0 r1 r2 r3 g0 rl gl HAR
      obtain ⟨b, hb⟩ : ∃ b, arrB y.Cum y.Beyond x.Tsn = b := ⟨_, rfl⟩
      rw [hb] at HQ1 ⊢
      clear hb
      cases b
      · have HE := hidH (show F = 8 from HQ1.out)
        clear HQ1
        go_wp2
        go_ret
        exact ⟨ret_int HE.out.symm, btr HB.out HB6.out⟩
      · have HE := hidH (show F = psF y.Cum y.Beyond (prv y.Pieces ((i + 1) + 1)) (y.Pieces.drop ((i + 1) + 1)) from HQ1.out)
        clear HQ1
        go_wp2
        go_roundw
        case rel => exact ⟨(i + 1) + 1, by omega, by go_num, HB6.out, HE.out.symm⟩
        case measure => simp [intOf]; omega
set_option maxRecDepth 100000 in
set_option maxHeartbeats 4000000 in
theorem rvFw_impl (y : RecvM) (vs : List Value) (u : World) (h : RdA u y.vs vs) : Calls Try.prog 17 #[.agg vs.toArray] u (IntR (rvF y) u) := by
  obtain ⟨A1, c1, A2, c2, A3, c3, rfl, hI, hP, hN, hm1, hm2, hm3⟩ := recv_sh h
  have HRD := hidH (fun (W : World) (hW : Below u.heap.size u W) => RdA.below hW h)
  have HNI := hidH (fun (W : World) (hW : Below u.heap.size u W) => is_below hN hW)
  obtain ⟨w1, hw1⟩ : ∃ W, u.alloc (.cells #[.int .i64 y.Cum, .slice A1 y.Beyond.length c1, .slice A2 y.Pieces.length c2, .slice A3 y.Next.length c3] 27) = W := ⟨_, rfl⟩
  have KB := Blk.new u 27 #[.int .i64 y.Cum, .slice A1 y.Beyond.length c1, .slice A2 y.Pieces.length c2, .slice A3 y.Next.length c3]
  have B1 := bal (Below.refl u.heap.size u) (.cells #[.int .i64 y.Cum, .slice A1 y.Beyond.length c1, .slice A2 y.Pieces.length c2, .slice A3 y.Next.length c3] 27)
  rw [hw1] at KB B1
  have H1 := hidH hw1
  have HB := hidH B1
  have HK := hidH KB
  clear h hI hP hN hw1 B1 KB
  by_cases k1 : wB y.Cum = true
  case neg =>
    have k1 : wB y.Cum = false := by simpa using k1
    have HE := hidH (rvF_range k1)
    go_enter Try.func17, Try.ntmps17
    go_wp2_with (first | (go_at_call 33; refine (isWord_any _ _).mono ?_; rintro e w' ⟨rfl, rfl⟩))
    go_ret
    exact ⟨ret_int HE.out.symm, by rw [H1.out]; exact HB.out⟩
  by_cases n1 : 16 < y.Beyond.length
  · have HE := hidH (rvF_many k1 (rvN_b n1))
    have n1' : (16 : Int) < (y.Beyond.length : Int) := by omega
    clear n1
    go_enter Try.func17, Try.ntmps17
    go_wp2_with (first | (go_at_call 33; refine (isWord_any _ _).mono ?_; rintro e w' ⟨rfl, rfl⟩))
    go_ret
    exact ⟨ret_int HE.out.symm, by rw [H1.out]; exact HB.out⟩
  have n1' : ¬ (16 : Int) < (y.Beyond.length : Int) := by omega
  by_cases n2 : 64 < y.Pieces.length
  · have HE := hidH (rvF_many k1 (rvN_p n2))
    have n2' : (64 : Int) < (y.Pieces.length : Int) := by omega
    clear n2 n1
    go_enter Try.func17, Try.ntmps17
    go_wp2_with (first | (go_at_call 33; refine (isWord_any _ _).mono ?_; rintro e w' ⟨rfl, rfl⟩))
    go_ret
    exact ⟨ret_int HE.out.symm, by rw [H1.out]; exact HB.out⟩
  have n2' : ¬ (64 : Int) < (y.Pieces.length : Int) := by omega
  by_cases n3 : y.Next.length = 10
  case neg =>
    have HE := hidH (rvF_many k1 (rvN_n n3))
    have n3' : ((y.Next.length : Int) != 10) = true := by rw [bne_iff_ne]; omega
    clear n3 n2 n1
    go_enter Try.func17, Try.ntmps17
    go_wp2_with (first | (go_at_call 33; refine (isWord_any _ _).mono ?_; rintro e w' ⟨rfl, rfl⟩))
    go_ret
    exact ⟨ret_int HE.out.symm, by rw [H1.out]; exact HB.out⟩
  have HY := hidH (rvN_y n1 n2 n3)
  have HK1 := hidH k1
  have HBY := hidH (fun W hW => by_impl y _ W (HRD.out W hW))
  have HPS := hidH (fun W hW => ps_impl y _ W (HRD.out W hW) (by omega) (by omega))
  have HN3 := hidH n3
  rw [n3] at HK H1 HRD HBY HPS ⊢
  clear n1 n2 n3 hm1 hm2 hm3
  go_enter Try.func17, Try.ntmps17
  go_wp2_with (first | (go_at_call 33; refine (isWord_any _ _).mono ?_; rintro e w' ⟨rfl, rfl⟩))
  rw [H1.out]
  refine (HBY.out _ HB.out).mono ?_
  rintro e w2 ⟨rfl, b2⟩
  have KR := HK.out.below b2
  have r0 := KR.cell 0
  have r1 := KR.cell 1
  have r2 := KR.cell 2
  have r3 := KR.cell 3
  simp only [List.getElem?_toArray, List.getElem?_cons_succ, List.getElem?_cons_zero] at r0 r1 r2 r3
  have rl := KR.lt
  have HK2 := hidH KR
  have HB2 := hidH (btr HB.out b2)
  have HBZ := hidH (fun z => rvF_by HK1.out HY.out (y := y) z)
  obtain ⟨f, hf⟩ : ∃ f, byF y.Cum 1 y.Beyond = f := ⟨_, rfl⟩
  have HF := hidH hf
  rw [hf] at HBZ ⊢
  clear KR b2 HBY hf
  by_cases hz : f = 0
  case neg =>
    have hz2 : (f != 0) = true := by rw [bne_iff_ne]; exact hz
    have HE := hidH (HBZ.out hz)
    clear hz
    go_wp2
    go_ret
    exact ⟨ret_int HE.out.symm, HB2.out⟩
  subst hz
  clear HBZ
  go_wp2_with fail
  refine (HPS.out _ HB2.out).mono ?_
  rintro e w3 ⟨rfl, b3⟩
  have KR := HK2.out.below b3
  clear r0 r1 r2 r3 rl
  have r0 := KR.cell 0
  have r1 := KR.cell 1
  have r2 := KR.cell 2
  have r3 := KR.cell 3
  simp only [List.getElem?_toArray, List.getElem?_cons_succ, List.getElem?_cons_zero] at r0 r1 r2 r3
  have rl := KR.lt
  have HK3 := hidH KR
  have HB3 := hidH (btr HB2.out b3)
  have HPZ := hidH (fun z => rvF_ps HK1.out HY.out HF.out (y := y) z)
  obtain ⟨f, hf⟩ : ∃ f, psF y.Cum y.Beyond none y.Pieces = f := ⟨_, rfl⟩
  have HG := hidH hf
  rw [hf] at HPZ ⊢
  clear KR b3 HPS hf HK2
  by_cases hz : f = 0
  case neg =>
    have hz2 : (f != 0) = true := by rw [bne_iff_ne]; exact hz
    have HE := hidH (HPZ.out hz)
    clear hz
    go_wp2
    go_ret
    exact ⟨ret_int HE.out.symm, HB3.out⟩
  subst hz
  clear HPZ
  have HE := hidH (rvF_nx HK1.out HY.out HF.out HG.out)
  have HI := hidH (fun (W : World) (hW : Below u.heap.size u W) => HNI.out W hW)
  obtain ⟨l, hl⟩ : ∃ l, y.Next = l := ⟨_, rfl⟩
  have HL := hidH (show l.length = 10 by rw [← hl]; exact HN3.out)
  simp only [hl] at HE HI
  clear hl HNI HRD
  go_wp2
  go_loopw [40] (fun i wr => ∃ j : Nat, j ≤ 10 ∧ i = .int .i64 j ∧ Below u.heap.size u wr ∧ nxF (l.drop j) = nxF l) (fun i _ => 10 - (intOf i).toNat)
  case atStart => exact ⟨0, by omega, rfl, HB3.out, rfl⟩
  case round =>
    obtain ⟨j, hj, rfl, hBr, hk⟩ := hrel
    by_cases hlt : j < 10
    · have hj0 : (0 : Int) ≤ (j : Int) := by omega
      have hj1 : (j : Int) < 10 := by omega
      have hjl : j < l.length := by have := HL.out; omega
      obtain ⟨b, off, eA, hb, hcell⟩ := is_cell (HI.out wr hBr) hjl
      have hs := nxF_step hjl
      obtain ⟨t, ht⟩ : ∃ t, l.getD j 0 = t := ⟨_, rfl⟩
      rw [hk, ht] at hs
      rw [ht] at hcell
      subst eA
      have HS := hidH hs
      have HBr := hidH hBr
      clear hs ht hk hBr r0 r1 r2 r3 rl
      by_cases hv : inB t 0 65535 = true
      · have HX := hidH (show nxF (l.drop (j + 1)) = nxF l by rw [HS.out, hv, if_pos rfl])
        go_wp2_with (first | (go_at_call 47; refine (isPair_any _ _).mono ?_; rintro e w' ⟨rfl, rfl⟩))
        go_roundw
        case rel => exact ⟨j + 1, by omega, by go_num, HBr.out, HX.out⟩
        case measure => simp [intOf]; omega
      · have hv : inB t 0 65535 = false := by simpa using hv
        have HX := hidH (show rvF y = 3 by rw [HE.out, HS.out, hv]; rfl)
        go_wp2_with (first | (go_at_call 47; refine (isPair_any _ _).mono ?_; rintro e w' ⟨rfl, rfl⟩))
        go_ret
        exact ⟨ret_int HX.out.symm, HBr.out⟩
    · obtain rfl : j = 10 := by omega
      have HX := hidH (show rvF y = 0 by rw [HE.out, ← hk, show (10 : Nat) = l.length from HL.out.symm, List.drop_length]; rfl)
      have HBr := hidH hBr
      clear hk hlt hj hBr
      go_wp2
      go_ret
      exact ⟨ret_int HX.out.symm, HBr.out⟩
theorem rv_impl (y : RecvM) (vs : List Value) (u : World) (h : RdA u y.vs vs) (_ : WfA y.vs) (_ : tot.totL y.vs ≤ 1048576) : Calls Try.prog 17 #[.agg vs.toArray] u (IntR (rvF y) u) := rvFw_impl y vs u h
end Go.Proofs.Ytncnibkojneejaa
