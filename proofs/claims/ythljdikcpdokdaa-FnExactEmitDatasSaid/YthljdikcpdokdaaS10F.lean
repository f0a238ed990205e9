/- Chapter 10: the program's SendFault. (WRITTEN BY tools/sd10.py) -/
import Derived.Test.YthljdikcpdokdaaNa5
import Derived.Test.YthljdikcpdokdaaNb1
import Derived.Test.YthljdikcpdokdaaS8JF
import Derived.BigQuiet
namespace Go.Proofs.Ythljdikcpdokdaa
open Go.RowKit Go.Deep

theorem el_Item {w : World} {r : List SendItemM} {v : Value} (h : Rd w (st_SendItem r) v) {j : Nat} (hj : j < r.length) :
    ∃ g o c, v = .slice (some ⟨g, o, none⟩) r.length c ∧ g < w.heap.size ∧ RdL w r[j].vs g (o + j * 9) := by
  obtain ⟨g, o, c, e, hg, R⟩ := Rd.row (f := SendItemM.vs) (W := 9) (fun _ => rfl) h hj
  exact ⟨g, o, c, e, hg, RdL.of_at R⟩
/-- A sender's values, taken apart. -/
theorem send_sh {y : SendM} {vs : List Value} {u : World} (h : RdA u y.vs vs) : ∃ (A2 : Option Addr) (c2 : Nat) (A3 : Option Addr) (c3 : Nat), vs = [.int .i64 y.Next, .int .i64 y.Acked, .slice A2 y.Seqs.length c2, .slice A3 y.Items.length c3] ∧
    Is u A2 y.Seqs ∧ Rd u (st_SendItem y.Items) (.slice A3 y.Items.length c3) ∧ (y.Seqs.length : Int) ≤ 9223372036854775807 ∧ (y.Items.length : Int) ≤ 9223372036854775807 ∧ y.Seqs.length ≤ c2 ∧ (c2 : Int) ≤ 9223372036854775807 := by
  obtain ⟨A2, c2, A3, c3, rfl⟩ := shape_Send h
  have h' : RdA u [.int y.Next, .int y.Acked, .is y.Seqs, st_SendItem y.Items] _ := h
  have k2 := h'.tl.tl.hd
  have k3 := h'.tl.tl.tl.hd
  obtain ⟨B2, d2, e2, l2, i2⟩ := k2.is_out
  injection e2 with e2 _ e3
  subst e3
  exact ⟨A2, c2, A3, c3, rfl, by rw [e2]; exact i2, k3, l2.len, Rd.st_len k3, l2.1, l2.2⟩
theorem is_at10 {w : World} {A : Option Addr} {l : List Int} (h : Is w A l) {j : Nat} (hj : j < l.length) : ∃ b off, A = some ⟨b, off, none⟩ ∧ b < w.heap.size ∧ w.cell? ⟨b, off + j, none⟩ = some (.int .i64 (l.getD j 0)) := by
  rcases h with h | ⟨b, off, e, hb, h⟩
  · rw [h] at hj; simp at hj
  · exact ⟨b, off, e, hb, h j hj⟩
theorem rd_d {w : World} {x : SendItemM} {A : Option Addr} {c : Nat} (h : Rd w (.bs x.Data_Piece) (.slice A x.Data_Piece.length c)) : RdA w x.d.vs [.int .i64 x.Data_Tsn, .int .i64 x.Data_Stream, .int .i64 x.Data_Seq, .bool x.Data_First, .bool x.Data_Last, .bool x.Data_Unordered, .slice A x.Data_Piece.length c] :=
  RdA.int_mk (RdA.int_mk (RdA.int_mk (RdA.bool_mk (RdA.bool_mk (RdA.bool_mk (RdA.any_mk h RdA.nil_mk))))))
theorem rd_i {w : World} {x : SendItemM} {A : Option Addr} {c : Nat} (h : Rd w (.bs x.Data_Piece) (.slice A x.Data_Piece.length c)) : RdA w x.vs [.int .i64 x.Data_Tsn, .int .i64 x.Data_Stream, .int .i64 x.Data_Seq, .bool x.Data_First, .bool x.Data_Last, .bool x.Data_Unordered, .slice A x.Data_Piece.length c, .int .i64 x.Sent, .int .i64 x.Due] :=
  RdA.int_mk (RdA.int_mk (RdA.int_mk (RdA.bool_mk (RdA.bool_mk (RdA.bool_mk (RdA.any_mk h (RdA.int_mk (RdA.int_mk RdA.nil_mk))))))))
theorem RdL.blk {w : World} {xs : List V} {vs : List Value} {g : Nat} {t : TypeId} (h : RdA w xs vs) (k : Blk w g t vs.toArray) : RdL w xs g 0 :=
  RdL.of_cells h (fun j _ => by rw [Nat.zero_add, k.cell]; simp)
theorem RdL.d {w : World} {x : SendItemM} {g o : Nat} (h : RdL w x.vs g o) : RdL w x.d.vs g o := by
  obtain ⟨A, c, z0, z1, z2, z3, z4, z5, z6, z7, z8, hb⟩ := mem_SendItem h
  exact RdL.of_cells (rd_d hb) (fun k hk => by
    have hk : k < 7 := hk
    rcases (show k = 0 ∨ k = 1 ∨ k = 2 ∨ k = 3 ∨ k = 4 ∨ k = 5 ∨ k = 6 by omega) with rfl | rfl | rfl | rfl | rfl | rfl | rfl <;> assumption)
theorem fldI10 (c v : Int) (w : World) : (Instr.field 38 (.agg #[.int .i64 c, .int .i64 v]) 1).run Try.prog w = .ok (.int .i64 v) w := by kernel_rfl
set_option maxRecDepth 100000 in
set_option maxHeartbeats 400000 in
theorem dist10_impl (n a : Int) (A2 A3 : Option Addr) (n2 n3 c2 c3 : Nat) (t : Int) (w : World) : Calls Try.prog 72 #[.agg #[.int .i64 n, .int .i64 a, .slice A2 n2 c2, .slice A3 n3 c3], .int .i64 t] w (IntR (gapV a t) w) := by
  have B1 := hidH (bal (Below.refl w.heap.size w) (.cells #[.int .i64 n, .int .i64 a, .slice A2 n2 c2, .slice A3 n3 c3] 47))
  have HB := hidH (fun (u : World) (h : Below w.heap.size w u) => bal h (.cells #[.int .i64 (addC a t), .int .i64 (gapV a t)] 38))
  go_enter Try.func72, Try.ntmps72
  go_wp2_with fail
  refine (gap_impl _ _ _).mono ?_
  rintro e w2 ⟨rfl, rfl⟩
  have f1 := fldI10
  go_wp2
  go_ret
  exact ⟨rfl, HB.out _ B1.out⟩
set_option maxHeartbeats 400000 in
theorem isTime_any (a : Int) (w : World) : Calls Try.prog 97 #[.int .i64 a] w fun e w' => e = .returned (.bool (inB a 0 1000000000)) ∧ w = w' := by
  by_cases h0 : 0 ≤ a
  · by_cases h1 : a ≤ 1000000000
    · rw [inB_yes h0 h1]
      go_enter Try.func97, Try.ntmps97
      go_wp2
      go_ret
      exact ⟨rfl, rfl⟩
    · rw [inB_hi (by omega)]
      go_enter Try.func97, Try.ntmps97
      go_wp2
      go_ret
      exact ⟨rfl, rfl⟩
  · rw [inB_lo (by omega)]
    go_enter Try.func97, Try.ntmps97
    go_wp2
    go_ret
    exact ⟨rfl, rfl⟩
set_option maxRecDepth 100000 in
set_option maxHeartbeats 1000000 in
theorem siF_impl (x : SendItemM) (g o : Nat) (w : World) (hg : g < w.heap.size) (h : RdL w x.vs g o) : Calls Try.prog 149 #[.pointer (some ⟨g, o, none⟩)] w (IntR (siF x) w) := by
  obtain ⟨A, cA, z0, z1, z2, z3, z4, z5, z6, z7, z8, hb⟩ := mem_SendItem h
  have HF := hidH (pdF_impl x.d _ _ (rd_d hb))
  have HZ7 := hidH (fun (u : World) (k : Below w.heap.size w u) => (k.cell (p := ⟨g, o + 7, none⟩) hg).trans z7)
  have HZ8 := hidH (fun (u : World) (k : Below w.heap.size w u) => (k.cell (p := ⟨g, o + 8, none⟩) hg).trans z8)
  have HG := hidH (fun (u : World) (k : Below w.heap.size w u) => Nat.lt_of_lt_of_le hg k.size)
  have HN := hidH (@siF_pd x)
  have HY := hidH (@siF_ok x)
  clear h hb hg
  go_enter Try.func149, Try.ntmps149
  go_wp2_with fail
  refine HF.out.mono ?_
  rintro e w2 ⟨rfl, b2⟩
  have HB2 := hidH b2
  clear z0 z1 z2 z3 z4 z5 z6 z7 z8 HF b2
  by_cases hz : pdF x.d = 0
  case neg =>
    have hz2 : (pdF x.d != 0) = true := by rw [bne_iff_ne]; exact hz
    have HE := hidH (HN.out hz)
    obtain ⟨f, hf⟩ : ∃ f, pdF x.d = f := ⟨_, rfl⟩
    rw [hf] at hz2 HE ⊢
    clear hz HN HY hf
    go_wp2
    go_ret
    exact ⟨ret_int HE.out.symm, HB2.out⟩
  have HE := hidH (HY.out hz)
  rw [hz]
  have z7 := HZ7.out _ HB2.out
  have z8 := HZ8.out _ HB2.out
  have hg := HG.out _ HB2.out
  clear hz HN HY HZ7 HZ8 HG
  by_cases s0 : x.Sent < 0
  · have HX := hidH (show siF x = 3 by rw [HE.out, inB_lo s0]; rfl)
    go_wp2
    go_ret
    exact ⟨ret_int HX.out.symm, HB2.out⟩
  by_cases s1 : 99 < x.Sent
  · have HX := hidH (show siF x = 3 by rw [HE.out, inB_hi s1]; rfl)
    go_wp2
    go_ret
    exact ⟨ret_int HX.out.symm, HB2.out⟩
  have HX := hidH (show siF x = if inB x.Due 0 1000000000 then 0 else 3 by rw [HE.out, inB_yes (by omega) (by omega), Bool.true_and])
  obtain ⟨b, hb⟩ : ∃ b, inB x.Due 0 1000000000 = b := ⟨_, rfl⟩
  rw [hb] at HX
  cases b
  · have HX2 := hidH (show siF x = 3 from HX.out)
    go_wp2_with (first | (go_at_call 97; refine (isTime_any _ _).mono ?_; rintro e w' ⟨rfl, rfl⟩))
    go_ret
    exact ⟨ret_int HX2.out.symm, HB2.out⟩
  · have HX2 := hidH (show siF x = 0 from HX.out)
    go_wp2_with (first | (go_at_call 97; refine (isTime_any _ _).mono ?_; rintro e w' ⟨rfl, rfl⟩))
    go_ret
    exact ⟨ret_int HX2.out.symm, HB2.out⟩
set_option maxRecDepth 100000 in
set_option maxHeartbeats 4000000 in
theorem it_impl (y : SendM) (vs : List Value) (u : World) (h : RdA u y.vs vs) : Calls Try.prog 80 #[.agg vs.toArray] u (IntR (itF y.Acked (gapV y.Acked y.Next) 0 y.Items) u) := by
  obtain ⟨A2, c2, A3, c3, rfl, _, hP, _, hm, _⟩ := send_sh h
  clear h
  obtain ⟨w1, hw1⟩ : ∃ W, u.alloc (.cells #[.int .i64 y.Next, .int .i64 y.Acked, .slice A2 y.Seqs.length c2, .slice A3 y.Items.length c3] 47) = W := ⟨_, rfl⟩
  have KB := Blk.new u 47 #[.int .i64 y.Next, .int .i64 y.Acked, .slice A2 y.Seqs.length c2, .slice A3 y.Items.length c3]
  have B1 := bal (Below.refl u.heap.size u) (.cells #[.int .i64 y.Next, .int .i64 y.Acked, .slice A2 y.Seqs.length c2, .slice A3 y.Items.length c3] 47)
  rw [hw1] at KB B1
  have H1 := hidH hw1
  have HB := hidH B1
  have HK := hidH KB
  have HP := hidH (fun (W : World) (hW : Below u.heap.size u W) => Rd.below hW _ hP)
  have HDI := hidH (fun (t : Int) (W : World) => dist10_impl y.Next y.Acked A2 A3 y.Seqs.length y.Items.length c2 c3 t W)
  obtain ⟨en, hen⟩ : ∃ en, gapV y.Acked y.Next = en := ⟨_, rfl⟩
  have HEN := hidH hen
  obtain ⟨F, hF⟩ : ∃ F, itF y.Acked en 0 y.Items = F := ⟨_, rfl⟩
  have HF0 := hidH hF
  rw [hen, hF]
  have HST := hidH (fun (a : Int) {j : Nat} (hj : j < y.Items.length) => itF_step y.Acked en a hj)
  clear hP hw1 KB B1 hen hF
  go_enter Try.func80, Try.ntmps80
  go_wp2
  rw [H1.out]
  go_loopw [3, 11] (fun p i wr => ∃ (j : Nat) (a : Int), j ≤ y.Items.length ∧ p = .int .i64 a ∧ i = .int .i64 j ∧ Below w1.heap.size w1 wr ∧ itF y.Acked en a (y.Items.drop j) = F) (fun _ i _ => y.Items.length - (intOf i).toNat)
  case atStart => exact ⟨0, 0, by omega, rfl, rfl, Below.refl _ _, by simpa using HF0.out⟩
  case round =>
    obtain ⟨j, a, hj, rfl, rfl, hBr, hk⟩ := hrel
    by_cases hlt : j < y.Items.length
    · have hj0 : (0 : Int) ≤ (j : Int) := by omega
      have hj1 : (j : Int) < (y.Items.length : Int) := by omega
      obtain ⟨g, o, c, eA, hg, E⟩ := el_Item (HP.out wr (btr HB.out hBr)) hlt
      injection eA with eA _ eC
      subst eC
      have hs := HST.out a hlt
      rw [hk] at hs
      obtain ⟨x, hx⟩ : ∃ x, y.Items[j] = x := ⟨_, rfl⟩
      rw [hx] at E hs
      obtain ⟨A, cA, d0, d1, d2, d3, d4, d5, d6, d7, d8, hb⟩ := mem_SendItem E
      subst eA
      have BW := bal (Below.refl wr.heap.size wr) (.cells #[.int .i64 x.Data_Tsn, .int .i64 x.Data_Stream, .int .i64 x.Data_Seq, .bool x.Data_First, .bool x.Data_Last, .bool x.Data_Unordered, .slice A x.Data_Piece.length cA, .int .i64 x.Sent, .int .i64 x.Due] 121)
      have KG0 := Blk.new wr 121 #[.int .i64 x.Data_Tsn, .int .i64 x.Data_Stream, .int .i64 x.Data_Seq, .bool x.Data_First, .bool x.Data_Last, .bool x.Data_Unordered, .slice A x.Data_Piece.length cA, .int .i64 x.Sent, .int .i64 x.Due]
      have HF := hidH (siF_impl x wr.heap.size 0 _ KG0.lt (RdL.blk (rd_i (Rd.below BW _ hb)) KG0))
      have KG := hidH KG0
      have KR := hidH ((HK.out.below hBr).below BW)
      have HBW := hidH (btr hBr BW)
      have HS := hidH hs
      clear hs hx hk BW hBr KG0 E hb
      go_wp2_with fail
      refine HF.out.mono ?_
      rintro e w3 ⟨rfl, b3⟩
      have HB3 := hidH (btr HBW.out b3)
      replace KG := hidH (KG.out.below b3)
      replace KR := hidH (KR.out.below b3)
      clear b3 HF HBW d0 d1 d2 d3 d4 d5 d6 d7 d8
      by_cases hz : siF x = 0
      case neg =>
        have hz2 : (siF x != 0) = true := by rw [bne_iff_ne]; exact hz
        have HE := hidH (show F = siF x by rw [HS.out, if_neg hz])
        obtain ⟨f, hf⟩ : ∃ f, siF x = f := ⟨_, rfl⟩
        rw [hf] at hz2 HE ⊢
        clear hz HS hf
        go_wp2
        go_ret
        exact ⟨ret_int HE.out.symm, btr HB.out HB3.out⟩
      have HS2 := hidH (show F = if a < gapV y.Acked x.Data_Tsn ∧ gapV y.Acked x.Data_Tsn < en then itF y.Acked en (gapV y.Acked x.Data_Tsn) (y.Items.drop (j + 1)) else 1 by rw [HS.out, if_pos hz])
      rw [hz]
      have HDT := hidH (fun W => HDI.out x.Data_Tsn W)
      obtain ⟨d, hd⟩ : ∃ d, gapV y.Acked x.Data_Tsn = d := ⟨_, rfl⟩
      rw [hd] at HS2 HDT
      have g0 := KG.out.cell 0
      have gl := KG.out.lt
      have r0 := KR.out.cell 0
      have r1 := KR.out.cell 1
      have r2 := KR.out.cell 2
      have r3 := KR.out.cell 3
      simp only [List.getElem?_toArray, List.getElem?_cons_succ, List.getElem?_cons_zero] at r0 r1 r2 r3 g0
      have rl := KR.out.lt
      clear hz HS hd
      go_wp2_with fail
      refine (HDT.out _).mono ?_
      rintro e w4 ⟨rfl, b4⟩
      have HB4 := hidH (btr HB3.out b4)
      replace KR := hidH (KR.out.below b4)
      clear b4 g0 gl r0 r1 r2 r3 rl HDT KG
      by_cases h1 : d ≤ a
      · have HE := hidH (show F = 1 by rw [HS2.out, if_neg (by omega)])
        go_wp2
        go_ret
        exact ⟨ret_int HE.out.symm, btr HB.out HB4.out⟩
      have r0 := KR.out.cell 0
      have r1 := KR.out.cell 1
      have r2 := KR.out.cell 2
      have r3 := KR.out.cell 3
      simp only [List.getElem?_toArray, List.getElem?_cons_succ, List.getElem?_cons_zero] at r0 r1 r2 r3
      have rl := KR.out.lt
      have HDN := hidH (fun W => HDI.out y.Next W)
      rw [HEN.out] at HDN
      go_wp2_with fail
      refine (HDN.out _).mono ?_
      rintro e w5 ⟨rfl, b5⟩
      have HB5 := hidH (btr HB4.out b5)
      clear b5 r0 r1 r2 r3 rl HDN HB4 HB3 KR
      by_cases h2 : d < en
      · have HE := hidH (show itF y.Acked en d (y.Items.drop (j + 1)) = F by rw [HS2.out, if_pos ⟨by omega, h2⟩])
        go_wp2
        go_roundw
        case rel => exact ⟨j + 1, d, by omega, rfl, by go_num, HB5.out, HE.out⟩
        case measure => simp [intOf]; omega
      · have HE := hidH (show F = 1 by rw [HS2.out, if_neg (by omega)])
        go_wp2
        go_ret
        exact ⟨ret_int HE.out.symm, btr HB.out HB5.out⟩
    · obtain rfl : j = y.Items.length := by omega
      have HE := hidH (show F = 0 by rw [← hk, List.drop_length]; rfl)
      have HBr := hidH hBr
      clear hk hlt hj hBr
      go_wp2
      go_ret
      exact ⟨ret_int HE.out.symm, btr HB.out HBr.out⟩
set_option maxRecDepth 100000 in
set_option maxHeartbeats 4000000 in
theorem sdw_impl (y : SendM) (vs : List Value) (u : World) (h : RdA u y.vs vs) : Calls Try.prog 22 #[.agg vs.toArray] u (IntR (sdF y) u) := by
  obtain ⟨A2, c2, A3, c3, rfl, hN, hP, hm2, hm3, _⟩ := send_sh h
  have HRD := hidH (fun (W : World) (hW : Below u.heap.size u W) => RdA.below hW h)
  have HNI := hidH (fun (W : World) (hW : Below u.heap.size u W) => is_below hN hW)
  obtain ⟨w1, hw1⟩ : ∃ W, u.alloc (.cells #[.int .i64 y.Next, .int .i64 y.Acked, .slice A2 y.Seqs.length c2, .slice A3 y.Items.length c3] 47) = W := ⟨_, rfl⟩
  have KB := Blk.new u 47 #[.int .i64 y.Next, .int .i64 y.Acked, .slice A2 y.Seqs.length c2, .slice A3 y.Items.length c3]
  have B1 := bal (Below.refl u.heap.size u) (.cells #[.int .i64 y.Next, .int .i64 y.Acked, .slice A2 y.Seqs.length c2, .slice A3 y.Items.length c3] 47)
  rw [hw1] at KB B1
  have H1 := hidH hw1
  have HB := hidH B1
  have HK := hidH KB
  clear h hN hP hw1 B1 KB
  by_cases k1 : wB y.Next = true
  case neg =>
    have k1 : wB y.Next = false := by simpa using k1
    have HE := hidH (sdF_range (y := y) (by rw [k1]; rfl))
    go_enter Try.func22, Try.ntmps22
    go_wp2_with (first | (go_at_call 61; refine (isWord_any _ _).mono ?_; rintro e w' ⟨rfl, rfl⟩))
    go_ret
    exact ⟨ret_int HE.out.symm, by rw [H1.out]; exact HB.out⟩
  by_cases k2 : wB y.Acked = true
  case neg =>
    have k2 : wB y.Acked = false := by simpa using k2
    have HE := hidH (sdF_range (y := y) (by rw [k1, k2]; rfl))
    go_enter Try.func22, Try.ntmps22
    go_wp2_with (first | (go_at_call 61; refine (isWord_any _ _).mono ?_; rintro e w' ⟨rfl, rfl⟩))
    go_ret
    exact ⟨ret_int HE.out.symm, by rw [H1.out]; exact HB.out⟩
  have k12 : (wB y.Next && wB y.Acked) = true := by rw [k1, k2]; rfl
  by_cases n1 : 40 < y.Items.length
  · have HE := hidH (sdF_many k12 (sdN_i n1))
    have n1' : (40 : Int) < (y.Items.length : Int) := by omega
    clear n1 k12
    go_enter Try.func22, Try.ntmps22
    go_wp2_with (first | (go_at_call 61; refine (isWord_any _ _).mono ?_; rintro e w' ⟨rfl, rfl⟩))
    go_ret
    exact ⟨ret_int HE.out.symm, by rw [H1.out]; exact HB.out⟩
  have n1' : ¬ (40 : Int) < (y.Items.length : Int) := by omega
  by_cases n3 : y.Seqs.length = 10
  case neg =>
    have HE := hidH (sdF_many k12 (sdN_s n3))
    have n3' : ((y.Seqs.length : Int) != 10) = true := by rw [bne_iff_ne]; omega
    clear n3 n1 k12
    go_enter Try.func22, Try.ntmps22
    go_wp2_with (first | (go_at_call 61; refine (isWord_any _ _).mono ?_; rintro e w' ⟨rfl, rfl⟩))
    go_ret
    exact ⟨ret_int HE.out.symm, by rw [H1.out]; exact HB.out⟩
  have HY := hidH (sdN_y n1 n3)
  have HK1 := hidH k12
  have HIT := hidH (fun W hW => it_impl y _ W (HRD.out W hW))
  have HN3 := hidH n3
  have HDI := hidH (fun (t : Int) (W : World) => dist10_impl y.Next y.Acked A2 A3 y.Seqs.length y.Items.length c2 c3 t W)
  have HDN := hidH (fun (W : World) => HDI.out y.Next W)
  rw [n3] at HK H1 HRD HIT HDI HDN ⊢
  have hr := gapV_rng y.Acked y.Next
  have HFM := hidH (fun g => sdF_form HK1.out HY.out (y := y) g)
  have HFI := hidH (fun g z => sdF_it HK1.out HY.out (y := y) g z)
  have HFN := hidH (fun g z => sdF_nx HK1.out HY.out (y := y) g z)
  obtain ⟨en, hen⟩ : ∃ en, gapV y.Acked y.Next = en := ⟨_, rfl⟩
  rw [hen] at HDN HIT hr HFM HFI HFN
  clear n1 n3 hm2 hm3 k12 hen HDI
  go_enter Try.func22, Try.ntmps22
  go_wp2_with (first | (go_at_call 61; refine (isWord_any _ _).mono ?_; rintro e w' ⟨rfl, rfl⟩))
  rw [H1.out]
  refine (HDN.out _).mono ?_
  rintro e w2 ⟨rfl, b2⟩
  have HB2 := hidH (btr HB.out b2)
  have KR := HK.out.below b2
  have r0 := KR.cell 0
  have r1 := KR.cell 1
  have r2 := KR.cell 2
  have r3 := KR.cell 3
  simp only [List.getElem?_toArray, List.getElem?_cons_succ, List.getElem?_cons_zero] at r0 r1 r2 r3
  have rl := KR.lt
  clear KR
  have HK2 := hidH (HK.out.below b2)
  clear b2 HDN HK
  by_cases e1 : en < 1
  · have HE := hidH (HFM.out (inB_lo e1))
    go_wp2
    go_ret
    exact ⟨ret_int HE.out.symm, HB2.out⟩
  by_cases e2 : 1000 < en
  · have HE := hidH (HFM.out (inB_hi e2))
    go_wp2
    go_ret
    exact ⟨ret_int HE.out.symm, HB2.out⟩
  have eg : inB en 1 1000 = true := inB_yes (by omega) (by omega)
  replace HFI := hidH (HFI.out eg)
  replace HFN := hidH (HFN.out eg)
  clear eg HFM
  go_wp2_with fail
  refine (HIT.out _ HB2.out).mono ?_
  rintro e w3 ⟨rfl, b3⟩
  clear r0 r1 r2 r3 rl
  have KR := HK2.out.below b3
  have r0 := KR.cell 0
  have r1 := KR.cell 1
  have r2 := KR.cell 2
  have r3 := KR.cell 3
  simp only [List.getElem?_toArray, List.getElem?_cons_succ, List.getElem?_cons_zero] at r0 r1 r2 r3
  have rl := KR.lt
  clear KR
  have HB3 := hidH (btr HB2.out b3)
  obtain ⟨f, hf⟩ : ∃ f, itF y.Acked en 0 y.Items = f := ⟨_, rfl⟩
  rw [hf] at HFI HFN ⊢
  clear b3 HIT hf HK2
  by_cases hz : f = 0
  case neg =>
    have hz2 : (f != 0) = true := by rw [bne_iff_ne]; exact hz
    have HE := hidH (HFI.out hz)
    clear hz
    go_wp2
    go_ret
    exact ⟨ret_int HE.out.symm, HB3.out⟩
  subst hz
  have HE := hidH (HFN.out rfl)
  have HI := hidH (fun (W : World) (hW : Below u.heap.size u W) => HNI.out W hW)
  obtain ⟨l, hl⟩ : ∃ l, y.Seqs = l := ⟨_, rfl⟩
  have HL := hidH (show l.length = 10 by rw [← hl]; exact HN3.out)
  simp only [hl] at HE HI
  clear hl HNI HRD HFI HFN e1 e2 hr
  go_wp2
  go_loopw [45] (fun i wr => ∃ j : Nat, j ≤ 10 ∧ i = .int .i64 j ∧ Below u.heap.size u wr ∧ nxF (l.drop j) = nxF l) (fun i _ => 10 - (intOf i).toNat)
  case atStart => exact ⟨0, by omega, rfl, HB3.out, rfl⟩
  case round =>
    obtain ⟨j, hj, rfl, hBr, hk⟩ := hrel
    by_cases hlt : j < 10
    · have hj0 : (0 : Int) ≤ (j : Int) := by omega
      have hj1 : (j : Int) < 10 := by omega
      have hjl : j < l.length := by have := HL.out; omega
      obtain ⟨b, off, eA, hb, hcell⟩ := is_at10 (HI.out wr hBr) hjl
      have hs := nxF_step hjl
      obtain ⟨t, ht⟩ : ∃ t, l.getD j 0 = t := ⟨_, rfl⟩
      rw [hk, ht] at hs
      rw [ht] at hcell
      subst eA
      have HS := hidH hs
      have HBr := hidH hBr
      clear hs ht hk hBr r0 r1 r2 r3 rl
      by_cases hv : inB t 0 65535 = true
      · have HX := hidH (show nxF (l.drop (j + 1)) = nxF l by rw [HS.out, hv, if_pos rfl])
        go_wp2_with (first | (go_at_call 81; refine (isPair_any _ _).mono ?_; rintro e w' ⟨rfl, rfl⟩))
        go_roundw
        case rel => exact ⟨j + 1, by omega, by go_num, HBr.out, HX.out⟩
        case measure => simp [intOf]; omega
      · have hv : inB t 0 65535 = false := by simpa using hv
        have HX := hidH (show sdF y = 3 by rw [HE.out, HS.out, hv]; rfl)
        go_wp2_with (first | (go_at_call 81; refine (isPair_any _ _).mono ?_; rintro e w' ⟨rfl, rfl⟩))
        go_ret
        exact ⟨ret_int HX.out.symm, HBr.out⟩
    · obtain rfl : j = 10 := by omega
      have HX := hidH (show sdF y = 0 by rw [HE.out, ← hk, show (10 : Nat) = l.length from HL.out.symm, List.drop_length]; rfl)
      have HBr := hidH hBr
      clear hk hlt hj hBr
      go_wp2
      go_ret
      exact ⟨ret_int HX.out.symm, HBr.out⟩
theorem sd_impl (y : SendM) (vs : List Value) (u : World) (h : RdA u y.vs vs) (_ : WfA y.vs) (_ : tot.totL y.vs ≤ 1048576) : Calls Try.prog 22 #[.agg vs.toArray] u (IntR (sdF y) u) := sdw_impl y vs u h
end Go.Proofs.Ythljdikcpdokdaa
