import Derived.Test.YtjjileefdjjijaaDoorMb3
import Derived.Test.YtjjileefdjjijaaDoorMb1
import Derived.Handy

/- The program's greeting: emptyChunk, packContent. -/
namespace Go.Proofs.YtjjileefdjjijaaDoor
open Go.RowKit Go.Deep

set_option maxRecDepth 100000 in
set_option maxHeartbeats 2000000 in
theorem emptyG_any (y : InitM) (k : Int) (A2 : Option Addr) (c2 : Nat) (A3 : Option Addr) (c3 : Nat) (A4 : Option Addr) (c4 : Nat) (w : World) :
    Calls Tryd.prog 103 #[.iface 100 (.agg #[.int .i64 y.Tag, .int .i64 y.Tsn, .slice A2 y.Random.length c2, .slice A3 y.Addrs.length c3, .slice A4 y.Cookie.length c4, .int .i64 k])] w fun e w' => ∃ kk ff : Int, e = .returned (.agg #[.int .i64 kk, .int .i64 ff, .slice none 0 0]) ∧ kk = (piC y k).Kind ∧ ff = (piC y k).Flags ∧ Below w.heap.size w w' := by
  have tD := fun u => taGD (.agg #[.int .i64 y.Tag, .int .i64 y.Tsn, .slice A2 y.Random.length c2, .slice A3 y.Addrs.length c3, .slice A4 y.Cookie.length c4, .int .i64 k]) u
  have tS := fun u => taGS (.agg #[.int .i64 y.Tag, .int .i64 y.Tsn, .slice A2 y.Random.length c2, .slice A3 y.Addrs.length c3, .slice A4 y.Cookie.length c4, .int .i64 k]) u
  have tG := fun u => taGG (.agg #[.int .i64 y.Tag, .int .i64 y.Tsn, .slice A2 y.Random.length c2, .slice A3 y.Addrs.length c3, .slice A4 y.Cookie.length c4, .int .i64 k]) u
  go_enter Tryd.func103, Tryd.ntmps103
  go_wp2
  exact bodyPost_ret (v := .agg #[.int .i64 (k), .int .i64 (0), .slice none 0 0]) (by simp [results, Tryd.results103, go_sem]) rfl ⟨_, _, rfl, rfl, rfl, bal (bal (bal (Below.refl _ _) _) _) _⟩
set_option maxRecDepth 100000 in
set_option maxHeartbeats 4000000 in
theorem pcG_any (y : InitM) (k : Int) (A2 : Option Addr) (c2 : Nat) (A3 : Option Addr) (c3 : Nat) (A4 : Option Addr) (c4 : Nat) (w : World) (h : RdA w y.vs [.int .i64 y.Tag, .int .i64 y.Tsn, .slice A2 y.Random.length c2, .slice A3 y.Addrs.length c3, .slice A4 y.Cookie.length c4]) :
    Calls Tryd.prog 59 #[.iface 100 (.agg #[.int .i64 y.Tag, .int .i64 y.Tsn, .slice A2 y.Random.length c2, .slice A3 y.Addrs.length c3, .slice A4 y.Cookie.length c4, .int .i64 k])] w (Res w (piR y k).vs) := by
  have K1 := Blk.new w 30 #[.int .i64 0, .int .i64 0, .int .i64 0, .slice none 0 0]
  have B1 := bal (Below.refl w.heap.size w) (.cells #[.int .i64 0, .int .i64 0, .int .i64 0, .slice none 0 0] 30)
  obtain ⟨w1, hw1⟩ : ∃ w1, w.alloc (.cells #[.int .i64 0, .int .i64 0, .int .i64 0, .slice none 0 0] 30) = w1 := ⟨_, rfl⟩
  rw [hw1] at K1 B1
  have HF := hidH (inF_impl y k A2 c2 A3 c3 A4 c4 w1 (RdA.below B1 h))
  have HRD := hidH h
  have HT := hidH (And.intro K1 B1)
  clear h K1 B1
  go_enter Tryd.func59, Tryd.ntmps59
  go_wp2_with fail
  refine HF.out.mono ?_
  rintro e w3 ⟨rfl, b3⟩
  replace HT := hidH (And.intro (HT.out.1.below b3) (btr HT.out.2 b3))
  clear HF b3 hw1
  by_cases hz : piF y k = 0
  · have HZ := hidH hz
    rw [hz]
    have KR := Blk.new w3 148 #[.slice none 0 0]
    have B4 := bal (Below.refl w3.heap.size w3) (.cells #[.slice none 0 0] 148)
    obtain ⟨w4, hw4⟩ : ∃ w4, w3.alloc (.cells #[.slice none 0 0] 148) = w4 := ⟨_, rfl⟩
    rw [hw4] at KR B4
    have hRl := HT.out.1.lt
    have HW := hidH (inW_impl w3.heap.size y k A2 c2 A3 c3 A4 c4 w w4 HRD.out (btr HT.out.2 B4) HT.out.2.size (wr_nil KR) hz)
    unfold Wrote at HW
    obtain ⟨L, hL⟩ : ∃ L, (piC y k).Body = L := ⟨_, rfl⟩
    rw [hL] at HW
    have HL := hidH hL
    replace HT := hidH (And.intro (HT.out.1.below B4) (btr HT.out.2 B4))
    have HR := hidH hRl
    clear hz KR B4 hRl hL
    go_wp2_with fail
    refine HW.out.mono ?_
    rintro e w5 ⟨rfl, hw, hb, _⟩
    replace HT := hidH (And.intro (show Blk w5 w.heap.size 30 _ from (hb.block _ HR.out).trans HT.out.1) (HT.out.2.trans (hb.mono (Nat.le_of_lt HR.out))))
    have HE := hidH (emptyG_any y k A2 c2 A3 c3 A4 c4 w5)
    have HWR := hidH hw
    clear HW hw hb hw4
    go_wp2_with fail
    refine HE.out.mono ?_
    rintro e w6 ⟨kk, ff, rfl, hkk, hff, b6⟩
    have HKF := hidH (And.intro hkk hff)
    clear hkk hff
    obtain ⟨v, KW, OW⟩ := HWR.out.below b6
    obtain ⟨A9, c9, e9, ob9, k9, m9⟩ := own_ob OW
    subst e9
    have hs6 := KW.lt
    have K6 := HT.out.1.below b6
    have HB6 := hidH (HT.out.2.trans (b6.mono HT.out.2.size))
    have B7 := bal (Below.refl w6.heap.size w6) (.cells #[.int .i64 kk, .int .i64 ff, .slice none 0 0] 28)
    have K7 := Blk.new w6 28 #[.int .i64 kk, .int .i64 ff, .slice none 0 0]
    have KW7 := KW.below B7
    have KR7 := K6.below B7
    obtain ⟨n9, hn9⟩ : ∃ n, L.length = n := ⟨_, rfl⟩
    have HOB := hidH (show OwV (w3.heap.size + 1) w6.heap.size (w6.alloc (.cells #[.int .i64 kk, .int .i64 ff, .slice none 0 0] 28)) (.bs L) (.slice A9 n9 c9) by rw [← hn9]; exact (ob9.owv (Nat.le_refl _) ⟨k9, m9⟩).below B7)
    rw [hn9] at KW7
    have x0 := KR7.cell 0
    have x1 := KR7.cell 1
    have x2 := KR7.cell 2
    have x3 := KR7.cell 3
    have f0 := KR7.frozen 0
    have f1 := KR7.frozen 1
    have f2 := KR7.frozen 2
    have f3 := KR7.frozen 3
    have y0 := K7.cell 0
    have y1 := K7.cell 1
    have y2 := K7.cell 2
    have g2 := K7.frozen 2
    have z0 := KW7.cell 0
    simp only [List.getElem?_toArray, List.getElem?_cons_succ, List.getElem?_cons_zero] at x0 x1 x2 x3 y0 y1 y2 z0
    have l1 := KR7.lt
    have l2 := K7.lt
    have l3 := KW7.lt
    have HB7 := hidH (btr HB6.out B7)
    obtain ⟨w7, hw7⟩ : ∃ w7, w6.alloc (.cells #[.int .i64 kk, .int .i64 ff, .slice none 0 0] 28) = w7 := ⟨_, rfl⟩
    rw [hw7] at x0 x1 x2 x3 f0 f1 f2 f3 y0 y1 y2 g2 z0 l1 l2 l3 HB7 HOB
    have HS := hidH (And.intro hs6 (And.intro K6.lt HR.out))
    have ne1 : w.heap.size ≠ w6.heap.size := by have := K6.lt; omega
    have ne2 : w3.heap.size ≠ w6.heap.size := by omega
    have ne3 : w3.heap.size ≠ w.heap.size := by have := HR.out; omega
    clear HE HWR b6 KW OW ob9 k9 m9 hs6 K6 B7 K7 KW7 KR7 hn9 HB6
    go_wp2
    have hle : w.heap.size ≤ w6.heap.size := by have := HS.out; omega
    exact bodyPost_ret (v := .agg #[.int .i64 0, .int .i64 kk, .int .i64 ff, .slice A9 n9 c9]) (by simp [results, Tryd.results59, go_sem, x0, x1, x2, x3]) rfl ⟨_, rfl, by
      have e : (piR y k).vs = [.int 0, .int kk, .int ff, .bs L] := by rw [piR, crOf, if_pos HZ.out, ← HL.out, HKF.out.1, HKF.out.2]; rfl
      rw [e]
      refine OwN.int 0 (OwN.int _ (OwN.int _ ((OwN.cons (B := w3.heap.size + 1) (C := w6.heap.size) (D := w6.heap.size) ?_ (OwN.nil (by simp [World.setCell]; omega)) (by have := HS.out; omega) (Nat.le_refl _)).mono (by have := HS.out; omega) (by simp [World.setCell]; omega) (Nat.le_refl _))))
      iterate 4 (refine OwV.win (B' := w.heap.size) (C' := w.heap.size + 1) ?_ (set_win _ _ _ _) (.inr (by have := HS.out; omega)))
      repeat (refine OwV.win (B' := w6.heap.size) (C' := w6.heap.size + 1) ?_ (set_win _ _ _ _) (.inl (Nat.le_refl _)))
      exact HOB.out, by
      repeat (refine bst ?_ (by first | exact Nat.le_refl _ | exact hle) _)
      exact HB7.out⟩
  · have hne : (piF y k != 0) = true := by rw [bne_iff_ne]; exact hz
    have HZ := hidH hz
    obtain ⟨F, hF⟩ : ∃ F, piF y k = F := ⟨_, rfl⟩
    have HEQ := hidH hF
    rw [hF] at hne ⊢
    have x0 := HT.out.1.cell 0
    have x1 := HT.out.1.cell 1
    have x2 := HT.out.1.cell 2
    have x3 := HT.out.1.cell 3
    simp only [List.getElem?_toArray, List.getElem?_cons_succ, List.getElem?_cons_zero] at x0 x1 x2 x3
    have f0 := HT.out.1.frozen 0
    have f1 := HT.out.1.frozen 1
    have f2 := HT.out.1.frozen 2
    have f3 := HT.out.1.frozen 3
    have hr := HT.out.1.lt
    clear hz hF
    go_wp2
    exact bodyPost_ret (v := .agg #[.int .i64 F, .int .i64 0, .int .i64 0, .slice none 0 0]) (by simp [results, Tryd.results59, go_sem, x0, x1, x2, x3]) rfl ⟨_, rfl, by
      have e : (piR y k).vs = [.int F, .int 0, .int 0, .bs []] := by rw [piR, crOf, if_neg HZ.out, HEQ.out]; rfl
      rw [e]
      exact (OwN.int F (OwN.int 0 (OwN.int 0 (OwN.empty _ (Nat.le_refl _))))), bst (bst (bst (bst HT.out.2 (Nat.le_refl _) _) (Nat.le_refl _) _) (Nat.le_refl _) _) (Nat.le_refl _) _⟩
set_option maxRecDepth 100000 in
set_option maxHeartbeats 2000000 in
theorem pi_impl (y : InitM) (k : Int) (vs : List Value) (u : World) (h : RdA u y.vs vs) (_ : WfA y.vs) (_ : tot.totL y.vs ≤ 1048576) : Calls Tryd.prog 15 #[.agg vs.toArray, .int .i64 k] u (Res u (piR y k).vs) := by
  obtain ⟨A2, c2, A3, c3, A4, c4, rfl⟩ := shape_Init h
  have K1 := (Blk.new u 39 #[.int .i64 y.Tag, .int .i64 y.Tsn, .slice A2 y.Random.length c2, .slice A3 y.Addrs.length c3, .slice A4 y.Cookie.length c4]).alloc (.cells #[.int .i64 0, .int .i64 0, .int .i64 0, .slice none 0 0] 30)
  have R1 := Blk.new (u.alloc (.cells #[.int .i64 y.Tag, .int .i64 y.Tsn, .slice A2 y.Random.length c2, .slice A3 y.Addrs.length c3, .slice A4 y.Cookie.length c4] 39)) 30 #[.int .i64 0, .int .i64 0, .int .i64 0, .slice none 0 0]
  have B1 := bal (bal (Below.refl u.heap.size u) (.cells #[.int .i64 y.Tag, .int .i64 y.Tsn, .slice A2 y.Random.length c2, .slice A3 y.Addrs.length c3, .slice A4 y.Cookie.length c4] 39)) (.cells #[.int .i64 0, .int .i64 0, .int .i64 0, .slice none 0 0] 30)
  rw [World.size_alloc] at R1
  obtain ⟨w1, hw1⟩ : ∃ w1, (u.alloc (.cells #[.int .i64 y.Tag, .int .i64 y.Tsn, .slice A2 y.Random.length c2, .slice A3 y.Addrs.length c3, .slice A4 y.Cookie.length c4] 39)).alloc (.cells #[.int .i64 0, .int .i64 0, .int .i64 0, .slice none 0 0] 30) = w1 := ⟨_, rfl⟩
  rw [hw1] at K1 R1 B1
  have HC := hidH (pcG_any y k A2 c2 A3 c3 A4 c4 w1 (RdA.below B1 h))
  have HT := hidH (And.intro R1 B1)
  have k0 := K1.cell 0
  have k1 := K1.cell 1
  have k2 := K1.cell 2
  have k3 := K1.cell 3
  have k4 := K1.cell 4
  simp only [List.getElem?_toArray, List.getElem?_cons_succ, List.getElem?_cons_zero] at k0 k1 k2 k3 k4
  have hlt := K1.lt
  obtain ⟨z, hz⟩ : ∃ z, piR y k = z := ⟨_, rfl⟩
  rw [hz] at HC ⊢
  clear h K1 R1 B1 hz
  go_enter Tryd.func15, Tryd.ntmps15
  go_wp2_with fail
  refine HC.out.mono ?_
  rintro e w3 ⟨vs, rfl, O3, b3⟩
  obtain ⟨A9, c9, rfl⟩ := shape_ChunkResult O3.rd
  have R4 := HT.out.1.below b3
  have x0 := R4.cell 0
  have x1 := R4.cell 1
  have x2 := R4.cell 2
  have x3 := R4.cell 3
  have f0 := R4.frozen 0
  have f1 := R4.frozen 1
  have f2 := R4.frozen 2
  have f3 := R4.frozen 3
  simp only [List.getElem?_toArray, List.getElem?_cons_succ, List.getElem?_cons_zero] at x0 x1 x2 x3
  have hr := R4.lt
  have hr1 := HT.out.1.lt
  have HO := hidH O3
  have HB := hidH (btr HT.out.2 b3)
  clear HC O3 b3 R4 k0 k1 k2 k3 k4 hlt
  go_wp2
  have PF : ∀ a b c' e : Value, OwN u.heap.size ((((w3.setCell ⟨u.heap.size + 1, 0, none⟩ a).setCell ⟨u.heap.size + 1, 1, none⟩ b).setCell ⟨u.heap.size + 1, 2, none⟩ c').setCell ⟨u.heap.size + 1, 3, none⟩ e).heap.size ((((w3.setCell ⟨u.heap.size + 1, 0, none⟩ a).setCell ⟨u.heap.size + 1, 1, none⟩ b).setCell ⟨u.heap.size + 1, 2, none⟩ c').setCell ⟨u.heap.size + 1, 3, none⟩ e) z.vs _ := fun a b c' e =>
    ((((HO.out.win (set_win _ (u.heap.size + 1) 0 a) (.inr (by omega))).win (set_win _ (u.heap.size + 1) 1 b) (.inr (by omega))).win (set_win _ (u.heap.size + 1) 2 c') (.inr (by omega))).win (set_win _ (u.heap.size + 1) 3 e) (.inr (by omega))).mono (by omega) (by simp [World.setCell]) (Nat.le_refl _)
  exact bodyPost_ret (v := .agg #[.int .i64 z.Code, .int .i64 z.Chunk_Kind, .int .i64 z.Chunk_Flags, .slice A9 z.Chunk_Body.length c9]) (by simp [results, Tryd.results15, go_sem, x0, x1, x2, x3]) rfl ⟨_, rfl, PF _ _ _ _, bst (bst (bst (bst HB.out (Nat.le_succ _) _) (Nat.le_succ _) _) (Nat.le_succ _) _) (Nat.le_succ _) _⟩
end Go.Proofs.YtjjileefdjjijaaDoor

/- The program's Asconf: fault. -/
namespace Go.Proofs.YtjjileefdjjijaaDoor
open Go.RowKit Go.Deep

set_option maxRecDepth 100000 in
set_option maxHeartbeats 8000000 in
theorem qaF_impl (y : AsconfM) (vs : List Value) (w : World) (h : RdA w y.vs vs) :
    Calls Tryd.prog 172 #[.agg vs.toArray] w fun e w' => e = .returned (.int .i64 (qaF y)) ∧ Below w.heap.size w w' := by
  obtain ⟨A, c, rfl⟩ := shape_Asconf h
  have h' : RdA w [.int y.Serial, st_AddrOp y.Ops] _ := h
  have hA := h'.tl.hd
  have hm : (y.Ops.length : Int) ≤ 9223372036854775807 := Rd.st_len hA
  have K1 := Blk.new w 59 #[.int .i64 y.Serial, .slice A y.Ops.length c]
  have B1 := bal (Below.refl w.heap.size w) (.cells #[.int .i64 y.Serial, .slice A y.Ops.length c] 59)
  obtain ⟨w1, hw1⟩ : ∃ w1, w.alloc (.cells #[.int .i64 y.Serial, .slice A y.Ops.length c] 59) = w1 := ⟨_, rfl⟩
  rw [hw1] at K1 B1
  have k0 := K1.cell 0
  have k1 := K1.cell 1
  simp only [List.getElem?_toArray, List.getElem?_cons_succ, List.getElem?_cons_zero] at k0 k1
  have hk := K1.lt
  have HI := hidH hA
  have HB := hidH B1
  clear h h' hA K1 B1
  by_cases h1 : wB y.Serial = true
  · by_cases h4 : y.Ops.length < 1
    · have e : qaF y = 2 := by simp only [qaF, h1, if_true]; rw [if_neg (by omega)]
      have h4' : ((y.Ops.length : Int) == 0) = true := by rw [beq_iff_eq]; omega
      rw [e]
      clear e h4
      go_enter Tryd.func172, Tryd.ntmps172
      go_wp2_with (first | (go_at_call 161; refine (isWord_any _ _).mono ?_; rintro e w' ⟨rfl, rfl⟩))
      go_ret
      exact ⟨rfl, HB.out⟩
    · have h4' : ((y.Ops.length : Int) == 0) = false := by rw [beq_eq_false_iff_ne]; omega
      by_cases h5 : 4 < y.Ops.length
      · have e : qaF y = 2 := by simp only [qaF, h1, if_true]; rw [if_neg (by omega)]
        have h5' : (4 : Int) < (y.Ops.length : Int) := by omega
        rw [e]
        clear e h4 h5
        go_enter Tryd.func172, Tryd.ntmps172
        go_wp2_with (first | (go_at_call 161; refine (isWord_any _ _).mono ?_; rintro e w' ⟨rfl, rfl⟩))
        go_ret
        exact ⟨rfl, HB.out⟩
      · have h5' : ¬ (4 : Int) < (y.Ops.length : Int) := by omega
        have e0 : qaF y = if y.Ops.all okOp then 0 else 3 := by simp only [qaF, h1, if_true]; rw [if_pos (by omega)]
        have HE := hidH e0
        clear e0 h4 h5
        go_enter Tryd.func172, Tryd.ntmps172
        go_wp2_with (first | (go_at_call 161; refine (isWord_any _ _).mono ?_; rintro e w' ⟨rfl, rfl⟩))
        go_loopw [22] (fun i wr => ∃ j : Nat, j ≤ y.Ops.length ∧ i = .int .i64 j ∧ Below w.heap.size w wr ∧ (y.Ops.take j).all okOp = true) (fun i _ => y.Ops.length - (intOf i).toNat)
        case atStart => exact ⟨0, by omega, rfl, HB.out, by simp⟩
        case round =>
          obtain ⟨j, hj, rfl, hB, hk2⟩ := hrel
          by_cases hlt : j < y.Ops.length
          · have hj0 : (0 : Int) ≤ (j : Int) := by omega
            have hj1 : (j : Int) < (y.Ops.length : Int) := by omega
            obtain ⟨gb, ob, cb, eb, hgb, RB⟩ := Rd.row (f := AddrOpM.vs) (W := 2) (fun _ => rfl) (Rd.below hB _ HI.out) hlt
            injection eb with eb1 eb2 eb3
            subst eb1 eb3
            obtain ⟨u0, p0, t0⟩ := RB 0 (.int y.Ops[j].Kind) rfl
            obtain ⟨u1, p1, t1⟩ := RB 1 (.int y.Ops[j].Addr) rfl
            have e0 := t0.int_out
            have e1 := t1.int_out
            subst e0 e1
            rw [Nat.add_zero] at p0
            have HT := hidH (all_take hlt hk2)
            have HN := hidH (fun h => all_not (f := okOp) hlt h)
            obtain ⟨k, hkk⟩ : ∃ k, y.Ops[j].Kind = k := ⟨_, rfl⟩
            obtain ⟨a, haa⟩ : ∃ a, y.Ops[j].Addr = a := ⟨_, rfl⟩
            have HO := hidH (show okOp y.Ops[j] = (inB k 1 3 && inB a 1 255) by rw [okOp, hkk, haa])
            rw [hkk] at p0
            rw [haa] at p1
            have HBB := hidH hB
            obtain ⟨bb, hbb⟩ : ∃ bb, (inB k 1 3 && inB a 1 255) = bb := ⟨_, rfl⟩
            have HOP := hidH (fun u => isOp_any k a u)
            rw [hbb] at HO HOP
            clear RB t0 t1 hk2 hkk haa hB hbb
            rcases Bool.eq_false_or_eq_true bb with hv | hv
            · have HY := hidH (HT.out (by rw [HO.out, hv]))
              rw [hv] at HOP
              clear hv
              go_wp2_with fail
              refine (HOP.out _).mono ?_
              rintro e w4 ⟨rfl, h4⟩
              have HW := hidH (show Below w.heap.size w w4 by rw [← h4]; exact bal (bal HBB.out _) _)
              clear h4 HOP
              go_wp2
              go_roundw
              case rel => exact ⟨j + 1, by omega, by go_num, HW.out, HY.out⟩
              case measure => simp [intOf]; omega
            · have HNO := hidH (show qaF y = 3 by rw [HE.out, if_neg (HN.out (by rw [HO.out, hv]))])
              rw [hv] at HOP
              clear hv
              go_wp2_with fail
              refine (HOP.out _).mono ?_
              rintro e w4 ⟨rfl, h4⟩
              have HW := hidH (show Below w.heap.size w w4 by rw [← h4]; exact bal (bal HBB.out _) _)
              clear h4 HOP
              go_wp2
              go_ret
              exact ⟨ret_int HNO.out.symm, HW.out⟩
          · obtain rfl : j = y.Ops.length := by omega
            rw [List.take_length] at hk2
            have HY := hidH (show qaF y = 0 by rw [HE.out, if_pos hk2])
            have HW := hidH hB
            clear hk2 hlt hj hB
            go_wp2
            go_ret
            exact ⟨ret_int HY.out.symm, HW.out⟩
  · have h1 : wB y.Serial = false := by simpa using h1
    have e : qaF y = 3 := by simp [qaF, h1]
    rw [e]
    clear e
    go_enter Tryd.func172, Tryd.ntmps172
    go_wp2_with (first | (go_at_call 161; refine (isWord_any _ _).mono ?_; rintro e w' ⟨rfl, rfl⟩))
    go_ret
    exact ⟨rfl, HB.out⟩
end Go.Proofs.YtjjileefdjjijaaDoor

/- The program's Asconf: write. -/
namespace Go.Proofs.YtjjileefdjjijaaDoor
open Go.RowKit Go.Deep

theorem qa_bnd {y : AsconfM} (h : y.Ops.all okOp = true) : ∀ x ∈ y.Ops, (0 ≤ x.Kind ∧ x.Kind ≤ 255) ∧ (0 ≤ x.Addr ∧ x.Addr ≤ 255) := by
  intro x hx
  have := List.all_eq_true.1 h x hx
  simp only [okOp, inB, Bool.and_eq_true, decide_eq_true_eq] at this
  omega

set_option maxRecDepth 100000 in
set_option maxHeartbeats 4000000 in
theorem qaW_impl (r : Nat) (y : AsconfM) (A : Option Addr) (c : Nat) (w0 w : World) (h : RdA w0 y.vs [.int .i64 y.Serial, .slice A y.Ops.length c]) (hb0 : Below w0.heap.size w0 w) (h0 : w0.heap.size ≤ r) (hr : WR w r []) (hf : qaF y = 0) :
    Calls Tryd.prog 173 #[.agg #[.int .i64 y.Serial, .slice A y.Ops.length c], .pointer (some ⟨r, 0, none⟩)] w (Wrote r (qaC y).Body w) := by
  have hz := qaF_zero hf
  obtain ⟨a1, a2⟩ := hz.1
  have h' : RdA w0 [.int y.Serial, st_AddrOp y.Ops] _ := h
  have HA := hidH (And.intro h'.tl.hd (And.intro hb0 h0))
  have HV := hidH (qa_bnd (y := y) hz.2.2)
  have hn : y.Ops.length ≤ 20 := by have := hz.2.1; omega
  have hnI : (y.Ops.length : Int) ≤ 20 := by omega
  have HRL := hidH hr.lt
  have K1 := Blk.new w 59 #[.int .i64 y.Serial, .slice A y.Ops.length c]
  have B1 := bal (Below.refl w.heap.size w) (.cells #[.int .i64 y.Serial, .slice A y.Ops.length c] 59)
  obtain ⟨w1, hw1⟩ : ∃ w1, w.alloc (.cells #[.int .i64 y.Serial, .slice A y.Ops.length c] 59) = w1 := ⟨_, rfl⟩
  rw [hw1] at K1 B1
  have hne : w.heap.size ≠ r := by have := hr.lt; omega
  have HW1 := hidH hw1
  have HN := hidH hne
  have HT := hidH (And.intro (hr.below B1) (And.intro (B1.mono (Nat.le_of_lt hr.lt)) (And.intro (OthK.of_below (r := r) B1) K1)))
  clear hw1 K1 B1 hne hr
  clear h h' hb0 h0 hf hz
  go_enter Tryd.func173, Tryd.ntmps173
  have k0 := HT.out.2.2.2.cell 0
  simp only [List.getElem?_toArray, List.getElem?_cons_zero] at k0
  have hk := HT.out.2.2.2.lt
  have HP := hidH (wword_any r ([]) y.Serial w1 HT.out.1 a1 a2 (by simp))
  unfold Wrote at HP
  go_wp2_with fail
  rw [HW1.out]
  go_wp2_with fail
  refine HP.out.mono ?_
  rintro e w2 ⟨rfl, hw, hb, ho⟩
  replace HT := hidH (And.intro hw (And.intro (HT.out.2.1.trans hb) (And.intro (OthK.trans HT.out.2.2.1 ho) (ho _ _ _ HN.out (by decide) HT.out.2.2.2))))
  clear HP hw hb ho k0 hk
  have k1 := HT.out.2.2.2.cell 1
  simp only [List.getElem?_toArray, List.getElem?_cons_succ, List.getElem?_cons_zero] at k1
  have hk := HT.out.2.2.2.lt
  have HP := hidH (wcount_any r ([] ++ pk y.Serial) (y.Ops.length : Int) w2 HT.out.1 (by omega) (by omega) (by simp [pk]))
  unfold Wrote at HP
  go_wp2_with fail
  refine HP.out.mono ?_
  rintro e w3 ⟨rfl, hw, hb, ho⟩
  replace HT := hidH (And.intro hw (And.intro (HT.out.2.1.trans hb) (And.intro (OthK.trans HT.out.2.2.1 ho) (ho _ _ _ HN.out (by decide) HT.out.2.2.2))))
  clear HP hw hb ho k1 hk
  have k1 := HT.out.2.2.2.cell 1
  simp only [List.getElem?_toArray, List.getElem?_cons_succ, List.getElem?_cons_zero] at k1
  have hk := HT.out.2.2.2.lt
  go_wp2
  clear k1 hk
  go_loopw [18] (fun i wr => ∃ j : Nat, j ≤ y.Ops.length ∧ i = .int .i64 j ∧ WR wr r (pk y.Serial ++ ((y.Ops.length : Int) :: (y.Ops.take j).flatMap opL)) ∧ Below r w wr ∧ OthK r w wr) (fun i _ => y.Ops.length - (intOf i).toNat)
  case atStart => exact ⟨0, by omega, rfl, by simpa using HT.out.1, HT.out.2.1, HT.out.2.2.1⟩
  case round =>
    obtain ⟨j, hj, rfl, hw, hb, ho⟩ := hrel
    by_cases hlt : j < y.Ops.length
    · have hj0 : (0 : Int) ≤ (j : Int) := by omega
      have hj1 : (j : Int) < (y.Ops.length : Int) := by omega
      obtain ⟨gb, ob, cb, eb, hgb, RB⟩ := Rd.row (f := AddrOpM.vs) (W := 2) (fun _ => rfl) HA.out.1 hlt
      injection eb with eb1 eb2 eb3
      subst eb1 eb3
      obtain ⟨u0, p0, t0⟩ := RB 0 (.int y.Ops[j].Kind) rfl
      obtain ⟨u1, p1, t1⟩ := RB 1 (.int y.Ops[j].Addr) rfl
      have e0 := t0.int_out
      have e1 := t1.int_out
      subst e0 e1
      rw [Nat.add_zero] at p0
      have hbw : Below w0.heap.size w0 wr := HA.out.2.1.trans (hb.mono HA.out.2.2)
      replace p0 := (hbw.cell (p := ⟨gb, ob + j * 2, none⟩) hgb).trans p0
      replace p1 := (hbw.cell (p := ⟨gb, ob + j * 2 + 1, none⟩) hgb).trans p1
      obtain ⟨⟨v0, v1⟩, ⟨v2, v3⟩⟩ := HV.out y.Ops[j] (List.getElem_mem hlt)
      obtain ⟨x1, hx1⟩ : ∃ k, y.Ops[j].Kind = k := ⟨_, rfl⟩
      obtain ⟨x2, hx2⟩ : ∃ k, y.Ops[j].Addr = k := ⟨_, rfl⟩
      have ht : (y.Ops.take (j + 1)).flatMap opL = (y.Ops.take j).flatMap opL ++ [x1] ++ [x2] := by
        rw [List.take_add_one, List.getElem?_eq_getElem hlt, Option.toList_some, List.flatMap_append]
        simp [opL, List.flatMap_cons, hx1, hx2]
      rw [hx1] at p0 v0 v1
      rw [hx2] at p1 v2 v3
      have hlen : (pk y.Serial ++ ((y.Ops.length : Int) :: (y.Ops.take j).flatMap opL)).length ≤ 200 := by simp [pk, -List.length_flatMap, op_len, List.length_take]; omega
      obtain ⟨P, hP⟩ : ∃ P, pk y.Serial ++ ((y.Ops.length : Int) :: (y.Ops.take j).flatMap opL) = P := ⟨_, rfl⟩
      have hPT : pk y.Serial ++ ((y.Ops.length : Int) :: (y.Ops.take (j + 1)).flatMap opL) = P ++ [x1] ++ [x2] := by rw [ht, ← hP]; simp
      rw [hP] at hw hlen
      have HPT := hidH hPT
      have B5 := bal (Below.refl wr.heap.size wr) (.cells #[.int .i64 x1, .int .i64 x2] 70)
      have K5 := Blk.new wr 70 #[.int .i64 x1, .int .i64 x2]
      have hrl := hw.lt
      obtain ⟨w5, hw5⟩ : ∃ w5, wr.alloc (.cells #[.int .i64 x1, .int .i64 x2] 70) = w5 := ⟨_, rfl⟩
      rw [hw5] at B5 K5
      have HN5 := hidH (show wr.heap.size ≠ r by omega)
      have HC := hidH (wnumber_any r P x1 w5 (hw.below B5) (by omega) (by omega) (by omega))
      unfold Wrote at HC
      have HT5 := hidH (And.intro (hb.trans (B5.mono (Nat.le_of_lt hrl))) (And.intro (OthK.trans ho (OthK.of_below (r := r) B5)) K5))
      have HLN := hidH hlen
      have c0 := K5.cell 0
      simp only [List.getElem?_toArray, List.getElem?_cons_zero] at c0
      have hk5 := K5.lt
      clear RB t0 t1 hx1 hx2 ht hP hPT hw hb ho hbw B5 K5 hlen
      go_wp2_with fail
      refine HC.out.mono ?_
      rintro e w6 ⟨rfl, hw, hb, ho⟩
      have K6 := ho _ _ _ HN5.out (by decide) HT5.out.2.2
      have HC2 := hidH (wnumber_any r _ x2 w6 hw (by omega) (by omega) (by have := HLN.out; simp; omega))
      unfold Wrote at HC2
      have HT6 := hidH (And.intro (HT5.out.1.trans hb) (OthK.trans HT5.out.2.1 ho))
      have c1 := K6.cell 1
      simp only [List.getElem?_toArray, List.getElem?_cons_succ, List.getElem?_cons_zero] at c1
      have hk6 := K6.lt
      clear HC HT5 hw hb ho K6 c0
      go_wp2_with fail
      refine HC2.out.mono ?_
      rintro e w7 ⟨rfl, hw, hb, ho⟩
      have HR := hidH (show WR w7 r (pk y.Serial ++ ((y.Ops.length : Int) :: (y.Ops.take (j + 1)).flatMap opL)) ∧ Below r w w7 ∧ OthK r w w7 from ⟨by rw [HPT.out]; exact hw, HT6.out.1.trans hb, OthK.trans HT6.out.2 ho⟩)
      clear HC2 HT6 hw hb ho
      go_wp2
      go_roundw
      case rel => exact ⟨j + 1, by omega, by go_num, HR.out⟩
      case measure => simp [intOf]; omega
    · obtain rfl : j = y.Ops.length := by omega
      rw [List.take_length] at hw
      have HR := hidH (And.intro hw (And.intro hb ho))
      clear hw hb ho hlt hj
      go_wp2
      exact bodyPost_ret (v := .tuple #[]) (by simp [results, Tryd.results173, go_sem]) rfl ⟨rfl, HR.out⟩
end Go.Proofs.YtjjileefdjjijaaDoor

/- The program's Asconf: emptyChunk, packContent. -/
namespace Go.Proofs.YtjjileefdjjijaaDoor
open Go.RowKit Go.Deep

set_option maxRecDepth 100000 in
set_option maxHeartbeats 2000000 in
theorem emptyQ_any (y : AsconfM) (A1 : Option Addr) (c1 : Nat) (w : World) :
    Calls Tryd.prog 103 #[.iface 59 (.agg #[.int .i64 y.Serial, .slice A1 y.Ops.length c1])] w fun e w' => ∃ kk ff : Int, e = .returned (.agg #[.int .i64 kk, .int .i64 ff, .slice none 0 0]) ∧ kk = (qaC y).Kind ∧ ff = (qaC y).Flags ∧ Below w.heap.size w w' := by
  have tD := fun u => taQD (.agg #[.int .i64 y.Serial, .slice A1 y.Ops.length c1]) u
  have tS := fun u => taQS (.agg #[.int .i64 y.Serial, .slice A1 y.Ops.length c1]) u
  have tG := fun u => taQG (.agg #[.int .i64 y.Serial, .slice A1 y.Ops.length c1]) u
  have tQ := fun u => taQQ (.agg #[.int .i64 y.Serial, .slice A1 y.Ops.length c1]) u
  go_enter Tryd.func103, Tryd.ntmps103
  go_wp2
  exact bodyPost_ret (v := .agg #[.int .i64 (193), .int .i64 (0), .slice none 0 0]) (by simp [results, Tryd.results103, go_sem]) rfl ⟨_, _, rfl, rfl, rfl, bal (bal (bal (Below.refl _ _) _) _) _⟩
set_option maxRecDepth 100000 in
set_option maxHeartbeats 4000000 in
theorem pcQ_any (y : AsconfM) (A1 : Option Addr) (c1 : Nat) (w : World) (h : RdA w y.vs [.int .i64 y.Serial, .slice A1 y.Ops.length c1]) :
    Calls Tryd.prog 59 #[.iface 59 (.agg #[.int .i64 y.Serial, .slice A1 y.Ops.length c1])] w (Res w (qaR y).vs) := by
  have K1 := Blk.new w 30 #[.int .i64 0, .int .i64 0, .int .i64 0, .slice none 0 0]
  have B1 := bal (Below.refl w.heap.size w) (.cells #[.int .i64 0, .int .i64 0, .int .i64 0, .slice none 0 0] 30)
  obtain ⟨w1, hw1⟩ : ∃ w1, w.alloc (.cells #[.int .i64 0, .int .i64 0, .int .i64 0, .slice none 0 0] 30) = w1 := ⟨_, rfl⟩
  rw [hw1] at K1 B1
  have HF := hidH (qaF_impl y [.int .i64 y.Serial, .slice A1 y.Ops.length c1] w1 (RdA.below B1 h))
  have HRD := hidH h
  have HT := hidH (And.intro K1 B1)
  clear h K1 B1
  go_enter Tryd.func59, Tryd.ntmps59
  go_wp2_with fail
  refine HF.out.mono ?_
  rintro e w3 ⟨rfl, b3⟩
  replace HT := hidH (And.intro (HT.out.1.below b3) (btr HT.out.2 b3))
  clear HF b3 hw1
  by_cases hz : qaF y = 0
  · have HZ := hidH hz
    rw [hz]
    have KR := Blk.new w3 148 #[.slice none 0 0]
    have B4 := bal (Below.refl w3.heap.size w3) (.cells #[.slice none 0 0] 148)
    obtain ⟨w4, hw4⟩ : ∃ w4, w3.alloc (.cells #[.slice none 0 0] 148) = w4 := ⟨_, rfl⟩
    rw [hw4] at KR B4
    have hRl := HT.out.1.lt
    have HW := hidH (qaW_impl w3.heap.size y A1 c1 w w4 HRD.out (btr HT.out.2 B4) HT.out.2.size (wr_nil KR) hz)
    unfold Wrote at HW
    obtain ⟨L, hL⟩ : ∃ L, (qaC y).Body = L := ⟨_, rfl⟩
    rw [hL] at HW
    have HL := hidH hL
    replace HT := hidH (And.intro (HT.out.1.below B4) (btr HT.out.2 B4))
    have HR := hidH hRl
    clear hz KR B4 hRl hL
    go_wp2_with fail
    refine HW.out.mono ?_
    rintro e w5 ⟨rfl, hw, hb, _⟩
    replace HT := hidH (And.intro (show Blk w5 w.heap.size 30 _ from (hb.block _ HR.out).trans HT.out.1) (HT.out.2.trans (hb.mono (Nat.le_of_lt HR.out))))
    have HE := hidH (emptyQ_any y A1 c1 w5)
    have HWR := hidH hw
    clear HW hw hb hw4
    go_wp2_with fail
    refine HE.out.mono ?_
    rintro e w6 ⟨kk, ff, rfl, hkk, hff, b6⟩
    have HKF := hidH (And.intro hkk hff)
    clear hkk hff
    obtain ⟨v, KW, OW⟩ := HWR.out.below b6
    obtain ⟨A9, c9, e9, ob9, k9, m9⟩ := own_ob OW
    subst e9
    have hs6 := KW.lt
    have K6 := HT.out.1.below b6
    have HB6 := hidH (HT.out.2.trans (b6.mono HT.out.2.size))
    have B7 := bal (Below.refl w6.heap.size w6) (.cells #[.int .i64 kk, .int .i64 ff, .slice none 0 0] 28)
    have K7 := Blk.new w6 28 #[.int .i64 kk, .int .i64 ff, .slice none 0 0]
    have KW7 := KW.below B7
    have KR7 := K6.below B7
    obtain ⟨n9, hn9⟩ : ∃ n, L.length = n := ⟨_, rfl⟩
    have HOB := hidH (show OwV (w3.heap.size + 1) w6.heap.size (w6.alloc (.cells #[.int .i64 kk, .int .i64 ff, .slice none 0 0] 28)) (.bs L) (.slice A9 n9 c9) by rw [← hn9]; exact (ob9.owv (Nat.le_refl _) ⟨k9, m9⟩).below B7)
    rw [hn9] at KW7
    have x0 := KR7.cell 0
    have x1 := KR7.cell 1
    have x2 := KR7.cell 2
    have x3 := KR7.cell 3
    have f0 := KR7.frozen 0
    have f1 := KR7.frozen 1
    have f2 := KR7.frozen 2
    have f3 := KR7.frozen 3
    have y0 := K7.cell 0
    have y1 := K7.cell 1
    have y2 := K7.cell 2
    have g2 := K7.frozen 2
    have z0 := KW7.cell 0
    simp only [List.getElem?_toArray, List.getElem?_cons_succ, List.getElem?_cons_zero] at x0 x1 x2 x3 y0 y1 y2 z0
    have l1 := KR7.lt
    have l2 := K7.lt
    have l3 := KW7.lt
    have HB7 := hidH (btr HB6.out B7)
    obtain ⟨w7, hw7⟩ : ∃ w7, w6.alloc (.cells #[.int .i64 kk, .int .i64 ff, .slice none 0 0] 28) = w7 := ⟨_, rfl⟩
    rw [hw7] at x0 x1 x2 x3 f0 f1 f2 f3 y0 y1 y2 g2 z0 l1 l2 l3 HB7 HOB
    have HS := hidH (And.intro hs6 (And.intro K6.lt HR.out))
    have ne1 : w.heap.size ≠ w6.heap.size := by have := K6.lt; omega
    have ne2 : w3.heap.size ≠ w6.heap.size := by omega
    have ne3 : w3.heap.size ≠ w.heap.size := by have := HR.out; omega
    clear HE HWR b6 KW OW ob9 k9 m9 hs6 K6 B7 K7 KW7 KR7 hn9 HB6
    go_wp2
    have hle : w.heap.size ≤ w6.heap.size := by have := HS.out; omega
    exact bodyPost_ret (v := .agg #[.int .i64 0, .int .i64 kk, .int .i64 ff, .slice A9 n9 c9]) (by simp [results, Tryd.results59, go_sem, x0, x1, x2, x3]) rfl ⟨_, rfl, by
      have e : (qaR y).vs = [.int 0, .int kk, .int ff, .bs L] := by rw [qaR, crOf, if_pos HZ.out, ← HL.out, HKF.out.1, HKF.out.2]; rfl
      rw [e]
      refine OwN.int 0 (OwN.int _ (OwN.int _ ((OwN.cons (B := w3.heap.size + 1) (C := w6.heap.size) (D := w6.heap.size) ?_ (OwN.nil (by simp [World.setCell]; omega)) (by have := HS.out; omega) (Nat.le_refl _)).mono (by have := HS.out; omega) (by simp [World.setCell]; omega) (Nat.le_refl _))))
      iterate 4 (refine OwV.win (B' := w.heap.size) (C' := w.heap.size + 1) ?_ (set_win _ _ _ _) (.inr (by have := HS.out; omega)))
      repeat (refine OwV.win (B' := w6.heap.size) (C' := w6.heap.size + 1) ?_ (set_win _ _ _ _) (.inl (Nat.le_refl _)))
      exact HOB.out, by
      repeat (refine bst ?_ (by first | exact Nat.le_refl _ | exact hle) _)
      exact HB7.out⟩
  · have hne : (qaF y != 0) = true := by rw [bne_iff_ne]; exact hz
    have HZ := hidH hz
    obtain ⟨F, hF⟩ : ∃ F, qaF y = F := ⟨_, rfl⟩
    have HEQ := hidH hF
    rw [hF] at hne ⊢
    have x0 := HT.out.1.cell 0
    have x1 := HT.out.1.cell 1
    have x2 := HT.out.1.cell 2
    have x3 := HT.out.1.cell 3
    simp only [List.getElem?_toArray, List.getElem?_cons_succ, List.getElem?_cons_zero] at x0 x1 x2 x3
    have f0 := HT.out.1.frozen 0
    have f1 := HT.out.1.frozen 1
    have f2 := HT.out.1.frozen 2
    have f3 := HT.out.1.frozen 3
    have hr := HT.out.1.lt
    clear hz hF
    go_wp2
    exact bodyPost_ret (v := .agg #[.int .i64 F, .int .i64 0, .int .i64 0, .slice none 0 0]) (by simp [results, Tryd.results59, go_sem, x0, x1, x2, x3]) rfl ⟨_, rfl, by
      have e : (qaR y).vs = [.int F, .int 0, .int 0, .bs []] := by rw [qaR, crOf, if_neg HZ.out, HEQ.out]; rfl
      rw [e]
      exact (OwN.int F (OwN.int 0 (OwN.int 0 (OwN.empty _ (Nat.le_refl _))))), bst (bst (bst (bst HT.out.2 (Nat.le_refl _) _) (Nat.le_refl _) _) (Nat.le_refl _) _) (Nat.le_refl _) _⟩
set_option maxRecDepth 100000 in
set_option maxHeartbeats 2000000 in
theorem qa_impl (y : AsconfM) (vs : List Value) (u : World) (h : RdA u y.vs vs) (_ : WfA y.vs) (_ : tot.totL y.vs ≤ 1048576) : Calls Tryd.prog 26 #[.agg vs.toArray] u (Res u (qaR y).vs) := by
  obtain ⟨A1, c1, rfl⟩ := shape_Asconf h
  have K1 := (Blk.new u 59 #[.int .i64 y.Serial, .slice A1 y.Ops.length c1]).alloc (.cells #[.int .i64 0, .int .i64 0, .int .i64 0, .slice none 0 0] 30)
  have R1 := Blk.new (u.alloc (.cells #[.int .i64 y.Serial, .slice A1 y.Ops.length c1] 59)) 30 #[.int .i64 0, .int .i64 0, .int .i64 0, .slice none 0 0]
  have B1 := bal (bal (Below.refl u.heap.size u) (.cells #[.int .i64 y.Serial, .slice A1 y.Ops.length c1] 59)) (.cells #[.int .i64 0, .int .i64 0, .int .i64 0, .slice none 0 0] 30)
  rw [World.size_alloc] at R1
  obtain ⟨w1, hw1⟩ : ∃ w1, (u.alloc (.cells #[.int .i64 y.Serial, .slice A1 y.Ops.length c1] 59)).alloc (.cells #[.int .i64 0, .int .i64 0, .int .i64 0, .slice none 0 0] 30) = w1 := ⟨_, rfl⟩
  rw [hw1] at K1 R1 B1
  have HC := hidH (pcQ_any y A1 c1 w1 (RdA.below B1 h))
  have HT := hidH (And.intro R1 B1)
  have k0 := K1.cell 0
  have k1 := K1.cell 1
  simp only [List.getElem?_toArray, List.getElem?_cons_succ, List.getElem?_cons_zero] at k0 k1
  have hlt := K1.lt
  obtain ⟨z, hz⟩ : ∃ z, qaR y = z := ⟨_, rfl⟩
  rw [hz] at HC ⊢
  clear h K1 R1 B1 hz
  go_enter Tryd.func26, Tryd.ntmps26
  go_wp2_with fail
  refine HC.out.mono ?_
  rintro e w3 ⟨vs, rfl, O3, b3⟩
  obtain ⟨A9, c9, rfl⟩ := shape_ChunkResult O3.rd
  have R4 := HT.out.1.below b3
  have x0 := R4.cell 0
  have x1 := R4.cell 1
  have x2 := R4.cell 2
  have x3 := R4.cell 3
  have f0 := R4.frozen 0
  have f1 := R4.frozen 1
  have f2 := R4.frozen 2
  have f3 := R4.frozen 3
  simp only [List.getElem?_toArray, List.getElem?_cons_succ, List.getElem?_cons_zero] at x0 x1 x2 x3
  have hr := R4.lt
  have hr1 := HT.out.1.lt
  have HO := hidH O3
  have HB := hidH (btr HT.out.2 b3)
  clear HC O3 b3 R4 k0 k1 hlt
  go_wp2
  have PF : ∀ a b c' e : Value, OwN u.heap.size ((((w3.setCell ⟨u.heap.size + 1, 0, none⟩ a).setCell ⟨u.heap.size + 1, 1, none⟩ b).setCell ⟨u.heap.size + 1, 2, none⟩ c').setCell ⟨u.heap.size + 1, 3, none⟩ e).heap.size ((((w3.setCell ⟨u.heap.size + 1, 0, none⟩ a).setCell ⟨u.heap.size + 1, 1, none⟩ b).setCell ⟨u.heap.size + 1, 2, none⟩ c').setCell ⟨u.heap.size + 1, 3, none⟩ e) z.vs _ := fun a b c' e =>
    ((((HO.out.win (set_win _ (u.heap.size + 1) 0 a) (.inr (by omega))).win (set_win _ (u.heap.size + 1) 1 b) (.inr (by omega))).win (set_win _ (u.heap.size + 1) 2 c') (.inr (by omega))).win (set_win _ (u.heap.size + 1) 3 e) (.inr (by omega))).mono (by omega) (by simp [World.setCell]) (Nat.le_refl _)
  exact bodyPost_ret (v := .agg #[.int .i64 z.Code, .int .i64 z.Chunk_Kind, .int .i64 z.Chunk_Flags, .slice A9 z.Chunk_Body.length c9]) (by simp [results, Tryd.results26, go_sem, x0, x1, x2, x3]) rfl ⟨_, rfl, PF _ _ _ _, bst (bst (bst (bst HB.out (Nat.le_succ _) _) (Nat.le_succ _) _) (Nat.le_succ _) _) (Nat.le_succ _) _⟩
end Go.Proofs.YtjjileefdjjijaaDoor
