/- The model's ReadAsconf. -/
import Derived.Test.YtjjileefdjjijaaDoorSrR
import Derived.Test.YtjjileefdjjijaaDoorMb7
import Derived.Test.YtjjileefdjjijaaDoorS5QI
import Derived.Test.YtjjileefdjjijaaDoorRgI
namespace Go.Proofs.YtjjileefdjjijaaDoor
open Go.RowKit Go.Deep

theorem opsOf_end : ∀ (j : Nat) (L : List Int), 2 * j ≤ L.length → L.length < 2 * (j + 1) → opsOf (L.take (2 * j)) = opsOf L
  | j, L, h1, h2 => by
    have e : L = L.take (2 * j) ++ L.drop (2 * j) := (List.take_append_drop _ _).symm
    conv => rhs; rw [e]
    rw [opsOf_app j _ _ (by rw [List.length_take]; omega)]
    have h3 : (L.drop (2 * j)).length < 2 := by rw [List.length_drop]; omega
    have h4 : opsOf (L.drop (2 * j)) = [] := by
      match L.drop (2 * j), h3 with
      | [], _ => rfl
      | [_], _ => rfl
    rw [h4, List.append_nil]
theorem opsOf_160 {k f : Int} {b : List Int} (h : chF k f b = 0) : b.length ≤ 160 := by
  unfold chF at h
  split at h
  · split at h
    · assumption
    · cases h
  · cases h
theorem opsOf_wf : ∀ (L : List Int), Bytes L → WfA ((opsOf L).flatMap AddrOpM.vs)
  | [], _ => trivial
  | [_], _ => trivial
  | a :: b :: r, h => by
    have ha := h a (by simp)
    have hb := h b (by simp)
    exact ⟨⟨by show _ ≤ a; omega, by show a ≤ _; omega⟩, ⟨by show _ ≤ b; omega, by show b ≤ _; omega⟩, opsOf_wf r (fun x hx => h x (by simp [hx]))⟩
theorem opsOf_le : ∀ (L : List Int), (opsOf L).length ≤ L.length
  | [] => by simp [opsOf]
  | [_] => by simp [opsOf]
  | _ :: _ :: r => by have := opsOf_le r; simp only [opsOf, List.length_cons]; omega
theorem opsOf_tot : ∀ (r : List AddrOpM), tot.totL (r.flatMap AddrOpM.vs) = 0
  | [] => rfl
  | x :: r => by rw [List.flatMap_cons, totL_append, opsOf_tot r]; rfl
theorem opsOf_cc : ∀ (r : List AddrOpM), cc.ccL (r.flatMap AddrOpM.vs) = 2 * r.length
  | [] => rfl
  | x :: r => by rw [List.flatMap_cons, ccL_append, opsOf_cc r]; simp [AddrOpM.vs, cc.ccL, cc]; omega
theorem raskV_wf {l : List Int} (h : Bytes l) : WfA (raskV l).vs := by
  have hw := atW_w5 h 0
  exact ⟨⟨by show _ ≤ atW l 0; omega, by show atW l 0 ≤ _; omega⟩, opsOf_wf _ (bytes_d h 5), trivial⟩
theorem raskV_tot {l : List Int} (h : l.length ≤ 1000) : tot.totL (raskV l).vs ≤ 1048576 := by
  have h1 := opsOf_le (l.drop 5)
  have h2 := opsOf_tot (opsOf (l.drop 5))
  rw [List.length_drop] at h1
  show 0 + (((opsOf (l.drop 5)).length + tot.totL ((opsOf (l.drop 5)).flatMap AddrOpM.vs)) + 0) ≤ 1048576
  omega
theorem rqR_len (x : ChunkM) (_ : WfA x.vs) (ht : tot.totL x.vs ≤ 1048576) : vcA (rqR x).vs ≤ 1000000000 := by
  have hm : x.Body.length ≤ 1048576 := by simp only [ChunkM.vs, tot.totL, tot] at ht; omega
  unfold rqR
  cases e : rqV x with
  | none => simp [AsconfResultM.vs, st_AddrOp, vcA, vc, cc, cc.ccL]
  | some y =>
    have hy : y = raskV x.Body := by unfold rqV at e; split at e <;> cases e; rfl
    subst hy
    have h1 := opsOf_le (x.Body.drop 5)
    have h2 := opsOf_cc (opsOf (x.Body.drop 5))
    rw [List.length_drop] at h1
    show 0 + (0 + (cc.ccL ((opsOf (x.Body.drop 5)).flatMap AddrOpM.vs) + 0)) ≤ 1000000000
    omega
theorem rqV_chF {x : ChunkM} (h : chF x.Kind x.Flags x.Body ≠ 0) : rqV x = none := by
  cases e : rqV x with
  | none => rfl
  | some y => exact absurd (chF_ask ((rqV_iff x y).1 e)) h
theorem rqV_cnt {x : ChunkM} (h : x.Body.length < 5) : rqV x = none := by
  unfold rqV
  rw [if_neg (fun q => by have := q.1; omega)]
/-- The rows so far. -/
def Sr_Op (g B : Nat) (L : List Int) (z : Int) (ww : World) (j : Nat) (wr : World) : Prop :=
  ∃ (A : Option Addr) (m c : Nat), Blk wr g 59 #[.int .i64 z, .slice A m c] ∧ wr.ownsRow B 70 2 (.slice A m c) j (((opsOf ((L.drop 5).take (2 * j))).flatMap row_asconf).map (Value.int .i64)) ∧ Below ww.heap.size ww wr ∧ B ≤ wr.heap.size
theorem Sr_Op_turn {g B : Nat} {L : List Int} {z : Int} {ww wr : World} {j : Nat} (x0 x1 : Int) (hx : opsOf ((L.drop 5).take (2 * (j + 1))) = opsOf ((L.drop 5).take (2 * j)) ++ [⟨x0, x1⟩])
    (h : ∃ v2, Blk wr g 59 #[.int .i64 z, v2] ∧ wr.ownsRow B 70 2 v2 (j + 1) (((opsOf ((L.drop 5).take (2 * j))).flatMap row_asconf).map (Value.int .i64) ++ [.int .i64 x0, .int .i64 x1])) (hO : Below ww.heap.size ww wr) (hB : B ≤ wr.heap.size) : Sr_Op g B L z ww (j + 1) wr := by
  obtain ⟨v2, k, o⟩ := h
  obtain ⟨A, m, c, rfl⟩ := own_sliceE o
  refine ⟨A, m, c, k, ?_, hO, hB⟩
  rw [hx, List.flatMap_append]
  simpa [row_asconf] using o
set_option maxRecDepth 100000 in
set_option maxHeartbeats 8000000 in
theorem rq_spec (x : ChunkM) (vs : List Value) (u : World) (h : RdA u x.vs vs) (hw : WfA x.vs) (ht : tot.totL x.vs ≤ 1048576) : Calls Tryd.prog 49 #[.agg vs.toArray] u (Res u (rqR x).vs) := by
  obtain ⟨A2, c2, rfl⟩ := shape_Chunk h
  have h2 := h.tl.tl.hd
  unfold Rd at h2
  obtain ⟨A', c', e, ⟨hc, hcm⟩, hA⟩ := h2
  cases e
  have hb : Bytes x.Body := hw.2.2.1
  have hm : x.Body.length ≤ 4000000 := by simp only [ChunkM.vs, tot.totL, tot] at ht; omega
  have hmI : (x.Body.length : Int) ≤ 4000000 := by omega
  have K1 := (Blk.new u 28 #[.int .i64 x.Kind, .int .i64 x.Flags, .slice A2 x.Body.length c2]).alloc (.cells #[.int .i64 0, .int .i64 0, .slice none 0 0] 67)
  have R1 := Blk.new (u.alloc (.cells #[.int .i64 x.Kind, .int .i64 x.Flags, .slice A2 x.Body.length c2] 28)) 67 #[.int .i64 0, .int .i64 0, .slice none 0 0]
  have B1 := bal (bal (Below.refl u.heap.size u) (.cells #[.int .i64 x.Kind, .int .i64 x.Flags, .slice A2 x.Body.length c2] 28)) (.cells #[.int .i64 0, .int .i64 0, .slice none 0 0] 67)
  rw [World.size_alloc] at R1
  obtain ⟨w1, hw1⟩ : ∃ w1, (u.alloc (.cells #[.int .i64 x.Kind, .int .i64 x.Flags, .slice A2 x.Body.length c2] 28)).alloc (.cells #[.int .i64 0, .int .i64 0, .slice none 0 0] 67) = w1 := ⟨_, rfl⟩
  have hs1 : w1.heap.size = u.heap.size + 1 + 1 := by rw [← hw1]; simp
  rw [hw1] at K1 R1 B1
  have HF := hidH (chFault_spec x.Kind x.Flags A2 x.Body c2 w1 (by omega))
  unfold ckV at HF
  have HT := hidH (And.intro K1 (And.intro R1 (And.intro B1 (bs_below hA B1))))
  have HS := hidH hs1
  have HM := hidH (And.intro hb (And.intro hm (RdA.below B1 h)))
  have k0 := K1.cell 0
  have k1 := K1.cell 1
  have k2 := K1.cell 2
  simp only [List.getElem?_toArray, List.getElem?_cons_succ, List.getElem?_cons_zero] at k0 k1 k2
  have hlt := K1.lt
  have NO : ∀ (W : World) (C : Int), rqV x = none → rdOf x = C → OwN u.heap.size W.heap.size W (rqR x).vs [.int .i64 C, .int .i64 0, .slice none 0 0] := fun W C e1 e2 => by
    have e : (rqR x).vs = [.int (rdOf x), .int 0, .st 0 []] := by rw [rqR, e1]; rfl
    rw [e, e2]
    exact OwN.int _ (OwN.int 0 (OwN.nost (OwN.nil (Nat.le_refl _))))
  replace NO := hidH NO
  clear h K1 R1 B1 hA hb hm hw ht hc hcm hs1
  obtain ⟨f, hf⟩ : ∃ f, chF x.Kind x.Flags x.Body = f := ⟨_, rfl⟩
  rw [hf] at HF
  have HEF := hidH hf
  clear hf
  go_enter Tryd.func49, Tryd.ntmps49
  go_wp2_with fail
  refine HF.out.mono ?_
  rintro e w2 ⟨rfl, b2⟩
  clear HF k0 k1 k2 hlt hw1
  have K2 := HT.out.1.below b2
  have R2 := HT.out.2.1.below b2
  have HB2 := hidH (btr HT.out.2.2.1 b2)
  have HA2 := hidH (bs_below HT.out.2.2.2 b2)
  have HZ2 := hidH b2.size
  have HB12 := hidH b2
  have k0 := K2.cell 0
  have k1 := K2.cell 1
  have k2 := K2.cell 2
  have r0 := R2.cell 0
  have r1 := R2.cell 1
  have r2 := R2.cell 2
  have f0 := R2.frozen 0
  have f1 := R2.frozen 1
  have f2 := R2.frozen 2
  simp only [List.getElem?_toArray, List.getElem?_cons_succ, List.getElem?_cons_zero] at k0 k1 k2 r0 r1 r2
  have hk := K2.lt
  have hr := R2.lt
  have HKR := hidH (And.intro K2 R2)
  by_cases hz : f = 0
  · have q : (f != 0) = false := by rw [bne_eq_false_iff_eq]; exact hz
    have H5 := hidH (show rdOf x = 5 by unfold rdOf; rw [HEF.out, if_pos hz])
    have H160 := hidH (opsOf_160 (HEF.out.trans hz))
    clear b2 K2 R2 hz
    by_cases hl : x.Body.length < 5
    · have hlI : (x.Body.length : Int) < 5 := by omega
      have HN := hidH (rqV_cnt hl)
      clear hl
      go_wp2
      exact bodyPost_ret (v := .agg #[.int .i64 5, .int .i64 0, .slice none 0 0]) (by simp [results, Tryd.results49, go_sem, r0, r1, r2]) rfl ⟨_, rfl, NO.out _ 5 HN.out H5.out, bst (bst (bst HB2.out (Nat.le_succ _) _) (Nat.le_succ _) _) (Nat.le_succ _) _⟩
    · have hlI : ¬ (x.Body.length : Int) < 5 := by omega
      have HL5 := hidH (show 5 ≤ x.Body.length by omega)
      have HAT := hidH (l1At_w A2 x.Body c2 0 w2 HA2.out HM.out.1 (by have := HL5.out; omega) HM.out.2.1)
      obtain ⟨ser, hser⟩ : ∃ n, atW x.Body 0 = n := ⟨_, rfl⟩
      rw [hser] at HAT
      have HSER := hidH hser
      clear hl hser
      go_wp2_with fail
      refine HAT.out.mono ?_
      rintro e w4 ⟨rfl, b4⟩
      clear HAT r0 r1 r2 f0 f1 f2 k0 k1 k2 hk hr
      have KA := Blk.new w4 59 #[.int .i64 ser, .slice none 0 0]
      have b5 := bal (Below.refl w4.heap.size w4) (.cells #[.int .i64 ser, .slice none 0 0] 59)
      obtain ⟨w5, hw5⟩ : ∃ w5, w4.alloc (.cells #[.int .i64 ser, .slice none 0 0] 59) = w5 := ⟨_, rfl⟩
      have hs5 : w5.heap.size = w4.heap.size + 1 := by rw [← hw5]; simp
      rw [hw5] at KA b5
      have HW5 := hidH hw5
      have HB25 := hidH (btr b4 b5)
      have HZ24 := hidH b4.size
      have HS5 := hidH hs5
      have HST := hidH (show Sr_Op w4.heap.size w5.heap.size x.Body ser w2 0 w5 from ⟨none, 0, 0, KA, by simpa [opsOf] using World.ownsRow_nil _ _ _ _, HB25.out, Nat.le_refl _⟩)
      clear b4 b5 KA hw5 hs5
      go_wp2_with fail
      rw [HW5.out]
      go_loopw [5] (fun i wr => ∃ j a : Nat, Hid (a = 5 + 2 * j) ∧ a ≤ x.Body.length ∧ i = .int .i64 (a : Int) ∧ Sr_Op w4.heap.size w5.heap.size x.Body ser w2 j wr) (fun i _ => x.Body.length - (intOf i).toNat)
      case atStart => exact ⟨0, 5, hidH rfl, HL5.out, rfl, HST.out⟩
      case round =>
        obtain ⟨j, a, hja, haL, rfl, hst⟩ := hrel
        obtain ⟨A, m, c, kg, ko, hO, hBW⟩ := hst
        have kk := (HKR.out.1.below hO).cell 2
        simp only [List.getElem?_toArray, List.getElem?_cons_succ, List.getElem?_cons_zero] at kk
        have kl := (HKR.out.1.below hO).lt
        have ha0 : (0 : Int) ≤ (a : Int) := by omega
        have haI : (a : Int) ≤ 4000000 := by omega
        by_cases hlt : a + 2 ≤ x.Body.length
        · have hlt1 : (a : Int) + 2 ≤ (x.Body.length : Int) := by omega
          have HLT := hidH hlt
          have HKO := hidH ko
          have HKG := hidH kg
          have HO := hidH hO
          have HBW := hidH hBW
          have HX := hidH (show opsOf ((x.Body.drop 5).take (2 * (j + 1))) = opsOf ((x.Body.drop 5).take (2 * j)) ++ [⟨x.Body.getD a 0, x.Body.getD (a + 1) 0⟩] by
            have e := ops_step (L := x.Body.drop 5) (j := j) (by rw [List.length_drop]; have := hja.out; omega)
            have e2 : ((x.Body.drop 5).drop (2 * j)) = x.Body.drop a := by rw [List.drop_drop, hja.out]
            rw [e, e2]
            simp only [List.getD_eq_getElem?_getD, List.getElem?_drop, Nat.add_zero])
          obtain ⟨sb, so, rfl, hsl, hcell⟩ : ∃ b off, A2 = some ⟨b, off, none⟩ ∧ b < w2.heap.size ∧ ∀ j, j < x.Body.length → w2.cell? ⟨b, off + j, none⟩ = some (.int .u8 (x.Body.getD j 0)) := by
            rcases HA2.out with h | ⟨b, off, e, hb, h⟩
            · rw [h] at hlt; simp at hlt
            · exact ⟨b, off, e, hb, h⟩
          have p0 := hcell a (by omega)
          have p1 := hcell (a + 1) (by omega)
          obtain ⟨g0, g1⟩ := HM.out.1.get a
          obtain ⟨g2, g3⟩ := HM.out.1.get (a + 1)
          obtain ⟨z0, hz0⟩ : ∃ z, x.Body.getD a 0 = z := ⟨_, rfl⟩
          obtain ⟨z1, hz1⟩ : ∃ z, x.Body.getD (a + 1) 0 = z := ⟨_, rfl⟩
          rw [hz0] at p0 g0 g1 HX
          rw [hz1] at p1 g2 g3 HX
          have P0 := hidH p0
          have P1 := hidH p1
          clear hcell p0 p1 hz0 hz1
          have HHA := hidH haL
          clear kg ko hO hBW hlt haL
          go_wp2
          refine wp_region_any (by kernel_rfl) ?_
          refine regSrOp _ _ _ _ _ _ _ _ _ _ _ _ _ _ _ _ _ _ _ _ _ _ _ _ _ _ _ _ _ _ _ _ _ _ _ _ _ _ _ _ _ _ _ _ _ _ _ _ _ _ _ _ w2 u.heap.size w4.heap.size w5.heap.size j a x.Body.length c2 z0 z1 ser _ _ sb so (by have := HS5.out; omega) (by have := HZ24.out; have := HS5.out; omega) HZ24.out (by have := H160.out; have := HLT.out; have := hja.out; omega) HKR.out.1.lt (by have := HKR.out.1.cell 2; simpa using this) ha0 (by omega) (by omega) (by omega) (by omega) hsl P0.out P1.out g0 g1 g2 g3 (by kernel_rfl) (by kernel_rfl) (by kernel_rfl) rfl ⟨(fun h => by cases h), (fun h => by cases h), (fun h => by cases h)⟩ (fun _ => HKG.out.below (Below.refl _ _).drew) (fun _ => own_below0 HKO.out (Below.refl _ _).drew) (btr HO.out (Below.refl _ _).drew) HBW.out ?_
          intros
          rename_i W gO gB gT
          have HN := hidH (Sr_Op_turn z0 z1 HX.out gT gO gB)
          clear gO gB gT
          go_wp2
          go_roundw
          case rel => exact ⟨j + 1, a + 2, hidH (by have := hja.out; omega), HLT.out, by go_num, HN.out⟩
          case measure => simp [intOf]; have := HLT.out; omega
        · have hlt1 : ¬ (a : Int) + 2 ≤ (x.Body.length : Int) := by omega
          have HRAW := hidH (show raskV x.Body = ⟨ser, opsOf ((x.Body.drop 5).take (2 * j))⟩ by
            rw [raskV, HSER.out, opsOf_end j (x.Body.drop 5) (by rw [List.length_drop]; have := hja.out; omega) (by rw [List.length_drop]; have := hja.out; omega)])
          have hjl : (opsOf ((x.Body.drop 5).take (2 * j))).length = j := opsOf_len j _ (by rw [List.length_take, List.length_drop]; have := hja.out; omega)
          have ov := own_st ko (by rw [row_asconf_len, hjl])
          have e9 : (V.st j ((((opsOf ((x.Body.drop 5).take (2 * j))).flatMap row_asconf)).map V.int)) = st_AddrOp (opsOf ((x.Body.drop 5).take (2 * j))) := by rw [st_AddrOp, hjl, flat_ints (f := AddrOpM.vs) (h := row_asconf) (fun _ => rfl)]
          rw [e9] at ov
          have HOV := hidH (show OwN w5.heap.size wr.heap.size wr (raskV x.Body).vs [.int .i64 ser, .slice A m c] by rw [HRAW.out]; exact OwN.int ser (OwN.cons (B := w5.heap.size) (C := wr.heap.size) (D := wr.heap.size) ov (OwN.nil (Nat.le_refl _)) hBW (Nat.le_refl _)))
          have HPA := hidH (qa_spec (raskV x.Body) _ wr HOV.out.rd (raskV_wf HM.out.1) (raskV_tot (by have := H160.out; omega)))
          have a0 := kg.cell 0
          have a1 := kg.cell 1
          simp only [List.getElem?_toArray, List.getElem?_cons_succ, List.getElem?_cons_zero] at a0 a1
          have hga := kg.lt
          have HKG := hidH kg
          have HO := hidH hO
          have HBW := hidH hBW
          clear kg ko hO hBW hlt hjl ov e9
          go_wp2_with fail
          refine HPA.out.mono ?_
          rintro e w6 ⟨rs, rfl, hoz, b6⟩
          have HB26 := hidH (btr HO.out b6)
          have HIS := hidH (l5Is_any u.heap.size 0 x (qaR (raskV x.Body)) rs w6 (RdL.of_cells (RdA.below (btr HB12.out HB26.out) HM.out.2.2) (fun k hk => by rw [Nat.zero_add, (HKR.out.1.below HB26.out).cell k]; simp)) hoz.rd HM.out.1 qaR_b)
          have HO6 := hidH (HOV.out.below b6)
          have HA6 := hidH (HKG.out.below b6)
          have HZ6 := hidH b6.size
          obtain ⟨bb, hbb⟩ : ∃ bb, isM x (qaR (raskV x.Body)) = bb := ⟨_, rfl⟩
          rw [hbb] at HIS
          have HBB := hidH hbb
          clear hoz b6 HPA HOV HKG a0 a1 hga hbb kk kl
          go_wp2_with fail
          refine HIS.out.mono ?_
          rintro e w7 ⟨rfl, b7⟩
          have HB27 := hidH (btr HB26.out b7)
          have HO7 := hidH (HO6.out.below b7)
          have HZ7 := hidH b7.size
          have KA := HA6.out.below b7
          have R7 := HKR.out.2.below HB27.out
          have HBu := hidH (btr HB2.out HB27.out)
          have a0 := KA.cell 0
          have a1 := KA.cell 1
          have r0 := R7.cell 0
          have r1 := R7.cell 1
          have r2 := R7.cell 2
          have f0 := R7.frozen 0
          have f1 := R7.frozen 1
          have f2 := R7.frozen 2
          simp only [List.getElem?_toArray, List.getElem?_cons_succ, List.getElem?_cons_zero] at a0 a1 r0 r1 r2
          have hga := KA.lt
          have hr := R7.lt
          clear b7 HIS HO6 HA6 KA R7 HB26 HB27
          cases bb
          · have HN := hidH (show rqV x = none by unfold rqV; rw [if_neg (fun q => by have h1 := q.2; rw [HBB.out] at h1; cases h1)])
            go_wp2
            exact bodyPost_ret (v := .agg #[.int .i64 5, .int .i64 0, .slice none 0 0]) (by simp [results, Tryd.results49, go_sem, r0, r1, r2]) rfl ⟨_, rfl, NO.out _ 5 HN.out H5.out, bst (bst (bst HBu.out (Nat.le_succ _) _) (Nat.le_succ _) _) (Nat.le_succ _) _⟩
          · have HV := hidH (show rqV x = some (raskV x.Body) by unfold rqV; rw [if_pos ⟨HL5.out, HBB.out⟩])
            go_wp2
            exact bodyPost_ret (v := .agg #[.int .i64 0, .int .i64 ser, .slice A m c]) (by simp [results, Tryd.results49, go_sem, r0, r1, r2]) rfl ⟨_, rfl, by
              have e : (rqR x).vs = .int 0 :: (raskV x.Body).vs := by rw [rqR, HV.out]; rfl
              rw [e]
              refine OwN.int 0 (OwN.mono (B := w5.heap.size) (C := wr.heap.size) ?_ (by have := HS.out; have := HZ2.out; have := HZ24.out; have := HS5.out; omega) (by have := HZ6.out; have := HZ7.out; simp [World.setCell]; omega) (Nat.le_refl _))
              iterate 3 (refine OwN.win (B' := u.heap.size + 1) (C' := u.heap.size + 1 + 1) ?_ (win_set _ _ _ _) (.inr (by have := HS.out; have := HZ2.out; have := HZ24.out; have := HS5.out; omega)))
              exact HO7.out, by
              iterate 3 (refine bst ?_ (Nat.le_succ _) _)
              exact HBu.out⟩
  · have q : (f != 0) = true := by rw [bne_iff_ne]; exact hz
    have HN := hidH (rqV_chF (x := x) (by rw [HEF.out]; exact hz))
    have H5 := hidH (show rdOf x = f by unfold rdOf; rw [HEF.out, if_neg hz])
    clear b2 K2 R2 hz
    go_wp2
    exact bodyPost_ret (v := .agg #[.int .i64 f, .int .i64 0, .slice none 0 0]) (by simp [results, Tryd.results49, go_sem, r0, r1, r2]) rfl ⟨_, rfl, NO.out _ f HN.out H5.out, bst (bst (bst HB2.out (Nat.le_succ _) _) (Nat.le_succ _) _) (Nat.le_succ _) _⟩
end Go.Proofs.YtjjileefdjjijaaDoor
