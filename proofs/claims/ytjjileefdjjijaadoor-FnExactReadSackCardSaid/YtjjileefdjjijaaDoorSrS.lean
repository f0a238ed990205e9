/- The model's ReadSack. -/
import Derived.Test.YtjjileefdjjijaaDoorSrR
import Derived.Test.YtjjileefdjjijaaDoorMb7
import Derived.Test.YtjjileefdjjijaaDoorS5SI
import Derived.Test.YtjjileefdjjijaaDoorRgI
namespace Go.Proofs.YtjjileefdjjijaaDoor
open Go.RowKit Go.Deep

theorem gapsOf_end : ∀ (j : Nat) (L : List Int), 4 * j ≤ L.length → L.length < 4 * (j + 1) → gapsOf (L.take (4 * j)) = gapsOf L
  | j, L, h1, h2 => by
    have e : L = L.take (4 * j) ++ L.drop (4 * j) := (List.take_append_drop _ _).symm
    conv => rhs; rw [e]
    rw [gapsOf_app j _ _ (by rw [List.length_take]; omega)]
    have h3 : (L.drop (4 * j)).length < 4 := by rw [List.length_drop]; omega
    have h4 : gapsOf (L.drop (4 * j)) = [] := by
      match L.drop (4 * j), h3 with
      | [], _ => rfl
      | [_], _ => rfl
      | [_, _], _ => rfl
      | [_, _, _], _ => rfl
    rw [h4, List.append_nil]
theorem gapsOf_160 {k f : Int} {b : List Int} (h : chF k f b = 0) : b.length ≤ 160 := by
  unfold chF at h
  split at h
  · split at h
    · assumption
    · cases h
  · cases h
theorem gapsOf_wf : ∀ (L : List Int), Bytes L → WfA ((gapsOf L).flatMap GapM.vs)
  | [], _ => trivial
  | [_], _ => trivial
  | [_, _], _ => trivial
  | [_, _, _], _ => trivial
  | a :: b :: c :: d :: r, h => by
    have ha := h a (by simp)
    have hb := h b (by simp)
    have hc := h c (by simp)
    have hd := h d (by simp)
    exact ⟨⟨by show _ ≤ a * 256 + b; omega, by show a * 256 + b ≤ _; omega⟩, ⟨by show _ ≤ c * 256 + d; omega, by show c * 256 + d ≤ _; omega⟩, gapsOf_wf r (fun x hx => h x (by simp [hx]))⟩
theorem gapsOf_le : ∀ (L : List Int), (gapsOf L).length ≤ L.length
  | [] => by simp [gapsOf]
  | [_] => by simp [gapsOf]
  | [_, _] => by simp [gapsOf]
  | [_, _, _] => by simp [gapsOf]
  | _ :: _ :: _ :: _ :: r => by have := gapsOf_le r; simp only [gapsOf, List.length_cons]; omega
theorem gapsOf_tot : ∀ (r : List GapM), tot.totL (r.flatMap GapM.vs) = 0
  | [] => rfl
  | x :: r => by rw [List.flatMap_cons, totL_append, gapsOf_tot r]; rfl
theorem gapsOf_cc : ∀ (r : List GapM), cc.ccL (r.flatMap GapM.vs) = 2 * r.length
  | [] => rfl
  | x :: r => by rw [List.flatMap_cons, ccL_append, gapsOf_cc r]; simp [GapM.vs, cc.ccL, cc]; omega
theorem rsakV_wf {l : List Int} (h : Bytes l) : WfA (rsakV l).vs := by
  have hw := atW_w5 h 0
  exact ⟨⟨by show _ ≤ atW l 0; omega, by show atW l 0 ≤ _; omega⟩, gapsOf_wf _ (bytes_d h 5), trivial⟩
theorem rsakV_tot {l : List Int} (h : l.length ≤ 1000) : tot.totL (rsakV l).vs ≤ 1048576 := by
  have h1 := gapsOf_le (l.drop 5)
  have h2 := gapsOf_tot (gapsOf (l.drop 5))
  rw [List.length_drop] at h1
  show 0 + (((gapsOf (l.drop 5)).length + tot.totL ((gapsOf (l.drop 5)).flatMap GapM.vs)) + 0) ≤ 1048576
  omega
theorem rsR_len (x : ChunkM) (_ : WfA x.vs) (ht : tot.totL x.vs ≤ 1048576) : vcA (rsR x).vs ≤ 1000000000 := by
  have hm : x.Body.length ≤ 1048576 := by simp only [ChunkM.vs, tot.totL, tot] at ht; omega
  unfold rsR
  cases e : rsV x with
  | none => simp [SackResultM.vs, st_Gap, vcA, vc, cc, cc.ccL]
  | some y =>
    have hy : y = rsakV x.Body := by unfold rsV at e; split at e <;> cases e; rfl
    subst hy
    have h1 := gapsOf_le (x.Body.drop 5)
    have h2 := gapsOf_cc (gapsOf (x.Body.drop 5))
    rw [List.length_drop] at h1
    show 0 + (0 + (cc.ccL ((gapsOf (x.Body.drop 5)).flatMap GapM.vs) + 0)) ≤ 1000000000
    omega
theorem rsV_chF {x : ChunkM} (h : chF x.Kind x.Flags x.Body ≠ 0) : rsV x = none := by
  cases e : rsV x with
  | none => rfl
  | some y => exact absurd (chF_sack ((rsV_iff x y).1 e)) h
theorem rsV_cnt {x : ChunkM} (h : x.Body.length < 5) : rsV x = none := by
  unfold rsV
  rw [if_neg (fun q => by have := q.1; omega)]
/-- The rows so far. -/
def Sr_Gap (g B : Nat) (L : List Int) (z : Int) (ww : World) (j : Nat) (wr : World) : Prop :=
  ∃ (A : Option Addr) (m c : Nat), Blk wr g 34 #[.int .i64 z, .slice A m c] ∧ wr.ownsRow B 52 2 (.slice A m c) j (((gapsOf ((L.drop 5).take (4 * j))).flatMap row_sack).map (Value.int .i64)) ∧ Below ww.heap.size ww wr ∧ B ≤ wr.heap.size
theorem Sr_Gap_turn {g B : Nat} {L : List Int} {z : Int} {ww wr : World} {j : Nat} (x0 x1 : Int) (hx : gapsOf ((L.drop 5).take (4 * (j + 1))) = gapsOf ((L.drop 5).take (4 * j)) ++ [⟨x0, x1⟩])
    (h : ∃ v2, Blk wr g 34 #[.int .i64 z, v2] ∧ wr.ownsRow B 52 2 v2 (j + 1) (((gapsOf ((L.drop 5).take (4 * j))).flatMap row_sack).map (Value.int .i64) ++ [.int .i64 x0, .int .i64 x1])) (hO : Below ww.heap.size ww wr) (hB : B ≤ wr.heap.size) : Sr_Gap g B L z ww (j + 1) wr := by
  obtain ⟨v2, k, o⟩ := h
  obtain ⟨A, m, c, rfl⟩ := own_sliceE o
  refine ⟨A, m, c, k, ?_, hO, hB⟩
  rw [hx, List.flatMap_append]
  simpa [row_sack] using o
set_option maxRecDepth 100000 in
set_option maxHeartbeats 8000000 in
theorem rs_spec (x : ChunkM) (vs : List Value) (u : World) (h : RdA u x.vs vs) (hw : WfA x.vs) (ht : tot.totL x.vs ≤ 1048576) : Calls Tryd.prog 41 #[.agg vs.toArray] u (Res u (rsR x).vs) := by
  obtain ⟨A2, c2, rfl⟩ := shape_Chunk h
  have h2 := h.tl.tl.hd
  unfold Rd at h2
  obtain ⟨A', c', e, ⟨hc, hcm⟩, hA⟩ := h2
  cases e
  have hb : Bytes x.Body := hw.2.2.1
  have hm : x.Body.length ≤ 4000000 := by simp only [ChunkM.vs, tot.totL, tot] at ht; omega
  have hmI : (x.Body.length : Int) ≤ 4000000 := by omega
  have K1 := (Blk.new u 28 #[.int .i64 x.Kind, .int .i64 x.Flags, .slice A2 x.Body.length c2]).alloc (.cells #[.int .i64 0, .int .i64 0, .slice none 0 0] 49)
  have R1 := Blk.new (u.alloc (.cells #[.int .i64 x.Kind, .int .i64 x.Flags, .slice A2 x.Body.length c2] 28)) 49 #[.int .i64 0, .int .i64 0, .slice none 0 0]
  have B1 := bal (bal (Below.refl u.heap.size u) (.cells #[.int .i64 x.Kind, .int .i64 x.Flags, .slice A2 x.Body.length c2] 28)) (.cells #[.int .i64 0, .int .i64 0, .slice none 0 0] 49)
  rw [World.size_alloc] at R1
  obtain ⟨w1, hw1⟩ : ∃ w1, (u.alloc (.cells #[.int .i64 x.Kind, .int .i64 x.Flags, .slice A2 x.Body.length c2] 28)).alloc (.cells #[.int .i64 0, .int .i64 0, .slice none 0 0] 49) = w1 := ⟨_, rfl⟩
  have hs1 : w1.heap.size = u.heap.size + 1 + 1 := by rw [← hw1]; simp
  rw [hw1] at K1 R1 B1
  have HF := hidH (chFault_spec x.Kind x.Flags A2 x.Body c2 w1 (by omega))
  unfold ckV at HF
  have HT := hidH (And.intro K1 (And.intro R1 (And.intro B1 (bs_below hA B1))))
  have HS := hidH hs1
  have HM := hidH (And.intro hb (And.intro hm (RdA.below B1 h)))
  have k0 := K1.cell 0
  have k1 := K1.cell 1
  have k2 := K1.cell 2
  simp only [List.getElem?_toArray, List.getElem?_cons_succ, List.getElem?_cons_zero] at k0 k1 k2
  have hlt := K1.lt
  have NO : ∀ (W : World) (C : Int), rsV x = none → rdOf x = C → OwN u.heap.size W.heap.size W (rsR x).vs [.int .i64 C, .int .i64 0, .slice none 0 0] := fun W C e1 e2 => by
    have e : (rsR x).vs = [.int (rdOf x), .int 0, .st 0 []] := by rw [rsR, e1]; rfl
    rw [e, e2]
    exact OwN.int _ (OwN.int 0 (OwN.nost (OwN.nil (Nat.le_refl _))))
  replace NO := hidH NO
  clear h K1 R1 B1 hA hb hm hw ht hc hcm hs1
  obtain ⟨f, hf⟩ : ∃ f, chF x.Kind x.Flags x.Body = f := ⟨_, rfl⟩
  rw [hf] at HF
  have HEF := hidH hf
  clear hf
  go_enter Tryd.func41, Tryd.ntmps41
  go_wp2_with fail
  refine HF.out.mono ?_
  rintro e w2 ⟨rfl, b2⟩
  clear HF k0 k1 k2 hlt hw1
  have K2 := HT.out.1.below b2
  have R2 := HT.out.2.1.below b2
  have HB2 := hidH (btr HT.out.2.2.1 b2)
  have HA2 := hidH (bs_below HT.out.2.2.2 b2)
  have HZ2 := hidH b2.size
  have HB12 := hidH b2
  have k0 := K2.cell 0
  have k1 := K2.cell 1
  have k2 := K2.cell 2
  have r0 := R2.cell 0
  have r1 := R2.cell 1
  have r2 := R2.cell 2
  have f0 := R2.frozen 0
  have f1 := R2.frozen 1
  have f2 := R2.frozen 2
  simp only [List.getElem?_toArray, List.getElem?_cons_succ, List.getElem?_cons_zero] at k0 k1 k2 r0 r1 r2
  have hk := K2.lt
  have hr := R2.lt
  have HKR := hidH (And.intro K2 R2)
  by_cases hz : f = 0
  · have q : (f != 0) = false := by rw [bne_eq_false_iff_eq]; exact hz
    have H5 := hidH (show rdOf x = 5 by unfold rdOf; rw [HEF.out, if_pos hz])
    have H160 := hidH (gapsOf_160 (HEF.out.trans hz))
    clear b2 K2 R2 hz
    by_cases hl : x.Body.length < 5
    · have hlI : (x.Body.length : Int) < 5 := by omega
      have HN := hidH (rsV_cnt hl)
      clear hl
      go_wp2
      exact bodyPost_ret (v := .agg #[.int .i64 5, .int .i64 0, .slice none 0 0]) (by simp [results, Tryd.results41, go_sem, r0, r1, r2]) rfl ⟨_, rfl, NO.out _ 5 HN.out H5.out, bst (bst (bst HB2.out (Nat.le_succ _) _) (Nat.le_succ _) _) (Nat.le_succ _) _⟩
    · have hlI : ¬ (x.Body.length : Int) < 5 := by omega
      have HL5 := hidH (show 5 ≤ x.Body.length by omega)
      have HAT := hidH (l1At_w A2 x.Body c2 0 w2 HA2.out HM.out.1 (by have := HL5.out; omega) HM.out.2.1)
      obtain ⟨ser, hser⟩ : ∃ n, atW x.Body 0 = n := ⟨_, rfl⟩
      rw [hser] at HAT
      have HSER := hidH hser
      clear hl hser
      go_wp2_with fail
      refine HAT.out.mono ?_
      rintro e w4 ⟨rfl, b4⟩
      clear HAT r0 r1 r2 f0 f1 f2 k0 k1 k2 hk hr
      have KA := Blk.new w4 34 #[.int .i64 ser, .slice none 0 0]
      have b5 := bal (Below.refl w4.heap.size w4) (.cells #[.int .i64 ser, .slice none 0 0] 34)
      obtain ⟨w5, hw5⟩ : ∃ w5, w4.alloc (.cells #[.int .i64 ser, .slice none 0 0] 34) = w5 := ⟨_, rfl⟩
      have hs5 : w5.heap.size = w4.heap.size + 1 := by rw [← hw5]; simp
      rw [hw5] at KA b5
      have HW5 := hidH hw5
      have HB25 := hidH (btr b4 b5)
      have HZ24 := hidH b4.size
      have HS5 := hidH hs5
      have HST := hidH (show Sr_Gap w4.heap.size w5.heap.size x.Body ser w2 0 w5 from ⟨none, 0, 0, KA, by simpa [gapsOf] using World.ownsRow_nil _ _ _ _, HB25.out, Nat.le_refl _⟩)
      clear b4 b5 KA hw5 hs5
      go_wp2_with fail
      rw [HW5.out]
      go_loopw [5] (fun i wr => ∃ j a : Nat, Hid (a = 5 + 4 * j) ∧ a ≤ x.Body.length ∧ i = .int .i64 (a : Int) ∧ Sr_Gap w4.heap.size w5.heap.size x.Body ser w2 j wr) (fun i _ => x.Body.length - (intOf i).toNat)
      case atStart => exact ⟨0, 5, hidH rfl, HL5.out, rfl, HST.out⟩
      case round =>
        obtain ⟨j, a, hja, haL, rfl, hst⟩ := hrel
        obtain ⟨A, m, c, kg, ko, hO, hBW⟩ := hst
        have kk := (HKR.out.1.below hO).cell 2
        simp only [List.getElem?_toArray, List.getElem?_cons_succ, List.getElem?_cons_zero] at kk
        have kl := (HKR.out.1.below hO).lt
        have ha0 : (0 : Int) ≤ (a : Int) := by omega
        have haI : (a : Int) ≤ 4000000 := by omega
        by_cases hlt : a + 4 ≤ x.Body.length
        · have hlt1 : (a : Int) + 4 ≤ (x.Body.length : Int) := by omega
          have HLT := hidH hlt
          have HKO := hidH ko
          have HKG := hidH kg
          have HO := hidH hO
          have HBW := hidH hBW
          have HX := hidH (show gapsOf ((x.Body.drop 5).take (4 * (j + 1))) = gapsOf ((x.Body.drop 5).take (4 * j)) ++ [⟨pairAt x.Body a, pairAt x.Body (a + 2)⟩] by
            have e := gaps_step (L := x.Body.drop 5) (j := j) (by rw [List.length_drop]; have := hja.out; omega)
            have e2 : ((x.Body.drop 5).drop (4 * j)) = x.Body.drop a := by rw [List.drop_drop, hja.out]
            rw [e, e2]
            simp only [← pairAt_drop, List.drop_drop])
          obtain ⟨z0, hz0⟩ : ∃ z, pairAt x.Body a = z := ⟨_, rfl⟩
          obtain ⟨z1, hz1⟩ : ∃ z, pairAt x.Body (a + 2) = z := ⟨_, rfl⟩
          have HC0 := hidH (fun (q : World) (hq : Below w2.heap.size w2 q) => l1PairAt_w A2 x.Body c2 a q (bs_below HA2.out hq) HM.out.1 (by omega) HM.out.2.1)
          have HC1 := hidH (fun (q : World) (hq : Below w2.heap.size w2 q) => l1PairAt_w A2 x.Body c2 (a + 2) q (bs_below HA2.out hq) HM.out.1 (by omega) HM.out.2.1)
          rw [hz0] at HX HC0
          rw [hz1] at HX HC1
          clear hz0 hz1
          have HHA := hidH haL
          clear kg ko hO hBW hlt haL
          go_wp2
          refine wp_region_any (by kernel_rfl) ?_
          refine regSrGap _ _ _ _ _ _ _ _ _ _ _ _ _ _ _ _ _ _ _ _ _ _ _ _ _ _ _ _ _ _ _ _ _ _ _ _ _ _ _ _ _ _ _ _ _ _ _ _ w2 u.heap.size w4.heap.size w5.heap.size j a x.Body.length c2 z0 z1 ser _ _ A2 (by have := HS5.out; omega) (by have := HZ24.out; have := HS5.out; omega) HZ24.out (by have := H160.out; have := HLT.out; have := hja.out; omega) HKR.out.1.lt (by have := HKR.out.1.cell 2; simpa using this) ha0 (by omega) HC0.out HC1.out (by kernel_rfl) (by kernel_rfl) (by kernel_rfl) rfl ⟨(fun h => by cases h), (fun h => by cases h), (fun h => by cases h)⟩ (fun _ => HKG.out.below (Below.refl _ _).drew) (fun _ => own_below0 HKO.out (Below.refl _ _).drew) (btr HO.out (Below.refl _ _).drew) HBW.out ?_
          intros
          rename_i W gO gB gT
          have HN := hidH (Sr_Gap_turn z0 z1 HX.out gT gO gB)
          clear gO gB gT
          go_wp2
          go_roundw
          case rel => exact ⟨j + 1, a + 4, hidH (by have := hja.out; omega), HLT.out, by go_num, HN.out⟩
          case measure => simp [intOf]; have := HLT.out; omega
        · have hlt1 : ¬ (a : Int) + 4 ≤ (x.Body.length : Int) := by omega
          have HRAW := hidH (show rsakV x.Body = ⟨ser, gapsOf ((x.Body.drop 5).take (4 * j))⟩ by
            rw [rsakV, HSER.out, gapsOf_end j (x.Body.drop 5) (by rw [List.length_drop]; have := hja.out; omega) (by rw [List.length_drop]; have := hja.out; omega)])
          have hjl : (gapsOf ((x.Body.drop 5).take (4 * j))).length = j := gapsOf_len j _ (by rw [List.length_take, List.length_drop]; have := hja.out; omega)
          have ov := own_st ko (by rw [row_sack_len, hjl])
          have e9 : (V.st j ((((gapsOf ((x.Body.drop 5).take (4 * j))).flatMap row_sack)).map V.int)) = st_Gap (gapsOf ((x.Body.drop 5).take (4 * j))) := by rw [st_Gap, hjl, flat_ints (f := GapM.vs) (h := row_sack) (fun _ => rfl)]
          rw [e9] at ov
          have HOV := hidH (show OwN w5.heap.size wr.heap.size wr (rsakV x.Body).vs [.int .i64 ser, .slice A m c] by rw [HRAW.out]; exact OwN.int ser (OwN.cons (B := w5.heap.size) (C := wr.heap.size) (D := wr.heap.size) ov (OwN.nil (Nat.le_refl _)) hBW (Nat.le_refl _)))
          have HPA := hidH (ks_spec (rsakV x.Body) _ wr HOV.out.rd (rsakV_wf HM.out.1) (rsakV_tot (by have := H160.out; omega)))
          have a0 := kg.cell 0
          have a1 := kg.cell 1
          simp only [List.getElem?_toArray, List.getElem?_cons_succ, List.getElem?_cons_zero] at a0 a1
          have hga := kg.lt
          have HKG := hidH kg
          have HO := hidH hO
          have HBW := hidH hBW
          clear kg ko hO hBW hlt hjl ov e9
          go_wp2_with fail
          refine HPA.out.mono ?_
          rintro e w6 ⟨rs, rfl, hoz, b6⟩
          have HB26 := hidH (btr HO.out b6)
          have HIS := hidH (l5Is_any u.heap.size 0 x (ksR (rsakV x.Body)) rs w6 (RdL.of_cells (RdA.below (btr HB12.out HB26.out) HM.out.2.2) (fun k hk => by rw [Nat.zero_add, (HKR.out.1.below HB26.out).cell k]; simp)) hoz.rd HM.out.1 ksR_b)
          have HO6 := hidH (HOV.out.below b6)
          have HA6 := hidH (HKG.out.below b6)
          have HZ6 := hidH b6.size
          obtain ⟨bb, hbb⟩ : ∃ bb, isM x (ksR (rsakV x.Body)) = bb := ⟨_, rfl⟩
          rw [hbb] at HIS
          have HBB := hidH hbb
          clear hoz b6 HPA HOV HKG a0 a1 hga hbb kk kl
          go_wp2_with fail
          refine HIS.out.mono ?_
          rintro e w7 ⟨rfl, b7⟩
          have HB27 := hidH (btr HB26.out b7)
          have HO7 := hidH (HO6.out.below b7)
          have HZ7 := hidH b7.size
          have KA := HA6.out.below b7
          have R7 := HKR.out.2.below HB27.out
          have HBu := hidH (btr HB2.out HB27.out)
          have a0 := KA.cell 0
          have a1 := KA.cell 1
          have r0 := R7.cell 0
          have r1 := R7.cell 1
          have r2 := R7.cell 2
          have f0 := R7.frozen 0
          have f1 := R7.frozen 1
          have f2 := R7.frozen 2
          simp only [List.getElem?_toArray, List.getElem?_cons_succ, List.getElem?_cons_zero] at a0 a1 r0 r1 r2
          have hga := KA.lt
          have hr := R7.lt
          clear b7 HIS HO6 HA6 KA R7 HB26 HB27
          cases bb
          · have HN := hidH (show rsV x = none by unfold rsV; rw [if_neg (fun q => by have h1 := q.2; rw [HBB.out] at h1; cases h1)])
            go_wp2
            exact bodyPost_ret (v := .agg #[.int .i64 5, .int .i64 0, .slice none 0 0]) (by simp [results, Tryd.results41, go_sem, r0, r1, r2]) rfl ⟨_, rfl, NO.out _ 5 HN.out H5.out, bst (bst (bst HBu.out (Nat.le_succ _) _) (Nat.le_succ _) _) (Nat.le_succ _) _⟩
          · have HV := hidH (show rsV x = some (rsakV x.Body) by unfold rsV; rw [if_pos ⟨HL5.out, HBB.out⟩])
            go_wp2
            exact bodyPost_ret (v := .agg #[.int .i64 0, .int .i64 ser, .slice A m c]) (by simp [results, Tryd.results41, go_sem, r0, r1, r2]) rfl ⟨_, rfl, by
              have e : (rsR x).vs = .int 0 :: (rsakV x.Body).vs := by rw [rsR, HV.out]; rfl
              rw [e]
              refine OwN.int 0 (OwN.mono (B := w5.heap.size) (C := wr.heap.size) ?_ (by have := HS.out; have := HZ2.out; have := HZ24.out; have := HS5.out; omega) (by have := HZ6.out; have := HZ7.out; simp [World.setCell]; omega) (Nat.le_refl _))
              iterate 3 (refine OwN.win (B' := u.heap.size + 1) (C' := u.heap.size + 1 + 1) ?_ (win_set _ _ _ _) (.inr (by have := HS.out; have := HZ2.out; have := HZ24.out; have := HS5.out; omega)))
              exact HO7.out, by
              iterate 3 (refine bst ?_ (Nat.le_succ _) _)
              exact HBu.out⟩
  · have q : (f != 0) = true := by rw [bne_iff_ne]; exact hz
    have HN := hidH (rsV_chF (x := x) (by rw [HEF.out]; exact hz))
    have H5 := hidH (show rdOf x = f by unfold rdOf; rw [HEF.out, if_neg hz])
    clear b2 K2 R2 hz
    go_wp2
    exact bodyPost_ret (v := .agg #[.int .i64 f, .int .i64 0, .slice none 0 0]) (by simp [results, Tryd.results41, go_sem, r0, r1, r2]) rfl ⟨_, rfl, NO.out _ f HN.out H5.out, bst (bst (bst HB2.out (Nat.le_succ _) _) (Nat.le_succ _) _) (Nat.le_succ _) _⟩
end Go.Proofs.YtjjileefdjjijaaDoor
