/- Chapter 6: the program's list of a map of secrets; PutSecret. -/
import Derived.Test.YtjjileefdjjijaaS6L
import Derived.Test.YtjjileefdjjijaaS6MI
namespace Go.Proofs.Ytjjileefdjjijaa
open Go.RowKit Go.Deep

theorem Below.grow {B : Nat} {a w w' : World} (h : Below B a w) {row : Option Nat} (hg : w.grownBy w' row) (hB : B ≤ w.heap.size) (hr : ∀ k, row = some k → B ≤ k) : Below B a w' := h.grown hg hB hr
set_option maxRecDepth 100000 in
set_option maxHeartbeats 4000000 in
theorem list_any (b N : Nat) (q : List KE) (w : World) (h : KMap w b N q) (hq : q.length ≤ 100) (hw : ∀ x ∈ q, WfV (.int x.id)) :
    Calls Try.prog 61 #[.map (some b)] w fun e w' => ∃ v, e = .returned v ∧ OwV b w'.heap.size w' (st_Secret ((byId q).map KE.sec)) v ∧ Below w.heap.size w w' := by
  have hbl := h.lt
  have HB := hidH hbl
  have HQ := hidH hq
  obtain ⟨⟨D, d1, d2, d3⟩, d4⟩ := h
  have hlen : ∀ ty, (Builtin.len_ #[86] ty #[.map (some b)]).run Try.prog w = .ok (.int .i64 (q.length : Int)) w := fun ty => by rw [← d3]; exact d1.len und_map ty
  obtain ⟨w1, hmk, o1, g1⟩ := made_secs w q.length (by omega)
  have b1 : Below w.heap.size w w1 := (Below.refl w.heap.size w).grown g1 (Nat.le_refl _) (fun x hx => by cases hx)
  have HM := hidH (show KMap w b N q from ⟨⟨D, d1, d2, d3⟩, d4⟩)
  have HB1 := hidH b1
  have HO1 := hidH o1
  have HK := hidH (keys_any b w1)
  have b2 := bal (Below.refl w1.heap.size w1) (.cells #[.map (some b)] 86)
  have K2 := Blk.new w1 86 #[.map (some b)]
  obtain ⟨w2, hw2⟩ : ∃ w2, w1.alloc (.cells #[.map (some b)] 86) = w2 := ⟨_, rfl⟩
  rw [hw2] at b2 K2
  have HW2 := hidH hw2
  have HI := hidH (ids_any w1.heap.size b N q w2 K2.lt (by simpa using K2.cell 0) (HM.out.below (b1.trans (b2.mono b1.size))) (by omega))
  have HB2 := hidH (b1.trans (b2.mono b1.size))
  have HO2 := hidH (own_below0 o1 b2)
  have HLK := hidH (fun (W : World) (hb : Below w.heap.size w W) (x : KE) (hx : x ∈ q) => show (Instr.lookup 86 (.map (some b)) (.int .i64 x.id) false).run Try.prog W = .ok x.val W from by
    obtain ⟨v, ps, h1, h2⟩ := (own_map_of d1 (hb.block _ hbl)).lookup key_law und_map (zero_bs W) (zd := .held (.slice none 0 0)) (zp := []) rfl (key_i64 (hw x hx))
    rw [d2.1 x hx] at h2
    unfold heldR at h2
    injection h2 with h2
    injection h2 with h2 _
    injection h2 with h2
    rw [h1, h2])
  have HVS := hidH (fun (x : KE) (hx : x ∈ q) => (d4.1 x hx).1.rd)
  have HN := hidH (byId_perm q)
  have HL := hidH ((byId_perm q).length_eq)
  obtain ⟨Q, hQ⟩ : ∃ Q, byId q = Q := ⟨_, rfl⟩
  rw [hQ] at HN HL HI
  have HQQ := hidH hQ
  have hqI : (q.length : Int) ≤ 100 := by omega
  clear hbl d1 d2 d3 d4 o1 g1 b1 b2 K2 hw2 hQ hq hw
  go_enter Try.func61, Try.ntmps61
  go_wp2_with fail
  clear hlen hmk
  refine HK.out.mono ?_
  rintro e w' ⟨rfl, rfl⟩
  rw [HW2.out]
  go_wp2_with fail
  refine HI.out.mono ?_
  rintro e w3 ⟨v, rfl, oi, b3⟩
  obtain ⟨A, c, rfl, hcell⟩ := own_cells oi
  clear hcell
  have HOI := hidH oi
  have HO3 := hidH (own_below0 HO2.out b3)
  have HB3 := hidH (HB2.out.trans (b3.mono HB2.out.size))
  clear oi b3 HK HI
  go_wp2_with fail
  go_loopw [3, 13] (fun v i wr => ∃ j : Nat, j ≤ q.length ∧ i = .int .i64 (j : Int) ∧ wr.ownsRow w.heap.size 58 2 v j (flatK (Q.take j)) ∧ wr.ownsRow w2.heap.size 2 1 (.slice A q.length c) q.length ((Q.map KE.id).map (Value.int .i64)) ∧ Below w.heap.size w wr) (fun _ i _ => q.length - (intOf i).toNat)
  case atStart => exact ⟨0, Nat.zero_le _, rfl, by simpa [flatK] using HO3.out, HOI.out, HB3.out⟩
  case round =>
    obtain ⟨j, hj, rfl, ho, hi, hB⟩ := hrel
    have hj0 : (0 : Int) ≤ (j : Int) := by omega
    by_cases hlt : j < q.length
    · have hj1 : (j : Int) < (q.length : Int) := by omega
      have hjQ : j < Q.length := by rw [HL.out]; exact hlt
      obtain ⟨A', c', e, hcell⟩ := own_cells hi
      injection e with e1 _ e3
      obtain rfl : c' = c := e3.symm
      subst e1
      obtain ⟨g, rfl, hgl, hc⟩ := hcell j (by omega)
      rw [List.getElem?_map, List.getElem?_map, List.getElem?_eq_getElem hjQ] at hc
      simp only [Option.map_some] at hc
      have hxm : Q[j] ∈ q := HN.out.mem_iff.1 (List.getElem_mem hjQ)
      have HFT := hidH (flatK_take hjQ)
      obtain ⟨x, hx⟩ : ∃ x, Q[j] = x := ⟨_, rfl⟩
      rw [hx] at hxm hc HFT
      have hlk := HLK.out wr hB x hxm
      obtain ⟨AV, cV, hv⟩ := (HVS.out x hxm).bs_sh
      obtain ⟨y0, hy0⟩ : ∃ y, x.id = y := ⟨_, rfl⟩
      obtain ⟨n0, hn0⟩ : ∃ n, x.bytes.length = n := ⟨_, rfl⟩
      rw [hn0] at hv
      rw [hv] at hlk HFT
      rw [hy0] at hc hlk HFT
      have HO := hidH ho
      have HI := hidH hi
      have HBW := hidH hB
      have HLT := hidH hlt
      have ba := bal (Below.refl wr.heap.size wr) (.cells #[.int .i64 y0, .slice AV n0 cV] 58)
      have KB := hidH (Blk.new wr 58 #[.int .i64 y0, .slice AV n0 cV])
      have HBA := hidH ba
      clear ho hi hB hlt hx hxm hv hy0 hn0 hcell ba
      go_wp2_with (at_builtin; refine wpList_append_Sec rfl _ _ rfl w.heap.size _ j _ rfl (own_below0 HO.out HBA.out) wr.heap.size _ y0 AV n0 cV rfl KB.out (by have := HLT.out; have := HQ.out; omega) (Nat.le_trans HBW.out.size HBA.out.size) ?_)
      intro v6 w6 o6 hg
      have HB6 := hidH ((HBW.out.trans (HBA.out.mono HBW.out.size)).grown hg (Nat.le_trans HBW.out.size HBA.out.size) (fun x hx => ((own_below0 HO.out HBA.out).lt x hx).1))
      have HI6 := hidH (own_other (own_below0 HI.out HBA.out) hg (own_below0 HO.out HBA.out) (by decide))
      rw [← HFT.out] at o6
      have HO6 := hidH o6
      clear o6 hg hlk hc
      go_wp2
      go_roundw
      case rel => exact ⟨j + 1, HLT.out, by go_num, HO6.out, HI6.out, HB6.out⟩
      case measure => simp [intOf]; have := HLT.out; omega
    · obtain rfl : j = q.length := by omega
      rw [List.take_of_length_le (by rw [HL.out]; exact Nat.le_refl _)] at ho
      have HO := hidH ho
      have HBW := hidH hB
      clear ho hi hB hlt hj
      go_wp2
      go_ret
      obtain rfl := HQQ.out
      refine ⟨_, rfl, own_secs (B := w.heap.size) HO.out HL.out (Nat.le_of_lt HB.out) ?_ ?_ ?_, HBW.out⟩
      · intro x hx
        have hx' := HN.out.mem_iff.1 hx
        exact ⟨(HM.out.2.1 x hx').1.below HBW.out, Nat.le_of_lt (HM.out.2.1 x hx').2⟩
      · intro g cs hg _ x hx
        exact .inr (Nat.le_trans (HM.out.2.1 x (HN.out.mem_iff.1 hx)).1.1 hg)
      · exact (List.Perm.pairwise_iff (fun h => h.symm) HN.out).2 (HM.out.2.2.imp (fun h => h.2))
theorem OwN.noS {B C : Nat} {w : World} {xs : List V} {vs : List Value} (h : OwN B C w xs vs) : OwN B C w (st_Secret [] :: xs) (.slice none 0 0 :: vs) :=
  ⟨h.1, by unfold OwA; exact ⟨fun _ _ => False, _, by unfold st_Secret Ow; exact ⟨none, 0, rfl, ⟨Nat.le_refl _, by simp⟩, .inl ⟨rfl, rfl⟩⟩, h.2, fun _ _ x => x.elim, Sub.refl _, fun _ _ x => x.elim⟩⟩
set_option maxRecDepth 100000 in
set_option maxHeartbeats 4000000 in
theorem pt_impl (r : List SecretM) (v : Value) (y : SecretM) (vs : List Value) (u : World) (h : Rd u (st_Secret r) v) (hw : WfV (st_Secret r)) (ht : tot (st_Secret r) ≤ 1048576) (h2 : RdA u y.vs vs) (hw2 : WfA y.vs) (_ : tot.totL y.vs ≤ 1048576) :
    Calls Try.prog 34 #[v, .agg vs.toArray] u (Res u (putR r y).vs) := by
  obtain ⟨A2, c2, rfl⟩ := shape_Secret h2
  obtain ⟨AA, cc2, e, ⟨hc, hcm⟩, hA⟩ := h2.tl.hd.bs_out
  injection e with e1 _ e3
  subst e1 e3
  have K1 := (Blk.new u 58 #[.int .i64 y.Id, .slice A2 y.Bytes.length c2]).alloc (.cells #[.int .i64 0, .slice none 0 0] 56)
  have R1 := Blk.new (u.alloc (.cells #[.int .i64 y.Id, .slice A2 y.Bytes.length c2] 58)) 56 #[.int .i64 0, .slice none 0 0]
  have B1 := bal (bal (Below.refl u.heap.size u) (.cells #[.int .i64 y.Id, .slice A2 y.Bytes.length c2] 58)) (.cells #[.int .i64 0, .slice none 0 0] 56)
  rw [World.size_alloc] at R1
  obtain ⟨w1, hw1⟩ : ∃ w1, (u.alloc (.cells #[.int .i64 y.Id, .slice A2 y.Bytes.length c2] 58)).alloc (.cells #[.int .i64 0, .slice none 0 0] 56) = w1 := ⟨_, rfl⟩
  have hs1 : w1.heap.size = u.heap.size + 1 + 1 := by rw [← hw1]; simp
  rw [hw1] at K1 R1 B1
  have HF := hidH (ss_impl r v w1 (Rd.below B1 _ h) hw ht)
  have HG := hidH (fun (w : World) => secretFault_any y A2 c2 w)
  have HKP := hidH (fun (w : World) (hb : Below u.heap.size u w) (h0 : ssF r = 0) => keep_any r v w (Rd.below hb _ h) h0)
  have HID := hidH (show WfV (.int y.Id) from hw2.1)
  have HPA := hidH (fun (w : World) (hb : Below u.heap.size u w) => bs_below hA hb)
  obtain ⟨PA, pc, rfl⟩ := st_Secret_sh h
  have HT := hidH (And.intro K1 (And.intro R1 B1))
  have HS := hidH hs1
  have HW := hidH hw1
  obtain ⟨F, hF⟩ : ∃ F, ssF r = F := ⟨_, rfl⟩
  obtain ⟨G, hG⟩ : ∃ G, secF y = G := ⟨_, rfl⟩
  rw [hF] at HF
  rw [hG] at HG
  clear h h2 hw ht hw2 hA hc hcm K1 R1 B1 hs1 hw1
  go_enter Try.func34, Try.ntmps34
  go_wp2_with fail
  rw [HW.out]
  refine HF.out.mono ?_
  rintro e w2 ⟨rfl, b2⟩
  have HB2 := hidH (btr HT.out.2.2 b2)
  have HK2 := hidH (HT.out.1.below b2)
  have HR2 := hidH (HT.out.2.1.below b2)
  have HZ2 := hidH b2.size
  clear HF b2
  by_cases hz : F = 0
  · have q : (F != 0) = false := by rw [bne_eq_false_iff_eq]; exact hz
    have H0 := hidH (hF.trans hz)
    have s0 := HK2.out.cell 0
    have s1 := HK2.out.cell 1
    simp only [List.getElem?_toArray, List.getElem?_cons_succ, List.getElem?_cons_zero] at s0 s1
    have hs := HK2.out.lt
    clear hz hF
    go_wp2_with fail
    refine (HG.out _).mono ?_
    rintro e w3 ⟨rfl, b3⟩
    have HB3 := hidH (btr HB2.out b3)
    have HK3 := hidH (HK2.out.below b3)
    have HR3 := hidH (HR2.out.below b3)
    have HZ3 := hidH b3.size
    clear b3 s0 s1 hs
    by_cases hz : G = 0
    · have q : (G != 0) = false := by rw [bne_eq_false_iff_eq]; exact hz
      have G0 := hidH (hG.trans hz)
      have HKE := hidH (HKP.out w3 HB3.out H0.out)
      clear hz hG HKP
      go_wp2_with fail
      refine HKE.out.mono ?_
      rintro e w4 ⟨b0, qq, rfl, hM, hq, hb0, b4⟩
      have HB4 := hidH (btr HB3.out b4)
      have HK4 := hidH (HK3.out.below b4)
      have HR4 := hidH (HR3.out.below b4)
      have HZ4 := hidH b4.size
      have HPT := hidH (put_any b0 r.length qq y.Id A2 y.Bytes c2 w4 hM (by have := (ssF_zero H0.out).1; omega) HID.out (HPA.out w4 HB4.out) (by have := (secF_zero G0.out).2.2; omega))
      have HQ := hidH hq
      have HB0 := hidH hb0
      have s0 := HK4.out.cell 0
      have s1 := HK4.out.cell 1
      simp only [List.getElem?_toArray, List.getElem?_cons_succ, List.getElem?_cons_zero] at s0 s1
      have hs := HK4.out.lt
      clear hM hq hb0 b4 HKE
      go_wp2_with fail
      refine HPT.out.mono ?_
      rintro e w5 ⟨rfl, hp⟩
      obtain ⟨vx, lo, hi, hM, hW5⟩ := hp.ex
      have HASC := hidH (secsO_asc (ssF_zero H0.out).2.2)
      have hpn : (putQ qq ⟨y.Id, vx, y.Bytes, lo, hi⟩).Pairwise (fun x y => x.id ≠ y.id) := hM.2.2.imp (fun h => h.1)
      have HINS := hidH (show (byId (putQ qq ⟨y.Id, vx, y.Bytes, lo, hi⟩)).map KE.sec = insS y r from byId_put HQ.out HASC.out hpn)
      have HLN := hidH (show (insS y r).length = (putQ qq ⟨y.Id, vx, y.Bytes, lo, hi⟩).length by
        have e := congrArg List.length HINS.out
        rw [List.length_map, (byId_perm _).length_eq] at e
        exact e.symm)
      have hgb : u.heap.size + 1 < b0 := by have := HS.out; have := HZ2.out; have := HZ3.out; have := HB0.out; omega
      have HR5 := hidH (HR4.out.win2 hW5 (.inl (by omega)))
      have HB5 := hidH (show Below u.heap.size u w5 from ⟨hW5.os.trans HB4.out.os, hW5.tape.trans HB4.out.tape, hW5.output.trans HB4.out.output, Nat.le_trans HB4.out.size hW5.size, fun j hj => (hW5.block j (Nat.lt_of_lt_of_le hj HB4.out.size) (.inl (by omega))).trans (HB4.out.block j hj)⟩)
      have HGB := hidH hgb
      obtain ⟨Q, hQ⟩ : ∃ Q, putQ qq ⟨y.Id, vx, y.Bytes, lo, hi⟩ = Q := ⟨_, rfl⟩
      rw [hQ] at hM HINS HLN
      have hM' := hM
      obtain ⟨⟨D, d1, d2, d3⟩, d4⟩ := hM'
      have hlen : ∀ ty, (Builtin.len_ #[86] ty #[.map (some b0)]).run Try.prog w5 = .ok (.int .i64 (Q.length : Int)) w5 := fun ty => by rw [← d3]; exact d1.len und_map ty
      have HMM := hidH hM
      have HWF := hidH (show ∀ x ∈ Q, WfV (.int x.id) from fun x hx => by
        have h1 : x.sec ∈ insS y r := by rw [← HINS.out]; exact List.mem_map_of_mem ((byId_perm _).mem_iff.2 hx)
        have h2 : x.sec.Id = x.id := rfl
        rcases insS_mem h1 with h3 | h3
        · rw [← h2, h3]; exact HID.out
        · have := secF_zero (secsF_all (ssF_zero H0.out).2.1 _ h3)
          show _ ∧ _
          omega)
      clear hp hM d1 d2 d3 d4 hpn hW5 hgb hQ s0 s1 hs HPT
      by_cases h4 : Q.length ≤ 4
      · have h4I : ¬ (4 : Int) < (Q.length : Int) := by omega
        have HV := hidH (show (putR r y).vs = [.int 0, st_Secret (insS y r)] by rw [putR, if_pos H0.out, if_pos G0.out, if_pos (by rw [HLN.out]; exact h4)]; rfl)
        have HL := hidH (list_any b0 _ Q w5 HMM.out (by omega) HWF.out)
        clear h4
        go_wp2_with fail
        refine HL.out.mono ?_
        rintro e w6 ⟨v6, rfl, o6, b6⟩
        rw [HINS.out] at o6
        have HO := hidH o6
        have HZ6 := hidH b6.size
        have HB6 := hidH (btr HB5.out b6)
        obtain ⟨A6, c6, rfl⟩ := st_Secret_sh o6.rd
        have R4 := HR5.out.below b6
        have x0 := R4.cell 0
        have x1 := R4.cell 1
        have f0 := R4.frozen 0
        have f1 := R4.frozen 1
        simp only [List.getElem?_toArray, List.getElem?_cons_succ, List.getElem?_cons_zero] at x0 x1
        have hr := R4.lt
        clear R4 o6 b6 HL hlen
        go_wp2
        exact bodyPost_ret (v := .agg #[.int .i64 0, .slice A6 (insS y r).length c6]) (by simp [results, Try.results34, go_sem, x0, x1]) rfl ⟨_, rfl, by
          rw [HV.out]
          refine OwN.int 0 (OwN.mono (B := b0) (C := w6.heap.size) ?_ (by have := HGB.out; omega) (by simp [World.setCell]) (Nat.le_refl _))
          iterate 2 (refine OwN.win (B' := u.heap.size + 1) (C' := u.heap.size + 1 + 1) ?_ (set_win _ _ _ _) (.inr (by have := HGB.out; omega)))
          exact OwN.cons (B := b0) (C := w6.heap.size) (D := w6.heap.size) HO.out (OwN.nil (Nat.le_refl _)) (by have := HMM.out.lt; have := HZ6.out; omega) (Nat.le_refl _), bst (bst HB6.out (Nat.le_succ _) _) (Nat.le_succ _) _⟩
      · have h4I : (4 : Int) < (Q.length : Int) := by omega
        have HV := hidH (show (putR r y).vs = [.int 7, st_Secret []] by rw [putR, if_pos H0.out, if_pos G0.out, if_neg (by rw [HLN.out]; exact h4)]; rfl)
        clear h4
        have R4 := HR5.out
        have x0 := R4.cell 0
        have x1 := R4.cell 1
        have f0 := R4.frozen 0
        have f1 := R4.frozen 1
        simp only [List.getElem?_toArray, List.getElem?_cons_succ, List.getElem?_cons_zero] at x0 x1
        have hr := R4.lt
        clear R4
        go_wp2
        exact bodyPost_ret (v := .agg #[.int .i64 7, .slice none 0 0]) (by simp [results, Try.results34, go_sem, x0, x1]) rfl ⟨_, rfl, by rw [HV.out]; exact OwN.int _ (OwN.noS (OwN.nil (Nat.le_refl _))), bst (bst HB5.out (Nat.le_succ _) _) (Nat.le_succ _) _⟩
    · have q : (G != 0) = true := by rw [bne_iff_ne]; exact hz
      have HV := hidH (show (putR r y).vs = [.int G, st_Secret []] by rw [putR, if_pos H0.out, if_neg (by rw [hG]; exact hz), hG]; rfl)
      clear hz hG
      have R4 := HR3.out
      have x0 := R4.cell 0
      have x1 := R4.cell 1
      have f0 := R4.frozen 0
      have f1 := R4.frozen 1
      simp only [List.getElem?_toArray, List.getElem?_cons_succ, List.getElem?_cons_zero] at x0 x1
      have hr := R4.lt
      clear R4
      go_wp2
      exact bodyPost_ret (v := .agg #[.int .i64 G, .slice none 0 0]) (by simp [results, Try.results34, go_sem, x0, x1]) rfl ⟨_, rfl, by rw [HV.out]; exact OwN.int _ (OwN.noS (OwN.nil (Nat.le_refl _))), bst (bst HB3.out (Nat.le_succ _) _) (Nat.le_succ _) _⟩
  · have q : (F != 0) = true := by rw [bne_iff_ne]; exact hz
    have HV := hidH (show (putR r y).vs = [.int F, st_Secret []] by rw [putR, if_neg (by rw [hF]; exact hz), hF]; rfl)
    clear hz hF
    have R4 := HR2.out
    have x0 := R4.cell 0
    have x1 := R4.cell 1
    have f0 := R4.frozen 0
    have f1 := R4.frozen 1
    simp only [List.getElem?_toArray, List.getElem?_cons_succ, List.getElem?_cons_zero] at x0 x1
    have hr := R4.lt
    clear R4
    go_wp2
    exact bodyPost_ret (v := .agg #[.int .i64 F, .slice none 0 0]) (by simp [results, Try.results34, go_sem, x0, x1]) rfl ⟨_, rfl, by rw [HV.out]; exact OwN.int _ (OwN.noS (OwN.nil (Nat.le_refl _))), bst (bst HB2.out (Nat.le_succ _) _) (Nat.le_succ _) _⟩
end Go.Proofs.Ytjjileefdjjijaa
