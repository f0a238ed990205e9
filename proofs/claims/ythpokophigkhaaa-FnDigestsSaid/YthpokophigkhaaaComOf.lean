/- The program's CompressBlock. -/
import Derived.Test.YthpokophigkhaaaCbI
namespace Go.Proofs.Ythpokophigkhaaa
open Go.RowKit Go.Deep

theorem slice77 (u : World) (b : Nat) : (Instr.sliceAt 77 (.pointer (some ⟨b, 0, none⟩)) none none none).run Try.prog u = .ok (.slice (some ⟨b, 0, none⟩) 8 8) u := by
  have hal : Try.prog.arrayLen 77 = 8 := by kernel_rfl
  have hel : Try.prog.elem 77 = 65 := by kernel_rfl
  have hs : (sizeOf 65).run Try.prog u = .ok 1 u := by
    have h1 : (Try.prog.info? 65).map (·.size) = some 1 := by kernel_rfl
    cases hq : Try.prog.info? 65 with
    | none => simp [hq] at h1
    | some i => simp [hq] at h1; simp [sizeOf, typeInfo, hq, h1]
  rw [run_sliceAt_array_all u 77 ⟨b, 0, none⟩ (by rw [hal, hel]; kernel_rfl), hel, hs, hal]
  simp only [Result.andThen, slicedAt]
  rw [if_neg (by omega)]
  simp [Addr.add]
set_option maxRecDepth 100000 in
set_option maxHeartbeats 4000000 in
theorem com_impl (A B : Option Addr) (s l : List Int) (c d : Nat) (w : World) (hA : Is w A s) (hB : Bs w B l) (hl : Bytes l) :
    Calls Try.prog 31 #[.slice A s.length c, .slice B l.length d] w (IRes w (comC s l) (comM s l)) := by
  by_cases h8 : s.length = 8
  · have d8 : ((s.length : Int) != 8) = false := by rw [bne_eq_false_iff_eq]; omega
    by_cases h64 : l.length = 64
    · have d64 : ((l.length : Int) != 64) = false := by rw [bne_eq_false_iff_eq]; omega
      have H8 := hidH h8
      have H64 := hidH h64
      rcases hA with h0 | ⟨ba, offa, rfl, hba, hca⟩
      · rw [h0] at h8; simp at h8
      rcases hB with h0 | ⟨bb, off, rfl, hbb, hcb⟩
      · rw [h0] at h64; simp at h64
      have HCA := hidH hca
      have HCB := hidH hcb
      have hsl : (s.length : Int) ≤ 8 := by omega
      obtain ⟨zs, hzs⟩ : ∃ zs, U (List.replicate 8 0) = zs := ⟨_, rfl⟩
      have ez := zero77
      rw [hzs] at ez
      have HZ := hidH ez
      have HZS := hidH hzs
      clear hca hcb h8 h64 ez hzs
      go_enter Try.func31, Try.ntmps31
      go_wp2_with (refine wpList_allocRow rfl 77 rfl _ rfl zs HZ.out ?_)
      have R0 := hidH (show Urow ((w.alloc (.cells #[.int .i64 0, .slice none 0 0] 42)).alloc (.cells zs 77)) (w.heap.size + 1) 77 (partW (toW s) 0) from by
        have h := Blk.new (w.alloc (.cells #[.int .i64 0, .slice none 0 0] 42)) 77 zs
        have e : partW (toW s) 0 = List.replicate 8 0 := by simp [partW, toW, H8.out]
        simp only [World.size_alloc] at h
        rw [Urow, e, HZS.out]
        exact h)
      have T0 := hidH ((Blk.new w 42 #[.int .i64 0, .slice none 0 0]).alloc (.cells zs 77))
      have B0 := hidH (bal (bal (Below.refl w.heap.size w) (.cells #[.int .i64 0, .slice none 0 0] 42)) (.cells zs 77))
      go_loopw [20] (fun i wr => ∃ k : Nat, k ≤ 8 ∧ i = .int .i64 k ∧ allB s k = true ∧ Urow wr (w.heap.size + 1) 77 (partW (toW s) k) ∧ Blk wr w.heap.size 42 #[.int .i64 0, .slice none 0 0] ∧ Below w.heap.size w wr) (fun i _ => 8 - (intOf i).toNat)
      case atStart => exact ⟨0, by omega, rfl, rfl, R0.out, T0.out, B0.out⟩
      case round =>
        obtain ⟨k, hk, rfl, hall, hR, hT, hB⟩ := hrel
        have hP := partW_len (toW s) k (by simp [toW, H8.out]; exact hk)
        have hTL : (toW s).length = 8 := by simp [toW, H8.out]
        rw [hTL] at hP
        by_cases hlt : k < 8
        · have hk0 : (0 : Int) ≤ (k : Int) := by omega
          have hk2 : (k : Int) < (s.length : Int) := by have := H8.out; omega
          have c1 := (hB.cell (p := ⟨ba, offa + k, none⟩) hba).trans (HCA.out k (by have := H8.out; omega))
          have hsucc := hidH (allB_succ s k (by have := H8.out; omega))
          have hps := partW_succ (toW s) k (by rw [hTL]; exact hlt)
          have hgd : (toW s).getD k 0 = (s.getD k 0).toNat := by
            have : k < s.length := by have := H8.out; omega
            simp [toW, List.getD_eq_getElem?_getD, this]
          rw [hgd] at hps
          have HPS := hidH hps
          obtain ⟨x, hx⟩ : ∃ x, s.getD k 0 = x := ⟨_, rfl⟩
          rw [hx] at c1 HPS
          have HX := hidH hx
          have HALL := hidH hall
          have HTL := hidH hTL
          have HP := hidH hP
          clear hx hps hgd hall hTL hP
          rcases hwb : wB x with _ | _
          · have hf : allB s 8 = false := allB_false (k := k + 1) (by rw [hsucc.out, HX.out, hwb]; simp) (by omega)
            have e1 : comC s l = 3 := by rw [comC, if_pos ⟨H8.out, H64.out⟩, if_neg (by rw [hf]; simp)]
            have e2 : comM s l = [] := by rw [comM, if_pos ⟨H8.out, H64.out⟩, if_neg (by rw [hf]; simp)]
            obtain ⟨x0, x1, xz⟩ := hT.two
            have f0 := hT.frozen 0
            have f1 := hT.frozen 1
            have HB := hidH hB
            rw [e1, e2]
            clear hf e1 e2 hR hT hB
            go_wp2_with (go_at_call 58; refine (isWord_any _ _).mono ?_; rintro e w' ⟨rfl, rfl⟩)
            exact bodyPost_ret (v := .agg #[.int .i64 3, .slice none 0 0]) (by simp [results, Try.results31, go_sem, x0, x1]) rfl ⟨_, _, rfl, .inl rfl, bst (bst HB.out (Nat.le_refl _) _) (Nat.le_refl _) _, Nat.le_refl _, by omega⟩
          · have HA2 := hidH (show allB s (k + 1) = true by rw [hsucc.out, HX.out, hwb, HALL.out]; rfl)
            have hx1 : 0 ≤ x := by have := hwb; simp [wB, inB] at this; omega
            have hx2 : x ≤ 4294967295 := by have := hwb; simp [wB, inB] at this; omega
            have c2 := hR.cell k (by rw [HP.out]; exact hlt)
            have f2 := Blk.frozen hR k
            have HR := hidH hR
            have HT := hidH hT
            have HB := hidH hB
            clear hR hT hB
            go_wp2_with (go_at_call 58; refine (isWord_any _ _).mono ?_; rintro e w' ⟨rfl, rfl⟩)
            go_roundw
            case rel => exact ⟨k + 1, by omega, by go_num, HA2.out, by rw [← HPS.out]; have := HR.out.set k x.toNat; rwa [show ((x.toNat : Nat) : Int) = x from by omega] at this, blk_far HT.out (by simp) _, bst HB.out (Nat.le_succ _) _⟩
            case measure => simp [intOf]; omega
        · obtain rfl : k = 8 := by omega
          have e1 : comC s l = 0 := by rw [comC, if_pos ⟨H8.out, H64.out⟩, if_pos hall]
          have e2 : comM s l = ci (compN (toW s) l) := by rw [comM, if_pos ⟨H8.out, H64.out⟩, if_pos hall]
          have eP : partW (toW s) 8 = toW s := by rw [partW, hTL, Nat.sub_self, List.replicate_zero, List.append_nil, List.take_of_length_le (by omega)]
          have hst : AllW (toW s) := toW_all (by rw [H8.out]; exact hall)
          rw [eP] at hR
          obtain ⟨st, hstE⟩ : ∃ st, toW s = st := ⟨_, rfl⟩
          rw [hstE] at hR hst hTL e2
          have E1 := hidH e1
          have E2 := hidH e2
          obtain ⟨ns, hns⟩ : ∃ ns, U (compN st l) = ns := ⟨_, rfl⟩
          have hcL : (compN st l).length = 8 := by simp [compN]
          obtain ⟨cl, hcl⟩ : ∃ cl, l.map (Value.int .u8) = cl := ⟨_, rfl⟩
          have HRNG := hidH (show wr.rangeAt bb off cl from hcl ▸ bs_range (fun j hj => (hB.cell (p := ⟨bb, off + j, none⟩) hbb).trans (HCB.out j hj)))
          have hreg := fun (y0 y1 y2 y3 y4 y5 y6 y7 y9 y10 y11 y12 y13 y14 y15 y16 y17 y18 y19 y20 y21 y22 y23 y24 y25 y26 y27 y28 y29 y30 y31 y32 y33 y39 y40 y41 : Value) (Q : Exit → Act → World → Prop) h1 h5 hQ => reg31 w y0 y1 y2 y3 y4 y5 y6 y7 y9 y10 y11 y12 y13 y14 y15 y16 y17 y18 y19 y20 y21 y22 y23 y24 y25 y26 y27 y28 y29 y30 y31 y32 y33 y39 y40 y41 (U st) bb off l.length d cl zs ns Q h1 (by have := H64.out; omega) h5
            (fun w' => by have := cmp_impl st l w' hst hTL hl H64.out; rwa [hns, show Ub l = cl.toArray from by rw [← hcl]; rfl] at this) HZ.out (by rw [← hcl, List.length_map, H64.out]; kernel_rfl) (by rw [U_size, hTL]; kernel_rfl) (by rw [← hns, U_size, hcL]; kernel_rfl) (by rw [← HZS.out, ← hns, U_size, U_size, hcL]; simp) (hns ▸ U_one _) hQ
          have HREG := hidH hreg
          have HKD := hidH (show KD w (U st) bb off cl wr from ⟨hT, hR, HRNG.out, hbb, hB⟩)
          have HNS := hidH hns
          have HCL := hidH hcL
          have HST := hidH hst
          have HSL := hidH (show (compN st l).length ≤ 1000 by omega)
          clear hreg hR hT hB hP hTL hall e1 e2 eP hns hcL hcl hstE hlt hk R0 T0 B0 hst HRNG
          rw [show ((8 : Nat) : Int) = 8 from rfl]
          go_wp2
          refine wp_region_any (by kernel_rfl) ?_
          refine HREG.out ?x0 ?x1 ?x2 ?x3 ?x4 ?x5 ?x6 ?x7 ?x9 ?x10 ?x11 ?x12 ?x13 ?x14 ?x15 ?x16 ?x17 ?x18 ?x19 ?x20 ?x21 ?x22 ?x23 ?x24 ?x25 ?x26 ?x27 ?x28 ?x29 ?x30 ?x31 ?x32 ?x33 ?x39 ?x40 ?x41 _ ?h1 ?h5 ?hQ 7 false false false false false false false _ _ (by decide) ?J
          case J => exact ⟨undef, undef, undef, undef, undef, undef, 0, by rfl, HKD.out.below (Below.refl _ _).drew, (fun h => by cases h), (fun h => by cases h), (fun h => by cases h), (fun h => by cases h), (fun h => by cases h), ⟨rfl, rfl⟩⟩
          case h1 => rfl
          case h5 => rfl
          case hQ =>
            rintro a W ⟨t8, t34, t35, t36, t37, t38, g8, rfl, hK, h0, h1, h2, h3, h4, ⟨rfl, hg8, hb8⟩⟩
            have hU : Urow W g8 77 (compN st l) := by rw [Urow, HNS.out]; exact hb8
            have hcall := nums_any g8 8 77 (compN st l) W hU (compN_all st l) HSL.out
            rw [HCL.out] at hcall
            have HCALL := hidH hcall
            have X0 := hidH hK.1
            have HBW := hidH hK.2.2.2.2
            have hsl := fun u => slice77 u g8
            clear hU hcall hb8 hK h0 h1 h2 h3 h4
            dsimp only [fr31]
            go_wp2_with fail
            refine HCALL.out.mono ?_
            rintro e w3 ⟨v, rfl, o1, b1⟩
            have hlt := X0.out.lt
            have X := X0.out.below b1
            obtain ⟨q0, q1, xz⟩ := X.two
            have f0 := X.frozen 0
            have f1 := X.frozen 1
            obtain ⟨A1, cp, rfl, ob, hc1, hc2⟩ := own_oi o1
            have HB3 := hidH (btr HBW.out b1)
            have OB := hidH (ob.mono (B' := w.heap.size + 1) (by omega))
            have C1 := hidH hc1
            have C2 := hidH hc2
            clear X ob hc1 hc2 o1 b1 hlt X0 hsl HCALL
            go_wp2
            exact bodyPost_ret (v := .agg #[.int .i64 0, .slice A1 (ci (compN st l)).length cp]) (by simp [results, Try.results31, go_sem, q0, q1]) rfl (by rw [E1.out, E2.out]; exact ires_set 0 OB.out HB3.out C1.out C2.out _ _)
    · have d64 : ((l.length : Int) != 64) = true := by rw [bne_iff_ne]; omega
      rw [comC, comM, if_neg (fun h => h64 h.2), if_neg (fun h => h64 h.2)]
      clear h8 h64 hA hB
      go_enter Try.func31, Try.ntmps31
      go_wp2
      exact bodyPost_ret (v := .agg #[.int .i64 2, .slice none 0 0]) (by simp [results, Try.results31, go_sem]) rfl ⟨_, _, rfl, .inl rfl, bal (Below.refl _ _) _, Nat.le_refl _, by omega⟩
  · have d8 : ((s.length : Int) != 8) = true := by rw [bne_iff_ne]; omega
    rw [comC, comM, if_neg (fun h => h8 h.1), if_neg (fun h => h8 h.1)]
    clear h8 hA hB
    go_enter Try.func31, Try.ntmps31
    go_wp2
    exact bodyPost_ret (v := .agg #[.int .i64 2, .slice none 0 0]) (by simp [results, Try.results31, go_sem]) rfl ⟨_, _, rfl, .inl rfl, bal (Below.refl _ _) _, Nat.le_refl _, by omega⟩
end Go.Proofs.Ythpokophigkhaaa
