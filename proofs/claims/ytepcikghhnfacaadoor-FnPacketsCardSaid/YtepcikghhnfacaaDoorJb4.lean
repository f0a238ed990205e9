import Derived.Test.YtepcikghhnfacaaDoorJb3
import Derived.Test.YtepcikghhnfacaaDoorRpS
import Derived.Defers
import Derived.Recover
import Derived.Tactics2

/- The program's parsePacket. -/
namespace Go.Proofs.YtepcikghhnfacaaDoor
open Go.RowKit Go.Deep

theorem pRead_mRead : ∀ (n : Nat) (d : List Int) (cs : List Chk), d.length ≤ n → pRead d = some cs → mRead d = cs
  | 0, d, cs, hn, h => by
    rw [pRead_end (by omega)] at h
    rw [mRead_end (by omega)]
    exact Option.some.inj h
  | n + 1, d, cs, hn, h => by
    by_cases h0 : d = []
    · subst h0
      rw [pRead_end rfl] at h
      rw [mRead_end (by simp)]
      exact Option.some.inj h
    · by_cases hb : badHead d
      · rw [pRead_none h0 hb] at h; cases h
      · unfold badHead at hb
        rw [pRead_go (by omega) (by omega) (by omega)] at h
        obtain ⟨cs', h1, rfl⟩ := Option.map_eq_some_iff.1 h
        have e : (pairV d).toNat + chPad ((pairV d).toNat - 4) = ((pairV d).toNat + 3) / 4 * 4 := by unfold chPad; omega
        rw [e] at h1
        rw [mRead_go (by omega) (by omega), pRead_mRead n _ cs' (by rw [List.length_drop]; omega) h1]
theorem pkM_bytes {tag : Int} {cs : List Chk} (hb : ∀ x ∈ cs, Bytes x.body) : Bytes (pkM tag cs) := by
  unfold pkM
  split
  · next hz =>
    obtain ⟨⟨t0, t1⟩, _, ok, _⟩ := pkF_zero hz
    have hsw := sumOf_word t0 t1 ok hb
    exact rawL_bytes t0 t1 hsw.1 hsw.2 ok hb
  · intro x hx; cases hx
set_option maxRecDepth 100000 in
set_option maxHeartbeats 4000000 in
theorem parse_any (A : Option Addr) (D : List Int) (c : Nat) (w : World) (ty : TypeId) (pv : Value) (hA : Bs w A D) (hD : Bytes D) (h8 : 8 ≤ D.length) (hm : D.length ≤ 500) (hc : D.length ≤ c) (hcm : (c : Int) ≤ 9223372036854775807) (hE : w.cell? ⟨0, 0, none⟩ = some (.iface ty pv)) :
    Calls Tryd.prog 40 #[.slice A D.length c] w fun e w' => Below w.heap.size w w' ∧
      ((∃ P c', rdOk D ∧ e = .returned (.agg #[.int .i64 (atW D 0), .slice P (mRead (D.drop 8)).length c']) ∧ OCs w.heap.size w'.heap.size w' P (mRead (D.drop 8))) ∨ (¬ rdOk D ∧ e = .panicked [{ v := .iface ty pv, recovered := false }])) := by
  have hpos : 0 < w.heap.size := World.block_lt_of_cell? _ _ hE
  have K1 := Blk.new w 26 #[.int .i64 0, .slice none 0 0]
  have B1 := bal (Below.refl w.heap.size w) (.cells #[.int .i64 0, .slice none 0 0] 26)
  obtain ⟨w1, hw1⟩ : ∃ w1, w.alloc (.cells #[.int .i64 0, .slice none 0 0] 26) = w1 := ⟨_, rfl⟩
  have hs1 : w1.heap.size = w.heap.size + 1 := by rw [← hw1]; simp
  rw [hw1] at K1 B1
  have K2 := Blk.new w1 87 #[.slice A D.length c]
  have b2 := bal (Below.refl w1.heap.size w1) (.cells #[.slice A D.length c] 87)
  obtain ⟨w2, hw2⟩ : ∃ w2, w1.alloc (.cells #[.slice A D.length c] 87) = w2 := ⟨_, rfl⟩
  have hs2 : w2.heap.size = w1.heap.size + 1 := by rw [← hw2]; simp
  rw [hw2] at K2 b2
  have B2 := btr B1 b2
  have A2 := bs_below hA (B2.mono (Nat.le_refl _))
  have HRE : RE w2 w1.heap.size ty pv D := ⟨⟨A, c, K2, A2, hc, hcm, fun a e => by
      rcases hA with hA | ⟨b, off, e2, hb, _⟩
      · rw [hA] at h8; simp at h8
      · rw [e2] at e
        obtain rfl := Option.some.inj e
        show b < _
        omega⟩, (B2.cell (p := ⟨0, 0, none⟩) hpos).trans hE, by omega, hD⟩
  obtain ⟨o, ho⟩ : ∃ o, pRead (D.drop 8) = o := ⟨_, rfl⟩
  have HPK := hidH (packet_any w1.heap.size D o w2 ty pv HRE h8 (by omega) ho)
  rw [hs1] at HPK
  have HW1 := hidH hw1
  have HW2 := hidH hw2
  have HK := hidH (K1.below b2)
  have HAB := hidH (show ∀ a, A = some a → a.block < w.heap.size from fun a e => by
    rcases hA with hA | ⟨b, off, e2, hb, _⟩
    · rw [hA] at h8; simp at h8
    · rw [e2] at e
      obtain rfl := Option.some.inj e
      exact hb)
  have HB2 := hidH B2
  have HA2 := hidH A2
  have HO := hidH ho
  have HD := hidH hD
  have HS := hidH (And.intro hs1 (And.intro hs2 hpos))
  have H8 := hidH (And.intro h8 hm)
  have HE := hidH ((B2.cell (p := ⟨0, 0, none⟩) hpos).trans hE)
  have HTAG := hidH (show atW D 0 = atW D 0 from rfl)
  clear K1 B1 hw1 K2 b2 hw2 B2 A2 HRE ho hD hA hE hs1 hs2 hpos h8 hm hc hcm
  go_enter Tryd.func40, Tryd.ntmps40
  go_wp2_with fail
  rw [HW1.out, HW2.out]
  refine HPK.out.mono ?_
  rintro e w3 ⟨hw3, hres⟩
  have B3 := hidH (HB2.out.trans (((hw3.below (Nat.le_of_lt (by have := HS.out; omega))).mono (by have := HS.out; omega))))
  have HR3 := hidH (hw3.blk HK.out (.inl (by have := HS.out; omega)))
  have HA3 := hidH (bs_win HA2.out hw3 (fun b off e => by
    rcases HA2.out with hA | ⟨b', off', e2, _, _⟩
    · have := H8.out.1; rw [hA] at this; simp at this
    · exact .inl (by have := HAB.out _ e; simp at this; have := HS.out; omega)))
  have HE3 := hidH ((hw3.cell (p := ⟨0, 0, none⟩) (by show 0 < _; have := HS.out; omega) (.inl (by show 0 < _; have := HS.out; omega))).trans HE.out)
  have HSZ3 := hidH hw3.size
  clear HPK HW1 HW2 hw3 HK HB2 HA2 HE
  rcases hres with ⟨cs, P, c', ho, rfl, hOC⟩ | ⟨ho, rfl⟩
  · have hPO : pRead (D.drop 8) = some cs := HO.out.trans ho
    have hMR := pRead_mRead _ _ _ (Nat.le_refl _) hPO
    have hMO := mRead_ok _ (D.drop 8) (Nat.le_refl _) (fun x hx => HD.out x (List.mem_of_mem_drop hx))
    have hdl : (D.drop 8).length ≤ 500 := by rw [List.length_drop]; have := H8.out.2; omega
    rw [hMR] at hMO
    have HMR := hidH hMR
    have HMO := hidH hMO
    have hcl : (cs.length : Int) ≤ 500 := by have := hMO.1; omega
    have HPP := hidH (fun (tag : Int) (u : World) (h : Cs u P cs) => packPacket_impl tag P cs c' u h (by omega) (fun x hx => by have := (HMO.out.2 x hx).2; omega) (fun x hx => (HMO.out.2 x hx).1))
    unfold pkV at HPP
    have HIF := hidH (show pkM (atW D 0) cs = D → rdOk D from fun h => (pRead_ok H8.out.1 h).1)
    have HFI := hidH (show rdOk D → pkM (atW D 0) cs = D from fun h => by
      obtain ⟨h1, h2⟩ := h
      rw [HMR.out] at h1 h2
      rw [pkM, if_pos h1, h2])
    have HPB := hidH (pkM_bytes (tag := atW D 0) (fun x hx => (HMO.out.2 x hx).1))
    obtain ⟨tag, htag⟩ : ∃ tag, atW D 0 = tag := ⟨_, rfl⟩
    rw [htag] at HIF HFI HPB ⊢
    have HTA := hidH htag
    have HPP' := hidH (HPP.out tag)
    obtain ⟨M, hM⟩ : ∃ M, pkM tag cs = M := ⟨_, rfl⟩
    obtain ⟨F, hF⟩ : ∃ F, pkF tag cs = F := ⟨_, rfl⟩
    rw [hM] at HIF HFI HPB HPP'
    rw [hF] at HPP'
    have o3 := bal (Below.refl w3.heap.size w3) (.cells #[.int .i64 tag, .slice P cs.length c'] 26)
    have K4 := Blk.new w3 26 #[.int .i64 tag, .slice P cs.length c']
    have O4 := hOC.below o3
    have A4 := bs_below HA3.out o3
    have R4 := HR3.out.below o3
    have E4 := (o3.cell (p := ⟨0, 0, none⟩) (by show 0 < _; have := HS.out; have := HSZ3.out; omega)).trans HE3.out
    have B4 := btr B3.out o3
    obtain ⟨w4, hw4⟩ : ∃ w4, w3.alloc (.cells #[.int .i64 tag, .slice P cs.length c'] 26) = w4 := ⟨_, rfl⟩
    rw [hw4] at o3 K4 O4 A4 R4 E4 B4
    have HW4 := hidH hw4
    have HK4 := hidH K4
    have HS4 := hidH o3.size
    have HX4 := hidH (And.intro O4 (And.intro A4 (And.intro R4 (And.intro E4 B4))))
    clear ho hPO hMR hMO hdl hOC htag HPP hM hF o3 K4 O4 A4 R4 E4 B4 hw4 HR3 HA3 HE3 B3
    go_wp2_with fail
    rw [HW4.out]
    refine (HPP'.out w4 HX4.out.1.cs).mono ?_
    rintro e w5 ⟨A5, c5, rfl, O5, b5, _, _⟩
    have HBE := hidH (bEqual_any A5 A M D c5 c w5 O5.bs (bs_below HX4.out.2.1 b5) HPB.out HD.out)
    have K5 := hidH (HK4.out.below b5)
    have X5 := hidH (And.intro (HX4.out.1.below b5) (And.intro (HX4.out.2.2.1.below b5) (And.intro ((b5.cell (p := ⟨0, 0, none⟩) (World.block_lt_of_cell? _ _ HX4.out.2.2.2.1)).trans HX4.out.2.2.2.1) (btr HX4.out.2.2.2.2 b5))))
    have f1 := fldB7
    have HS35 := hidH (Nat.le_trans HS4.out b5.size)
    clear O5 b5 HPP' HK4 HX4 HW4
    go_wp2_with fail
    refine HBE.out.mono ?_
    rintro e w6 ⟨rfl, rfl⟩
    clear HBE
    by_cases hq : M = D
    · have hdq : decide (M = D) = true := decide_eq_true hq
      rw [hdq]
      have HOK := hidH (HIF.out hq)
      have x0 := K5.out.cell 0
      have x1 := K5.out.cell 1
      simp only [List.getElem?_toArray, List.getElem?_cons_succ, List.getElem?_cons_zero] at x0 x1
      have xlt := K5.out.lt
      obtain ⟨y0, y1, yz⟩ := X5.out.2.1.two
      have f0 := X5.out.2.1.frozen 0
      have f1 := X5.out.2.1.frozen 1
      clear hq hdq K5
      go_wp2
      have HRG := hidH (show w.heap.size + 1 ≤ w2.heap.size by have := HS.out; omega)
      have HOF := hidH (((X5.out.1.win (win_set _ w.heap.size 0 (.int .i64 tag)) (.inr (by have := HRG.out; omega))).win (win_set _ w.heap.size 1 (.slice P cs.length c')) (.inr (by have := HRG.out; omega))).mono (B' := w.heap.size) (by have := HRG.out; omega))
      exact bodyPost_ret (v := .agg #[.int .i64 tag, .slice P cs.length c']) (by simp [results, Tryd.results40, go_sem, y0, y1]) rfl ⟨bst (bst X5.out.2.2.2 (Nat.le_refl _) _) (Nat.le_refl _) _, .inl ⟨P, c', HOK.out, by rw [HMR.out, HTA.out], by rw [HMR.out]; simp only [size_set]; exact HOF.out.up HS35.out (by simp only [size_set]; exact Nat.le_refl _)⟩⟩
    · have hdq : decide (M = D) = false := decide_eq_false hq
      rw [hdq]
      have HOK := hidH (show ¬ rdOk D from fun h => hq (HFI.out h))
      have hE5 := X5.out.2.2.1
      clear hq hdq K5
      go_wp2
      exact ⟨rfl, X5.out.2.2.2, .inr ⟨HOK.out, rfl⟩⟩
  · have HNO := hidH (show ¬ rdOk D from fun h => by
      have := rdOk_pRead h
      rw [HO.out, ho] at this
      cases this)
    clear ho
    go_wp2
    exact ⟨rfl, B3.out, .inr ⟨HNO.out, rfl⟩⟩
end Go.Proofs.YtepcikghhnfacaaDoor

/- The program's ReadPacket. -/
namespace Go.Proofs.YtepcikghhnfacaaDoor
open Go.RowKit Go.Deep

def set3 (w : World) (R : Nat) (a b c : Value) : World := ((w.setCell ⟨R, 0, none⟩ a).setCell ⟨R, 1, none⟩ b).setCell ⟨R, 2, none⟩ c
set_option maxHeartbeats 1000000 in
theorem catch_panicking (R : Nat) (a b c : Value) (ty : TypeId) (pv : Value) (older : List PanicEntry) (w : World) (hK : Blk w R 33 #[a, b, c]) :
    CallsD Tryd.prog 39 #[.pointer (some ⟨R, 0, none⟩)] (.panicking ({ v := .iface ty pv, recovered := false } :: older)) w fun e u' w' =>
      e = .returned (.tuple #[]) ∧ u' = .panicking ({ v := .iface ty pv, recovered := true } :: older) ∧ w' = set3 w R (.int .i64 5) (.int .i64 0) (.slice none 0 0) := by
  obtain ⟨y0, y1, y2, yz⟩ := hK.three
  have f0 := hK.frozen 0
  have f1 := hK.frozen 1
  have f2 := hK.frozen 2
  refine callsD_of_wpS Tryd.func39 rfl fun c₀ cs hu => ?_
  apply wpS_seq
  apply wpS_region
  simp [wpOpsS, go_sem, recoverD, hu, Tryd.ntmps39, Exit.thenS]
  refine wpS_cond (t := true) (by simp [Act.eval, Array.replicate]) ?_
  simp only [if_true]
  apply wpS_region
  simp [wpOpsS, go_sem, y0, y1, y2, f0, f1, f2, bodyPostS, results, Tryd.results39, set3]
set_option maxHeartbeats 1000000 in
theorem catch_idle (p : Addr) (w : World) :
    CallsD Tryd.prog 39 #[.pointer (some p)] .returning w fun e u' w' => e = .returned (.tuple #[]) ∧ u' = .returning ∧ w' = w := by
  refine callsD_of_wpS Tryd.func39 rfl fun c₀ cs hu => ?_
  apply wpS_seq
  apply wpS_region
  simp [wpOpsS, go_sem, recoverD, hu, Tryd.ntmps39, Exit.thenS]
  refine wpS_cond (t := false) (by simp [Act.eval, Array.replicate]) ?_
  simp only [Bool.false_eq_true, if_false]
  refine wpS_of_wp (wp_skip ?_)
  cases c₀
  simp_all [bodyPostS, results, Tryd.results39]
set_option maxRecDepth 100000 in
set_option maxHeartbeats 4000000 in
theorem readPacket_impl (A : Option Addr) (D : List Int) (c : Nat) (w : World) (ty : TypeId) (pv : Value) (hA : Bs w A D) (hD : Bytes D) (hm : (D.length : Int) ≤ 9223372036854775807) (hc : D.length ≤ c) (hcm : (c : Int) ≤ 9223372036854775807) (hE : w.cell? ⟨0, 0, none⟩ = some (.iface ty pv)) :
    Calls Tryd.prog 9 #[.slice A D.length c] w (RdOwn D w) := by
  have hmf : ∀ (fn : Fn) (first cap : Array Value) (w : World), (Instr.makeFunc fn first cap).run Tryd.prog w = .ok (.func fn first cap) w := fun _ _ _ _ => rfl
  by_cases hbad : D.length < 8 ∨ 500 < D.length
  · have HR := hidH (show rdC D = 2 by rw [rdC, if_pos hbad])
    clear hA hD hE hc hcm
    rcases hbad with h | h
    · have h1 : (D.length : Int) < 8 := by omega
      clear h
      go_enter_defers Tryd.func9, Tryd.ntmps9
      go_wp2
      exact ⟨.agg #[.int .i64 2, .int .i64 0, .slice none 0 0], by simp [results, Tryd.results9, go_sem], rdOwn_no HR.out (by decide) (bal (Below.refl _ _) _)⟩
    · have h1 : (500 : Int) < (D.length : Int) := by omega
      have h8 : ¬ ((D.length : Int) < 8) := by omega
      clear h
      go_enter_defers Tryd.func9, Tryd.ntmps9
      go_wp2
      exact ⟨.agg #[.int .i64 2, .int .i64 0, .slice none 0 0], by simp [results, Tryd.results9, go_sem], rdOwn_no HR.out (by decide) (bal (Below.refl _ _) _)⟩
  · have hn8 : 8 ≤ D.length := by omega
    have hn5 : D.length ≤ 500 := by omega
    have h8I : (8 : Int) ≤ (D.length : Int) := by omega
    have h5I : (D.length : Int) ≤ 500 := by omega
    have HRC := hidH (show rdC D = (if rdSum D = atW D 4 then (if rdOk D then 0 else 5) else 9) by rw [rdC, if_neg hbad])
    have hpos : 0 < w.heap.size := World.block_lt_of_cell? _ _ hE
    have K1 := Blk.new w 33 #[.int .i64 0, .int .i64 0, .slice none 0 0]
    have B1 := bal (Below.refl w.heap.size w) (.cells #[.int .i64 0, .int .i64 0, .slice none 0 0] 33)
    have A1 := bs_below hA (bal (Below.refl _ w) (.cells #[.int .i64 0, .int .i64 0, .slice none 0 0] 33))
    have E1 := (B1.cell (p := ⟨0, 0, none⟩) hpos).trans hE
    obtain ⟨w1, hw1⟩ : ∃ w1, w.alloc (.cells #[.int .i64 0, .int .i64 0, .slice none 0 0] 33) = w1 := ⟨_, rfl⟩
    have hs1 : w1.heap.size = w.heap.size + 1 := by rw [← hw1]; simp
    rw [hw1] at K1 B1 A1 E1
    have HAT := hidH (at_impl A D c 4 w1 A1 hD hc hcm)
    have e1 : atV D 4 = atW D 4 := by rw [atV, if_pos (by omega)]; rfl
    rw [e1] at HAT
    have HPS := hidH (fun (u : World) (h : Bs u A D) => psum_any A D c u h hD hn8 (by omega))
    have HPA := hidH (fun (u : World) (h : Bs u A D) (he : u.cell? ⟨0, 0, none⟩ = some (.iface ty pv)) => parse_any A D c u ty pv h hD hn8 hn5 hc hcm he)
    have HW1 := hidH hw1
    have HX := hidH (And.intro K1 (And.intro B1 (And.intro A1 E1)))
    have HS1 := hidH (And.intro hs1 hpos)
    have HT0 := hidH (show rdT D = (if rdC D = 0 then atW D 0 else 0) from rfl)
    have HCS0 := hidH (show rdCs D = (if rdC D = 0 then mRead (D.drop 8) else []) from rfl)
    obtain ⟨S, hS⟩ : ∃ S, rdSum D = S := ⟨_, rfl⟩
    obtain ⟨T, hT⟩ : ∃ T, atW D 4 = T := ⟨_, rfl⟩
    obtain ⟨C4, hC4⟩ : ∃ C4, atC D 4 = C4 := ⟨_, rfl⟩
    rw [hS] at HPS HRC
    rw [hT] at HAT HRC
    rw [hC4] at HAT
    clear hbad hn8 hn5 hA hD hE hc hcm K1 B1 A1 E1 hw1 hs1 e1 hS hT hC4 hpos
    go_enter_defers Tryd.func9, Tryd.ntmps9
    go_wp2_with fail
    rw [HW1.out]
    refine HAT.out.mono ?_
    rintro e w2 ⟨rfl, b2⟩
    have A2 := hidH (bs_below HX.out.2.2.1 b2)
    have f1 := fldI1 C4 T
    have HP2 := hidH (HPS.out w2 A2.out)
    clear HAT HW1 HPS
    go_wp2_with fail
    refine HP2.out.mono ?_
    rintro e w3 ⟨rfl, b3⟩
    have HX3 := hidH (And.intro ((HX.out.1.below b2).below b3) (And.intro (btr (btr HX.out.2.1 b2) b3) (And.intro (bs_below A2.out b3) (((btr b2 b3).cell (p := ⟨0, 0, none⟩) (World.block_lt_of_cell? _ _ HX.out.2.2.2)).trans HX.out.2.2.2))))
    have HS3 := hidH (btr b2 b3).size
    clear HP2 HX A2 b2 b3 f1
    by_cases hne : S = T
    · have hneq : (T != S) = false := by rw [bne_eq_false_iff_eq]; exact hne.symm
      have HRC2 := hidH (show rdC D = (if rdOk D then 0 else 5) by rw [HRC.out, if_pos hne])
      have HP3 := hidH (HPA.out w3 HX3.out.2.2.1 HX3.out.2.2.2)
      clear hne HPA
      go_wp2_with fail
      refine HP3.out.mono ?_
      rintro e w4 ⟨b4, hres⟩
      have K4 := HX3.out.1.below b4
      have HB4 := hidH (btr HX3.out.2.1 b4)
      have HS4 := hidH b4.size
      clear HP3 HX3 b4
      rcases hres with ⟨P, c', hok, rfl, hOC⟩ | ⟨hno, rfl⟩
      · have hR0 : rdC D = 0 := by rw [HRC2.out, if_pos hok]
        have hT1 := HT0.out
        have hC1 := HCS0.out
        rw [if_pos hR0] at hT1 hC1
        have HR := hidH (And.intro hR0 (And.intro hT1 hC1))
        have HO := hidH hOC
        obtain ⟨cs, hcs⟩ : ∃ cs, mRead (D.drop 8) = cs := ⟨_, rfl⟩
        obtain ⟨tag, htag⟩ : ∃ tag, atW D 0 = tag := ⟨_, rfl⟩
        rw [hcs] at HR HO ⊢
        rw [htag] at HR ⊢
        obtain ⟨y0, y1, y2, yz⟩ := K4.three
        have f0 := K4.frozen 0
        have f1 := K4.frozen 1
        have f2 := K4.frozen 2
        clear hok hR0 hT1 hC1 hOC hcs htag K4
        go_wp2
        refine leaves_cons (f := 39) (args := #[.pointer (some ⟨w.heap.size, 0, none⟩)]) (by simp) (by simp [go_sem]) ?_
        refine (catch_idle ⟨w.heap.size, 0, none⟩ _).mono ?_
        rintro e u' w'' ⟨rfl, rfl, rfl⟩
        have HOF := (((HO.out.win (win_set _ w.heap.size 0 (.int .i64 0)) (.inr (by have := HS1.out.1; have := HS3.out; omega))).win (win_set _ w.heap.size 1 (.int .i64 tag)) (.inr (by have := HS1.out.1; have := HS3.out; omega))).win (win_set _ w.heap.size 2 (.slice P cs.length c')) (.inr (by have := HS1.out.1; have := HS3.out; omega))).mono (B' := w.heap.size) (by have := HS1.out.1; have := HS3.out; omega)
        exact ⟨.agg #[.int .i64 0, .int .i64 tag, .slice P cs.length c'], by simp [results, Tryd.results9, go_sem, y0, y1, y2], ⟨P, c', by rw [HR.out.1, HR.out.2.1, HR.out.2.2], by rw [HR.out.2.2]; simp only [size_set]; exact HOF, bst (bst (bst HB4.out (Nat.le_refl _) _) (Nat.le_refl _) _) (Nat.le_refl _) _⟩⟩
      · have HR := hidH (show rdC D = 5 by rw [HRC2.out, if_neg hno])
        have HK4 := hidH K4
        clear hno K4
        go_wp2
        refine leaves_cons (f := 39) (args := #[.pointer (some ⟨w.heap.size, 0, none⟩)]) (by simp) (by simp [go_sem]) ?_
        refine (catch_panicking w.heap.size _ _ _ ty pv [] w4 HK4.out).mono ?_
        rintro e u' w'' ⟨rfl, rfl, rfl⟩
        obtain ⟨y0, y1, y2, yz⟩ := HK4.out.three
        exact ⟨.agg #[.int .i64 5, .int .i64 0, .slice none 0 0], by simp [results, Tryd.results9, go_sem, set3, y0, y1, y2], rdOwn_no HR.out (by decide) (bst (bst (bst HB4.out (Nat.le_refl _) _) (Nat.le_refl _) _) (Nat.le_refl _) _)⟩
    · have hneq : (T != S) = true := by rw [bne_iff_ne]; exact fun h => hne h.symm
      have HR := hidH (show rdC D = 9 by rw [HRC.out, if_neg hne])
      obtain ⟨y0, y1, y2, yz⟩ := HX3.out.1.three
      have f0 := HX3.out.1.frozen 0
      have f1 := HX3.out.1.frozen 1
      have f2 := HX3.out.1.frozen 2
      clear hne
      go_wp2
      exact ⟨.agg #[.int .i64 9, .int .i64 0, .slice none 0 0], by simp [results, Tryd.results9, go_sem, y0, y1, y2], rdOwn_no HR.out (by decide) (bst (bst (bst HX3.out.2.1 (Nat.le_refl _) _) (Nat.le_refl _) _) (Nat.le_refl _) _)⟩
end Go.Proofs.YtepcikghhnfacaaDoor
