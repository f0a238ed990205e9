/- The program's ReadPacket. -/
import Derived.Test.YtepcikghhnfacaaDoorRpI
import Derived.Defers
import Derived.Recover
import Derived.Tactics2
namespace Go.Proofs.YtepcikghhnfacaaDoor
open Go.RowKit Go.Deep

def set3 (w : World) (R : Nat) (a b c : Value) : World := ((w.setCell ⟨R, 0, none⟩ a).setCell ⟨R, 1, none⟩ b).setCell ⟨R, 2, none⟩ c
set_option maxHeartbeats 1000000 in
theorem catch_panicking (R : Nat) (a b c : Value) (ty : TypeId) (pv : Value) (older : List PanicEntry) (w : World) (hK : Blk w R 33 #[a, b, c]) :
    CallsD Tryd.prog 39 #[.pointer (some ⟨R, 0, none⟩)] (.panicking ({ v := .iface ty pv, recovered := false } :: older)) w fun e u' w' =>
      e = .returned (.tuple #[]) ∧ u' = .panicking ({ v := .iface ty pv, recovered := true } :: older) ∧ w' = set3 w R (.int .i64 5) (.int .i64 0) (.slice none 0 0) := by
  obtain ⟨y0, y1, y2, yz⟩ := hK.three
  have f0 := hK.frozen 0
  have f1 := hK.frozen 1
  have f2 := hK.frozen 2
  refine callsD_of_wpS Tryd.func39 rfl fun c₀ cs hu => ?_
  apply wpS_seq
  apply wpS_region
  simp [wpOpsS, go_sem, recoverD, hu, Tryd.ntmps39, Exit.thenS]
  refine wpS_cond (t := true) (by simp [Act.eval, Array.replicate]) ?_
  simp only [if_true]
  apply wpS_region
  simp [wpOpsS, go_sem, y0, y1, y2, f0, f1, f2, bodyPostS, results, Tryd.results39, set3]
set_option maxHeartbeats 1000000 in
theorem catch_idle (p : Addr) (w : World) :
    CallsD Tryd.prog 39 #[.pointer (some p)] .returning w fun e u' w' => e = .returned (.tuple #[]) ∧ u' = .returning ∧ w' = w := by
  refine callsD_of_wpS Tryd.func39 rfl fun c₀ cs hu => ?_
  apply wpS_seq
  apply wpS_region
  simp [wpOpsS, go_sem, recoverD, hu, Tryd.ntmps39, Exit.thenS]
  refine wpS_cond (t := false) (by simp [Act.eval, Array.replicate]) ?_
  simp only [Bool.false_eq_true, if_false]
  refine wpS_of_wp (wp_skip ?_)
  cases c₀
  simp_all [bodyPostS, results, Tryd.results39]
set_option maxRecDepth 100000 in
set_option maxHeartbeats 4000000 in
theorem readPacket_impl (A : Option Addr) (D : List Int) (c : Nat) (w : World) (ty : TypeId) (pv : Value) (hA : Bs w A D) (hD : Bytes D) (hm : (D.length : Int) ≤ 9223372036854775807) (hc : D.length ≤ c) (hcm : (c : Int) ≤ 9223372036854775807) (hE : w.cell? ⟨0, 0, none⟩ = some (.iface ty pv)) :
    Calls Tryd.prog 9 #[.slice A D.length c] w (RdOwn D w) := by
  have hmf : ∀ (fn : Fn) (first cap : Array Value) (w : World), (Instr.makeFunc fn first cap).run Tryd.prog w = .ok (.func fn first cap) w := fun _ _ _ _ => rfl
  by_cases hbad : D.length < 8 ∨ 500 < D.length
  · have HR := hidH (show rdC D = 2 by rw [rdC, if_pos hbad])
    clear hA hD hE hc hcm
    rcases hbad with h | h
    · have h1 : (D.length : Int) < 8 := by omega
      clear h
      go_enter_defers Tryd.func9, Tryd.ntmps9
      go_wp2
      exact ⟨.agg #[.int .i64 2, .int .i64 0, .slice none 0 0], by simp [results, Tryd.results9, go_sem], rdOwn_no HR.out (by decide) (bal (Below.refl _ _) _)⟩
    · have h1 : (500 : Int) < (D.length : Int) := by omega
      have h8 : ¬ ((D.length : Int) < 8) := by omega
      clear h
      go_enter_defers Tryd.func9, Tryd.ntmps9
      go_wp2
      exact ⟨.agg #[.int .i64 2, .int .i64 0, .slice none 0 0], by simp [results, Tryd.results9, go_sem], rdOwn_no HR.out (by decide) (bal (Below.refl _ _) _)⟩
  · have hn8 : 8 ≤ D.length := by omega
    have hn5 : D.length ≤ 500 := by omega
    have h8I : (8 : Int) ≤ (D.length : Int) := by omega
    have h5I : (D.length : Int) ≤ 500 := by omega
    have HRC := hidH (show rdC D = (if rdSum D = atW D 4 then (if rdOk D then 0 else 5) else 9) by rw [rdC, if_neg hbad])
    have hpos : 0 < w.heap.size := World.block_lt_of_cell? _ _ hE
    have K1 := Blk.new w 33 #[.int .i64 0, .int .i64 0, .slice none 0 0]
    have B1 := bal (Below.refl w.heap.size w) (.cells #[.int .i64 0, .int .i64 0, .slice none 0 0] 33)
    have A1 := bs_below hA (bal (Below.refl _ w) (.cells #[.int .i64 0, .int .i64 0, .slice none 0 0] 33))
    have E1 := (B1.cell (p := ⟨0, 0, none⟩) hpos).trans hE
    obtain ⟨w1, hw1⟩ : ∃ w1, w.alloc (.cells #[.int .i64 0, .int .i64 0, .slice none 0 0] 33) = w1 := ⟨_, rfl⟩
    have hs1 : w1.heap.size = w.heap.size + 1 := by rw [← hw1]; simp
    rw [hw1] at K1 B1 A1 E1
    have HAT := hidH (at_impl A D c 4 w1 A1 hD hc hcm)
    have e1 : atV D 4 = atW D 4 := by rw [atV, if_pos (by omega)]; rfl
    rw [e1] at HAT
    have HPS := hidH (fun (u : World) (h : Bs u A D) => psum_any A D c u h hD hn8 (by omega))
    have HPA := hidH (fun (u : World) (h : Bs u A D) (he : u.cell? ⟨0, 0, none⟩ = some (.iface ty pv)) => parse_any A D c u ty pv h hD hn8 hn5 hc hcm he)
    have HW1 := hidH hw1
    have HX := hidH (And.intro K1 (And.intro B1 (And.intro A1 E1)))
    have HS1 := hidH (And.intro hs1 hpos)
    have HT0 := hidH (show rdT D = (if rdC D = 0 then atW D 0 else 0) from rfl)
    have HCS0 := hidH (show rdCs D = (if rdC D = 0 then mRead (D.drop 8) else []) from rfl)
    obtain ⟨S, hS⟩ : ∃ S, rdSum D = S := ⟨_, rfl⟩
    obtain ⟨T, hT⟩ : ∃ T, atW D 4 = T := ⟨_, rfl⟩
    obtain ⟨C4, hC4⟩ : ∃ C4, atC D 4 = C4 := ⟨_, rfl⟩
    rw [hS] at HPS HRC
    rw [hT] at HAT HRC
    rw [hC4] at HAT
    clear hbad hn8 hn5 hA hD hE hc hcm K1 B1 A1 E1 hw1 hs1 e1 hS hT hC4 hpos
    go_enter_defers Tryd.func9, Tryd.ntmps9
    go_wp2_with fail
    rw [HW1.out]
    refine HAT.out.mono ?_
    rintro e w2 ⟨rfl, b2⟩
    have A2 := hidH (bs_below HX.out.2.2.1 b2)
    have f1 := fldI1 C4 T
    have HP2 := hidH (HPS.out w2 A2.out)
    clear HAT HW1 HPS
    go_wp2_with fail
    refine HP2.out.mono ?_
    rintro e w3 ⟨rfl, b3⟩
    have HX3 := hidH (And.intro ((HX.out.1.below b2).below b3) (And.intro (btr (btr HX.out.2.1 b2) b3) (And.intro (bs_below A2.out b3) (((btr b2 b3).cell (p := ⟨0, 0, none⟩) (World.block_lt_of_cell? _ _ HX.out.2.2.2)).trans HX.out.2.2.2))))
    have HS3 := hidH (btr b2 b3).size
    clear HP2 HX A2 b2 b3 f1
    by_cases hne : S = T
    · have hneq : (T != S) = false := by rw [bne_eq_false_iff_eq]; exact hne.symm
      have HRC2 := hidH (show rdC D = (if rdOk D then 0 else 5) by rw [HRC.out, if_pos hne])
      have HP3 := hidH (HPA.out w3 HX3.out.2.2.1 HX3.out.2.2.2)
      clear hne HPA
      go_wp2_with fail
      refine HP3.out.mono ?_
      rintro e w4 ⟨b4, hres⟩
      have K4 := HX3.out.1.below b4
      have HB4 := hidH (btr HX3.out.2.1 b4)
      have HS4 := hidH b4.size
      clear HP3 HX3 b4
      rcases hres with ⟨P, c', hok, rfl, hOC⟩ | ⟨hno, rfl⟩
      · have hR0 : rdC D = 0 := by rw [HRC2.out, if_pos hok]
        have hT1 := HT0.out
        have hC1 := HCS0.out
        rw [if_pos hR0] at hT1 hC1
        have HR := hidH (And.intro hR0 (And.intro hT1 hC1))
        have HO := hidH hOC
        obtain ⟨cs, hcs⟩ : ∃ cs, mRead (D.drop 8) = cs := ⟨_, rfl⟩
        obtain ⟨tag, htag⟩ : ∃ tag, atW D 0 = tag := ⟨_, rfl⟩
        rw [hcs] at HR HO ⊢
        rw [htag] at HR ⊢
        obtain ⟨y0, y1, y2, yz⟩ := K4.three
        have f0 := K4.frozen 0
        have f1 := K4.frozen 1
        have f2 := K4.frozen 2
        clear hok hR0 hT1 hC1 hOC hcs htag K4
        go_wp2
        refine leaves_cons (f := 39) (args := #[.pointer (some ⟨w.heap.size, 0, none⟩)]) (by simp) (by simp [go_sem]) ?_
        refine (catch_idle ⟨w.heap.size, 0, none⟩ _).mono ?_
        rintro e u' w'' ⟨rfl, rfl, rfl⟩
        have HOF := (((HO.out.win (win_set _ w.heap.size 0 (.int .i64 0)) (.inr (by have := HS1.out.1; have := HS3.out; omega))).win (win_set _ w.heap.size 1 (.int .i64 tag)) (.inr (by have := HS1.out.1; have := HS3.out; omega))).win (win_set _ w.heap.size 2 (.slice P cs.length c')) (.inr (by have := HS1.out.1; have := HS3.out; omega))).mono (B' := w.heap.size) (by have := HS1.out.1; have := HS3.out; omega)
        exact ⟨.agg #[.int .i64 0, .int .i64 tag, .slice P cs.length c'], by simp [results, Tryd.results9, go_sem, y0, y1, y2], ⟨P, c', by rw [HR.out.1, HR.out.2.1, HR.out.2.2], by rw [HR.out.2.2]; simp only [size_set]; exact HOF, bst (bst (bst HB4.out (Nat.le_refl _) _) (Nat.le_refl _) _) (Nat.le_refl _) _⟩⟩
      · have HR := hidH (show rdC D = 5 by rw [HRC2.out, if_neg hno])
        have HK4 := hidH K4
        clear hno K4
        go_wp2
        refine leaves_cons (f := 39) (args := #[.pointer (some ⟨w.heap.size, 0, none⟩)]) (by simp) (by simp [go_sem]) ?_
        refine (catch_panicking w.heap.size _ _ _ ty pv [] w4 HK4.out).mono ?_
        rintro e u' w'' ⟨rfl, rfl, rfl⟩
        obtain ⟨y0, y1, y2, yz⟩ := HK4.out.three
        exact ⟨.agg #[.int .i64 5, .int .i64 0, .slice none 0 0], by simp [results, Tryd.results9, go_sem, set3, y0, y1, y2], rdOwn_no HR.out (by decide) (bst (bst (bst HB4.out (Nat.le_refl _) _) (Nat.le_refl _) _) (Nat.le_refl _) _)⟩
    · have hneq : (T != S) = true := by rw [bne_iff_ne]; exact fun h => hne h.symm
      have HR := hidH (show rdC D = 9 by rw [HRC.out, if_neg hne])
      obtain ⟨y0, y1, y2, yz⟩ := HX3.out.1.three
      have f0 := HX3.out.1.frozen 0
      have f1 := HX3.out.1.frozen 1
      have f2 := HX3.out.1.frozen 2
      clear hne
      go_wp2
      exact ⟨.agg #[.int .i64 9, .int .i64 0, .slice none 0 0], by simp [results, Tryd.results9, go_sem, y0, y1, y2], rdOwn_no HR.out (by decide) (bst (bst (bst HX3.out.2.1 (Nat.le_refl _) _) (Nat.le_refl _) _) (Nat.le_refl _) _)⟩
end Go.Proofs.YtepcikghhnfacaaDoor
