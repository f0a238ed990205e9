/- The program's PackChunk. -/
import Derived.Test.YtepcikghhnfacaaDoorPkI
import Derived.Test.YtepcikghhnfacaaDoorPcR
namespace Go.Proofs.YtepcikghhnfacaaDoor
open Go.RowKit Go.Deep

set_option maxHeartbeats 2000000 in
theorem packChunk_impl (k f : Int) (A : Option Addr) (b : List Int) (c : Nat) (w : World) (hA : Bs w A b) (hm : (b.length : Int) ≤ 9223372036854775807) :
    Calls Tryd.prog 28 #[ckV k f A b.length c] w (BRes w (chF k f b) (chM k f b)) := by
  have K1 := Blk.new w 49 #[.int .i64 k, .int .i64 f, .slice A b.length c]
  have B1 := bal (Below.refl w.heap.size w) (.cells #[.int .i64 k, .int .i64 f, .slice A b.length c] 49)
  have S1 := bs_below hA (bal (Below.refl _ w) (.cells #[.int .i64 k, .int .i64 f, .slice A b.length c] 49))
  obtain ⟨w1, hw1⟩ : ∃ w1, w.alloc (.cells #[.int .i64 k, .int .i64 f, .slice A b.length c] 49) = w1 := ⟨_, rfl⟩
  rw [hw1] at K1 B1 S1
  have hlt : w.heap.size < w1.heap.size := K1.lt
  have K2 := K1.alloc (.cells #[.int .i64 0, .slice none 0 0] 29)
  have B2 := bal B1 (.cells #[.int .i64 0, .slice none 0 0] 29)
  have S2 := bs_below S1 (bal (Below.refl _ w1) (.cells #[.int .i64 0, .slice none 0 0] 29))
  have R2 := Blk.new w1 29 #[.int .i64 0, .slice none 0 0]
  obtain ⟨w2, hw2⟩ : ∃ w2, w1.alloc (.cells #[.int .i64 0, .slice none 0 0] 29) = w2 := ⟨_, rfl⟩
  have hs1 : w1.heap.size = w.heap.size + 1 := by rw [← hw1]; simp
  rw [hw2, hs1] at R2
  rw [hw2] at K2 B2 S2
  have HW1 := hidH hw1
  have HW2 := hidH hw2
  have HK := hidH K2
  have HB := hidH B2
  have HS := hidH S2
  have HR := hidH R2
  have hF := hidH (fun u => chFault_impl k f A b c u hm)
  unfold ckV at hF ⊢
  have HBS := hidH hA
  clear hw1 hw2 K1 B1 S1 K2 B2 S2 R2 hA hs1 hlt
  go_enter Tryd.func28, Tryd.ntmps28
  go_wp2_with fail
  rw [HW1.out, HW2.out]
  refine (hF.out _).mono ?_
  rintro e w3 ⟨rfl, b3⟩
  have K3 := HK.out.below b3
  have B3 := hidH (btr HB.out b3)
  have S3 := bs_below HS.out b3
  have R3 := hidH (HR.out.below b3)
  clear HW1 HW2 HK HB HS HR hF b3
  by_cases hz : chF k f b = 0
  · obtain ⟨⟨hk0, hk1⟩, ⟨hf0, hf1⟩, hb⟩ := chF_zero hz
    have hM : chM k f b = chL k f b := by rw [chM, if_pos hz]
    have HZM := hidH (And.intro hz hM)
    rw [hz]
    have hbI : (b.length : Int) ≤ 160 := by omega
    have K3' := hidH K3
    have S3' := hidH S3
    have x0 := K3.cell 0
    have x1 := K3.cell 1
    have x2 := K3.cell 2
    simp only [List.getElem?_toArray, List.getElem?_cons_succ, List.getElem?_cons_zero] at x0 x1 x2
    have hlt := K3.lt
    clear hz hM K3 S3 hb
    go_wp2_with fail
    have B4 := hidH (bal B3.out (.cells #[.int .u8 k, .int .u8 f, .int .u8 ((4 + (b.length : Int)) / 256), .int .u8 (4 + (b.length : Int))] 5))
    have K4 := K3'.out.alloc (.cells #[.int .u8 k, .int .u8 f, .int .u8 ((4 + (b.length : Int)) / 256), .int .u8 (4 + (b.length : Int))] 5)
    have S4 := bs_below S3'.out (bal (Below.refl _ _) (.cells #[.int .u8 k, .int .u8 f, .int .u8 ((4 + (b.length : Int)) / 256), .int .u8 (4 + (b.length : Int))] 5))
    have R4 := R3.out.alloc (.cells #[.int .u8 k, .int .u8 f, .int .u8 ((4 + (b.length : Int)) / 256), .int .u8 (4 + (b.length : Int))] 5)
    have H4 := lit_bs w3 5 [k, f, (4 + (b.length : Int)) / 256, 4 + (b.length : Int)]
    have H4' := Blk.new w3 5 #[.int .u8 k, .int .u8 f, .int .u8 ((4 + (b.length : Int)) / 256), .int .u8 (4 + (b.length : Int))]
    have hz4 := K3'.out.lt
    have hz5 := R3.out.lt
    simp only [List.map_cons, List.map_nil, List.toArray] at H4
    obtain ⟨W4, hW4⟩ : ∃ W4, w3.alloc (.cells #[.int .u8 k, .int .u8 f, .int .u8 ((4 + (b.length : Int)) / 256), .int .u8 (4 + (b.length : Int))] 5) = W4 := ⟨_, rfl⟩
    rw [hW4] at B4 K4 S4 R4 H4 H4' ⊢
    have hs4 : W4.heap.size = w3.heap.size + 1 := by rw [← hW4]; simp
    clear hW4 x0 x1 x2 hlt
    have bd := (Below.refl W4.heap.size W4).drew
    have bdz := bd.size
    obtain ⟨p, hp⟩ : ∃ p, p = chPad b.length := ⟨_, rfl⟩
    have HP := hidH hp
    have hcat : ([[k, f, (4 + (b.length : Int)) / 256, 4 + (b.length : Int)], b, List.replicate p 0] : List (List Int)).flatten = chL k f b := by
      rw [hp]
      simp [chL]
      omega
    have hlen : (chL k f b).length ≤ 1000 := by rw [chL_len]; unfold chPad; omega
    have CON : ∀ (u : World) (q : Nat), Parts u q [[k, f, (4 + (b.length : Int)) / 256, 4 + (b.length : Int)], b, List.replicate p 0] → Calls Tryd.prog 26 #[.slice (some ⟨q, 0, none⟩) 3 3] u (OwnB u (chL k f b)) := by
      intro u q h
      rw [← hcat]
      exact concat_all q 3 _ u h (by simp) (by rw [hcat]; omega)
    have HCON := hidH CON
    have HM := hidH (PcM.mk (K4.below bd) (H4'.below bd) : PcM w.heap.size w3.heap.size k f A b c W4.drew)
    have HR4 := hidH (R4.below bd)
    have HB5 := hidH (btr B4.out bd)
    have HA := hidH (fun (u : World) (h : Below w.heap.size w u) => bs_below HBS.out h)
    obtain ⟨L, hL⟩ : ∃ L, chL k f b = L := ⟨_, rfl⟩
    rw [hL] at HCON hlen
    have HL := hidH hL
    clear hp hcat CON K4 H4' R4 B4 hL S4 H4
    have hrr : w.heap.size + 1 < W4.drew.heap.size := HR4.out.lt
    refine wp_region_any (by kernel_rfl) ?_
    refine regPc _ _ _ _ _ _ _ _ _ _ _ _ _ _ _ _ _ _ _ _ _ _ _ _ _ w w.heap.size (w.heap.size + 1) w3.heap.size k f A b c L p HP hbI HBS (by omega) (by omega) (by omega) HCON.out (by kernel_rfl) (by kernel_rfl) (by kernel_rfl) rfl ⟨fun h => h, fun h => h, fun h => h, fun h => h⟩ HM.out (fun _ => HR4.out) HB5.out (Nat.le_refl _) hrr ?_
    intros
    rename_i W hW hT
    obtain ⟨A8, c8, hR, hO, h81, h82⟩ := hT
    obtain ⟨x0, x1, xz⟩ := hR.two
    obtain ⟨A9, c9, hv, hob, _, _⟩ := own_ob hO
    simp only [Value.slice.injEq] at hv
    obtain ⟨rfl, _, rfl⟩ := hv
    have HO := hidH hob
    have HW := hidH hW
    have H8 := hidH (And.intro h81 h82)
    clear hR hO hob hW h81 h82
    go_wp2
    exact bodyPost_ret (v := .agg #[.int .i64 0, .slice A8 L.length c8]) (by simp [results, Tryd.results28, go_sem, x0, x1]) rfl (by rw [HZM.out.1, HZM.out.2, HL.out]; exact ⟨A8, c8, rfl, HO.out.mono (by omega), HW.out, H8.out.1, H8.out.2⟩)
  · have hM : chM k f b = [] := by rw [chM, if_neg hz]
    have HM := hidH hM
    have hne : (chF k f b != 0) = true := by rw [bne_iff_ne]; exact hz
    obtain ⟨F, hF⟩ : ∃ F, chF k f b = F := ⟨_, rfl⟩
    rw [hF] at hne
    have HF := hidH hF
    have R4 := R3.out
    obtain ⟨x0, x1, xz⟩ := R4.two
    have f0 := R4.frozen 0
    have f1 := R4.frozen 1
    rw [hF]
    clear R4 hz hM hF K3 S3
    go_wp2
    exact bodyPost_ret (v := .agg #[.int .i64 F, .slice none 0 0]) (by simp [results, Tryd.results28, go_sem, x0, x1]) rfl (by rw [HF.out, HM.out]; exact ⟨none, 0, rfl, .inl rfl, bst (bst B3.out (Nat.le_succ _) _) (Nat.le_succ _) _, Nat.le_refl _, by omega⟩)
end Go.Proofs.YtepcikghhnfacaaDoor
