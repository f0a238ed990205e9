/- The drawn arguments of SameMac. -/
import Derived.Test.YtanffpmpknmldaaD5R
import Derived.Laws.OwnMore
import Derived.Deep.AppendLies
namespace Go.Proofs.Ytanffpmpknmldaa
open Go.RowKit Go.Deep

set_option maxHeartbeats 2000000 in
theorem drawSame_any (A : Option Addr) (l : List Int) (c : Nat) (w : World) (hA : Bs w A l) (hl : Bytes l) (hm : (l.length : Int) ≤ 1048576) :
    Calls Try.prog 11 #[.slice A l.length c] w (BB w) := by
  go_enter Try.func11, Try.ntmps11
  go_wp2_with fail
  refine (source_any _ _ _ _ hA hl hm).mono ?_
  rintro e w1 ⟨rfl, S1, b1⟩
  go_wp2_with fail
  have hg := S1.lt
  refine (pick_any w.heap.size A l c 0 w1.heap.size [32, 32, 32, 31, 33] _ (S1.below (bal (Below.refl _ _) _)) (by omega)
    (Ns.of_blk (t := 2) (Blk.new w1 _ _)) (by simp) (by simp) (by omega)).mono ?_
  rintro e w2 ⟨y, a2, rfl, hy, ha2, S2, W2⟩
  obtain ⟨N, rfl, hN, hN1⟩ : ∃ N : Nat, y = N ∧ N ≤ 33 ∧ 31 ≤ N := by
    simp at hy
    rcases hy with rfl | rfl | rfl
    · exact ⟨32, rfl, by omega, by omega⟩
    · exact ⟨31, rfl, by omega, by omega⟩
    · exact ⟨33, rfl, by omega, by omega⟩
  have B2 := b1.trans (((Win.of_below (bal (Below.refl _ _) _)).trans W2).below b1.size)
  have g2 := S2.lt
  clear S1 W2 b1 hy
  go_wp2_with fail
  refine (some_any N _ _ _ _ _ _ S2 (by omega) (by omega)).mono ?_
  rintro e w3 ⟨v3, a, a3, rfl, hda, hla, O3, S3, ha3, W3⟩
  obtain ⟨A3, c3, rfl, o3, hc3, hm3⟩ := own_ob O3
  have B3 := B2.trans (W3.below B2.size)
  have DA := hidH hda
  have CA := hidH (And.intro hc3 hm3)
  have LA := hidH hla
  have h23 := W3.size
  clear hc3 hm3 O3 S2 W3 B2 hda hla
  go_wp2_with fail
  have P3 := o3.bs
  refine (copy_any _ _ _ _ P3 (by have := LA.out; omega)).mono ?_
  rintro e w4 ⟨v4, rfl, O4, b4⟩
  have P4 := o3.below b4
  have S4 := S3.below b4
  have B4 := btr B3 b4
  have g3 := S3.lt
  clear S3 B3 o3 P3
  go_wp2_with fail
  refine (next_any _ _ _ _ _ _ _ S4 (by omega)).mono ?_
  rintro e w5 ⟨u, rfl, u0, u1, S5, W5, z5⟩
  have P5 := P4.win W5 (.inr (by omega))
  have O5 := own_kept O4 W5 (by omega)
  have B5 := B4.trans (W5.below B4.size)
  have hz4 := b4.size
  clear S4 W5 P4 O4 B4 b4
  obtain ⟨g, cap, rfl, hg1, hg2⟩ := O5.form (by have := LA.out; omega)
  have Q5 := own_ob O5
  obtain ⟨Ab, cb, hAb, obB, hcb, hcbm⟩ := Q5
  simp only [Value.slice.injEq, true_and] at hAb
  obtain ⟨rfl, rfl⟩ := hAb
  have ow : OwB w3.heap.size w5.heap.size g w5 a := by
    rcases obB with h | ⟨p, o, h1, h2, h3, h4, h5⟩
    · have := LA.out; rw [h] at this; simp at this; omega
    · simp only [Option.some.injEq, Addr.mk.injEq, and_true] at h1
      obtain ⟨rfl, rfl⟩ := h1
      exact ⟨h2, h3, h4, fun j hj => by have := h5 j hj; rwa [Nat.zero_add] at this⟩
  have hla := LA.out
  have HP := hidH P5
  have HB := hidH B5
  have HS := hidH S5
  have HQ := hidH (And.intro hcb hcbm)
  have HW := hidH ow
  have HO := hidH obB
  clear P5 B5 S5 hcb hcbm ow obB O5
  by_cases hu0 : u = 0
  · subst hu0
    have hgs : w.heap.size + 1 ≤ w2.heap.size := g2
    have hw23 : w2.heap.size ≤ w3.heap.size := by omega
    have hq : a3 + 1 + 1 ≤ 101 := by omega
    have HSS := hidH (show (∃ q : Nat, q + cnt false ≤ 101 ∧ Src w5.drew w.heap.size A l c q) from ⟨a3 + 1, by simp [cnt]; omega, HS.out.drewN 1⟩)
    have HWW := hidH (show ∃ b : List Int, b.length = a.length ∧ Bytes b ∧ OwB w3.heap.size w5.heap.size g w5.drew b from ⟨a, rfl, DA.out, HW.out⟩)
    have hN1 : 1 ≤ a.length := by omega
    have hN2 : a.length ≤ 100 := by omega
    clear hla hq
    go_wp2_with fail
    refine wp_region_any (by kernel_rfl) ?_
    refine regD5 _ _ _ _ _ _ _ _ _ _ _ _ _ _ _ _ _ _ w w.heap.size g a.length cap w2.heap.size w3.heap.size w5.heap.size A A3 l a c (Nat.le_refl _) hgs hw23 hN1 hN2 _ _ _ _ _ _ (by kernel_rfl) (by kernel_rfl) (by kernel_rfl) rfl (fun h => by cases h) (fun _ => HSS.out) HWW.out (HP.out.below (Below.refl _ _).drew) HB.out.drew ?_
    intros
    rename_i W h1 h2 h3
    obtain ⟨b, hbl, hbb, hob⟩ := h1
    have HR := hidH (And.intro hbb (And.intro hob.ob.bs (And.intro h2.bs h3)))
    have HBL := hidH hbl
    clear hbb hob h2 h3 hbl
    go_wp2
    go_ret2
    refine ⟨A3, c3, a, some ⟨g, 0, none⟩, cap, b, by rw [HBL.out]; rfl, HR.out.2.2.1, DA.out, HR.out.2.1, HR.out.1, CA.out.1, CA.out.2, by omega, by rw [HBL.out]; exact HQ.out.1, HQ.out.2, by rw [HBL.out]; omega, HR.out.2.2.2⟩
  · by_cases hu1 : u = 1
    · subst hu1
      have hg5 := HS.out.lt
      have HL := hidH (show a.length ≤ 1000 by omega)
      clear hla
      go_wp2_with fail
      refine (some_any 32 _ _ _ _ _ _ HS.out (by omega) (by omega)).mono ?_
      rintro e w9 ⟨v9, d9, a9, rfl, hd9, hl9, O9, S9, ha9, W9⟩
      obtain ⟨A9, c9, rfl, o9, hc9, hm9⟩ := own_ob O9
      have B9 := hidH (HB.out.trans (W9.below HB.out.size))
      have P8 := hidH ((HP.out.win W9 (.inr (by omega))).bs)
      have P9 := hidH o9.bs
      have D9 := hidH hd9
      have C9 := hidH (And.intro hc9 hm9)
      have L9 := hidH (show d9.length ≤ 1000 by omega)
      clear hl9 hd9 hc9 hm9 O9 o9 S9 W9
      go_wp2
      go_ret2
      exact ⟨A3, c3, a, A9, c9, d9, rfl, P8.out, DA.out, P9.out, D9.out, CA.out.1, CA.out.2, HL.out, C9.out.1, C9.out.2, L9.out, B9.out⟩
    · have e0 : (u == 0) = false := by rw [beq_eq_false_iff_ne]; exact hu0
      have e1 : (u == 1) = false := by rw [beq_eq_false_iff_ne]; exact hu1
      have hla2 : a.length ≤ 1000 := by omega
      have HL := hidH hla2
      clear hu0 hu1 u0 u1 hla hla2
      go_wp2
      go_ret2
      exact ⟨A3, c3, a, some ⟨g, 0, none⟩, cap, a, rfl, HP.out.bs, DA.out, HO.out.bs, DA.out, CA.out.1, CA.out.2, HL.out, HQ.out.1, HQ.out.2, HL.out, HB.out⟩
end Go.Proofs.Ytanffpmpknmldaa
